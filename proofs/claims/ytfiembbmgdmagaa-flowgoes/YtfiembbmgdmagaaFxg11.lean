/- Texts joined: FwH0 -/
import Derived.Test.YtfiembbmgdmagaaFxg10
namespace Go.Proofs.Ytfiembbmgdmagaa
abbrev fxg11o0 : Oper := { dst := none, op := Op.store 26 (.tmp 10) (.tmp 29), type := 0, pos := "ref.go:93", after := #[{ on := 6, ground := Ground.data }, { on := 1, ground := Ground.data }, { on := 5, ground := Ground.chain }, { on := 0, ground := Ground.phase }, { on := 1, ground := Ground.phase }, { on := 2, ground := Ground.textOnly Departure.lateStores }, { on := 3, ground := Ground.textOnly Departure.lateStores }, { on := 4, ground := Ground.textOnly Departure.lateStores }, { on := 5, ground := Ground.textOnly Departure.lateStoresUnsure }, { on := 6, ground := Ground.phase }], guard := none }
abbrev fxg11o1 : Oper := { dst := some 11, op := Op.assign (.tmp 33), type := 3, pos := "ref.go:93", after := #[{ on := 5, ground := Ground.data }, { on := 7, ground := Ground.chain }, { on := 0, ground := Ground.phase }, { on := 1, ground := Ground.phase }, { on := 2, ground := Ground.phase }, { on := 3, ground := Ground.phase }, { on := 4, ground := Ground.phase }, { on := 5, ground := Ground.phase }, { on := 6, ground := Ground.phase }, { on := 7, ground := Ground.phase }], guard := none }
abbrev fxg11o2 : Oper := { dst := some 33, op := Op.call { callee := Callee.value (.func 38), args := #[.tmp 32], argTypes := #[3] }, type := 3, pos := "ref.go:93", after := #[{ on := 4, ground := Ground.data }], guard := none }
abbrev fxg11o3 : Oper := { dst := some 10, op := Op.alloc 26, type := 0, pos := "ref.go:93", after := #[], guard := none }
end Go.Proofs.Ytfiembbmgdmagaa
namespace Go.Proofs.Ytfiembbmgdmagaa
open Go.RowKit
set_option linter.unusedVariables false
set_option linter.unusedSimpArgs false
def docGo (f : Fl) (side : Bool) (s : Sm) (now : Int) : Fl × Int :=
 if f.right && nowB now then
  (if s.w.eqB (if side then f.w.rev else f.w) then
   (if f.w.pr == 6 then (if (f.c.step (if side then 1 else 0) ⟨s.fl, s.win, s.dn, s.sq, s.ak⟩).2 == 0 then (Fl.keep ⟨f.w, (f.c.step (if side then 1 else 0) ⟨s.fl, s.win, s.dn, s.sq, s.ak⟩).1, f.ends, f.help, f.both || side⟩ now, 0) else (fl0, (f.c.step (if side then 1 else 0) ⟨s.fl, s.win, s.dn, s.sq, s.ak⟩).2))
   else if f.w.pr == 17 then (Fl.keep ⟨f.w, f.c, f.ends, f.help, f.both || side⟩ now, 0)
   else if s.ty == (if side then anT f.w.fam else quT f.w.fam) && s.co == 0 then (Fl.keep ⟨f.w, f.c, f.ends, f.help, f.both || side⟩ now, 0) else (fl0, 23)) else (fl0, 23))
 else (fl0, 1)
theorem docGo_eq (f : Fl) (side : Bool) (s : Sm) (now : Int) : docGo f side s now = f.goS side s now := by
 unfold docGo Fl.goS
 by_cases h1 : (f.right && nowB now) = true
 ·rw [if_pos h1, if_pos h1]
  have hw : (if side then f.w.rev else f.w) = f.way side := rfl
  rw [hw]
  by_cases h2 : s.w.eqB (f.way side) = true
  ·rw [if_pos h2, if_pos h2]
   have hp : s.w.pr = f.w.pr := by
    have := (Wy.eqB_iff _ _).1 h2
    rw [this]
    unfold Fl.way
    split <;> rfl
   have hr : f.w.right = true := by
    have hr := (Bool.and_eq_true _ _ ▸ h1).1
    unfold Fl.right at hr
    exact (Bool.and_eq_true _ _ ▸ hr).1
   unfold Sm.stp Sm.ec Sm.g
   rw [hp]
   cases h6 : (f.w.pr == 6)
   ·cases h17 : (f.w.pr == 17)
    ·have he := ec_q hr h6 h17
     cases side
     ·simp only [he.1, Bool.false_eq_true, if_false, Bool.false_or]
      split <;> simp
     ·simp only [he.2, Bool.false_eq_true, if_false, if_true, Bool.false_or]
      split <;> simp
    ·simp
   ·simp
  ·rw [if_neg h2, if_neg h2]
 ·rw [if_neg h1, if_neg h1]
set_option maxRecDepth 100000 in
set_option maxHeartbeats 16000000 in
theorem rgo0_d (f : Fl) (s : Sm) (now : Int) (w : World) (hok : f.w.ok) :
  Calls Try.prog 16 #[.agg f.v, .int .i64 0, .agg s.v, .int .i64 now] w fun e w' => e = .returned (.tuple #[.agg (docGo f false s now).1.v, .int .i64 (docGo f false s now).2]) ∧ Below w.heap.size w w' := by
 obtain ⟨R, hR⟩ : ∃ R, docGo f false s now = R := ⟨_, rfl⟩
 have HR : Hid (docGo f false s now = R) := hR
 rw [hR]
 clear hR
 have b := Below.refl w.heap.size w
 go_enter Try.func16, Try.ntmps16
 obtain ⟨Wm1, hWm1⟩ : ∃ W, w.alloc (.cells f.v 33) = W := ⟨_, rfl⟩
 have bm1 := bel_nw hWm1
 have Am1 := blk_nw hWm1
 have gA : w.heap.size ≤ w.heap.size := Nat.le_refl _
 obtain ⟨Wm2, hWm2⟩ : ∃ W, Wm1.alloc (.cells s.v 36) = W := ⟨_, rfl⟩
 have bm2 := bel_al bm1 hWm2
 have Am2 := Am1.al hWm2
 have Bm2 := blk_nw hWm2
 have gB : w.heap.size ≤ Wm1.heap.size := bm1.size
 have nAB : w.heap.size ≠ Wm1.heap.size := by have := Am1.lt; omega
 have nBA : Wm1.heap.size ≠ w.heap.size := fun e => nAB e.symm
 obtain ⟨Wm3, hWm3⟩ : ∃ W, Wm2.alloc (.cells #[.int .i64 0, .int .i64 0, .int .i64 0, .int .u64 0, .int .u64 0, .int .i64 0, .int .u64 0, .int .u64 0, .int .i64 0, .int .i64 0, .int .i64 0, .int .u32 0, .int .u32 0, .int .u32 0, .int .u32 0, .bool false, .bool false, .bool false, .bool false, .int .i64 0, .int .i64 0, .bool false] 33) = W := ⟨_, rfl⟩
 have bm3 := bel_al bm2 hWm3
 have Am3 := Am2.al hWm3
 have Bm3 := Bm2.al hWm3
 have Cm3 := blk_nw hWm3
 have gC : w.heap.size ≤ Wm2.heap.size := bm2.size
 have nAC : w.heap.size ≠ Wm2.heap.size := by have := Am2.lt; omega
 have nCA : Wm2.heap.size ≠ w.heap.size := fun e => nAC e.symm
 have nBC : Wm1.heap.size ≠ Wm2.heap.size := by have := Bm2.lt; omega
 have nCB : Wm2.heap.size ≠ Wm1.heap.size := fun e => nBC e.symm
 go_wp2_with (refine wpList_load_blk_w (by rfl) _ _ rfl w.heap.size (by rfl) _ Am3 Try.underlying33 (by kernel_rfl) ?_)
 refine Calls.mono (rright_fw f _ (by assumption)) ?_
 rintro e Wm4 ⟨rfl, bb⟩
 have Am4 := Am3.kept bb
 have Bm4 := Bm3.kept bb
 have Cm4 := Cm3.kept bb
 have bm4 := bel_tr bm3 bb
 clear bb
 clear Am3 Bm3 Cm3 bm3
 cases hq5 : (Fl.right f) with
 | false =>
  obtain ⟨Wm6, hWm6⟩ : ∃ W, Wm4.setRow Wm2.heap.size fl0.v = W := ⟨_, rfl⟩
  have Cm6 : Blk Wm6 Wm2.heap.size 33 fl0.v := hWm6 ▸ Cm4.set fl0.v
  have Am6 := hWm6 ▸ Am4.other nAC fl0.v
  have Bm6 := hWm6 ▸ Bm4.other nBC fl0.v
  have bm6 := hWm6 ▸ below_setRow bm4 gC fl0.v
  go_wp2_with (refine wpList_store_row rfl _ _ _ rfl Wm2.heap.size fl0.v (by rfl) (by rfl) _ _ Cm4 (by kernel_rfl) (by rfl) (by kernel_rfl) ?_; rw [hWm6])
  have hR2 : R = ((fl0 : Fl), (1 : Int)) := by rw [← HR.out]; first | rfl | (simp [docGo, Fl.keep, hq5]; done)
  subst hR2
  exact ret_cell_tmp (k := 8) (j := 9) Try.f16 (by kernel_rfl) Cm6 Try.underlying33 (by kernel_rfl) (by rfl) (by rfl) rfl ⟨rfl, bm6⟩

 | true =>
  go_wp2_with fail
  refine Calls.mono (rin_s0 _) ?_
  rintro e Wm7 ⟨rfl, bb⟩
  have Am7 := Am4.kept bb
  have Bm7 := Bm4.kept bb
  have Cm7 := Cm4.kept bb
  have bm7 := bel_tr bm4 bb
  clear bb
  clear Am4 Bm4 Cm4 bm4
  go_wp2_with fail
  refine Calls.mono (rin_now now _) ?_
  rintro e Wm8 ⟨rfl, bb⟩
  have Am8 := Am7.kept bb
  have Bm8 := Bm7.kept bb
  have Cm8 := Cm7.kept bb
  have bm8 := bel_tr bm7 bb
  clear bb
  clear Am7 Bm7 Cm7 bm7
  cases hq9 : (nowB now) with
  | false =>
   obtain ⟨Wm10, hWm10⟩ : ∃ W, Wm8.setRow Wm2.heap.size fl0.v = W := ⟨_, rfl⟩
   have Cm10 : Blk Wm10 Wm2.heap.size 33 fl0.v := hWm10 ▸ Cm8.set fl0.v
   have Am10 := hWm10 ▸ Am8.other nAC fl0.v
   have Bm10 := hWm10 ▸ Bm8.other nBC fl0.v
   have bm10 := hWm10 ▸ below_setRow bm8 gC fl0.v
   go_wp2_with (refine wpList_store_row rfl _ _ _ rfl Wm2.heap.size fl0.v (by rfl) (by rfl) _ _ Cm8 (by kernel_rfl) (by rfl) (by kernel_rfl) ?_; rw [hWm10])
   have hR2 : R = ((fl0 : Fl), (1 : Int)) := by rw [← HR.out]; first | rfl | (simp [docGo, Fl.keep, hq5, hq9]; done)
   subst hR2
   exact ret_cell_tmp (k := 8) (j := 9) Try.f16 (by kernel_rfl) Cm10 Try.underlying33 (by kernel_rfl) (by rfl) (by rfl) rfl ⟨rfl, bm10⟩

  | true =>
   go_wp2_with fail
   obtain ⟨Wdq11, hWdq11⟩ : ∃ W, Wm8.drew = W := ⟨_, rfl⟩
   have Adq11 := hWdq11 ▸ Am8.drew
   have Bdq11 := hWdq11 ▸ Bm8.drew
   have Cdq11 := hWdq11 ▸ Cm8.drew
   have bdq11 := hWdq11 ▸ bm8.drew
   refine wp_region_noPanic ?_
   refine wp_region_held_drew (S := fun w' => Blk w' w.heap.size 33 f.v ∧ Blk w' Wm1.heap.size 36 s.v ∧ Blk w' Wm2.heap.size 33 #[.int .i64 0, .int .i64 0, .int .i64 0, .int .u64 0, .int .u64 0, .int .i64 0, .int .u64 0, .int .u64 0, .int .i64 0, .int .i64 0, .int .i64 0, .int .u32 0, .int .u32 0, .int .u32 0, .int .u32 0, .bool false, .bool false, .bool false, .bool false, .int .i64 0, .int .i64 0, .bool false]) (by kernel_rfl) (by rw [hWdq11]; exact ⟨Adq11, Bdq11, Cdq11⟩) (fun hHeld => ?_)
   rw [hWdq11] at hHeld ⊢
   refine qtk (i := 0) (oi := { dst := some 28, op := Op.fieldAddr 33 (.tmp 4) 0, type := 0, pos := "ref.go:93", after := #[], guard := none }) (v := (.pointer (some ⟨w.heap.size, 0, none⟩))) hHeld ?_ ?_
   ·intro w9 hSw
    try dsimp only at hSw
    go_simp
   try simp only [qpu]
   refine qty (i := 1) (oi := { dst := some 29, op := Op.load 26 (.tmp 28), type := 26, pos := "ref.go:93", after := #[{ on := 0, ground := Ground.data }], guard := none }) (v := (.agg f.w.v)) (yieldsIf_sub_w (by kernel_rfl) _ _ rfl w.heap.size 0 _ (by rfl) _ f.w.v (fun _ hSw => hSw.1) (by rfl) Try.underlying26 (by kernel_rfl)) hHeld ?_
   try simp only [qpu]
   refine qtk (i := 2) (oi := { dst := some 30, op := Op.fieldAddr 33 (.tmp 4) 0, type := 0, pos := "ref.go:93", after := #[], guard := none }) (v := (.pointer (some ⟨w.heap.size, 0, none⟩))) hHeld ?_ ?_
   ·intro w9 hSw
    try dsimp only at hSw
    go_simp
   try simp only [qpu]
   refine qtk (i := 3) (oi := { dst := some 31, op := Op.fieldAddr 26 (.tmp 30) 0, type := 0, pos := "ref.go:93", after := #[{ on := 2, ground := Ground.data }], guard := none }) (v := (.pointer (some ⟨w.heap.size, 0, none⟩))) hHeld ?_ ?_
   ·intro w9 hSw
    try dsimp only at hSw
    go_simp
   try simp only [qpu]
   refine qtk (i := 4) (oi := { dst := some 32, op := Op.load 3 (.tmp 31), type := 3, pos := "ref.go:93", after := #[{ on := 3, ground := Ground.data }], guard := none }) (v := (.int .i64 f.w.fam)) hHeld ?_ ?_
   ·intro w9 hSw
    try dsimp only at hSw
    have hcc := hSw.1.cell 0 (.int .i64 f.w.fam) rfl
    go_simp
   try simp only [qpu]
   refine wpAnyH_ready (rs := [5, 6]) (by kernel_rfl) (by simp) ?_
   refine AllReadyH.cons (o := fxg11o2) rfl (fun K hK => ?_) (AllReadyH.cons (o := fxg11o3) rfl (fun K hK => ?_) AllReadyH.nil)
   ·go_simp
    refine Calls.mono (quest_fw f.w.fam _) ?_
    rintro e Wx12 ⟨rfl, bb⟩
    have Ax12 := Adq11.kept bb
    have Bx12 := Bdq11.kept bb
    have Cx12 := Cdq11.kept bb
    have bx12 := bel_tr bdq11 bb
    clear bb
    refine hK.out _ _ (by exact ⟨Ax12, Bx12, Cx12⟩) (fun hHeld => ?_)
    clear hK K
    try simp only [qpu]
    refine wpAnyH_ready (rs := [6]) (by kernel_rfl) (by simp) ?_
    refine AllReadyH.cons (o := fxg11o3) rfl (fun K hK => ?_) AllReadyH.nil
    go_simp
    obtain ⟨Wx1, hWx1⟩ : ∃ W, Wx12.alloc (.cells #[.int .i64 0, .int .i64 0, .int .i64 0, .int .u64 0, .int .u64 0, .int .i64 0, .int .u64 0, .int .u64 0, .int .i64 0, .int .i64 0] 26) = W := ⟨_, rfl⟩
    rw [hWx1]
    have Ax1 := Ax12.al hWx1
    have Bx1 := Bx12.al hWx1
    have Cx1 := Cx12.al hWx1
    have Yx1 := blk_nw hWx1
    have bx1 := bel_al bx12 hWx1
    have gY : w.heap.size ≤ Wx12.heap.size := bx12.size
    have nAY : w.heap.size ≠ Wx12.heap.size := by have := Ax12.lt; omega
    have nBY : Wm1.heap.size ≠ Wx12.heap.size := by have := Bx12.lt; omega
    have nCY : Wm2.heap.size ≠ Wx12.heap.size := by have := Cx12.lt; omega
    refine hK.out _ _ (by exact ⟨Ax1, Bx1, Cx1⟩) (fun hHeld => ?_)
    clear hK K
    try simp only [qpu]
    refine wpAnyH_ready (rs := [7]) (by kernel_rfl) (by simp) ?_
    refine AllReadyH.cons (o := fxg11o0) rfl (fun K hK => ?_) AllReadyH.nil
    refine step_store_blk rfl _ _ _ rfl Wx12.heap.size f.w.v _ (by rfl) (by rfl) Yx1 (by kernel_rfl) (by rfl) (by kernel_rfl) ?_
    obtain ⟨Wx2, hWx2⟩ : ∃ W, Wx1.setRow Wx12.heap.size f.w.v = W := ⟨_, rfl⟩
    rw [hWx2]
    have Ax2 := hWx2 ▸ Ax1.other nAY f.w.v
    have Bx2 := hWx2 ▸ Bx1.other nBY f.w.v
    have Cx2 := hWx2 ▸ Cx1.other nCY f.w.v
    have Yx2 : Blk Wx2 Wx12.heap.size 26 f.w.v := hWx2 ▸ Yx1.set f.w.v
    have bx2 := hWx2 ▸ below_setRow bx1 gY f.w.v
    refine hK.out _ _ (by exact ⟨Ax2, Bx2, Cx2⟩) (fun hHeld => ?_)
    clear hK K
    try simp only [qpu]
    refine qtk (i := 8) (oi := fxg11o1) (v := (.int .i64 (quT f.w.fam))) hHeld ?_ ?_
    ·intro w9 hSw
     try dsimp only at hSw
     go_simp
    try simp only [qpu]
    refine wpAnyH_done (by kernel_rfl) ?_ _
    refine NoPanic.normal ?_
    have nYA : Wx12.heap.size ≠ w.heap.size := fun e => nAY e.symm
    have nYB : Wx12.heap.size ≠ Wm1.heap.size := fun e => nBY e.symm
    have nYC : Wx12.heap.size ≠ Wm2.heap.size := fun e => nCY e.symm
    cases hq14 : (Wy.eqB s.w f.w) with
    | false =>
     have hE15 := neq_way s.w f.w
     obtain ⟨Wm16, hWm16⟩ : ∃ W, Wx2.setRow Wm2.heap.size fl0.v = W := ⟨_, rfl⟩
     have Cm16 : Blk Wm16 Wm2.heap.size 33 fl0.v := hWm16 ▸ Cx2.set fl0.v
     have Am16 := hWm16 ▸ Ax2.other nAC fl0.v
     have Bm16 := hWm16 ▸ Bx2.other nBC fl0.v
     have Ym16 := hWm16 ▸ Yx2.other nYC fl0.v
     have bm16 := hWm16 ▸ below_setRow bx2 gC fl0.v
     go_wp2_with (first | (refine wpList_load_sub_w (by rfl) _ _ rfl Wm1.heap.size 0 _ (by rfl) _ s.w.v Bx2 (by rfl) Try.underlying26 (by kernel_rfl) ?_) | (refine wpList_load_blk_w (by rfl) _ _ rfl Wx12.heap.size (by rfl) _ Yx2 Try.underlying26 (by kernel_rfl) ?_) | (refine wpList_store_row rfl _ _ _ rfl Wm2.heap.size fl0.v (by rfl) (by rfl) _ _ Cx2 (by kernel_rfl) (by rfl) (by kernel_rfl) ?_; rw [hWm16]))
     have hR2 : R = ((fl0 : Fl), (23 : Int)) := by rw [← HR.out]; first | rfl | (simp [docGo, Fl.keep, hq5, hq9, hq14]; done)
     subst hR2
     exact ret_cell_tmp (k := 8) (j := 9) Try.f16 (by kernel_rfl) Cm16 Try.underlying33 (by kernel_rfl) (by rfl) (by rfl) rfl ⟨rfl, bm16⟩
    | true =>
     cases hq19 : (f.w.pr == 6) with
     | false =>
      cases hq22 : (f.w.pr == 17) with
      | false =>
       cases hq26 : (s.ty != (quT f.w.fam)) with
       | false =>
        cases hq31 : (s.co != 0) with
        | false =>
         cases hq37 : f.both with
         | false =>
          have hE38 := neq_way s.w f.w
          have c39 := Ax2.cell 1 (.int .i64 f.w.pr) rfl
          have c40 := Bx2.cell 14 (.int .i64 s.ty) rfl
          have c41 := Bx2.cell 15 (.int .i64 s.co) rfl
          have c42 := Ax2.cell 21 (.bool f.both) rfl
          have y44 := Ax2.cell 21 (.bool f.both) rfl
          have z45 := Ax2.frozen 21
          obtain ⟨Wm43, hWm43⟩ : ∃ W, Wx2.setCell ⟨w.heap.size, 21, none⟩ (.bool false) = W := ⟨_, rfl⟩
          have Am43 : Blk Wm43 w.heap.size 33 (Fl.v ⟨f.w, f.c, f.ends, f.help, false⟩) := hWm43 ▸ Ax2.put 21 (.bool false)
          have Bm43 := hWm43 ▸ Bx2.put_other Ax2 nBA 21 (.bool false)
          have Cm43 := hWm43 ▸ Cx2.put_other Ax2 nCA 21 (.bool false)
          have Ym43 := hWm43 ▸ Yx2.put_other Ax2 nYA 21 (.bool false)
          have bm43 := hWm43 ▸ bx2.setCell (p := ⟨w.heap.size, 21, none⟩) gA (.bool false)
          go_wp2_with (first | (refine wpList_load_sub_w (by rfl) _ _ rfl Wm1.heap.size 0 _ (by rfl) _ s.w.v Bx2 (by rfl) Try.underlying26 (by kernel_rfl) ?_) | (refine wpList_load_blk_w (by rfl) _ _ rfl Wx12.heap.size (by rfl) _ Yx2 Try.underlying26 (by kernel_rfl) ?_) | (refine wpList_load_blk_w (by rfl) _ _ rfl w.heap.size (by rfl) _ Am43 Try.underlying33 (by kernel_rfl) ?_))
          clear hE38 c39 c40 c41 c42 y44 z45
          refine Calls.mono (rlife_fw (⟨f.w, f.c, f.ends, f.help, false⟩) _) ?_
          rintro e Wm46 ⟨rfl, bb⟩
          have Am46 := Am43.kept bb
          have Bm46 := Bm43.kept bb
          have Cm46 := Cm43.kept bb
          have Ym46 := Ym43.kept bb
          have bm46 := bel_tr bm43 bb
          clear bb
          have hlf := life_bd0 (⟨f.w, f.c, f.ends, f.help, false⟩)
          have hnw := now_bd (n := now) (by assumption)
          clear Am43 Bm43 Cm43 Ym43 bm43
          have y48 := Am46.cell 19 (.int .i64 f.ends) rfl
          have z49 := Am46.frozen 19
          obtain ⟨Wm47, hWm47⟩ : ∃ W, Wm46.setCell ⟨w.heap.size, 19, none⟩ (.int .i64 (now + (Fl.life (⟨f.w, f.c, f.ends, f.help, false⟩)))) = W := ⟨_, rfl⟩
          have Am47 : Blk Wm47 w.heap.size 33 (Fl.v ⟨f.w, f.c, now + (Fl.life (⟨f.w, f.c, f.ends, f.help, false⟩)), f.help, false⟩) := hWm47 ▸ Am46.put 19 (.int .i64 (now + (Fl.life (⟨f.w, f.c, f.ends, f.help, false⟩))))
          have Bm47 := hWm47 ▸ Bm46.put_other Am46 nBA 19 (.int .i64 (now + (Fl.life (⟨f.w, f.c, f.ends, f.help, false⟩))))
          have Cm47 := hWm47 ▸ Cm46.put_other Am46 nCA 19 (.int .i64 (now + (Fl.life (⟨f.w, f.c, f.ends, f.help, false⟩))))
          have Ym47 := hWm47 ▸ Ym46.put_other Am46 nYA 19 (.int .i64 (now + (Fl.life (⟨f.w, f.c, f.ends, f.help, false⟩))))
          have bm47 := hWm47 ▸ bm46.setCell (p := ⟨w.heap.size, 19, none⟩) gA (.int .i64 (now + (Fl.life (⟨f.w, f.c, f.ends, f.help, false⟩))))
          obtain ⟨Wm50, hWm50⟩ : ∃ W, Wm47.setRow Wm2.heap.size (Fl.v ⟨f.w, f.c, now + (Fl.life (⟨f.w, f.c, f.ends, f.help, false⟩)), f.help, false⟩) = W := ⟨_, rfl⟩
          have Cm50 : Blk Wm50 Wm2.heap.size 33 (Fl.v ⟨f.w, f.c, now + (Fl.life (⟨f.w, f.c, f.ends, f.help, false⟩)), f.help, false⟩) := hWm50 ▸ Cm47.set (Fl.v ⟨f.w, f.c, now + (Fl.life (⟨f.w, f.c, f.ends, f.help, false⟩)), f.help, false⟩)
          have Am50 := hWm50 ▸ Am47.other nAC (Fl.v ⟨f.w, f.c, now + (Fl.life (⟨f.w, f.c, f.ends, f.help, false⟩)), f.help, false⟩)
          have Bm50 := hWm50 ▸ Bm47.other nBC (Fl.v ⟨f.w, f.c, now + (Fl.life (⟨f.w, f.c, f.ends, f.help, false⟩)), f.help, false⟩)
          have Ym50 := hWm50 ▸ Ym47.other nYC (Fl.v ⟨f.w, f.c, now + (Fl.life (⟨f.w, f.c, f.ends, f.help, false⟩)), f.help, false⟩)
          have bm50 := hWm50 ▸ below_setRow bm47 gC (Fl.v ⟨f.w, f.c, now + (Fl.life (⟨f.w, f.c, f.ends, f.help, false⟩)), f.help, false⟩)
          go_wp2_with (first | (refine wpList_load_blk_w (by rfl) _ _ rfl w.heap.size (by rfl) _ Am47 Try.underlying33 (by kernel_rfl) ?_) | (refine wpList_store_row rfl _ _ _ rfl Wm2.heap.size (Fl.v ⟨f.w, f.c, now + (Fl.life (⟨f.w, f.c, f.ends, f.help, false⟩)), f.help, false⟩) (by rfl) (by rfl) _ _ Cm47 (by kernel_rfl) (by rfl) (by kernel_rfl) ?_; rw [hWm50]))
          have hR2 : R = ((⟨f.w, f.c, now + (Fl.life (⟨f.w, f.c, f.ends, f.help, false⟩)), f.help, false⟩ : Fl), (0 : Int)) := by rw [← HR.out]; first | rfl | (simp [docGo, Fl.keep, hq5, hq9, hq14, hq19, hq22, bne_f_fw hq26, bne_f_fw hq31, hq37]; done)
          subst hR2
          exact ret_cell_tmp (k := 8) (j := 9) Try.f16 (by kernel_rfl) Cm50 Try.underlying33 (by kernel_rfl) (by rfl) (by rfl) rfl ⟨rfl, bm50⟩
         | true =>
          have hE51 := neq_way s.w f.w
          have c52 := Ax2.cell 1 (.int .i64 f.w.pr) rfl
          have c53 := Bx2.cell 14 (.int .i64 s.ty) rfl
          have c54 := Bx2.cell 15 (.int .i64 s.co) rfl
          have c55 := Ax2.cell 21 (.bool f.both) rfl
          have y57 := Ax2.cell 21 (.bool f.both) rfl
          have z58 := Ax2.frozen 21
          obtain ⟨Wm56, hWm56⟩ : ∃ W, Wx2.setCell ⟨w.heap.size, 21, none⟩ (.bool true) = W := ⟨_, rfl⟩
          have Am56 : Blk Wm56 w.heap.size 33 (Fl.v ⟨f.w, f.c, f.ends, f.help, true⟩) := hWm56 ▸ Ax2.put 21 (.bool true)
          have Bm56 := hWm56 ▸ Bx2.put_other Ax2 nBA 21 (.bool true)
          have Cm56 := hWm56 ▸ Cx2.put_other Ax2 nCA 21 (.bool true)
          have Ym56 := hWm56 ▸ Yx2.put_other Ax2 nYA 21 (.bool true)
          have bm56 := hWm56 ▸ bx2.setCell (p := ⟨w.heap.size, 21, none⟩) gA (.bool true)
          go_wp2_with (first | (refine wpList_load_sub_w (by rfl) _ _ rfl Wm1.heap.size 0 _ (by rfl) _ s.w.v Bx2 (by rfl) Try.underlying26 (by kernel_rfl) ?_) | (refine wpList_load_blk_w (by rfl) _ _ rfl Wx12.heap.size (by rfl) _ Yx2 Try.underlying26 (by kernel_rfl) ?_) | (refine wpList_load_blk_w (by rfl) _ _ rfl w.heap.size (by rfl) _ Am56 Try.underlying33 (by kernel_rfl) ?_))
          clear hE51 c52 c53 c54 c55 y57 z58
          refine Calls.mono (rlife_fw (⟨f.w, f.c, f.ends, f.help, true⟩) _) ?_
          rintro e Wm59 ⟨rfl, bb⟩
          have Am59 := Am56.kept bb
          have Bm59 := Bm56.kept bb
          have Cm59 := Cm56.kept bb
          have Ym59 := Ym56.kept bb
          have bm59 := bel_tr bm56 bb
          clear bb
          have hlf := life_bd0 (⟨f.w, f.c, f.ends, f.help, true⟩)
          have hnw := now_bd (n := now) (by assumption)
          clear Am56 Bm56 Cm56 Ym56 bm56
          have y61 := Am59.cell 19 (.int .i64 f.ends) rfl
          have z62 := Am59.frozen 19
          obtain ⟨Wm60, hWm60⟩ : ∃ W, Wm59.setCell ⟨w.heap.size, 19, none⟩ (.int .i64 (now + (Fl.life (⟨f.w, f.c, f.ends, f.help, true⟩)))) = W := ⟨_, rfl⟩
          have Am60 : Blk Wm60 w.heap.size 33 (Fl.v ⟨f.w, f.c, now + (Fl.life (⟨f.w, f.c, f.ends, f.help, true⟩)), f.help, true⟩) := hWm60 ▸ Am59.put 19 (.int .i64 (now + (Fl.life (⟨f.w, f.c, f.ends, f.help, true⟩))))
          have Bm60 := hWm60 ▸ Bm59.put_other Am59 nBA 19 (.int .i64 (now + (Fl.life (⟨f.w, f.c, f.ends, f.help, true⟩))))
          have Cm60 := hWm60 ▸ Cm59.put_other Am59 nCA 19 (.int .i64 (now + (Fl.life (⟨f.w, f.c, f.ends, f.help, true⟩))))
          have Ym60 := hWm60 ▸ Ym59.put_other Am59 nYA 19 (.int .i64 (now + (Fl.life (⟨f.w, f.c, f.ends, f.help, true⟩))))
          have bm60 := hWm60 ▸ bm59.setCell (p := ⟨w.heap.size, 19, none⟩) gA (.int .i64 (now + (Fl.life (⟨f.w, f.c, f.ends, f.help, true⟩))))
          obtain ⟨Wm63, hWm63⟩ : ∃ W, Wm60.setRow Wm2.heap.size (Fl.v ⟨f.w, f.c, now + (Fl.life (⟨f.w, f.c, f.ends, f.help, true⟩)), f.help, true⟩) = W := ⟨_, rfl⟩
          have Cm63 : Blk Wm63 Wm2.heap.size 33 (Fl.v ⟨f.w, f.c, now + (Fl.life (⟨f.w, f.c, f.ends, f.help, true⟩)), f.help, true⟩) := hWm63 ▸ Cm60.set (Fl.v ⟨f.w, f.c, now + (Fl.life (⟨f.w, f.c, f.ends, f.help, true⟩)), f.help, true⟩)
          have Am63 := hWm63 ▸ Am60.other nAC (Fl.v ⟨f.w, f.c, now + (Fl.life (⟨f.w, f.c, f.ends, f.help, true⟩)), f.help, true⟩)
          have Bm63 := hWm63 ▸ Bm60.other nBC (Fl.v ⟨f.w, f.c, now + (Fl.life (⟨f.w, f.c, f.ends, f.help, true⟩)), f.help, true⟩)
          have Ym63 := hWm63 ▸ Ym60.other nYC (Fl.v ⟨f.w, f.c, now + (Fl.life (⟨f.w, f.c, f.ends, f.help, true⟩)), f.help, true⟩)
          have bm63 := hWm63 ▸ below_setRow bm60 gC (Fl.v ⟨f.w, f.c, now + (Fl.life (⟨f.w, f.c, f.ends, f.help, true⟩)), f.help, true⟩)
          go_wp2_with (first | (refine wpList_load_blk_w (by rfl) _ _ rfl w.heap.size (by rfl) _ Am60 Try.underlying33 (by kernel_rfl) ?_) | (refine wpList_store_row rfl _ _ _ rfl Wm2.heap.size (Fl.v ⟨f.w, f.c, now + (Fl.life (⟨f.w, f.c, f.ends, f.help, true⟩)), f.help, true⟩) (by rfl) (by rfl) _ _ Cm60 (by kernel_rfl) (by rfl) (by kernel_rfl) ?_; rw [hWm63]))
          have hR2 : R = ((⟨f.w, f.c, now + (Fl.life (⟨f.w, f.c, f.ends, f.help, true⟩)), f.help, true⟩ : Fl), (0 : Int)) := by rw [← HR.out]; first | rfl | (simp [docGo, Fl.keep, hq5, hq9, hq14, hq19, hq22, bne_f_fw hq26, bne_f_fw hq31, hq37]; done)
          subst hR2
          exact ret_cell_tmp (k := 8) (j := 9) Try.f16 (by kernel_rfl) Cm63 Try.underlying33 (by kernel_rfl) (by rfl) (by rfl) rfl ⟨rfl, bm63⟩
        | true =>
         have hE64 := neq_way s.w f.w
         have c65 := Ax2.cell 1 (.int .i64 f.w.pr) rfl
         have c66 := Bx2.cell 14 (.int .i64 s.ty) rfl
         have c67 := Bx2.cell 15 (.int .i64 s.co) rfl
         obtain ⟨Wm68, hWm68⟩ : ∃ W, Wx2.setRow Wm2.heap.size fl0.v = W := ⟨_, rfl⟩
         have Cm68 : Blk Wm68 Wm2.heap.size 33 fl0.v := hWm68 ▸ Cx2.set fl0.v
         have Am68 := hWm68 ▸ Ax2.other nAC fl0.v
         have Bm68 := hWm68 ▸ Bx2.other nBC fl0.v
         have Ym68 := hWm68 ▸ Yx2.other nYC fl0.v
         have bm68 := hWm68 ▸ below_setRow bx2 gC fl0.v
         go_wp2_with (first | (refine wpList_load_sub_w (by rfl) _ _ rfl Wm1.heap.size 0 _ (by rfl) _ s.w.v Bx2 (by rfl) Try.underlying26 (by kernel_rfl) ?_) | (refine wpList_load_blk_w (by rfl) _ _ rfl Wx12.heap.size (by rfl) _ Yx2 Try.underlying26 (by kernel_rfl) ?_) | (refine wpList_store_row rfl _ _ _ rfl Wm2.heap.size fl0.v (by rfl) (by rfl) _ _ Cx2 (by kernel_rfl) (by rfl) (by kernel_rfl) ?_; rw [hWm68]))
         have hR2 : R = ((fl0 : Fl), (23 : Int)) := by rw [← HR.out]; first | rfl | (simp [docGo, Fl.keep, hq5, hq9, hq14, hq19, hq22, bne_f_fw hq26, bne_t_fw hq31]; done)
         subst hR2
         exact ret_cell_tmp (k := 8) (j := 9) Try.f16 (by kernel_rfl) Cm68 Try.underlying33 (by kernel_rfl) (by rfl) (by rfl) rfl ⟨rfl, bm68⟩
       | true =>
        have hE69 := neq_way s.w f.w
        have c70 := Ax2.cell 1 (.int .i64 f.w.pr) rfl
        have c71 := Bx2.cell 14 (.int .i64 s.ty) rfl
        obtain ⟨Wm72, hWm72⟩ : ∃ W, Wx2.setRow Wm2.heap.size fl0.v = W := ⟨_, rfl⟩
        have Cm72 : Blk Wm72 Wm2.heap.size 33 fl0.v := hWm72 ▸ Cx2.set fl0.v
        have Am72 := hWm72 ▸ Ax2.other nAC fl0.v
        have Bm72 := hWm72 ▸ Bx2.other nBC fl0.v
        have Ym72 := hWm72 ▸ Yx2.other nYC fl0.v
        have bm72 := hWm72 ▸ below_setRow bx2 gC fl0.v
        go_wp2_with (first | (refine wpList_load_sub_w (by rfl) _ _ rfl Wm1.heap.size 0 _ (by rfl) _ s.w.v Bx2 (by rfl) Try.underlying26 (by kernel_rfl) ?_) | (refine wpList_load_blk_w (by rfl) _ _ rfl Wx12.heap.size (by rfl) _ Yx2 Try.underlying26 (by kernel_rfl) ?_) | (refine wpList_store_row rfl _ _ _ rfl Wm2.heap.size fl0.v (by rfl) (by rfl) _ _ Cx2 (by kernel_rfl) (by rfl) (by kernel_rfl) ?_; rw [hWm72]))
        have hR2 : R = ((fl0 : Fl), (23 : Int)) := by rw [← HR.out]; first | rfl | (simp [docGo, Fl.keep, hq5, hq9, hq14, hq19, hq22, bne_t_fw hq26]; done)
        subst hR2
        exact ret_cell_tmp (k := 8) (j := 9) Try.f16 (by kernel_rfl) Cm72 Try.underlying33 (by kernel_rfl) (by rfl) (by rfl) rfl ⟨rfl, bm72⟩
      | true =>
       cases hq76 : f.both with
       | false =>
        have hE77 := neq_way s.w f.w
        have c78 := Ax2.cell 1 (.int .i64 f.w.pr) rfl
        have c79 := Ax2.cell 21 (.bool f.both) rfl
        have y81 := Ax2.cell 21 (.bool f.both) rfl
        have z82 := Ax2.frozen 21
        obtain ⟨Wm80, hWm80⟩ : ∃ W, Wx2.setCell ⟨w.heap.size, 21, none⟩ (.bool false) = W := ⟨_, rfl⟩
        have Am80 : Blk Wm80 w.heap.size 33 (Fl.v ⟨f.w, f.c, f.ends, f.help, false⟩) := hWm80 ▸ Ax2.put 21 (.bool false)
        have Bm80 := hWm80 ▸ Bx2.put_other Ax2 nBA 21 (.bool false)
        have Cm80 := hWm80 ▸ Cx2.put_other Ax2 nCA 21 (.bool false)
        have Ym80 := hWm80 ▸ Yx2.put_other Ax2 nYA 21 (.bool false)
        have bm80 := hWm80 ▸ bx2.setCell (p := ⟨w.heap.size, 21, none⟩) gA (.bool false)
        go_wp2_with (first | (refine wpList_load_sub_w (by rfl) _ _ rfl Wm1.heap.size 0 _ (by rfl) _ s.w.v Bx2 (by rfl) Try.underlying26 (by kernel_rfl) ?_) | (refine wpList_load_blk_w (by rfl) _ _ rfl Wx12.heap.size (by rfl) _ Yx2 Try.underlying26 (by kernel_rfl) ?_) | (refine wpList_load_blk_w (by rfl) _ _ rfl w.heap.size (by rfl) _ Am80 Try.underlying33 (by kernel_rfl) ?_))
        clear hE77 c78 c79 y81 z82
        refine Calls.mono (rlife_fw (⟨f.w, f.c, f.ends, f.help, false⟩) _) ?_
        rintro e Wm83 ⟨rfl, bb⟩
        have Am83 := Am80.kept bb
        have Bm83 := Bm80.kept bb
        have Cm83 := Cm80.kept bb
        have Ym83 := Ym80.kept bb
        have bm83 := bel_tr bm80 bb
        clear bb
        have hlf := life_bd0 (⟨f.w, f.c, f.ends, f.help, false⟩)
        have hnw := now_bd (n := now) (by assumption)
        clear Am80 Bm80 Cm80 Ym80 bm80
        have y85 := Am83.cell 19 (.int .i64 f.ends) rfl
        have z86 := Am83.frozen 19
        obtain ⟨Wm84, hWm84⟩ : ∃ W, Wm83.setCell ⟨w.heap.size, 19, none⟩ (.int .i64 (now + (Fl.life (⟨f.w, f.c, f.ends, f.help, false⟩)))) = W := ⟨_, rfl⟩
        have Am84 : Blk Wm84 w.heap.size 33 (Fl.v ⟨f.w, f.c, now + (Fl.life (⟨f.w, f.c, f.ends, f.help, false⟩)), f.help, false⟩) := hWm84 ▸ Am83.put 19 (.int .i64 (now + (Fl.life (⟨f.w, f.c, f.ends, f.help, false⟩))))
        have Bm84 := hWm84 ▸ Bm83.put_other Am83 nBA 19 (.int .i64 (now + (Fl.life (⟨f.w, f.c, f.ends, f.help, false⟩))))
        have Cm84 := hWm84 ▸ Cm83.put_other Am83 nCA 19 (.int .i64 (now + (Fl.life (⟨f.w, f.c, f.ends, f.help, false⟩))))
        have Ym84 := hWm84 ▸ Ym83.put_other Am83 nYA 19 (.int .i64 (now + (Fl.life (⟨f.w, f.c, f.ends, f.help, false⟩))))
        have bm84 := hWm84 ▸ bm83.setCell (p := ⟨w.heap.size, 19, none⟩) gA (.int .i64 (now + (Fl.life (⟨f.w, f.c, f.ends, f.help, false⟩))))
        obtain ⟨Wm87, hWm87⟩ : ∃ W, Wm84.setRow Wm2.heap.size (Fl.v ⟨f.w, f.c, now + (Fl.life (⟨f.w, f.c, f.ends, f.help, false⟩)), f.help, false⟩) = W := ⟨_, rfl⟩
        have Cm87 : Blk Wm87 Wm2.heap.size 33 (Fl.v ⟨f.w, f.c, now + (Fl.life (⟨f.w, f.c, f.ends, f.help, false⟩)), f.help, false⟩) := hWm87 ▸ Cm84.set (Fl.v ⟨f.w, f.c, now + (Fl.life (⟨f.w, f.c, f.ends, f.help, false⟩)), f.help, false⟩)
        have Am87 := hWm87 ▸ Am84.other nAC (Fl.v ⟨f.w, f.c, now + (Fl.life (⟨f.w, f.c, f.ends, f.help, false⟩)), f.help, false⟩)
        have Bm87 := hWm87 ▸ Bm84.other nBC (Fl.v ⟨f.w, f.c, now + (Fl.life (⟨f.w, f.c, f.ends, f.help, false⟩)), f.help, false⟩)
        have Ym87 := hWm87 ▸ Ym84.other nYC (Fl.v ⟨f.w, f.c, now + (Fl.life (⟨f.w, f.c, f.ends, f.help, false⟩)), f.help, false⟩)
        have bm87 := hWm87 ▸ below_setRow bm84 gC (Fl.v ⟨f.w, f.c, now + (Fl.life (⟨f.w, f.c, f.ends, f.help, false⟩)), f.help, false⟩)
        go_wp2_with (first | (refine wpList_load_blk_w (by rfl) _ _ rfl w.heap.size (by rfl) _ Am84 Try.underlying33 (by kernel_rfl) ?_) | (refine wpList_store_row rfl _ _ _ rfl Wm2.heap.size (Fl.v ⟨f.w, f.c, now + (Fl.life (⟨f.w, f.c, f.ends, f.help, false⟩)), f.help, false⟩) (by rfl) (by rfl) _ _ Cm84 (by kernel_rfl) (by rfl) (by kernel_rfl) ?_; rw [hWm87]))
        have hR2 : R = ((⟨f.w, f.c, now + (Fl.life (⟨f.w, f.c, f.ends, f.help, false⟩)), f.help, false⟩ : Fl), (0 : Int)) := by rw [← HR.out]; first | rfl | (simp [docGo, Fl.keep, hq5, hq9, hq14, hq19, hq22, hq76]; done)
        subst hR2
        exact ret_cell_tmp (k := 8) (j := 9) Try.f16 (by kernel_rfl) Cm87 Try.underlying33 (by kernel_rfl) (by rfl) (by rfl) rfl ⟨rfl, bm87⟩
       | true =>
        have hE88 := neq_way s.w f.w
        have c89 := Ax2.cell 1 (.int .i64 f.w.pr) rfl
        have c90 := Ax2.cell 21 (.bool f.both) rfl
        have y92 := Ax2.cell 21 (.bool f.both) rfl
        have z93 := Ax2.frozen 21
        obtain ⟨Wm91, hWm91⟩ : ∃ W, Wx2.setCell ⟨w.heap.size, 21, none⟩ (.bool true) = W := ⟨_, rfl⟩
        have Am91 : Blk Wm91 w.heap.size 33 (Fl.v ⟨f.w, f.c, f.ends, f.help, true⟩) := hWm91 ▸ Ax2.put 21 (.bool true)
        have Bm91 := hWm91 ▸ Bx2.put_other Ax2 nBA 21 (.bool true)
        have Cm91 := hWm91 ▸ Cx2.put_other Ax2 nCA 21 (.bool true)
        have Ym91 := hWm91 ▸ Yx2.put_other Ax2 nYA 21 (.bool true)
        have bm91 := hWm91 ▸ bx2.setCell (p := ⟨w.heap.size, 21, none⟩) gA (.bool true)
        go_wp2_with (first | (refine wpList_load_sub_w (by rfl) _ _ rfl Wm1.heap.size 0 _ (by rfl) _ s.w.v Bx2 (by rfl) Try.underlying26 (by kernel_rfl) ?_) | (refine wpList_load_blk_w (by rfl) _ _ rfl Wx12.heap.size (by rfl) _ Yx2 Try.underlying26 (by kernel_rfl) ?_) | (refine wpList_load_blk_w (by rfl) _ _ rfl w.heap.size (by rfl) _ Am91 Try.underlying33 (by kernel_rfl) ?_))
        clear hE88 c89 c90 y92 z93
        refine Calls.mono (rlife_fw (⟨f.w, f.c, f.ends, f.help, true⟩) _) ?_
        rintro e Wm94 ⟨rfl, bb⟩
        have Am94 := Am91.kept bb
        have Bm94 := Bm91.kept bb
        have Cm94 := Cm91.kept bb
        have Ym94 := Ym91.kept bb
        have bm94 := bel_tr bm91 bb
        clear bb
        have hlf := life_bd0 (⟨f.w, f.c, f.ends, f.help, true⟩)
        have hnw := now_bd (n := now) (by assumption)
        clear Am91 Bm91 Cm91 Ym91 bm91
        have y96 := Am94.cell 19 (.int .i64 f.ends) rfl
        have z97 := Am94.frozen 19
        obtain ⟨Wm95, hWm95⟩ : ∃ W, Wm94.setCell ⟨w.heap.size, 19, none⟩ (.int .i64 (now + (Fl.life (⟨f.w, f.c, f.ends, f.help, true⟩)))) = W := ⟨_, rfl⟩
        have Am95 : Blk Wm95 w.heap.size 33 (Fl.v ⟨f.w, f.c, now + (Fl.life (⟨f.w, f.c, f.ends, f.help, true⟩)), f.help, true⟩) := hWm95 ▸ Am94.put 19 (.int .i64 (now + (Fl.life (⟨f.w, f.c, f.ends, f.help, true⟩))))
        have Bm95 := hWm95 ▸ Bm94.put_other Am94 nBA 19 (.int .i64 (now + (Fl.life (⟨f.w, f.c, f.ends, f.help, true⟩))))
        have Cm95 := hWm95 ▸ Cm94.put_other Am94 nCA 19 (.int .i64 (now + (Fl.life (⟨f.w, f.c, f.ends, f.help, true⟩))))
        have Ym95 := hWm95 ▸ Ym94.put_other Am94 nYA 19 (.int .i64 (now + (Fl.life (⟨f.w, f.c, f.ends, f.help, true⟩))))
        have bm95 := hWm95 ▸ bm94.setCell (p := ⟨w.heap.size, 19, none⟩) gA (.int .i64 (now + (Fl.life (⟨f.w, f.c, f.ends, f.help, true⟩))))
        obtain ⟨Wm98, hWm98⟩ : ∃ W, Wm95.setRow Wm2.heap.size (Fl.v ⟨f.w, f.c, now + (Fl.life (⟨f.w, f.c, f.ends, f.help, true⟩)), f.help, true⟩) = W := ⟨_, rfl⟩
        have Cm98 : Blk Wm98 Wm2.heap.size 33 (Fl.v ⟨f.w, f.c, now + (Fl.life (⟨f.w, f.c, f.ends, f.help, true⟩)), f.help, true⟩) := hWm98 ▸ Cm95.set (Fl.v ⟨f.w, f.c, now + (Fl.life (⟨f.w, f.c, f.ends, f.help, true⟩)), f.help, true⟩)
        have Am98 := hWm98 ▸ Am95.other nAC (Fl.v ⟨f.w, f.c, now + (Fl.life (⟨f.w, f.c, f.ends, f.help, true⟩)), f.help, true⟩)
        have Bm98 := hWm98 ▸ Bm95.other nBC (Fl.v ⟨f.w, f.c, now + (Fl.life (⟨f.w, f.c, f.ends, f.help, true⟩)), f.help, true⟩)
        have Ym98 := hWm98 ▸ Ym95.other nYC (Fl.v ⟨f.w, f.c, now + (Fl.life (⟨f.w, f.c, f.ends, f.help, true⟩)), f.help, true⟩)
        have bm98 := hWm98 ▸ below_setRow bm95 gC (Fl.v ⟨f.w, f.c, now + (Fl.life (⟨f.w, f.c, f.ends, f.help, true⟩)), f.help, true⟩)
        go_wp2_with (first | (refine wpList_load_blk_w (by rfl) _ _ rfl w.heap.size (by rfl) _ Am95 Try.underlying33 (by kernel_rfl) ?_) | (refine wpList_store_row rfl _ _ _ rfl Wm2.heap.size (Fl.v ⟨f.w, f.c, now + (Fl.life (⟨f.w, f.c, f.ends, f.help, true⟩)), f.help, true⟩) (by rfl) (by rfl) _ _ Cm95 (by kernel_rfl) (by rfl) (by kernel_rfl) ?_; rw [hWm98]))
        have hR2 : R = ((⟨f.w, f.c, now + (Fl.life (⟨f.w, f.c, f.ends, f.help, true⟩)), f.help, true⟩ : Fl), (0 : Int)) := by rw [← HR.out]; first | rfl | (simp [docGo, Fl.keep, hq5, hq9, hq14, hq19, hq22, hq76]; done)
        subst hR2
        exact ret_cell_tmp (k := 8) (j := 9) Try.f16 (by kernel_rfl) Cm98 Try.underlying33 (by kernel_rfl) (by rfl) (by rfl) rfl ⟨rfl, bm98⟩
     | true =>
      have hE99 := neq_way s.w f.w
      have c100 := Ax2.cell 1 (.int .i64 f.w.pr) rfl
      have c101 := Bx2.cell 10 (.int .i64 s.fl) rfl
      have c102 := Bx2.cell 13 (.int .i64 s.win) rfl
      have c103 := Bx2.cell 27 (.slice s.da s.dn s.dc) rfl
      have c104 := Bx2.cell 11 (.int .u32 s.sq) rfl
      have c105 := Bx2.cell 12 (.int .u32 s.ak) rfl
      go_wp2_with (first | (refine wpList_load_sub_w (by rfl) _ _ rfl Wm1.heap.size 0 _ (by rfl) _ s.w.v Bx2 (by rfl) Try.underlying26 (by kernel_rfl) ?_) | (refine wpList_load_blk_w (by rfl) _ _ rfl Wx12.heap.size (by rfl) _ Yx2 Try.underlying26 (by kernel_rfl) ?_) | (refine wpList_load_sub_w (by rfl) _ _ rfl w.heap.size 10 _ (by rfl) _ f.c.v Ax2 (by rfl) Try.underlying31 (by kernel_rfl) ?_))
      clear hE99 c100 c101 c102 c103 c104 c105
      refine Calls.mono (rstep_fw f.c 0 (⟨s.fl, s.win, (s.dn : Int), s.sq, s.ak⟩) _) ?_
      rintro e Wm106 ⟨rfl, bb⟩
      have Am106 := Ax2.kept bb
      have Bm106 := Bx2.kept bb
      have Cm106 := Cx2.kept bb
      have Ym106 := Yx2.kept bb
      have bm106 := bel_tr bx2 bb
      clear bb
      clear Ax2 Bx2 Cx2 Yx2 bx2
      cases hq109 : ((Cn.step f.c 0 (⟨s.fl, s.win, (s.dn : Int), s.sq, s.ak⟩)).2 != 0) with
      | false =>
       cases hq114 : f.both with
       | false =>
        obtain ⟨Wm115, hWm115⟩ : ∃ W, Wm106.alloc (.cells #[.int .i64 0, .int .u32 0, .int .u32 0, .int .u32 0, .int .u32 0, .bool false, .bool false, .bool false, .bool false] 31) = W := ⟨_, rfl⟩
        have bm115 := bel_al bm106 hWm115
        have Am115 := Am106.al hWm115
        have Bm115 := Bm106.al hWm115
        have Cm115 := Cm106.al hWm115
        have Ym115 := Ym106.al hWm115
        have Dm115 := blk_nw hWm115
        have gD : w.heap.size ≤ Wm106.heap.size := bm106.size
        have nAD : w.heap.size ≠ Wm106.heap.size := by have := Am106.lt; omega
        have nDA : Wm106.heap.size ≠ w.heap.size := fun e => nAD e.symm
        have nBD : Wm1.heap.size ≠ Wm106.heap.size := by have := Bm106.lt; omega
        have nDB : Wm106.heap.size ≠ Wm1.heap.size := fun e => nBD e.symm
        have nCD : Wm2.heap.size ≠ Wm106.heap.size := by have := Cm106.lt; omega
        have nDC : Wm106.heap.size ≠ Wm2.heap.size := fun e => nCD e.symm
        have nYD : Wx12.heap.size ≠ Wm106.heap.size := by have := Ym106.lt; omega
        have nDY : Wm106.heap.size ≠ Wx12.heap.size := fun e => nYD e.symm
        obtain ⟨Wm116, hWm116⟩ : ∃ W, Wm115.setRow Wm106.heap.size (Cn.step f.c 0 (⟨s.fl, s.win, (s.dn : Int), s.sq, s.ak⟩)).1.v = W := ⟨_, rfl⟩
        have Dm116 : Blk Wm116 Wm106.heap.size 31 (Cn.step f.c 0 (⟨s.fl, s.win, (s.dn : Int), s.sq, s.ak⟩)).1.v := hWm116 ▸ Dm115.set (Cn.step f.c 0 (⟨s.fl, s.win, (s.dn : Int), s.sq, s.ak⟩)).1.v
        have Am116 := hWm116 ▸ Am115.other nAD (Cn.step f.c 0 (⟨s.fl, s.win, (s.dn : Int), s.sq, s.ak⟩)).1.v
        have Bm116 := hWm116 ▸ Bm115.other nBD (Cn.step f.c 0 (⟨s.fl, s.win, (s.dn : Int), s.sq, s.ak⟩)).1.v
        have Cm116 := hWm116 ▸ Cm115.other nCD (Cn.step f.c 0 (⟨s.fl, s.win, (s.dn : Int), s.sq, s.ak⟩)).1.v
        have Ym116 := hWm116 ▸ Ym115.other nYD (Cn.step f.c 0 (⟨s.fl, s.win, (s.dn : Int), s.sq, s.ak⟩)).1.v
        have bm116 := hWm116 ▸ below_setRow bm115 gD (Cn.step f.c 0 (⟨s.fl, s.win, (s.dn : Int), s.sq, s.ak⟩)).1.v
        obtain ⟨Wm117, hWm117⟩ : ∃ W, Wm116.setRow w.heap.size (Fl.v ⟨f.w, (Cn.step f.c 0 (⟨s.fl, s.win, (s.dn : Int), s.sq, s.ak⟩)).1, f.ends, f.help, f.both⟩) = W := ⟨_, rfl⟩
        have Am117 : Blk Wm117 w.heap.size 33 (Fl.v ⟨f.w, (Cn.step f.c 0 (⟨s.fl, s.win, (s.dn : Int), s.sq, s.ak⟩)).1, f.ends, f.help, f.both⟩) := hWm117 ▸ Am116.set (Fl.v ⟨f.w, (Cn.step f.c 0 (⟨s.fl, s.win, (s.dn : Int), s.sq, s.ak⟩)).1, f.ends, f.help, f.both⟩)
        have Bm117 := hWm117 ▸ Bm116.other nBA (Fl.v ⟨f.w, (Cn.step f.c 0 (⟨s.fl, s.win, (s.dn : Int), s.sq, s.ak⟩)).1, f.ends, f.help, f.both⟩)
        have Cm117 := hWm117 ▸ Cm116.other nCA (Fl.v ⟨f.w, (Cn.step f.c 0 (⟨s.fl, s.win, (s.dn : Int), s.sq, s.ak⟩)).1, f.ends, f.help, f.both⟩)
        have Ym117 := hWm117 ▸ Ym116.other nYA (Fl.v ⟨f.w, (Cn.step f.c 0 (⟨s.fl, s.win, (s.dn : Int), s.sq, s.ak⟩)).1, f.ends, f.help, f.both⟩)
        have Dm117 := hWm117 ▸ Dm116.other nDA (Fl.v ⟨f.w, (Cn.step f.c 0 (⟨s.fl, s.win, (s.dn : Int), s.sq, s.ak⟩)).1, f.ends, f.help, f.both⟩)
        have bm117 := hWm117 ▸ below_setRow bm116 gA (Fl.v ⟨f.w, (Cn.step f.c 0 (⟨s.fl, s.win, (s.dn : Int), s.sq, s.ak⟩)).1, f.ends, f.help, f.both⟩)
        have c118 := Am117.cell 21 (.bool f.both) rfl
        have y120 := Am117.cell 21 (.bool f.both) rfl
        have z121 := Am117.frozen 21
        obtain ⟨Wm119, hWm119⟩ : ∃ W, Wm117.setCell ⟨w.heap.size, 21, none⟩ (.bool false) = W := ⟨_, rfl⟩
        have Am119 : Blk Wm119 w.heap.size 33 (Fl.v ⟨f.w, (Cn.step f.c 0 (⟨s.fl, s.win, (s.dn : Int), s.sq, s.ak⟩)).1, f.ends, f.help, false⟩) := hWm119 ▸ Am117.put 21 (.bool false)
        have Bm119 := hWm119 ▸ Bm117.put_other Am117 nBA 21 (.bool false)
        have Cm119 := hWm119 ▸ Cm117.put_other Am117 nCA 21 (.bool false)
        have Ym119 := hWm119 ▸ Ym117.put_other Am117 nYA 21 (.bool false)
        have Dm119 := hWm119 ▸ Dm117.put_other Am117 nDA 21 (.bool false)
        have bm119 := hWm119 ▸ bm117.setCell (p := ⟨w.heap.size, 21, none⟩) gA (.bool false)
        go_wp2_with (first | (refine wpList_store_row rfl _ _ _ rfl Wm106.heap.size (Cn.step f.c 0 (⟨s.fl, s.win, (s.dn : Int), s.sq, s.ak⟩)).1.v (by rfl) (by rfl) _ _ Dm115 (by kernel_rfl) (by rfl) (by kernel_rfl) ?_; rw [hWm116]) | (refine wpList_load_blk_w (by rfl) _ _ rfl Wm106.heap.size (by rfl) _ Dm116 Try.underlying31 (by kernel_rfl) ?_) | (refine wpList_store_off rfl _ _ _ rfl w.heap.size 10 _ (Cn.step f.c 0 (⟨s.fl, s.win, (s.dn : Int), s.sq, s.ak⟩)).1.v _ (Fl.v ⟨f.w, (Cn.step f.c 0 (⟨s.fl, s.win, (s.dn : Int), s.sq, s.ak⟩)).1, f.ends, f.help, f.both⟩) (by rfl) (by rfl) Am116 (by kernel_rfl) (Nat.le_of_ble_eq_true (by kernel_rfl)) (by kernel_rfl) (setConn_fw f (Cn.step f.c 0 (⟨s.fl, s.win, (s.dn : Int), s.sq, s.ak⟩)).1) ?_; rw [hWm117]) | (refine wpList_load_blk_w (by rfl) _ _ rfl w.heap.size (by rfl) _ Am119 Try.underlying33 (by kernel_rfl) ?_))
        clear c118 y120 z121
        refine Calls.mono (rlife_fw (⟨f.w, (Cn.step f.c 0 (⟨s.fl, s.win, (s.dn : Int), s.sq, s.ak⟩)).1, f.ends, f.help, false⟩) _) ?_
        rintro e Wm122 ⟨rfl, bb⟩
        have Am122 := Am119.kept bb
        have Bm122 := Bm119.kept bb
        have Cm122 := Cm119.kept bb
        have Ym122 := Ym119.kept bb
        have Dm122 := Dm119.kept bb
        have bm122 := bel_tr bm119 bb
        clear bb
        have hlf := life_bd0 (⟨f.w, (Cn.step f.c 0 (⟨s.fl, s.win, (s.dn : Int), s.sq, s.ak⟩)).1, f.ends, f.help, false⟩)
        have hnw := now_bd (n := now) (by assumption)
        clear Am119 Bm119 Cm119 Ym119 Dm119 bm119
        have y124 := Am122.cell 19 (.int .i64 f.ends) rfl
        have z125 := Am122.frozen 19
        obtain ⟨Wm123, hWm123⟩ : ∃ W, Wm122.setCell ⟨w.heap.size, 19, none⟩ (.int .i64 (now + (Fl.life (⟨f.w, (Cn.step f.c 0 (⟨s.fl, s.win, (s.dn : Int), s.sq, s.ak⟩)).1, f.ends, f.help, false⟩)))) = W := ⟨_, rfl⟩
        have Am123 : Blk Wm123 w.heap.size 33 (Fl.v ⟨f.w, (Cn.step f.c 0 (⟨s.fl, s.win, (s.dn : Int), s.sq, s.ak⟩)).1, now + (Fl.life (⟨f.w, (Cn.step f.c 0 (⟨s.fl, s.win, (s.dn : Int), s.sq, s.ak⟩)).1, f.ends, f.help, false⟩)), f.help, false⟩) := hWm123 ▸ Am122.put 19 (.int .i64 (now + (Fl.life (⟨f.w, (Cn.step f.c 0 (⟨s.fl, s.win, (s.dn : Int), s.sq, s.ak⟩)).1, f.ends, f.help, false⟩))))
        have Bm123 := hWm123 ▸ Bm122.put_other Am122 nBA 19 (.int .i64 (now + (Fl.life (⟨f.w, (Cn.step f.c 0 (⟨s.fl, s.win, (s.dn : Int), s.sq, s.ak⟩)).1, f.ends, f.help, false⟩))))
        have Cm123 := hWm123 ▸ Cm122.put_other Am122 nCA 19 (.int .i64 (now + (Fl.life (⟨f.w, (Cn.step f.c 0 (⟨s.fl, s.win, (s.dn : Int), s.sq, s.ak⟩)).1, f.ends, f.help, false⟩))))
        have Ym123 := hWm123 ▸ Ym122.put_other Am122 nYA 19 (.int .i64 (now + (Fl.life (⟨f.w, (Cn.step f.c 0 (⟨s.fl, s.win, (s.dn : Int), s.sq, s.ak⟩)).1, f.ends, f.help, false⟩))))
        have Dm123 := hWm123 ▸ Dm122.put_other Am122 nDA 19 (.int .i64 (now + (Fl.life (⟨f.w, (Cn.step f.c 0 (⟨s.fl, s.win, (s.dn : Int), s.sq, s.ak⟩)).1, f.ends, f.help, false⟩))))
        have bm123 := hWm123 ▸ bm122.setCell (p := ⟨w.heap.size, 19, none⟩) gA (.int .i64 (now + (Fl.life (⟨f.w, (Cn.step f.c 0 (⟨s.fl, s.win, (s.dn : Int), s.sq, s.ak⟩)).1, f.ends, f.help, false⟩))))
        obtain ⟨Wm126, hWm126⟩ : ∃ W, Wm123.setRow Wm2.heap.size (Fl.v ⟨f.w, (Cn.step f.c 0 (⟨s.fl, s.win, (s.dn : Int), s.sq, s.ak⟩)).1, now + (Fl.life (⟨f.w, (Cn.step f.c 0 (⟨s.fl, s.win, (s.dn : Int), s.sq, s.ak⟩)).1, f.ends, f.help, false⟩)), f.help, false⟩) = W := ⟨_, rfl⟩
        have Cm126 : Blk Wm126 Wm2.heap.size 33 (Fl.v ⟨f.w, (Cn.step f.c 0 (⟨s.fl, s.win, (s.dn : Int), s.sq, s.ak⟩)).1, now + (Fl.life (⟨f.w, (Cn.step f.c 0 (⟨s.fl, s.win, (s.dn : Int), s.sq, s.ak⟩)).1, f.ends, f.help, false⟩)), f.help, false⟩) := hWm126 ▸ Cm123.set (Fl.v ⟨f.w, (Cn.step f.c 0 (⟨s.fl, s.win, (s.dn : Int), s.sq, s.ak⟩)).1, now + (Fl.life (⟨f.w, (Cn.step f.c 0 (⟨s.fl, s.win, (s.dn : Int), s.sq, s.ak⟩)).1, f.ends, f.help, false⟩)), f.help, false⟩)
        have Am126 := hWm126 ▸ Am123.other nAC (Fl.v ⟨f.w, (Cn.step f.c 0 (⟨s.fl, s.win, (s.dn : Int), s.sq, s.ak⟩)).1, now + (Fl.life (⟨f.w, (Cn.step f.c 0 (⟨s.fl, s.win, (s.dn : Int), s.sq, s.ak⟩)).1, f.ends, f.help, false⟩)), f.help, false⟩)
        have Bm126 := hWm126 ▸ Bm123.other nBC (Fl.v ⟨f.w, (Cn.step f.c 0 (⟨s.fl, s.win, (s.dn : Int), s.sq, s.ak⟩)).1, now + (Fl.life (⟨f.w, (Cn.step f.c 0 (⟨s.fl, s.win, (s.dn : Int), s.sq, s.ak⟩)).1, f.ends, f.help, false⟩)), f.help, false⟩)
        have Ym126 := hWm126 ▸ Ym123.other nYC (Fl.v ⟨f.w, (Cn.step f.c 0 (⟨s.fl, s.win, (s.dn : Int), s.sq, s.ak⟩)).1, now + (Fl.life (⟨f.w, (Cn.step f.c 0 (⟨s.fl, s.win, (s.dn : Int), s.sq, s.ak⟩)).1, f.ends, f.help, false⟩)), f.help, false⟩)
        have Dm126 := hWm126 ▸ Dm123.other nDC (Fl.v ⟨f.w, (Cn.step f.c 0 (⟨s.fl, s.win, (s.dn : Int), s.sq, s.ak⟩)).1, now + (Fl.life (⟨f.w, (Cn.step f.c 0 (⟨s.fl, s.win, (s.dn : Int), s.sq, s.ak⟩)).1, f.ends, f.help, false⟩)), f.help, false⟩)
        have bm126 := hWm126 ▸ below_setRow bm123 gC (Fl.v ⟨f.w, (Cn.step f.c 0 (⟨s.fl, s.win, (s.dn : Int), s.sq, s.ak⟩)).1, now + (Fl.life (⟨f.w, (Cn.step f.c 0 (⟨s.fl, s.win, (s.dn : Int), s.sq, s.ak⟩)).1, f.ends, f.help, false⟩)), f.help, false⟩)
        go_wp2_with (first | (refine wpList_load_blk_w (by rfl) _ _ rfl w.heap.size (by rfl) _ Am123 Try.underlying33 (by kernel_rfl) ?_) | (refine wpList_store_row rfl _ _ _ rfl Wm2.heap.size (Fl.v ⟨f.w, (Cn.step f.c 0 (⟨s.fl, s.win, (s.dn : Int), s.sq, s.ak⟩)).1, now + (Fl.life (⟨f.w, (Cn.step f.c 0 (⟨s.fl, s.win, (s.dn : Int), s.sq, s.ak⟩)).1, f.ends, f.help, false⟩)), f.help, false⟩) (by rfl) (by rfl) _ _ Cm123 (by kernel_rfl) (by rfl) (by kernel_rfl) ?_; rw [hWm126]))
        have hR2 : R = ((⟨f.w, (Cn.step f.c 0 (⟨s.fl, s.win, (s.dn : Int), s.sq, s.ak⟩)).1, now + (Fl.life (⟨f.w, (Cn.step f.c 0 (⟨s.fl, s.win, (s.dn : Int), s.sq, s.ak⟩)).1, f.ends, f.help, false⟩)), f.help, false⟩ : Fl), (0 : Int)) := by rw [← HR.out]; first | rfl | (simp [docGo, Fl.keep, hq5, hq9, hq14, hq19, bne_f_fw hq109, hq114]; done)
        subst hR2
        exact ret_cell_tmp (k := 8) (j := 9) Try.f16 (by kernel_rfl) Cm126 Try.underlying33 (by kernel_rfl) (by rfl) (by rfl) rfl ⟨rfl, bm126⟩
       | true =>
        obtain ⟨Wm127, hWm127⟩ : ∃ W, Wm106.alloc (.cells #[.int .i64 0, .int .u32 0, .int .u32 0, .int .u32 0, .int .u32 0, .bool false, .bool false, .bool false, .bool false] 31) = W := ⟨_, rfl⟩
        have bm127 := bel_al bm106 hWm127
        have Am127 := Am106.al hWm127
        have Bm127 := Bm106.al hWm127
        have Cm127 := Cm106.al hWm127
        have Ym127 := Ym106.al hWm127
        have Dm127 := blk_nw hWm127
        have gD : w.heap.size ≤ Wm106.heap.size := bm106.size
        have nAD : w.heap.size ≠ Wm106.heap.size := by have := Am106.lt; omega
        have nDA : Wm106.heap.size ≠ w.heap.size := fun e => nAD e.symm
        have nBD : Wm1.heap.size ≠ Wm106.heap.size := by have := Bm106.lt; omega
        have nDB : Wm106.heap.size ≠ Wm1.heap.size := fun e => nBD e.symm
        have nCD : Wm2.heap.size ≠ Wm106.heap.size := by have := Cm106.lt; omega
        have nDC : Wm106.heap.size ≠ Wm2.heap.size := fun e => nCD e.symm
        have nYD : Wx12.heap.size ≠ Wm106.heap.size := by have := Ym106.lt; omega
        have nDY : Wm106.heap.size ≠ Wx12.heap.size := fun e => nYD e.symm
        obtain ⟨Wm128, hWm128⟩ : ∃ W, Wm127.setRow Wm106.heap.size (Cn.step f.c 0 (⟨s.fl, s.win, (s.dn : Int), s.sq, s.ak⟩)).1.v = W := ⟨_, rfl⟩
        have Dm128 : Blk Wm128 Wm106.heap.size 31 (Cn.step f.c 0 (⟨s.fl, s.win, (s.dn : Int), s.sq, s.ak⟩)).1.v := hWm128 ▸ Dm127.set (Cn.step f.c 0 (⟨s.fl, s.win, (s.dn : Int), s.sq, s.ak⟩)).1.v
        have Am128 := hWm128 ▸ Am127.other nAD (Cn.step f.c 0 (⟨s.fl, s.win, (s.dn : Int), s.sq, s.ak⟩)).1.v
        have Bm128 := hWm128 ▸ Bm127.other nBD (Cn.step f.c 0 (⟨s.fl, s.win, (s.dn : Int), s.sq, s.ak⟩)).1.v
        have Cm128 := hWm128 ▸ Cm127.other nCD (Cn.step f.c 0 (⟨s.fl, s.win, (s.dn : Int), s.sq, s.ak⟩)).1.v
        have Ym128 := hWm128 ▸ Ym127.other nYD (Cn.step f.c 0 (⟨s.fl, s.win, (s.dn : Int), s.sq, s.ak⟩)).1.v
        have bm128 := hWm128 ▸ below_setRow bm127 gD (Cn.step f.c 0 (⟨s.fl, s.win, (s.dn : Int), s.sq, s.ak⟩)).1.v
        obtain ⟨Wm129, hWm129⟩ : ∃ W, Wm128.setRow w.heap.size (Fl.v ⟨f.w, (Cn.step f.c 0 (⟨s.fl, s.win, (s.dn : Int), s.sq, s.ak⟩)).1, f.ends, f.help, f.both⟩) = W := ⟨_, rfl⟩
        have Am129 : Blk Wm129 w.heap.size 33 (Fl.v ⟨f.w, (Cn.step f.c 0 (⟨s.fl, s.win, (s.dn : Int), s.sq, s.ak⟩)).1, f.ends, f.help, f.both⟩) := hWm129 ▸ Am128.set (Fl.v ⟨f.w, (Cn.step f.c 0 (⟨s.fl, s.win, (s.dn : Int), s.sq, s.ak⟩)).1, f.ends, f.help, f.both⟩)
        have Bm129 := hWm129 ▸ Bm128.other nBA (Fl.v ⟨f.w, (Cn.step f.c 0 (⟨s.fl, s.win, (s.dn : Int), s.sq, s.ak⟩)).1, f.ends, f.help, f.both⟩)
        have Cm129 := hWm129 ▸ Cm128.other nCA (Fl.v ⟨f.w, (Cn.step f.c 0 (⟨s.fl, s.win, (s.dn : Int), s.sq, s.ak⟩)).1, f.ends, f.help, f.both⟩)
        have Ym129 := hWm129 ▸ Ym128.other nYA (Fl.v ⟨f.w, (Cn.step f.c 0 (⟨s.fl, s.win, (s.dn : Int), s.sq, s.ak⟩)).1, f.ends, f.help, f.both⟩)
        have Dm129 := hWm129 ▸ Dm128.other nDA (Fl.v ⟨f.w, (Cn.step f.c 0 (⟨s.fl, s.win, (s.dn : Int), s.sq, s.ak⟩)).1, f.ends, f.help, f.both⟩)
        have bm129 := hWm129 ▸ below_setRow bm128 gA (Fl.v ⟨f.w, (Cn.step f.c 0 (⟨s.fl, s.win, (s.dn : Int), s.sq, s.ak⟩)).1, f.ends, f.help, f.both⟩)
        have c130 := Am129.cell 21 (.bool f.both) rfl
        have y132 := Am129.cell 21 (.bool f.both) rfl
        have z133 := Am129.frozen 21
        obtain ⟨Wm131, hWm131⟩ : ∃ W, Wm129.setCell ⟨w.heap.size, 21, none⟩ (.bool true) = W := ⟨_, rfl⟩
        have Am131 : Blk Wm131 w.heap.size 33 (Fl.v ⟨f.w, (Cn.step f.c 0 (⟨s.fl, s.win, (s.dn : Int), s.sq, s.ak⟩)).1, f.ends, f.help, true⟩) := hWm131 ▸ Am129.put 21 (.bool true)
        have Bm131 := hWm131 ▸ Bm129.put_other Am129 nBA 21 (.bool true)
        have Cm131 := hWm131 ▸ Cm129.put_other Am129 nCA 21 (.bool true)
        have Ym131 := hWm131 ▸ Ym129.put_other Am129 nYA 21 (.bool true)
        have Dm131 := hWm131 ▸ Dm129.put_other Am129 nDA 21 (.bool true)
        have bm131 := hWm131 ▸ bm129.setCell (p := ⟨w.heap.size, 21, none⟩) gA (.bool true)
        go_wp2_with (first | (refine wpList_store_row rfl _ _ _ rfl Wm106.heap.size (Cn.step f.c 0 (⟨s.fl, s.win, (s.dn : Int), s.sq, s.ak⟩)).1.v (by rfl) (by rfl) _ _ Dm127 (by kernel_rfl) (by rfl) (by kernel_rfl) ?_; rw [hWm128]) | (refine wpList_load_blk_w (by rfl) _ _ rfl Wm106.heap.size (by rfl) _ Dm128 Try.underlying31 (by kernel_rfl) ?_) | (refine wpList_store_off rfl _ _ _ rfl w.heap.size 10 _ (Cn.step f.c 0 (⟨s.fl, s.win, (s.dn : Int), s.sq, s.ak⟩)).1.v _ (Fl.v ⟨f.w, (Cn.step f.c 0 (⟨s.fl, s.win, (s.dn : Int), s.sq, s.ak⟩)).1, f.ends, f.help, f.both⟩) (by rfl) (by rfl) Am128 (by kernel_rfl) (Nat.le_of_ble_eq_true (by kernel_rfl)) (by kernel_rfl) (setConn_fw f (Cn.step f.c 0 (⟨s.fl, s.win, (s.dn : Int), s.sq, s.ak⟩)).1) ?_; rw [hWm129]) | (refine wpList_load_blk_w (by rfl) _ _ rfl w.heap.size (by rfl) _ Am131 Try.underlying33 (by kernel_rfl) ?_))
        clear c130 y132 z133
        refine Calls.mono (rlife_fw (⟨f.w, (Cn.step f.c 0 (⟨s.fl, s.win, (s.dn : Int), s.sq, s.ak⟩)).1, f.ends, f.help, true⟩) _) ?_
        rintro e Wm134 ⟨rfl, bb⟩
        have Am134 := Am131.kept bb
        have Bm134 := Bm131.kept bb
        have Cm134 := Cm131.kept bb
        have Ym134 := Ym131.kept bb
        have Dm134 := Dm131.kept bb
        have bm134 := bel_tr bm131 bb
        clear bb
        have hlf := life_bd0 (⟨f.w, (Cn.step f.c 0 (⟨s.fl, s.win, (s.dn : Int), s.sq, s.ak⟩)).1, f.ends, f.help, true⟩)
        have hnw := now_bd (n := now) (by assumption)
        clear Am131 Bm131 Cm131 Ym131 Dm131 bm131
        have y136 := Am134.cell 19 (.int .i64 f.ends) rfl
        have z137 := Am134.frozen 19
        obtain ⟨Wm135, hWm135⟩ : ∃ W, Wm134.setCell ⟨w.heap.size, 19, none⟩ (.int .i64 (now + (Fl.life (⟨f.w, (Cn.step f.c 0 (⟨s.fl, s.win, (s.dn : Int), s.sq, s.ak⟩)).1, f.ends, f.help, true⟩)))) = W := ⟨_, rfl⟩
        have Am135 : Blk Wm135 w.heap.size 33 (Fl.v ⟨f.w, (Cn.step f.c 0 (⟨s.fl, s.win, (s.dn : Int), s.sq, s.ak⟩)).1, now + (Fl.life (⟨f.w, (Cn.step f.c 0 (⟨s.fl, s.win, (s.dn : Int), s.sq, s.ak⟩)).1, f.ends, f.help, true⟩)), f.help, true⟩) := hWm135 ▸ Am134.put 19 (.int .i64 (now + (Fl.life (⟨f.w, (Cn.step f.c 0 (⟨s.fl, s.win, (s.dn : Int), s.sq, s.ak⟩)).1, f.ends, f.help, true⟩))))
        have Bm135 := hWm135 ▸ Bm134.put_other Am134 nBA 19 (.int .i64 (now + (Fl.life (⟨f.w, (Cn.step f.c 0 (⟨s.fl, s.win, (s.dn : Int), s.sq, s.ak⟩)).1, f.ends, f.help, true⟩))))
        have Cm135 := hWm135 ▸ Cm134.put_other Am134 nCA 19 (.int .i64 (now + (Fl.life (⟨f.w, (Cn.step f.c 0 (⟨s.fl, s.win, (s.dn : Int), s.sq, s.ak⟩)).1, f.ends, f.help, true⟩))))
        have Ym135 := hWm135 ▸ Ym134.put_other Am134 nYA 19 (.int .i64 (now + (Fl.life (⟨f.w, (Cn.step f.c 0 (⟨s.fl, s.win, (s.dn : Int), s.sq, s.ak⟩)).1, f.ends, f.help, true⟩))))
        have Dm135 := hWm135 ▸ Dm134.put_other Am134 nDA 19 (.int .i64 (now + (Fl.life (⟨f.w, (Cn.step f.c 0 (⟨s.fl, s.win, (s.dn : Int), s.sq, s.ak⟩)).1, f.ends, f.help, true⟩))))
        have bm135 := hWm135 ▸ bm134.setCell (p := ⟨w.heap.size, 19, none⟩) gA (.int .i64 (now + (Fl.life (⟨f.w, (Cn.step f.c 0 (⟨s.fl, s.win, (s.dn : Int), s.sq, s.ak⟩)).1, f.ends, f.help, true⟩))))
        obtain ⟨Wm138, hWm138⟩ : ∃ W, Wm135.setRow Wm2.heap.size (Fl.v ⟨f.w, (Cn.step f.c 0 (⟨s.fl, s.win, (s.dn : Int), s.sq, s.ak⟩)).1, now + (Fl.life (⟨f.w, (Cn.step f.c 0 (⟨s.fl, s.win, (s.dn : Int), s.sq, s.ak⟩)).1, f.ends, f.help, true⟩)), f.help, true⟩) = W := ⟨_, rfl⟩
        have Cm138 : Blk Wm138 Wm2.heap.size 33 (Fl.v ⟨f.w, (Cn.step f.c 0 (⟨s.fl, s.win, (s.dn : Int), s.sq, s.ak⟩)).1, now + (Fl.life (⟨f.w, (Cn.step f.c 0 (⟨s.fl, s.win, (s.dn : Int), s.sq, s.ak⟩)).1, f.ends, f.help, true⟩)), f.help, true⟩) := hWm138 ▸ Cm135.set (Fl.v ⟨f.w, (Cn.step f.c 0 (⟨s.fl, s.win, (s.dn : Int), s.sq, s.ak⟩)).1, now + (Fl.life (⟨f.w, (Cn.step f.c 0 (⟨s.fl, s.win, (s.dn : Int), s.sq, s.ak⟩)).1, f.ends, f.help, true⟩)), f.help, true⟩)
        have Am138 := hWm138 ▸ Am135.other nAC (Fl.v ⟨f.w, (Cn.step f.c 0 (⟨s.fl, s.win, (s.dn : Int), s.sq, s.ak⟩)).1, now + (Fl.life (⟨f.w, (Cn.step f.c 0 (⟨s.fl, s.win, (s.dn : Int), s.sq, s.ak⟩)).1, f.ends, f.help, true⟩)), f.help, true⟩)
        have Bm138 := hWm138 ▸ Bm135.other nBC (Fl.v ⟨f.w, (Cn.step f.c 0 (⟨s.fl, s.win, (s.dn : Int), s.sq, s.ak⟩)).1, now + (Fl.life (⟨f.w, (Cn.step f.c 0 (⟨s.fl, s.win, (s.dn : Int), s.sq, s.ak⟩)).1, f.ends, f.help, true⟩)), f.help, true⟩)
        have Ym138 := hWm138 ▸ Ym135.other nYC (Fl.v ⟨f.w, (Cn.step f.c 0 (⟨s.fl, s.win, (s.dn : Int), s.sq, s.ak⟩)).1, now + (Fl.life (⟨f.w, (Cn.step f.c 0 (⟨s.fl, s.win, (s.dn : Int), s.sq, s.ak⟩)).1, f.ends, f.help, true⟩)), f.help, true⟩)
        have Dm138 := hWm138 ▸ Dm135.other nDC (Fl.v ⟨f.w, (Cn.step f.c 0 (⟨s.fl, s.win, (s.dn : Int), s.sq, s.ak⟩)).1, now + (Fl.life (⟨f.w, (Cn.step f.c 0 (⟨s.fl, s.win, (s.dn : Int), s.sq, s.ak⟩)).1, f.ends, f.help, true⟩)), f.help, true⟩)
        have bm138 := hWm138 ▸ below_setRow bm135 gC (Fl.v ⟨f.w, (Cn.step f.c 0 (⟨s.fl, s.win, (s.dn : Int), s.sq, s.ak⟩)).1, now + (Fl.life (⟨f.w, (Cn.step f.c 0 (⟨s.fl, s.win, (s.dn : Int), s.sq, s.ak⟩)).1, f.ends, f.help, true⟩)), f.help, true⟩)
        go_wp2_with (first | (refine wpList_load_blk_w (by rfl) _ _ rfl w.heap.size (by rfl) _ Am135 Try.underlying33 (by kernel_rfl) ?_) | (refine wpList_store_row rfl _ _ _ rfl Wm2.heap.size (Fl.v ⟨f.w, (Cn.step f.c 0 (⟨s.fl, s.win, (s.dn : Int), s.sq, s.ak⟩)).1, now + (Fl.life (⟨f.w, (Cn.step f.c 0 (⟨s.fl, s.win, (s.dn : Int), s.sq, s.ak⟩)).1, f.ends, f.help, true⟩)), f.help, true⟩) (by rfl) (by rfl) _ _ Cm135 (by kernel_rfl) (by rfl) (by kernel_rfl) ?_; rw [hWm138]))
        have hR2 : R = ((⟨f.w, (Cn.step f.c 0 (⟨s.fl, s.win, (s.dn : Int), s.sq, s.ak⟩)).1, now + (Fl.life (⟨f.w, (Cn.step f.c 0 (⟨s.fl, s.win, (s.dn : Int), s.sq, s.ak⟩)).1, f.ends, f.help, true⟩)), f.help, true⟩ : Fl), (0 : Int)) := by rw [← HR.out]; first | rfl | (simp [docGo, Fl.keep, hq5, hq9, hq14, hq19, bne_f_fw hq109, hq114]; done)
        subst hR2
        exact ret_cell_tmp (k := 8) (j := 9) Try.f16 (by kernel_rfl) Cm138 Try.underlying33 (by kernel_rfl) (by rfl) (by rfl) rfl ⟨rfl, bm138⟩
      | true =>
       obtain ⟨Wm139, hWm139⟩ : ∃ W, Wm106.alloc (.cells #[.int .i64 0, .int .u32 0, .int .u32 0, .int .u32 0, .int .u32 0, .bool false, .bool false, .bool false, .bool false] 31) = W := ⟨_, rfl⟩
       have bm139 := bel_al bm106 hWm139
       have Am139 := Am106.al hWm139
       have Bm139 := Bm106.al hWm139
       have Cm139 := Cm106.al hWm139
       have Ym139 := Ym106.al hWm139
       have Dm139 := blk_nw hWm139
       have gD : w.heap.size ≤ Wm106.heap.size := bm106.size
       have nAD : w.heap.size ≠ Wm106.heap.size := by have := Am106.lt; omega
       have nDA : Wm106.heap.size ≠ w.heap.size := fun e => nAD e.symm
       have nBD : Wm1.heap.size ≠ Wm106.heap.size := by have := Bm106.lt; omega
       have nDB : Wm106.heap.size ≠ Wm1.heap.size := fun e => nBD e.symm
       have nCD : Wm2.heap.size ≠ Wm106.heap.size := by have := Cm106.lt; omega
       have nDC : Wm106.heap.size ≠ Wm2.heap.size := fun e => nCD e.symm
       have nYD : Wx12.heap.size ≠ Wm106.heap.size := by have := Ym106.lt; omega
       have nDY : Wm106.heap.size ≠ Wx12.heap.size := fun e => nYD e.symm
       obtain ⟨Wm140, hWm140⟩ : ∃ W, Wm139.setRow Wm106.heap.size (Cn.step f.c 0 (⟨s.fl, s.win, (s.dn : Int), s.sq, s.ak⟩)).1.v = W := ⟨_, rfl⟩
       have Dm140 : Blk Wm140 Wm106.heap.size 31 (Cn.step f.c 0 (⟨s.fl, s.win, (s.dn : Int), s.sq, s.ak⟩)).1.v := hWm140 ▸ Dm139.set (Cn.step f.c 0 (⟨s.fl, s.win, (s.dn : Int), s.sq, s.ak⟩)).1.v
       have Am140 := hWm140 ▸ Am139.other nAD (Cn.step f.c 0 (⟨s.fl, s.win, (s.dn : Int), s.sq, s.ak⟩)).1.v
       have Bm140 := hWm140 ▸ Bm139.other nBD (Cn.step f.c 0 (⟨s.fl, s.win, (s.dn : Int), s.sq, s.ak⟩)).1.v
       have Cm140 := hWm140 ▸ Cm139.other nCD (Cn.step f.c 0 (⟨s.fl, s.win, (s.dn : Int), s.sq, s.ak⟩)).1.v
       have Ym140 := hWm140 ▸ Ym139.other nYD (Cn.step f.c 0 (⟨s.fl, s.win, (s.dn : Int), s.sq, s.ak⟩)).1.v
       have bm140 := hWm140 ▸ below_setRow bm139 gD (Cn.step f.c 0 (⟨s.fl, s.win, (s.dn : Int), s.sq, s.ak⟩)).1.v
       obtain ⟨Wm141, hWm141⟩ : ∃ W, Wm140.setRow Wm2.heap.size fl0.v = W := ⟨_, rfl⟩
       have Cm141 : Blk Wm141 Wm2.heap.size 33 fl0.v := hWm141 ▸ Cm140.set fl0.v
       have Am141 := hWm141 ▸ Am140.other nAC fl0.v
       have Bm141 := hWm141 ▸ Bm140.other nBC fl0.v
       have Ym141 := hWm141 ▸ Ym140.other nYC fl0.v
       have Dm141 := hWm141 ▸ Dm140.other nDC fl0.v
       have bm141 := hWm141 ▸ below_setRow bm140 gC fl0.v
       go_wp2_with (first | (refine wpList_store_row rfl _ _ _ rfl Wm106.heap.size (Cn.step f.c 0 (⟨s.fl, s.win, (s.dn : Int), s.sq, s.ak⟩)).1.v (by rfl) (by rfl) _ _ Dm139 (by kernel_rfl) (by rfl) (by kernel_rfl) ?_; rw [hWm140]) | (refine wpList_store_row rfl _ _ _ rfl Wm2.heap.size fl0.v (by rfl) (by rfl) _ _ Cm140 (by kernel_rfl) (by rfl) (by kernel_rfl) ?_; rw [hWm141]))
       have hR2 : R = ((fl0 : Fl), ((Cn.step f.c 0 (⟨s.fl, s.win, (s.dn : Int), s.sq, s.ak⟩)).2 : Int)) := by rw [← HR.out]; first | rfl | (simp [docGo, Fl.keep, hq5, hq9, hq14, hq19, bne_t_fw hq109]; done)
       subst hR2
       exact ret_cell_tmp (k := 8) (j := 9) Try.f16 (by kernel_rfl) Cm141 Try.underlying33 (by kernel_rfl) (by rfl) (by rfl) rfl ⟨rfl, bm141⟩
   ·go_simp
    obtain ⟨Wx3, hWx3⟩ : ∃ W, Wdq11.alloc (.cells #[.int .i64 0, .int .i64 0, .int .i64 0, .int .u64 0, .int .u64 0, .int .i64 0, .int .u64 0, .int .u64 0, .int .i64 0, .int .i64 0] 26) = W := ⟨_, rfl⟩
    rw [hWx3]
    have Ax3 := Adq11.al hWx3
    have Bx3 := Bdq11.al hWx3
    have Cx3 := Cdq11.al hWx3
    have Y2_x3 := blk_nw hWx3
    have bx3 := bel_al bdq11 hWx3
    have gY2_ : w.heap.size ≤ Wdq11.heap.size := bdq11.size
    have nAY2_ : w.heap.size ≠ Wdq11.heap.size := by have := Adq11.lt; omega
    have nBY2_ : Wm1.heap.size ≠ Wdq11.heap.size := by have := Bdq11.lt; omega
    have nCY2_ : Wm2.heap.size ≠ Wdq11.heap.size := by have := Cdq11.lt; omega
    refine hK.out _ _ (by exact ⟨Ax3, Bx3, Cx3⟩) (fun hHeld => ?_)
    clear hK K
    try simp only [qpu]
    refine wpAnyH_ready (rs := [5]) (by kernel_rfl) (by simp) ?_
    refine AllReadyH.cons (o := fxg11o2) rfl (fun K hK => ?_) AllReadyH.nil
    go_simp
    refine Calls.mono (quest_fw f.w.fam _) ?_
    rintro e Wx142 ⟨rfl, bb⟩
    have Ax142 := Ax3.kept bb
    have Bx142 := Bx3.kept bb
    have Cx142 := Cx3.kept bb
    have Y2_x142 := Y2_x3.kept bb
    have bx142 := bel_tr bx3 bb
    clear bb
    refine hK.out _ _ (by exact ⟨Ax142, Bx142, Cx142⟩) (fun hHeld => ?_)
    clear hK K
    try simp only [qpu]
    refine wpAnyH_ready (rs := [7]) (by kernel_rfl) (by simp) ?_
    refine AllReadyH.cons (o := fxg11o0) rfl (fun K hK => ?_) AllReadyH.nil
    refine step_store_blk rfl _ _ _ rfl Wdq11.heap.size f.w.v _ (by rfl) (by rfl) Y2_x142 (by kernel_rfl) (by rfl) (by kernel_rfl) ?_
    obtain ⟨Wx4, hWx4⟩ : ∃ W, Wx142.setRow Wdq11.heap.size f.w.v = W := ⟨_, rfl⟩
    rw [hWx4]
    have Ax4 := hWx4 ▸ Ax142.other nAY2_ f.w.v
    have Bx4 := hWx4 ▸ Bx142.other nBY2_ f.w.v
    have Cx4 := hWx4 ▸ Cx142.other nCY2_ f.w.v
    have Y2_x4 : Blk Wx4 Wdq11.heap.size 26 f.w.v := hWx4 ▸ Y2_x142.set f.w.v
    have bx4 := hWx4 ▸ below_setRow bx142 gY2_ f.w.v
    refine hK.out _ _ (by exact ⟨Ax4, Bx4, Cx4⟩) (fun hHeld => ?_)
    clear hK K
    try simp only [qpu]
    refine qtk (i := 8) (oi := fxg11o1) (v := (.int .i64 (quT f.w.fam))) hHeld ?_ ?_
    ·intro w9 hSw
     try dsimp only at hSw
     go_simp
    try simp only [qpu]
    refine wpAnyH_done (by kernel_rfl) ?_ _
    refine NoPanic.normal ?_
    have nY2_A : Wdq11.heap.size ≠ w.heap.size := fun e => nAY2_ e.symm
    have nY2_B : Wdq11.heap.size ≠ Wm1.heap.size := fun e => nBY2_ e.symm
    have nY2_C : Wdq11.heap.size ≠ Wm2.heap.size := fun e => nCY2_ e.symm
    cases hq144 : (Wy.eqB s.w f.w) with
    | false =>
     have hE145 := neq_way s.w f.w
     obtain ⟨Wm146, hWm146⟩ : ∃ W, Wx4.setRow Wm2.heap.size fl0.v = W := ⟨_, rfl⟩
     have Cm146 : Blk Wm146 Wm2.heap.size 33 fl0.v := hWm146 ▸ Cx4.set fl0.v
     have Am146 := hWm146 ▸ Ax4.other nAC fl0.v
     have Bm146 := hWm146 ▸ Bx4.other nBC fl0.v
     have Y2_m146 := hWm146 ▸ Y2_x4.other nY2_C fl0.v
     have bm146 := hWm146 ▸ below_setRow bx4 gC fl0.v
     go_wp2_with (first | (refine wpList_load_sub_w (by rfl) _ _ rfl Wm1.heap.size 0 _ (by rfl) _ s.w.v Bx4 (by rfl) Try.underlying26 (by kernel_rfl) ?_) | (refine wpList_load_blk_w (by rfl) _ _ rfl Wdq11.heap.size (by rfl) _ Y2_x4 Try.underlying26 (by kernel_rfl) ?_) | (refine wpList_store_row rfl _ _ _ rfl Wm2.heap.size fl0.v (by rfl) (by rfl) _ _ Cx4 (by kernel_rfl) (by rfl) (by kernel_rfl) ?_; rw [hWm146]))
     have hR2 : R = ((fl0 : Fl), (23 : Int)) := by rw [← HR.out]; first | rfl | (simp [docGo, Fl.keep, hq5, hq9, hq144]; done)
     subst hR2
     exact ret_cell_tmp (k := 8) (j := 9) Try.f16 (by kernel_rfl) Cm146 Try.underlying33 (by kernel_rfl) (by rfl) (by rfl) rfl ⟨rfl, bm146⟩
    | true =>
     cases hq149 : (f.w.pr == 6) with
     | false =>
      cases hq152 : (f.w.pr == 17) with
      | false =>
       cases hq156 : (s.ty != (quT f.w.fam)) with
       | false =>
        cases hq161 : (s.co != 0) with
        | false =>
         cases hq167 : f.both with
         | false =>
          have hE168 := neq_way s.w f.w
          have c169 := Ax4.cell 1 (.int .i64 f.w.pr) rfl
          have c170 := Bx4.cell 14 (.int .i64 s.ty) rfl
          have c171 := Bx4.cell 15 (.int .i64 s.co) rfl
          have c172 := Ax4.cell 21 (.bool f.both) rfl
          have y174 := Ax4.cell 21 (.bool f.both) rfl
          have z175 := Ax4.frozen 21
          obtain ⟨Wm173, hWm173⟩ : ∃ W, Wx4.setCell ⟨w.heap.size, 21, none⟩ (.bool false) = W := ⟨_, rfl⟩
          have Am173 : Blk Wm173 w.heap.size 33 (Fl.v ⟨f.w, f.c, f.ends, f.help, false⟩) := hWm173 ▸ Ax4.put 21 (.bool false)
          have Bm173 := hWm173 ▸ Bx4.put_other Ax4 nBA 21 (.bool false)
          have Cm173 := hWm173 ▸ Cx4.put_other Ax4 nCA 21 (.bool false)
          have Y2_m173 := hWm173 ▸ Y2_x4.put_other Ax4 nY2_A 21 (.bool false)
          have bm173 := hWm173 ▸ bx4.setCell (p := ⟨w.heap.size, 21, none⟩) gA (.bool false)
          go_wp2_with (first | (refine wpList_load_sub_w (by rfl) _ _ rfl Wm1.heap.size 0 _ (by rfl) _ s.w.v Bx4 (by rfl) Try.underlying26 (by kernel_rfl) ?_) | (refine wpList_load_blk_w (by rfl) _ _ rfl Wdq11.heap.size (by rfl) _ Y2_x4 Try.underlying26 (by kernel_rfl) ?_) | (refine wpList_load_blk_w (by rfl) _ _ rfl w.heap.size (by rfl) _ Am173 Try.underlying33 (by kernel_rfl) ?_))
          clear hE168 c169 c170 c171 c172 y174 z175
          refine Calls.mono (rlife_fw (⟨f.w, f.c, f.ends, f.help, false⟩) _) ?_
          rintro e Wm176 ⟨rfl, bb⟩
          have Am176 := Am173.kept bb
          have Bm176 := Bm173.kept bb
          have Cm176 := Cm173.kept bb
          have Y2_m176 := Y2_m173.kept bb
          have bm176 := bel_tr bm173 bb
          clear bb
          have hlf := life_bd0 (⟨f.w, f.c, f.ends, f.help, false⟩)
          have hnw := now_bd (n := now) (by assumption)
          clear Am173 Bm173 Cm173 Y2_m173 bm173
          have y178 := Am176.cell 19 (.int .i64 f.ends) rfl
          have z179 := Am176.frozen 19
          obtain ⟨Wm177, hWm177⟩ : ∃ W, Wm176.setCell ⟨w.heap.size, 19, none⟩ (.int .i64 (now + (Fl.life (⟨f.w, f.c, f.ends, f.help, false⟩)))) = W := ⟨_, rfl⟩
          have Am177 : Blk Wm177 w.heap.size 33 (Fl.v ⟨f.w, f.c, now + (Fl.life (⟨f.w, f.c, f.ends, f.help, false⟩)), f.help, false⟩) := hWm177 ▸ Am176.put 19 (.int .i64 (now + (Fl.life (⟨f.w, f.c, f.ends, f.help, false⟩))))
          have Bm177 := hWm177 ▸ Bm176.put_other Am176 nBA 19 (.int .i64 (now + (Fl.life (⟨f.w, f.c, f.ends, f.help, false⟩))))
          have Cm177 := hWm177 ▸ Cm176.put_other Am176 nCA 19 (.int .i64 (now + (Fl.life (⟨f.w, f.c, f.ends, f.help, false⟩))))
          have Y2_m177 := hWm177 ▸ Y2_m176.put_other Am176 nY2_A 19 (.int .i64 (now + (Fl.life (⟨f.w, f.c, f.ends, f.help, false⟩))))
          have bm177 := hWm177 ▸ bm176.setCell (p := ⟨w.heap.size, 19, none⟩) gA (.int .i64 (now + (Fl.life (⟨f.w, f.c, f.ends, f.help, false⟩))))
          obtain ⟨Wm180, hWm180⟩ : ∃ W, Wm177.setRow Wm2.heap.size (Fl.v ⟨f.w, f.c, now + (Fl.life (⟨f.w, f.c, f.ends, f.help, false⟩)), f.help, false⟩) = W := ⟨_, rfl⟩
          have Cm180 : Blk Wm180 Wm2.heap.size 33 (Fl.v ⟨f.w, f.c, now + (Fl.life (⟨f.w, f.c, f.ends, f.help, false⟩)), f.help, false⟩) := hWm180 ▸ Cm177.set (Fl.v ⟨f.w, f.c, now + (Fl.life (⟨f.w, f.c, f.ends, f.help, false⟩)), f.help, false⟩)
          have Am180 := hWm180 ▸ Am177.other nAC (Fl.v ⟨f.w, f.c, now + (Fl.life (⟨f.w, f.c, f.ends, f.help, false⟩)), f.help, false⟩)
          have Bm180 := hWm180 ▸ Bm177.other nBC (Fl.v ⟨f.w, f.c, now + (Fl.life (⟨f.w, f.c, f.ends, f.help, false⟩)), f.help, false⟩)
          have Y2_m180 := hWm180 ▸ Y2_m177.other nY2_C (Fl.v ⟨f.w, f.c, now + (Fl.life (⟨f.w, f.c, f.ends, f.help, false⟩)), f.help, false⟩)
          have bm180 := hWm180 ▸ below_setRow bm177 gC (Fl.v ⟨f.w, f.c, now + (Fl.life (⟨f.w, f.c, f.ends, f.help, false⟩)), f.help, false⟩)
          go_wp2_with (first | (refine wpList_load_blk_w (by rfl) _ _ rfl w.heap.size (by rfl) _ Am177 Try.underlying33 (by kernel_rfl) ?_) | (refine wpList_store_row rfl _ _ _ rfl Wm2.heap.size (Fl.v ⟨f.w, f.c, now + (Fl.life (⟨f.w, f.c, f.ends, f.help, false⟩)), f.help, false⟩) (by rfl) (by rfl) _ _ Cm177 (by kernel_rfl) (by rfl) (by kernel_rfl) ?_; rw [hWm180]))
          have hR2 : R = ((⟨f.w, f.c, now + (Fl.life (⟨f.w, f.c, f.ends, f.help, false⟩)), f.help, false⟩ : Fl), (0 : Int)) := by rw [← HR.out]; first | rfl | (simp [docGo, Fl.keep, hq5, hq9, hq144, hq149, hq152, bne_f_fw hq156, bne_f_fw hq161, hq167]; done)
          subst hR2
          exact ret_cell_tmp (k := 8) (j := 9) Try.f16 (by kernel_rfl) Cm180 Try.underlying33 (by kernel_rfl) (by rfl) (by rfl) rfl ⟨rfl, bm180⟩
         | true =>
          have hE181 := neq_way s.w f.w
          have c182 := Ax4.cell 1 (.int .i64 f.w.pr) rfl
          have c183 := Bx4.cell 14 (.int .i64 s.ty) rfl
          have c184 := Bx4.cell 15 (.int .i64 s.co) rfl
          have c185 := Ax4.cell 21 (.bool f.both) rfl
          have y187 := Ax4.cell 21 (.bool f.both) rfl
          have z188 := Ax4.frozen 21
          obtain ⟨Wm186, hWm186⟩ : ∃ W, Wx4.setCell ⟨w.heap.size, 21, none⟩ (.bool true) = W := ⟨_, rfl⟩
          have Am186 : Blk Wm186 w.heap.size 33 (Fl.v ⟨f.w, f.c, f.ends, f.help, true⟩) := hWm186 ▸ Ax4.put 21 (.bool true)
          have Bm186 := hWm186 ▸ Bx4.put_other Ax4 nBA 21 (.bool true)
          have Cm186 := hWm186 ▸ Cx4.put_other Ax4 nCA 21 (.bool true)
          have Y2_m186 := hWm186 ▸ Y2_x4.put_other Ax4 nY2_A 21 (.bool true)
          have bm186 := hWm186 ▸ bx4.setCell (p := ⟨w.heap.size, 21, none⟩) gA (.bool true)
          go_wp2_with (first | (refine wpList_load_sub_w (by rfl) _ _ rfl Wm1.heap.size 0 _ (by rfl) _ s.w.v Bx4 (by rfl) Try.underlying26 (by kernel_rfl) ?_) | (refine wpList_load_blk_w (by rfl) _ _ rfl Wdq11.heap.size (by rfl) _ Y2_x4 Try.underlying26 (by kernel_rfl) ?_) | (refine wpList_load_blk_w (by rfl) _ _ rfl w.heap.size (by rfl) _ Am186 Try.underlying33 (by kernel_rfl) ?_))
          clear hE181 c182 c183 c184 c185 y187 z188
          refine Calls.mono (rlife_fw (⟨f.w, f.c, f.ends, f.help, true⟩) _) ?_
          rintro e Wm189 ⟨rfl, bb⟩
          have Am189 := Am186.kept bb
          have Bm189 := Bm186.kept bb
          have Cm189 := Cm186.kept bb
          have Y2_m189 := Y2_m186.kept bb
          have bm189 := bel_tr bm186 bb
          clear bb
          have hlf := life_bd0 (⟨f.w, f.c, f.ends, f.help, true⟩)
          have hnw := now_bd (n := now) (by assumption)
          clear Am186 Bm186 Cm186 Y2_m186 bm186
          have y191 := Am189.cell 19 (.int .i64 f.ends) rfl
          have z192 := Am189.frozen 19
          obtain ⟨Wm190, hWm190⟩ : ∃ W, Wm189.setCell ⟨w.heap.size, 19, none⟩ (.int .i64 (now + (Fl.life (⟨f.w, f.c, f.ends, f.help, true⟩)))) = W := ⟨_, rfl⟩
          have Am190 : Blk Wm190 w.heap.size 33 (Fl.v ⟨f.w, f.c, now + (Fl.life (⟨f.w, f.c, f.ends, f.help, true⟩)), f.help, true⟩) := hWm190 ▸ Am189.put 19 (.int .i64 (now + (Fl.life (⟨f.w, f.c, f.ends, f.help, true⟩))))
          have Bm190 := hWm190 ▸ Bm189.put_other Am189 nBA 19 (.int .i64 (now + (Fl.life (⟨f.w, f.c, f.ends, f.help, true⟩))))
          have Cm190 := hWm190 ▸ Cm189.put_other Am189 nCA 19 (.int .i64 (now + (Fl.life (⟨f.w, f.c, f.ends, f.help, true⟩))))
          have Y2_m190 := hWm190 ▸ Y2_m189.put_other Am189 nY2_A 19 (.int .i64 (now + (Fl.life (⟨f.w, f.c, f.ends, f.help, true⟩))))
          have bm190 := hWm190 ▸ bm189.setCell (p := ⟨w.heap.size, 19, none⟩) gA (.int .i64 (now + (Fl.life (⟨f.w, f.c, f.ends, f.help, true⟩))))
          obtain ⟨Wm193, hWm193⟩ : ∃ W, Wm190.setRow Wm2.heap.size (Fl.v ⟨f.w, f.c, now + (Fl.life (⟨f.w, f.c, f.ends, f.help, true⟩)), f.help, true⟩) = W := ⟨_, rfl⟩
          have Cm193 : Blk Wm193 Wm2.heap.size 33 (Fl.v ⟨f.w, f.c, now + (Fl.life (⟨f.w, f.c, f.ends, f.help, true⟩)), f.help, true⟩) := hWm193 ▸ Cm190.set (Fl.v ⟨f.w, f.c, now + (Fl.life (⟨f.w, f.c, f.ends, f.help, true⟩)), f.help, true⟩)
          have Am193 := hWm193 ▸ Am190.other nAC (Fl.v ⟨f.w, f.c, now + (Fl.life (⟨f.w, f.c, f.ends, f.help, true⟩)), f.help, true⟩)
          have Bm193 := hWm193 ▸ Bm190.other nBC (Fl.v ⟨f.w, f.c, now + (Fl.life (⟨f.w, f.c, f.ends, f.help, true⟩)), f.help, true⟩)
          have Y2_m193 := hWm193 ▸ Y2_m190.other nY2_C (Fl.v ⟨f.w, f.c, now + (Fl.life (⟨f.w, f.c, f.ends, f.help, true⟩)), f.help, true⟩)
          have bm193 := hWm193 ▸ below_setRow bm190 gC (Fl.v ⟨f.w, f.c, now + (Fl.life (⟨f.w, f.c, f.ends, f.help, true⟩)), f.help, true⟩)
          go_wp2_with (first | (refine wpList_load_blk_w (by rfl) _ _ rfl w.heap.size (by rfl) _ Am190 Try.underlying33 (by kernel_rfl) ?_) | (refine wpList_store_row rfl _ _ _ rfl Wm2.heap.size (Fl.v ⟨f.w, f.c, now + (Fl.life (⟨f.w, f.c, f.ends, f.help, true⟩)), f.help, true⟩) (by rfl) (by rfl) _ _ Cm190 (by kernel_rfl) (by rfl) (by kernel_rfl) ?_; rw [hWm193]))
          have hR2 : R = ((⟨f.w, f.c, now + (Fl.life (⟨f.w, f.c, f.ends, f.help, true⟩)), f.help, true⟩ : Fl), (0 : Int)) := by rw [← HR.out]; first | rfl | (simp [docGo, Fl.keep, hq5, hq9, hq144, hq149, hq152, bne_f_fw hq156, bne_f_fw hq161, hq167]; done)
          subst hR2
          exact ret_cell_tmp (k := 8) (j := 9) Try.f16 (by kernel_rfl) Cm193 Try.underlying33 (by kernel_rfl) (by rfl) (by rfl) rfl ⟨rfl, bm193⟩
        | true =>
         have hE194 := neq_way s.w f.w
         have c195 := Ax4.cell 1 (.int .i64 f.w.pr) rfl
         have c196 := Bx4.cell 14 (.int .i64 s.ty) rfl
         have c197 := Bx4.cell 15 (.int .i64 s.co) rfl
         obtain ⟨Wm198, hWm198⟩ : ∃ W, Wx4.setRow Wm2.heap.size fl0.v = W := ⟨_, rfl⟩
         have Cm198 : Blk Wm198 Wm2.heap.size 33 fl0.v := hWm198 ▸ Cx4.set fl0.v
         have Am198 := hWm198 ▸ Ax4.other nAC fl0.v
         have Bm198 := hWm198 ▸ Bx4.other nBC fl0.v
         have Y2_m198 := hWm198 ▸ Y2_x4.other nY2_C fl0.v
         have bm198 := hWm198 ▸ below_setRow bx4 gC fl0.v
         go_wp2_with (first | (refine wpList_load_sub_w (by rfl) _ _ rfl Wm1.heap.size 0 _ (by rfl) _ s.w.v Bx4 (by rfl) Try.underlying26 (by kernel_rfl) ?_) | (refine wpList_load_blk_w (by rfl) _ _ rfl Wdq11.heap.size (by rfl) _ Y2_x4 Try.underlying26 (by kernel_rfl) ?_) | (refine wpList_store_row rfl _ _ _ rfl Wm2.heap.size fl0.v (by rfl) (by rfl) _ _ Cx4 (by kernel_rfl) (by rfl) (by kernel_rfl) ?_; rw [hWm198]))
         have hR2 : R = ((fl0 : Fl), (23 : Int)) := by rw [← HR.out]; first | rfl | (simp [docGo, Fl.keep, hq5, hq9, hq144, hq149, hq152, bne_f_fw hq156, bne_t_fw hq161]; done)
         subst hR2
         exact ret_cell_tmp (k := 8) (j := 9) Try.f16 (by kernel_rfl) Cm198 Try.underlying33 (by kernel_rfl) (by rfl) (by rfl) rfl ⟨rfl, bm198⟩
       | true =>
        have hE199 := neq_way s.w f.w
        have c200 := Ax4.cell 1 (.int .i64 f.w.pr) rfl
        have c201 := Bx4.cell 14 (.int .i64 s.ty) rfl
        obtain ⟨Wm202, hWm202⟩ : ∃ W, Wx4.setRow Wm2.heap.size fl0.v = W := ⟨_, rfl⟩
        have Cm202 : Blk Wm202 Wm2.heap.size 33 fl0.v := hWm202 ▸ Cx4.set fl0.v
        have Am202 := hWm202 ▸ Ax4.other nAC fl0.v
        have Bm202 := hWm202 ▸ Bx4.other nBC fl0.v
        have Y2_m202 := hWm202 ▸ Y2_x4.other nY2_C fl0.v
        have bm202 := hWm202 ▸ below_setRow bx4 gC fl0.v
        go_wp2_with (first | (refine wpList_load_sub_w (by rfl) _ _ rfl Wm1.heap.size 0 _ (by rfl) _ s.w.v Bx4 (by rfl) Try.underlying26 (by kernel_rfl) ?_) | (refine wpList_load_blk_w (by rfl) _ _ rfl Wdq11.heap.size (by rfl) _ Y2_x4 Try.underlying26 (by kernel_rfl) ?_) | (refine wpList_store_row rfl _ _ _ rfl Wm2.heap.size fl0.v (by rfl) (by rfl) _ _ Cx4 (by kernel_rfl) (by rfl) (by kernel_rfl) ?_; rw [hWm202]))
        have hR2 : R = ((fl0 : Fl), (23 : Int)) := by rw [← HR.out]; first | rfl | (simp [docGo, Fl.keep, hq5, hq9, hq144, hq149, hq152, bne_t_fw hq156]; done)
        subst hR2
        exact ret_cell_tmp (k := 8) (j := 9) Try.f16 (by kernel_rfl) Cm202 Try.underlying33 (by kernel_rfl) (by rfl) (by rfl) rfl ⟨rfl, bm202⟩
      | true =>
       cases hq206 : f.both with
       | false =>
        have hE207 := neq_way s.w f.w
        have c208 := Ax4.cell 1 (.int .i64 f.w.pr) rfl
        have c209 := Ax4.cell 21 (.bool f.both) rfl
        have y211 := Ax4.cell 21 (.bool f.both) rfl
        have z212 := Ax4.frozen 21
        obtain ⟨Wm210, hWm210⟩ : ∃ W, Wx4.setCell ⟨w.heap.size, 21, none⟩ (.bool false) = W := ⟨_, rfl⟩
        have Am210 : Blk Wm210 w.heap.size 33 (Fl.v ⟨f.w, f.c, f.ends, f.help, false⟩) := hWm210 ▸ Ax4.put 21 (.bool false)
        have Bm210 := hWm210 ▸ Bx4.put_other Ax4 nBA 21 (.bool false)
        have Cm210 := hWm210 ▸ Cx4.put_other Ax4 nCA 21 (.bool false)
        have Y2_m210 := hWm210 ▸ Y2_x4.put_other Ax4 nY2_A 21 (.bool false)
        have bm210 := hWm210 ▸ bx4.setCell (p := ⟨w.heap.size, 21, none⟩) gA (.bool false)
        go_wp2_with (first | (refine wpList_load_sub_w (by rfl) _ _ rfl Wm1.heap.size 0 _ (by rfl) _ s.w.v Bx4 (by rfl) Try.underlying26 (by kernel_rfl) ?_) | (refine wpList_load_blk_w (by rfl) _ _ rfl Wdq11.heap.size (by rfl) _ Y2_x4 Try.underlying26 (by kernel_rfl) ?_) | (refine wpList_load_blk_w (by rfl) _ _ rfl w.heap.size (by rfl) _ Am210 Try.underlying33 (by kernel_rfl) ?_))
        clear hE207 c208 c209 y211 z212
        refine Calls.mono (rlife_fw (⟨f.w, f.c, f.ends, f.help, false⟩) _) ?_
        rintro e Wm213 ⟨rfl, bb⟩
        have Am213 := Am210.kept bb
        have Bm213 := Bm210.kept bb
        have Cm213 := Cm210.kept bb
        have Y2_m213 := Y2_m210.kept bb
        have bm213 := bel_tr bm210 bb
        clear bb
        have hlf := life_bd0 (⟨f.w, f.c, f.ends, f.help, false⟩)
        have hnw := now_bd (n := now) (by assumption)
        clear Am210 Bm210 Cm210 Y2_m210 bm210
        have y215 := Am213.cell 19 (.int .i64 f.ends) rfl
        have z216 := Am213.frozen 19
        obtain ⟨Wm214, hWm214⟩ : ∃ W, Wm213.setCell ⟨w.heap.size, 19, none⟩ (.int .i64 (now + (Fl.life (⟨f.w, f.c, f.ends, f.help, false⟩)))) = W := ⟨_, rfl⟩
        have Am214 : Blk Wm214 w.heap.size 33 (Fl.v ⟨f.w, f.c, now + (Fl.life (⟨f.w, f.c, f.ends, f.help, false⟩)), f.help, false⟩) := hWm214 ▸ Am213.put 19 (.int .i64 (now + (Fl.life (⟨f.w, f.c, f.ends, f.help, false⟩))))
        have Bm214 := hWm214 ▸ Bm213.put_other Am213 nBA 19 (.int .i64 (now + (Fl.life (⟨f.w, f.c, f.ends, f.help, false⟩))))
        have Cm214 := hWm214 ▸ Cm213.put_other Am213 nCA 19 (.int .i64 (now + (Fl.life (⟨f.w, f.c, f.ends, f.help, false⟩))))
        have Y2_m214 := hWm214 ▸ Y2_m213.put_other Am213 nY2_A 19 (.int .i64 (now + (Fl.life (⟨f.w, f.c, f.ends, f.help, false⟩))))
        have bm214 := hWm214 ▸ bm213.setCell (p := ⟨w.heap.size, 19, none⟩) gA (.int .i64 (now + (Fl.life (⟨f.w, f.c, f.ends, f.help, false⟩))))
        obtain ⟨Wm217, hWm217⟩ : ∃ W, Wm214.setRow Wm2.heap.size (Fl.v ⟨f.w, f.c, now + (Fl.life (⟨f.w, f.c, f.ends, f.help, false⟩)), f.help, false⟩) = W := ⟨_, rfl⟩
        have Cm217 : Blk Wm217 Wm2.heap.size 33 (Fl.v ⟨f.w, f.c, now + (Fl.life (⟨f.w, f.c, f.ends, f.help, false⟩)), f.help, false⟩) := hWm217 ▸ Cm214.set (Fl.v ⟨f.w, f.c, now + (Fl.life (⟨f.w, f.c, f.ends, f.help, false⟩)), f.help, false⟩)
        have Am217 := hWm217 ▸ Am214.other nAC (Fl.v ⟨f.w, f.c, now + (Fl.life (⟨f.w, f.c, f.ends, f.help, false⟩)), f.help, false⟩)
        have Bm217 := hWm217 ▸ Bm214.other nBC (Fl.v ⟨f.w, f.c, now + (Fl.life (⟨f.w, f.c, f.ends, f.help, false⟩)), f.help, false⟩)
        have Y2_m217 := hWm217 ▸ Y2_m214.other nY2_C (Fl.v ⟨f.w, f.c, now + (Fl.life (⟨f.w, f.c, f.ends, f.help, false⟩)), f.help, false⟩)
        have bm217 := hWm217 ▸ below_setRow bm214 gC (Fl.v ⟨f.w, f.c, now + (Fl.life (⟨f.w, f.c, f.ends, f.help, false⟩)), f.help, false⟩)
        go_wp2_with (first | (refine wpList_load_blk_w (by rfl) _ _ rfl w.heap.size (by rfl) _ Am214 Try.underlying33 (by kernel_rfl) ?_) | (refine wpList_store_row rfl _ _ _ rfl Wm2.heap.size (Fl.v ⟨f.w, f.c, now + (Fl.life (⟨f.w, f.c, f.ends, f.help, false⟩)), f.help, false⟩) (by rfl) (by rfl) _ _ Cm214 (by kernel_rfl) (by rfl) (by kernel_rfl) ?_; rw [hWm217]))
        have hR2 : R = ((⟨f.w, f.c, now + (Fl.life (⟨f.w, f.c, f.ends, f.help, false⟩)), f.help, false⟩ : Fl), (0 : Int)) := by rw [← HR.out]; first | rfl | (simp [docGo, Fl.keep, hq5, hq9, hq144, hq149, hq152, hq206]; done)
        subst hR2
        exact ret_cell_tmp (k := 8) (j := 9) Try.f16 (by kernel_rfl) Cm217 Try.underlying33 (by kernel_rfl) (by rfl) (by rfl) rfl ⟨rfl, bm217⟩
       | true =>
        have hE218 := neq_way s.w f.w
        have c219 := Ax4.cell 1 (.int .i64 f.w.pr) rfl
        have c220 := Ax4.cell 21 (.bool f.both) rfl
        have y222 := Ax4.cell 21 (.bool f.both) rfl
        have z223 := Ax4.frozen 21
        obtain ⟨Wm221, hWm221⟩ : ∃ W, Wx4.setCell ⟨w.heap.size, 21, none⟩ (.bool true) = W := ⟨_, rfl⟩
        have Am221 : Blk Wm221 w.heap.size 33 (Fl.v ⟨f.w, f.c, f.ends, f.help, true⟩) := hWm221 ▸ Ax4.put 21 (.bool true)
        have Bm221 := hWm221 ▸ Bx4.put_other Ax4 nBA 21 (.bool true)
        have Cm221 := hWm221 ▸ Cx4.put_other Ax4 nCA 21 (.bool true)
        have Y2_m221 := hWm221 ▸ Y2_x4.put_other Ax4 nY2_A 21 (.bool true)
        have bm221 := hWm221 ▸ bx4.setCell (p := ⟨w.heap.size, 21, none⟩) gA (.bool true)
        go_wp2_with (first | (refine wpList_load_sub_w (by rfl) _ _ rfl Wm1.heap.size 0 _ (by rfl) _ s.w.v Bx4 (by rfl) Try.underlying26 (by kernel_rfl) ?_) | (refine wpList_load_blk_w (by rfl) _ _ rfl Wdq11.heap.size (by rfl) _ Y2_x4 Try.underlying26 (by kernel_rfl) ?_) | (refine wpList_load_blk_w (by rfl) _ _ rfl w.heap.size (by rfl) _ Am221 Try.underlying33 (by kernel_rfl) ?_))
        clear hE218 c219 c220 y222 z223
        refine Calls.mono (rlife_fw (⟨f.w, f.c, f.ends, f.help, true⟩) _) ?_
        rintro e Wm224 ⟨rfl, bb⟩
        have Am224 := Am221.kept bb
        have Bm224 := Bm221.kept bb
        have Cm224 := Cm221.kept bb
        have Y2_m224 := Y2_m221.kept bb
        have bm224 := bel_tr bm221 bb
        clear bb
        have hlf := life_bd0 (⟨f.w, f.c, f.ends, f.help, true⟩)
        have hnw := now_bd (n := now) (by assumption)
        clear Am221 Bm221 Cm221 Y2_m221 bm221
        have y226 := Am224.cell 19 (.int .i64 f.ends) rfl
        have z227 := Am224.frozen 19
        obtain ⟨Wm225, hWm225⟩ : ∃ W, Wm224.setCell ⟨w.heap.size, 19, none⟩ (.int .i64 (now + (Fl.life (⟨f.w, f.c, f.ends, f.help, true⟩)))) = W := ⟨_, rfl⟩
        have Am225 : Blk Wm225 w.heap.size 33 (Fl.v ⟨f.w, f.c, now + (Fl.life (⟨f.w, f.c, f.ends, f.help, true⟩)), f.help, true⟩) := hWm225 ▸ Am224.put 19 (.int .i64 (now + (Fl.life (⟨f.w, f.c, f.ends, f.help, true⟩))))
        have Bm225 := hWm225 ▸ Bm224.put_other Am224 nBA 19 (.int .i64 (now + (Fl.life (⟨f.w, f.c, f.ends, f.help, true⟩))))
        have Cm225 := hWm225 ▸ Cm224.put_other Am224 nCA 19 (.int .i64 (now + (Fl.life (⟨f.w, f.c, f.ends, f.help, true⟩))))
        have Y2_m225 := hWm225 ▸ Y2_m224.put_other Am224 nY2_A 19 (.int .i64 (now + (Fl.life (⟨f.w, f.c, f.ends, f.help, true⟩))))
        have bm225 := hWm225 ▸ bm224.setCell (p := ⟨w.heap.size, 19, none⟩) gA (.int .i64 (now + (Fl.life (⟨f.w, f.c, f.ends, f.help, true⟩))))
        obtain ⟨Wm228, hWm228⟩ : ∃ W, Wm225.setRow Wm2.heap.size (Fl.v ⟨f.w, f.c, now + (Fl.life (⟨f.w, f.c, f.ends, f.help, true⟩)), f.help, true⟩) = W := ⟨_, rfl⟩
        have Cm228 : Blk Wm228 Wm2.heap.size 33 (Fl.v ⟨f.w, f.c, now + (Fl.life (⟨f.w, f.c, f.ends, f.help, true⟩)), f.help, true⟩) := hWm228 ▸ Cm225.set (Fl.v ⟨f.w, f.c, now + (Fl.life (⟨f.w, f.c, f.ends, f.help, true⟩)), f.help, true⟩)
        have Am228 := hWm228 ▸ Am225.other nAC (Fl.v ⟨f.w, f.c, now + (Fl.life (⟨f.w, f.c, f.ends, f.help, true⟩)), f.help, true⟩)
        have Bm228 := hWm228 ▸ Bm225.other nBC (Fl.v ⟨f.w, f.c, now + (Fl.life (⟨f.w, f.c, f.ends, f.help, true⟩)), f.help, true⟩)
        have Y2_m228 := hWm228 ▸ Y2_m225.other nY2_C (Fl.v ⟨f.w, f.c, now + (Fl.life (⟨f.w, f.c, f.ends, f.help, true⟩)), f.help, true⟩)
        have bm228 := hWm228 ▸ below_setRow bm225 gC (Fl.v ⟨f.w, f.c, now + (Fl.life (⟨f.w, f.c, f.ends, f.help, true⟩)), f.help, true⟩)
        go_wp2_with (first | (refine wpList_load_blk_w (by rfl) _ _ rfl w.heap.size (by rfl) _ Am225 Try.underlying33 (by kernel_rfl) ?_) | (refine wpList_store_row rfl _ _ _ rfl Wm2.heap.size (Fl.v ⟨f.w, f.c, now + (Fl.life (⟨f.w, f.c, f.ends, f.help, true⟩)), f.help, true⟩) (by rfl) (by rfl) _ _ Cm225 (by kernel_rfl) (by rfl) (by kernel_rfl) ?_; rw [hWm228]))
        have hR2 : R = ((⟨f.w, f.c, now + (Fl.life (⟨f.w, f.c, f.ends, f.help, true⟩)), f.help, true⟩ : Fl), (0 : Int)) := by rw [← HR.out]; first | rfl | (simp [docGo, Fl.keep, hq5, hq9, hq144, hq149, hq152, hq206]; done)
        subst hR2
        exact ret_cell_tmp (k := 8) (j := 9) Try.f16 (by kernel_rfl) Cm228 Try.underlying33 (by kernel_rfl) (by rfl) (by rfl) rfl ⟨rfl, bm228⟩
     | true =>
      have hE229 := neq_way s.w f.w
      have c230 := Ax4.cell 1 (.int .i64 f.w.pr) rfl
      have c231 := Bx4.cell 10 (.int .i64 s.fl) rfl
      have c232 := Bx4.cell 13 (.int .i64 s.win) rfl
      have c233 := Bx4.cell 27 (.slice s.da s.dn s.dc) rfl
      have c234 := Bx4.cell 11 (.int .u32 s.sq) rfl
      have c235 := Bx4.cell 12 (.int .u32 s.ak) rfl
      go_wp2_with (first | (refine wpList_load_sub_w (by rfl) _ _ rfl Wm1.heap.size 0 _ (by rfl) _ s.w.v Bx4 (by rfl) Try.underlying26 (by kernel_rfl) ?_) | (refine wpList_load_blk_w (by rfl) _ _ rfl Wdq11.heap.size (by rfl) _ Y2_x4 Try.underlying26 (by kernel_rfl) ?_) | (refine wpList_load_sub_w (by rfl) _ _ rfl w.heap.size 10 _ (by rfl) _ f.c.v Ax4 (by rfl) Try.underlying31 (by kernel_rfl) ?_))
      clear hE229 c230 c231 c232 c233 c234 c235
      refine Calls.mono (rstep_fw f.c 0 (⟨s.fl, s.win, (s.dn : Int), s.sq, s.ak⟩) _) ?_
      rintro e Wm236 ⟨rfl, bb⟩
      have Am236 := Ax4.kept bb
      have Bm236 := Bx4.kept bb
      have Cm236 := Cx4.kept bb
      have Y2_m236 := Y2_x4.kept bb
      have bm236 := bel_tr bx4 bb
      clear bb
      clear Ax4 Bx4 Cx4 Y2_x4 bx4
      cases hq239 : ((Cn.step f.c 0 (⟨s.fl, s.win, (s.dn : Int), s.sq, s.ak⟩)).2 != 0) with
      | false =>
       cases hq244 : f.both with
       | false =>
        obtain ⟨Wm245, hWm245⟩ : ∃ W, Wm236.alloc (.cells #[.int .i64 0, .int .u32 0, .int .u32 0, .int .u32 0, .int .u32 0, .bool false, .bool false, .bool false, .bool false] 31) = W := ⟨_, rfl⟩
        have bm245 := bel_al bm236 hWm245
        have Am245 := Am236.al hWm245
        have Bm245 := Bm236.al hWm245
        have Cm245 := Cm236.al hWm245
        have Y2_m245 := Y2_m236.al hWm245
        have Dm245 := blk_nw hWm245
        have gD : w.heap.size ≤ Wm236.heap.size := bm236.size
        have nAD : w.heap.size ≠ Wm236.heap.size := by have := Am236.lt; omega
        have nDA : Wm236.heap.size ≠ w.heap.size := fun e => nAD e.symm
        have nBD : Wm1.heap.size ≠ Wm236.heap.size := by have := Bm236.lt; omega
        have nDB : Wm236.heap.size ≠ Wm1.heap.size := fun e => nBD e.symm
        have nCD : Wm2.heap.size ≠ Wm236.heap.size := by have := Cm236.lt; omega
        have nDC : Wm236.heap.size ≠ Wm2.heap.size := fun e => nCD e.symm
        have nY2_D : Wdq11.heap.size ≠ Wm236.heap.size := by have := Y2_m236.lt; omega
        have nDY2_ : Wm236.heap.size ≠ Wdq11.heap.size := fun e => nY2_D e.symm
        obtain ⟨Wm246, hWm246⟩ : ∃ W, Wm245.setRow Wm236.heap.size (Cn.step f.c 0 (⟨s.fl, s.win, (s.dn : Int), s.sq, s.ak⟩)).1.v = W := ⟨_, rfl⟩
        have Dm246 : Blk Wm246 Wm236.heap.size 31 (Cn.step f.c 0 (⟨s.fl, s.win, (s.dn : Int), s.sq, s.ak⟩)).1.v := hWm246 ▸ Dm245.set (Cn.step f.c 0 (⟨s.fl, s.win, (s.dn : Int), s.sq, s.ak⟩)).1.v
        have Am246 := hWm246 ▸ Am245.other nAD (Cn.step f.c 0 (⟨s.fl, s.win, (s.dn : Int), s.sq, s.ak⟩)).1.v
        have Bm246 := hWm246 ▸ Bm245.other nBD (Cn.step f.c 0 (⟨s.fl, s.win, (s.dn : Int), s.sq, s.ak⟩)).1.v
        have Cm246 := hWm246 ▸ Cm245.other nCD (Cn.step f.c 0 (⟨s.fl, s.win, (s.dn : Int), s.sq, s.ak⟩)).1.v
        have Y2_m246 := hWm246 ▸ Y2_m245.other nY2_D (Cn.step f.c 0 (⟨s.fl, s.win, (s.dn : Int), s.sq, s.ak⟩)).1.v
        have bm246 := hWm246 ▸ below_setRow bm245 gD (Cn.step f.c 0 (⟨s.fl, s.win, (s.dn : Int), s.sq, s.ak⟩)).1.v
        obtain ⟨Wm247, hWm247⟩ : ∃ W, Wm246.setRow w.heap.size (Fl.v ⟨f.w, (Cn.step f.c 0 (⟨s.fl, s.win, (s.dn : Int), s.sq, s.ak⟩)).1, f.ends, f.help, f.both⟩) = W := ⟨_, rfl⟩
        have Am247 : Blk Wm247 w.heap.size 33 (Fl.v ⟨f.w, (Cn.step f.c 0 (⟨s.fl, s.win, (s.dn : Int), s.sq, s.ak⟩)).1, f.ends, f.help, f.both⟩) := hWm247 ▸ Am246.set (Fl.v ⟨f.w, (Cn.step f.c 0 (⟨s.fl, s.win, (s.dn : Int), s.sq, s.ak⟩)).1, f.ends, f.help, f.both⟩)
        have Bm247 := hWm247 ▸ Bm246.other nBA (Fl.v ⟨f.w, (Cn.step f.c 0 (⟨s.fl, s.win, (s.dn : Int), s.sq, s.ak⟩)).1, f.ends, f.help, f.both⟩)
        have Cm247 := hWm247 ▸ Cm246.other nCA (Fl.v ⟨f.w, (Cn.step f.c 0 (⟨s.fl, s.win, (s.dn : Int), s.sq, s.ak⟩)).1, f.ends, f.help, f.both⟩)
        have Y2_m247 := hWm247 ▸ Y2_m246.other nY2_A (Fl.v ⟨f.w, (Cn.step f.c 0 (⟨s.fl, s.win, (s.dn : Int), s.sq, s.ak⟩)).1, f.ends, f.help, f.both⟩)
        have Dm247 := hWm247 ▸ Dm246.other nDA (Fl.v ⟨f.w, (Cn.step f.c 0 (⟨s.fl, s.win, (s.dn : Int), s.sq, s.ak⟩)).1, f.ends, f.help, f.both⟩)
        have bm247 := hWm247 ▸ below_setRow bm246 gA (Fl.v ⟨f.w, (Cn.step f.c 0 (⟨s.fl, s.win, (s.dn : Int), s.sq, s.ak⟩)).1, f.ends, f.help, f.both⟩)
        have c248 := Am247.cell 21 (.bool f.both) rfl
        have y250 := Am247.cell 21 (.bool f.both) rfl
        have z251 := Am247.frozen 21
        obtain ⟨Wm249, hWm249⟩ : ∃ W, Wm247.setCell ⟨w.heap.size, 21, none⟩ (.bool false) = W := ⟨_, rfl⟩
        have Am249 : Blk Wm249 w.heap.size 33 (Fl.v ⟨f.w, (Cn.step f.c 0 (⟨s.fl, s.win, (s.dn : Int), s.sq, s.ak⟩)).1, f.ends, f.help, false⟩) := hWm249 ▸ Am247.put 21 (.bool false)
        have Bm249 := hWm249 ▸ Bm247.put_other Am247 nBA 21 (.bool false)
        have Cm249 := hWm249 ▸ Cm247.put_other Am247 nCA 21 (.bool false)
        have Y2_m249 := hWm249 ▸ Y2_m247.put_other Am247 nY2_A 21 (.bool false)
        have Dm249 := hWm249 ▸ Dm247.put_other Am247 nDA 21 (.bool false)
        have bm249 := hWm249 ▸ bm247.setCell (p := ⟨w.heap.size, 21, none⟩) gA (.bool false)
        go_wp2_with (first | (refine wpList_store_row rfl _ _ _ rfl Wm236.heap.size (Cn.step f.c 0 (⟨s.fl, s.win, (s.dn : Int), s.sq, s.ak⟩)).1.v (by rfl) (by rfl) _ _ Dm245 (by kernel_rfl) (by rfl) (by kernel_rfl) ?_; rw [hWm246]) | (refine wpList_load_blk_w (by rfl) _ _ rfl Wm236.heap.size (by rfl) _ Dm246 Try.underlying31 (by kernel_rfl) ?_) | (refine wpList_store_off rfl _ _ _ rfl w.heap.size 10 _ (Cn.step f.c 0 (⟨s.fl, s.win, (s.dn : Int), s.sq, s.ak⟩)).1.v _ (Fl.v ⟨f.w, (Cn.step f.c 0 (⟨s.fl, s.win, (s.dn : Int), s.sq, s.ak⟩)).1, f.ends, f.help, f.both⟩) (by rfl) (by rfl) Am246 (by kernel_rfl) (Nat.le_of_ble_eq_true (by kernel_rfl)) (by kernel_rfl) (setConn_fw f (Cn.step f.c 0 (⟨s.fl, s.win, (s.dn : Int), s.sq, s.ak⟩)).1) ?_; rw [hWm247]) | (refine wpList_load_blk_w (by rfl) _ _ rfl w.heap.size (by rfl) _ Am249 Try.underlying33 (by kernel_rfl) ?_))
        clear c248 y250 z251
        refine Calls.mono (rlife_fw (⟨f.w, (Cn.step f.c 0 (⟨s.fl, s.win, (s.dn : Int), s.sq, s.ak⟩)).1, f.ends, f.help, false⟩) _) ?_
        rintro e Wm252 ⟨rfl, bb⟩
        have Am252 := Am249.kept bb
        have Bm252 := Bm249.kept bb
        have Cm252 := Cm249.kept bb
        have Y2_m252 := Y2_m249.kept bb
        have Dm252 := Dm249.kept bb
        have bm252 := bel_tr bm249 bb
        clear bb
        have hlf := life_bd0 (⟨f.w, (Cn.step f.c 0 (⟨s.fl, s.win, (s.dn : Int), s.sq, s.ak⟩)).1, f.ends, f.help, false⟩)
        have hnw := now_bd (n := now) (by assumption)
        clear Am249 Bm249 Cm249 Y2_m249 Dm249 bm249
        have y254 := Am252.cell 19 (.int .i64 f.ends) rfl
        have z255 := Am252.frozen 19
        obtain ⟨Wm253, hWm253⟩ : ∃ W, Wm252.setCell ⟨w.heap.size, 19, none⟩ (.int .i64 (now + (Fl.life (⟨f.w, (Cn.step f.c 0 (⟨s.fl, s.win, (s.dn : Int), s.sq, s.ak⟩)).1, f.ends, f.help, false⟩)))) = W := ⟨_, rfl⟩
        have Am253 : Blk Wm253 w.heap.size 33 (Fl.v ⟨f.w, (Cn.step f.c 0 (⟨s.fl, s.win, (s.dn : Int), s.sq, s.ak⟩)).1, now + (Fl.life (⟨f.w, (Cn.step f.c 0 (⟨s.fl, s.win, (s.dn : Int), s.sq, s.ak⟩)).1, f.ends, f.help, false⟩)), f.help, false⟩) := hWm253 ▸ Am252.put 19 (.int .i64 (now + (Fl.life (⟨f.w, (Cn.step f.c 0 (⟨s.fl, s.win, (s.dn : Int), s.sq, s.ak⟩)).1, f.ends, f.help, false⟩))))
        have Bm253 := hWm253 ▸ Bm252.put_other Am252 nBA 19 (.int .i64 (now + (Fl.life (⟨f.w, (Cn.step f.c 0 (⟨s.fl, s.win, (s.dn : Int), s.sq, s.ak⟩)).1, f.ends, f.help, false⟩))))
        have Cm253 := hWm253 ▸ Cm252.put_other Am252 nCA 19 (.int .i64 (now + (Fl.life (⟨f.w, (Cn.step f.c 0 (⟨s.fl, s.win, (s.dn : Int), s.sq, s.ak⟩)).1, f.ends, f.help, false⟩))))
        have Y2_m253 := hWm253 ▸ Y2_m252.put_other Am252 nY2_A 19 (.int .i64 (now + (Fl.life (⟨f.w, (Cn.step f.c 0 (⟨s.fl, s.win, (s.dn : Int), s.sq, s.ak⟩)).1, f.ends, f.help, false⟩))))
        have Dm253 := hWm253 ▸ Dm252.put_other Am252 nDA 19 (.int .i64 (now + (Fl.life (⟨f.w, (Cn.step f.c 0 (⟨s.fl, s.win, (s.dn : Int), s.sq, s.ak⟩)).1, f.ends, f.help, false⟩))))
        have bm253 := hWm253 ▸ bm252.setCell (p := ⟨w.heap.size, 19, none⟩) gA (.int .i64 (now + (Fl.life (⟨f.w, (Cn.step f.c 0 (⟨s.fl, s.win, (s.dn : Int), s.sq, s.ak⟩)).1, f.ends, f.help, false⟩))))
        obtain ⟨Wm256, hWm256⟩ : ∃ W, Wm253.setRow Wm2.heap.size (Fl.v ⟨f.w, (Cn.step f.c 0 (⟨s.fl, s.win, (s.dn : Int), s.sq, s.ak⟩)).1, now + (Fl.life (⟨f.w, (Cn.step f.c 0 (⟨s.fl, s.win, (s.dn : Int), s.sq, s.ak⟩)).1, f.ends, f.help, false⟩)), f.help, false⟩) = W := ⟨_, rfl⟩
        have Cm256 : Blk Wm256 Wm2.heap.size 33 (Fl.v ⟨f.w, (Cn.step f.c 0 (⟨s.fl, s.win, (s.dn : Int), s.sq, s.ak⟩)).1, now + (Fl.life (⟨f.w, (Cn.step f.c 0 (⟨s.fl, s.win, (s.dn : Int), s.sq, s.ak⟩)).1, f.ends, f.help, false⟩)), f.help, false⟩) := hWm256 ▸ Cm253.set (Fl.v ⟨f.w, (Cn.step f.c 0 (⟨s.fl, s.win, (s.dn : Int), s.sq, s.ak⟩)).1, now + (Fl.life (⟨f.w, (Cn.step f.c 0 (⟨s.fl, s.win, (s.dn : Int), s.sq, s.ak⟩)).1, f.ends, f.help, false⟩)), f.help, false⟩)
        have Am256 := hWm256 ▸ Am253.other nAC (Fl.v ⟨f.w, (Cn.step f.c 0 (⟨s.fl, s.win, (s.dn : Int), s.sq, s.ak⟩)).1, now + (Fl.life (⟨f.w, (Cn.step f.c 0 (⟨s.fl, s.win, (s.dn : Int), s.sq, s.ak⟩)).1, f.ends, f.help, false⟩)), f.help, false⟩)
        have Bm256 := hWm256 ▸ Bm253.other nBC (Fl.v ⟨f.w, (Cn.step f.c 0 (⟨s.fl, s.win, (s.dn : Int), s.sq, s.ak⟩)).1, now + (Fl.life (⟨f.w, (Cn.step f.c 0 (⟨s.fl, s.win, (s.dn : Int), s.sq, s.ak⟩)).1, f.ends, f.help, false⟩)), f.help, false⟩)
        have Y2_m256 := hWm256 ▸ Y2_m253.other nY2_C (Fl.v ⟨f.w, (Cn.step f.c 0 (⟨s.fl, s.win, (s.dn : Int), s.sq, s.ak⟩)).1, now + (Fl.life (⟨f.w, (Cn.step f.c 0 (⟨s.fl, s.win, (s.dn : Int), s.sq, s.ak⟩)).1, f.ends, f.help, false⟩)), f.help, false⟩)
        have Dm256 := hWm256 ▸ Dm253.other nDC (Fl.v ⟨f.w, (Cn.step f.c 0 (⟨s.fl, s.win, (s.dn : Int), s.sq, s.ak⟩)).1, now + (Fl.life (⟨f.w, (Cn.step f.c 0 (⟨s.fl, s.win, (s.dn : Int), s.sq, s.ak⟩)).1, f.ends, f.help, false⟩)), f.help, false⟩)
        have bm256 := hWm256 ▸ below_setRow bm253 gC (Fl.v ⟨f.w, (Cn.step f.c 0 (⟨s.fl, s.win, (s.dn : Int), s.sq, s.ak⟩)).1, now + (Fl.life (⟨f.w, (Cn.step f.c 0 (⟨s.fl, s.win, (s.dn : Int), s.sq, s.ak⟩)).1, f.ends, f.help, false⟩)), f.help, false⟩)
        go_wp2_with (first | (refine wpList_load_blk_w (by rfl) _ _ rfl w.heap.size (by rfl) _ Am253 Try.underlying33 (by kernel_rfl) ?_) | (refine wpList_store_row rfl _ _ _ rfl Wm2.heap.size (Fl.v ⟨f.w, (Cn.step f.c 0 (⟨s.fl, s.win, (s.dn : Int), s.sq, s.ak⟩)).1, now + (Fl.life (⟨f.w, (Cn.step f.c 0 (⟨s.fl, s.win, (s.dn : Int), s.sq, s.ak⟩)).1, f.ends, f.help, false⟩)), f.help, false⟩) (by rfl) (by rfl) _ _ Cm253 (by kernel_rfl) (by rfl) (by kernel_rfl) ?_; rw [hWm256]))
        have hR2 : R = ((⟨f.w, (Cn.step f.c 0 (⟨s.fl, s.win, (s.dn : Int), s.sq, s.ak⟩)).1, now + (Fl.life (⟨f.w, (Cn.step f.c 0 (⟨s.fl, s.win, (s.dn : Int), s.sq, s.ak⟩)).1, f.ends, f.help, false⟩)), f.help, false⟩ : Fl), (0 : Int)) := by rw [← HR.out]; first | rfl | (simp [docGo, Fl.keep, hq5, hq9, hq144, hq149, bne_f_fw hq239, hq244]; done)
        subst hR2
        exact ret_cell_tmp (k := 8) (j := 9) Try.f16 (by kernel_rfl) Cm256 Try.underlying33 (by kernel_rfl) (by rfl) (by rfl) rfl ⟨rfl, bm256⟩
       | true =>
        obtain ⟨Wm257, hWm257⟩ : ∃ W, Wm236.alloc (.cells #[.int .i64 0, .int .u32 0, .int .u32 0, .int .u32 0, .int .u32 0, .bool false, .bool false, .bool false, .bool false] 31) = W := ⟨_, rfl⟩
        have bm257 := bel_al bm236 hWm257
        have Am257 := Am236.al hWm257
        have Bm257 := Bm236.al hWm257
        have Cm257 := Cm236.al hWm257
        have Y2_m257 := Y2_m236.al hWm257
        have Dm257 := blk_nw hWm257
        have gD : w.heap.size ≤ Wm236.heap.size := bm236.size
        have nAD : w.heap.size ≠ Wm236.heap.size := by have := Am236.lt; omega
        have nDA : Wm236.heap.size ≠ w.heap.size := fun e => nAD e.symm
        have nBD : Wm1.heap.size ≠ Wm236.heap.size := by have := Bm236.lt; omega
        have nDB : Wm236.heap.size ≠ Wm1.heap.size := fun e => nBD e.symm
        have nCD : Wm2.heap.size ≠ Wm236.heap.size := by have := Cm236.lt; omega
        have nDC : Wm236.heap.size ≠ Wm2.heap.size := fun e => nCD e.symm
        have nY2_D : Wdq11.heap.size ≠ Wm236.heap.size := by have := Y2_m236.lt; omega
        have nDY2_ : Wm236.heap.size ≠ Wdq11.heap.size := fun e => nY2_D e.symm
        obtain ⟨Wm258, hWm258⟩ : ∃ W, Wm257.setRow Wm236.heap.size (Cn.step f.c 0 (⟨s.fl, s.win, (s.dn : Int), s.sq, s.ak⟩)).1.v = W := ⟨_, rfl⟩
        have Dm258 : Blk Wm258 Wm236.heap.size 31 (Cn.step f.c 0 (⟨s.fl, s.win, (s.dn : Int), s.sq, s.ak⟩)).1.v := hWm258 ▸ Dm257.set (Cn.step f.c 0 (⟨s.fl, s.win, (s.dn : Int), s.sq, s.ak⟩)).1.v
        have Am258 := hWm258 ▸ Am257.other nAD (Cn.step f.c 0 (⟨s.fl, s.win, (s.dn : Int), s.sq, s.ak⟩)).1.v
        have Bm258 := hWm258 ▸ Bm257.other nBD (Cn.step f.c 0 (⟨s.fl, s.win, (s.dn : Int), s.sq, s.ak⟩)).1.v
        have Cm258 := hWm258 ▸ Cm257.other nCD (Cn.step f.c 0 (⟨s.fl, s.win, (s.dn : Int), s.sq, s.ak⟩)).1.v
        have Y2_m258 := hWm258 ▸ Y2_m257.other nY2_D (Cn.step f.c 0 (⟨s.fl, s.win, (s.dn : Int), s.sq, s.ak⟩)).1.v
        have bm258 := hWm258 ▸ below_setRow bm257 gD (Cn.step f.c 0 (⟨s.fl, s.win, (s.dn : Int), s.sq, s.ak⟩)).1.v
        obtain ⟨Wm259, hWm259⟩ : ∃ W, Wm258.setRow w.heap.size (Fl.v ⟨f.w, (Cn.step f.c 0 (⟨s.fl, s.win, (s.dn : Int), s.sq, s.ak⟩)).1, f.ends, f.help, f.both⟩) = W := ⟨_, rfl⟩
        have Am259 : Blk Wm259 w.heap.size 33 (Fl.v ⟨f.w, (Cn.step f.c 0 (⟨s.fl, s.win, (s.dn : Int), s.sq, s.ak⟩)).1, f.ends, f.help, f.both⟩) := hWm259 ▸ Am258.set (Fl.v ⟨f.w, (Cn.step f.c 0 (⟨s.fl, s.win, (s.dn : Int), s.sq, s.ak⟩)).1, f.ends, f.help, f.both⟩)
        have Bm259 := hWm259 ▸ Bm258.other nBA (Fl.v ⟨f.w, (Cn.step f.c 0 (⟨s.fl, s.win, (s.dn : Int), s.sq, s.ak⟩)).1, f.ends, f.help, f.both⟩)
        have Cm259 := hWm259 ▸ Cm258.other nCA (Fl.v ⟨f.w, (Cn.step f.c 0 (⟨s.fl, s.win, (s.dn : Int), s.sq, s.ak⟩)).1, f.ends, f.help, f.both⟩)
        have Y2_m259 := hWm259 ▸ Y2_m258.other nY2_A (Fl.v ⟨f.w, (Cn.step f.c 0 (⟨s.fl, s.win, (s.dn : Int), s.sq, s.ak⟩)).1, f.ends, f.help, f.both⟩)
        have Dm259 := hWm259 ▸ Dm258.other nDA (Fl.v ⟨f.w, (Cn.step f.c 0 (⟨s.fl, s.win, (s.dn : Int), s.sq, s.ak⟩)).1, f.ends, f.help, f.both⟩)
        have bm259 := hWm259 ▸ below_setRow bm258 gA (Fl.v ⟨f.w, (Cn.step f.c 0 (⟨s.fl, s.win, (s.dn : Int), s.sq, s.ak⟩)).1, f.ends, f.help, f.both⟩)
        have c260 := Am259.cell 21 (.bool f.both) rfl
        have y262 := Am259.cell 21 (.bool f.both) rfl
        have z263 := Am259.frozen 21
        obtain ⟨Wm261, hWm261⟩ : ∃ W, Wm259.setCell ⟨w.heap.size, 21, none⟩ (.bool true) = W := ⟨_, rfl⟩
        have Am261 : Blk Wm261 w.heap.size 33 (Fl.v ⟨f.w, (Cn.step f.c 0 (⟨s.fl, s.win, (s.dn : Int), s.sq, s.ak⟩)).1, f.ends, f.help, true⟩) := hWm261 ▸ Am259.put 21 (.bool true)
        have Bm261 := hWm261 ▸ Bm259.put_other Am259 nBA 21 (.bool true)
        have Cm261 := hWm261 ▸ Cm259.put_other Am259 nCA 21 (.bool true)
        have Y2_m261 := hWm261 ▸ Y2_m259.put_other Am259 nY2_A 21 (.bool true)
        have Dm261 := hWm261 ▸ Dm259.put_other Am259 nDA 21 (.bool true)
        have bm261 := hWm261 ▸ bm259.setCell (p := ⟨w.heap.size, 21, none⟩) gA (.bool true)
        go_wp2_with (first | (refine wpList_store_row rfl _ _ _ rfl Wm236.heap.size (Cn.step f.c 0 (⟨s.fl, s.win, (s.dn : Int), s.sq, s.ak⟩)).1.v (by rfl) (by rfl) _ _ Dm257 (by kernel_rfl) (by rfl) (by kernel_rfl) ?_; rw [hWm258]) | (refine wpList_load_blk_w (by rfl) _ _ rfl Wm236.heap.size (by rfl) _ Dm258 Try.underlying31 (by kernel_rfl) ?_) | (refine wpList_store_off rfl _ _ _ rfl w.heap.size 10 _ (Cn.step f.c 0 (⟨s.fl, s.win, (s.dn : Int), s.sq, s.ak⟩)).1.v _ (Fl.v ⟨f.w, (Cn.step f.c 0 (⟨s.fl, s.win, (s.dn : Int), s.sq, s.ak⟩)).1, f.ends, f.help, f.both⟩) (by rfl) (by rfl) Am258 (by kernel_rfl) (Nat.le_of_ble_eq_true (by kernel_rfl)) (by kernel_rfl) (setConn_fw f (Cn.step f.c 0 (⟨s.fl, s.win, (s.dn : Int), s.sq, s.ak⟩)).1) ?_; rw [hWm259]) | (refine wpList_load_blk_w (by rfl) _ _ rfl w.heap.size (by rfl) _ Am261 Try.underlying33 (by kernel_rfl) ?_))
        clear c260 y262 z263
        refine Calls.mono (rlife_fw (⟨f.w, (Cn.step f.c 0 (⟨s.fl, s.win, (s.dn : Int), s.sq, s.ak⟩)).1, f.ends, f.help, true⟩) _) ?_
        rintro e Wm264 ⟨rfl, bb⟩
        have Am264 := Am261.kept bb
        have Bm264 := Bm261.kept bb
        have Cm264 := Cm261.kept bb
        have Y2_m264 := Y2_m261.kept bb
        have Dm264 := Dm261.kept bb
        have bm264 := bel_tr bm261 bb
        clear bb
        have hlf := life_bd0 (⟨f.w, (Cn.step f.c 0 (⟨s.fl, s.win, (s.dn : Int), s.sq, s.ak⟩)).1, f.ends, f.help, true⟩)
        have hnw := now_bd (n := now) (by assumption)
        clear Am261 Bm261 Cm261 Y2_m261 Dm261 bm261
        have y266 := Am264.cell 19 (.int .i64 f.ends) rfl
        have z267 := Am264.frozen 19
        obtain ⟨Wm265, hWm265⟩ : ∃ W, Wm264.setCell ⟨w.heap.size, 19, none⟩ (.int .i64 (now + (Fl.life (⟨f.w, (Cn.step f.c 0 (⟨s.fl, s.win, (s.dn : Int), s.sq, s.ak⟩)).1, f.ends, f.help, true⟩)))) = W := ⟨_, rfl⟩
        have Am265 : Blk Wm265 w.heap.size 33 (Fl.v ⟨f.w, (Cn.step f.c 0 (⟨s.fl, s.win, (s.dn : Int), s.sq, s.ak⟩)).1, now + (Fl.life (⟨f.w, (Cn.step f.c 0 (⟨s.fl, s.win, (s.dn : Int), s.sq, s.ak⟩)).1, f.ends, f.help, true⟩)), f.help, true⟩) := hWm265 ▸ Am264.put 19 (.int .i64 (now + (Fl.life (⟨f.w, (Cn.step f.c 0 (⟨s.fl, s.win, (s.dn : Int), s.sq, s.ak⟩)).1, f.ends, f.help, true⟩))))
        have Bm265 := hWm265 ▸ Bm264.put_other Am264 nBA 19 (.int .i64 (now + (Fl.life (⟨f.w, (Cn.step f.c 0 (⟨s.fl, s.win, (s.dn : Int), s.sq, s.ak⟩)).1, f.ends, f.help, true⟩))))
        have Cm265 := hWm265 ▸ Cm264.put_other Am264 nCA 19 (.int .i64 (now + (Fl.life (⟨f.w, (Cn.step f.c 0 (⟨s.fl, s.win, (s.dn : Int), s.sq, s.ak⟩)).1, f.ends, f.help, true⟩))))
        have Y2_m265 := hWm265 ▸ Y2_m264.put_other Am264 nY2_A 19 (.int .i64 (now + (Fl.life (⟨f.w, (Cn.step f.c 0 (⟨s.fl, s.win, (s.dn : Int), s.sq, s.ak⟩)).1, f.ends, f.help, true⟩))))
        have Dm265 := hWm265 ▸ Dm264.put_other Am264 nDA 19 (.int .i64 (now + (Fl.life (⟨f.w, (Cn.step f.c 0 (⟨s.fl, s.win, (s.dn : Int), s.sq, s.ak⟩)).1, f.ends, f.help, true⟩))))
        have bm265 := hWm265 ▸ bm264.setCell (p := ⟨w.heap.size, 19, none⟩) gA (.int .i64 (now + (Fl.life (⟨f.w, (Cn.step f.c 0 (⟨s.fl, s.win, (s.dn : Int), s.sq, s.ak⟩)).1, f.ends, f.help, true⟩))))
        obtain ⟨Wm268, hWm268⟩ : ∃ W, Wm265.setRow Wm2.heap.size (Fl.v ⟨f.w, (Cn.step f.c 0 (⟨s.fl, s.win, (s.dn : Int), s.sq, s.ak⟩)).1, now + (Fl.life (⟨f.w, (Cn.step f.c 0 (⟨s.fl, s.win, (s.dn : Int), s.sq, s.ak⟩)).1, f.ends, f.help, true⟩)), f.help, true⟩) = W := ⟨_, rfl⟩
        have Cm268 : Blk Wm268 Wm2.heap.size 33 (Fl.v ⟨f.w, (Cn.step f.c 0 (⟨s.fl, s.win, (s.dn : Int), s.sq, s.ak⟩)).1, now + (Fl.life (⟨f.w, (Cn.step f.c 0 (⟨s.fl, s.win, (s.dn : Int), s.sq, s.ak⟩)).1, f.ends, f.help, true⟩)), f.help, true⟩) := hWm268 ▸ Cm265.set (Fl.v ⟨f.w, (Cn.step f.c 0 (⟨s.fl, s.win, (s.dn : Int), s.sq, s.ak⟩)).1, now + (Fl.life (⟨f.w, (Cn.step f.c 0 (⟨s.fl, s.win, (s.dn : Int), s.sq, s.ak⟩)).1, f.ends, f.help, true⟩)), f.help, true⟩)
        have Am268 := hWm268 ▸ Am265.other nAC (Fl.v ⟨f.w, (Cn.step f.c 0 (⟨s.fl, s.win, (s.dn : Int), s.sq, s.ak⟩)).1, now + (Fl.life (⟨f.w, (Cn.step f.c 0 (⟨s.fl, s.win, (s.dn : Int), s.sq, s.ak⟩)).1, f.ends, f.help, true⟩)), f.help, true⟩)
        have Bm268 := hWm268 ▸ Bm265.other nBC (Fl.v ⟨f.w, (Cn.step f.c 0 (⟨s.fl, s.win, (s.dn : Int), s.sq, s.ak⟩)).1, now + (Fl.life (⟨f.w, (Cn.step f.c 0 (⟨s.fl, s.win, (s.dn : Int), s.sq, s.ak⟩)).1, f.ends, f.help, true⟩)), f.help, true⟩)
        have Y2_m268 := hWm268 ▸ Y2_m265.other nY2_C (Fl.v ⟨f.w, (Cn.step f.c 0 (⟨s.fl, s.win, (s.dn : Int), s.sq, s.ak⟩)).1, now + (Fl.life (⟨f.w, (Cn.step f.c 0 (⟨s.fl, s.win, (s.dn : Int), s.sq, s.ak⟩)).1, f.ends, f.help, true⟩)), f.help, true⟩)
        have Dm268 := hWm268 ▸ Dm265.other nDC (Fl.v ⟨f.w, (Cn.step f.c 0 (⟨s.fl, s.win, (s.dn : Int), s.sq, s.ak⟩)).1, now + (Fl.life (⟨f.w, (Cn.step f.c 0 (⟨s.fl, s.win, (s.dn : Int), s.sq, s.ak⟩)).1, f.ends, f.help, true⟩)), f.help, true⟩)
        have bm268 := hWm268 ▸ below_setRow bm265 gC (Fl.v ⟨f.w, (Cn.step f.c 0 (⟨s.fl, s.win, (s.dn : Int), s.sq, s.ak⟩)).1, now + (Fl.life (⟨f.w, (Cn.step f.c 0 (⟨s.fl, s.win, (s.dn : Int), s.sq, s.ak⟩)).1, f.ends, f.help, true⟩)), f.help, true⟩)
        go_wp2_with (first | (refine wpList_load_blk_w (by rfl) _ _ rfl w.heap.size (by rfl) _ Am265 Try.underlying33 (by kernel_rfl) ?_) | (refine wpList_store_row rfl _ _ _ rfl Wm2.heap.size (Fl.v ⟨f.w, (Cn.step f.c 0 (⟨s.fl, s.win, (s.dn : Int), s.sq, s.ak⟩)).1, now + (Fl.life (⟨f.w, (Cn.step f.c 0 (⟨s.fl, s.win, (s.dn : Int), s.sq, s.ak⟩)).1, f.ends, f.help, true⟩)), f.help, true⟩) (by rfl) (by rfl) _ _ Cm265 (by kernel_rfl) (by rfl) (by kernel_rfl) ?_; rw [hWm268]))
        have hR2 : R = ((⟨f.w, (Cn.step f.c 0 (⟨s.fl, s.win, (s.dn : Int), s.sq, s.ak⟩)).1, now + (Fl.life (⟨f.w, (Cn.step f.c 0 (⟨s.fl, s.win, (s.dn : Int), s.sq, s.ak⟩)).1, f.ends, f.help, true⟩)), f.help, true⟩ : Fl), (0 : Int)) := by rw [← HR.out]; first | rfl | (simp [docGo, Fl.keep, hq5, hq9, hq144, hq149, bne_f_fw hq239, hq244]; done)
        subst hR2
        exact ret_cell_tmp (k := 8) (j := 9) Try.f16 (by kernel_rfl) Cm268 Try.underlying33 (by kernel_rfl) (by rfl) (by rfl) rfl ⟨rfl, bm268⟩
      | true =>
       obtain ⟨Wm269, hWm269⟩ : ∃ W, Wm236.alloc (.cells #[.int .i64 0, .int .u32 0, .int .u32 0, .int .u32 0, .int .u32 0, .bool false, .bool false, .bool false, .bool false] 31) = W := ⟨_, rfl⟩
       have bm269 := bel_al bm236 hWm269
       have Am269 := Am236.al hWm269
       have Bm269 := Bm236.al hWm269
       have Cm269 := Cm236.al hWm269
       have Y2_m269 := Y2_m236.al hWm269
       have Dm269 := blk_nw hWm269
       have gD : w.heap.size ≤ Wm236.heap.size := bm236.size
       have nAD : w.heap.size ≠ Wm236.heap.size := by have := Am236.lt; omega
       have nDA : Wm236.heap.size ≠ w.heap.size := fun e => nAD e.symm
       have nBD : Wm1.heap.size ≠ Wm236.heap.size := by have := Bm236.lt; omega
       have nDB : Wm236.heap.size ≠ Wm1.heap.size := fun e => nBD e.symm
       have nCD : Wm2.heap.size ≠ Wm236.heap.size := by have := Cm236.lt; omega
       have nDC : Wm236.heap.size ≠ Wm2.heap.size := fun e => nCD e.symm
       have nY2_D : Wdq11.heap.size ≠ Wm236.heap.size := by have := Y2_m236.lt; omega
       have nDY2_ : Wm236.heap.size ≠ Wdq11.heap.size := fun e => nY2_D e.symm
       obtain ⟨Wm270, hWm270⟩ : ∃ W, Wm269.setRow Wm236.heap.size (Cn.step f.c 0 (⟨s.fl, s.win, (s.dn : Int), s.sq, s.ak⟩)).1.v = W := ⟨_, rfl⟩
       have Dm270 : Blk Wm270 Wm236.heap.size 31 (Cn.step f.c 0 (⟨s.fl, s.win, (s.dn : Int), s.sq, s.ak⟩)).1.v := hWm270 ▸ Dm269.set (Cn.step f.c 0 (⟨s.fl, s.win, (s.dn : Int), s.sq, s.ak⟩)).1.v
       have Am270 := hWm270 ▸ Am269.other nAD (Cn.step f.c 0 (⟨s.fl, s.win, (s.dn : Int), s.sq, s.ak⟩)).1.v
       have Bm270 := hWm270 ▸ Bm269.other nBD (Cn.step f.c 0 (⟨s.fl, s.win, (s.dn : Int), s.sq, s.ak⟩)).1.v
       have Cm270 := hWm270 ▸ Cm269.other nCD (Cn.step f.c 0 (⟨s.fl, s.win, (s.dn : Int), s.sq, s.ak⟩)).1.v
       have Y2_m270 := hWm270 ▸ Y2_m269.other nY2_D (Cn.step f.c 0 (⟨s.fl, s.win, (s.dn : Int), s.sq, s.ak⟩)).1.v
       have bm270 := hWm270 ▸ below_setRow bm269 gD (Cn.step f.c 0 (⟨s.fl, s.win, (s.dn : Int), s.sq, s.ak⟩)).1.v
       obtain ⟨Wm271, hWm271⟩ : ∃ W, Wm270.setRow Wm2.heap.size fl0.v = W := ⟨_, rfl⟩
       have Cm271 : Blk Wm271 Wm2.heap.size 33 fl0.v := hWm271 ▸ Cm270.set fl0.v
       have Am271 := hWm271 ▸ Am270.other nAC fl0.v
       have Bm271 := hWm271 ▸ Bm270.other nBC fl0.v
       have Y2_m271 := hWm271 ▸ Y2_m270.other nY2_C fl0.v
       have Dm271 := hWm271 ▸ Dm270.other nDC fl0.v
       have bm271 := hWm271 ▸ below_setRow bm270 gC fl0.v
       go_wp2_with (first | (refine wpList_store_row rfl _ _ _ rfl Wm236.heap.size (Cn.step f.c 0 (⟨s.fl, s.win, (s.dn : Int), s.sq, s.ak⟩)).1.v (by rfl) (by rfl) _ _ Dm269 (by kernel_rfl) (by rfl) (by kernel_rfl) ?_; rw [hWm270]) | (refine wpList_store_row rfl _ _ _ rfl Wm2.heap.size fl0.v (by rfl) (by rfl) _ _ Cm270 (by kernel_rfl) (by rfl) (by kernel_rfl) ?_; rw [hWm271]))
       have hR2 : R = ((fl0 : Fl), ((Cn.step f.c 0 (⟨s.fl, s.win, (s.dn : Int), s.sq, s.ak⟩)).2 : Int)) := by rw [← HR.out]; first | rfl | (simp [docGo, Fl.keep, hq5, hq9, hq144, hq149, bne_t_fw hq239]; done)
       subst hR2
       exact ret_cell_tmp (k := 8) (j := 9) Try.f16 (by kernel_rfl) Cm271 Try.underlying33 (by kernel_rfl) (by rfl) (by rfl) rfl ⟨rfl, bm271⟩
theorem rgo0_fw (f : Fl) (s : Sm) (now : Int) (w : World) (hok : f.w.ok) : Calls Try.prog 16 #[.agg f.v, .int .i64 0, .agg s.v, .int .i64 now] w fun e w' => e = .returned (.tuple #[.agg (f.goS false s now).1.v, .int .i64 (f.goS false s now).2]) ∧ Below w.heap.size w w' := by
 have h := rgo0_d f s now w hok
 rw [docGo_eq] at h
 exact h
end Go.Proofs.Ytfiembbmgdmagaa
