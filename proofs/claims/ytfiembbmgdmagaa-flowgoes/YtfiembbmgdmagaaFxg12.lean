/- Texts joined: FwH1 FwI FlowGoesWalk -/
import Derived.Test.YtfiembbmgdmagaaFxg11
namespace Go.Proofs.Ytfiembbmgdmagaa
abbrev fxg12o0 : Oper := { dst := none, op := Op.store 26 (.tmp 10) (.tmp 29), type := 0, pos := "ref.go:93", after := #[{ on := 6, ground := Ground.data }, { on := 1, ground := Ground.data }, { on := 5, ground := Ground.chain }, { on := 0, ground := Ground.phase }, { on := 1, ground := Ground.phase }, { on := 2, ground := Ground.textOnly Departure.lateStores }, { on := 3, ground := Ground.textOnly Departure.lateStores }, { on := 4, ground := Ground.textOnly Departure.lateStores }, { on := 5, ground := Ground.textOnly Departure.lateStoresUnsure }, { on := 6, ground := Ground.phase }], guard := none }
abbrev fxg12o1 : Oper := { dst := none, op := Op.store 26 (.tmp 10) (.tmp 38), type := 0, pos := "ref.go:95", after := #[{ on := 2, ground := Ground.data }, { on := 6, ground := Ground.chain }, { on := 0, ground := Ground.phase }, { on := 1, ground := Ground.phase }, { on := 2, ground := Ground.phase }, { on := 3, ground := Ground.textOnly Departure.lateStores }, { on := 4, ground := Ground.textOnly Departure.lateStores }, { on := 5, ground := Ground.textOnly Departure.lateStores }, { on := 6, ground := Ground.textOnly Departure.lateStoresUnsure }], guard := none }
abbrev fxg12o2 : Oper := { dst := some 11, op := Op.assign (.tmp 33), type := 3, pos := "ref.go:93", after := #[{ on := 5, ground := Ground.data }, { on := 7, ground := Ground.chain }, { on := 0, ground := Ground.phase }, { on := 1, ground := Ground.phase }, { on := 2, ground := Ground.phase }, { on := 3, ground := Ground.phase }, { on := 4, ground := Ground.phase }, { on := 5, ground := Ground.phase }, { on := 6, ground := Ground.phase }, { on := 7, ground := Ground.phase }], guard := none }
abbrev fxg12o3 : Oper := { dst := some 11, op := Op.assign (.tmp 42), type := 3, pos := "ref.go:95", after := #[{ on := 6, ground := Ground.data }, { on := 7, ground := Ground.chain }, { on := 0, ground := Ground.phase }, { on := 1, ground := Ground.phase }, { on := 2, ground := Ground.phase }, { on := 3, ground := Ground.phase }, { on := 4, ground := Ground.phase }, { on := 5, ground := Ground.phase }, { on := 6, ground := Ground.phase }, { on := 7, ground := Ground.phase }], guard := none }
abbrev fxg12o4 : Oper := { dst := some 42, op := Op.call { callee := Callee.value (.func 45), args := #[.tmp 41], argTypes := #[3] }, type := 3, pos := "ref.go:95", after := #[{ on := 5, ground := Ground.data }, { on := 2, ground := Ground.chain }], guard := none }
abbrev fxg12o5 : Oper := { dst := some 38, op := Op.call { callee := Callee.value (.func 27), args := #[.tmp 37], argTypes := #[26] }, type := 26, pos := "ref.go:95", after := #[{ on := 1, ground := Ground.data }], guard := none }
abbrev fxg12o6 : Oper := { dst := some 33, op := Op.call { callee := Callee.value (.func 38), args := #[.tmp 32], argTypes := #[3] }, type := 3, pos := "ref.go:93", after := #[{ on := 4, ground := Ground.data }], guard := none }
abbrev fxg12o9 : Oper := { dst := some 37, op := Op.load 26 (.tmp 36), type := 26, pos := "ref.go:95", after := #[{ on := 0, ground := Ground.data }], guard := none }
abbrev fxg12o10 : Oper := { dst := some 40, op := Op.fieldAddr 26 (.tmp 39) 0, type := 0, pos := "ref.go:95", after := #[{ on := 3, ground := Ground.data }], guard := none }
abbrev fxg12o11 : Oper := { dst := some 41, op := Op.load 3 (.tmp 40), type := 3, pos := "ref.go:95", after := #[{ on := 4, ground := Ground.data }], guard := none }
abbrev fxg12o12 : Oper := { dst := some 36, op := Op.fieldAddr 33 (.tmp 4) 0, type := 0, pos := "ref.go:95", after := #[], guard := none }
abbrev fxg12o13 : Oper := { dst := some 39, op := Op.fieldAddr 33 (.tmp 4) 0, type := 0, pos := "ref.go:95", after := #[], guard := none }
abbrev fxg12o14 : Oper := { dst := some 10, op := Op.alloc 26, type := 0, pos := "ref.go:93", after := #[], guard := none }
end Go.Proofs.Ytfiembbmgdmagaa
namespace Go.Proofs.Ytfiembbmgdmagaa
open Go.RowKit
set_option linter.unusedVariables false
set_option linter.unusedSimpArgs false
set_option maxRecDepth 100000 in
set_option maxHeartbeats 16000000 in
theorem rgo1_d (f : Fl) (s : Sm) (now : Int) (w : World) (hok : f.w.ok) :
  Calls Try.prog 16 #[.agg f.v, .int .i64 1, .agg s.v, .int .i64 now] w fun e w' => e = .returned (.tuple #[.agg (docGo f true s now).1.v, .int .i64 (docGo f true s now).2]) ∧ Below w.heap.size w w' := by
 obtain ⟨R, hR⟩ : ∃ R, docGo f true s now = R := ⟨_, rfl⟩
 have HR : Hid (docGo f true s now = R) := hR
 rw [hR]
 clear hR
 have b := Below.refl w.heap.size w
 go_enter Try.func16, Try.ntmps16
 obtain ⟨Wm1, hWm1⟩ : ∃ W, w.alloc (.cells f.v 33) = W := ⟨_, rfl⟩
 have bm1 := bel_nw hWm1
 have Am1 := blk_nw hWm1
 have gA : w.heap.size ≤ w.heap.size := Nat.le_refl _
 obtain ⟨Wm2, hWm2⟩ : ∃ W, Wm1.alloc (.cells s.v 36) = W := ⟨_, rfl⟩
 have bm2 := bel_al bm1 hWm2
 have Am2 := Am1.al hWm2
 have Bm2 := blk_nw hWm2
 have gB : w.heap.size ≤ Wm1.heap.size := bm1.size
 have nAB : w.heap.size ≠ Wm1.heap.size := by have := Am1.lt; omega
 have nBA : Wm1.heap.size ≠ w.heap.size := fun e => nAB e.symm
 obtain ⟨Wm3, hWm3⟩ : ∃ W, Wm2.alloc (.cells #[.int .i64 0, .int .i64 0, .int .i64 0, .int .u64 0, .int .u64 0, .int .i64 0, .int .u64 0, .int .u64 0, .int .i64 0, .int .i64 0, .int .i64 0, .int .u32 0, .int .u32 0, .int .u32 0, .int .u32 0, .bool false, .bool false, .bool false, .bool false, .int .i64 0, .int .i64 0, .bool false] 33) = W := ⟨_, rfl⟩
 have bm3 := bel_al bm2 hWm3
 have Am3 := Am2.al hWm3
 have Bm3 := Bm2.al hWm3
 have Cm3 := blk_nw hWm3
 have gC : w.heap.size ≤ Wm2.heap.size := bm2.size
 have nAC : w.heap.size ≠ Wm2.heap.size := by have := Am2.lt; omega
 have nCA : Wm2.heap.size ≠ w.heap.size := fun e => nAC e.symm
 have nBC : Wm1.heap.size ≠ Wm2.heap.size := by have := Bm2.lt; omega
 have nCB : Wm2.heap.size ≠ Wm1.heap.size := fun e => nBC e.symm
 go_wp2_with (refine wpList_load_blk_w (by rfl) _ _ rfl w.heap.size (by rfl) _ Am3 Try.underlying33 (by kernel_rfl) ?_)
 refine Calls.mono (rright_fw f _ (by assumption)) ?_
 rintro e Wm4 ⟨rfl, bb⟩
 have Am4 := Am3.kept bb
 have Bm4 := Bm3.kept bb
 have Cm4 := Cm3.kept bb
 have bm4 := bel_tr bm3 bb
 clear bb
 clear Am3 Bm3 Cm3 bm3
 cases hq5 : (Fl.right f) with
 | false =>
  obtain ⟨Wm6, hWm6⟩ : ∃ W, Wm4.setRow Wm2.heap.size fl0.v = W := ⟨_, rfl⟩
  have Cm6 : Blk Wm6 Wm2.heap.size 33 fl0.v := hWm6 ▸ Cm4.set fl0.v
  have Am6 := hWm6 ▸ Am4.other nAC fl0.v
  have Bm6 := hWm6 ▸ Bm4.other nBC fl0.v
  have bm6 := hWm6 ▸ below_setRow bm4 gC fl0.v
  go_wp2_with (refine wpList_store_row rfl _ _ _ rfl Wm2.heap.size fl0.v (by rfl) (by rfl) _ _ Cm4 (by kernel_rfl) (by rfl) (by kernel_rfl) ?_; rw [hWm6])
  have hR2 : R = ((fl0 : Fl), (1 : Int)) := by rw [← HR.out]; first | rfl | (simp [docGo, Fl.keep, hq5]; done)
  subst hR2
  exact ret_cell_tmp (k := 8) (j := 9) Try.f16 (by kernel_rfl) Cm6 Try.underlying33 (by kernel_rfl) (by rfl) (by rfl) rfl ⟨rfl, bm6⟩

 | true =>
  go_wp2_with fail
  refine Calls.mono (rin_s1 _) ?_
  rintro e Wm7 ⟨rfl, bb⟩
  have Am7 := Am4.kept bb
  have Bm7 := Bm4.kept bb
  have Cm7 := Cm4.kept bb
  have bm7 := bel_tr bm4 bb
  clear bb
  clear Am4 Bm4 Cm4 bm4
  go_wp2_with fail
  refine Calls.mono (rin_now now _) ?_
  rintro e Wm8 ⟨rfl, bb⟩
  have Am8 := Am7.kept bb
  have Bm8 := Bm7.kept bb
  have Cm8 := Cm7.kept bb
  have bm8 := bel_tr bm7 bb
  clear bb
  clear Am7 Bm7 Cm7 bm7
  cases hq9 : (nowB now) with
  | false =>
   obtain ⟨Wm10, hWm10⟩ : ∃ W, Wm8.setRow Wm2.heap.size fl0.v = W := ⟨_, rfl⟩
   have Cm10 : Blk Wm10 Wm2.heap.size 33 fl0.v := hWm10 ▸ Cm8.set fl0.v
   have Am10 := hWm10 ▸ Am8.other nAC fl0.v
   have Bm10 := hWm10 ▸ Bm8.other nBC fl0.v
   have bm10 := hWm10 ▸ below_setRow bm8 gC fl0.v
   go_wp2_with (refine wpList_store_row rfl _ _ _ rfl Wm2.heap.size fl0.v (by rfl) (by rfl) _ _ Cm8 (by kernel_rfl) (by rfl) (by kernel_rfl) ?_; rw [hWm10])
   have hR2 : R = ((fl0 : Fl), (1 : Int)) := by rw [← HR.out]; first | rfl | (simp [docGo, Fl.keep, hq5, hq9]; done)
   subst hR2
   exact ret_cell_tmp (k := 8) (j := 9) Try.f16 (by kernel_rfl) Cm10 Try.underlying33 (by kernel_rfl) (by rfl) (by rfl) rfl ⟨rfl, bm10⟩

  | true =>
   go_wp2_with fail
   obtain ⟨Wdq11, hWdq11⟩ : ∃ W, Wm8.drew = W := ⟨_, rfl⟩
   have Adq11 := hWdq11 ▸ Am8.drew
   have Bdq11 := hWdq11 ▸ Bm8.drew
   have Cdq11 := hWdq11 ▸ Cm8.drew
   have bdq11 := hWdq11 ▸ bm8.drew
   refine wp_region_noPanic ?_
   refine wp_region_held_drew (S := fun w' => Blk w' w.heap.size 33 f.v ∧ Blk w' Wm1.heap.size 36 s.v ∧ Blk w' Wm2.heap.size 33 #[.int .i64 0, .int .i64 0, .int .i64 0, .int .u64 0, .int .u64 0, .int .i64 0, .int .u64 0, .int .u64 0, .int .i64 0, .int .i64 0, .int .i64 0, .int .u32 0, .int .u32 0, .int .u32 0, .int .u32 0, .bool false, .bool false, .bool false, .bool false, .int .i64 0, .int .i64 0, .bool false]) (by kernel_rfl) (by rw [hWdq11]; exact ⟨Adq11, Bdq11, Cdq11⟩) (fun hHeld => ?_)
   rw [hWdq11] at hHeld ⊢
   refine qtk (i := 0) (oi := { dst := some 28, op := Op.fieldAddr 33 (.tmp 4) 0, type := 0, pos := "ref.go:93", after := #[], guard := none }) (v := (.pointer (some ⟨w.heap.size, 0, none⟩))) hHeld ?_ ?_
   ·intro w9 hSw
    try dsimp only at hSw
    go_simp
   try simp only [qpu]
   refine qty (i := 1) (oi := { dst := some 29, op := Op.load 26 (.tmp 28), type := 26, pos := "ref.go:93", after := #[{ on := 0, ground := Ground.data }], guard := none }) (v := (.agg f.w.v)) (yieldsIf_sub_w (by kernel_rfl) _ _ rfl w.heap.size 0 _ (by rfl) _ f.w.v (fun _ hSw => hSw.1) (by rfl) Try.underlying26 (by kernel_rfl)) hHeld ?_
   try simp only [qpu]
   refine qtk (i := 2) (oi := { dst := some 30, op := Op.fieldAddr 33 (.tmp 4) 0, type := 0, pos := "ref.go:93", after := #[], guard := none }) (v := (.pointer (some ⟨w.heap.size, 0, none⟩))) hHeld ?_ ?_
   ·intro w9 hSw
    try dsimp only at hSw
    go_simp
   try simp only [qpu]
   refine qtk (i := 3) (oi := { dst := some 31, op := Op.fieldAddr 26 (.tmp 30) 0, type := 0, pos := "ref.go:93", after := #[{ on := 2, ground := Ground.data }], guard := none }) (v := (.pointer (some ⟨w.heap.size, 0, none⟩))) hHeld ?_ ?_
   ·intro w9 hSw
    try dsimp only at hSw
    go_simp
   try simp only [qpu]
   refine qtk (i := 4) (oi := { dst := some 32, op := Op.load 3 (.tmp 31), type := 3, pos := "ref.go:93", after := #[{ on := 3, ground := Ground.data }], guard := none }) (v := (.int .i64 f.w.fam)) hHeld ?_ ?_
   ·intro w9 hSw
    try dsimp only at hSw
    have hcc := hSw.1.cell 0 (.int .i64 f.w.fam) rfl
    go_simp
   try simp only [qpu]
   refine wpAnyH_ready (rs := [5, 6]) (by kernel_rfl) (by simp) ?_
   refine AllReadyH.cons (o := fxg12o6) rfl (fun K hK => ?_) (AllReadyH.cons (o := fxg12o14) rfl (fun K hK => ?_) AllReadyH.nil)
   ·go_simp
    refine Calls.mono (quest_fw f.w.fam _) ?_
    rintro e Wx12 ⟨rfl, bb⟩
    have Ax12 := Adq11.kept bb
    have Bx12 := Bdq11.kept bb
    have Cx12 := Cdq11.kept bb
    have bx12 := bel_tr bdq11 bb
    clear bb
    refine hK.out _ _ (by exact ⟨Ax12, Bx12, Cx12⟩) (fun hHeld => ?_)
    clear hK K
    try simp only [qpu]
    refine wpAnyH_ready (rs := [6]) (by kernel_rfl) (by simp) ?_
    refine AllReadyH.cons (o := fxg12o14) rfl (fun K hK => ?_) AllReadyH.nil
    go_simp
    obtain ⟨Wx1, hWx1⟩ : ∃ W, Wx12.alloc (.cells #[.int .i64 0, .int .i64 0, .int .i64 0, .int .u64 0, .int .u64 0, .int .i64 0, .int .u64 0, .int .u64 0, .int .i64 0, .int .i64 0] 26) = W := ⟨_, rfl⟩
    rw [hWx1]
    have Ax1 := Ax12.al hWx1
    have Bx1 := Bx12.al hWx1
    have Cx1 := Cx12.al hWx1
    have Yx1 := blk_nw hWx1
    have bx1 := bel_al bx12 hWx1
    have gY : w.heap.size ≤ Wx12.heap.size := bx12.size
    have nAY : w.heap.size ≠ Wx12.heap.size := by have := Ax12.lt; omega
    have nBY : Wm1.heap.size ≠ Wx12.heap.size := by have := Bx12.lt; omega
    have nCY : Wm2.heap.size ≠ Wx12.heap.size := by have := Cx12.lt; omega
    refine hK.out _ _ (by exact ⟨Ax1, Bx1, Cx1⟩) (fun hHeld => ?_)
    clear hK K
    try simp only [qpu]
    refine wpAnyH_ready (rs := [7]) (by kernel_rfl) (by simp) ?_
    refine AllReadyH.cons (o := fxg12o0) rfl (fun K hK => ?_) AllReadyH.nil
    refine step_store_blk rfl _ _ _ rfl Wx12.heap.size f.w.v _ (by rfl) (by rfl) Yx1 (by kernel_rfl) (by rfl) (by kernel_rfl) ?_
    obtain ⟨Wx2, hWx2⟩ : ∃ W, Wx1.setRow Wx12.heap.size f.w.v = W := ⟨_, rfl⟩
    rw [hWx2]
    have Ax2 := hWx2 ▸ Ax1.other nAY f.w.v
    have Bx2 := hWx2 ▸ Bx1.other nBY f.w.v
    have Cx2 := hWx2 ▸ Cx1.other nCY f.w.v
    have Yx2 : Blk Wx2 Wx12.heap.size 26 f.w.v := hWx2 ▸ Yx1.set f.w.v
    have bx2 := hWx2 ▸ below_setRow bx1 gY f.w.v
    refine hK.out _ _ (by exact ⟨Ax2, Bx2, Cx2⟩) (fun hHeld => ?_)
    clear hK K
    try simp only [qpu]
    refine qtk (i := 8) (oi := fxg12o2) (v := (.int .i64 (quT f.w.fam))) hHeld ?_ ?_
    ·intro w9 hSw
     try dsimp only at hSw
     go_simp
    try simp only [qpu]
    refine wpAnyH_done (by kernel_rfl) ?_ _
    refine NoPanic.normal ?_
    have nYA : Wx12.heap.size ≠ w.heap.size := fun e => nAY e.symm
    have nYB : Wx12.heap.size ≠ Wm1.heap.size := fun e => nBY e.symm
    have nYC : Wx12.heap.size ≠ Wm2.heap.size := fun e => nCY e.symm
    go_wp2_with fail
    obtain ⟨Wdq13, hWdq13⟩ : ∃ W, Wx2.drew = W := ⟨_, rfl⟩
    have Adq13 := hWdq13 ▸ Ax2.drew
    have Bdq13 := hWdq13 ▸ Bx2.drew
    have Cdq13 := hWdq13 ▸ Cx2.drew
    have Ydq13 := hWdq13 ▸ Yx2.drew
    have bdq13 := hWdq13 ▸ bx2.drew
    refine wp_region_noPanic ?_
    refine wp_region_held_drew (S := fun w' => Blk w' w.heap.size 33 f.v ∧ Blk w' Wm1.heap.size 36 s.v ∧ Blk w' Wm2.heap.size 33 #[.int .i64 0, .int .i64 0, .int .i64 0, .int .u64 0, .int .u64 0, .int .i64 0, .int .u64 0, .int .u64 0, .int .i64 0, .int .i64 0, .int .i64 0, .int .u32 0, .int .u32 0, .int .u32 0, .int .u32 0, .bool false, .bool false, .bool false, .bool false, .int .i64 0, .int .i64 0, .bool false]) (by kernel_rfl) (by rw [hWdq13]; exact ⟨Adq13, Bdq13, Cdq13⟩) (fun hHeld => ?_)
    rw [hWdq13] at hHeld ⊢
    refine qtk (i := 0) (oi := fxg12o12) (v := (.pointer (some ⟨w.heap.size, 0, none⟩))) hHeld ?_ ?_
    ·intro w9 hSw
     try dsimp only at hSw
     go_simp
    try simp only [qpu]
    refine qty (i := 1) (oi := fxg12o9) (v := (.agg f.w.v)) (yieldsIf_sub_w (by kernel_rfl) _ _ rfl w.heap.size 0 _ (by rfl) _ f.w.v (fun _ hSw => hSw.1) (by rfl) Try.underlying26 (by kernel_rfl)) hHeld ?_
    try simp only [qpu]
    refine qtk (i := 3) (oi := fxg12o13) (v := (.pointer (some ⟨w.heap.size, 0, none⟩))) hHeld ?_ ?_
    ·intro w9 hSw
     try dsimp only at hSw
     go_simp
    try simp only [qpu]
    refine qtk (i := 4) (oi := fxg12o10) (v := (.pointer (some ⟨w.heap.size, 0, none⟩))) hHeld ?_ ?_
    ·intro w9 hSw
     try dsimp only at hSw
     go_simp
    try simp only [qpu]
    refine qtk (i := 5) (oi := fxg12o11) (v := (.int .i64 f.w.fam)) hHeld ?_ ?_
    ·intro w9 hSw
     try dsimp only at hSw
     have hcc := hSw.1.cell 0 (.int .i64 f.w.fam) rfl
     go_simp
    try simp only [qpu]
    refine wpAnyH_ready (rs := [2]) (by kernel_rfl) (by simp) ?_
    refine AllReadyH.cons (o := fxg12o5) rfl (fun K hK => ?_) AllReadyH.nil
    go_simp
    refine Calls.mono (rrev_t f.w _) ?_
    rintro e Wx14 ⟨rfl, bb⟩
    have Ax14 := Adq13.kept bb
    have Bx14 := Bdq13.kept bb
    have Cx14 := Cdq13.kept bb
    have Yx14 := Ydq13.kept bb
    have bx14 := bel_tr bdq13 bb
    clear bb
    refine hK.out _ _ (by exact ⟨Ax14, Bx14, Cx14⟩) (fun hHeld => ?_)
    clear hK K
    try simp only [qpu]
    refine wpAnyH_ready (rs := [6]) (by kernel_rfl) (by simp) ?_
    refine AllReadyH.cons (o := fxg12o4) rfl (fun K hK => ?_) AllReadyH.nil
    go_simp
    refine Calls.mono (answ_fw f.w.fam _) ?_
    rintro e Wx15 ⟨rfl, bb⟩
    have Ax15 := Ax14.kept bb
    have Bx15 := Bx14.kept bb
    have Cx15 := Cx14.kept bb
    have Yx15 := Yx14.kept bb
    have bx15 := bel_tr bx14 bb
    clear bb
    refine hK.out _ _ (by exact ⟨Ax15, Bx15, Cx15⟩) (fun hHeld => ?_)
    clear hK K
    try simp only [qpu]
    refine wpAnyH_ready (rs := [7]) (by kernel_rfl) (by simp) ?_
    refine AllReadyH.cons (o := fxg12o1) rfl (fun K hK => ?_) AllReadyH.nil
    refine step_store_blk rfl _ _ _ rfl Wx12.heap.size (f.w.rev).v _ (by rfl) (by rfl) Yx15 (by kernel_rfl) (by rfl) (by kernel_rfl) ?_
    obtain ⟨Wx1, hWx1⟩ : ∃ W, Wx15.setRow Wx12.heap.size (f.w.rev).v = W := ⟨_, rfl⟩
    rw [hWx1]
    have Ax1 := hWx1 ▸ Ax15.other nAY (f.w.rev).v
    have Bx1 := hWx1 ▸ Bx15.other nBY (f.w.rev).v
    have Cx1 := hWx1 ▸ Cx15.other nCY (f.w.rev).v
    have Yx1 : Blk Wx1 Wx12.heap.size 26 (f.w.rev).v := hWx1 ▸ Yx15.set (f.w.rev).v
    have bx1 := hWx1 ▸ below_setRow bx15 gY (f.w.rev).v
    refine hK.out _ _ (by exact ⟨Ax1, Bx1, Cx1⟩) (fun hHeld => ?_)
    clear hK K
    try simp only [qpu]
    refine qtk (i := 8) (oi := fxg12o3) (v := (.int .i64 (anT f.w.fam))) hHeld ?_ ?_
    ·intro w9 hSw
     try dsimp only at hSw
     go_simp
    try simp only [qpu]
    refine wpAnyH_done (by kernel_rfl) ?_ _
    refine NoPanic.normal ?_
    cases hq17 : (Wy.eqB s.w (f.w.rev)) with
    | false =>
     have hE18 := neq_way s.w (f.w.rev)
     obtain ⟨Wm19, hWm19⟩ : ∃ W, Wx1.setRow Wm2.heap.size fl0.v = W := ⟨_, rfl⟩
     have Cm19 : Blk Wm19 Wm2.heap.size 33 fl0.v := hWm19 ▸ Cx1.set fl0.v
     have Am19 := hWm19 ▸ Ax1.other nAC fl0.v
     have Bm19 := hWm19 ▸ Bx1.other nBC fl0.v
     have Ym19 := hWm19 ▸ Yx1.other nYC fl0.v
     have bm19 := hWm19 ▸ below_setRow bx1 gC fl0.v
     go_wp2_with (first | (refine wpList_load_sub_w (by rfl) _ _ rfl Wm1.heap.size 0 _ (by rfl) _ s.w.v Bx1 (by rfl) Try.underlying26 (by kernel_rfl) ?_) | (refine wpList_load_blk_w (by rfl) _ _ rfl Wx12.heap.size (by rfl) _ Yx1 Try.underlying26 (by kernel_rfl) ?_) | (refine wpList_store_row rfl _ _ _ rfl Wm2.heap.size fl0.v (by rfl) (by rfl) _ _ Cx1 (by kernel_rfl) (by rfl) (by kernel_rfl) ?_; rw [hWm19]))
     have hR2 : R = ((fl0 : Fl), (23 : Int)) := by rw [← HR.out]; first | rfl | (simp [docGo, Fl.keep, hq5, hq9, hq17]; done)
     subst hR2
     exact ret_cell_tmp (k := 8) (j := 9) Try.f16 (by kernel_rfl) Cm19 Try.underlying33 (by kernel_rfl) (by rfl) (by rfl) rfl ⟨rfl, bm19⟩
    | true =>
     cases hq22 : (f.w.pr == 6) with
     | false =>
      cases hq25 : (f.w.pr == 17) with
      | false =>
       cases hq29 : (s.ty != (anT f.w.fam)) with
       | false =>
        cases hq34 : (s.co != 0) with
        | false =>
         cases hq40 : f.both with
         | false =>
          have hE41 := neq_way s.w (f.w.rev)
          have c42 := Ax1.cell 1 (.int .i64 f.w.pr) rfl
          have c43 := Bx1.cell 14 (.int .i64 s.ty) rfl
          have c44 := Bx1.cell 15 (.int .i64 s.co) rfl
          have c45 := Ax1.cell 21 (.bool f.both) rfl
          have y47 := Ax1.cell 21 (.bool f.both) rfl
          have z48 := Ax1.frozen 21
          obtain ⟨Wm46, hWm46⟩ : ∃ W, Wx1.setCell ⟨w.heap.size, 21, none⟩ (.bool true) = W := ⟨_, rfl⟩
          have Am46 : Blk Wm46 w.heap.size 33 (Fl.v ⟨f.w, f.c, f.ends, f.help, true⟩) := hWm46 ▸ Ax1.put 21 (.bool true)
          have Bm46 := hWm46 ▸ Bx1.put_other Ax1 nBA 21 (.bool true)
          have Cm46 := hWm46 ▸ Cx1.put_other Ax1 nCA 21 (.bool true)
          have Ym46 := hWm46 ▸ Yx1.put_other Ax1 nYA 21 (.bool true)
          have bm46 := hWm46 ▸ bx1.setCell (p := ⟨w.heap.size, 21, none⟩) gA (.bool true)
          go_wp2_with (first | (refine wpList_load_sub_w (by rfl) _ _ rfl Wm1.heap.size 0 _ (by rfl) _ s.w.v Bx1 (by rfl) Try.underlying26 (by kernel_rfl) ?_) | (refine wpList_load_blk_w (by rfl) _ _ rfl Wx12.heap.size (by rfl) _ Yx1 Try.underlying26 (by kernel_rfl) ?_) | (refine wpList_load_blk_w (by rfl) _ _ rfl w.heap.size (by rfl) _ Am46 Try.underlying33 (by kernel_rfl) ?_))
          clear hE41 c42 c43 c44 c45 y47 z48
          refine Calls.mono (rlife_fw (⟨f.w, f.c, f.ends, f.help, true⟩) _) ?_
          rintro e Wm49 ⟨rfl, bb⟩
          have Am49 := Am46.kept bb
          have Bm49 := Bm46.kept bb
          have Cm49 := Cm46.kept bb
          have Ym49 := Ym46.kept bb
          have bm49 := bel_tr bm46 bb
          clear bb
          have hlf := life_bd0 (⟨f.w, f.c, f.ends, f.help, true⟩)
          have hnw := now_bd (n := now) (by assumption)
          clear Am46 Bm46 Cm46 Ym46 bm46
          have y51 := Am49.cell 19 (.int .i64 f.ends) rfl
          have z52 := Am49.frozen 19
          obtain ⟨Wm50, hWm50⟩ : ∃ W, Wm49.setCell ⟨w.heap.size, 19, none⟩ (.int .i64 (now + (Fl.life (⟨f.w, f.c, f.ends, f.help, true⟩)))) = W := ⟨_, rfl⟩
          have Am50 : Blk Wm50 w.heap.size 33 (Fl.v ⟨f.w, f.c, now + (Fl.life (⟨f.w, f.c, f.ends, f.help, true⟩)), f.help, true⟩) := hWm50 ▸ Am49.put 19 (.int .i64 (now + (Fl.life (⟨f.w, f.c, f.ends, f.help, true⟩))))
          have Bm50 := hWm50 ▸ Bm49.put_other Am49 nBA 19 (.int .i64 (now + (Fl.life (⟨f.w, f.c, f.ends, f.help, true⟩))))
          have Cm50 := hWm50 ▸ Cm49.put_other Am49 nCA 19 (.int .i64 (now + (Fl.life (⟨f.w, f.c, f.ends, f.help, true⟩))))
          have Ym50 := hWm50 ▸ Ym49.put_other Am49 nYA 19 (.int .i64 (now + (Fl.life (⟨f.w, f.c, f.ends, f.help, true⟩))))
          have bm50 := hWm50 ▸ bm49.setCell (p := ⟨w.heap.size, 19, none⟩) gA (.int .i64 (now + (Fl.life (⟨f.w, f.c, f.ends, f.help, true⟩))))
          obtain ⟨Wm53, hWm53⟩ : ∃ W, Wm50.setRow Wm2.heap.size (Fl.v ⟨f.w, f.c, now + (Fl.life (⟨f.w, f.c, f.ends, f.help, true⟩)), f.help, true⟩) = W := ⟨_, rfl⟩
          have Cm53 : Blk Wm53 Wm2.heap.size 33 (Fl.v ⟨f.w, f.c, now + (Fl.life (⟨f.w, f.c, f.ends, f.help, true⟩)), f.help, true⟩) := hWm53 ▸ Cm50.set (Fl.v ⟨f.w, f.c, now + (Fl.life (⟨f.w, f.c, f.ends, f.help, true⟩)), f.help, true⟩)
          have Am53 := hWm53 ▸ Am50.other nAC (Fl.v ⟨f.w, f.c, now + (Fl.life (⟨f.w, f.c, f.ends, f.help, true⟩)), f.help, true⟩)
          have Bm53 := hWm53 ▸ Bm50.other nBC (Fl.v ⟨f.w, f.c, now + (Fl.life (⟨f.w, f.c, f.ends, f.help, true⟩)), f.help, true⟩)
          have Ym53 := hWm53 ▸ Ym50.other nYC (Fl.v ⟨f.w, f.c, now + (Fl.life (⟨f.w, f.c, f.ends, f.help, true⟩)), f.help, true⟩)
          have bm53 := hWm53 ▸ below_setRow bm50 gC (Fl.v ⟨f.w, f.c, now + (Fl.life (⟨f.w, f.c, f.ends, f.help, true⟩)), f.help, true⟩)
          go_wp2_with (first | (refine wpList_load_blk_w (by rfl) _ _ rfl w.heap.size (by rfl) _ Am50 Try.underlying33 (by kernel_rfl) ?_) | (refine wpList_store_row rfl _ _ _ rfl Wm2.heap.size (Fl.v ⟨f.w, f.c, now + (Fl.life (⟨f.w, f.c, f.ends, f.help, true⟩)), f.help, true⟩) (by rfl) (by rfl) _ _ Cm50 (by kernel_rfl) (by rfl) (by kernel_rfl) ?_; rw [hWm53]))
          have hR2 : R = ((⟨f.w, f.c, now + (Fl.life (⟨f.w, f.c, f.ends, f.help, true⟩)), f.help, true⟩ : Fl), (0 : Int)) := by rw [← HR.out]; first | rfl | (simp [docGo, Fl.keep, hq5, hq9, hq17, hq22, hq25, bne_f_fw hq29, bne_f_fw hq34, hq40]; done)
          subst hR2
          exact ret_cell_tmp (k := 8) (j := 9) Try.f16 (by kernel_rfl) Cm53 Try.underlying33 (by kernel_rfl) (by rfl) (by rfl) rfl ⟨rfl, bm53⟩
         | true =>
          have hE54 := neq_way s.w (f.w.rev)
          have c55 := Ax1.cell 1 (.int .i64 f.w.pr) rfl
          have c56 := Bx1.cell 14 (.int .i64 s.ty) rfl
          have c57 := Bx1.cell 15 (.int .i64 s.co) rfl
          have c58 := Ax1.cell 21 (.bool f.both) rfl
          have y60 := Ax1.cell 21 (.bool f.both) rfl
          have z61 := Ax1.frozen 21
          obtain ⟨Wm59, hWm59⟩ : ∃ W, Wx1.setCell ⟨w.heap.size, 21, none⟩ (.bool true) = W := ⟨_, rfl⟩
          have Am59 : Blk Wm59 w.heap.size 33 (Fl.v ⟨f.w, f.c, f.ends, f.help, true⟩) := hWm59 ▸ Ax1.put 21 (.bool true)
          have Bm59 := hWm59 ▸ Bx1.put_other Ax1 nBA 21 (.bool true)
          have Cm59 := hWm59 ▸ Cx1.put_other Ax1 nCA 21 (.bool true)
          have Ym59 := hWm59 ▸ Yx1.put_other Ax1 nYA 21 (.bool true)
          have bm59 := hWm59 ▸ bx1.setCell (p := ⟨w.heap.size, 21, none⟩) gA (.bool true)
          go_wp2_with (first | (refine wpList_load_sub_w (by rfl) _ _ rfl Wm1.heap.size 0 _ (by rfl) _ s.w.v Bx1 (by rfl) Try.underlying26 (by kernel_rfl) ?_) | (refine wpList_load_blk_w (by rfl) _ _ rfl Wx12.heap.size (by rfl) _ Yx1 Try.underlying26 (by kernel_rfl) ?_) | (refine wpList_load_blk_w (by rfl) _ _ rfl w.heap.size (by rfl) _ Am59 Try.underlying33 (by kernel_rfl) ?_))
          clear hE54 c55 c56 c57 c58 y60 z61
          refine Calls.mono (rlife_fw (⟨f.w, f.c, f.ends, f.help, true⟩) _) ?_
          rintro e Wm62 ⟨rfl, bb⟩
          have Am62 := Am59.kept bb
          have Bm62 := Bm59.kept bb
          have Cm62 := Cm59.kept bb
          have Ym62 := Ym59.kept bb
          have bm62 := bel_tr bm59 bb
          clear bb
          have hlf := life_bd0 (⟨f.w, f.c, f.ends, f.help, true⟩)
          have hnw := now_bd (n := now) (by assumption)
          clear Am59 Bm59 Cm59 Ym59 bm59
          have y64 := Am62.cell 19 (.int .i64 f.ends) rfl
          have z65 := Am62.frozen 19
          obtain ⟨Wm63, hWm63⟩ : ∃ W, Wm62.setCell ⟨w.heap.size, 19, none⟩ (.int .i64 (now + (Fl.life (⟨f.w, f.c, f.ends, f.help, true⟩)))) = W := ⟨_, rfl⟩
          have Am63 : Blk Wm63 w.heap.size 33 (Fl.v ⟨f.w, f.c, now + (Fl.life (⟨f.w, f.c, f.ends, f.help, true⟩)), f.help, true⟩) := hWm63 ▸ Am62.put 19 (.int .i64 (now + (Fl.life (⟨f.w, f.c, f.ends, f.help, true⟩))))
          have Bm63 := hWm63 ▸ Bm62.put_other Am62 nBA 19 (.int .i64 (now + (Fl.life (⟨f.w, f.c, f.ends, f.help, true⟩))))
          have Cm63 := hWm63 ▸ Cm62.put_other Am62 nCA 19 (.int .i64 (now + (Fl.life (⟨f.w, f.c, f.ends, f.help, true⟩))))
          have Ym63 := hWm63 ▸ Ym62.put_other Am62 nYA 19 (.int .i64 (now + (Fl.life (⟨f.w, f.c, f.ends, f.help, true⟩))))
          have bm63 := hWm63 ▸ bm62.setCell (p := ⟨w.heap.size, 19, none⟩) gA (.int .i64 (now + (Fl.life (⟨f.w, f.c, f.ends, f.help, true⟩))))
          obtain ⟨Wm66, hWm66⟩ : ∃ W, Wm63.setRow Wm2.heap.size (Fl.v ⟨f.w, f.c, now + (Fl.life (⟨f.w, f.c, f.ends, f.help, true⟩)), f.help, true⟩) = W := ⟨_, rfl⟩
          have Cm66 : Blk Wm66 Wm2.heap.size 33 (Fl.v ⟨f.w, f.c, now + (Fl.life (⟨f.w, f.c, f.ends, f.help, true⟩)), f.help, true⟩) := hWm66 ▸ Cm63.set (Fl.v ⟨f.w, f.c, now + (Fl.life (⟨f.w, f.c, f.ends, f.help, true⟩)), f.help, true⟩)
          have Am66 := hWm66 ▸ Am63.other nAC (Fl.v ⟨f.w, f.c, now + (Fl.life (⟨f.w, f.c, f.ends, f.help, true⟩)), f.help, true⟩)
          have Bm66 := hWm66 ▸ Bm63.other nBC (Fl.v ⟨f.w, f.c, now + (Fl.life (⟨f.w, f.c, f.ends, f.help, true⟩)), f.help, true⟩)
          have Ym66 := hWm66 ▸ Ym63.other nYC (Fl.v ⟨f.w, f.c, now + (Fl.life (⟨f.w, f.c, f.ends, f.help, true⟩)), f.help, true⟩)
          have bm66 := hWm66 ▸ below_setRow bm63 gC (Fl.v ⟨f.w, f.c, now + (Fl.life (⟨f.w, f.c, f.ends, f.help, true⟩)), f.help, true⟩)
          go_wp2_with (first | (refine wpList_load_blk_w (by rfl) _ _ rfl w.heap.size (by rfl) _ Am63 Try.underlying33 (by kernel_rfl) ?_) | (refine wpList_store_row rfl _ _ _ rfl Wm2.heap.size (Fl.v ⟨f.w, f.c, now + (Fl.life (⟨f.w, f.c, f.ends, f.help, true⟩)), f.help, true⟩) (by rfl) (by rfl) _ _ Cm63 (by kernel_rfl) (by rfl) (by kernel_rfl) ?_; rw [hWm66]))
          have hR2 : R = ((⟨f.w, f.c, now + (Fl.life (⟨f.w, f.c, f.ends, f.help, true⟩)), f.help, true⟩ : Fl), (0 : Int)) := by rw [← HR.out]; first | rfl | (simp [docGo, Fl.keep, hq5, hq9, hq17, hq22, hq25, bne_f_fw hq29, bne_f_fw hq34, hq40]; done)
          subst hR2
          exact ret_cell_tmp (k := 8) (j := 9) Try.f16 (by kernel_rfl) Cm66 Try.underlying33 (by kernel_rfl) (by rfl) (by rfl) rfl ⟨rfl, bm66⟩
        | true =>
         have hE67 := neq_way s.w (f.w.rev)
         have c68 := Ax1.cell 1 (.int .i64 f.w.pr) rfl
         have c69 := Bx1.cell 14 (.int .i64 s.ty) rfl
         have c70 := Bx1.cell 15 (.int .i64 s.co) rfl
         obtain ⟨Wm71, hWm71⟩ : ∃ W, Wx1.setRow Wm2.heap.size fl0.v = W := ⟨_, rfl⟩
         have Cm71 : Blk Wm71 Wm2.heap.size 33 fl0.v := hWm71 ▸ Cx1.set fl0.v
         have Am71 := hWm71 ▸ Ax1.other nAC fl0.v
         have Bm71 := hWm71 ▸ Bx1.other nBC fl0.v
         have Ym71 := hWm71 ▸ Yx1.other nYC fl0.v
         have bm71 := hWm71 ▸ below_setRow bx1 gC fl0.v
         go_wp2_with (first | (refine wpList_load_sub_w (by rfl) _ _ rfl Wm1.heap.size 0 _ (by rfl) _ s.w.v Bx1 (by rfl) Try.underlying26 (by kernel_rfl) ?_) | (refine wpList_load_blk_w (by rfl) _ _ rfl Wx12.heap.size (by rfl) _ Yx1 Try.underlying26 (by kernel_rfl) ?_) | (refine wpList_store_row rfl _ _ _ rfl Wm2.heap.size fl0.v (by rfl) (by rfl) _ _ Cx1 (by kernel_rfl) (by rfl) (by kernel_rfl) ?_; rw [hWm71]))
         have hR2 : R = ((fl0 : Fl), (23 : Int)) := by rw [← HR.out]; first | rfl | (simp [docGo, Fl.keep, hq5, hq9, hq17, hq22, hq25, bne_f_fw hq29, bne_t_fw hq34]; done)
         subst hR2
         exact ret_cell_tmp (k := 8) (j := 9) Try.f16 (by kernel_rfl) Cm71 Try.underlying33 (by kernel_rfl) (by rfl) (by rfl) rfl ⟨rfl, bm71⟩
       | true =>
        have hE72 := neq_way s.w (f.w.rev)
        have c73 := Ax1.cell 1 (.int .i64 f.w.pr) rfl
        have c74 := Bx1.cell 14 (.int .i64 s.ty) rfl
        obtain ⟨Wm75, hWm75⟩ : ∃ W, Wx1.setRow Wm2.heap.size fl0.v = W := ⟨_, rfl⟩
        have Cm75 : Blk Wm75 Wm2.heap.size 33 fl0.v := hWm75 ▸ Cx1.set fl0.v
        have Am75 := hWm75 ▸ Ax1.other nAC fl0.v
        have Bm75 := hWm75 ▸ Bx1.other nBC fl0.v
        have Ym75 := hWm75 ▸ Yx1.other nYC fl0.v
        have bm75 := hWm75 ▸ below_setRow bx1 gC fl0.v
        go_wp2_with (first | (refine wpList_load_sub_w (by rfl) _ _ rfl Wm1.heap.size 0 _ (by rfl) _ s.w.v Bx1 (by rfl) Try.underlying26 (by kernel_rfl) ?_) | (refine wpList_load_blk_w (by rfl) _ _ rfl Wx12.heap.size (by rfl) _ Yx1 Try.underlying26 (by kernel_rfl) ?_) | (refine wpList_store_row rfl _ _ _ rfl Wm2.heap.size fl0.v (by rfl) (by rfl) _ _ Cx1 (by kernel_rfl) (by rfl) (by kernel_rfl) ?_; rw [hWm75]))
        have hR2 : R = ((fl0 : Fl), (23 : Int)) := by rw [← HR.out]; first | rfl | (simp [docGo, Fl.keep, hq5, hq9, hq17, hq22, hq25, bne_t_fw hq29]; done)
        subst hR2
        exact ret_cell_tmp (k := 8) (j := 9) Try.f16 (by kernel_rfl) Cm75 Try.underlying33 (by kernel_rfl) (by rfl) (by rfl) rfl ⟨rfl, bm75⟩
      | true =>
       cases hq79 : f.both with
       | false =>
        have hE80 := neq_way s.w (f.w.rev)
        have c81 := Ax1.cell 1 (.int .i64 f.w.pr) rfl
        have c82 := Ax1.cell 21 (.bool f.both) rfl
        have y84 := Ax1.cell 21 (.bool f.both) rfl
        have z85 := Ax1.frozen 21
        obtain ⟨Wm83, hWm83⟩ : ∃ W, Wx1.setCell ⟨w.heap.size, 21, none⟩ (.bool true) = W := ⟨_, rfl⟩
        have Am83 : Blk Wm83 w.heap.size 33 (Fl.v ⟨f.w, f.c, f.ends, f.help, true⟩) := hWm83 ▸ Ax1.put 21 (.bool true)
        have Bm83 := hWm83 ▸ Bx1.put_other Ax1 nBA 21 (.bool true)
        have Cm83 := hWm83 ▸ Cx1.put_other Ax1 nCA 21 (.bool true)
        have Ym83 := hWm83 ▸ Yx1.put_other Ax1 nYA 21 (.bool true)
        have bm83 := hWm83 ▸ bx1.setCell (p := ⟨w.heap.size, 21, none⟩) gA (.bool true)
        go_wp2_with (first | (refine wpList_load_sub_w (by rfl) _ _ rfl Wm1.heap.size 0 _ (by rfl) _ s.w.v Bx1 (by rfl) Try.underlying26 (by kernel_rfl) ?_) | (refine wpList_load_blk_w (by rfl) _ _ rfl Wx12.heap.size (by rfl) _ Yx1 Try.underlying26 (by kernel_rfl) ?_) | (refine wpList_load_blk_w (by rfl) _ _ rfl w.heap.size (by rfl) _ Am83 Try.underlying33 (by kernel_rfl) ?_))
        clear hE80 c81 c82 y84 z85
        refine Calls.mono (rlife_fw (⟨f.w, f.c, f.ends, f.help, true⟩) _) ?_
        rintro e Wm86 ⟨rfl, bb⟩
        have Am86 := Am83.kept bb
        have Bm86 := Bm83.kept bb
        have Cm86 := Cm83.kept bb
        have Ym86 := Ym83.kept bb
        have bm86 := bel_tr bm83 bb
        clear bb
        have hlf := life_bd0 (⟨f.w, f.c, f.ends, f.help, true⟩)
        have hnw := now_bd (n := now) (by assumption)
        clear Am83 Bm83 Cm83 Ym83 bm83
        have y88 := Am86.cell 19 (.int .i64 f.ends) rfl
        have z89 := Am86.frozen 19
        obtain ⟨Wm87, hWm87⟩ : ∃ W, Wm86.setCell ⟨w.heap.size, 19, none⟩ (.int .i64 (now + (Fl.life (⟨f.w, f.c, f.ends, f.help, true⟩)))) = W := ⟨_, rfl⟩
        have Am87 : Blk Wm87 w.heap.size 33 (Fl.v ⟨f.w, f.c, now + (Fl.life (⟨f.w, f.c, f.ends, f.help, true⟩)), f.help, true⟩) := hWm87 ▸ Am86.put 19 (.int .i64 (now + (Fl.life (⟨f.w, f.c, f.ends, f.help, true⟩))))
        have Bm87 := hWm87 ▸ Bm86.put_other Am86 nBA 19 (.int .i64 (now + (Fl.life (⟨f.w, f.c, f.ends, f.help, true⟩))))
        have Cm87 := hWm87 ▸ Cm86.put_other Am86 nCA 19 (.int .i64 (now + (Fl.life (⟨f.w, f.c, f.ends, f.help, true⟩))))
        have Ym87 := hWm87 ▸ Ym86.put_other Am86 nYA 19 (.int .i64 (now + (Fl.life (⟨f.w, f.c, f.ends, f.help, true⟩))))
        have bm87 := hWm87 ▸ bm86.setCell (p := ⟨w.heap.size, 19, none⟩) gA (.int .i64 (now + (Fl.life (⟨f.w, f.c, f.ends, f.help, true⟩))))
        obtain ⟨Wm90, hWm90⟩ : ∃ W, Wm87.setRow Wm2.heap.size (Fl.v ⟨f.w, f.c, now + (Fl.life (⟨f.w, f.c, f.ends, f.help, true⟩)), f.help, true⟩) = W := ⟨_, rfl⟩
        have Cm90 : Blk Wm90 Wm2.heap.size 33 (Fl.v ⟨f.w, f.c, now + (Fl.life (⟨f.w, f.c, f.ends, f.help, true⟩)), f.help, true⟩) := hWm90 ▸ Cm87.set (Fl.v ⟨f.w, f.c, now + (Fl.life (⟨f.w, f.c, f.ends, f.help, true⟩)), f.help, true⟩)
        have Am90 := hWm90 ▸ Am87.other nAC (Fl.v ⟨f.w, f.c, now + (Fl.life (⟨f.w, f.c, f.ends, f.help, true⟩)), f.help, true⟩)
        have Bm90 := hWm90 ▸ Bm87.other nBC (Fl.v ⟨f.w, f.c, now + (Fl.life (⟨f.w, f.c, f.ends, f.help, true⟩)), f.help, true⟩)
        have Ym90 := hWm90 ▸ Ym87.other nYC (Fl.v ⟨f.w, f.c, now + (Fl.life (⟨f.w, f.c, f.ends, f.help, true⟩)), f.help, true⟩)
        have bm90 := hWm90 ▸ below_setRow bm87 gC (Fl.v ⟨f.w, f.c, now + (Fl.life (⟨f.w, f.c, f.ends, f.help, true⟩)), f.help, true⟩)
        go_wp2_with (first | (refine wpList_load_blk_w (by rfl) _ _ rfl w.heap.size (by rfl) _ Am87 Try.underlying33 (by kernel_rfl) ?_) | (refine wpList_store_row rfl _ _ _ rfl Wm2.heap.size (Fl.v ⟨f.w, f.c, now + (Fl.life (⟨f.w, f.c, f.ends, f.help, true⟩)), f.help, true⟩) (by rfl) (by rfl) _ _ Cm87 (by kernel_rfl) (by rfl) (by kernel_rfl) ?_; rw [hWm90]))
        have hR2 : R = ((⟨f.w, f.c, now + (Fl.life (⟨f.w, f.c, f.ends, f.help, true⟩)), f.help, true⟩ : Fl), (0 : Int)) := by rw [← HR.out]; first | rfl | (simp [docGo, Fl.keep, hq5, hq9, hq17, hq22, hq25, hq79]; done)
        subst hR2
        exact ret_cell_tmp (k := 8) (j := 9) Try.f16 (by kernel_rfl) Cm90 Try.underlying33 (by kernel_rfl) (by rfl) (by rfl) rfl ⟨rfl, bm90⟩
       | true =>
        have hE91 := neq_way s.w (f.w.rev)
        have c92 := Ax1.cell 1 (.int .i64 f.w.pr) rfl
        have c93 := Ax1.cell 21 (.bool f.both) rfl
        have y95 := Ax1.cell 21 (.bool f.both) rfl
        have z96 := Ax1.frozen 21
        obtain ⟨Wm94, hWm94⟩ : ∃ W, Wx1.setCell ⟨w.heap.size, 21, none⟩ (.bool true) = W := ⟨_, rfl⟩
        have Am94 : Blk Wm94 w.heap.size 33 (Fl.v ⟨f.w, f.c, f.ends, f.help, true⟩) := hWm94 ▸ Ax1.put 21 (.bool true)
        have Bm94 := hWm94 ▸ Bx1.put_other Ax1 nBA 21 (.bool true)
        have Cm94 := hWm94 ▸ Cx1.put_other Ax1 nCA 21 (.bool true)
        have Ym94 := hWm94 ▸ Yx1.put_other Ax1 nYA 21 (.bool true)
        have bm94 := hWm94 ▸ bx1.setCell (p := ⟨w.heap.size, 21, none⟩) gA (.bool true)
        go_wp2_with (first | (refine wpList_load_sub_w (by rfl) _ _ rfl Wm1.heap.size 0 _ (by rfl) _ s.w.v Bx1 (by rfl) Try.underlying26 (by kernel_rfl) ?_) | (refine wpList_load_blk_w (by rfl) _ _ rfl Wx12.heap.size (by rfl) _ Yx1 Try.underlying26 (by kernel_rfl) ?_) | (refine wpList_load_blk_w (by rfl) _ _ rfl w.heap.size (by rfl) _ Am94 Try.underlying33 (by kernel_rfl) ?_))
        clear hE91 c92 c93 y95 z96
        refine Calls.mono (rlife_fw (⟨f.w, f.c, f.ends, f.help, true⟩) _) ?_
        rintro e Wm97 ⟨rfl, bb⟩
        have Am97 := Am94.kept bb
        have Bm97 := Bm94.kept bb
        have Cm97 := Cm94.kept bb
        have Ym97 := Ym94.kept bb
        have bm97 := bel_tr bm94 bb
        clear bb
        have hlf := life_bd0 (⟨f.w, f.c, f.ends, f.help, true⟩)
        have hnw := now_bd (n := now) (by assumption)
        clear Am94 Bm94 Cm94 Ym94 bm94
        have y99 := Am97.cell 19 (.int .i64 f.ends) rfl
        have z100 := Am97.frozen 19
        obtain ⟨Wm98, hWm98⟩ : ∃ W, Wm97.setCell ⟨w.heap.size, 19, none⟩ (.int .i64 (now + (Fl.life (⟨f.w, f.c, f.ends, f.help, true⟩)))) = W := ⟨_, rfl⟩
        have Am98 : Blk Wm98 w.heap.size 33 (Fl.v ⟨f.w, f.c, now + (Fl.life (⟨f.w, f.c, f.ends, f.help, true⟩)), f.help, true⟩) := hWm98 ▸ Am97.put 19 (.int .i64 (now + (Fl.life (⟨f.w, f.c, f.ends, f.help, true⟩))))
        have Bm98 := hWm98 ▸ Bm97.put_other Am97 nBA 19 (.int .i64 (now + (Fl.life (⟨f.w, f.c, f.ends, f.help, true⟩))))
        have Cm98 := hWm98 ▸ Cm97.put_other Am97 nCA 19 (.int .i64 (now + (Fl.life (⟨f.w, f.c, f.ends, f.help, true⟩))))
        have Ym98 := hWm98 ▸ Ym97.put_other Am97 nYA 19 (.int .i64 (now + (Fl.life (⟨f.w, f.c, f.ends, f.help, true⟩))))
        have bm98 := hWm98 ▸ bm97.setCell (p := ⟨w.heap.size, 19, none⟩) gA (.int .i64 (now + (Fl.life (⟨f.w, f.c, f.ends, f.help, true⟩))))
        obtain ⟨Wm101, hWm101⟩ : ∃ W, Wm98.setRow Wm2.heap.size (Fl.v ⟨f.w, f.c, now + (Fl.life (⟨f.w, f.c, f.ends, f.help, true⟩)), f.help, true⟩) = W := ⟨_, rfl⟩
        have Cm101 : Blk Wm101 Wm2.heap.size 33 (Fl.v ⟨f.w, f.c, now + (Fl.life (⟨f.w, f.c, f.ends, f.help, true⟩)), f.help, true⟩) := hWm101 ▸ Cm98.set (Fl.v ⟨f.w, f.c, now + (Fl.life (⟨f.w, f.c, f.ends, f.help, true⟩)), f.help, true⟩)
        have Am101 := hWm101 ▸ Am98.other nAC (Fl.v ⟨f.w, f.c, now + (Fl.life (⟨f.w, f.c, f.ends, f.help, true⟩)), f.help, true⟩)
        have Bm101 := hWm101 ▸ Bm98.other nBC (Fl.v ⟨f.w, f.c, now + (Fl.life (⟨f.w, f.c, f.ends, f.help, true⟩)), f.help, true⟩)
        have Ym101 := hWm101 ▸ Ym98.other nYC (Fl.v ⟨f.w, f.c, now + (Fl.life (⟨f.w, f.c, f.ends, f.help, true⟩)), f.help, true⟩)
        have bm101 := hWm101 ▸ below_setRow bm98 gC (Fl.v ⟨f.w, f.c, now + (Fl.life (⟨f.w, f.c, f.ends, f.help, true⟩)), f.help, true⟩)
        go_wp2_with (first | (refine wpList_load_blk_w (by rfl) _ _ rfl w.heap.size (by rfl) _ Am98 Try.underlying33 (by kernel_rfl) ?_) | (refine wpList_store_row rfl _ _ _ rfl Wm2.heap.size (Fl.v ⟨f.w, f.c, now + (Fl.life (⟨f.w, f.c, f.ends, f.help, true⟩)), f.help, true⟩) (by rfl) (by rfl) _ _ Cm98 (by kernel_rfl) (by rfl) (by kernel_rfl) ?_; rw [hWm101]))
        have hR2 : R = ((⟨f.w, f.c, now + (Fl.life (⟨f.w, f.c, f.ends, f.help, true⟩)), f.help, true⟩ : Fl), (0 : Int)) := by rw [← HR.out]; first | rfl | (simp [docGo, Fl.keep, hq5, hq9, hq17, hq22, hq25, hq79]; done)
        subst hR2
        exact ret_cell_tmp (k := 8) (j := 9) Try.f16 (by kernel_rfl) Cm101 Try.underlying33 (by kernel_rfl) (by rfl) (by rfl) rfl ⟨rfl, bm101⟩
     | true =>
      have hE102 := neq_way s.w (f.w.rev)
      have c103 := Ax1.cell 1 (.int .i64 f.w.pr) rfl
      have c104 := Bx1.cell 10 (.int .i64 s.fl) rfl
      have c105 := Bx1.cell 13 (.int .i64 s.win) rfl
      have c106 := Bx1.cell 27 (.slice s.da s.dn s.dc) rfl
      have c107 := Bx1.cell 11 (.int .u32 s.sq) rfl
      have c108 := Bx1.cell 12 (.int .u32 s.ak) rfl
      go_wp2_with (first | (refine wpList_load_sub_w (by rfl) _ _ rfl Wm1.heap.size 0 _ (by rfl) _ s.w.v Bx1 (by rfl) Try.underlying26 (by kernel_rfl) ?_) | (refine wpList_load_blk_w (by rfl) _ _ rfl Wx12.heap.size (by rfl) _ Yx1 Try.underlying26 (by kernel_rfl) ?_) | (refine wpList_load_sub_w (by rfl) _ _ rfl w.heap.size 10 _ (by rfl) _ f.c.v Ax1 (by rfl) Try.underlying31 (by kernel_rfl) ?_))
      clear hE102 c103 c104 c105 c106 c107 c108
      refine Calls.mono (rstep_fw f.c 1 (⟨s.fl, s.win, (s.dn : Int), s.sq, s.ak⟩) _) ?_
      rintro e Wm109 ⟨rfl, bb⟩
      have Am109 := Ax1.kept bb
      have Bm109 := Bx1.kept bb
      have Cm109 := Cx1.kept bb
      have Ym109 := Yx1.kept bb
      have bm109 := bel_tr bx1 bb
      clear bb
      clear Ax1 Bx1 Cx1 Yx1 bx1
      cases hq112 : ((Cn.step f.c 1 (⟨s.fl, s.win, (s.dn : Int), s.sq, s.ak⟩)).2 != 0) with
      | false =>
       cases hq117 : f.both with
       | false =>
        obtain ⟨Wm118, hWm118⟩ : ∃ W, Wm109.alloc (.cells #[.int .i64 0, .int .u32 0, .int .u32 0, .int .u32 0, .int .u32 0, .bool false, .bool false, .bool false, .bool false] 31) = W := ⟨_, rfl⟩
        have bm118 := bel_al bm109 hWm118
        have Am118 := Am109.al hWm118
        have Bm118 := Bm109.al hWm118
        have Cm118 := Cm109.al hWm118
        have Ym118 := Ym109.al hWm118
        have Dm118 := blk_nw hWm118
        have gD : w.heap.size ≤ Wm109.heap.size := bm109.size
        have nAD : w.heap.size ≠ Wm109.heap.size := by have := Am109.lt; omega
        have nDA : Wm109.heap.size ≠ w.heap.size := fun e => nAD e.symm
        have nBD : Wm1.heap.size ≠ Wm109.heap.size := by have := Bm109.lt; omega
        have nDB : Wm109.heap.size ≠ Wm1.heap.size := fun e => nBD e.symm
        have nCD : Wm2.heap.size ≠ Wm109.heap.size := by have := Cm109.lt; omega
        have nDC : Wm109.heap.size ≠ Wm2.heap.size := fun e => nCD e.symm
        have nYD : Wx12.heap.size ≠ Wm109.heap.size := by have := Ym109.lt; omega
        have nDY : Wm109.heap.size ≠ Wx12.heap.size := fun e => nYD e.symm
        obtain ⟨Wm119, hWm119⟩ : ∃ W, Wm118.setRow Wm109.heap.size (Cn.step f.c 1 (⟨s.fl, s.win, (s.dn : Int), s.sq, s.ak⟩)).1.v = W := ⟨_, rfl⟩
        have Dm119 : Blk Wm119 Wm109.heap.size 31 (Cn.step f.c 1 (⟨s.fl, s.win, (s.dn : Int), s.sq, s.ak⟩)).1.v := hWm119 ▸ Dm118.set (Cn.step f.c 1 (⟨s.fl, s.win, (s.dn : Int), s.sq, s.ak⟩)).1.v
        have Am119 := hWm119 ▸ Am118.other nAD (Cn.step f.c 1 (⟨s.fl, s.win, (s.dn : Int), s.sq, s.ak⟩)).1.v
        have Bm119 := hWm119 ▸ Bm118.other nBD (Cn.step f.c 1 (⟨s.fl, s.win, (s.dn : Int), s.sq, s.ak⟩)).1.v
        have Cm119 := hWm119 ▸ Cm118.other nCD (Cn.step f.c 1 (⟨s.fl, s.win, (s.dn : Int), s.sq, s.ak⟩)).1.v
        have Ym119 := hWm119 ▸ Ym118.other nYD (Cn.step f.c 1 (⟨s.fl, s.win, (s.dn : Int), s.sq, s.ak⟩)).1.v
        have bm119 := hWm119 ▸ below_setRow bm118 gD (Cn.step f.c 1 (⟨s.fl, s.win, (s.dn : Int), s.sq, s.ak⟩)).1.v
        obtain ⟨Wm120, hWm120⟩ : ∃ W, Wm119.setRow w.heap.size (Fl.v ⟨f.w, (Cn.step f.c 1 (⟨s.fl, s.win, (s.dn : Int), s.sq, s.ak⟩)).1, f.ends, f.help, f.both⟩) = W := ⟨_, rfl⟩
        have Am120 : Blk Wm120 w.heap.size 33 (Fl.v ⟨f.w, (Cn.step f.c 1 (⟨s.fl, s.win, (s.dn : Int), s.sq, s.ak⟩)).1, f.ends, f.help, f.both⟩) := hWm120 ▸ Am119.set (Fl.v ⟨f.w, (Cn.step f.c 1 (⟨s.fl, s.win, (s.dn : Int), s.sq, s.ak⟩)).1, f.ends, f.help, f.both⟩)
        have Bm120 := hWm120 ▸ Bm119.other nBA (Fl.v ⟨f.w, (Cn.step f.c 1 (⟨s.fl, s.win, (s.dn : Int), s.sq, s.ak⟩)).1, f.ends, f.help, f.both⟩)
        have Cm120 := hWm120 ▸ Cm119.other nCA (Fl.v ⟨f.w, (Cn.step f.c 1 (⟨s.fl, s.win, (s.dn : Int), s.sq, s.ak⟩)).1, f.ends, f.help, f.both⟩)
        have Ym120 := hWm120 ▸ Ym119.other nYA (Fl.v ⟨f.w, (Cn.step f.c 1 (⟨s.fl, s.win, (s.dn : Int), s.sq, s.ak⟩)).1, f.ends, f.help, f.both⟩)
        have Dm120 := hWm120 ▸ Dm119.other nDA (Fl.v ⟨f.w, (Cn.step f.c 1 (⟨s.fl, s.win, (s.dn : Int), s.sq, s.ak⟩)).1, f.ends, f.help, f.both⟩)
        have bm120 := hWm120 ▸ below_setRow bm119 gA (Fl.v ⟨f.w, (Cn.step f.c 1 (⟨s.fl, s.win, (s.dn : Int), s.sq, s.ak⟩)).1, f.ends, f.help, f.both⟩)
        have c121 := Am120.cell 21 (.bool f.both) rfl
        have y123 := Am120.cell 21 (.bool f.both) rfl
        have z124 := Am120.frozen 21
        obtain ⟨Wm122, hWm122⟩ : ∃ W, Wm120.setCell ⟨w.heap.size, 21, none⟩ (.bool true) = W := ⟨_, rfl⟩
        have Am122 : Blk Wm122 w.heap.size 33 (Fl.v ⟨f.w, (Cn.step f.c 1 (⟨s.fl, s.win, (s.dn : Int), s.sq, s.ak⟩)).1, f.ends, f.help, true⟩) := hWm122 ▸ Am120.put 21 (.bool true)
        have Bm122 := hWm122 ▸ Bm120.put_other Am120 nBA 21 (.bool true)
        have Cm122 := hWm122 ▸ Cm120.put_other Am120 nCA 21 (.bool true)
        have Ym122 := hWm122 ▸ Ym120.put_other Am120 nYA 21 (.bool true)
        have Dm122 := hWm122 ▸ Dm120.put_other Am120 nDA 21 (.bool true)
        have bm122 := hWm122 ▸ bm120.setCell (p := ⟨w.heap.size, 21, none⟩) gA (.bool true)
        go_wp2_with (first | (refine wpList_store_row rfl _ _ _ rfl Wm109.heap.size (Cn.step f.c 1 (⟨s.fl, s.win, (s.dn : Int), s.sq, s.ak⟩)).1.v (by rfl) (by rfl) _ _ Dm118 (by kernel_rfl) (by rfl) (by kernel_rfl) ?_; rw [hWm119]) | (refine wpList_load_blk_w (by rfl) _ _ rfl Wm109.heap.size (by rfl) _ Dm119 Try.underlying31 (by kernel_rfl) ?_) | (refine wpList_store_off rfl _ _ _ rfl w.heap.size 10 _ (Cn.step f.c 1 (⟨s.fl, s.win, (s.dn : Int), s.sq, s.ak⟩)).1.v _ (Fl.v ⟨f.w, (Cn.step f.c 1 (⟨s.fl, s.win, (s.dn : Int), s.sq, s.ak⟩)).1, f.ends, f.help, f.both⟩) (by rfl) (by rfl) Am119 (by kernel_rfl) (Nat.le_of_ble_eq_true (by kernel_rfl)) (by kernel_rfl) (setConn_fw f (Cn.step f.c 1 (⟨s.fl, s.win, (s.dn : Int), s.sq, s.ak⟩)).1) ?_; rw [hWm120]) | (refine wpList_load_blk_w (by rfl) _ _ rfl w.heap.size (by rfl) _ Am122 Try.underlying33 (by kernel_rfl) ?_))
        clear c121 y123 z124
        refine Calls.mono (rlife_fw (⟨f.w, (Cn.step f.c 1 (⟨s.fl, s.win, (s.dn : Int), s.sq, s.ak⟩)).1, f.ends, f.help, true⟩) _) ?_
        rintro e Wm125 ⟨rfl, bb⟩
        have Am125 := Am122.kept bb
        have Bm125 := Bm122.kept bb
        have Cm125 := Cm122.kept bb
        have Ym125 := Ym122.kept bb
        have Dm125 := Dm122.kept bb
        have bm125 := bel_tr bm122 bb
        clear bb
        have hlf := life_bd0 (⟨f.w, (Cn.step f.c 1 (⟨s.fl, s.win, (s.dn : Int), s.sq, s.ak⟩)).1, f.ends, f.help, true⟩)
        have hnw := now_bd (n := now) (by assumption)
        clear Am122 Bm122 Cm122 Ym122 Dm122 bm122
        have y127 := Am125.cell 19 (.int .i64 f.ends) rfl
        have z128 := Am125.frozen 19
        obtain ⟨Wm126, hWm126⟩ : ∃ W, Wm125.setCell ⟨w.heap.size, 19, none⟩ (.int .i64 (now + (Fl.life (⟨f.w, (Cn.step f.c 1 (⟨s.fl, s.win, (s.dn : Int), s.sq, s.ak⟩)).1, f.ends, f.help, true⟩)))) = W := ⟨_, rfl⟩
        have Am126 : Blk Wm126 w.heap.size 33 (Fl.v ⟨f.w, (Cn.step f.c 1 (⟨s.fl, s.win, (s.dn : Int), s.sq, s.ak⟩)).1, now + (Fl.life (⟨f.w, (Cn.step f.c 1 (⟨s.fl, s.win, (s.dn : Int), s.sq, s.ak⟩)).1, f.ends, f.help, true⟩)), f.help, true⟩) := hWm126 ▸ Am125.put 19 (.int .i64 (now + (Fl.life (⟨f.w, (Cn.step f.c 1 (⟨s.fl, s.win, (s.dn : Int), s.sq, s.ak⟩)).1, f.ends, f.help, true⟩))))
        have Bm126 := hWm126 ▸ Bm125.put_other Am125 nBA 19 (.int .i64 (now + (Fl.life (⟨f.w, (Cn.step f.c 1 (⟨s.fl, s.win, (s.dn : Int), s.sq, s.ak⟩)).1, f.ends, f.help, true⟩))))
        have Cm126 := hWm126 ▸ Cm125.put_other Am125 nCA 19 (.int .i64 (now + (Fl.life (⟨f.w, (Cn.step f.c 1 (⟨s.fl, s.win, (s.dn : Int), s.sq, s.ak⟩)).1, f.ends, f.help, true⟩))))
        have Ym126 := hWm126 ▸ Ym125.put_other Am125 nYA 19 (.int .i64 (now + (Fl.life (⟨f.w, (Cn.step f.c 1 (⟨s.fl, s.win, (s.dn : Int), s.sq, s.ak⟩)).1, f.ends, f.help, true⟩))))
        have Dm126 := hWm126 ▸ Dm125.put_other Am125 nDA 19 (.int .i64 (now + (Fl.life (⟨f.w, (Cn.step f.c 1 (⟨s.fl, s.win, (s.dn : Int), s.sq, s.ak⟩)).1, f.ends, f.help, true⟩))))
        have bm126 := hWm126 ▸ bm125.setCell (p := ⟨w.heap.size, 19, none⟩) gA (.int .i64 (now + (Fl.life (⟨f.w, (Cn.step f.c 1 (⟨s.fl, s.win, (s.dn : Int), s.sq, s.ak⟩)).1, f.ends, f.help, true⟩))))
        obtain ⟨Wm129, hWm129⟩ : ∃ W, Wm126.setRow Wm2.heap.size (Fl.v ⟨f.w, (Cn.step f.c 1 (⟨s.fl, s.win, (s.dn : Int), s.sq, s.ak⟩)).1, now + (Fl.life (⟨f.w, (Cn.step f.c 1 (⟨s.fl, s.win, (s.dn : Int), s.sq, s.ak⟩)).1, f.ends, f.help, true⟩)), f.help, true⟩) = W := ⟨_, rfl⟩
        have Cm129 : Blk Wm129 Wm2.heap.size 33 (Fl.v ⟨f.w, (Cn.step f.c 1 (⟨s.fl, s.win, (s.dn : Int), s.sq, s.ak⟩)).1, now + (Fl.life (⟨f.w, (Cn.step f.c 1 (⟨s.fl, s.win, (s.dn : Int), s.sq, s.ak⟩)).1, f.ends, f.help, true⟩)), f.help, true⟩) := hWm129 ▸ Cm126.set (Fl.v ⟨f.w, (Cn.step f.c 1 (⟨s.fl, s.win, (s.dn : Int), s.sq, s.ak⟩)).1, now + (Fl.life (⟨f.w, (Cn.step f.c 1 (⟨s.fl, s.win, (s.dn : Int), s.sq, s.ak⟩)).1, f.ends, f.help, true⟩)), f.help, true⟩)
        have Am129 := hWm129 ▸ Am126.other nAC (Fl.v ⟨f.w, (Cn.step f.c 1 (⟨s.fl, s.win, (s.dn : Int), s.sq, s.ak⟩)).1, now + (Fl.life (⟨f.w, (Cn.step f.c 1 (⟨s.fl, s.win, (s.dn : Int), s.sq, s.ak⟩)).1, f.ends, f.help, true⟩)), f.help, true⟩)
        have Bm129 := hWm129 ▸ Bm126.other nBC (Fl.v ⟨f.w, (Cn.step f.c 1 (⟨s.fl, s.win, (s.dn : Int), s.sq, s.ak⟩)).1, now + (Fl.life (⟨f.w, (Cn.step f.c 1 (⟨s.fl, s.win, (s.dn : Int), s.sq, s.ak⟩)).1, f.ends, f.help, true⟩)), f.help, true⟩)
        have Ym129 := hWm129 ▸ Ym126.other nYC (Fl.v ⟨f.w, (Cn.step f.c 1 (⟨s.fl, s.win, (s.dn : Int), s.sq, s.ak⟩)).1, now + (Fl.life (⟨f.w, (Cn.step f.c 1 (⟨s.fl, s.win, (s.dn : Int), s.sq, s.ak⟩)).1, f.ends, f.help, true⟩)), f.help, true⟩)
        have Dm129 := hWm129 ▸ Dm126.other nDC (Fl.v ⟨f.w, (Cn.step f.c 1 (⟨s.fl, s.win, (s.dn : Int), s.sq, s.ak⟩)).1, now + (Fl.life (⟨f.w, (Cn.step f.c 1 (⟨s.fl, s.win, (s.dn : Int), s.sq, s.ak⟩)).1, f.ends, f.help, true⟩)), f.help, true⟩)
        have bm129 := hWm129 ▸ below_setRow bm126 gC (Fl.v ⟨f.w, (Cn.step f.c 1 (⟨s.fl, s.win, (s.dn : Int), s.sq, s.ak⟩)).1, now + (Fl.life (⟨f.w, (Cn.step f.c 1 (⟨s.fl, s.win, (s.dn : Int), s.sq, s.ak⟩)).1, f.ends, f.help, true⟩)), f.help, true⟩)
        go_wp2_with (first | (refine wpList_load_blk_w (by rfl) _ _ rfl w.heap.size (by rfl) _ Am126 Try.underlying33 (by kernel_rfl) ?_) | (refine wpList_store_row rfl _ _ _ rfl Wm2.heap.size (Fl.v ⟨f.w, (Cn.step f.c 1 (⟨s.fl, s.win, (s.dn : Int), s.sq, s.ak⟩)).1, now + (Fl.life (⟨f.w, (Cn.step f.c 1 (⟨s.fl, s.win, (s.dn : Int), s.sq, s.ak⟩)).1, f.ends, f.help, true⟩)), f.help, true⟩) (by rfl) (by rfl) _ _ Cm126 (by kernel_rfl) (by rfl) (by kernel_rfl) ?_; rw [hWm129]))
        have hR2 : R = ((⟨f.w, (Cn.step f.c 1 (⟨s.fl, s.win, (s.dn : Int), s.sq, s.ak⟩)).1, now + (Fl.life (⟨f.w, (Cn.step f.c 1 (⟨s.fl, s.win, (s.dn : Int), s.sq, s.ak⟩)).1, f.ends, f.help, true⟩)), f.help, true⟩ : Fl), (0 : Int)) := by rw [← HR.out]; first | rfl | (simp [docGo, Fl.keep, hq5, hq9, hq17, hq22, bne_f_fw hq112, hq117]; done)
        subst hR2
        exact ret_cell_tmp (k := 8) (j := 9) Try.f16 (by kernel_rfl) Cm129 Try.underlying33 (by kernel_rfl) (by rfl) (by rfl) rfl ⟨rfl, bm129⟩
       | true =>
        obtain ⟨Wm130, hWm130⟩ : ∃ W, Wm109.alloc (.cells #[.int .i64 0, .int .u32 0, .int .u32 0, .int .u32 0, .int .u32 0, .bool false, .bool false, .bool false, .bool false] 31) = W := ⟨_, rfl⟩
        have bm130 := bel_al bm109 hWm130
        have Am130 := Am109.al hWm130
        have Bm130 := Bm109.al hWm130
        have Cm130 := Cm109.al hWm130
        have Ym130 := Ym109.al hWm130
        have Dm130 := blk_nw hWm130
        have gD : w.heap.size ≤ Wm109.heap.size := bm109.size
        have nAD : w.heap.size ≠ Wm109.heap.size := by have := Am109.lt; omega
        have nDA : Wm109.heap.size ≠ w.heap.size := fun e => nAD e.symm
        have nBD : Wm1.heap.size ≠ Wm109.heap.size := by have := Bm109.lt; omega
        have nDB : Wm109.heap.size ≠ Wm1.heap.size := fun e => nBD e.symm
        have nCD : Wm2.heap.size ≠ Wm109.heap.size := by have := Cm109.lt; omega
        have nDC : Wm109.heap.size ≠ Wm2.heap.size := fun e => nCD e.symm
        have nYD : Wx12.heap.size ≠ Wm109.heap.size := by have := Ym109.lt; omega
        have nDY : Wm109.heap.size ≠ Wx12.heap.size := fun e => nYD e.symm
        obtain ⟨Wm131, hWm131⟩ : ∃ W, Wm130.setRow Wm109.heap.size (Cn.step f.c 1 (⟨s.fl, s.win, (s.dn : Int), s.sq, s.ak⟩)).1.v = W := ⟨_, rfl⟩
        have Dm131 : Blk Wm131 Wm109.heap.size 31 (Cn.step f.c 1 (⟨s.fl, s.win, (s.dn : Int), s.sq, s.ak⟩)).1.v := hWm131 ▸ Dm130.set (Cn.step f.c 1 (⟨s.fl, s.win, (s.dn : Int), s.sq, s.ak⟩)).1.v
        have Am131 := hWm131 ▸ Am130.other nAD (Cn.step f.c 1 (⟨s.fl, s.win, (s.dn : Int), s.sq, s.ak⟩)).1.v
        have Bm131 := hWm131 ▸ Bm130.other nBD (Cn.step f.c 1 (⟨s.fl, s.win, (s.dn : Int), s.sq, s.ak⟩)).1.v
        have Cm131 := hWm131 ▸ Cm130.other nCD (Cn.step f.c 1 (⟨s.fl, s.win, (s.dn : Int), s.sq, s.ak⟩)).1.v
        have Ym131 := hWm131 ▸ Ym130.other nYD (Cn.step f.c 1 (⟨s.fl, s.win, (s.dn : Int), s.sq, s.ak⟩)).1.v
        have bm131 := hWm131 ▸ below_setRow bm130 gD (Cn.step f.c 1 (⟨s.fl, s.win, (s.dn : Int), s.sq, s.ak⟩)).1.v
        obtain ⟨Wm132, hWm132⟩ : ∃ W, Wm131.setRow w.heap.size (Fl.v ⟨f.w, (Cn.step f.c 1 (⟨s.fl, s.win, (s.dn : Int), s.sq, s.ak⟩)).1, f.ends, f.help, f.both⟩) = W := ⟨_, rfl⟩
        have Am132 : Blk Wm132 w.heap.size 33 (Fl.v ⟨f.w, (Cn.step f.c 1 (⟨s.fl, s.win, (s.dn : Int), s.sq, s.ak⟩)).1, f.ends, f.help, f.both⟩) := hWm132 ▸ Am131.set (Fl.v ⟨f.w, (Cn.step f.c 1 (⟨s.fl, s.win, (s.dn : Int), s.sq, s.ak⟩)).1, f.ends, f.help, f.both⟩)
        have Bm132 := hWm132 ▸ Bm131.other nBA (Fl.v ⟨f.w, (Cn.step f.c 1 (⟨s.fl, s.win, (s.dn : Int), s.sq, s.ak⟩)).1, f.ends, f.help, f.both⟩)
        have Cm132 := hWm132 ▸ Cm131.other nCA (Fl.v ⟨f.w, (Cn.step f.c 1 (⟨s.fl, s.win, (s.dn : Int), s.sq, s.ak⟩)).1, f.ends, f.help, f.both⟩)
        have Ym132 := hWm132 ▸ Ym131.other nYA (Fl.v ⟨f.w, (Cn.step f.c 1 (⟨s.fl, s.win, (s.dn : Int), s.sq, s.ak⟩)).1, f.ends, f.help, f.both⟩)
        have Dm132 := hWm132 ▸ Dm131.other nDA (Fl.v ⟨f.w, (Cn.step f.c 1 (⟨s.fl, s.win, (s.dn : Int), s.sq, s.ak⟩)).1, f.ends, f.help, f.both⟩)
        have bm132 := hWm132 ▸ below_setRow bm131 gA (Fl.v ⟨f.w, (Cn.step f.c 1 (⟨s.fl, s.win, (s.dn : Int), s.sq, s.ak⟩)).1, f.ends, f.help, f.both⟩)
        have c133 := Am132.cell 21 (.bool f.both) rfl
        have y135 := Am132.cell 21 (.bool f.both) rfl
        have z136 := Am132.frozen 21
        obtain ⟨Wm134, hWm134⟩ : ∃ W, Wm132.setCell ⟨w.heap.size, 21, none⟩ (.bool true) = W := ⟨_, rfl⟩
        have Am134 : Blk Wm134 w.heap.size 33 (Fl.v ⟨f.w, (Cn.step f.c 1 (⟨s.fl, s.win, (s.dn : Int), s.sq, s.ak⟩)).1, f.ends, f.help, true⟩) := hWm134 ▸ Am132.put 21 (.bool true)
        have Bm134 := hWm134 ▸ Bm132.put_other Am132 nBA 21 (.bool true)
        have Cm134 := hWm134 ▸ Cm132.put_other Am132 nCA 21 (.bool true)
        have Ym134 := hWm134 ▸ Ym132.put_other Am132 nYA 21 (.bool true)
        have Dm134 := hWm134 ▸ Dm132.put_other Am132 nDA 21 (.bool true)
        have bm134 := hWm134 ▸ bm132.setCell (p := ⟨w.heap.size, 21, none⟩) gA (.bool true)
        go_wp2_with (first | (refine wpList_store_row rfl _ _ _ rfl Wm109.heap.size (Cn.step f.c 1 (⟨s.fl, s.win, (s.dn : Int), s.sq, s.ak⟩)).1.v (by rfl) (by rfl) _ _ Dm130 (by kernel_rfl) (by rfl) (by kernel_rfl) ?_; rw [hWm131]) | (refine wpList_load_blk_w (by rfl) _ _ rfl Wm109.heap.size (by rfl) _ Dm131 Try.underlying31 (by kernel_rfl) ?_) | (refine wpList_store_off rfl _ _ _ rfl w.heap.size 10 _ (Cn.step f.c 1 (⟨s.fl, s.win, (s.dn : Int), s.sq, s.ak⟩)).1.v _ (Fl.v ⟨f.w, (Cn.step f.c 1 (⟨s.fl, s.win, (s.dn : Int), s.sq, s.ak⟩)).1, f.ends, f.help, f.both⟩) (by rfl) (by rfl) Am131 (by kernel_rfl) (Nat.le_of_ble_eq_true (by kernel_rfl)) (by kernel_rfl) (setConn_fw f (Cn.step f.c 1 (⟨s.fl, s.win, (s.dn : Int), s.sq, s.ak⟩)).1) ?_; rw [hWm132]) | (refine wpList_load_blk_w (by rfl) _ _ rfl w.heap.size (by rfl) _ Am134 Try.underlying33 (by kernel_rfl) ?_))
        clear c133 y135 z136
        refine Calls.mono (rlife_fw (⟨f.w, (Cn.step f.c 1 (⟨s.fl, s.win, (s.dn : Int), s.sq, s.ak⟩)).1, f.ends, f.help, true⟩) _) ?_
        rintro e Wm137 ⟨rfl, bb⟩
        have Am137 := Am134.kept bb
        have Bm137 := Bm134.kept bb
        have Cm137 := Cm134.kept bb
        have Ym137 := Ym134.kept bb
        have Dm137 := Dm134.kept bb
        have bm137 := bel_tr bm134 bb
        clear bb
        have hlf := life_bd0 (⟨f.w, (Cn.step f.c 1 (⟨s.fl, s.win, (s.dn : Int), s.sq, s.ak⟩)).1, f.ends, f.help, true⟩)
        have hnw := now_bd (n := now) (by assumption)
        clear Am134 Bm134 Cm134 Ym134 Dm134 bm134
        have y139 := Am137.cell 19 (.int .i64 f.ends) rfl
        have z140 := Am137.frozen 19
        obtain ⟨Wm138, hWm138⟩ : ∃ W, Wm137.setCell ⟨w.heap.size, 19, none⟩ (.int .i64 (now + (Fl.life (⟨f.w, (Cn.step f.c 1 (⟨s.fl, s.win, (s.dn : Int), s.sq, s.ak⟩)).1, f.ends, f.help, true⟩)))) = W := ⟨_, rfl⟩
        have Am138 : Blk Wm138 w.heap.size 33 (Fl.v ⟨f.w, (Cn.step f.c 1 (⟨s.fl, s.win, (s.dn : Int), s.sq, s.ak⟩)).1, now + (Fl.life (⟨f.w, (Cn.step f.c 1 (⟨s.fl, s.win, (s.dn : Int), s.sq, s.ak⟩)).1, f.ends, f.help, true⟩)), f.help, true⟩) := hWm138 ▸ Am137.put 19 (.int .i64 (now + (Fl.life (⟨f.w, (Cn.step f.c 1 (⟨s.fl, s.win, (s.dn : Int), s.sq, s.ak⟩)).1, f.ends, f.help, true⟩))))
        have Bm138 := hWm138 ▸ Bm137.put_other Am137 nBA 19 (.int .i64 (now + (Fl.life (⟨f.w, (Cn.step f.c 1 (⟨s.fl, s.win, (s.dn : Int), s.sq, s.ak⟩)).1, f.ends, f.help, true⟩))))
        have Cm138 := hWm138 ▸ Cm137.put_other Am137 nCA 19 (.int .i64 (now + (Fl.life (⟨f.w, (Cn.step f.c 1 (⟨s.fl, s.win, (s.dn : Int), s.sq, s.ak⟩)).1, f.ends, f.help, true⟩))))
        have Ym138 := hWm138 ▸ Ym137.put_other Am137 nYA 19 (.int .i64 (now + (Fl.life (⟨f.w, (Cn.step f.c 1 (⟨s.fl, s.win, (s.dn : Int), s.sq, s.ak⟩)).1, f.ends, f.help, true⟩))))
        have Dm138 := hWm138 ▸ Dm137.put_other Am137 nDA 19 (.int .i64 (now + (Fl.life (⟨f.w, (Cn.step f.c 1 (⟨s.fl, s.win, (s.dn : Int), s.sq, s.ak⟩)).1, f.ends, f.help, true⟩))))
        have bm138 := hWm138 ▸ bm137.setCell (p := ⟨w.heap.size, 19, none⟩) gA (.int .i64 (now + (Fl.life (⟨f.w, (Cn.step f.c 1 (⟨s.fl, s.win, (s.dn : Int), s.sq, s.ak⟩)).1, f.ends, f.help, true⟩))))
        obtain ⟨Wm141, hWm141⟩ : ∃ W, Wm138.setRow Wm2.heap.size (Fl.v ⟨f.w, (Cn.step f.c 1 (⟨s.fl, s.win, (s.dn : Int), s.sq, s.ak⟩)).1, now + (Fl.life (⟨f.w, (Cn.step f.c 1 (⟨s.fl, s.win, (s.dn : Int), s.sq, s.ak⟩)).1, f.ends, f.help, true⟩)), f.help, true⟩) = W := ⟨_, rfl⟩
        have Cm141 : Blk Wm141 Wm2.heap.size 33 (Fl.v ⟨f.w, (Cn.step f.c 1 (⟨s.fl, s.win, (s.dn : Int), s.sq, s.ak⟩)).1, now + (Fl.life (⟨f.w, (Cn.step f.c 1 (⟨s.fl, s.win, (s.dn : Int), s.sq, s.ak⟩)).1, f.ends, f.help, true⟩)), f.help, true⟩) := hWm141 ▸ Cm138.set (Fl.v ⟨f.w, (Cn.step f.c 1 (⟨s.fl, s.win, (s.dn : Int), s.sq, s.ak⟩)).1, now + (Fl.life (⟨f.w, (Cn.step f.c 1 (⟨s.fl, s.win, (s.dn : Int), s.sq, s.ak⟩)).1, f.ends, f.help, true⟩)), f.help, true⟩)
        have Am141 := hWm141 ▸ Am138.other nAC (Fl.v ⟨f.w, (Cn.step f.c 1 (⟨s.fl, s.win, (s.dn : Int), s.sq, s.ak⟩)).1, now + (Fl.life (⟨f.w, (Cn.step f.c 1 (⟨s.fl, s.win, (s.dn : Int), s.sq, s.ak⟩)).1, f.ends, f.help, true⟩)), f.help, true⟩)
        have Bm141 := hWm141 ▸ Bm138.other nBC (Fl.v ⟨f.w, (Cn.step f.c 1 (⟨s.fl, s.win, (s.dn : Int), s.sq, s.ak⟩)).1, now + (Fl.life (⟨f.w, (Cn.step f.c 1 (⟨s.fl, s.win, (s.dn : Int), s.sq, s.ak⟩)).1, f.ends, f.help, true⟩)), f.help, true⟩)
        have Ym141 := hWm141 ▸ Ym138.other nYC (Fl.v ⟨f.w, (Cn.step f.c 1 (⟨s.fl, s.win, (s.dn : Int), s.sq, s.ak⟩)).1, now + (Fl.life (⟨f.w, (Cn.step f.c 1 (⟨s.fl, s.win, (s.dn : Int), s.sq, s.ak⟩)).1, f.ends, f.help, true⟩)), f.help, true⟩)
        have Dm141 := hWm141 ▸ Dm138.other nDC (Fl.v ⟨f.w, (Cn.step f.c 1 (⟨s.fl, s.win, (s.dn : Int), s.sq, s.ak⟩)).1, now + (Fl.life (⟨f.w, (Cn.step f.c 1 (⟨s.fl, s.win, (s.dn : Int), s.sq, s.ak⟩)).1, f.ends, f.help, true⟩)), f.help, true⟩)
        have bm141 := hWm141 ▸ below_setRow bm138 gC (Fl.v ⟨f.w, (Cn.step f.c 1 (⟨s.fl, s.win, (s.dn : Int), s.sq, s.ak⟩)).1, now + (Fl.life (⟨f.w, (Cn.step f.c 1 (⟨s.fl, s.win, (s.dn : Int), s.sq, s.ak⟩)).1, f.ends, f.help, true⟩)), f.help, true⟩)
        go_wp2_with (first | (refine wpList_load_blk_w (by rfl) _ _ rfl w.heap.size (by rfl) _ Am138 Try.underlying33 (by kernel_rfl) ?_) | (refine wpList_store_row rfl _ _ _ rfl Wm2.heap.size (Fl.v ⟨f.w, (Cn.step f.c 1 (⟨s.fl, s.win, (s.dn : Int), s.sq, s.ak⟩)).1, now + (Fl.life (⟨f.w, (Cn.step f.c 1 (⟨s.fl, s.win, (s.dn : Int), s.sq, s.ak⟩)).1, f.ends, f.help, true⟩)), f.help, true⟩) (by rfl) (by rfl) _ _ Cm138 (by kernel_rfl) (by rfl) (by kernel_rfl) ?_; rw [hWm141]))
        have hR2 : R = ((⟨f.w, (Cn.step f.c 1 (⟨s.fl, s.win, (s.dn : Int), s.sq, s.ak⟩)).1, now + (Fl.life (⟨f.w, (Cn.step f.c 1 (⟨s.fl, s.win, (s.dn : Int), s.sq, s.ak⟩)).1, f.ends, f.help, true⟩)), f.help, true⟩ : Fl), (0 : Int)) := by rw [← HR.out]; first | rfl | (simp [docGo, Fl.keep, hq5, hq9, hq17, hq22, bne_f_fw hq112, hq117]; done)
        subst hR2
        exact ret_cell_tmp (k := 8) (j := 9) Try.f16 (by kernel_rfl) Cm141 Try.underlying33 (by kernel_rfl) (by rfl) (by rfl) rfl ⟨rfl, bm141⟩
      | true =>
       obtain ⟨Wm142, hWm142⟩ : ∃ W, Wm109.alloc (.cells #[.int .i64 0, .int .u32 0, .int .u32 0, .int .u32 0, .int .u32 0, .bool false, .bool false, .bool false, .bool false] 31) = W := ⟨_, rfl⟩
       have bm142 := bel_al bm109 hWm142
       have Am142 := Am109.al hWm142
       have Bm142 := Bm109.al hWm142
       have Cm142 := Cm109.al hWm142
       have Ym142 := Ym109.al hWm142
       have Dm142 := blk_nw hWm142
       have gD : w.heap.size ≤ Wm109.heap.size := bm109.size
       have nAD : w.heap.size ≠ Wm109.heap.size := by have := Am109.lt; omega
       have nDA : Wm109.heap.size ≠ w.heap.size := fun e => nAD e.symm
       have nBD : Wm1.heap.size ≠ Wm109.heap.size := by have := Bm109.lt; omega
       have nDB : Wm109.heap.size ≠ Wm1.heap.size := fun e => nBD e.symm
       have nCD : Wm2.heap.size ≠ Wm109.heap.size := by have := Cm109.lt; omega
       have nDC : Wm109.heap.size ≠ Wm2.heap.size := fun e => nCD e.symm
       have nYD : Wx12.heap.size ≠ Wm109.heap.size := by have := Ym109.lt; omega
       have nDY : Wm109.heap.size ≠ Wx12.heap.size := fun e => nYD e.symm
       obtain ⟨Wm143, hWm143⟩ : ∃ W, Wm142.setRow Wm109.heap.size (Cn.step f.c 1 (⟨s.fl, s.win, (s.dn : Int), s.sq, s.ak⟩)).1.v = W := ⟨_, rfl⟩
       have Dm143 : Blk Wm143 Wm109.heap.size 31 (Cn.step f.c 1 (⟨s.fl, s.win, (s.dn : Int), s.sq, s.ak⟩)).1.v := hWm143 ▸ Dm142.set (Cn.step f.c 1 (⟨s.fl, s.win, (s.dn : Int), s.sq, s.ak⟩)).1.v
       have Am143 := hWm143 ▸ Am142.other nAD (Cn.step f.c 1 (⟨s.fl, s.win, (s.dn : Int), s.sq, s.ak⟩)).1.v
       have Bm143 := hWm143 ▸ Bm142.other nBD (Cn.step f.c 1 (⟨s.fl, s.win, (s.dn : Int), s.sq, s.ak⟩)).1.v
       have Cm143 := hWm143 ▸ Cm142.other nCD (Cn.step f.c 1 (⟨s.fl, s.win, (s.dn : Int), s.sq, s.ak⟩)).1.v
       have Ym143 := hWm143 ▸ Ym142.other nYD (Cn.step f.c 1 (⟨s.fl, s.win, (s.dn : Int), s.sq, s.ak⟩)).1.v
       have bm143 := hWm143 ▸ below_setRow bm142 gD (Cn.step f.c 1 (⟨s.fl, s.win, (s.dn : Int), s.sq, s.ak⟩)).1.v
       obtain ⟨Wm144, hWm144⟩ : ∃ W, Wm143.setRow Wm2.heap.size fl0.v = W := ⟨_, rfl⟩
       have Cm144 : Blk Wm144 Wm2.heap.size 33 fl0.v := hWm144 ▸ Cm143.set fl0.v
       have Am144 := hWm144 ▸ Am143.other nAC fl0.v
       have Bm144 := hWm144 ▸ Bm143.other nBC fl0.v
       have Ym144 := hWm144 ▸ Ym143.other nYC fl0.v
       have Dm144 := hWm144 ▸ Dm143.other nDC fl0.v
       have bm144 := hWm144 ▸ below_setRow bm143 gC fl0.v
       go_wp2_with (first | (refine wpList_store_row rfl _ _ _ rfl Wm109.heap.size (Cn.step f.c 1 (⟨s.fl, s.win, (s.dn : Int), s.sq, s.ak⟩)).1.v (by rfl) (by rfl) _ _ Dm142 (by kernel_rfl) (by rfl) (by kernel_rfl) ?_; rw [hWm143]) | (refine wpList_store_row rfl _ _ _ rfl Wm2.heap.size fl0.v (by rfl) (by rfl) _ _ Cm143 (by kernel_rfl) (by rfl) (by kernel_rfl) ?_; rw [hWm144]))
       have hR2 : R = ((fl0 : Fl), ((Cn.step f.c 1 (⟨s.fl, s.win, (s.dn : Int), s.sq, s.ak⟩)).2 : Int)) := by rw [← HR.out]; first | rfl | (simp [docGo, Fl.keep, hq5, hq9, hq17, hq22, bne_t_fw hq112]; done)
       subst hR2
       exact ret_cell_tmp (k := 8) (j := 9) Try.f16 (by kernel_rfl) Cm144 Try.underlying33 (by kernel_rfl) (by rfl) (by rfl) rfl ⟨rfl, bm144⟩
   ·go_simp
    obtain ⟨Wx3, hWx3⟩ : ∃ W, Wdq11.alloc (.cells #[.int .i64 0, .int .i64 0, .int .i64 0, .int .u64 0, .int .u64 0, .int .i64 0, .int .u64 0, .int .u64 0, .int .i64 0, .int .i64 0] 26) = W := ⟨_, rfl⟩
    rw [hWx3]
    have Ax3 := Adq11.al hWx3
    have Bx3 := Bdq11.al hWx3
    have Cx3 := Cdq11.al hWx3
    have Y2_x3 := blk_nw hWx3
    have bx3 := bel_al bdq11 hWx3
    have gY2_ : w.heap.size ≤ Wdq11.heap.size := bdq11.size
    have nAY2_ : w.heap.size ≠ Wdq11.heap.size := by have := Adq11.lt; omega
    have nBY2_ : Wm1.heap.size ≠ Wdq11.heap.size := by have := Bdq11.lt; omega
    have nCY2_ : Wm2.heap.size ≠ Wdq11.heap.size := by have := Cdq11.lt; omega
    refine hK.out _ _ (by exact ⟨Ax3, Bx3, Cx3⟩) (fun hHeld => ?_)
    clear hK K
    try simp only [qpu]
    refine wpAnyH_ready (rs := [5]) (by kernel_rfl) (by simp) ?_
    refine AllReadyH.cons (o := fxg12o6) rfl (fun K hK => ?_) AllReadyH.nil
    go_simp
    refine Calls.mono (quest_fw f.w.fam _) ?_
    rintro e Wx145 ⟨rfl, bb⟩
    have Ax145 := Ax3.kept bb
    have Bx145 := Bx3.kept bb
    have Cx145 := Cx3.kept bb
    have Y2_x145 := Y2_x3.kept bb
    have bx145 := bel_tr bx3 bb
    clear bb
    refine hK.out _ _ (by exact ⟨Ax145, Bx145, Cx145⟩) (fun hHeld => ?_)
    clear hK K
    try simp only [qpu]
    refine wpAnyH_ready (rs := [7]) (by kernel_rfl) (by simp) ?_
    refine AllReadyH.cons (o := fxg12o0) rfl (fun K hK => ?_) AllReadyH.nil
    refine step_store_blk rfl _ _ _ rfl Wdq11.heap.size f.w.v _ (by rfl) (by rfl) Y2_x145 (by kernel_rfl) (by rfl) (by kernel_rfl) ?_
    obtain ⟨Wx4, hWx4⟩ : ∃ W, Wx145.setRow Wdq11.heap.size f.w.v = W := ⟨_, rfl⟩
    rw [hWx4]
    have Ax4 := hWx4 ▸ Ax145.other nAY2_ f.w.v
    have Bx4 := hWx4 ▸ Bx145.other nBY2_ f.w.v
    have Cx4 := hWx4 ▸ Cx145.other nCY2_ f.w.v
    have Y2_x4 : Blk Wx4 Wdq11.heap.size 26 f.w.v := hWx4 ▸ Y2_x145.set f.w.v
    have bx4 := hWx4 ▸ below_setRow bx145 gY2_ f.w.v
    refine hK.out _ _ (by exact ⟨Ax4, Bx4, Cx4⟩) (fun hHeld => ?_)
    clear hK K
    try simp only [qpu]
    refine qtk (i := 8) (oi := fxg12o2) (v := (.int .i64 (quT f.w.fam))) hHeld ?_ ?_
    ·intro w9 hSw
     try dsimp only at hSw
     go_simp
    try simp only [qpu]
    refine wpAnyH_done (by kernel_rfl) ?_ _
    refine NoPanic.normal ?_
    have nY2_A : Wdq11.heap.size ≠ w.heap.size := fun e => nAY2_ e.symm
    have nY2_B : Wdq11.heap.size ≠ Wm1.heap.size := fun e => nBY2_ e.symm
    have nY2_C : Wdq11.heap.size ≠ Wm2.heap.size := fun e => nCY2_ e.symm
    go_wp2_with fail
    obtain ⟨Wdq146, hWdq146⟩ : ∃ W, Wx4.drew = W := ⟨_, rfl⟩
    have Adq146 := hWdq146 ▸ Ax4.drew
    have Bdq146 := hWdq146 ▸ Bx4.drew
    have Cdq146 := hWdq146 ▸ Cx4.drew
    have Y2_dq146 := hWdq146 ▸ Y2_x4.drew
    have bdq146 := hWdq146 ▸ bx4.drew
    refine wp_region_noPanic ?_
    refine wp_region_held_drew (S := fun w' => Blk w' w.heap.size 33 f.v ∧ Blk w' Wm1.heap.size 36 s.v ∧ Blk w' Wm2.heap.size 33 #[.int .i64 0, .int .i64 0, .int .i64 0, .int .u64 0, .int .u64 0, .int .i64 0, .int .u64 0, .int .u64 0, .int .i64 0, .int .i64 0, .int .i64 0, .int .u32 0, .int .u32 0, .int .u32 0, .int .u32 0, .bool false, .bool false, .bool false, .bool false, .int .i64 0, .int .i64 0, .bool false]) (by kernel_rfl) (by rw [hWdq146]; exact ⟨Adq146, Bdq146, Cdq146⟩) (fun hHeld => ?_)
    rw [hWdq146] at hHeld ⊢
    refine qtk (i := 0) (oi := fxg12o12) (v := (.pointer (some ⟨w.heap.size, 0, none⟩))) hHeld ?_ ?_
    ·intro w9 hSw
     try dsimp only at hSw
     go_simp
    try simp only [qpu]
    refine qty (i := 1) (oi := fxg12o9) (v := (.agg f.w.v)) (yieldsIf_sub_w (by kernel_rfl) _ _ rfl w.heap.size 0 _ (by rfl) _ f.w.v (fun _ hSw => hSw.1) (by rfl) Try.underlying26 (by kernel_rfl)) hHeld ?_
    try simp only [qpu]
    refine qtk (i := 3) (oi := fxg12o13) (v := (.pointer (some ⟨w.heap.size, 0, none⟩))) hHeld ?_ ?_
    ·intro w9 hSw
     try dsimp only at hSw
     go_simp
    try simp only [qpu]
    refine qtk (i := 4) (oi := fxg12o10) (v := (.pointer (some ⟨w.heap.size, 0, none⟩))) hHeld ?_ ?_
    ·intro w9 hSw
     try dsimp only at hSw
     go_simp
    try simp only [qpu]
    refine qtk (i := 5) (oi := fxg12o11) (v := (.int .i64 f.w.fam)) hHeld ?_ ?_
    ·intro w9 hSw
     try dsimp only at hSw
     have hcc := hSw.1.cell 0 (.int .i64 f.w.fam) rfl
     go_simp
    try simp only [qpu]
    refine wpAnyH_ready (rs := [2]) (by kernel_rfl) (by simp) ?_
    refine AllReadyH.cons (o := fxg12o5) rfl (fun K hK => ?_) AllReadyH.nil
    go_simp
    refine Calls.mono (rrev_t f.w _) ?_
    rintro e Wx147 ⟨rfl, bb⟩
    have Ax147 := Adq146.kept bb
    have Bx147 := Bdq146.kept bb
    have Cx147 := Cdq146.kept bb
    have Y2_x147 := Y2_dq146.kept bb
    have bx147 := bel_tr bdq146 bb
    clear bb
    refine hK.out _ _ (by exact ⟨Ax147, Bx147, Cx147⟩) (fun hHeld => ?_)
    clear hK K
    try simp only [qpu]
    refine wpAnyH_ready (rs := [6]) (by kernel_rfl) (by simp) ?_
    refine AllReadyH.cons (o := fxg12o4) rfl (fun K hK => ?_) AllReadyH.nil
    go_simp
    refine Calls.mono (answ_fw f.w.fam _) ?_
    rintro e Wx148 ⟨rfl, bb⟩
    have Ax148 := Ax147.kept bb
    have Bx148 := Bx147.kept bb
    have Cx148 := Cx147.kept bb
    have Y2_x148 := Y2_x147.kept bb
    have bx148 := bel_tr bx147 bb
    clear bb
    refine hK.out _ _ (by exact ⟨Ax148, Bx148, Cx148⟩) (fun hHeld => ?_)
    clear hK K
    try simp only [qpu]
    refine wpAnyH_ready (rs := [7]) (by kernel_rfl) (by simp) ?_
    refine AllReadyH.cons (o := fxg12o1) rfl (fun K hK => ?_) AllReadyH.nil
    refine step_store_blk rfl _ _ _ rfl Wdq11.heap.size (f.w.rev).v _ (by rfl) (by rfl) Y2_x148 (by kernel_rfl) (by rfl) (by kernel_rfl) ?_
    obtain ⟨Wx1, hWx1⟩ : ∃ W, Wx148.setRow Wdq11.heap.size (f.w.rev).v = W := ⟨_, rfl⟩
    rw [hWx1]
    have Ax1 := hWx1 ▸ Ax148.other nAY2_ (f.w.rev).v
    have Bx1 := hWx1 ▸ Bx148.other nBY2_ (f.w.rev).v
    have Cx1 := hWx1 ▸ Cx148.other nCY2_ (f.w.rev).v
    have Y2_x1 : Blk Wx1 Wdq11.heap.size 26 (f.w.rev).v := hWx1 ▸ Y2_x148.set (f.w.rev).v
    have bx1 := hWx1 ▸ below_setRow bx148 gY2_ (f.w.rev).v
    refine hK.out _ _ (by exact ⟨Ax1, Bx1, Cx1⟩) (fun hHeld => ?_)
    clear hK K
    try simp only [qpu]
    refine qtk (i := 8) (oi := fxg12o3) (v := (.int .i64 (anT f.w.fam))) hHeld ?_ ?_
    ·intro w9 hSw
     try dsimp only at hSw
     go_simp
    try simp only [qpu]
    refine wpAnyH_done (by kernel_rfl) ?_ _
    refine NoPanic.normal ?_
    cases hq150 : (Wy.eqB s.w (f.w.rev)) with
    | false =>
     have hE151 := neq_way s.w (f.w.rev)
     obtain ⟨Wm152, hWm152⟩ : ∃ W, Wx1.setRow Wm2.heap.size fl0.v = W := ⟨_, rfl⟩
     have Cm152 : Blk Wm152 Wm2.heap.size 33 fl0.v := hWm152 ▸ Cx1.set fl0.v
     have Am152 := hWm152 ▸ Ax1.other nAC fl0.v
     have Bm152 := hWm152 ▸ Bx1.other nBC fl0.v
     have Y2_m152 := hWm152 ▸ Y2_x1.other nY2_C fl0.v
     have bm152 := hWm152 ▸ below_setRow bx1 gC fl0.v
     go_wp2_with (first | (refine wpList_load_sub_w (by rfl) _ _ rfl Wm1.heap.size 0 _ (by rfl) _ s.w.v Bx1 (by rfl) Try.underlying26 (by kernel_rfl) ?_) | (refine wpList_load_blk_w (by rfl) _ _ rfl Wdq11.heap.size (by rfl) _ Y2_x1 Try.underlying26 (by kernel_rfl) ?_) | (refine wpList_store_row rfl _ _ _ rfl Wm2.heap.size fl0.v (by rfl) (by rfl) _ _ Cx1 (by kernel_rfl) (by rfl) (by kernel_rfl) ?_; rw [hWm152]))
     have hR2 : R = ((fl0 : Fl), (23 : Int)) := by rw [← HR.out]; first | rfl | (simp [docGo, Fl.keep, hq5, hq9, hq150]; done)
     subst hR2
     exact ret_cell_tmp (k := 8) (j := 9) Try.f16 (by kernel_rfl) Cm152 Try.underlying33 (by kernel_rfl) (by rfl) (by rfl) rfl ⟨rfl, bm152⟩
    | true =>
     cases hq155 : (f.w.pr == 6) with
     | false =>
      cases hq158 : (f.w.pr == 17) with
      | false =>
       cases hq162 : (s.ty != (anT f.w.fam)) with
       | false =>
        cases hq167 : (s.co != 0) with
        | false =>
         cases hq173 : f.both with
         | false =>
          have hE174 := neq_way s.w (f.w.rev)
          have c175 := Ax1.cell 1 (.int .i64 f.w.pr) rfl
          have c176 := Bx1.cell 14 (.int .i64 s.ty) rfl
          have c177 := Bx1.cell 15 (.int .i64 s.co) rfl
          have c178 := Ax1.cell 21 (.bool f.both) rfl
          have y180 := Ax1.cell 21 (.bool f.both) rfl
          have z181 := Ax1.frozen 21
          obtain ⟨Wm179, hWm179⟩ : ∃ W, Wx1.setCell ⟨w.heap.size, 21, none⟩ (.bool true) = W := ⟨_, rfl⟩
          have Am179 : Blk Wm179 w.heap.size 33 (Fl.v ⟨f.w, f.c, f.ends, f.help, true⟩) := hWm179 ▸ Ax1.put 21 (.bool true)
          have Bm179 := hWm179 ▸ Bx1.put_other Ax1 nBA 21 (.bool true)
          have Cm179 := hWm179 ▸ Cx1.put_other Ax1 nCA 21 (.bool true)
          have Y2_m179 := hWm179 ▸ Y2_x1.put_other Ax1 nY2_A 21 (.bool true)
          have bm179 := hWm179 ▸ bx1.setCell (p := ⟨w.heap.size, 21, none⟩) gA (.bool true)
          go_wp2_with (first | (refine wpList_load_sub_w (by rfl) _ _ rfl Wm1.heap.size 0 _ (by rfl) _ s.w.v Bx1 (by rfl) Try.underlying26 (by kernel_rfl) ?_) | (refine wpList_load_blk_w (by rfl) _ _ rfl Wdq11.heap.size (by rfl) _ Y2_x1 Try.underlying26 (by kernel_rfl) ?_) | (refine wpList_load_blk_w (by rfl) _ _ rfl w.heap.size (by rfl) _ Am179 Try.underlying33 (by kernel_rfl) ?_))
          clear hE174 c175 c176 c177 c178 y180 z181
          refine Calls.mono (rlife_fw (⟨f.w, f.c, f.ends, f.help, true⟩) _) ?_
          rintro e Wm182 ⟨rfl, bb⟩
          have Am182 := Am179.kept bb
          have Bm182 := Bm179.kept bb
          have Cm182 := Cm179.kept bb
          have Y2_m182 := Y2_m179.kept bb
          have bm182 := bel_tr bm179 bb
          clear bb
          have hlf := life_bd0 (⟨f.w, f.c, f.ends, f.help, true⟩)
          have hnw := now_bd (n := now) (by assumption)
          clear Am179 Bm179 Cm179 Y2_m179 bm179
          have y184 := Am182.cell 19 (.int .i64 f.ends) rfl
          have z185 := Am182.frozen 19
          obtain ⟨Wm183, hWm183⟩ : ∃ W, Wm182.setCell ⟨w.heap.size, 19, none⟩ (.int .i64 (now + (Fl.life (⟨f.w, f.c, f.ends, f.help, true⟩)))) = W := ⟨_, rfl⟩
          have Am183 : Blk Wm183 w.heap.size 33 (Fl.v ⟨f.w, f.c, now + (Fl.life (⟨f.w, f.c, f.ends, f.help, true⟩)), f.help, true⟩) := hWm183 ▸ Am182.put 19 (.int .i64 (now + (Fl.life (⟨f.w, f.c, f.ends, f.help, true⟩))))
          have Bm183 := hWm183 ▸ Bm182.put_other Am182 nBA 19 (.int .i64 (now + (Fl.life (⟨f.w, f.c, f.ends, f.help, true⟩))))
          have Cm183 := hWm183 ▸ Cm182.put_other Am182 nCA 19 (.int .i64 (now + (Fl.life (⟨f.w, f.c, f.ends, f.help, true⟩))))
          have Y2_m183 := hWm183 ▸ Y2_m182.put_other Am182 nY2_A 19 (.int .i64 (now + (Fl.life (⟨f.w, f.c, f.ends, f.help, true⟩))))
          have bm183 := hWm183 ▸ bm182.setCell (p := ⟨w.heap.size, 19, none⟩) gA (.int .i64 (now + (Fl.life (⟨f.w, f.c, f.ends, f.help, true⟩))))
          obtain ⟨Wm186, hWm186⟩ : ∃ W, Wm183.setRow Wm2.heap.size (Fl.v ⟨f.w, f.c, now + (Fl.life (⟨f.w, f.c, f.ends, f.help, true⟩)), f.help, true⟩) = W := ⟨_, rfl⟩
          have Cm186 : Blk Wm186 Wm2.heap.size 33 (Fl.v ⟨f.w, f.c, now + (Fl.life (⟨f.w, f.c, f.ends, f.help, true⟩)), f.help, true⟩) := hWm186 ▸ Cm183.set (Fl.v ⟨f.w, f.c, now + (Fl.life (⟨f.w, f.c, f.ends, f.help, true⟩)), f.help, true⟩)
          have Am186 := hWm186 ▸ Am183.other nAC (Fl.v ⟨f.w, f.c, now + (Fl.life (⟨f.w, f.c, f.ends, f.help, true⟩)), f.help, true⟩)
          have Bm186 := hWm186 ▸ Bm183.other nBC (Fl.v ⟨f.w, f.c, now + (Fl.life (⟨f.w, f.c, f.ends, f.help, true⟩)), f.help, true⟩)
          have Y2_m186 := hWm186 ▸ Y2_m183.other nY2_C (Fl.v ⟨f.w, f.c, now + (Fl.life (⟨f.w, f.c, f.ends, f.help, true⟩)), f.help, true⟩)
          have bm186 := hWm186 ▸ below_setRow bm183 gC (Fl.v ⟨f.w, f.c, now + (Fl.life (⟨f.w, f.c, f.ends, f.help, true⟩)), f.help, true⟩)
          go_wp2_with (first | (refine wpList_load_blk_w (by rfl) _ _ rfl w.heap.size (by rfl) _ Am183 Try.underlying33 (by kernel_rfl) ?_) | (refine wpList_store_row rfl _ _ _ rfl Wm2.heap.size (Fl.v ⟨f.w, f.c, now + (Fl.life (⟨f.w, f.c, f.ends, f.help, true⟩)), f.help, true⟩) (by rfl) (by rfl) _ _ Cm183 (by kernel_rfl) (by rfl) (by kernel_rfl) ?_; rw [hWm186]))
          have hR2 : R = ((⟨f.w, f.c, now + (Fl.life (⟨f.w, f.c, f.ends, f.help, true⟩)), f.help, true⟩ : Fl), (0 : Int)) := by rw [← HR.out]; first | rfl | (simp [docGo, Fl.keep, hq5, hq9, hq150, hq155, hq158, bne_f_fw hq162, bne_f_fw hq167, hq173]; done)
          subst hR2
          exact ret_cell_tmp (k := 8) (j := 9) Try.f16 (by kernel_rfl) Cm186 Try.underlying33 (by kernel_rfl) (by rfl) (by rfl) rfl ⟨rfl, bm186⟩
         | true =>
          have hE187 := neq_way s.w (f.w.rev)
          have c188 := Ax1.cell 1 (.int .i64 f.w.pr) rfl
          have c189 := Bx1.cell 14 (.int .i64 s.ty) rfl
          have c190 := Bx1.cell 15 (.int .i64 s.co) rfl
          have c191 := Ax1.cell 21 (.bool f.both) rfl
          have y193 := Ax1.cell 21 (.bool f.both) rfl
          have z194 := Ax1.frozen 21
          obtain ⟨Wm192, hWm192⟩ : ∃ W, Wx1.setCell ⟨w.heap.size, 21, none⟩ (.bool true) = W := ⟨_, rfl⟩
          have Am192 : Blk Wm192 w.heap.size 33 (Fl.v ⟨f.w, f.c, f.ends, f.help, true⟩) := hWm192 ▸ Ax1.put 21 (.bool true)
          have Bm192 := hWm192 ▸ Bx1.put_other Ax1 nBA 21 (.bool true)
          have Cm192 := hWm192 ▸ Cx1.put_other Ax1 nCA 21 (.bool true)
          have Y2_m192 := hWm192 ▸ Y2_x1.put_other Ax1 nY2_A 21 (.bool true)
          have bm192 := hWm192 ▸ bx1.setCell (p := ⟨w.heap.size, 21, none⟩) gA (.bool true)
          go_wp2_with (first | (refine wpList_load_sub_w (by rfl) _ _ rfl Wm1.heap.size 0 _ (by rfl) _ s.w.v Bx1 (by rfl) Try.underlying26 (by kernel_rfl) ?_) | (refine wpList_load_blk_w (by rfl) _ _ rfl Wdq11.heap.size (by rfl) _ Y2_x1 Try.underlying26 (by kernel_rfl) ?_) | (refine wpList_load_blk_w (by rfl) _ _ rfl w.heap.size (by rfl) _ Am192 Try.underlying33 (by kernel_rfl) ?_))
          clear hE187 c188 c189 c190 c191 y193 z194
          refine Calls.mono (rlife_fw (⟨f.w, f.c, f.ends, f.help, true⟩) _) ?_
          rintro e Wm195 ⟨rfl, bb⟩
          have Am195 := Am192.kept bb
          have Bm195 := Bm192.kept bb
          have Cm195 := Cm192.kept bb
          have Y2_m195 := Y2_m192.kept bb
          have bm195 := bel_tr bm192 bb
          clear bb
          have hlf := life_bd0 (⟨f.w, f.c, f.ends, f.help, true⟩)
          have hnw := now_bd (n := now) (by assumption)
          clear Am192 Bm192 Cm192 Y2_m192 bm192
          have y197 := Am195.cell 19 (.int .i64 f.ends) rfl
          have z198 := Am195.frozen 19
          obtain ⟨Wm196, hWm196⟩ : ∃ W, Wm195.setCell ⟨w.heap.size, 19, none⟩ (.int .i64 (now + (Fl.life (⟨f.w, f.c, f.ends, f.help, true⟩)))) = W := ⟨_, rfl⟩
          have Am196 : Blk Wm196 w.heap.size 33 (Fl.v ⟨f.w, f.c, now + (Fl.life (⟨f.w, f.c, f.ends, f.help, true⟩)), f.help, true⟩) := hWm196 ▸ Am195.put 19 (.int .i64 (now + (Fl.life (⟨f.w, f.c, f.ends, f.help, true⟩))))
          have Bm196 := hWm196 ▸ Bm195.put_other Am195 nBA 19 (.int .i64 (now + (Fl.life (⟨f.w, f.c, f.ends, f.help, true⟩))))
          have Cm196 := hWm196 ▸ Cm195.put_other Am195 nCA 19 (.int .i64 (now + (Fl.life (⟨f.w, f.c, f.ends, f.help, true⟩))))
          have Y2_m196 := hWm196 ▸ Y2_m195.put_other Am195 nY2_A 19 (.int .i64 (now + (Fl.life (⟨f.w, f.c, f.ends, f.help, true⟩))))
          have bm196 := hWm196 ▸ bm195.setCell (p := ⟨w.heap.size, 19, none⟩) gA (.int .i64 (now + (Fl.life (⟨f.w, f.c, f.ends, f.help, true⟩))))
          obtain ⟨Wm199, hWm199⟩ : ∃ W, Wm196.setRow Wm2.heap.size (Fl.v ⟨f.w, f.c, now + (Fl.life (⟨f.w, f.c, f.ends, f.help, true⟩)), f.help, true⟩) = W := ⟨_, rfl⟩
          have Cm199 : Blk Wm199 Wm2.heap.size 33 (Fl.v ⟨f.w, f.c, now + (Fl.life (⟨f.w, f.c, f.ends, f.help, true⟩)), f.help, true⟩) := hWm199 ▸ Cm196.set (Fl.v ⟨f.w, f.c, now + (Fl.life (⟨f.w, f.c, f.ends, f.help, true⟩)), f.help, true⟩)
          have Am199 := hWm199 ▸ Am196.other nAC (Fl.v ⟨f.w, f.c, now + (Fl.life (⟨f.w, f.c, f.ends, f.help, true⟩)), f.help, true⟩)
          have Bm199 := hWm199 ▸ Bm196.other nBC (Fl.v ⟨f.w, f.c, now + (Fl.life (⟨f.w, f.c, f.ends, f.help, true⟩)), f.help, true⟩)
          have Y2_m199 := hWm199 ▸ Y2_m196.other nY2_C (Fl.v ⟨f.w, f.c, now + (Fl.life (⟨f.w, f.c, f.ends, f.help, true⟩)), f.help, true⟩)
          have bm199 := hWm199 ▸ below_setRow bm196 gC (Fl.v ⟨f.w, f.c, now + (Fl.life (⟨f.w, f.c, f.ends, f.help, true⟩)), f.help, true⟩)
          go_wp2_with (first | (refine wpList_load_blk_w (by rfl) _ _ rfl w.heap.size (by rfl) _ Am196 Try.underlying33 (by kernel_rfl) ?_) | (refine wpList_store_row rfl _ _ _ rfl Wm2.heap.size (Fl.v ⟨f.w, f.c, now + (Fl.life (⟨f.w, f.c, f.ends, f.help, true⟩)), f.help, true⟩) (by rfl) (by rfl) _ _ Cm196 (by kernel_rfl) (by rfl) (by kernel_rfl) ?_; rw [hWm199]))
          have hR2 : R = ((⟨f.w, f.c, now + (Fl.life (⟨f.w, f.c, f.ends, f.help, true⟩)), f.help, true⟩ : Fl), (0 : Int)) := by rw [← HR.out]; first | rfl | (simp [docGo, Fl.keep, hq5, hq9, hq150, hq155, hq158, bne_f_fw hq162, bne_f_fw hq167, hq173]; done)
          subst hR2
          exact ret_cell_tmp (k := 8) (j := 9) Try.f16 (by kernel_rfl) Cm199 Try.underlying33 (by kernel_rfl) (by rfl) (by rfl) rfl ⟨rfl, bm199⟩
        | true =>
         have hE200 := neq_way s.w (f.w.rev)
         have c201 := Ax1.cell 1 (.int .i64 f.w.pr) rfl
         have c202 := Bx1.cell 14 (.int .i64 s.ty) rfl
         have c203 := Bx1.cell 15 (.int .i64 s.co) rfl
         obtain ⟨Wm204, hWm204⟩ : ∃ W, Wx1.setRow Wm2.heap.size fl0.v = W := ⟨_, rfl⟩
         have Cm204 : Blk Wm204 Wm2.heap.size 33 fl0.v := hWm204 ▸ Cx1.set fl0.v
         have Am204 := hWm204 ▸ Ax1.other nAC fl0.v
         have Bm204 := hWm204 ▸ Bx1.other nBC fl0.v
         have Y2_m204 := hWm204 ▸ Y2_x1.other nY2_C fl0.v
         have bm204 := hWm204 ▸ below_setRow bx1 gC fl0.v
         go_wp2_with (first | (refine wpList_load_sub_w (by rfl) _ _ rfl Wm1.heap.size 0 _ (by rfl) _ s.w.v Bx1 (by rfl) Try.underlying26 (by kernel_rfl) ?_) | (refine wpList_load_blk_w (by rfl) _ _ rfl Wdq11.heap.size (by rfl) _ Y2_x1 Try.underlying26 (by kernel_rfl) ?_) | (refine wpList_store_row rfl _ _ _ rfl Wm2.heap.size fl0.v (by rfl) (by rfl) _ _ Cx1 (by kernel_rfl) (by rfl) (by kernel_rfl) ?_; rw [hWm204]))
         have hR2 : R = ((fl0 : Fl), (23 : Int)) := by rw [← HR.out]; first | rfl | (simp [docGo, Fl.keep, hq5, hq9, hq150, hq155, hq158, bne_f_fw hq162, bne_t_fw hq167]; done)
         subst hR2
         exact ret_cell_tmp (k := 8) (j := 9) Try.f16 (by kernel_rfl) Cm204 Try.underlying33 (by kernel_rfl) (by rfl) (by rfl) rfl ⟨rfl, bm204⟩
       | true =>
        have hE205 := neq_way s.w (f.w.rev)
        have c206 := Ax1.cell 1 (.int .i64 f.w.pr) rfl
        have c207 := Bx1.cell 14 (.int .i64 s.ty) rfl
        obtain ⟨Wm208, hWm208⟩ : ∃ W, Wx1.setRow Wm2.heap.size fl0.v = W := ⟨_, rfl⟩
        have Cm208 : Blk Wm208 Wm2.heap.size 33 fl0.v := hWm208 ▸ Cx1.set fl0.v
        have Am208 := hWm208 ▸ Ax1.other nAC fl0.v
        have Bm208 := hWm208 ▸ Bx1.other nBC fl0.v
        have Y2_m208 := hWm208 ▸ Y2_x1.other nY2_C fl0.v
        have bm208 := hWm208 ▸ below_setRow bx1 gC fl0.v
        go_wp2_with (first | (refine wpList_load_sub_w (by rfl) _ _ rfl Wm1.heap.size 0 _ (by rfl) _ s.w.v Bx1 (by rfl) Try.underlying26 (by kernel_rfl) ?_) | (refine wpList_load_blk_w (by rfl) _ _ rfl Wdq11.heap.size (by rfl) _ Y2_x1 Try.underlying26 (by kernel_rfl) ?_) | (refine wpList_store_row rfl _ _ _ rfl Wm2.heap.size fl0.v (by rfl) (by rfl) _ _ Cx1 (by kernel_rfl) (by rfl) (by kernel_rfl) ?_; rw [hWm208]))
        have hR2 : R = ((fl0 : Fl), (23 : Int)) := by rw [← HR.out]; first | rfl | (simp [docGo, Fl.keep, hq5, hq9, hq150, hq155, hq158, bne_t_fw hq162]; done)
        subst hR2
        exact ret_cell_tmp (k := 8) (j := 9) Try.f16 (by kernel_rfl) Cm208 Try.underlying33 (by kernel_rfl) (by rfl) (by rfl) rfl ⟨rfl, bm208⟩
      | true =>
       cases hq212 : f.both with
       | false =>
        have hE213 := neq_way s.w (f.w.rev)
        have c214 := Ax1.cell 1 (.int .i64 f.w.pr) rfl
        have c215 := Ax1.cell 21 (.bool f.both) rfl
        have y217 := Ax1.cell 21 (.bool f.both) rfl
        have z218 := Ax1.frozen 21
        obtain ⟨Wm216, hWm216⟩ : ∃ W, Wx1.setCell ⟨w.heap.size, 21, none⟩ (.bool true) = W := ⟨_, rfl⟩
        have Am216 : Blk Wm216 w.heap.size 33 (Fl.v ⟨f.w, f.c, f.ends, f.help, true⟩) := hWm216 ▸ Ax1.put 21 (.bool true)
        have Bm216 := hWm216 ▸ Bx1.put_other Ax1 nBA 21 (.bool true)
        have Cm216 := hWm216 ▸ Cx1.put_other Ax1 nCA 21 (.bool true)
        have Y2_m216 := hWm216 ▸ Y2_x1.put_other Ax1 nY2_A 21 (.bool true)
        have bm216 := hWm216 ▸ bx1.setCell (p := ⟨w.heap.size, 21, none⟩) gA (.bool true)
        go_wp2_with (first | (refine wpList_load_sub_w (by rfl) _ _ rfl Wm1.heap.size 0 _ (by rfl) _ s.w.v Bx1 (by rfl) Try.underlying26 (by kernel_rfl) ?_) | (refine wpList_load_blk_w (by rfl) _ _ rfl Wdq11.heap.size (by rfl) _ Y2_x1 Try.underlying26 (by kernel_rfl) ?_) | (refine wpList_load_blk_w (by rfl) _ _ rfl w.heap.size (by rfl) _ Am216 Try.underlying33 (by kernel_rfl) ?_))
        clear hE213 c214 c215 y217 z218
        refine Calls.mono (rlife_fw (⟨f.w, f.c, f.ends, f.help, true⟩) _) ?_
        rintro e Wm219 ⟨rfl, bb⟩
        have Am219 := Am216.kept bb
        have Bm219 := Bm216.kept bb
        have Cm219 := Cm216.kept bb
        have Y2_m219 := Y2_m216.kept bb
        have bm219 := bel_tr bm216 bb
        clear bb
        have hlf := life_bd0 (⟨f.w, f.c, f.ends, f.help, true⟩)
        have hnw := now_bd (n := now) (by assumption)
        clear Am216 Bm216 Cm216 Y2_m216 bm216
        have y221 := Am219.cell 19 (.int .i64 f.ends) rfl
        have z222 := Am219.frozen 19
        obtain ⟨Wm220, hWm220⟩ : ∃ W, Wm219.setCell ⟨w.heap.size, 19, none⟩ (.int .i64 (now + (Fl.life (⟨f.w, f.c, f.ends, f.help, true⟩)))) = W := ⟨_, rfl⟩
        have Am220 : Blk Wm220 w.heap.size 33 (Fl.v ⟨f.w, f.c, now + (Fl.life (⟨f.w, f.c, f.ends, f.help, true⟩)), f.help, true⟩) := hWm220 ▸ Am219.put 19 (.int .i64 (now + (Fl.life (⟨f.w, f.c, f.ends, f.help, true⟩))))
        have Bm220 := hWm220 ▸ Bm219.put_other Am219 nBA 19 (.int .i64 (now + (Fl.life (⟨f.w, f.c, f.ends, f.help, true⟩))))
        have Cm220 := hWm220 ▸ Cm219.put_other Am219 nCA 19 (.int .i64 (now + (Fl.life (⟨f.w, f.c, f.ends, f.help, true⟩))))
        have Y2_m220 := hWm220 ▸ Y2_m219.put_other Am219 nY2_A 19 (.int .i64 (now + (Fl.life (⟨f.w, f.c, f.ends, f.help, true⟩))))
        have bm220 := hWm220 ▸ bm219.setCell (p := ⟨w.heap.size, 19, none⟩) gA (.int .i64 (now + (Fl.life (⟨f.w, f.c, f.ends, f.help, true⟩))))
        obtain ⟨Wm223, hWm223⟩ : ∃ W, Wm220.setRow Wm2.heap.size (Fl.v ⟨f.w, f.c, now + (Fl.life (⟨f.w, f.c, f.ends, f.help, true⟩)), f.help, true⟩) = W := ⟨_, rfl⟩
        have Cm223 : Blk Wm223 Wm2.heap.size 33 (Fl.v ⟨f.w, f.c, now + (Fl.life (⟨f.w, f.c, f.ends, f.help, true⟩)), f.help, true⟩) := hWm223 ▸ Cm220.set (Fl.v ⟨f.w, f.c, now + (Fl.life (⟨f.w, f.c, f.ends, f.help, true⟩)), f.help, true⟩)
        have Am223 := hWm223 ▸ Am220.other nAC (Fl.v ⟨f.w, f.c, now + (Fl.life (⟨f.w, f.c, f.ends, f.help, true⟩)), f.help, true⟩)
        have Bm223 := hWm223 ▸ Bm220.other nBC (Fl.v ⟨f.w, f.c, now + (Fl.life (⟨f.w, f.c, f.ends, f.help, true⟩)), f.help, true⟩)
        have Y2_m223 := hWm223 ▸ Y2_m220.other nY2_C (Fl.v ⟨f.w, f.c, now + (Fl.life (⟨f.w, f.c, f.ends, f.help, true⟩)), f.help, true⟩)
        have bm223 := hWm223 ▸ below_setRow bm220 gC (Fl.v ⟨f.w, f.c, now + (Fl.life (⟨f.w, f.c, f.ends, f.help, true⟩)), f.help, true⟩)
        go_wp2_with (first | (refine wpList_load_blk_w (by rfl) _ _ rfl w.heap.size (by rfl) _ Am220 Try.underlying33 (by kernel_rfl) ?_) | (refine wpList_store_row rfl _ _ _ rfl Wm2.heap.size (Fl.v ⟨f.w, f.c, now + (Fl.life (⟨f.w, f.c, f.ends, f.help, true⟩)), f.help, true⟩) (by rfl) (by rfl) _ _ Cm220 (by kernel_rfl) (by rfl) (by kernel_rfl) ?_; rw [hWm223]))
        have hR2 : R = ((⟨f.w, f.c, now + (Fl.life (⟨f.w, f.c, f.ends, f.help, true⟩)), f.help, true⟩ : Fl), (0 : Int)) := by rw [← HR.out]; first | rfl | (simp [docGo, Fl.keep, hq5, hq9, hq150, hq155, hq158, hq212]; done)
        subst hR2
        exact ret_cell_tmp (k := 8) (j := 9) Try.f16 (by kernel_rfl) Cm223 Try.underlying33 (by kernel_rfl) (by rfl) (by rfl) rfl ⟨rfl, bm223⟩
       | true =>
        have hE224 := neq_way s.w (f.w.rev)
        have c225 := Ax1.cell 1 (.int .i64 f.w.pr) rfl
        have c226 := Ax1.cell 21 (.bool f.both) rfl
        have y228 := Ax1.cell 21 (.bool f.both) rfl
        have z229 := Ax1.frozen 21
        obtain ⟨Wm227, hWm227⟩ : ∃ W, Wx1.setCell ⟨w.heap.size, 21, none⟩ (.bool true) = W := ⟨_, rfl⟩
        have Am227 : Blk Wm227 w.heap.size 33 (Fl.v ⟨f.w, f.c, f.ends, f.help, true⟩) := hWm227 ▸ Ax1.put 21 (.bool true)
        have Bm227 := hWm227 ▸ Bx1.put_other Ax1 nBA 21 (.bool true)
        have Cm227 := hWm227 ▸ Cx1.put_other Ax1 nCA 21 (.bool true)
        have Y2_m227 := hWm227 ▸ Y2_x1.put_other Ax1 nY2_A 21 (.bool true)
        have bm227 := hWm227 ▸ bx1.setCell (p := ⟨w.heap.size, 21, none⟩) gA (.bool true)
        go_wp2_with (first | (refine wpList_load_sub_w (by rfl) _ _ rfl Wm1.heap.size 0 _ (by rfl) _ s.w.v Bx1 (by rfl) Try.underlying26 (by kernel_rfl) ?_) | (refine wpList_load_blk_w (by rfl) _ _ rfl Wdq11.heap.size (by rfl) _ Y2_x1 Try.underlying26 (by kernel_rfl) ?_) | (refine wpList_load_blk_w (by rfl) _ _ rfl w.heap.size (by rfl) _ Am227 Try.underlying33 (by kernel_rfl) ?_))
        clear hE224 c225 c226 y228 z229
        refine Calls.mono (rlife_fw (⟨f.w, f.c, f.ends, f.help, true⟩) _) ?_
        rintro e Wm230 ⟨rfl, bb⟩
        have Am230 := Am227.kept bb
        have Bm230 := Bm227.kept bb
        have Cm230 := Cm227.kept bb
        have Y2_m230 := Y2_m227.kept bb
        have bm230 := bel_tr bm227 bb
        clear bb
        have hlf := life_bd0 (⟨f.w, f.c, f.ends, f.help, true⟩)
        have hnw := now_bd (n := now) (by assumption)
        clear Am227 Bm227 Cm227 Y2_m227 bm227
        have y232 := Am230.cell 19 (.int .i64 f.ends) rfl
        have z233 := Am230.frozen 19
        obtain ⟨Wm231, hWm231⟩ : ∃ W, Wm230.setCell ⟨w.heap.size, 19, none⟩ (.int .i64 (now + (Fl.life (⟨f.w, f.c, f.ends, f.help, true⟩)))) = W := ⟨_, rfl⟩
        have Am231 : Blk Wm231 w.heap.size 33 (Fl.v ⟨f.w, f.c, now + (Fl.life (⟨f.w, f.c, f.ends, f.help, true⟩)), f.help, true⟩) := hWm231 ▸ Am230.put 19 (.int .i64 (now + (Fl.life (⟨f.w, f.c, f.ends, f.help, true⟩))))
        have Bm231 := hWm231 ▸ Bm230.put_other Am230 nBA 19 (.int .i64 (now + (Fl.life (⟨f.w, f.c, f.ends, f.help, true⟩))))
        have Cm231 := hWm231 ▸ Cm230.put_other Am230 nCA 19 (.int .i64 (now + (Fl.life (⟨f.w, f.c, f.ends, f.help, true⟩))))
        have Y2_m231 := hWm231 ▸ Y2_m230.put_other Am230 nY2_A 19 (.int .i64 (now + (Fl.life (⟨f.w, f.c, f.ends, f.help, true⟩))))
        have bm231 := hWm231 ▸ bm230.setCell (p := ⟨w.heap.size, 19, none⟩) gA (.int .i64 (now + (Fl.life (⟨f.w, f.c, f.ends, f.help, true⟩))))
        obtain ⟨Wm234, hWm234⟩ : ∃ W, Wm231.setRow Wm2.heap.size (Fl.v ⟨f.w, f.c, now + (Fl.life (⟨f.w, f.c, f.ends, f.help, true⟩)), f.help, true⟩) = W := ⟨_, rfl⟩
        have Cm234 : Blk Wm234 Wm2.heap.size 33 (Fl.v ⟨f.w, f.c, now + (Fl.life (⟨f.w, f.c, f.ends, f.help, true⟩)), f.help, true⟩) := hWm234 ▸ Cm231.set (Fl.v ⟨f.w, f.c, now + (Fl.life (⟨f.w, f.c, f.ends, f.help, true⟩)), f.help, true⟩)
        have Am234 := hWm234 ▸ Am231.other nAC (Fl.v ⟨f.w, f.c, now + (Fl.life (⟨f.w, f.c, f.ends, f.help, true⟩)), f.help, true⟩)
        have Bm234 := hWm234 ▸ Bm231.other nBC (Fl.v ⟨f.w, f.c, now + (Fl.life (⟨f.w, f.c, f.ends, f.help, true⟩)), f.help, true⟩)
        have Y2_m234 := hWm234 ▸ Y2_m231.other nY2_C (Fl.v ⟨f.w, f.c, now + (Fl.life (⟨f.w, f.c, f.ends, f.help, true⟩)), f.help, true⟩)
        have bm234 := hWm234 ▸ below_setRow bm231 gC (Fl.v ⟨f.w, f.c, now + (Fl.life (⟨f.w, f.c, f.ends, f.help, true⟩)), f.help, true⟩)
        go_wp2_with (first | (refine wpList_load_blk_w (by rfl) _ _ rfl w.heap.size (by rfl) _ Am231 Try.underlying33 (by kernel_rfl) ?_) | (refine wpList_store_row rfl _ _ _ rfl Wm2.heap.size (Fl.v ⟨f.w, f.c, now + (Fl.life (⟨f.w, f.c, f.ends, f.help, true⟩)), f.help, true⟩) (by rfl) (by rfl) _ _ Cm231 (by kernel_rfl) (by rfl) (by kernel_rfl) ?_; rw [hWm234]))
        have hR2 : R = ((⟨f.w, f.c, now + (Fl.life (⟨f.w, f.c, f.ends, f.help, true⟩)), f.help, true⟩ : Fl), (0 : Int)) := by rw [← HR.out]; first | rfl | (simp [docGo, Fl.keep, hq5, hq9, hq150, hq155, hq158, hq212]; done)
        subst hR2
        exact ret_cell_tmp (k := 8) (j := 9) Try.f16 (by kernel_rfl) Cm234 Try.underlying33 (by kernel_rfl) (by rfl) (by rfl) rfl ⟨rfl, bm234⟩
     | true =>
      have hE235 := neq_way s.w (f.w.rev)
      have c236 := Ax1.cell 1 (.int .i64 f.w.pr) rfl
      have c237 := Bx1.cell 10 (.int .i64 s.fl) rfl
      have c238 := Bx1.cell 13 (.int .i64 s.win) rfl
      have c239 := Bx1.cell 27 (.slice s.da s.dn s.dc) rfl
      have c240 := Bx1.cell 11 (.int .u32 s.sq) rfl
      have c241 := Bx1.cell 12 (.int .u32 s.ak) rfl
      go_wp2_with (first | (refine wpList_load_sub_w (by rfl) _ _ rfl Wm1.heap.size 0 _ (by rfl) _ s.w.v Bx1 (by rfl) Try.underlying26 (by kernel_rfl) ?_) | (refine wpList_load_blk_w (by rfl) _ _ rfl Wdq11.heap.size (by rfl) _ Y2_x1 Try.underlying26 (by kernel_rfl) ?_) | (refine wpList_load_sub_w (by rfl) _ _ rfl w.heap.size 10 _ (by rfl) _ f.c.v Ax1 (by rfl) Try.underlying31 (by kernel_rfl) ?_))
      clear hE235 c236 c237 c238 c239 c240 c241
      refine Calls.mono (rstep_fw f.c 1 (⟨s.fl, s.win, (s.dn : Int), s.sq, s.ak⟩) _) ?_
      rintro e Wm242 ⟨rfl, bb⟩
      have Am242 := Ax1.kept bb
      have Bm242 := Bx1.kept bb
      have Cm242 := Cx1.kept bb
      have Y2_m242 := Y2_x1.kept bb
      have bm242 := bel_tr bx1 bb
      clear bb
      clear Ax1 Bx1 Cx1 Y2_x1 bx1
      cases hq245 : ((Cn.step f.c 1 (⟨s.fl, s.win, (s.dn : Int), s.sq, s.ak⟩)).2 != 0) with
      | false =>
       cases hq250 : f.both with
       | false =>
        obtain ⟨Wm251, hWm251⟩ : ∃ W, Wm242.alloc (.cells #[.int .i64 0, .int .u32 0, .int .u32 0, .int .u32 0, .int .u32 0, .bool false, .bool false, .bool false, .bool false] 31) = W := ⟨_, rfl⟩
        have bm251 := bel_al bm242 hWm251
        have Am251 := Am242.al hWm251
        have Bm251 := Bm242.al hWm251
        have Cm251 := Cm242.al hWm251
        have Y2_m251 := Y2_m242.al hWm251
        have Dm251 := blk_nw hWm251
        have gD : w.heap.size ≤ Wm242.heap.size := bm242.size
        have nAD : w.heap.size ≠ Wm242.heap.size := by have := Am242.lt; omega
        have nDA : Wm242.heap.size ≠ w.heap.size := fun e => nAD e.symm
        have nBD : Wm1.heap.size ≠ Wm242.heap.size := by have := Bm242.lt; omega
        have nDB : Wm242.heap.size ≠ Wm1.heap.size := fun e => nBD e.symm
        have nCD : Wm2.heap.size ≠ Wm242.heap.size := by have := Cm242.lt; omega
        have nDC : Wm242.heap.size ≠ Wm2.heap.size := fun e => nCD e.symm
        have nY2_D : Wdq11.heap.size ≠ Wm242.heap.size := by have := Y2_m242.lt; omega
        have nDY2_ : Wm242.heap.size ≠ Wdq11.heap.size := fun e => nY2_D e.symm
        obtain ⟨Wm252, hWm252⟩ : ∃ W, Wm251.setRow Wm242.heap.size (Cn.step f.c 1 (⟨s.fl, s.win, (s.dn : Int), s.sq, s.ak⟩)).1.v = W := ⟨_, rfl⟩
        have Dm252 : Blk Wm252 Wm242.heap.size 31 (Cn.step f.c 1 (⟨s.fl, s.win, (s.dn : Int), s.sq, s.ak⟩)).1.v := hWm252 ▸ Dm251.set (Cn.step f.c 1 (⟨s.fl, s.win, (s.dn : Int), s.sq, s.ak⟩)).1.v
        have Am252 := hWm252 ▸ Am251.other nAD (Cn.step f.c 1 (⟨s.fl, s.win, (s.dn : Int), s.sq, s.ak⟩)).1.v
        have Bm252 := hWm252 ▸ Bm251.other nBD (Cn.step f.c 1 (⟨s.fl, s.win, (s.dn : Int), s.sq, s.ak⟩)).1.v
        have Cm252 := hWm252 ▸ Cm251.other nCD (Cn.step f.c 1 (⟨s.fl, s.win, (s.dn : Int), s.sq, s.ak⟩)).1.v
        have Y2_m252 := hWm252 ▸ Y2_m251.other nY2_D (Cn.step f.c 1 (⟨s.fl, s.win, (s.dn : Int), s.sq, s.ak⟩)).1.v
        have bm252 := hWm252 ▸ below_setRow bm251 gD (Cn.step f.c 1 (⟨s.fl, s.win, (s.dn : Int), s.sq, s.ak⟩)).1.v
        obtain ⟨Wm253, hWm253⟩ : ∃ W, Wm252.setRow w.heap.size (Fl.v ⟨f.w, (Cn.step f.c 1 (⟨s.fl, s.win, (s.dn : Int), s.sq, s.ak⟩)).1, f.ends, f.help, f.both⟩) = W := ⟨_, rfl⟩
        have Am253 : Blk Wm253 w.heap.size 33 (Fl.v ⟨f.w, (Cn.step f.c 1 (⟨s.fl, s.win, (s.dn : Int), s.sq, s.ak⟩)).1, f.ends, f.help, f.both⟩) := hWm253 ▸ Am252.set (Fl.v ⟨f.w, (Cn.step f.c 1 (⟨s.fl, s.win, (s.dn : Int), s.sq, s.ak⟩)).1, f.ends, f.help, f.both⟩)
        have Bm253 := hWm253 ▸ Bm252.other nBA (Fl.v ⟨f.w, (Cn.step f.c 1 (⟨s.fl, s.win, (s.dn : Int), s.sq, s.ak⟩)).1, f.ends, f.help, f.both⟩)
        have Cm253 := hWm253 ▸ Cm252.other nCA (Fl.v ⟨f.w, (Cn.step f.c 1 (⟨s.fl, s.win, (s.dn : Int), s.sq, s.ak⟩)).1, f.ends, f.help, f.both⟩)
        have Y2_m253 := hWm253 ▸ Y2_m252.other nY2_A (Fl.v ⟨f.w, (Cn.step f.c 1 (⟨s.fl, s.win, (s.dn : Int), s.sq, s.ak⟩)).1, f.ends, f.help, f.both⟩)
        have Dm253 := hWm253 ▸ Dm252.other nDA (Fl.v ⟨f.w, (Cn.step f.c 1 (⟨s.fl, s.win, (s.dn : Int), s.sq, s.ak⟩)).1, f.ends, f.help, f.both⟩)
        have bm253 := hWm253 ▸ below_setRow bm252 gA (Fl.v ⟨f.w, (Cn.step f.c 1 (⟨s.fl, s.win, (s.dn : Int), s.sq, s.ak⟩)).1, f.ends, f.help, f.both⟩)
        have c254 := Am253.cell 21 (.bool f.both) rfl
        have y256 := Am253.cell 21 (.bool f.both) rfl
        have z257 := Am253.frozen 21
        obtain ⟨Wm255, hWm255⟩ : ∃ W, Wm253.setCell ⟨w.heap.size, 21, none⟩ (.bool true) = W := ⟨_, rfl⟩
        have Am255 : Blk Wm255 w.heap.size 33 (Fl.v ⟨f.w, (Cn.step f.c 1 (⟨s.fl, s.win, (s.dn : Int), s.sq, s.ak⟩)).1, f.ends, f.help, true⟩) := hWm255 ▸ Am253.put 21 (.bool true)
        have Bm255 := hWm255 ▸ Bm253.put_other Am253 nBA 21 (.bool true)
        have Cm255 := hWm255 ▸ Cm253.put_other Am253 nCA 21 (.bool true)
        have Y2_m255 := hWm255 ▸ Y2_m253.put_other Am253 nY2_A 21 (.bool true)
        have Dm255 := hWm255 ▸ Dm253.put_other Am253 nDA 21 (.bool true)
        have bm255 := hWm255 ▸ bm253.setCell (p := ⟨w.heap.size, 21, none⟩) gA (.bool true)
        go_wp2_with (first | (refine wpList_store_row rfl _ _ _ rfl Wm242.heap.size (Cn.step f.c 1 (⟨s.fl, s.win, (s.dn : Int), s.sq, s.ak⟩)).1.v (by rfl) (by rfl) _ _ Dm251 (by kernel_rfl) (by rfl) (by kernel_rfl) ?_; rw [hWm252]) | (refine wpList_load_blk_w (by rfl) _ _ rfl Wm242.heap.size (by rfl) _ Dm252 Try.underlying31 (by kernel_rfl) ?_) | (refine wpList_store_off rfl _ _ _ rfl w.heap.size 10 _ (Cn.step f.c 1 (⟨s.fl, s.win, (s.dn : Int), s.sq, s.ak⟩)).1.v _ (Fl.v ⟨f.w, (Cn.step f.c 1 (⟨s.fl, s.win, (s.dn : Int), s.sq, s.ak⟩)).1, f.ends, f.help, f.both⟩) (by rfl) (by rfl) Am252 (by kernel_rfl) (Nat.le_of_ble_eq_true (by kernel_rfl)) (by kernel_rfl) (setConn_fw f (Cn.step f.c 1 (⟨s.fl, s.win, (s.dn : Int), s.sq, s.ak⟩)).1) ?_; rw [hWm253]) | (refine wpList_load_blk_w (by rfl) _ _ rfl w.heap.size (by rfl) _ Am255 Try.underlying33 (by kernel_rfl) ?_))
        clear c254 y256 z257
        refine Calls.mono (rlife_fw (⟨f.w, (Cn.step f.c 1 (⟨s.fl, s.win, (s.dn : Int), s.sq, s.ak⟩)).1, f.ends, f.help, true⟩) _) ?_
        rintro e Wm258 ⟨rfl, bb⟩
        have Am258 := Am255.kept bb
        have Bm258 := Bm255.kept bb
        have Cm258 := Cm255.kept bb
        have Y2_m258 := Y2_m255.kept bb
        have Dm258 := Dm255.kept bb
        have bm258 := bel_tr bm255 bb
        clear bb
        have hlf := life_bd0 (⟨f.w, (Cn.step f.c 1 (⟨s.fl, s.win, (s.dn : Int), s.sq, s.ak⟩)).1, f.ends, f.help, true⟩)
        have hnw := now_bd (n := now) (by assumption)
        clear Am255 Bm255 Cm255 Y2_m255 Dm255 bm255
        have y260 := Am258.cell 19 (.int .i64 f.ends) rfl
        have z261 := Am258.frozen 19
        obtain ⟨Wm259, hWm259⟩ : ∃ W, Wm258.setCell ⟨w.heap.size, 19, none⟩ (.int .i64 (now + (Fl.life (⟨f.w, (Cn.step f.c 1 (⟨s.fl, s.win, (s.dn : Int), s.sq, s.ak⟩)).1, f.ends, f.help, true⟩)))) = W := ⟨_, rfl⟩
        have Am259 : Blk Wm259 w.heap.size 33 (Fl.v ⟨f.w, (Cn.step f.c 1 (⟨s.fl, s.win, (s.dn : Int), s.sq, s.ak⟩)).1, now + (Fl.life (⟨f.w, (Cn.step f.c 1 (⟨s.fl, s.win, (s.dn : Int), s.sq, s.ak⟩)).1, f.ends, f.help, true⟩)), f.help, true⟩) := hWm259 ▸ Am258.put 19 (.int .i64 (now + (Fl.life (⟨f.w, (Cn.step f.c 1 (⟨s.fl, s.win, (s.dn : Int), s.sq, s.ak⟩)).1, f.ends, f.help, true⟩))))
        have Bm259 := hWm259 ▸ Bm258.put_other Am258 nBA 19 (.int .i64 (now + (Fl.life (⟨f.w, (Cn.step f.c 1 (⟨s.fl, s.win, (s.dn : Int), s.sq, s.ak⟩)).1, f.ends, f.help, true⟩))))
        have Cm259 := hWm259 ▸ Cm258.put_other Am258 nCA 19 (.int .i64 (now + (Fl.life (⟨f.w, (Cn.step f.c 1 (⟨s.fl, s.win, (s.dn : Int), s.sq, s.ak⟩)).1, f.ends, f.help, true⟩))))
        have Y2_m259 := hWm259 ▸ Y2_m258.put_other Am258 nY2_A 19 (.int .i64 (now + (Fl.life (⟨f.w, (Cn.step f.c 1 (⟨s.fl, s.win, (s.dn : Int), s.sq, s.ak⟩)).1, f.ends, f.help, true⟩))))
        have Dm259 := hWm259 ▸ Dm258.put_other Am258 nDA 19 (.int .i64 (now + (Fl.life (⟨f.w, (Cn.step f.c 1 (⟨s.fl, s.win, (s.dn : Int), s.sq, s.ak⟩)).1, f.ends, f.help, true⟩))))
        have bm259 := hWm259 ▸ bm258.setCell (p := ⟨w.heap.size, 19, none⟩) gA (.int .i64 (now + (Fl.life (⟨f.w, (Cn.step f.c 1 (⟨s.fl, s.win, (s.dn : Int), s.sq, s.ak⟩)).1, f.ends, f.help, true⟩))))
        obtain ⟨Wm262, hWm262⟩ : ∃ W, Wm259.setRow Wm2.heap.size (Fl.v ⟨f.w, (Cn.step f.c 1 (⟨s.fl, s.win, (s.dn : Int), s.sq, s.ak⟩)).1, now + (Fl.life (⟨f.w, (Cn.step f.c 1 (⟨s.fl, s.win, (s.dn : Int), s.sq, s.ak⟩)).1, f.ends, f.help, true⟩)), f.help, true⟩) = W := ⟨_, rfl⟩
        have Cm262 : Blk Wm262 Wm2.heap.size 33 (Fl.v ⟨f.w, (Cn.step f.c 1 (⟨s.fl, s.win, (s.dn : Int), s.sq, s.ak⟩)).1, now + (Fl.life (⟨f.w, (Cn.step f.c 1 (⟨s.fl, s.win, (s.dn : Int), s.sq, s.ak⟩)).1, f.ends, f.help, true⟩)), f.help, true⟩) := hWm262 ▸ Cm259.set (Fl.v ⟨f.w, (Cn.step f.c 1 (⟨s.fl, s.win, (s.dn : Int), s.sq, s.ak⟩)).1, now + (Fl.life (⟨f.w, (Cn.step f.c 1 (⟨s.fl, s.win, (s.dn : Int), s.sq, s.ak⟩)).1, f.ends, f.help, true⟩)), f.help, true⟩)
        have Am262 := hWm262 ▸ Am259.other nAC (Fl.v ⟨f.w, (Cn.step f.c 1 (⟨s.fl, s.win, (s.dn : Int), s.sq, s.ak⟩)).1, now + (Fl.life (⟨f.w, (Cn.step f.c 1 (⟨s.fl, s.win, (s.dn : Int), s.sq, s.ak⟩)).1, f.ends, f.help, true⟩)), f.help, true⟩)
        have Bm262 := hWm262 ▸ Bm259.other nBC (Fl.v ⟨f.w, (Cn.step f.c 1 (⟨s.fl, s.win, (s.dn : Int), s.sq, s.ak⟩)).1, now + (Fl.life (⟨f.w, (Cn.step f.c 1 (⟨s.fl, s.win, (s.dn : Int), s.sq, s.ak⟩)).1, f.ends, f.help, true⟩)), f.help, true⟩)
        have Y2_m262 := hWm262 ▸ Y2_m259.other nY2_C (Fl.v ⟨f.w, (Cn.step f.c 1 (⟨s.fl, s.win, (s.dn : Int), s.sq, s.ak⟩)).1, now + (Fl.life (⟨f.w, (Cn.step f.c 1 (⟨s.fl, s.win, (s.dn : Int), s.sq, s.ak⟩)).1, f.ends, f.help, true⟩)), f.help, true⟩)
        have Dm262 := hWm262 ▸ Dm259.other nDC (Fl.v ⟨f.w, (Cn.step f.c 1 (⟨s.fl, s.win, (s.dn : Int), s.sq, s.ak⟩)).1, now + (Fl.life (⟨f.w, (Cn.step f.c 1 (⟨s.fl, s.win, (s.dn : Int), s.sq, s.ak⟩)).1, f.ends, f.help, true⟩)), f.help, true⟩)
        have bm262 := hWm262 ▸ below_setRow bm259 gC (Fl.v ⟨f.w, (Cn.step f.c 1 (⟨s.fl, s.win, (s.dn : Int), s.sq, s.ak⟩)).1, now + (Fl.life (⟨f.w, (Cn.step f.c 1 (⟨s.fl, s.win, (s.dn : Int), s.sq, s.ak⟩)).1, f.ends, f.help, true⟩)), f.help, true⟩)
        go_wp2_with (first | (refine wpList_load_blk_w (by rfl) _ _ rfl w.heap.size (by rfl) _ Am259 Try.underlying33 (by kernel_rfl) ?_) | (refine wpList_store_row rfl _ _ _ rfl Wm2.heap.size (Fl.v ⟨f.w, (Cn.step f.c 1 (⟨s.fl, s.win, (s.dn : Int), s.sq, s.ak⟩)).1, now + (Fl.life (⟨f.w, (Cn.step f.c 1 (⟨s.fl, s.win, (s.dn : Int), s.sq, s.ak⟩)).1, f.ends, f.help, true⟩)), f.help, true⟩) (by rfl) (by rfl) _ _ Cm259 (by kernel_rfl) (by rfl) (by kernel_rfl) ?_; rw [hWm262]))
        have hR2 : R = ((⟨f.w, (Cn.step f.c 1 (⟨s.fl, s.win, (s.dn : Int), s.sq, s.ak⟩)).1, now + (Fl.life (⟨f.w, (Cn.step f.c 1 (⟨s.fl, s.win, (s.dn : Int), s.sq, s.ak⟩)).1, f.ends, f.help, true⟩)), f.help, true⟩ : Fl), (0 : Int)) := by rw [← HR.out]; first | rfl | (simp [docGo, Fl.keep, hq5, hq9, hq150, hq155, bne_f_fw hq245, hq250]; done)
        subst hR2
        exact ret_cell_tmp (k := 8) (j := 9) Try.f16 (by kernel_rfl) Cm262 Try.underlying33 (by kernel_rfl) (by rfl) (by rfl) rfl ⟨rfl, bm262⟩
       | true =>
        obtain ⟨Wm263, hWm263⟩ : ∃ W, Wm242.alloc (.cells #[.int .i64 0, .int .u32 0, .int .u32 0, .int .u32 0, .int .u32 0, .bool false, .bool false, .bool false, .bool false] 31) = W := ⟨_, rfl⟩
        have bm263 := bel_al bm242 hWm263
        have Am263 := Am242.al hWm263
        have Bm263 := Bm242.al hWm263
        have Cm263 := Cm242.al hWm263
        have Y2_m263 := Y2_m242.al hWm263
        have Dm263 := blk_nw hWm263
        have gD : w.heap.size ≤ Wm242.heap.size := bm242.size
        have nAD : w.heap.size ≠ Wm242.heap.size := by have := Am242.lt; omega
        have nDA : Wm242.heap.size ≠ w.heap.size := fun e => nAD e.symm
        have nBD : Wm1.heap.size ≠ Wm242.heap.size := by have := Bm242.lt; omega
        have nDB : Wm242.heap.size ≠ Wm1.heap.size := fun e => nBD e.symm
        have nCD : Wm2.heap.size ≠ Wm242.heap.size := by have := Cm242.lt; omega
        have nDC : Wm242.heap.size ≠ Wm2.heap.size := fun e => nCD e.symm
        have nY2_D : Wdq11.heap.size ≠ Wm242.heap.size := by have := Y2_m242.lt; omega
        have nDY2_ : Wm242.heap.size ≠ Wdq11.heap.size := fun e => nY2_D e.symm
        obtain ⟨Wm264, hWm264⟩ : ∃ W, Wm263.setRow Wm242.heap.size (Cn.step f.c 1 (⟨s.fl, s.win, (s.dn : Int), s.sq, s.ak⟩)).1.v = W := ⟨_, rfl⟩
        have Dm264 : Blk Wm264 Wm242.heap.size 31 (Cn.step f.c 1 (⟨s.fl, s.win, (s.dn : Int), s.sq, s.ak⟩)).1.v := hWm264 ▸ Dm263.set (Cn.step f.c 1 (⟨s.fl, s.win, (s.dn : Int), s.sq, s.ak⟩)).1.v
        have Am264 := hWm264 ▸ Am263.other nAD (Cn.step f.c 1 (⟨s.fl, s.win, (s.dn : Int), s.sq, s.ak⟩)).1.v
        have Bm264 := hWm264 ▸ Bm263.other nBD (Cn.step f.c 1 (⟨s.fl, s.win, (s.dn : Int), s.sq, s.ak⟩)).1.v
        have Cm264 := hWm264 ▸ Cm263.other nCD (Cn.step f.c 1 (⟨s.fl, s.win, (s.dn : Int), s.sq, s.ak⟩)).1.v
        have Y2_m264 := hWm264 ▸ Y2_m263.other nY2_D (Cn.step f.c 1 (⟨s.fl, s.win, (s.dn : Int), s.sq, s.ak⟩)).1.v
        have bm264 := hWm264 ▸ below_setRow bm263 gD (Cn.step f.c 1 (⟨s.fl, s.win, (s.dn : Int), s.sq, s.ak⟩)).1.v
        obtain ⟨Wm265, hWm265⟩ : ∃ W, Wm264.setRow w.heap.size (Fl.v ⟨f.w, (Cn.step f.c 1 (⟨s.fl, s.win, (s.dn : Int), s.sq, s.ak⟩)).1, f.ends, f.help, f.both⟩) = W := ⟨_, rfl⟩
        have Am265 : Blk Wm265 w.heap.size 33 (Fl.v ⟨f.w, (Cn.step f.c 1 (⟨s.fl, s.win, (s.dn : Int), s.sq, s.ak⟩)).1, f.ends, f.help, f.both⟩) := hWm265 ▸ Am264.set (Fl.v ⟨f.w, (Cn.step f.c 1 (⟨s.fl, s.win, (s.dn : Int), s.sq, s.ak⟩)).1, f.ends, f.help, f.both⟩)
        have Bm265 := hWm265 ▸ Bm264.other nBA (Fl.v ⟨f.w, (Cn.step f.c 1 (⟨s.fl, s.win, (s.dn : Int), s.sq, s.ak⟩)).1, f.ends, f.help, f.both⟩)
        have Cm265 := hWm265 ▸ Cm264.other nCA (Fl.v ⟨f.w, (Cn.step f.c 1 (⟨s.fl, s.win, (s.dn : Int), s.sq, s.ak⟩)).1, f.ends, f.help, f.both⟩)
        have Y2_m265 := hWm265 ▸ Y2_m264.other nY2_A (Fl.v ⟨f.w, (Cn.step f.c 1 (⟨s.fl, s.win, (s.dn : Int), s.sq, s.ak⟩)).1, f.ends, f.help, f.both⟩)
        have Dm265 := hWm265 ▸ Dm264.other nDA (Fl.v ⟨f.w, (Cn.step f.c 1 (⟨s.fl, s.win, (s.dn : Int), s.sq, s.ak⟩)).1, f.ends, f.help, f.both⟩)
        have bm265 := hWm265 ▸ below_setRow bm264 gA (Fl.v ⟨f.w, (Cn.step f.c 1 (⟨s.fl, s.win, (s.dn : Int), s.sq, s.ak⟩)).1, f.ends, f.help, f.both⟩)
        have c266 := Am265.cell 21 (.bool f.both) rfl
        have y268 := Am265.cell 21 (.bool f.both) rfl
        have z269 := Am265.frozen 21
        obtain ⟨Wm267, hWm267⟩ : ∃ W, Wm265.setCell ⟨w.heap.size, 21, none⟩ (.bool true) = W := ⟨_, rfl⟩
        have Am267 : Blk Wm267 w.heap.size 33 (Fl.v ⟨f.w, (Cn.step f.c 1 (⟨s.fl, s.win, (s.dn : Int), s.sq, s.ak⟩)).1, f.ends, f.help, true⟩) := hWm267 ▸ Am265.put 21 (.bool true)
        have Bm267 := hWm267 ▸ Bm265.put_other Am265 nBA 21 (.bool true)
        have Cm267 := hWm267 ▸ Cm265.put_other Am265 nCA 21 (.bool true)
        have Y2_m267 := hWm267 ▸ Y2_m265.put_other Am265 nY2_A 21 (.bool true)
        have Dm267 := hWm267 ▸ Dm265.put_other Am265 nDA 21 (.bool true)
        have bm267 := hWm267 ▸ bm265.setCell (p := ⟨w.heap.size, 21, none⟩) gA (.bool true)
        go_wp2_with (first | (refine wpList_store_row rfl _ _ _ rfl Wm242.heap.size (Cn.step f.c 1 (⟨s.fl, s.win, (s.dn : Int), s.sq, s.ak⟩)).1.v (by rfl) (by rfl) _ _ Dm263 (by kernel_rfl) (by rfl) (by kernel_rfl) ?_; rw [hWm264]) | (refine wpList_load_blk_w (by rfl) _ _ rfl Wm242.heap.size (by rfl) _ Dm264 Try.underlying31 (by kernel_rfl) ?_) | (refine wpList_store_off rfl _ _ _ rfl w.heap.size 10 _ (Cn.step f.c 1 (⟨s.fl, s.win, (s.dn : Int), s.sq, s.ak⟩)).1.v _ (Fl.v ⟨f.w, (Cn.step f.c 1 (⟨s.fl, s.win, (s.dn : Int), s.sq, s.ak⟩)).1, f.ends, f.help, f.both⟩) (by rfl) (by rfl) Am264 (by kernel_rfl) (Nat.le_of_ble_eq_true (by kernel_rfl)) (by kernel_rfl) (setConn_fw f (Cn.step f.c 1 (⟨s.fl, s.win, (s.dn : Int), s.sq, s.ak⟩)).1) ?_; rw [hWm265]) | (refine wpList_load_blk_w (by rfl) _ _ rfl w.heap.size (by rfl) _ Am267 Try.underlying33 (by kernel_rfl) ?_))
        clear c266 y268 z269
        refine Calls.mono (rlife_fw (⟨f.w, (Cn.step f.c 1 (⟨s.fl, s.win, (s.dn : Int), s.sq, s.ak⟩)).1, f.ends, f.help, true⟩) _) ?_
        rintro e Wm270 ⟨rfl, bb⟩
        have Am270 := Am267.kept bb
        have Bm270 := Bm267.kept bb
        have Cm270 := Cm267.kept bb
        have Y2_m270 := Y2_m267.kept bb
        have Dm270 := Dm267.kept bb
        have bm270 := bel_tr bm267 bb
        clear bb
        have hlf := life_bd0 (⟨f.w, (Cn.step f.c 1 (⟨s.fl, s.win, (s.dn : Int), s.sq, s.ak⟩)).1, f.ends, f.help, true⟩)
        have hnw := now_bd (n := now) (by assumption)
        clear Am267 Bm267 Cm267 Y2_m267 Dm267 bm267
        have y272 := Am270.cell 19 (.int .i64 f.ends) rfl
        have z273 := Am270.frozen 19
        obtain ⟨Wm271, hWm271⟩ : ∃ W, Wm270.setCell ⟨w.heap.size, 19, none⟩ (.int .i64 (now + (Fl.life (⟨f.w, (Cn.step f.c 1 (⟨s.fl, s.win, (s.dn : Int), s.sq, s.ak⟩)).1, f.ends, f.help, true⟩)))) = W := ⟨_, rfl⟩
        have Am271 : Blk Wm271 w.heap.size 33 (Fl.v ⟨f.w, (Cn.step f.c 1 (⟨s.fl, s.win, (s.dn : Int), s.sq, s.ak⟩)).1, now + (Fl.life (⟨f.w, (Cn.step f.c 1 (⟨s.fl, s.win, (s.dn : Int), s.sq, s.ak⟩)).1, f.ends, f.help, true⟩)), f.help, true⟩) := hWm271 ▸ Am270.put 19 (.int .i64 (now + (Fl.life (⟨f.w, (Cn.step f.c 1 (⟨s.fl, s.win, (s.dn : Int), s.sq, s.ak⟩)).1, f.ends, f.help, true⟩))))
        have Bm271 := hWm271 ▸ Bm270.put_other Am270 nBA 19 (.int .i64 (now + (Fl.life (⟨f.w, (Cn.step f.c 1 (⟨s.fl, s.win, (s.dn : Int), s.sq, s.ak⟩)).1, f.ends, f.help, true⟩))))
        have Cm271 := hWm271 ▸ Cm270.put_other Am270 nCA 19 (.int .i64 (now + (Fl.life (⟨f.w, (Cn.step f.c 1 (⟨s.fl, s.win, (s.dn : Int), s.sq, s.ak⟩)).1, f.ends, f.help, true⟩))))
        have Y2_m271 := hWm271 ▸ Y2_m270.put_other Am270 nY2_A 19 (.int .i64 (now + (Fl.life (⟨f.w, (Cn.step f.c 1 (⟨s.fl, s.win, (s.dn : Int), s.sq, s.ak⟩)).1, f.ends, f.help, true⟩))))
        have Dm271 := hWm271 ▸ Dm270.put_other Am270 nDA 19 (.int .i64 (now + (Fl.life (⟨f.w, (Cn.step f.c 1 (⟨s.fl, s.win, (s.dn : Int), s.sq, s.ak⟩)).1, f.ends, f.help, true⟩))))
        have bm271 := hWm271 ▸ bm270.setCell (p := ⟨w.heap.size, 19, none⟩) gA (.int .i64 (now + (Fl.life (⟨f.w, (Cn.step f.c 1 (⟨s.fl, s.win, (s.dn : Int), s.sq, s.ak⟩)).1, f.ends, f.help, true⟩))))
        obtain ⟨Wm274, hWm274⟩ : ∃ W, Wm271.setRow Wm2.heap.size (Fl.v ⟨f.w, (Cn.step f.c 1 (⟨s.fl, s.win, (s.dn : Int), s.sq, s.ak⟩)).1, now + (Fl.life (⟨f.w, (Cn.step f.c 1 (⟨s.fl, s.win, (s.dn : Int), s.sq, s.ak⟩)).1, f.ends, f.help, true⟩)), f.help, true⟩) = W := ⟨_, rfl⟩
        have Cm274 : Blk Wm274 Wm2.heap.size 33 (Fl.v ⟨f.w, (Cn.step f.c 1 (⟨s.fl, s.win, (s.dn : Int), s.sq, s.ak⟩)).1, now + (Fl.life (⟨f.w, (Cn.step f.c 1 (⟨s.fl, s.win, (s.dn : Int), s.sq, s.ak⟩)).1, f.ends, f.help, true⟩)), f.help, true⟩) := hWm274 ▸ Cm271.set (Fl.v ⟨f.w, (Cn.step f.c 1 (⟨s.fl, s.win, (s.dn : Int), s.sq, s.ak⟩)).1, now + (Fl.life (⟨f.w, (Cn.step f.c 1 (⟨s.fl, s.win, (s.dn : Int), s.sq, s.ak⟩)).1, f.ends, f.help, true⟩)), f.help, true⟩)
        have Am274 := hWm274 ▸ Am271.other nAC (Fl.v ⟨f.w, (Cn.step f.c 1 (⟨s.fl, s.win, (s.dn : Int), s.sq, s.ak⟩)).1, now + (Fl.life (⟨f.w, (Cn.step f.c 1 (⟨s.fl, s.win, (s.dn : Int), s.sq, s.ak⟩)).1, f.ends, f.help, true⟩)), f.help, true⟩)
        have Bm274 := hWm274 ▸ Bm271.other nBC (Fl.v ⟨f.w, (Cn.step f.c 1 (⟨s.fl, s.win, (s.dn : Int), s.sq, s.ak⟩)).1, now + (Fl.life (⟨f.w, (Cn.step f.c 1 (⟨s.fl, s.win, (s.dn : Int), s.sq, s.ak⟩)).1, f.ends, f.help, true⟩)), f.help, true⟩)
        have Y2_m274 := hWm274 ▸ Y2_m271.other nY2_C (Fl.v ⟨f.w, (Cn.step f.c 1 (⟨s.fl, s.win, (s.dn : Int), s.sq, s.ak⟩)).1, now + (Fl.life (⟨f.w, (Cn.step f.c 1 (⟨s.fl, s.win, (s.dn : Int), s.sq, s.ak⟩)).1, f.ends, f.help, true⟩)), f.help, true⟩)
        have Dm274 := hWm274 ▸ Dm271.other nDC (Fl.v ⟨f.w, (Cn.step f.c 1 (⟨s.fl, s.win, (s.dn : Int), s.sq, s.ak⟩)).1, now + (Fl.life (⟨f.w, (Cn.step f.c 1 (⟨s.fl, s.win, (s.dn : Int), s.sq, s.ak⟩)).1, f.ends, f.help, true⟩)), f.help, true⟩)
        have bm274 := hWm274 ▸ below_setRow bm271 gC (Fl.v ⟨f.w, (Cn.step f.c 1 (⟨s.fl, s.win, (s.dn : Int), s.sq, s.ak⟩)).1, now + (Fl.life (⟨f.w, (Cn.step f.c 1 (⟨s.fl, s.win, (s.dn : Int), s.sq, s.ak⟩)).1, f.ends, f.help, true⟩)), f.help, true⟩)
        go_wp2_with (first | (refine wpList_load_blk_w (by rfl) _ _ rfl w.heap.size (by rfl) _ Am271 Try.underlying33 (by kernel_rfl) ?_) | (refine wpList_store_row rfl _ _ _ rfl Wm2.heap.size (Fl.v ⟨f.w, (Cn.step f.c 1 (⟨s.fl, s.win, (s.dn : Int), s.sq, s.ak⟩)).1, now + (Fl.life (⟨f.w, (Cn.step f.c 1 (⟨s.fl, s.win, (s.dn : Int), s.sq, s.ak⟩)).1, f.ends, f.help, true⟩)), f.help, true⟩) (by rfl) (by rfl) _ _ Cm271 (by kernel_rfl) (by rfl) (by kernel_rfl) ?_; rw [hWm274]))
        have hR2 : R = ((⟨f.w, (Cn.step f.c 1 (⟨s.fl, s.win, (s.dn : Int), s.sq, s.ak⟩)).1, now + (Fl.life (⟨f.w, (Cn.step f.c 1 (⟨s.fl, s.win, (s.dn : Int), s.sq, s.ak⟩)).1, f.ends, f.help, true⟩)), f.help, true⟩ : Fl), (0 : Int)) := by rw [← HR.out]; first | rfl | (simp [docGo, Fl.keep, hq5, hq9, hq150, hq155, bne_f_fw hq245, hq250]; done)
        subst hR2
        exact ret_cell_tmp (k := 8) (j := 9) Try.f16 (by kernel_rfl) Cm274 Try.underlying33 (by kernel_rfl) (by rfl) (by rfl) rfl ⟨rfl, bm274⟩
      | true =>
       obtain ⟨Wm275, hWm275⟩ : ∃ W, Wm242.alloc (.cells #[.int .i64 0, .int .u32 0, .int .u32 0, .int .u32 0, .int .u32 0, .bool false, .bool false, .bool false, .bool false] 31) = W := ⟨_, rfl⟩
       have bm275 := bel_al bm242 hWm275
       have Am275 := Am242.al hWm275
       have Bm275 := Bm242.al hWm275
       have Cm275 := Cm242.al hWm275
       have Y2_m275 := Y2_m242.al hWm275
       have Dm275 := blk_nw hWm275
       have gD : w.heap.size ≤ Wm242.heap.size := bm242.size
       have nAD : w.heap.size ≠ Wm242.heap.size := by have := Am242.lt; omega
       have nDA : Wm242.heap.size ≠ w.heap.size := fun e => nAD e.symm
       have nBD : Wm1.heap.size ≠ Wm242.heap.size := by have := Bm242.lt; omega
       have nDB : Wm242.heap.size ≠ Wm1.heap.size := fun e => nBD e.symm
       have nCD : Wm2.heap.size ≠ Wm242.heap.size := by have := Cm242.lt; omega
       have nDC : Wm242.heap.size ≠ Wm2.heap.size := fun e => nCD e.symm
       have nY2_D : Wdq11.heap.size ≠ Wm242.heap.size := by have := Y2_m242.lt; omega
       have nDY2_ : Wm242.heap.size ≠ Wdq11.heap.size := fun e => nY2_D e.symm
       obtain ⟨Wm276, hWm276⟩ : ∃ W, Wm275.setRow Wm242.heap.size (Cn.step f.c 1 (⟨s.fl, s.win, (s.dn : Int), s.sq, s.ak⟩)).1.v = W := ⟨_, rfl⟩
       have Dm276 : Blk Wm276 Wm242.heap.size 31 (Cn.step f.c 1 (⟨s.fl, s.win, (s.dn : Int), s.sq, s.ak⟩)).1.v := hWm276 ▸ Dm275.set (Cn.step f.c 1 (⟨s.fl, s.win, (s.dn : Int), s.sq, s.ak⟩)).1.v
       have Am276 := hWm276 ▸ Am275.other nAD (Cn.step f.c 1 (⟨s.fl, s.win, (s.dn : Int), s.sq, s.ak⟩)).1.v
       have Bm276 := hWm276 ▸ Bm275.other nBD (Cn.step f.c 1 (⟨s.fl, s.win, (s.dn : Int), s.sq, s.ak⟩)).1.v
       have Cm276 := hWm276 ▸ Cm275.other nCD (Cn.step f.c 1 (⟨s.fl, s.win, (s.dn : Int), s.sq, s.ak⟩)).1.v
       have Y2_m276 := hWm276 ▸ Y2_m275.other nY2_D (Cn.step f.c 1 (⟨s.fl, s.win, (s.dn : Int), s.sq, s.ak⟩)).1.v
       have bm276 := hWm276 ▸ below_setRow bm275 gD (Cn.step f.c 1 (⟨s.fl, s.win, (s.dn : Int), s.sq, s.ak⟩)).1.v
       obtain ⟨Wm277, hWm277⟩ : ∃ W, Wm276.setRow Wm2.heap.size fl0.v = W := ⟨_, rfl⟩
       have Cm277 : Blk Wm277 Wm2.heap.size 33 fl0.v := hWm277 ▸ Cm276.set fl0.v
       have Am277 := hWm277 ▸ Am276.other nAC fl0.v
       have Bm277 := hWm277 ▸ Bm276.other nBC fl0.v
       have Y2_m277 := hWm277 ▸ Y2_m276.other nY2_C fl0.v
       have Dm277 := hWm277 ▸ Dm276.other nDC fl0.v
       have bm277 := hWm277 ▸ below_setRow bm276 gC fl0.v
       go_wp2_with (first | (refine wpList_store_row rfl _ _ _ rfl Wm242.heap.size (Cn.step f.c 1 (⟨s.fl, s.win, (s.dn : Int), s.sq, s.ak⟩)).1.v (by rfl) (by rfl) _ _ Dm275 (by kernel_rfl) (by rfl) (by kernel_rfl) ?_; rw [hWm276]) | (refine wpList_store_row rfl _ _ _ rfl Wm2.heap.size fl0.v (by rfl) (by rfl) _ _ Cm276 (by kernel_rfl) (by rfl) (by kernel_rfl) ?_; rw [hWm277]))
       have hR2 : R = ((fl0 : Fl), ((Cn.step f.c 1 (⟨s.fl, s.win, (s.dn : Int), s.sq, s.ak⟩)).2 : Int)) := by rw [← HR.out]; first | rfl | (simp [docGo, Fl.keep, hq5, hq9, hq150, hq155, bne_t_fw hq245]; done)
       subst hR2
       exact ret_cell_tmp (k := 8) (j := 9) Try.f16 (by kernel_rfl) Cm277 Try.underlying33 (by kernel_rfl) (by rfl) (by rfl) rfl ⟨rfl, bm277⟩
theorem rgo1_fw (f : Fl) (s : Sm) (now : Int) (w : World) (hok : f.w.ok) : Calls Try.prog 16 #[.agg f.v, .int .i64 1, .agg s.v, .int .i64 now] w fun e w' => e = .returned (.tuple #[.agg (f.goS true s now).1.v, .int .i64 (f.goS true s now).2]) ∧ Below w.heap.size w w' := by
 have h := rgo1_d f s now w hok
 rw [docGo_eq] at h
 exact h
theorem go_fw (f : Fl) (i : Int) (s : Sm) (now : Int) (w : World) : Calls Try.prog 15 #[.agg f.v, .int .i64 i, .agg s.v, .int .i64 now] w fun e w' => e = .returned (.tuple #[.agg (f.go i s now).1.v, .int .i64 (f.go i s now).2]) ∧ Below w.heap.size w w' := by
 by_cases h0 : i = 0
 ·subst h0; exact go0_fw f s now w
 by_cases h1 : i = 1
 ·subst h1; exact go1_fw f s now w
 exact goB_fw f i s now w (by simpa using h0) (by simpa using h1)
theorem rgo_fw (f : Fl) (i : Int) (s : Sm) (now : Int) (w : World) (hok : f.w.ok) : Calls Try.prog 16 #[.agg f.v, .int .i64 i, .agg s.v, .int .i64 now] w fun e w' => e = .returned (.tuple #[.agg (f.go i s now).1.v, .int .i64 (f.go i s now).2]) ∧ Below w.heap.size w w' := by
 by_cases h0 : i = 0
 ·subst h0; exact rgo0_fw f s now w hok
 by_cases h1 : i = 1
 ·subst h1; exact rgo1_fw f s now w hok
 exact rgoB_fw f i s now w hok (by simpa using h0) (by simpa using h1) (by simp [sidB]; omega)
set_option maxRecDepth 100000 in
set_option maxHeartbeats 4000000 in
theorem eql_fl (f : Fl) (w : World) : (Go.binOp .eql 33 (.agg f.v) (.agg f.v)).run Try.prog w = Result.ok (.bool true) w := by
 obtain ⟨⟨a, b, ⟨c, d, e⟩, ⟨c', d', e'⟩, g, h⟩, ⟨st, n0, n1, e0, e1, k0, k1, d0, d1⟩, i, j, k⟩ := f
 simp [go_sem, eqU_tc 9996, eqL_tc 9996]
def sm0 : Sm := ⟨⟨4, 17, ⟨4, 0, 1⟩, ⟨4, 0, 2⟩, 53, 54⟩, 0, 0, 0, 0, 0, 0, false, wy0, none, 0, 0⟩
def sm1 : Sm := ⟨⟨4, 17, ⟨4, 0, 2⟩, ⟨4, 0, 1⟩, 54, 53⟩, 0, 0, 0, 0, 0, 0, false, wy0, none, 0, 0⟩
def flA : Fl := ⟨⟨4, 17, ⟨4, 0, 1⟩, ⟨4, 0, 2⟩, 53, 54⟩, cn0, 130, 0, false⟩
def flZ : Fl := ⟨⟨4, 17, ⟨4, 0, 1⟩, ⟨4, 0, 2⟩, 53, 54⟩, cn0, 290, 0, true⟩
theorem al_s : startF sm0 100 0 = (flA, 0) := by kernel_rfl
theorem al_g : flA.goS true sm1 110 = (flZ, 0) := by kernel_rfl
theorem al_r : flZ.right = true := by kernel_rfl
theorem alS_fw (w : World) : Calls Try.prog 10 #[.agg sm0.v, .int .i64 100, .int .i64 0] w fun e w' => e = .returned (.tuple #[.agg flA.v, .int .i64 0]) ∧ Below w.heap.size w w' := by
 have h := start_fw sm0 100 0 w
 rw [al_s] at h
 exact h
theorem alG_fw (w : World) : Calls Try.prog 15 #[.agg flA.v, .int .i64 1, .agg sm1.v, .int .i64 110] w fun e w' => e = .returned (.tuple #[.agg flZ.v, .int .i64 0]) ∧ Below w.heap.size w w' := by
 have h := go1_fw flA sm1 110 w
 rw [al_g] at h
 exact h
theorem alR_fw (w : World) : Calls Try.prog 12 #[.agg flZ.v] w fun e w' => e = .returned (.bool true) ∧ Below w.heap.size w w' := by
 have h := right_fw flZ w
 rw [al_r] at h
 exact h
theorem alV_fw (w : World) : Calls Try.prog 27 #[.agg (Wy.v ⟨4, 17, ⟨4, 0, 1⟩, ⟨4, 0, 2⟩, 53, 54⟩)] w fun e w' => e = .returned (.agg (Wy.v ⟨4, 17, ⟨4, 0, 2⟩, ⟨4, 0, 1⟩, 54, 53⟩)) ∧ Below w.heap.size w w' := rrev_t _ w
theorem setWay_fw (s : Sm) (x : Wy) : setMany s.v 0 x.v.toList = Sm.v ⟨x, s.fl, s.sq, s.ak, s.win, s.ty, s.co, s.er, s.inn, s.da, s.dn, s.dc⟩ := by kernel_rfl
set_option maxRecDepth 100000 in
set_option maxHeartbeats 4000000 in
theorem small_fw (w : World) :
  Calls Try.prog 42 #[] w fun e w' => e = .returned (.agg sm0.v) ∧ Below w.heap.size w w' := by
 obtain ⟨R, hR⟩ : ∃ R, sm0 = R := ⟨_, rfl⟩
 have HR : Hid (sm0 = R) := hR
 rw [hR]
 clear hR
 have b := Below.refl w.heap.size w
 go_enter Try.func42, Try.ntmps42
 obtain ⟨Wm1, hWm1⟩ : ∃ W, w.alloc (.cells #[.int .i64 0, .int .i64 0, .int .i64 0, .int .u64 0, .int .u64 0, .int .i64 0, .int .u64 0, .int .u64 0, .int .i64 0, .int .i64 0, .int .i64 0, .int .u32 0, .int .u32 0, .int .i64 0, .int .i64 0, .int .i64 0, .bool false, .int .i64 0, .int .i64 0, .int .i64 0, .int .u64 0, .int .u64 0, .int .i64 0, .int .u64 0, .int .u64 0, .int .i64 0, .int .i64 0, .slice none 0 0] 36) = W := ⟨_, rfl⟩
 have bm1 := bel_nw hWm1
 have Am1 := blk_nw hWm1
 have gA : w.heap.size ≤ w.heap.size := Nat.le_refl _
 obtain ⟨Wm2, hWm2⟩ : ∃ W, Wm1.setRow w.heap.size (Sm.v ⟨⟨4, 17, ⟨4, 0, 1⟩, ⟨4, 0, 2⟩, 53, 54⟩, 0, 0, 0, 0, 0, 0, false, ⟨0, 0, ⟨0, 0, 0⟩, ⟨0, 0, 0⟩, 0, 0⟩, none, 0, 0⟩) = W := ⟨_, rfl⟩
 have Am2 : Blk Wm2 w.heap.size 36 (Sm.v ⟨⟨4, 17, ⟨4, 0, 1⟩, ⟨4, 0, 2⟩, 53, 54⟩, 0, 0, 0, 0, 0, 0, false, ⟨0, 0, ⟨0, 0, 0⟩, ⟨0, 0, 0⟩, 0, 0⟩, none, 0, 0⟩) := hWm2 ▸ Am1.set (Sm.v ⟨⟨4, 17, ⟨4, 0, 1⟩, ⟨4, 0, 2⟩, 53, 54⟩, 0, 0, 0, 0, 0, 0, false, ⟨0, 0, ⟨0, 0, 0⟩, ⟨0, 0, 0⟩, 0, 0⟩, none, 0, 0⟩)
 have bm2 := hWm2 ▸ below_setRow bm1 gA (Sm.v ⟨⟨4, 17, ⟨4, 0, 1⟩, ⟨4, 0, 2⟩, 53, 54⟩, 0, 0, 0, 0, 0, 0, false, ⟨0, 0, ⟨0, 0, 0⟩, ⟨0, 0, 0⟩, 0, 0⟩, none, 0, 0⟩)
 go_wp2_with (refine wpList_store_row rfl _ _ _ rfl w.heap.size (Sm.v ⟨⟨4, 17, ⟨4, 0, 1⟩, ⟨4, 0, 2⟩, 53, 54⟩, 0, 0, 0, 0, 0, 0, false, ⟨0, 0, ⟨0, 0, 0⟩, ⟨0, 0, 0⟩, 0, 0⟩, none, 0, 0⟩) (by rfl) (by rfl) _ _ Am1 (by kernel_rfl) (by rfl) (by kernel_rfl) ?_; rw [hWm2])
 have hR2 : R = (⟨⟨4, 17, ⟨4, 0, 1⟩, ⟨4, 0, 2⟩, 53, 54⟩, 0, 0, 0, 0, 0, 0, false, ⟨0, 0, ⟨0, 0, 0⟩, ⟨0, 0, 0⟩, 0, 0⟩, none, 0, 0⟩ : Sm) := by (try rw [← HR.out]) <;> first | rfl | (simp [sm0]; done)
 subst hR2
 exact ret_cell (k := 0) Try.f42 (by kernel_rfl) Am2 Try.underlying36 (by kernel_rfl) (by rfl) rfl ⟨rfl, bm2⟩
set_option maxRecDepth 100000 in
set_option maxHeartbeats 4000000 in
theorem alive_fw (w : World) :
  Calls Try.prog 14 #[] w fun e w' => e = .returned (.bool true) ∧ Below w.heap.size w w' := by
 obtain ⟨R, hR⟩ : ∃ R, true = R := ⟨_, rfl⟩
 have HR : Hid (true = R) := hR
 rw [hR]
 clear hR
 have b := Below.refl w.heap.size w
 go_enter Try.func14, Try.ntmps14
 go_wp2_with fail
 refine Calls.mono (small_fw _) ?_
 rintro e Wm1 ⟨rfl, bb⟩
 have bm1 := bb
 go_wp2_with fail
 refine Calls.mono (alS_fw _) ?_
 rintro e Wm2 ⟨rfl, bb⟩
 have bm2 := bel_tr bm1 bb
 clear bb
 clear  bm1
 obtain ⟨Wm3, hWm3⟩ : ∃ W, Wm2.alloc (.cells #[.int .i64 0, .int .i64 0, .int .i64 0, .int .u64 0, .int .u64 0, .int .i64 0, .int .u64 0, .int .u64 0, .int .i64 0, .int .i64 0, .int .i64 0, .int .u32 0, .int .u32 0, .int .u32 0, .int .u32 0, .bool false, .bool false, .bool false, .bool false, .int .i64 0, .int .i64 0, .bool false] 33) = W := ⟨_, rfl⟩
 have bm3 := bel_al bm2 hWm3
 have Am3 := blk_nw hWm3
 have gA : w.heap.size ≤ Wm2.heap.size := bm2.size
 obtain ⟨Wm4, hWm4⟩ : ∃ W, Wm3.setRow Wm2.heap.size flA.v = W := ⟨_, rfl⟩
 have Am4 : Blk Wm4 Wm2.heap.size 33 flA.v := hWm4 ▸ Am3.set flA.v
 have bm4 := hWm4 ▸ below_setRow bm3 gA flA.v
 go_wp2_with (refine wpList_store_row rfl _ _ _ rfl Wm2.heap.size flA.v (by rfl) (by rfl) _ _ Am3 (by kernel_rfl) (by rfl) (by kernel_rfl) ?_; rw [hWm4])
 refine Calls.mono (small_fw _) ?_
 rintro e Wm5 ⟨rfl, bb⟩
 have Am5 := Am4.kept bb
 have bm5 := bel_tr bm4 bb
 clear bb
 clear Am4 bm4
 obtain ⟨Wm6, hWm6⟩ : ∃ W, Wm5.alloc (.cells #[.int .i64 0, .int .i64 0, .int .i64 0, .int .u64 0, .int .u64 0, .int .i64 0, .int .u64 0, .int .u64 0, .int .i64 0, .int .i64 0, .int .i64 0, .int .u32 0, .int .u32 0, .int .i64 0, .int .i64 0, .int .i64 0, .bool false, .int .i64 0, .int .i64 0, .int .i64 0, .int .u64 0, .int .u64 0, .int .i64 0, .int .u64 0, .int .u64 0, .int .i64 0, .int .i64 0, .slice none 0 0] 36) = W := ⟨_, rfl⟩
 have bm6 := bel_al bm5 hWm6
 have Am6 := Am5.al hWm6
 have Bm6 := blk_nw hWm6
 have gB : w.heap.size ≤ Wm5.heap.size := bm5.size
 have nAB : Wm2.heap.size ≠ Wm5.heap.size := by have := Am5.lt; omega
 have nBA : Wm5.heap.size ≠ Wm2.heap.size := fun e => nAB e.symm
 obtain ⟨Wm7, hWm7⟩ : ∃ W, Wm6.setRow Wm5.heap.size sm0.v = W := ⟨_, rfl⟩
 have Bm7 : Blk Wm7 Wm5.heap.size 36 sm0.v := hWm7 ▸ Bm6.set sm0.v
 have Am7 := hWm7 ▸ Am6.other nAB sm0.v
 have bm7 := hWm7 ▸ below_setRow bm6 gB sm0.v
 go_wp2_with (first | (refine wpList_store_row rfl _ _ _ rfl Wm5.heap.size sm0.v (by rfl) (by rfl) _ _ Bm6 (by kernel_rfl) (by rfl) (by kernel_rfl) ?_; rw [hWm7]) | (refine wpList_load_sub_w (by rfl) _ _ rfl Wm5.heap.size 0 _ (by rfl) _ (Wy.v ⟨4, 17, ⟨4, 0, 1⟩, ⟨4, 0, 2⟩, 53, 54⟩) Bm7 (by rfl) Try.underlying26 (by kernel_rfl) ?_))
 refine Calls.mono (alV_fw _) ?_
 rintro e Wm8 ⟨rfl, bb⟩
 have Am8 := Am7.kept bb
 have Bm8 := Bm7.kept bb
 have bm8 := bel_tr bm7 bb
 clear bb
 clear Am7 Bm7 bm7
 obtain ⟨Wm9, hWm9⟩ : ∃ W, Wm8.setRow Wm5.heap.size (Sm.v ⟨⟨4, 17, ⟨4, 0, 2⟩, ⟨4, 0, 1⟩, 54, 53⟩, 0, 0, 0, 0, 0, 0, false, ⟨0, 0, ⟨0, 0, 0⟩, ⟨0, 0, 0⟩, 0, 0⟩, none, 0, 0⟩) = W := ⟨_, rfl⟩
 have Bm9 : Blk Wm9 Wm5.heap.size 36 (Sm.v ⟨⟨4, 17, ⟨4, 0, 2⟩, ⟨4, 0, 1⟩, 54, 53⟩, 0, 0, 0, 0, 0, 0, false, ⟨0, 0, ⟨0, 0, 0⟩, ⟨0, 0, 0⟩, 0, 0⟩, none, 0, 0⟩) := hWm9 ▸ Bm8.set (Sm.v ⟨⟨4, 17, ⟨4, 0, 2⟩, ⟨4, 0, 1⟩, 54, 53⟩, 0, 0, 0, 0, 0, 0, false, ⟨0, 0, ⟨0, 0, 0⟩, ⟨0, 0, 0⟩, 0, 0⟩, none, 0, 0⟩)
 have Am9 := hWm9 ▸ Am8.other nAB (Sm.v ⟨⟨4, 17, ⟨4, 0, 2⟩, ⟨4, 0, 1⟩, 54, 53⟩, 0, 0, 0, 0, 0, 0, false, ⟨0, 0, ⟨0, 0, 0⟩, ⟨0, 0, 0⟩, 0, 0⟩, none, 0, 0⟩)
 have bm9 := hWm9 ▸ below_setRow bm8 gB (Sm.v ⟨⟨4, 17, ⟨4, 0, 2⟩, ⟨4, 0, 1⟩, 54, 53⟩, 0, 0, 0, 0, 0, 0, false, ⟨0, 0, ⟨0, 0, 0⟩, ⟨0, 0, 0⟩, 0, 0⟩, none, 0, 0⟩)
 go_wp2_with (first | (refine wpList_store_off rfl _ _ _ rfl Wm5.heap.size 0 _ (Wy.v ⟨4, 17, ⟨4, 0, 2⟩, ⟨4, 0, 1⟩, 54, 53⟩) _ (Sm.v ⟨⟨4, 17, ⟨4, 0, 2⟩, ⟨4, 0, 1⟩, 54, 53⟩, 0, 0, 0, 0, 0, 0, false, ⟨0, 0, ⟨0, 0, 0⟩, ⟨0, 0, 0⟩, 0, 0⟩, none, 0, 0⟩) (by rfl) (by rfl) Bm8 (by kernel_rfl) (Nat.le_of_ble_eq_true (by kernel_rfl)) (by kernel_rfl) (setWay_fw (⟨⟨4, 17, ⟨4, 0, 1⟩, ⟨4, 0, 2⟩, 53, 54⟩, 0, 0, 0, 0, 0, 0, false, ⟨0, 0, ⟨0, 0, 0⟩, ⟨0, 0, 0⟩, 0, 0⟩, none, 0, 0⟩) (⟨4, 17, ⟨4, 0, 2⟩, ⟨4, 0, 1⟩, 54, 53⟩)) ?_; rw [hWm9]) | (refine wpList_load_blk_w (by rfl) _ _ rfl Wm2.heap.size (by rfl) _ Am9 Try.underlying33 (by kernel_rfl) ?_) | (refine wpList_load_blk_w (by rfl) _ _ rfl Wm5.heap.size (by rfl) _ Bm9 Try.underlying36 (by kernel_rfl) ?_))
 refine Calls.mono (alG_fw _) ?_
 rintro e Wm10 ⟨rfl, bb⟩
 have Am10 := Am9.kept bb
 have Bm10 := Bm9.kept bb
 have bm10 := bel_tr bm9 bb
 clear bb
 clear Am9 Bm9 bm9
 obtain ⟨Wm11, hWm11⟩ : ∃ W, Wm10.alloc (.cells #[.int .i64 0, .int .i64 0, .int .i64 0, .int .u64 0, .int .u64 0, .int .i64 0, .int .u64 0, .int .u64 0, .int .i64 0, .int .i64 0, .int .i64 0, .int .u32 0, .int .u32 0, .int .u32 0, .int .u32 0, .bool false, .bool false, .bool false, .bool false, .int .i64 0, .int .i64 0, .bool false] 33) = W := ⟨_, rfl⟩
 have bm11 := bel_al bm10 hWm11
 have Am11 := Am10.al hWm11
 have Bm11 := Bm10.al hWm11
 have Cm11 := blk_nw hWm11
 have gC : w.heap.size ≤ Wm10.heap.size := bm10.size
 have nAC : Wm2.heap.size ≠ Wm10.heap.size := by have := Am10.lt; omega
 have nCA : Wm10.heap.size ≠ Wm2.heap.size := fun e => nAC e.symm
 have nBC : Wm5.heap.size ≠ Wm10.heap.size := by have := Bm10.lt; omega
 have nCB : Wm10.heap.size ≠ Wm5.heap.size := fun e => nBC e.symm
 obtain ⟨Wm12, hWm12⟩ : ∃ W, Wm11.setRow Wm10.heap.size flZ.v = W := ⟨_, rfl⟩
 have Cm12 : Blk Wm12 Wm10.heap.size 33 flZ.v := hWm12 ▸ Cm11.set flZ.v
 have Am12 := hWm12 ▸ Am11.other nAC flZ.v
 have Bm12 := hWm12 ▸ Bm11.other nBC flZ.v
 have bm12 := hWm12 ▸ below_setRow bm11 gC flZ.v
 have c13 := Am12.cell 19 (.int .i64 130) rfl
 have c14 := Cm12.cell 19 (.int .i64 290) rfl
 have c15 := Cm12.cell 21 (.bool true) rfl
 go_wp2_with (first | (refine wpList_store_row rfl _ _ _ rfl Wm10.heap.size flZ.v (by rfl) (by rfl) _ _ Cm11 (by kernel_rfl) (by rfl) (by kernel_rfl) ?_; rw [hWm12]) | (refine wpList_load_blk_w (by rfl) _ _ rfl Wm10.heap.size (by rfl) _ Cm12 Try.underlying33 (by kernel_rfl) ?_))
 clear c13 c14 c15
 refine Calls.mono (alR_fw _) ?_
 rintro e Wm16 ⟨rfl, bb⟩
 have Am16 := Am12.kept bb
 have Bm16 := Bm12.kept bb
 have Cm16 := Cm12.kept bb
 have bm16 := bel_tr bm12 bb
 clear bb
 clear Am12 Bm12 Cm12 bm12
 go_wp2_with fail
 go_ret
 exact ⟨retB_fw (by (try rw [← HR.out]) <;> first | rfl | (simp []; done)), bm16⟩
set_option maxRecDepth 100000 in
set_option maxHeartbeats 4000000 in
theorem flowGoes_walk (f : Fl) (s : Sm) (x y : Int) (w : World) (hf : f.kf) (hs : s.w.kf) :
  Calls Try.prog 4 #[.agg f.v, .agg s.v, .agg #[.int .i64 x, .int .i64 y]] w fun e w' => e = .returned (.bool true) ∧ Below w.heap.size w w' := by
 have hok1 : f.w.ok := hf.w.ok
 obtain ⟨R, hR⟩ : ∃ R, true = R := ⟨_, rfl⟩
 have HR : Hid (true = R) := hR
 rw [hR]
 clear hR
 have b := Below.refl w.heap.size w
 go_enter Try.func4, Try.ntmps4
 obtain ⟨Wm1, hWm1⟩ : ∃ W, w.alloc (.cells f.v 33) = W := ⟨_, rfl⟩
 have bm1 := bel_nw hWm1
 have Am1 := blk_nw hWm1
 have gA : w.heap.size ≤ w.heap.size := Nat.le_refl _
 obtain ⟨Wm2, hWm2⟩ : ∃ W, Wm1.alloc (.cells s.v 36) = W := ⟨_, rfl⟩
 have bm2 := bel_al bm1 hWm2
 have Am2 := Am1.al hWm2
 have Bm2 := blk_nw hWm2
 have gB : w.heap.size ≤ Wm1.heap.size := bm1.size
 have nAB : w.heap.size ≠ Wm1.heap.size := by have := Am1.lt; omega
 have nBA : Wm1.heap.size ≠ w.heap.size := fun e => nAB e.symm
 obtain ⟨Wm3, hWm3⟩ : ∃ W, Wm2.alloc (.cells #[.int .i64 x, .int .i64 y] 45) = W := ⟨_, rfl⟩
 have bm3 := bel_al bm2 hWm3
 have Am3 := Am2.al hWm3
 have Bm3 := Bm2.al hWm3
 have Cm3 := blk_nw hWm3
 have gC : w.heap.size ≤ Wm2.heap.size := bm2.size
 have nAC : w.heap.size ≠ Wm2.heap.size := by have := Am2.lt; omega
 have nCA : Wm2.heap.size ≠ w.heap.size := fun e => nAC e.symm
 have nBC : Wm1.heap.size ≠ Wm2.heap.size := by have := Bm2.lt; omega
 have nCB : Wm2.heap.size ≠ Wm1.heap.size := fun e => nBC e.symm
 go_wp2_with fail
 obtain ⟨Wdq4, hWdq4⟩ : ∃ W, Wm3.drew = W := ⟨_, rfl⟩
 have Adq4 := hWdq4 ▸ Am3.drew
 have Bdq4 := hWdq4 ▸ Bm3.drew
 have Cdq4 := hWdq4 ▸ Cm3.drew
 have bdq4 := hWdq4 ▸ bm3.drew
 refine wp_region_noPanic ?_
 refine wp_region_held_drew (S := fun w' => Blk w' w.heap.size 33 f.v ∧ Blk w' Wm1.heap.size 36 s.v ∧ Blk w' Wm2.heap.size 45 #[.int .i64 x, .int .i64 y]) (by kernel_rfl) (by rw [hWdq4]; exact ⟨Adq4, Bdq4, Cdq4⟩) (fun hHeld => ?_)
 rw [hWdq4] at hHeld ⊢
 refine qtk (i := 0) (oi := { dst := some 13, op := Op.indexAddr 45 (.tmp 5) (.const (.int .i64 0)), type := 0, pos := "law.go:34", after := #[], guard := none }) (v := (.pointer (some ⟨Wm2.heap.size, 0, none⟩))) hHeld ?_ ?_
 ·intro w9 hSw
  try dsimp only at hSw
  go_simp
 try simp only [qpu]
 refine qtk (i := 1) (oi := { dst := some 14, op := Op.load 3 (.tmp 13), type := 3, pos := "law.go:34", after := #[{ on := 0, ground := Ground.data }], guard := none }) (v := (.int .i64 x)) hHeld ?_ ?_
 ·intro w9 hSw
  try dsimp only at hSw
  have hcc := hSw.2.2.cell 0 (.int .i64 x) rfl
  go_simp
 try simp only [qpu]
 refine qtk (i := 2) (oi := { dst := some 15, op := Op.indexAddr 45 (.tmp 5) (.const (.int .i64 1)), type := 0, pos := "law.go:34", after := #[{ on := 4, ground := Ground.gcOnly Departure.lateStores }], guard := none }) (v := (.pointer (some ⟨Wm2.heap.size, 1, none⟩))) hHeld ?_ ?_
 ·intro w9 hSw
  try dsimp only at hSw
  go_simp
 try simp only [qpu]
 refine qtk (i := 3) (oi := { dst := some 16, op := Op.load 3 (.tmp 15), type := 3, pos := "law.go:34", after := #[{ on := 2, ground := Ground.data }, { on := 4, ground := Ground.gcOnly Departure.lateStores }], guard := none }) (v := (.int .i64 y)) hHeld ?_ ?_
 ·intro w9 hSw
  try dsimp only at hSw
  have hcc := hSw.2.2.cell 1 (.int .i64 y) rfl
  go_simp
 try simp only [qpu]
 refine qtk (i := 4) (oi := { dst := some 7, op := Op.assign (.tmp 14), type := 3, pos := "law.go:34", after := #[{ on := 1, ground := Ground.data }, { on := 0, ground := Ground.phase }, { on := 1, ground := Ground.phase }, { on := 2, ground := Ground.textOnly Departure.lateStores }, { on := 3, ground := Ground.textOnly Departure.lateStores }], guard := none }) (v := (.int .i64 x)) hHeld ?_ ?_
 ·intro w9 hSw
  try dsimp only at hSw
  go_simp
 try simp only [qpu]
 refine qtk (i := 5) (oi := { dst := some 8, op := Op.assign (.tmp 16), type := 3, pos := "law.go:34", after := #[{ on := 3, ground := Ground.data }, { on := 4, ground := Ground.chain }, { on := 0, ground := Ground.phase }, { on := 1, ground := Ground.phase }, { on := 2, ground := Ground.phase }, { on := 3, ground := Ground.phase }, { on := 4, ground := Ground.phase }], guard := none }) (v := (.int .i64 y)) hHeld ?_ ?_
 ·intro w9 hSw
  try dsimp only at hSw
  go_simp
 try simp only [qpu]
 refine wpAnyH_done (by kernel_rfl) ?_ _
 refine NoPanic.normal ?_
 go_wp2_with (first | (refine wpList_load_blk_w (by rfl) _ _ rfl w.heap.size (by rfl) _ Adq4 Try.underlying33 (by kernel_rfl) ?_) | (refine wpList_load_blk_w (by rfl) _ _ rfl Wm1.heap.size (by rfl) _ Bdq4 Try.underlying36 (by kernel_rfl) ?_))
 refine Calls.mono (go_fw f x s y _) ?_
 rintro e Wm5 ⟨rfl, bb⟩
 have Am5 := Adq4.kept bb
 have Bm5 := Bdq4.kept bb
 have Cm5 := Cdq4.kept bb
 have bm5 := bel_tr bdq4 bb
 clear bb
 clear Adq4 Bdq4 Cdq4 bdq4
 obtain ⟨Wm6, hWm6⟩ : ∃ W, Wm5.alloc (.cells #[.int .i64 0, .int .i64 0, .int .i64 0, .int .u64 0, .int .u64 0, .int .i64 0, .int .u64 0, .int .u64 0, .int .i64 0, .int .i64 0, .int .i64 0, .int .u32 0, .int .u32 0, .int .u32 0, .int .u32 0, .bool false, .bool false, .bool false, .bool false, .int .i64 0, .int .i64 0, .bool false] 33) = W := ⟨_, rfl⟩
 have bm6 := bel_al bm5 hWm6
 have Am6 := Am5.al hWm6
 have Bm6 := Bm5.al hWm6
 have Cm6 := Cm5.al hWm6
 have Dm6 := blk_nw hWm6
 have gD : w.heap.size ≤ Wm5.heap.size := bm5.size
 have nAD : w.heap.size ≠ Wm5.heap.size := by have := Am5.lt; omega
 have nDA : Wm5.heap.size ≠ w.heap.size := fun e => nAD e.symm
 have nBD : Wm1.heap.size ≠ Wm5.heap.size := by have := Bm5.lt; omega
 have nDB : Wm5.heap.size ≠ Wm1.heap.size := fun e => nBD e.symm
 have nCD : Wm2.heap.size ≠ Wm5.heap.size := by have := Cm5.lt; omega
 have nDC : Wm5.heap.size ≠ Wm2.heap.size := fun e => nCD e.symm
 obtain ⟨Wm7, hWm7⟩ : ∃ W, Wm6.setRow Wm5.heap.size (Fl.go f x s y).1.v = W := ⟨_, rfl⟩
 have Dm7 : Blk Wm7 Wm5.heap.size 33 (Fl.go f x s y).1.v := hWm7 ▸ Dm6.set (Fl.go f x s y).1.v
 have Am7 := hWm7 ▸ Am6.other nAD (Fl.go f x s y).1.v
 have Bm7 := hWm7 ▸ Bm6.other nBD (Fl.go f x s y).1.v
 have Cm7 := hWm7 ▸ Cm6.other nCD (Fl.go f x s y).1.v
 have bm7 := hWm7 ▸ below_setRow bm6 gD (Fl.go f x s y).1.v
 go_wp2_with (first | (refine wpList_store_row rfl _ _ _ rfl Wm5.heap.size (Fl.go f x s y).1.v (by rfl) (by rfl) _ _ Dm6 (by kernel_rfl) (by rfl) (by kernel_rfl) ?_; rw [hWm7]) | (refine wpList_load_blk_w (by rfl) _ _ rfl w.heap.size (by rfl) _ Am7 Try.underlying33 (by kernel_rfl) ?_) | (refine wpList_load_blk_w (by rfl) _ _ rfl Wm1.heap.size (by rfl) _ Bm7 Try.underlying36 (by kernel_rfl) ?_))
 refine Calls.mono (rgo_fw f x s y _ (by assumption)) ?_
 rintro e Wm8 ⟨rfl, bb⟩
 have Am8 := Am7.kept bb
 have Bm8 := Bm7.kept bb
 have Cm8 := Cm7.kept bb
 have Dm8 := Dm7.kept bb
 have bm8 := bel_tr bm7 bb
 clear bb
 clear Am7 Bm7 Cm7 Dm7 bm7
 obtain ⟨Wm9, hWm9⟩ : ∃ W, Wm8.alloc (.cells #[.int .i64 0, .int .i64 0, .int .i64 0, .int .u64 0, .int .u64 0, .int .i64 0, .int .u64 0, .int .u64 0, .int .i64 0, .int .i64 0, .int .i64 0, .int .u32 0, .int .u32 0, .int .u32 0, .int .u32 0, .bool false, .bool false, .bool false, .bool false, .int .i64 0, .int .i64 0, .bool false] 33) = W := ⟨_, rfl⟩
 have bm9 := bel_al bm8 hWm9
 have Am9 := Am8.al hWm9
 have Bm9 := Bm8.al hWm9
 have Cm9 := Cm8.al hWm9
 have Dm9 := Dm8.al hWm9
 have Em9 := blk_nw hWm9
 have gE : w.heap.size ≤ Wm8.heap.size := bm8.size
 have nAE : w.heap.size ≠ Wm8.heap.size := by have := Am8.lt; omega
 have nEA : Wm8.heap.size ≠ w.heap.size := fun e => nAE e.symm
 have nBE : Wm1.heap.size ≠ Wm8.heap.size := by have := Bm8.lt; omega
 have nEB : Wm8.heap.size ≠ Wm1.heap.size := fun e => nBE e.symm
 have nCE : Wm2.heap.size ≠ Wm8.heap.size := by have := Cm8.lt; omega
 have nEC : Wm8.heap.size ≠ Wm2.heap.size := fun e => nCE e.symm
 have nDE : Wm5.heap.size ≠ Wm8.heap.size := by have := Dm8.lt; omega
 have nED : Wm8.heap.size ≠ Wm5.heap.size := fun e => nDE e.symm
 obtain ⟨Wm10, hWm10⟩ : ∃ W, Wm9.setRow Wm8.heap.size (Fl.go f x s y).1.v = W := ⟨_, rfl⟩
 have Em10 : Blk Wm10 Wm8.heap.size 33 (Fl.go f x s y).1.v := hWm10 ▸ Em9.set (Fl.go f x s y).1.v
 have Am10 := hWm10 ▸ Am9.other nAE (Fl.go f x s y).1.v
 have Bm10 := hWm10 ▸ Bm9.other nBE (Fl.go f x s y).1.v
 have Cm10 := hWm10 ▸ Cm9.other nCE (Fl.go f x s y).1.v
 have Dm10 := hWm10 ▸ Dm9.other nDE (Fl.go f x s y).1.v
 have bm10 := hWm10 ▸ below_setRow bm9 gE (Fl.go f x s y).1.v
 have hE11 := eql_fl (Fl.go f x s y).1
 go_wp2_with (first | (refine wpList_store_row rfl _ _ _ rfl Wm8.heap.size (Fl.go f x s y).1.v (by rfl) (by rfl) _ _ Em9 (by kernel_rfl) (by rfl) (by kernel_rfl) ?_; rw [hWm10]) | (refine wpList_load_blk_w (by rfl) _ _ rfl Wm5.heap.size (by rfl) _ Dm10 Try.underlying33 (by kernel_rfl) ?_) | (refine wpList_load_blk_w (by rfl) _ _ rfl Wm8.heap.size (by rfl) _ Em10 Try.underlying33 (by kernel_rfl) ?_))
 clear hE11
 refine Calls.mono (alive_fw _) ?_
 rintro e Wm12 ⟨rfl, bb⟩
 have Am12 := Am10.kept bb
 have Bm12 := Bm10.kept bb
 have Cm12 := Cm10.kept bb
 have Dm12 := Dm10.kept bb
 have Em12 := Em10.kept bb
 have bm12 := bel_tr bm10 bb
 clear bb
 clear Am10 Bm10 Cm10 Dm10 Em10 bm10
 go_wp2_with fail
 go_ret
 exact ⟨retB_fw (by (try rw [← HR.out]) <;> first | rfl | (simp []; done)), bm12⟩
end Go.Proofs.Ytfiembbmgdmagaa
