/- For every input the law TcpRuns returns true and leaves its arguments as they were. -/
import Derived.Test.YtmmnjjcopdabcaaTcx14
import Derived.Test.YtmmnjjcopdabcaaTcx43
import Derived.Test.YtmmnjjcopdabcaaRows
import Derived.WalkKit
import Derived.ProofKit
import Derived.OpenShut
import Derived.ShutString
import Derived.ChangeOld
import Derived.Below
import Derived.SizedLaws
namespace Go.Proofs.Ytmmnjjcopdabcaa
abbrev tcx47o0 : Oper := { dst := none, op := Op.store 28 (.tmp 11) (.tmp 44), type := 0, pos := "law.go:55", after := #[{ on := 10, ground := Ground.data }, { on := 8, ground := Ground.data }, { on := 6, ground := Ground.chain }, { on := 0, ground := Ground.phase }, { on := 1, ground := Ground.phase }, { on := 2, ground := Ground.phase }, { on := 3, ground := Ground.phase }, { on := 4, ground := Ground.phase }, { on := 5, ground := Ground.phase }, { on := 6, ground := Ground.phase }, { on := 7, ground := Ground.phase }, { on := 8, ground := Ground.phase }, { on := 9, ground := Ground.textOnly Departure.lateStores }, { on := 10, ground := Ground.phase }], guard := none }
abbrev tcx47o1 : Oper := { dst := some 12, op := Op.assign (.tmp 45), type := 29, pos := "law.go:55", after := #[{ on := 9, ground := Ground.data }, { on := 11, ground := Ground.chain }, { on := 0, ground := Ground.phase }, { on := 1, ground := Ground.phase }, { on := 2, ground := Ground.phase }, { on := 3, ground := Ground.phase }, { on := 4, ground := Ground.phase }, { on := 5, ground := Ground.phase }, { on := 6, ground := Ground.phase }, { on := 7, ground := Ground.phase }, { on := 8, ground := Ground.phase }, { on := 9, ground := Ground.phase }, { on := 10, ground := Ground.phase }, { on := 11, ground := Ground.phase }], guard := none }
abbrev tcx47o2 : Oper := { dst := some 43, op := Op.call { callee := Callee.value (.func 17), args := #[.tmp 37, .tmp 39, .tmp 42], argTypes := #[28, 3, 39] }, type := 30, pos := "law.go:55", after := #[{ on := 0, ground := Ground.data }, { on := 2, ground := Ground.data }, { on := 5, ground := Ground.data }, { on := 5, ground := Ground.chain }], guard := none }
abbrev tcx47o3 : Oper := { dst := some 45, op := Op.extract (.tmp 36) 1, type := 29, pos := "law.go:55", after := #[{ on := 7, ground := Ground.data }, { on := 11, ground := Ground.gcOnly Departure.lateStores }], guard := none }
abbrev tcx47o4 : Oper := { dst := some 42, op := Op.call { callee := Callee.value (.func 18), args := #[.tmp 41], argTypes := #[24] }, type := 39, pos := "law.go:55", after := #[{ on := 4, ground := Ground.data }], guard := none }
abbrev tcx47o5 : Oper := { dst := some 36, op := Op.move (.tmp 43), type := 30, pos := "law.go:55", after := #[{ on := 6, ground := Ground.data }], guard := none }
abbrev tcx47o6 : Oper := { dst := some 44, op := Op.extract (.tmp 36) 0, type := 28, pos := "law.go:55", after := #[{ on := 7, ground := Ground.data }], guard := none }
abbrev tcx47o7 : Oper := { dst := some 11, op := Op.alloc 28, type := 0, pos := "law.go:55", after := #[], guard := none }
end Go.Proofs.Ytmmnjjcopdabcaa
namespace Go.Proofs.Ytmmnjjcopdabcaa
open Go.RowKit
set_option linter.unusedVariables false
set_option linter.unusedSimpArgs false
set_option maxRecDepth 100000 in
set_option maxHeartbeats 4000000 in
theorem tcpRuns_walk (sq win : Int) (la : Option Addr) (lc : Nat) (l : List Tlk) (w : World) (hsq : 0 ≤ sq ∧ sq < 4294967296) (hlc : l.length ≤ lc) (hcm : lc * 40 ≤ 140737488351232 ∧ (la = none → lc = 0)) (hrow : RowT w la l) :
  Calls Try.prog 6 #[.int .u32 sq, .int .i64 win, .slice la l.length lc] w fun e w' => e = .returned (.bool true) ∧ Below w.heap.size w w' := by
 have KB : Hid (∀ W, Calls Try.prog 10 #[.int .i64 2, .int .u32 sq, .int .i64 win, .int .i64 0] W fun e w' => e = .returned (.tuple #[.agg (beg 2 sq win 0).1.v, .int .i64 (beg 2 sq win 0).2]) ∧ Below W.heap.size W w') := fun W => begin_tc _ _ _ _ W
 have KL : Hid (∀ W, Calls Try.prog 12 #[] W fun e w' => e = .returned (.bool true) ∧ Below W.heap.size W w') := fun W => alive_tc W
 have KST : Hid (∀ (c : Cn) (i : Int) (g : Gt) W, Calls Try.prog 17 #[.agg c.v, .int .i64 i, .agg g.v] W fun e w' => e = .returned (.tuple #[.agg (c.step i g).1.v, .int .i64 (c.step i g).2]) ∧ Below W.heap.size W w') := fun c i g W => step_tc c i g W
 have KSG : Hid (∀ (g : Gt) W, Calls Try.prog 18 #[.agg g.v] W fun e w' => e = .returned (.agg g.v) ∧ Below W.heap.size W w') := fun g W => seg_tc g W
 have KRT : Hid (∀ (d : Cn), d.right = true → ∀ W, Calls Try.prog 13 #[.agg d.v] W fun e w' => e = .returned (.bool true) ∧ Below W.heap.size W w') := fun d h W => by have k := right_tc d W; rw [h] at k; exact k
 have HRow : Hid (RowT w la l) := hrow
 have HLx : l.length * 40 ≤ 140737488351232 := by have := hcm.1; omega
 have HL : Hid (l.length * 40 ≤ 140737488351232) := HLx
 clear HLx
 obtain ⟨N, hN⟩ : ∃ N, l.length = N := ⟨_, rfl⟩
 have HN : Hid (l.length = N) := hN
 rw [hN] at HL ⊢
 clear hN hrow hlc hcm
 have hNl := HL.out
 go_enter Try.func6, Try.ntmps6
 go_wp2_with fail
 refine Calls.mono (KB.out _) ?_
 rintro e Wk1 ⟨rfl, bb⟩
 have bk1 := bb
 by_cases hw : inB15 win = true
 ·have gC_ : w.heap.size ≤ Wk1.heap.size := bk1.size
  have e : beg 2 sq win 0 = (opn1 sq win, 0) := opn_1 (by simpa [inB15] using hw)
  rw [e]
  have HI : Hid ((opn1 sq win).right = true) := rfl
  clear e KB hw
  generalize opn1 sq win = c at *
  obtain ⟨Wyp1, hWyp1⟩ : ∃ W, Wk1.alloc (.cells #[.int .i64 0, .int .u32 0, .int .u32 0, .int .u32 0, .int .u32 0, .bool false, .bool false, .bool false, .bool false] 28) = W := ⟨_, rfl⟩
  have Bbyp1 := blk_nw hWyp1
  have byp1 := bel_al bk1 hWyp1
  have gC : w.heap.size ≤ Wk1.heap.size := bk1.size
  obtain ⟨Wp1, hWp1⟩ : ∃ W, Wyp1.setRow Wk1.heap.size c.v = W := ⟨_, rfl⟩
  have Cp1 : Blk Wp1 Wk1.heap.size 28 c.v := hWp1 ▸ Bbyp1.set _
  have bp1 := hWp1 ▸ below_setRow byp1 gC c.v
  clear byp1
  clear  bk1
  go_wp2_with (first | (refine wpList_load_blk_w (by rfl) _ _ rfl Wk1.heap.size (by rfl) _ Cp1 Try.underlying28 (by kernel_rfl) ?_) | (refine wpList_store_row rfl _ _ _ rfl Wk1.heap.size c.v (by rfl) (by rfl) _ _ Bbyp1 (by kernel_rfl) (by rfl) (by kernel_rfl) ?_; rw [hWp1]))
  go_loopw [32] (fun i wr => ∃ (j : Nat) (d : Cn), j ≤ N ∧ i = .int .i64 j ∧ Hid (d.right = true) ∧ Blk wr Wk1.heap.size 28 d.v ∧ Below w.heap.size w wr) (fun i _ => N - (intOf i).toNat)
  case atStart => exact ⟨0, c, Nat.zero_le _, rfl, HI, Cp1, bp1⟩
  case round =>
   obtain ⟨j, c, hj, rfl, hI, Cr, br⟩ := hrel
   obtain ⟨Wr, rfl⟩ : ∃ W, W = wr := ⟨_, rfl⟩
   clear HI
   by_cases hlt : j < N
   ·have ik : (j : Int) < (N : Int) := by omega
    have in0 : (0 : Int) ≤ (j : Int) := by omega
    obtain ⟨q, hq⟩ : ∃ q, l[j]? = some q := ⟨_, List.getElem?_eq_getElem (by rw [HN.out]; exact hlt)⟩
    obtain ⟨p, off, ha, hcx⟩ := (HRow.out.low br).cells j q hq
    subst ha
    clear hq
    have hcr : Wk1.heap.size < Wr.heap.size := Cr.lt
    have HST : Hid ((c.step q.i q.g).2 = 0 → (c.step q.i q.g).1.right = true ∧ ((c.st == 6) = true → flB q.g.fl 4 = true ∧ (c.step q.i q.g).1.st = 6)) := fun h => step_right hI.out (d := (c.step q.i q.g).1) (by rw [← h])
    have HSA : Hid ((c.step q.i q.g).2 ≠ 0 → (c.step q.i q.g).2 ≠ 23 → ¬ ((q.i = 0 ∨ q.i = 1) ∧ inB15 q.g.win = true ∧ inB15 q.g.sz = true)) := fun h0 h1 => step_arg hI.out h0 h1
    have KS := KST.out c q.i q.g
    obtain ⟨D, hD⟩ : ∃ D, c.step q.i q.g = D := ⟨_, rfl⟩
    rw [hD] at HST HSA KS
    clear hD
    obtain ⟨d, e⟩ := D
    dsimp only at HST HSA KS
    have KS : Hid _ := KS
    have KG : Hid _ := KSG.out q.g
    obtain ⟨Wym1, hWym1⟩ : ∃ W, Wr.alloc (.cells #[.int .i64 0, .int .i64 0, .int .i64 0, .int .i64 0, .int .u32 0, .int .u32 0] 45) = W := ⟨_, rfl⟩
    have Bbym1 := blk_nw hWym1
    have Cym1 := Cr.al hWym1
    have bym1 := bel_al br hWym1
    have gT : w.heap.size ≤ Wr.heap.size := br.size
    have nCT : Wk1.heap.size ≠ Wr.heap.size := by have := Cr.lt; omega
    have nTC : Wr.heap.size ≠ Wk1.heap.size := fun e => nCT e.symm
    obtain ⟨Wm1, hWm1⟩ : ∃ W, Wym1.setRow Wr.heap.size q.v = W := ⟨_, rfl⟩
    have Tm1 : Blk Wm1 Wr.heap.size 45 q.v := hWm1 ▸ Bbym1.set _
    have Cm1 := hWm1 ▸ Cym1.other nCT q.v
    have bm1 := hWm1 ▸ below_setRow bym1 gT q.v
    clear Cym1 bym1
    clear Cr br
    go_wp2_with (first | (refine wpList_load_blk_w (by rfl) _ _ rfl Wk1.heap.size (by rfl) _ Cm1 Try.underlying28 (by kernel_rfl) ?_) | (refine wpList_load_blk_w (by rfl) _ _ rfl Wr.heap.size (by rfl) _ Tm1 Try.underlying45 (by kernel_rfl) ?_) | (refine wpList_store_row rfl _ _ _ rfl Wr.heap.size q.v (by rfl) (by rfl) _ _ Bbym1 (by kernel_rfl) (by rfl) (by kernel_rfl) ?_; rw [hWm1]) | (refine wpList_load_at_w (by rfl) _ _ rfl p (off + j * 6) (by rfl) _ hcx Try.underlying45 (info_tlk q) ?_))
    have Cd := Cm1.drew
    have Td := Tm1.drew
    have bd := bm1.drew
    refine wp_region_noPanic ?_
    refine wp_region_held_drew (S := fun w' => Blk w' Wk1.heap.size 28 c.v ∧ Blk w' Wr.heap.size 45 q.v) (by kernel_rfl) (by exact ⟨Cd, Td⟩) (fun hHeld => ?_)
    obtain ⟨Wdm1, hWdm1⟩ : ∃ W, Wm1.drew = W := ⟨_, rfl⟩
    rw [hWdm1] at hHeld Cd Td bd ⊢
    refine qty (i := 0) (oi := { dst := some 37, op := Op.load 28 (.tmp 7), type := 28, pos := "law.go:55", after := #[], guard := none }) (v := (.agg c.v)) (yieldsIf_blk_w (by kernel_rfl) _ _ rfl Wk1.heap.size (by rfl) _ (fun _ hSw => hSw.1) Try.underlying28 (by kernel_rfl)) hHeld ?_
    try simp only [qpu]
    refine qtk (i := 1) (oi := { dst := some 38, op := Op.fieldAddr 45 (.tmp 10) 0, type := 0, pos := "law.go:55", after := #[], guard := none }) (v := (.pointer (some ⟨Wr.heap.size, 0, none⟩))) hHeld ?_ ?_
    ·intro w9 hSw
     try dsimp only at hSw
     go_simp
    try simp only [qpu]
    refine qtk (i := 2) (oi := { dst := some 39, op := Op.load 3 (.tmp 38), type := 3, pos := "law.go:55", after := #[{ on := 1, ground := Ground.data }], guard := none }) (v := (.int .i64 q.i)) hHeld ?_ ?_
    ·intro w9 hSw
     try dsimp only at hSw
     have hcc := hSw.2.cell 0 (.int .i64 q.i) rfl
     go_simp
    try simp only [qpu]
    refine qtk (i := 3) (oi := { dst := some 40, op := Op.fieldAddr 45 (.tmp 10) 1, type := 0, pos := "law.go:55", after := #[], guard := none }) (v := (.pointer (some ⟨Wr.heap.size, 1, none⟩))) hHeld ?_ ?_
    ·intro w9 hSw
     try dsimp only at hSw
     go_simp
    try simp only [qpu]
    refine qty (i := 4) (oi := { dst := some 41, op := Op.load 24 (.tmp 40), type := 24, pos := "law.go:55", after := #[{ on := 3, ground := Ground.data }], guard := none }) (v := (.agg #[.int .i64 q.g.fl, .int .i64 q.g.win, .int .i64 q.g.sz, .int .u32 q.g.sq, .int .u32 q.g.ak])) (yieldsIf_sub_w (by kernel_rfl) _ _ rfl Wr.heap.size 1 _ (by rfl) _ #[.int .i64 q.g.fl, .int .i64 q.g.win, .int .i64 q.g.sz, .int .u32 q.g.sq, .int .u32 q.g.ak] (fun _ hSw => hSw.2) (by rfl) Try.underlying24 (by kernel_rfl)) hHeld ?_
    try simp only [qpu]
    refine wpAnyH_ready (rs := [5, 10]) (by kernel_rfl) (by simp) ?_
    refine AllReadyH.cons (o := tcx47o4) rfl (fun K hK => ?_) (AllReadyH.cons (o := tcx47o7) rfl (fun K hK => ?_) AllReadyH.nil)
    ·go_simp
     refine Calls.mono (KG.out _) ?_
     rintro e Wx1 ⟨rfl, bb⟩
     have Cx1 := Cd.kept bb
     have Tx1 := Td.kept bb
     have bx1 := bel_tr bd bb
     clear bb
     refine hK.out _ _ (by exact ⟨Cx1, Tx1⟩) (fun hHeld => ?_)
     clear hK K
     try simp only [qpu]
     refine wpAnyH_ready (rs := [6, 10]) (by kernel_rfl) (by simp) ?_
     refine AllReadyH.cons (o := tcx47o2) rfl (fun K hK => ?_) (AllReadyH.cons (o := tcx47o7) rfl (fun K hK => ?_) AllReadyH.nil)
     ·go_simp
      refine Calls.mono (KS.out _) ?_
      rintro e Wx2 ⟨rfl, bb⟩
      have Cx2 := Cx1.kept bb
      have Tx2 := Tx1.kept bb
      have bx2 := bel_tr bx1 bb
      clear bb
      refine hK.out _ _ (by exact ⟨Cx2, Tx2⟩) (fun hHeld => ?_)
      clear hK K
      try simp only [qpu]
      refine qtk (i := 7) (oi := tcx47o5) (v := (.tuple #[.agg d.v, .int .i64 e])) hHeld ?_ ?_
      ·intro w9 hSw
       try dsimp only at hSw
       go_simp
      try simp only [qpu]
      refine qtk (i := 8) (oi := tcx47o6) (v := (.agg d.v)) hHeld ?_ ?_
      ·intro w9 hSw
       try dsimp only at hSw
       go_simp
      try simp only [qpu]
      refine qtk (i := 9) (oi := tcx47o3) (v := (.int .i64 e)) hHeld ?_ ?_
      ·intro w9 hSw
       try dsimp only at hSw
       go_simp
      try simp only [qpu]
      refine wpAnyH_ready (rs := [10]) (by kernel_rfl) (by simp) ?_
      refine AllReadyH.cons (o := tcx47o7) rfl (fun K hK => ?_) AllReadyH.nil
      go_simp
      obtain ⟨Wx3, hWx3⟩ : ∃ W, Wx2.alloc (.cells #[.int .i64 0, .int .u32 0, .int .u32 0, .int .u32 0, .int .u32 0, .bool false, .bool false, .bool false, .bool false] 28) = W := ⟨_, rfl⟩
      rw [hWx3]
      have Cx3 := Cx2.al hWx3
      have Tx3 := Tx2.al hWx3
      have Yx3 := blk_nw hWx3
      have bx3 := bel_al bx2 hWx3
      have gY : w.heap.size ≤ Wx2.heap.size := bx2.size
      have nCY : Wk1.heap.size ≠ Wx2.heap.size := by have := Cx2.lt; omega
      have nTY : Wr.heap.size ≠ Wx2.heap.size := by have := Tx2.lt; omega
      refine hK.out _ _ (by exact ⟨Cx3, Tx3⟩) (fun hHeld => ?_)
      clear hK K
      try simp only [qpu]
      refine wpAnyH_ready (rs := [11]) (by kernel_rfl) (by simp) ?_
      refine AllReadyH.cons (o := tcx47o0) rfl (fun K hK => ?_) AllReadyH.nil
      refine step_store_blk rfl _ _ _ rfl Wx2.heap.size d.v _ (by rfl) (by rfl) Yx3 (by kernel_rfl) (by rfl) (by kernel_rfl) ?_
      obtain ⟨Wx4, hWx4⟩ : ∃ W, Wx3.setRow Wx2.heap.size d.v = W := ⟨_, rfl⟩
      rw [hWx4]
      have Cx4 := hWx4 ▸ Cx3.other nCY d.v
      have Tx4 := hWx4 ▸ Tx3.other nTY d.v
      have Yx4 : Blk Wx4 Wx2.heap.size 28 d.v := hWx4 ▸ Yx3.set d.v
      have bx4 := hWx4 ▸ below_setRow bx3 gY d.v
      refine hK.out _ _ (by exact ⟨Cx4, Tx4⟩) (fun hHeld => ?_)
      clear hK K
      try simp only [qpu]
      refine qtk (i := 12) (oi := tcx47o1) (v := (.int .i64 e)) hHeld ?_ ?_
      ·intro w9 hSw
       try dsimp only at hSw
       go_simp
      try simp only [qpu]
      refine wpAnyH_done (by kernel_rfl) ?_ _
      refine NoPanic.normal ?_
      clear hcx
      by_cases he : e = 0
      ·subst he
       obtain ⟨hr, h6⟩ := HST.out rfl
       have HR : Hid (d.right = true) := hr
       have KR : Hid _ := KRT.out d hr
       clear HST HSA
       go_wp2_with (first | (refine wpList_load_blk_w (by rfl) _ _ rfl Wk1.heap.size (by rfl) _ Cx4 Try.underlying28 (by kernel_rfl) ?_) | (refine wpList_load_blk_w (by rfl) _ _ rfl Wr.heap.size (by rfl) _ Tx4 Try.underlying45 (by kernel_rfl) ?_) | (refine wpList_load_blk_w (by rfl) _ _ rfl Wx2.heap.size (by rfl) _ Yx4 Try.underlying28 (by kernel_rfl) ?_))
       refine Calls.mono (KR.out _) ?_
       rintro e Wu1 ⟨rfl, bb⟩
       have Cu1 := Cx4.kept bb
       have Tu1 := Tx4.kept bb
       have Yu1 := Yx4.kept bb
       have bu1 := bel_tr bx4 bb
       clear bb
       clear Cx4 Tx4 Yx4 bx4
       generalize h6x : (c.st == 6) = X6 at *
       cases X6 with
       | false =>
        clear h6
        have c0 := Cu1.cell 0 (.int .i64 c.st) rfl
        have Cf := Cu1.set d.v
        have bf := below_setRow bu1 gC_ d.v
        go_upto_region 13 with (fail)
        go_wp2_with (first | (refine wpList_load_blk_w (by rfl) _ _ rfl Wk1.heap.size (by rfl) _ Cu1 Try.underlying28 (by kernel_rfl) ?_) | (refine wpList_load_blk_w (by rfl) _ _ rfl Wr.heap.size (by rfl) _ Tu1 Try.underlying45 (by kernel_rfl) ?_) | (refine wpList_load_blk_w (by rfl) _ _ rfl Wx2.heap.size (by rfl) _ Yu1 Try.underlying28 (by kernel_rfl) ?_) | (refine wpList_store_row rfl _ _ _ rfl Wk1.heap.size d.v (by rfl) (by rfl) _ _ Cu1 (by kernel_rfl) (by rfl) (by kernel_rfl) ?_))
        exact ⟨⟨j + 1, d, by omega, by go_num, HR, Cf, bf⟩, by simp [intOf]; omega⟩
       | true =>
        obtain ⟨hf, hd6⟩ := h6 rfl
        have hf' : (bits .and .i64 q.g.fl 4 == 0) = false := by have : (bits .and .i64 q.g.fl 4 != 0) = true := hf; simpa using this
        have hd' : (d.st != 6) = false := by rw [hd6]; rfl
        clear h6 hf hd6
        have c0 := Cu1.cell 0 (.int .i64 c.st) rfl
        have t1 := Tu1.cell 1 (.int .i64 q.g.fl) rfl
        have y0 := Yu1.cell 0 (.int .i64 d.st) rfl
        have Cf := Cu1.set d.v
        have bf := below_setRow bu1 gC_ d.v
        go_upto_region 13 with (fail)
        go_wp2_with (first | (refine wpList_load_blk_w (by rfl) _ _ rfl Wk1.heap.size (by rfl) _ Cu1 Try.underlying28 (by kernel_rfl) ?_) | (refine wpList_load_blk_w (by rfl) _ _ rfl Wr.heap.size (by rfl) _ Tu1 Try.underlying45 (by kernel_rfl) ?_) | (refine wpList_load_blk_w (by rfl) _ _ rfl Wx2.heap.size (by rfl) _ Yu1 Try.underlying28 (by kernel_rfl) ?_) | (refine wpList_store_row rfl _ _ _ rfl Wk1.heap.size d.v (by rfl) (by rfl) _ _ Cu1 (by kernel_rfl) (by rfl) (by kernel_rfl) ?_))
        exact ⟨⟨j + 1, d, by omega, by go_num, HR, Cf, bf⟩, by simp [intOf]; omega⟩
      ·have he0 : (e != 0) = true := by simpa using he
       clear HST
       by_cases h23 : e = 23
       ·subst h23
        clear HSA he
        go_wp2_with fail
        exact ⟨⟨j + 1, c, by omega, by go_num, hI, Cx4, bx4⟩, by simp [intOf]; omega⟩
       ·have h23' : (e != 23) = true := by simpa using h23
        have HA := HSA.out he h23
        clear HSA he h23
        have t0 := Tx4.cell 0 (.int .i64 q.i) rfl
        have t2 := Tx4.cell 2 (.int .i64 q.g.win) rfl
        have t3 := Tx4.cell 3 (.int .i64 q.g.sz) rfl
        have hT : ((q.i / 2 == 0) && ((q.g.win == bits .and .i64 q.g.win 65535) && (q.g.sz == bits .and .i64 q.g.sz 65535))) = false := by
         rw [i64_and65535, i64_and65535]
         cases hh : ((q.i / 2 == 0) && ((q.g.win == q.g.win % 65536) && (q.g.sz == q.g.sz % 65536))) with
         | false => rfl
         | true =>
          simp only [Bool.and_eq_true, beq_iff_eq] at hh
          refine absurd ⟨?_, ?_, ?_⟩ HA
          ·omega
          ·simp [inB15]; omega
          ·simp [inB15]; omega
        clear HA
        generalize hs1 : (q.i / 2 == 0) = S1 at *
        generalize hs2 : (q.g.win == bits .and .i64 q.g.win 65535) = S2 at *
        generalize hs3 : (q.g.sz == bits .and .i64 q.g.sz 65535) = S3 at *
        cases S1 with
        | false =>
         go_wp2_with fail
         exact ⟨⟨j + 1, c, by omega, by go_num, hI, Cx4, bx4⟩, by simp [intOf]; omega⟩
        | true =>
         cases S2 with
         | false =>
          go_wp2_with fail
          exact ⟨⟨j + 1, c, by omega, by go_num, hI, Cx4, bx4⟩, by simp [intOf]; omega⟩
         | true =>
          cases S3 with
          | false =>
           go_wp2_with fail
           exact ⟨⟨j + 1, c, by omega, by go_num, hI, Cx4, bx4⟩, by simp [intOf]; omega⟩
          | true =>
           cases hT
     ·go_simp
      obtain ⟨Wx5, hWx5⟩ : ∃ W, Wx1.alloc (.cells #[.int .i64 0, .int .u32 0, .int .u32 0, .int .u32 0, .int .u32 0, .bool false, .bool false, .bool false, .bool false] 28) = W := ⟨_, rfl⟩
      rw [hWx5]
      have Cx5 := Cx1.al hWx5
      have Tx5 := Tx1.al hWx5
      have Y2_x5 := blk_nw hWx5
      have bx5 := bel_al bx1 hWx5
      have gY2_ : w.heap.size ≤ Wx1.heap.size := bx1.size
      have nCY2_ : Wk1.heap.size ≠ Wx1.heap.size := by have := Cx1.lt; omega
      have nTY2_ : Wr.heap.size ≠ Wx1.heap.size := by have := Tx1.lt; omega
      refine hK.out _ _ (by exact ⟨Cx5, Tx5⟩) (fun hHeld => ?_)
      clear hK K
      try simp only [qpu]
      refine wpAnyH_ready (rs := [6]) (by kernel_rfl) (by simp) ?_
      refine AllReadyH.cons (o := tcx47o2) rfl (fun K hK => ?_) AllReadyH.nil
      go_simp
      refine Calls.mono (KS.out _) ?_
      rintro e Wx6 ⟨rfl, bb⟩
      have Cx6 := Cx5.kept bb
      have Tx6 := Tx5.kept bb
      have Y2_x6 := Y2_x5.kept bb
      have bx6 := bel_tr bx5 bb
      clear bb
      refine hK.out _ _ (by exact ⟨Cx6, Tx6⟩) (fun hHeld => ?_)
      clear hK K
      try simp only [qpu]
      refine qtk (i := 7) (oi := tcx47o5) (v := (.tuple #[.agg d.v, .int .i64 e])) hHeld ?_ ?_
      ·intro w9 hSw
       try dsimp only at hSw
       go_simp
      try simp only [qpu]
      refine qtk (i := 8) (oi := tcx47o6) (v := (.agg d.v)) hHeld ?_ ?_
      ·intro w9 hSw
       try dsimp only at hSw
       go_simp
      try simp only [qpu]
      refine qtk (i := 9) (oi := tcx47o3) (v := (.int .i64 e)) hHeld ?_ ?_
      ·intro w9 hSw
       try dsimp only at hSw
       go_simp
      try simp only [qpu]
      refine wpAnyH_ready (rs := [11]) (by kernel_rfl) (by simp) ?_
      refine AllReadyH.cons (o := tcx47o0) rfl (fun K hK => ?_) AllReadyH.nil
      refine step_store_blk rfl _ _ _ rfl Wx1.heap.size d.v _ (by rfl) (by rfl) Y2_x6 (by kernel_rfl) (by rfl) (by kernel_rfl) ?_
      obtain ⟨Wx7, hWx7⟩ : ∃ W, Wx6.setRow Wx1.heap.size d.v = W := ⟨_, rfl⟩
      rw [hWx7]
      have Cx7 := hWx7 ▸ Cx6.other nCY2_ d.v
      have Tx7 := hWx7 ▸ Tx6.other nTY2_ d.v
      have Y2_x7 : Blk Wx7 Wx1.heap.size 28 d.v := hWx7 ▸ Y2_x6.set d.v
      have bx7 := hWx7 ▸ below_setRow bx6 gY2_ d.v
      refine hK.out _ _ (by exact ⟨Cx7, Tx7⟩) (fun hHeld => ?_)
      clear hK K
      try simp only [qpu]
      refine qtk (i := 12) (oi := tcx47o1) (v := (.int .i64 e)) hHeld ?_ ?_
      ·intro w9 hSw
       try dsimp only at hSw
       go_simp
      try simp only [qpu]
      refine wpAnyH_done (by kernel_rfl) ?_ _
      refine NoPanic.normal ?_
      clear hcx
      by_cases he : e = 0
      ·subst he
       obtain ⟨hr, h6⟩ := HST.out rfl
       have HR : Hid (d.right = true) := hr
       have KR : Hid _ := KRT.out d hr
       clear HST HSA
       go_wp2_with (first | (refine wpList_load_blk_w (by rfl) _ _ rfl Wk1.heap.size (by rfl) _ Cx7 Try.underlying28 (by kernel_rfl) ?_) | (refine wpList_load_blk_w (by rfl) _ _ rfl Wr.heap.size (by rfl) _ Tx7 Try.underlying45 (by kernel_rfl) ?_) | (refine wpList_load_blk_w (by rfl) _ _ rfl Wx1.heap.size (by rfl) _ Y2_x7 Try.underlying28 (by kernel_rfl) ?_))
       refine Calls.mono (KR.out _) ?_
       rintro e Wu1 ⟨rfl, bb⟩
       have Cu1 := Cx7.kept bb
       have Tu1 := Tx7.kept bb
       have Y2_u1 := Y2_x7.kept bb
       have bu1 := bel_tr bx7 bb
       clear bb
       clear Cx7 Tx7 Y2_x7 bx7
       generalize h6x : (c.st == 6) = X6 at *
       cases X6 with
       | false =>
        clear h6
        have c0 := Cu1.cell 0 (.int .i64 c.st) rfl
        have Cf := Cu1.set d.v
        have bf := below_setRow bu1 gC_ d.v
        go_upto_region 13 with (fail)
        go_wp2_with (first | (refine wpList_load_blk_w (by rfl) _ _ rfl Wk1.heap.size (by rfl) _ Cu1 Try.underlying28 (by kernel_rfl) ?_) | (refine wpList_load_blk_w (by rfl) _ _ rfl Wr.heap.size (by rfl) _ Tu1 Try.underlying45 (by kernel_rfl) ?_) | (refine wpList_load_blk_w (by rfl) _ _ rfl Wx1.heap.size (by rfl) _ Y2_u1 Try.underlying28 (by kernel_rfl) ?_) | (refine wpList_store_row rfl _ _ _ rfl Wk1.heap.size d.v (by rfl) (by rfl) _ _ Cu1 (by kernel_rfl) (by rfl) (by kernel_rfl) ?_))
        exact ⟨⟨j + 1, d, by omega, by go_num, HR, Cf, bf⟩, by simp [intOf]; omega⟩
       | true =>
        obtain ⟨hf, hd6⟩ := h6 rfl
        have hf' : (bits .and .i64 q.g.fl 4 == 0) = false := by have : (bits .and .i64 q.g.fl 4 != 0) = true := hf; simpa using this
        have hd' : (d.st != 6) = false := by rw [hd6]; rfl
        clear h6 hf hd6
        have c0 := Cu1.cell 0 (.int .i64 c.st) rfl
        have t1 := Tu1.cell 1 (.int .i64 q.g.fl) rfl
        have y0 := Y2_u1.cell 0 (.int .i64 d.st) rfl
        have Cf := Cu1.set d.v
        have bf := below_setRow bu1 gC_ d.v
        go_upto_region 13 with (fail)
        go_wp2_with (first | (refine wpList_load_blk_w (by rfl) _ _ rfl Wk1.heap.size (by rfl) _ Cu1 Try.underlying28 (by kernel_rfl) ?_) | (refine wpList_load_blk_w (by rfl) _ _ rfl Wr.heap.size (by rfl) _ Tu1 Try.underlying45 (by kernel_rfl) ?_) | (refine wpList_load_blk_w (by rfl) _ _ rfl Wx1.heap.size (by rfl) _ Y2_u1 Try.underlying28 (by kernel_rfl) ?_) | (refine wpList_store_row rfl _ _ _ rfl Wk1.heap.size d.v (by rfl) (by rfl) _ _ Cu1 (by kernel_rfl) (by rfl) (by kernel_rfl) ?_))
        exact ⟨⟨j + 1, d, by omega, by go_num, HR, Cf, bf⟩, by simp [intOf]; omega⟩
      ·have he0 : (e != 0) = true := by simpa using he
       clear HST
       by_cases h23 : e = 23
       ·subst h23
        clear HSA he
        go_wp2_with fail
        exact ⟨⟨j + 1, c, by omega, by go_num, hI, Cx7, bx7⟩, by simp [intOf]; omega⟩
       ·have h23' : (e != 23) = true := by simpa using h23
        have HA := HSA.out he h23
        clear HSA he h23
        have t0 := Tx7.cell 0 (.int .i64 q.i) rfl
        have t2 := Tx7.cell 2 (.int .i64 q.g.win) rfl
        have t3 := Tx7.cell 3 (.int .i64 q.g.sz) rfl
        have hT : ((q.i / 2 == 0) && ((q.g.win == bits .and .i64 q.g.win 65535) && (q.g.sz == bits .and .i64 q.g.sz 65535))) = false := by
         rw [i64_and65535, i64_and65535]
         cases hh : ((q.i / 2 == 0) && ((q.g.win == q.g.win % 65536) && (q.g.sz == q.g.sz % 65536))) with
         | false => rfl
         | true =>
          simp only [Bool.and_eq_true, beq_iff_eq] at hh
          refine absurd ⟨?_, ?_, ?_⟩ HA
          ·omega
          ·simp [inB15]; omega
          ·simp [inB15]; omega
        clear HA
        generalize hs1 : (q.i / 2 == 0) = S1 at *
        generalize hs2 : (q.g.win == bits .and .i64 q.g.win 65535) = S2 at *
        generalize hs3 : (q.g.sz == bits .and .i64 q.g.sz 65535) = S3 at *
        cases S1 with
        | false =>
         go_wp2_with fail
         exact ⟨⟨j + 1, c, by omega, by go_num, hI, Cx7, bx7⟩, by simp [intOf]; omega⟩
        | true =>
         cases S2 with
         | false =>
          go_wp2_with fail
          exact ⟨⟨j + 1, c, by omega, by go_num, hI, Cx7, bx7⟩, by simp [intOf]; omega⟩
         | true =>
          cases S3 with
          | false =>
           go_wp2_with fail
           exact ⟨⟨j + 1, c, by omega, by go_num, hI, Cx7, bx7⟩, by simp [intOf]; omega⟩
          | true =>
           cases hT
    ·go_simp
     obtain ⟨Wx8, hWx8⟩ : ∃ W, Wdm1.alloc (.cells #[.int .i64 0, .int .u32 0, .int .u32 0, .int .u32 0, .int .u32 0, .bool false, .bool false, .bool false, .bool false] 28) = W := ⟨_, rfl⟩
     rw [hWx8]
     have Cx8 := Cd.al hWx8
     have Tx8 := Td.al hWx8
     have Y3_x8 := blk_nw hWx8
     have bx8 := bel_al bd hWx8
     have gY3_ : w.heap.size ≤ Wdm1.heap.size := bd.size
     have nCY3_ : Wk1.heap.size ≠ Wdm1.heap.size := by have := Cd.lt; omega
     have nTY3_ : Wr.heap.size ≠ Wdm1.heap.size := by have := Td.lt; omega
     refine hK.out _ _ (by exact ⟨Cx8, Tx8⟩) (fun hHeld => ?_)
     clear hK K
     try simp only [qpu]
     refine wpAnyH_ready (rs := [5]) (by kernel_rfl) (by simp) ?_
     refine AllReadyH.cons (o := tcx47o4) rfl (fun K hK => ?_) AllReadyH.nil
     go_simp
     refine Calls.mono (KG.out _) ?_
     rintro e Wx9 ⟨rfl, bb⟩
     have Cx9 := Cx8.kept bb
     have Tx9 := Tx8.kept bb
     have Y3_x9 := Y3_x8.kept bb
     have bx9 := bel_tr bx8 bb
     clear bb
     refine hK.out _ _ (by exact ⟨Cx9, Tx9⟩) (fun hHeld => ?_)
     clear hK K
     try simp only [qpu]
     refine wpAnyH_ready (rs := [6]) (by kernel_rfl) (by simp) ?_
     refine AllReadyH.cons (o := tcx47o2) rfl (fun K hK => ?_) AllReadyH.nil
     go_simp
     refine Calls.mono (KS.out _) ?_
     rintro e Wx10 ⟨rfl, bb⟩
     have Cx10 := Cx9.kept bb
     have Tx10 := Tx9.kept bb
     have Y3_x10 := Y3_x9.kept bb
     have bx10 := bel_tr bx9 bb
     clear bb
     refine hK.out _ _ (by exact ⟨Cx10, Tx10⟩) (fun hHeld => ?_)
     clear hK K
     try simp only [qpu]
     refine qtk (i := 7) (oi := tcx47o5) (v := (.tuple #[.agg d.v, .int .i64 e])) hHeld ?_ ?_
     ·intro w9 hSw
      try dsimp only at hSw
      go_simp
     try simp only [qpu]
     refine qtk (i := 8) (oi := tcx47o6) (v := (.agg d.v)) hHeld ?_ ?_
     ·intro w9 hSw
      try dsimp only at hSw
      go_simp
     try simp only [qpu]
     refine qtk (i := 9) (oi := tcx47o3) (v := (.int .i64 e)) hHeld ?_ ?_
     ·intro w9 hSw
      try dsimp only at hSw
      go_simp
     try simp only [qpu]
     refine wpAnyH_ready (rs := [11]) (by kernel_rfl) (by simp) ?_
     refine AllReadyH.cons (o := tcx47o0) rfl (fun K hK => ?_) AllReadyH.nil
     refine step_store_blk rfl _ _ _ rfl Wdm1.heap.size d.v _ (by rfl) (by rfl) Y3_x10 (by kernel_rfl) (by rfl) (by kernel_rfl) ?_
     obtain ⟨Wx11, hWx11⟩ : ∃ W, Wx10.setRow Wdm1.heap.size d.v = W := ⟨_, rfl⟩
     rw [hWx11]
     have Cx11 := hWx11 ▸ Cx10.other nCY3_ d.v
     have Tx11 := hWx11 ▸ Tx10.other nTY3_ d.v
     have Y3_x11 : Blk Wx11 Wdm1.heap.size 28 d.v := hWx11 ▸ Y3_x10.set d.v
     have bx11 := hWx11 ▸ below_setRow bx10 gY3_ d.v
     refine hK.out _ _ (by exact ⟨Cx11, Tx11⟩) (fun hHeld => ?_)
     clear hK K
     try simp only [qpu]
     refine qtk (i := 12) (oi := tcx47o1) (v := (.int .i64 e)) hHeld ?_ ?_
     ·intro w9 hSw
      try dsimp only at hSw
      go_simp
     try simp only [qpu]
     refine wpAnyH_done (by kernel_rfl) ?_ _
     refine NoPanic.normal ?_
     clear hcx
     by_cases he : e = 0
     ·subst he
      obtain ⟨hr, h6⟩ := HST.out rfl
      have HR : Hid (d.right = true) := hr
      have KR : Hid _ := KRT.out d hr
      clear HST HSA
      go_wp2_with (first | (refine wpList_load_blk_w (by rfl) _ _ rfl Wk1.heap.size (by rfl) _ Cx11 Try.underlying28 (by kernel_rfl) ?_) | (refine wpList_load_blk_w (by rfl) _ _ rfl Wr.heap.size (by rfl) _ Tx11 Try.underlying45 (by kernel_rfl) ?_) | (refine wpList_load_blk_w (by rfl) _ _ rfl Wdm1.heap.size (by rfl) _ Y3_x11 Try.underlying28 (by kernel_rfl) ?_))
      refine Calls.mono (KR.out _) ?_
      rintro e Wu1 ⟨rfl, bb⟩
      have Cu1 := Cx11.kept bb
      have Tu1 := Tx11.kept bb
      have Y3_u1 := Y3_x11.kept bb
      have bu1 := bel_tr bx11 bb
      clear bb
      clear Cx11 Tx11 Y3_x11 bx11
      generalize h6x : (c.st == 6) = X6 at *
      cases X6 with
      | false =>
       clear h6
       have c0 := Cu1.cell 0 (.int .i64 c.st) rfl
       have Cf := Cu1.set d.v
       have bf := below_setRow bu1 gC_ d.v
       go_upto_region 13 with (fail)
       go_wp2_with (first | (refine wpList_load_blk_w (by rfl) _ _ rfl Wk1.heap.size (by rfl) _ Cu1 Try.underlying28 (by kernel_rfl) ?_) | (refine wpList_load_blk_w (by rfl) _ _ rfl Wr.heap.size (by rfl) _ Tu1 Try.underlying45 (by kernel_rfl) ?_) | (refine wpList_load_blk_w (by rfl) _ _ rfl Wdm1.heap.size (by rfl) _ Y3_u1 Try.underlying28 (by kernel_rfl) ?_) | (refine wpList_store_row rfl _ _ _ rfl Wk1.heap.size d.v (by rfl) (by rfl) _ _ Cu1 (by kernel_rfl) (by rfl) (by kernel_rfl) ?_))
       exact ⟨⟨j + 1, d, by omega, by go_num, HR, Cf, bf⟩, by simp [intOf]; omega⟩
      | true =>
       obtain ⟨hf, hd6⟩ := h6 rfl
       have hf' : (bits .and .i64 q.g.fl 4 == 0) = false := by have : (bits .and .i64 q.g.fl 4 != 0) = true := hf; simpa using this
       have hd' : (d.st != 6) = false := by rw [hd6]; rfl
       clear h6 hf hd6
       have c0 := Cu1.cell 0 (.int .i64 c.st) rfl
       have t1 := Tu1.cell 1 (.int .i64 q.g.fl) rfl
       have y0 := Y3_u1.cell 0 (.int .i64 d.st) rfl
       have Cf := Cu1.set d.v
       have bf := below_setRow bu1 gC_ d.v
       go_upto_region 13 with (fail)
       go_wp2_with (first | (refine wpList_load_blk_w (by rfl) _ _ rfl Wk1.heap.size (by rfl) _ Cu1 Try.underlying28 (by kernel_rfl) ?_) | (refine wpList_load_blk_w (by rfl) _ _ rfl Wr.heap.size (by rfl) _ Tu1 Try.underlying45 (by kernel_rfl) ?_) | (refine wpList_load_blk_w (by rfl) _ _ rfl Wdm1.heap.size (by rfl) _ Y3_u1 Try.underlying28 (by kernel_rfl) ?_) | (refine wpList_store_row rfl _ _ _ rfl Wk1.heap.size d.v (by rfl) (by rfl) _ _ Cu1 (by kernel_rfl) (by rfl) (by kernel_rfl) ?_))
       exact ⟨⟨j + 1, d, by omega, by go_num, HR, Cf, bf⟩, by simp [intOf]; omega⟩
     ·have he0 : (e != 0) = true := by simpa using he
      clear HST
      by_cases h23 : e = 23
      ·subst h23
       clear HSA he
       go_wp2_with fail
       exact ⟨⟨j + 1, c, by omega, by go_num, hI, Cx11, bx11⟩, by simp [intOf]; omega⟩
      ·have h23' : (e != 23) = true := by simpa using h23
       have HA := HSA.out he h23
       clear HSA he h23
       have t0 := Tx11.cell 0 (.int .i64 q.i) rfl
       have t2 := Tx11.cell 2 (.int .i64 q.g.win) rfl
       have t3 := Tx11.cell 3 (.int .i64 q.g.sz) rfl
       have hT : ((q.i / 2 == 0) && ((q.g.win == bits .and .i64 q.g.win 65535) && (q.g.sz == bits .and .i64 q.g.sz 65535))) = false := by
        rw [i64_and65535, i64_and65535]
        cases hh : ((q.i / 2 == 0) && ((q.g.win == q.g.win % 65536) && (q.g.sz == q.g.sz % 65536))) with
        | false => rfl
        | true =>
         simp only [Bool.and_eq_true, beq_iff_eq] at hh
         refine absurd ⟨?_, ?_, ?_⟩ HA
         ·omega
         ·simp [inB15]; omega
         ·simp [inB15]; omega
       clear HA
       generalize hs1 : (q.i / 2 == 0) = S1 at *
       generalize hs2 : (q.g.win == bits .and .i64 q.g.win 65535) = S2 at *
       generalize hs3 : (q.g.sz == bits .and .i64 q.g.sz 65535) = S3 at *
       cases S1 with
       | false =>
        go_wp2_with fail
        exact ⟨⟨j + 1, c, by omega, by go_num, hI, Cx11, bx11⟩, by simp [intOf]; omega⟩
       | true =>
        cases S2 with
        | false =>
         go_wp2_with fail
         exact ⟨⟨j + 1, c, by omega, by go_num, hI, Cx11, bx11⟩, by simp [intOf]; omega⟩
        | true =>
         cases S3 with
         | false =>
          go_wp2_with fail
          exact ⟨⟨j + 1, c, by omega, by go_num, hI, Cx11, bx11⟩, by simp [intOf]; omega⟩
         | true =>
          cases hT
   ·have ik : ¬ (j : Int) < (N : Int) := by omega
    go_wp2_with fail
    refine Calls.mono (KL.out _) ?_
    rintro e Wm1 ⟨rfl, bb⟩
    have Cm1 := Cr.kept bb
    have bm1 := bel_tr br bb
    clear bb
    clear Cr br
    go_wp2
    go_ret
    exact ⟨rfl, bm1⟩
 ·have e : beg 2 sq win 0 = (cn0, 1) := by
   unfold beg; rw [show inB15 win = false from by cases q : inB15 win with
    | false => rfl
    | true => exact absurd q hw]; rfl
  rw [e]
  clear e KB
  obtain ⟨Wyn1, hWyn1⟩ : ∃ W, Wk1.alloc (.cells #[.int .i64 0, .int .u32 0, .int .u32 0, .int .u32 0, .int .u32 0, .bool false, .bool false, .bool false, .bool false] 28) = W := ⟨_, rfl⟩
  have Bbyn1 := blk_nw hWyn1
  have byn1 := bel_al bk1 hWyn1
  have gC : w.heap.size ≤ Wk1.heap.size := bk1.size
  obtain ⟨Wn1, hWn1⟩ : ∃ W, Wyn1.setRow Wk1.heap.size cn0.v = W := ⟨_, rfl⟩
  have Cn1 : Blk Wn1 Wk1.heap.size 28 cn0.v := hWn1 ▸ Bbyn1.set _
  have bn1 := hWn1 ▸ below_setRow byn1 gC cn0.v
  clear byn1
  clear  bk1
  by_cases h0 : win < 0
  ·go_wp2_with (first | (refine wpList_load_blk_w (by rfl) _ _ rfl Wk1.heap.size (by rfl) _ Cn1 Try.underlying28 (by kernel_rfl) ?_) | (refine wpList_store_row rfl _ _ _ rfl Wk1.heap.size cn0.v (by rfl) (by rfl) _ _ Bbyn1 (by kernel_rfl) (by rfl) (by kernel_rfl) ?_; rw [hWn1]))
   refine Calls.mono (KL.out _) ?_
   rintro e Wn2 ⟨rfl, bb⟩
   have Cn2 := Cn1.kept bb
   have bn2 := bel_tr bn1 bb
   clear bb
   clear Cn1 bn1
   go_wp2
   go_ret
   exact ⟨rfl, bn2⟩
  ·have h1 : 65535 < win := by simp [inB15] at hw; omega
   go_wp2_with (first | (refine wpList_load_blk_w (by rfl) _ _ rfl Wk1.heap.size (by rfl) _ Cn1 Try.underlying28 (by kernel_rfl) ?_) | (refine wpList_store_row rfl _ _ _ rfl Wk1.heap.size cn0.v (by rfl) (by rfl) _ _ Bbyn1 (by kernel_rfl) (by rfl) (by kernel_rfl) ?_; rw [hWn1]))
   refine Calls.mono (KL.out _) ?_
   rintro e Wn2 ⟨rfl, bb⟩
   have Cn2 := Cn1.kept bb
   have bn2 := bel_tr bn1 bb
   clear bb
   clear Cn1 bn1
   go_wp2
   go_ret
   exact ⟨rfl, bn2⟩
end Go.Proofs.Ytmmnjjcopdabcaa
namespace Go.Proofs.Ytmmnjjcopdabcaa.tcpRuns
open Go.ChangeShapes Go.WideShapes Go.ChangeAt Go.RowKit
open Go.ChangeMaps (open_string shut_string)
set_option linter.unusedVariables false
theorem own : ownKnob Try.prog.godebug = none := by kernel_rfl
theorem laidOut : laidOutB Try.prog = true := by kernel_rfl
set_option maxRecDepth 100000 in
theorem lifted (os : Os) (started : os.Started) (H : Type) (enc : TypeId × Value → H) :
  ReturnsInHanded {} Try.checked os 6 .any (Rows.tcpRunsSpec.pre6 enc Try.prog Try.f6 Rows.tcpRunsRow.domain false) (Rows.tcpRunsSpec.post enc Try.prog Try.f6 false true false false) := by
 refine returnsInHanded_of_change_sized (C := Try.checked) own started (by kernel_rfl) Try.func6
  (ChangeSpec.witness6 (enc := enc) (C := Try.checked) false ⟨#[], #[.int .u32 0, .int .i64 0, .slice none 0 0], []⟩ 8 (by kernel_rfl) (by kernel_rfl) (by kernel_rfl) (by kernel_rfl)) ?_
 intro W base args ds gs before hval0 hW hcnd hsz0 _
 have hval : ∀ (j : Nat) t v, Try.f6.params[j]? = some t → args[j]? = some v → Value.okWide Try.prog W .any base t v := hval0
 have hW' := hW
 obtain ⟨p, q, hA0, hV, rfl, hfz, hnd⟩ := hW
 have hA : DataW.TrodAll enc Try.prog W 0 (fun _ => true) true Try.f6.params.toList args.toList ds p := hA0
 have hsz : (DataW.weightsEach Try.prog (Try.f6.params.toList ++ Rows.tcpRunsSpec.plain.varTypes Try.prog) (ds ++ gs)).all (· ≤ reachBytes) = true := hsz0
 rw [Try.params6] at hA hval hsz
 obtain ⟨v0, vs0, d0, ds0, p0, q0, hargs, rfl, rfl, h0, r0⟩ := trodAll_cons hA
 obtain ⟨v1, vs1, d1, ds1, p1, q1, rfl, rfl, rfl, h1, r1⟩ := trodAll_cons r0
 obtain ⟨v2, vs2, d2, ds2, p2, q2, rfl, rfl, rfl, h2, r2⟩ := trodAll_cons r1
 obtain ⟨rfl, rfl, rfl⟩ := trodAll_nil r2
 obtain rfl : args = #[v0, v1, v2] := by cases args; simp_all
 obtain ⟨rfl, rfl⟩ := trodVars_none hV
 obtain ⟨x0, rfl, rfl, rfl, w0⟩ := open_int Try.underlying22 (hval 0 22 v0 rfl rfl) h0
 obtain ⟨x1, rfl, rfl, rfl, w1⟩ := open_int Try.underlying3 (hval 1 3 v1 rfl rfl) h1
 have lt2 : ∀ x ∈ p2, x.block < W.heap.size := by obtain ⟨m, hm⟩ := h2; exact DataW.trod_lt m _ _ _ hm
 have s2 : ∀ n ∈ d2.weights Try.prog 43, n ≤ reachBytes := fun n hn => by simpa using List.all_eq_true.1 hsz n (DataW.weights_mem_each (j := 2) (t := 43) rfl rfl n hn)
 obtain ⟨a2, c2, l2, rfl, lc2, cm2, w2⟩ := open_talks (hval 2 43 v2 rfl rfl) h2 s2
 clear hA0 hval0 hsz0
 refine (tcpRuns_walk x0 x1 a2 c2 l2 W (u32_tc w0) lc2 cm2 w2).mono fun e W' ⟨he, bel⟩ => ?_
 subst he
 exact ⟨_, rfl, _, _, _, [], _, [], hW', trodAll_mk1 (shut_bool Try.underlying4 _), (trodAll_cons_mk (shut_int Try.underlying22 w0) (trodAll_cons_mk (shut_int Try.underlying3 w1) (trodAll_cons_mk (Below.trod laidOut (by kernel_rfl) (of_decide_eq_true (by kernel_rfl)) h2 bel lt2) trodAll_mk0))), rfl, bel.frame _, fun h => by cases h⟩
theorem over : Rows.tcpRunsRow.holds Try.pinned (OpenSpec.ofChange Rows.tcpRunsSpec) :=
 OpenClaim.holds_of_wide 6 Try.f6 rfl rfl rfl rfl rfl rfl rfl ⟨rfl, rfl, rfl, rfl, rfl⟩ rfl rfl rfl rfl rfl (by kernel_rfl) Try.func6 (by kernel_rfl)
  (of_decide_eq_true (by kernel_rfl)) (by unfold Func.isWrapper; first | (rw [if_pos (by decide +kernel)]; kernel_rfl) | (rw [if_neg (by decide +kernel)]; exact ⟨rfl, rfl⟩))
  (fun os started H enc _ => lifted os started H enc)
end Go.Proofs.Ytmmnjjcopdabcaa.tcpRuns
namespace Go.Proofs.Ytmmnjjcopdabcaa
theorem tcpRuns_holds : Rows.TcpRunsSaid := tcpRuns.over
end Go.Proofs.Ytmmnjjcopdabcaa
