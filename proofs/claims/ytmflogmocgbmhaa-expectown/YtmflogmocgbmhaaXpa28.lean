/- Texts joined: XpD -/
import Derived.Test.YtmflogmocgbmhaaXpa12
import Derived.Test.YtmflogmocgbmhaaXpa27
namespace Go.Proofs.Ytmflogmocgbmhaa
open Go.RowKit
set_option linter.unusedVariables false
set_option linter.unusedSimpArgs false
def inW (n m : Int) : Bool := decide (0 ≤ n) && decide (n ≤ m)
theorem waits_doc (f : Wt) (t : Wy) : f.waits t = (f.right && (t.right && Wy.eqB { f.w with sp := if f.w.sp == -1 then t.sp else f.w.sp } t)) := by unfold Wt.waits; rw [for_doc]
set_option maxRecDepth 100000 in
set_option maxHeartbeats 4000000 in
theorem in_xp (n m : Int) (w : World) :
    Calls Try.prog 33 #[.int .i64 n, .int .i64 m] w fun e w' => e = .returned (.bool (inW n m)) ∧ Below w.heap.size w w' := by
  obtain ⟨R, hR⟩ : ∃ R, inW n m = R := ⟨_, rfl⟩
  have HR : Hid (inW n m = R) := hR
  try rw [hR]
  clear hR
  have b := Below.refl w.heap.size w
  go_enter Try.func33, Try.ntmps33
  cases hq1 : (decide (0 ≤ n)) with
  | false =>
    go_wp2_with fail
    go_ret
    exact ⟨retB_fw (by (try rw [← HR.out]) <;> first | rfl | (simp [inW, hq1]; done) | (simp [inW, hq1]; rfl)), b⟩

  | true =>
    go_wp2_with fail
    go_ret
    exact ⟨retB_fw (by (try rw [← HR.out]) <;> first | rfl | (simp [inW, hq1]; done) | (simp [inW, hq1]; rfl)), b⟩
theorem in_endW (n : Int) (w : World) : Calls Try.prog 33 #[.int .i64 n, .int .i64 4611686018427387904] w fun e w' => e = .returned (.bool (endW n)) ∧ Below w.heap.size w w' := in_xp n _ w
theorem in_hlpW (n : Int) (w : World) : Calls Try.prog 33 #[.int .i64 n, .int .i64 3] w fun e w' => e = .returned (.bool (hlpW n)) ∧ Below w.heap.size w w' := in_xp n _ w
def capW (n : Int) : Bool := decide (0 ≤ n) && decide (n ≤ 256)
theorem in_capW (n : Int) (w : World) : Calls Try.prog 33 #[.int .i64 n, .int .i64 256] w fun e w' => e = .returned (.bool (capW n)) ∧ Below w.heap.size w w' := in_xp n _ w
set_option maxRecDepth 100000 in
set_option maxHeartbeats 4000000 in
theorem rright_xp (f : Wt) (w : World) (ho : f.ok) :
    Calls Try.prog 11 #[.agg f.v] w fun e w' => e = .returned (.bool f.right) ∧ Below w.heap.size w w' := by
  have hw := ho.w
  have hm := ho.m
  obtain ⟨R, hR⟩ : ∃ R, f.right = R := ⟨_, rfl⟩
  have HR : Hid (f.right = R) := hR
  try rw [hR]
  clear hR
  have b := Below.refl w.heap.size w
  go_enter Try.func11, Try.ntmps11
  cases hq5 : (f.w.sp == -1) with
  | false =>
    obtain ⟨Wm6, hWm6⟩ : ∃ W, w.alloc (.cells f.v 28) = W := ⟨_, rfl⟩
    have bm6 := bel_al b hWm6
    have Am6 := blk_nw hWm6
    have gA : w.heap.size ≤ w.heap.size := b.size
    obtain ⟨Wm7, hWm7⟩ : ∃ W, Wm6.alloc (.cells #[.int .i64 0, .int .i64 0, .int .i64 0, .int .u64 0, .int .u64 0, .int .i64 0, .int .u64 0, .int .u64 0, .int .i64 0, .int .i64 0] 26) = W := ⟨_, rfl⟩
    have bm7 := bel_al bm6 hWm7
    have Am7 := Am6.al hWm7
    have Bm7 := blk_nw hWm7
    have gB : w.heap.size ≤ Wm6.heap.size := bm6.size
    have nAB : w.heap.size ≠ Wm6.heap.size := by have := Am6.lt; omega
    have nBA : Wm6.heap.size ≠ w.heap.size := fun e => nAB e.symm
    obtain ⟨Wm8, hWm8⟩ : ∃ W, Wm7.setRow Wm6.heap.size f.w.v = W := ⟨_, rfl⟩
    have Bm8 : Blk Wm8 Wm6.heap.size 26 f.w.v := hWm8 ▸ Bm7.set f.w.v
    have Am8 := hWm8 ▸ Am7.other nAB f.w.v
    have bm8 := hWm8 ▸ below_setRow bm7 gB f.w.v
    have c9 := Bm8.cell 8 (.int .i64 f.w.sp) rfl
    go_wp2_with (first | (refine wpList_load_sub_w (by rfl) _ _ rfl w.heap.size 0 _ (by rfl) _ f.w.v Am6 (by rfl) Try.underlying26 (by kernel_rfl) ?_) | (refine wpList_store_row rfl _ _ _ rfl Wm6.heap.size f.w.v (by rfl) (by rfl) _ _ Bm7 (by kernel_rfl) (by rfl) (by kernel_rfl) ?_; rw [hWm8]) | (refine wpList_load_blk_w (by rfl) _ _ rfl Wm6.heap.size (by rfl) _ Bm8 Try.underlying26 (by kernel_rfl) ?_))
    clear c9
    refine Calls.mono (rright_t f.w _ (by first | assumption | exact Wy.any_ok (by assumption) | exact Wy.mk_ok (by assumption) _)) ?_
    rintro e Wm10 ⟨rfl, bb⟩
    have Am10 := Am8.kept bb
    have Bm10 := Bm8.kept bb
    have bm10 := bel_tr bm8 bb
    clear bb
    clear Am8 Bm8 bm8
    cases hq11 : (Wy.right f.w) with
    | false =>
      go_wp2_with fail
      go_ret
      exact ⟨retB_fw (by (try rw [← HR.out]) <;> first | rfl | (simp [Wt.right, Wy.any, hq5, hq11]; done) | (simp [Wt.right, Wy.any, hq5, hq11]; rfl)), bm10⟩

    | true =>
      go_wp2_with (refine wpList_load_sub_w (by rfl) _ _ rfl w.heap.size 10 _ (by rfl) _ f.m.v Am10 (by rfl) Try.underlying26 (by kernel_rfl) ?_)
      refine Calls.mono (rright_t f.m _ (by first | assumption | exact Wy.any_ok (by assumption) | exact Wy.mk_ok (by assumption) _)) ?_
      rintro e Wm12 ⟨rfl, bb⟩
      have Am12 := Am10.kept bb
      have Bm12 := Bm10.kept bb
      have bm12 := bel_tr bm10 bb
      clear bb
      clear Am10 Bm10 bm10
      cases hq13 : (Wy.right f.m) with
      | false =>
        go_wp2_with fail
        go_ret
        exact ⟨retB_fw (by (try rw [← HR.out]) <;> first | rfl | (simp [Wt.right, Wy.any, hq5, hq11, hq13]; done) | (simp [Wt.right, Wy.any, hq5, hq11, hq13]; rfl)), bm12⟩

      | true =>
        have c14 := Am12.cell 20 (.int .i64 f.ends) rfl
        go_wp2_with fail
        clear c14
        refine Calls.mono (in_endW f.ends _) ?_
        rintro e Wm15 ⟨rfl, bb⟩
        have Am15 := Am12.kept bb
        have Bm15 := Bm12.kept bb
        have bm15 := bel_tr bm12 bb
        clear bb
        clear Am12 Bm12 bm12
        cases hq16 : (endW f.ends) with
        | false =>
          go_wp2_with fail
          go_ret
          exact ⟨retB_fw (by (try rw [← HR.out]) <;> first | rfl | (simp [Wt.right, Wy.any, hq5, hq11, hq13, hq16]; done) | (simp [Wt.right, Wy.any, hq5, hq11, hq13, hq16]; rfl)), bm15⟩

        | true =>
          have c17 := Am15.cell 21 (.int .i64 f.help) rfl
          go_wp2_with fail
          clear c17
          refine Calls.mono (in_hlpW f.help _) ?_
          rintro e Wm18 ⟨rfl, bb⟩
          have Am18 := Am15.kept bb
          have Bm18 := Bm15.kept bb
          have bm18 := bel_tr bm15 bb
          clear bb
          clear Am15 Bm15 bm15
          go_wp2_with fail
          go_ret
          exact ⟨retB_fw (by (try rw [← HR.out]) <;> first | rfl | (simp [Wt.right, Wy.any, hq5, hq11, hq13, hq16]; done) | (simp [Wt.right, Wy.any, hq5, hq11, hq13, hq16]; rfl)), bm18⟩




  | true =>
    obtain ⟨Wm19, hWm19⟩ : ∃ W, w.alloc (.cells f.v 28) = W := ⟨_, rfl⟩
    have bm19 := bel_al b hWm19
    have Am19 := blk_nw hWm19
    have gA : w.heap.size ≤ w.heap.size := b.size
    obtain ⟨Wm20, hWm20⟩ : ∃ W, Wm19.alloc (.cells #[.int .i64 0, .int .i64 0, .int .i64 0, .int .u64 0, .int .u64 0, .int .i64 0, .int .u64 0, .int .u64 0, .int .i64 0, .int .i64 0] 26) = W := ⟨_, rfl⟩
    have bm20 := bel_al bm19 hWm20
    have Am20 := Am19.al hWm20
    have Bm20 := blk_nw hWm20
    have gB : w.heap.size ≤ Wm19.heap.size := bm19.size
    have nAB : w.heap.size ≠ Wm19.heap.size := by have := Am19.lt; omega
    have nBA : Wm19.heap.size ≠ w.heap.size := fun e => nAB e.symm
    obtain ⟨Wm21, hWm21⟩ : ∃ W, Wm20.setRow Wm19.heap.size f.w.v = W := ⟨_, rfl⟩
    have Bm21 : Blk Wm21 Wm19.heap.size 26 f.w.v := hWm21 ▸ Bm20.set f.w.v
    have Am21 := hWm21 ▸ Am20.other nAB f.w.v
    have bm21 := hWm21 ▸ below_setRow bm20 gB f.w.v
    have c22 := Bm21.cell 8 (.int .i64 f.w.sp) rfl
    have y24 := Bm21.cell 8 (.int .i64 f.w.sp) rfl
    have z25 := Bm21.frozen 8
    obtain ⟨Wm23, hWm23⟩ : ∃ W, Wm21.setCell ⟨Wm19.heap.size, 8, none⟩ (.int .i64 0) = W := ⟨_, rfl⟩
    have Bm23 : Blk Wm23 Wm19.heap.size 26 (Wy.v ⟨f.w.fam, f.w.pr, f.w.s, f.w.d, 0, f.w.dp⟩) := hWm23 ▸ Bm21.put 8 (.int .i64 0)
    have Am23 := hWm23 ▸ Am21.put_other Bm21 nAB 8 (.int .i64 0)
    have bm23 := hWm23 ▸ bm21.setCell (p := ⟨Wm19.heap.size, 8, none⟩) gB (.int .i64 0)
    go_wp2_with (first | (refine wpList_load_sub_w (by rfl) _ _ rfl w.heap.size 0 _ (by rfl) _ f.w.v Am19 (by rfl) Try.underlying26 (by kernel_rfl) ?_) | (refine wpList_store_row rfl _ _ _ rfl Wm19.heap.size f.w.v (by rfl) (by rfl) _ _ Bm20 (by kernel_rfl) (by rfl) (by kernel_rfl) ?_; rw [hWm21]) | (refine wpList_load_blk_w (by rfl) _ _ rfl Wm19.heap.size (by rfl) _ Bm23 Try.underlying26 (by kernel_rfl) ?_))
    clear c22 y24 z25
    refine Calls.mono (rright_t (⟨f.w.fam, f.w.pr, f.w.s, f.w.d, 0, f.w.dp⟩) _ (by first | assumption | exact Wy.any_ok (by assumption) | exact Wy.mk_ok (by assumption) _)) ?_
    rintro e Wm26 ⟨rfl, bb⟩
    have Am26 := Am23.kept bb
    have Bm26 := Bm23.kept bb
    have bm26 := bel_tr bm23 bb
    clear bb
    clear Am23 Bm23 bm23
    cases hq27 : (Wy.right (⟨f.w.fam, f.w.pr, f.w.s, f.w.d, 0, f.w.dp⟩)) with
    | false =>
      go_wp2_with fail
      go_ret
      exact ⟨retB_fw (by (try rw [← HR.out]) <;> first | rfl | (simp [Wt.right, Wy.any, hq5, hq27]; done) | (simp [Wt.right, Wy.any, hq5, hq27]; rfl)), bm26⟩

    | true =>
      go_wp2_with (refine wpList_load_sub_w (by rfl) _ _ rfl w.heap.size 10 _ (by rfl) _ f.m.v Am26 (by rfl) Try.underlying26 (by kernel_rfl) ?_)
      refine Calls.mono (rright_t f.m _ (by first | assumption | exact Wy.any_ok (by assumption) | exact Wy.mk_ok (by assumption) _)) ?_
      rintro e Wm28 ⟨rfl, bb⟩
      have Am28 := Am26.kept bb
      have Bm28 := Bm26.kept bb
      have bm28 := bel_tr bm26 bb
      clear bb
      clear Am26 Bm26 bm26
      cases hq29 : (Wy.right f.m) with
      | false =>
        go_wp2_with fail
        go_ret
        exact ⟨retB_fw (by (try rw [← HR.out]) <;> first | rfl | (simp [Wt.right, Wy.any, hq5, hq27, hq29]; done) | (simp [Wt.right, Wy.any, hq5, hq27, hq29]; rfl)), bm28⟩

      | true =>
        have c30 := Am28.cell 20 (.int .i64 f.ends) rfl
        go_wp2_with fail
        clear c30
        refine Calls.mono (in_endW f.ends _) ?_
        rintro e Wm31 ⟨rfl, bb⟩
        have Am31 := Am28.kept bb
        have Bm31 := Bm28.kept bb
        have bm31 := bel_tr bm28 bb
        clear bb
        clear Am28 Bm28 bm28
        cases hq32 : (endW f.ends) with
        | false =>
          go_wp2_with fail
          go_ret
          exact ⟨retB_fw (by (try rw [← HR.out]) <;> first | rfl | (simp [Wt.right, Wy.any, hq5, hq27, hq29, hq32]; done) | (simp [Wt.right, Wy.any, hq5, hq27, hq29, hq32]; rfl)), bm31⟩

        | true =>
          have c33 := Am31.cell 21 (.int .i64 f.help) rfl
          go_wp2_with fail
          clear c33
          refine Calls.mono (in_hlpW f.help _) ?_
          rintro e Wm34 ⟨rfl, bb⟩
          have Am34 := Am31.kept bb
          have Bm34 := Bm31.kept bb
          have bm34 := bel_tr bm31 bb
          clear bb
          clear Am31 Bm31 bm31
          go_wp2_with fail
          go_ret
          exact ⟨retB_fw (by (try rw [← HR.out]) <;> first | rfl | (simp [Wt.right, Wy.any, hq5, hq27, hq29, hq32]; done) | (simp [Wt.right, Wy.any, hq5, hq27, hq29, hq32]; rfl)), bm34⟩
set_option maxRecDepth 100000 in
set_option maxHeartbeats 4000000 in
theorem rwaits_xp (f : Wt) (t : Wy) (w : World) (ho : f.ok) (ht : t.ok) :
    Calls Try.prog 13 #[.agg f.v, .agg t.v] w fun e w' => e = .returned (.bool (f.waits t)) ∧ Below w.heap.size w w' := by
  obtain ⟨R, hR⟩ : ∃ R, f.waits t = R := ⟨_, rfl⟩
  have HR : Hid (f.waits t = R) := hR
  try rw [hR]
  clear hR
  have b := Below.refl w.heap.size w
  go_enter Try.func13, Try.ntmps13
  obtain ⟨Wm1, hWm1⟩ : ∃ W, w.alloc (.cells f.v 28) = W := ⟨_, rfl⟩
  have bm1 := bel_al b hWm1
  have Am1 := blk_nw hWm1
  have gA : w.heap.size ≤ w.heap.size := b.size
  obtain ⟨Wm2, hWm2⟩ : ∃ W, Wm1.alloc (.cells t.v 26) = W := ⟨_, rfl⟩
  have bm2 := bel_al bm1 hWm2
  have Am2 := Am1.al hWm2
  have Bm2 := blk_nw hWm2
  have gB : w.heap.size ≤ Wm1.heap.size := bm1.size
  have nAB : w.heap.size ≠ Wm1.heap.size := by have := Am1.lt; omega
  have nBA : Wm1.heap.size ≠ w.heap.size := fun e => nAB e.symm
  go_wp2_with (refine wpList_load_blk_w (by rfl) _ _ rfl w.heap.size (by rfl) _ Am2 Try.underlying28 (by kernel_rfl) ?_)
  refine Calls.mono (rright_xp f _ (by first | assumption | exact hok)) ?_
  rintro e Wm3 ⟨rfl, bb⟩
  have Am3 := Am2.kept bb
  have Bm3 := Bm2.kept bb
  have bm3 := bel_tr bm2 bb
  clear bb
  clear Am2 Bm2 bm2
  cases hq4 : (Wt.right f) with
  | false =>
    go_wp2_with fail
    go_ret
    exact ⟨retB_fw (by (try rw [← HR.out]) <;> first | rfl | (simp [waits_doc, hq4]; done) | (simp [waits_doc, hq4]; rfl)), bm3⟩

  | true =>
    go_wp2_with (refine wpList_load_blk_w (by rfl) _ _ rfl Wm1.heap.size (by rfl) _ Bm3 Try.underlying26 (by kernel_rfl) ?_)
    refine Calls.mono (rright_t t _ (by first | assumption | exact Wy.any_ok (by assumption) | exact Wy.mk_ok (by assumption) _)) ?_
    rintro e Wm5 ⟨rfl, bb⟩
    have Am5 := Am3.kept bb
    have Bm5 := Bm3.kept bb
    have bm5 := bel_tr bm3 bb
    clear bb
    clear Am3 Bm3 bm3
    cases hq6 : (Wy.right t) with
    | false =>
      go_wp2_with fail
      go_ret
      exact ⟨retB_fw (by (try rw [← HR.out]) <;> first | rfl | (simp [waits_doc, hq4, hq6]; done) | (simp [waits_doc, hq4, hq6]; rfl)), bm5⟩

    | true =>
      cases hq10 : (f.w.sp == -1) with
      | false =>
        obtain ⟨Wm11, hWm11⟩ : ∃ W, Wm5.alloc (.cells #[.int .i64 0, .int .i64 0, .int .i64 0, .int .u64 0, .int .u64 0, .int .i64 0, .int .u64 0, .int .u64 0, .int .i64 0, .int .i64 0] 26) = W := ⟨_, rfl⟩
        have bm11 := bel_al bm5 hWm11
        have Am11 := Am5.al hWm11
        have Bm11 := Bm5.al hWm11
        have Cm11 := blk_nw hWm11
        have gC : w.heap.size ≤ Wm5.heap.size := bm5.size
        have nAC : w.heap.size ≠ Wm5.heap.size := by have := Am5.lt; omega
        have nCA : Wm5.heap.size ≠ w.heap.size := fun e => nAC e.symm
        have nBC : Wm1.heap.size ≠ Wm5.heap.size := by have := Bm5.lt; omega
        have nCB : Wm5.heap.size ≠ Wm1.heap.size := fun e => nBC e.symm
        obtain ⟨Wm12, hWm12⟩ : ∃ W, Wm11.setRow Wm5.heap.size f.w.v = W := ⟨_, rfl⟩
        have Cm12 : Blk Wm12 Wm5.heap.size 26 f.w.v := hWm12 ▸ Cm11.set f.w.v
        have Am12 := hWm12 ▸ Am11.other nAC f.w.v
        have Bm12 := hWm12 ▸ Bm11.other nBC f.w.v
        have bm12 := hWm12 ▸ below_setRow bm11 gC f.w.v
        have c13 := Cm12.cell 8 (.int .i64 f.w.sp) rfl
        have hE14 := eql_way f.w t
        go_wp2_with (first | (refine wpList_load_sub_w (by rfl) _ _ rfl w.heap.size 0 _ (by rfl) _ f.w.v Am5 (by rfl) Try.underlying26 (by kernel_rfl) ?_) | (refine wpList_store_row rfl _ _ _ rfl Wm5.heap.size f.w.v (by rfl) (by rfl) _ _ Cm11 (by kernel_rfl) (by rfl) (by kernel_rfl) ?_; rw [hWm12]) | (refine wpList_load_blk_w (by rfl) _ _ rfl Wm5.heap.size (by rfl) _ Cm12 Try.underlying26 (by kernel_rfl) ?_) | (refine wpList_load_blk_w (by rfl) _ _ rfl Wm1.heap.size (by rfl) _ Bm12 Try.underlying26 (by kernel_rfl) ?_))
        go_ret
        exact ⟨retB_fw (by (try rw [← HR.out]) <;> first | rfl | (simp [waits_doc, hq4, hq6, hq10]; done) | (simp [waits_doc, hq4, hq6, hq10]; rfl)), bm12⟩

      | true =>
        obtain ⟨Wm15, hWm15⟩ : ∃ W, Wm5.alloc (.cells #[.int .i64 0, .int .i64 0, .int .i64 0, .int .u64 0, .int .u64 0, .int .i64 0, .int .u64 0, .int .u64 0, .int .i64 0, .int .i64 0] 26) = W := ⟨_, rfl⟩
        have bm15 := bel_al bm5 hWm15
        have Am15 := Am5.al hWm15
        have Bm15 := Bm5.al hWm15
        have Cm15 := blk_nw hWm15
        have gC : w.heap.size ≤ Wm5.heap.size := bm5.size
        have nAC : w.heap.size ≠ Wm5.heap.size := by have := Am5.lt; omega
        have nCA : Wm5.heap.size ≠ w.heap.size := fun e => nAC e.symm
        have nBC : Wm1.heap.size ≠ Wm5.heap.size := by have := Bm5.lt; omega
        have nCB : Wm5.heap.size ≠ Wm1.heap.size := fun e => nBC e.symm
        obtain ⟨Wm16, hWm16⟩ : ∃ W, Wm15.setRow Wm5.heap.size f.w.v = W := ⟨_, rfl⟩
        have Cm16 : Blk Wm16 Wm5.heap.size 26 f.w.v := hWm16 ▸ Cm15.set f.w.v
        have Am16 := hWm16 ▸ Am15.other nAC f.w.v
        have Bm16 := hWm16 ▸ Bm15.other nBC f.w.v
        have bm16 := hWm16 ▸ below_setRow bm15 gC f.w.v
        have c17 := Cm16.cell 8 (.int .i64 f.w.sp) rfl
        have c18 := Bm16.cell 8 (.int .i64 t.sp) rfl
        have y20 := Cm16.cell 8 (.int .i64 f.w.sp) rfl
        have z21 := Cm16.frozen 8
        obtain ⟨Wm19, hWm19⟩ : ∃ W, Wm16.setCell ⟨Wm5.heap.size, 8, none⟩ (.int .i64 t.sp) = W := ⟨_, rfl⟩
        have Cm19 : Blk Wm19 Wm5.heap.size 26 (Wy.v ⟨f.w.fam, f.w.pr, f.w.s, f.w.d, t.sp, f.w.dp⟩) := hWm19 ▸ Cm16.put 8 (.int .i64 t.sp)
        have Am19 := hWm19 ▸ Am16.put_other Cm16 nAC 8 (.int .i64 t.sp)
        have Bm19 := hWm19 ▸ Bm16.put_other Cm16 nBC 8 (.int .i64 t.sp)
        have bm19 := hWm19 ▸ bm16.setCell (p := ⟨Wm5.heap.size, 8, none⟩) gC (.int .i64 t.sp)
        have hE22 := eql_way (⟨f.w.fam, f.w.pr, f.w.s, f.w.d, t.sp, f.w.dp⟩) t
        go_wp2_with (first | (refine wpList_load_sub_w (by rfl) _ _ rfl w.heap.size 0 _ (by rfl) _ f.w.v Am5 (by rfl) Try.underlying26 (by kernel_rfl) ?_) | (refine wpList_store_row rfl _ _ _ rfl Wm5.heap.size f.w.v (by rfl) (by rfl) _ _ Cm15 (by kernel_rfl) (by rfl) (by kernel_rfl) ?_; rw [hWm16]) | (refine wpList_load_blk_w (by rfl) _ _ rfl Wm5.heap.size (by rfl) _ Cm19 Try.underlying26 (by kernel_rfl) ?_) | (refine wpList_load_blk_w (by rfl) _ _ rfl Wm1.heap.size (by rfl) _ Bm19 Try.underlying26 (by kernel_rfl) ?_))
        go_ret
        exact ⟨retB_fw (by (try rw [← HR.out]) <;> first | rfl | (simp [waits_doc, hq4, hq6, hq10]; done) | (simp [waits_doc, hq4, hq6, hq10]; rfl)), bm19⟩
end Go.Proofs.Ytmflogmocgbmhaa
