/- Texts joined: FwI -/
import Derived.Test.YtmjjdbkipagkbaaFyp29
namespace Go.Proofs.Ytmjjdbkipagkbaa
open Go.RowKit
set_option linter.unusedVariables false
set_option linter.unusedSimpArgs false
set_option maxRecDepth 100000 in
set_option maxHeartbeats 4000000 in
theorem eql_fl (f : Fl) (w : World) : (Go.binOp .eql 33 (.agg f.v) (.agg f.v)).run Try.prog w = Result.ok (.bool true) w := by
  obtain ⟨⟨a, b, ⟨c, d, e⟩, ⟨c', d', e'⟩, g, h⟩, ⟨st, n0, n1, e0, e1, k0, k1, d0, d1⟩, i, j, k⟩ := f
  simp [go_sem, eqU_tc 9996, eqL_tc 9996]
set_option maxRecDepth 100000 in
set_option maxHeartbeats 4000000 in
theorem neq_fl (f : Fl) (w : World) : (Go.binOp .neq 33 (.agg f.v) (.agg f.v)).run Try.prog w = Result.ok (.bool false) w := by
  obtain ⟨⟨a, b, ⟨c, d, e⟩, ⟨c', d', e'⟩, g, h⟩, ⟨st, n0, n1, e0, e1, k0, k1, d0, d1⟩, i, j, k⟩ := f
  simp [go_sem, eqU_tc 9996, eqL_tc 9996]
def sm0 : Sm := ⟨⟨4, 17, ⟨4, 0, 1⟩, ⟨4, 0, 2⟩, 53, 54⟩, 0, 0, 0, 0, 0, 0, false, wy0, none, 0, 0⟩
def sm1 : Sm := ⟨⟨4, 17, ⟨4, 0, 2⟩, ⟨4, 0, 1⟩, 54, 53⟩, 0, 0, 0, 0, 0, 0, false, wy0, none, 0, 0⟩
def flA : Fl := ⟨⟨4, 17, ⟨4, 0, 1⟩, ⟨4, 0, 2⟩, 53, 54⟩, cn0, 130, 0, false⟩
def flZ : Fl := ⟨⟨4, 17, ⟨4, 0, 1⟩, ⟨4, 0, 2⟩, 53, 54⟩, cn0, 290, 0, true⟩
theorem al_s : startF sm0 100 0 = (flA, 0) := by kernel_rfl
theorem al_g : flA.goS true sm1 110 = (flZ, 0) := by kernel_rfl
theorem al_r : flZ.right = true := by kernel_rfl
theorem alS_fw (w : World) : Calls Try.prog 10 #[.agg sm0.v, .int .i64 100, .int .i64 0] w fun e w' => e = .returned (.tuple #[.agg flA.v, .int .i64 0]) ∧ Below w.heap.size w w' := by
  have h := start_fw sm0 100 0 w
  rw [al_s] at h
  exact h
theorem alG_fw (w : World) : Calls Try.prog 15 #[.agg flA.v, .int .i64 1, .agg sm1.v, .int .i64 110] w fun e w' => e = .returned (.tuple #[.agg flZ.v, .int .i64 0]) ∧ Below w.heap.size w w' := by
  have h := go1_fw flA sm1 110 w
  rw [al_g] at h
  exact h
theorem alR_fw (w : World) : Calls Try.prog 12 #[.agg flZ.v] w fun e w' => e = .returned (.bool true) ∧ Below w.heap.size w w' := by
  have h := right_fw flZ w
  rw [al_r] at h
  exact h
theorem alV_fw (w : World) : Calls Try.prog 27 #[.agg (Wy.v ⟨4, 17, ⟨4, 0, 1⟩, ⟨4, 0, 2⟩, 53, 54⟩)] w fun e w' => e = .returned (.agg (Wy.v ⟨4, 17, ⟨4, 0, 2⟩, ⟨4, 0, 1⟩, 54, 53⟩)) ∧ Below w.heap.size w w' := rrev_t _ w
theorem setWay_fw (s : Sm) (x : Wy) : setMany s.v 0 x.v.toList = Sm.v ⟨x, s.fl, s.sq, s.ak, s.win, s.ty, s.co, s.er, s.inn, s.da, s.dn, s.dc⟩ := by kernel_rfl
set_option maxRecDepth 100000 in
set_option maxHeartbeats 4000000 in
theorem small_fw (w : World) :
    Calls Try.prog 42 #[] w fun e w' => e = .returned (.agg sm0.v) ∧ Below w.heap.size w w' := by
  obtain ⟨R, hR⟩ : ∃ R, sm0 = R := ⟨_, rfl⟩
  have HR : Hid (sm0 = R) := hR
  rw [hR]
  clear hR
  have b := Below.refl w.heap.size w
  go_enter Try.func42, Try.ntmps42
  obtain ⟨Wm1, hWm1⟩ : ∃ W, w.alloc (.cells #[.int .i64 0, .int .i64 0, .int .i64 0, .int .u64 0, .int .u64 0, .int .i64 0, .int .u64 0, .int .u64 0, .int .i64 0, .int .i64 0, .int .i64 0, .int .u32 0, .int .u32 0, .int .i64 0, .int .i64 0, .int .i64 0, .bool false, .int .i64 0, .int .i64 0, .int .i64 0, .int .u64 0, .int .u64 0, .int .i64 0, .int .u64 0, .int .u64 0, .int .i64 0, .int .i64 0, .slice none 0 0] 36) = W := ⟨_, rfl⟩
  have bm1 := bel_nw hWm1
  have Am1 := blk_nw hWm1
  have gA : w.heap.size ≤ w.heap.size := Nat.le_refl _
  obtain ⟨Wm2, hWm2⟩ : ∃ W, Wm1.setRow w.heap.size (Sm.v ⟨⟨4, 17, ⟨4, 0, 1⟩, ⟨4, 0, 2⟩, 53, 54⟩, 0, 0, 0, 0, 0, 0, false, ⟨0, 0, ⟨0, 0, 0⟩, ⟨0, 0, 0⟩, 0, 0⟩, none, 0, 0⟩) = W := ⟨_, rfl⟩
  have Am2 : Blk Wm2 w.heap.size 36 (Sm.v ⟨⟨4, 17, ⟨4, 0, 1⟩, ⟨4, 0, 2⟩, 53, 54⟩, 0, 0, 0, 0, 0, 0, false, ⟨0, 0, ⟨0, 0, 0⟩, ⟨0, 0, 0⟩, 0, 0⟩, none, 0, 0⟩) := hWm2 ▸ Am1.set (Sm.v ⟨⟨4, 17, ⟨4, 0, 1⟩, ⟨4, 0, 2⟩, 53, 54⟩, 0, 0, 0, 0, 0, 0, false, ⟨0, 0, ⟨0, 0, 0⟩, ⟨0, 0, 0⟩, 0, 0⟩, none, 0, 0⟩)
  have bm2 := hWm2 ▸ below_setRow bm1 gA (Sm.v ⟨⟨4, 17, ⟨4, 0, 1⟩, ⟨4, 0, 2⟩, 53, 54⟩, 0, 0, 0, 0, 0, 0, false, ⟨0, 0, ⟨0, 0, 0⟩, ⟨0, 0, 0⟩, 0, 0⟩, none, 0, 0⟩)
  go_wp2_with (refine wpList_store_row rfl _ _ _ rfl w.heap.size (Sm.v ⟨⟨4, 17, ⟨4, 0, 1⟩, ⟨4, 0, 2⟩, 53, 54⟩, 0, 0, 0, 0, 0, 0, false, ⟨0, 0, ⟨0, 0, 0⟩, ⟨0, 0, 0⟩, 0, 0⟩, none, 0, 0⟩) (by rfl) (by rfl) _ _ Am1 (by kernel_rfl) (by rfl) (by kernel_rfl) ?_; rw [hWm2])
  have hR2 : R = (⟨⟨4, 17, ⟨4, 0, 1⟩, ⟨4, 0, 2⟩, 53, 54⟩, 0, 0, 0, 0, 0, 0, false, ⟨0, 0, ⟨0, 0, 0⟩, ⟨0, 0, 0⟩, 0, 0⟩, none, 0, 0⟩ : Sm) := by (try rw [← HR.out]) <;> first | rfl | (simp [sm0]; done) | (simp [sm0]; rfl)
  subst hR2
  exact ret_cell (k := 0) Try.f42 (by kernel_rfl) Am2 Try.underlying36 (by kernel_rfl) (by rfl) rfl ⟨rfl, bm2⟩
set_option maxRecDepth 100000 in
set_option maxHeartbeats 4000000 in
theorem alive_fw (w : World) :
    Calls Try.prog 14 #[] w fun e w' => e = .returned (.bool true) ∧ Below w.heap.size w w' := by
  obtain ⟨R, hR⟩ : ∃ R, true = R := ⟨_, rfl⟩
  have HR : Hid (true = R) := hR
  rw [hR]
  clear hR
  have b := Below.refl w.heap.size w
  go_enter Try.func14, Try.ntmps14
  go_wp2_with fail
  refine Calls.mono (small_fw _) ?_
  rintro e Wm1 ⟨rfl, bb⟩
  have bm1 := bb
  go_wp2_with fail
  refine Calls.mono (alS_fw _) ?_
  rintro e Wm2 ⟨rfl, bb⟩
  have bm2 := bel_tr bm1 bb
  clear bb
  clear  bm1
  obtain ⟨Wm3, hWm3⟩ : ∃ W, Wm2.alloc (.cells #[.int .i64 0, .int .i64 0, .int .i64 0, .int .u64 0, .int .u64 0, .int .i64 0, .int .u64 0, .int .u64 0, .int .i64 0, .int .i64 0, .int .i64 0, .int .u32 0, .int .u32 0, .int .u32 0, .int .u32 0, .bool false, .bool false, .bool false, .bool false, .int .i64 0, .int .i64 0, .bool false] 33) = W := ⟨_, rfl⟩
  have bm3 := bel_al bm2 hWm3
  have Am3 := blk_nw hWm3
  have gA : w.heap.size ≤ Wm2.heap.size := bm2.size
  obtain ⟨Wm4, hWm4⟩ : ∃ W, Wm3.setRow Wm2.heap.size flA.v = W := ⟨_, rfl⟩
  have Am4 : Blk Wm4 Wm2.heap.size 33 flA.v := hWm4 ▸ Am3.set flA.v
  have bm4 := hWm4 ▸ below_setRow bm3 gA flA.v
  go_wp2_with (refine wpList_store_row rfl _ _ _ rfl Wm2.heap.size flA.v (by rfl) (by rfl) _ _ Am3 (by kernel_rfl) (by rfl) (by kernel_rfl) ?_; rw [hWm4])
  refine Calls.mono (small_fw _) ?_
  rintro e Wm5 ⟨rfl, bb⟩
  have Am5 := Am4.kept bb
  have bm5 := bel_tr bm4 bb
  clear bb
  clear Am4 bm4
  obtain ⟨Wm6, hWm6⟩ : ∃ W, Wm5.alloc (.cells #[.int .i64 0, .int .i64 0, .int .i64 0, .int .u64 0, .int .u64 0, .int .i64 0, .int .u64 0, .int .u64 0, .int .i64 0, .int .i64 0, .int .i64 0, .int .u32 0, .int .u32 0, .int .i64 0, .int .i64 0, .int .i64 0, .bool false, .int .i64 0, .int .i64 0, .int .i64 0, .int .u64 0, .int .u64 0, .int .i64 0, .int .u64 0, .int .u64 0, .int .i64 0, .int .i64 0, .slice none 0 0] 36) = W := ⟨_, rfl⟩
  have bm6 := bel_al bm5 hWm6
  have Am6 := Am5.al hWm6
  have Bm6 := blk_nw hWm6
  have gB : w.heap.size ≤ Wm5.heap.size := bm5.size
  have nAB : Wm2.heap.size ≠ Wm5.heap.size := by have := Am5.lt; omega
  have nBA : Wm5.heap.size ≠ Wm2.heap.size := fun e => nAB e.symm
  obtain ⟨Wm7, hWm7⟩ : ∃ W, Wm6.setRow Wm5.heap.size sm0.v = W := ⟨_, rfl⟩
  have Bm7 : Blk Wm7 Wm5.heap.size 36 sm0.v := hWm7 ▸ Bm6.set sm0.v
  have Am7 := hWm7 ▸ Am6.other nAB sm0.v
  have bm7 := hWm7 ▸ below_setRow bm6 gB sm0.v
  go_wp2_with (first | (refine wpList_store_row rfl _ _ _ rfl Wm5.heap.size sm0.v (by rfl) (by rfl) _ _ Bm6 (by kernel_rfl) (by rfl) (by kernel_rfl) ?_; rw [hWm7]) | (refine wpList_load_sub_w (by rfl) _ _ rfl Wm5.heap.size 0 _ (by rfl) _ (Wy.v ⟨4, 17, ⟨4, 0, 1⟩, ⟨4, 0, 2⟩, 53, 54⟩) Bm7 (by rfl) Try.underlying26 (by kernel_rfl) ?_))
  refine Calls.mono (alV_fw _) ?_
  rintro e Wm8 ⟨rfl, bb⟩
  have Am8 := Am7.kept bb
  have Bm8 := Bm7.kept bb
  have bm8 := bel_tr bm7 bb
  clear bb
  clear Am7 Bm7 bm7
  obtain ⟨Wm9, hWm9⟩ : ∃ W, Wm8.setRow Wm5.heap.size (Sm.v ⟨⟨4, 17, ⟨4, 0, 2⟩, ⟨4, 0, 1⟩, 54, 53⟩, 0, 0, 0, 0, 0, 0, false, ⟨0, 0, ⟨0, 0, 0⟩, ⟨0, 0, 0⟩, 0, 0⟩, none, 0, 0⟩) = W := ⟨_, rfl⟩
  have Bm9 : Blk Wm9 Wm5.heap.size 36 (Sm.v ⟨⟨4, 17, ⟨4, 0, 2⟩, ⟨4, 0, 1⟩, 54, 53⟩, 0, 0, 0, 0, 0, 0, false, ⟨0, 0, ⟨0, 0, 0⟩, ⟨0, 0, 0⟩, 0, 0⟩, none, 0, 0⟩) := hWm9 ▸ Bm8.set (Sm.v ⟨⟨4, 17, ⟨4, 0, 2⟩, ⟨4, 0, 1⟩, 54, 53⟩, 0, 0, 0, 0, 0, 0, false, ⟨0, 0, ⟨0, 0, 0⟩, ⟨0, 0, 0⟩, 0, 0⟩, none, 0, 0⟩)
  have Am9 := hWm9 ▸ Am8.other nAB (Sm.v ⟨⟨4, 17, ⟨4, 0, 2⟩, ⟨4, 0, 1⟩, 54, 53⟩, 0, 0, 0, 0, 0, 0, false, ⟨0, 0, ⟨0, 0, 0⟩, ⟨0, 0, 0⟩, 0, 0⟩, none, 0, 0⟩)
  have bm9 := hWm9 ▸ below_setRow bm8 gB (Sm.v ⟨⟨4, 17, ⟨4, 0, 2⟩, ⟨4, 0, 1⟩, 54, 53⟩, 0, 0, 0, 0, 0, 0, false, ⟨0, 0, ⟨0, 0, 0⟩, ⟨0, 0, 0⟩, 0, 0⟩, none, 0, 0⟩)
  go_wp2_with (first | (refine wpList_store_off rfl _ _ _ rfl Wm5.heap.size 0 _ (Wy.v ⟨4, 17, ⟨4, 0, 2⟩, ⟨4, 0, 1⟩, 54, 53⟩) _ (Sm.v ⟨⟨4, 17, ⟨4, 0, 2⟩, ⟨4, 0, 1⟩, 54, 53⟩, 0, 0, 0, 0, 0, 0, false, ⟨0, 0, ⟨0, 0, 0⟩, ⟨0, 0, 0⟩, 0, 0⟩, none, 0, 0⟩) (by rfl) (by rfl) Bm8 (by kernel_rfl) (Nat.le_of_ble_eq_true (by kernel_rfl)) (by kernel_rfl) (setWay_fw (⟨⟨4, 17, ⟨4, 0, 1⟩, ⟨4, 0, 2⟩, 53, 54⟩, 0, 0, 0, 0, 0, 0, false, ⟨0, 0, ⟨0, 0, 0⟩, ⟨0, 0, 0⟩, 0, 0⟩, none, 0, 0⟩) (⟨4, 17, ⟨4, 0, 2⟩, ⟨4, 0, 1⟩, 54, 53⟩)) ?_; rw [hWm9]) | (refine wpList_load_blk_w (by rfl) _ _ rfl Wm2.heap.size (by rfl) _ Am9 Try.underlying33 (by kernel_rfl) ?_) | (refine wpList_load_blk_w (by rfl) _ _ rfl Wm5.heap.size (by rfl) _ Bm9 Try.underlying36 (by kernel_rfl) ?_))
  refine Calls.mono (alG_fw _) ?_
  rintro e Wm10 ⟨rfl, bb⟩
  have Am10 := Am9.kept bb
  have Bm10 := Bm9.kept bb
  have bm10 := bel_tr bm9 bb
  clear bb
  clear Am9 Bm9 bm9
  obtain ⟨Wm11, hWm11⟩ : ∃ W, Wm10.alloc (.cells #[.int .i64 0, .int .i64 0, .int .i64 0, .int .u64 0, .int .u64 0, .int .i64 0, .int .u64 0, .int .u64 0, .int .i64 0, .int .i64 0, .int .i64 0, .int .u32 0, .int .u32 0, .int .u32 0, .int .u32 0, .bool false, .bool false, .bool false, .bool false, .int .i64 0, .int .i64 0, .bool false] 33) = W := ⟨_, rfl⟩
  have bm11 := bel_al bm10 hWm11
  have Am11 := Am10.al hWm11
  have Bm11 := Bm10.al hWm11
  have Cm11 := blk_nw hWm11
  have gC : w.heap.size ≤ Wm10.heap.size := bm10.size
  have nAC : Wm2.heap.size ≠ Wm10.heap.size := by have := Am10.lt; omega
  have nCA : Wm10.heap.size ≠ Wm2.heap.size := fun e => nAC e.symm
  have nBC : Wm5.heap.size ≠ Wm10.heap.size := by have := Bm10.lt; omega
  have nCB : Wm10.heap.size ≠ Wm5.heap.size := fun e => nBC e.symm
  obtain ⟨Wm12, hWm12⟩ : ∃ W, Wm11.setRow Wm10.heap.size flZ.v = W := ⟨_, rfl⟩
  have Cm12 : Blk Wm12 Wm10.heap.size 33 flZ.v := hWm12 ▸ Cm11.set flZ.v
  have Am12 := hWm12 ▸ Am11.other nAC flZ.v
  have Bm12 := hWm12 ▸ Bm11.other nBC flZ.v
  have bm12 := hWm12 ▸ below_setRow bm11 gC flZ.v
  have c13 := Am12.cell 19 (.int .i64 130) rfl
  have c14 := Cm12.cell 19 (.int .i64 290) rfl
  have c15 := Cm12.cell 21 (.bool true) rfl
  go_wp2_with (first | (refine wpList_store_row rfl _ _ _ rfl Wm10.heap.size flZ.v (by rfl) (by rfl) _ _ Cm11 (by kernel_rfl) (by rfl) (by kernel_rfl) ?_; rw [hWm12]) | (refine wpList_load_blk_w (by rfl) _ _ rfl Wm10.heap.size (by rfl) _ Cm12 Try.underlying33 (by kernel_rfl) ?_))
  clear c13 c14 c15
  refine Calls.mono (alR_fw _) ?_
  rintro e Wm16 ⟨rfl, bb⟩
  have Am16 := Am12.kept bb
  have Bm16 := Bm12.kept bb
  have Cm16 := Cm12.kept bb
  have bm16 := bel_tr bm12 bb
  clear bb
  clear Am12 Bm12 Cm12 bm12
  go_wp2_with fail
  go_ret
  exact ⟨retB_fw (by (try rw [← HR.out]) <;> first | rfl | (simp []; done) | (simp []; rfl)), bm16⟩
end Go.Proofs.Ytmjjdbkipagkbaa
