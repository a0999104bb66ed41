/- Texts joined: FwHB FwI FlowMakesWalk -/
import Derived.Test.YtfiembbmgdmagaaFxm11
namespace Go.Proofs.Ytfiembbmgdmagaa
open Go.RowKit
set_option linter.unusedVariables false
set_option linter.unusedSimpArgs false
set_option maxRecDepth 100000 in
set_option maxHeartbeats 4000000 in
theorem goB_fw (f : Fl) (i : Int) (s : Sm) (now : Int) (w : World) (n0 : (i != 0) = true) (n1 : (i != 1) = true) :
  Calls Try.prog 15 #[.agg f.v, .int .i64 i, .agg s.v, .int .i64 now] w fun e w' => e = .returned (.tuple #[.agg (f.go i s now).1.v, .int .i64 (f.go i s now).2]) ∧ Below w.heap.size w w' := by
 obtain ⟨R, hR⟩ : ∃ R, f.go i s now = R := ⟨_, rfl⟩
 have HR : Hid (f.go i s now = R) := hR
 rw [hR]
 clear hR
 have b := Below.refl w.heap.size w
 go_enter Try.func15, Try.ntmps15
 obtain ⟨Wm1, hWm1⟩ : ∃ W, w.alloc (.cells f.v 33) = W := ⟨_, rfl⟩
 have bm1 := bel_nw hWm1
 have Am1 := blk_nw hWm1
 have gA : w.heap.size ≤ w.heap.size := Nat.le_refl _
 obtain ⟨Wm2, hWm2⟩ : ∃ W, Wm1.alloc (.cells s.v 36) = W := ⟨_, rfl⟩
 have bm2 := bel_al bm1 hWm2
 have Am2 := Am1.al hWm2
 have Bm2 := blk_nw hWm2
 have gB : w.heap.size ≤ Wm1.heap.size := bm1.size
 have nAB : w.heap.size ≠ Wm1.heap.size := by have := Am1.lt; omega
 have nBA : Wm1.heap.size ≠ w.heap.size := fun e => nAB e.symm
 obtain ⟨Wm3, hWm3⟩ : ∃ W, Wm2.alloc (.cells #[.int .i64 0, .int .i64 0, .int .i64 0, .int .u64 0, .int .u64 0, .int .i64 0, .int .u64 0, .int .u64 0, .int .i64 0, .int .i64 0, .int .i64 0, .int .u32 0, .int .u32 0, .int .u32 0, .int .u32 0, .bool false, .bool false, .bool false, .bool false, .int .i64 0, .int .i64 0, .bool false] 33) = W := ⟨_, rfl⟩
 have bm3 := bel_al bm2 hWm3
 have Am3 := Am2.al hWm3
 have Bm3 := Bm2.al hWm3
 have Cm3 := blk_nw hWm3
 have gC : w.heap.size ≤ Wm2.heap.size := bm2.size
 have nAC : w.heap.size ≠ Wm2.heap.size := by have := Am2.lt; omega
 have nCA : Wm2.heap.size ≠ w.heap.size := fun e => nAC e.symm
 have nBC : Wm1.heap.size ≠ Wm2.heap.size := by have := Bm2.lt; omega
 have nCB : Wm2.heap.size ≠ Wm1.heap.size := fun e => nBC e.symm
 go_wp2_with (refine wpList_load_blk_w (by rfl) _ _ rfl w.heap.size (by rfl) _ Am3 Try.underlying33 (by kernel_rfl) ?_)
 refine Calls.mono (right_fw f _) ?_
 rintro e Wm4 ⟨rfl, bb⟩
 have Am4 := Am3.kept bb
 have Bm4 := Bm3.kept bb
 have Cm4 := Cm3.kept bb
 have bm4 := bel_tr bm3 bb
 clear bb
 clear Am3 Bm3 Cm3 bm3
 cases hq5 : (Fl.right f) with
 | false =>
  obtain ⟨Wm6, hWm6⟩ : ∃ W, Wm4.setRow Wm2.heap.size fl0.v = W := ⟨_, rfl⟩
  have Cm6 : Blk Wm6 Wm2.heap.size 33 fl0.v := hWm6 ▸ Cm4.set fl0.v
  have Am6 := hWm6 ▸ Am4.other nAC fl0.v
  have Bm6 := hWm6 ▸ Bm4.other nBC fl0.v
  have bm6 := hWm6 ▸ below_setRow bm4 gC fl0.v
  go_wp2_with (refine wpList_store_row rfl _ _ _ rfl Wm2.heap.size fl0.v (by rfl) (by rfl) _ _ Cm4 (by kernel_rfl) (by rfl) (by kernel_rfl) ?_; rw [hWm6])
  have hR2 : R = ((fl0 : Fl), (1 : Int)) := by rw [← HR.out]; first | rfl | (simp [Fl.go, bne_t_fw n0, bne_t_fw n1, hq5]; done) | (simp [Fl.go, bne_t_fw n0, bne_t_fw n1, hq5]; rfl)
  subst hR2
  exact ret_cell_tmp (k := 8) (j := 9) Try.f15 (by kernel_rfl) Cm6 Try.underlying33 (by kernel_rfl) (by rfl) (by rfl) rfl ⟨rfl, bm6⟩

 | true =>
  obtain ⟨Wm7, hWm7⟩ : ∃ W, Wm4.setRow Wm2.heap.size fl0.v = W := ⟨_, rfl⟩
  have Cm7 : Blk Wm7 Wm2.heap.size 33 fl0.v := hWm7 ▸ Cm4.set fl0.v
  have Am7 := hWm7 ▸ Am4.other nAC fl0.v
  have Bm7 := hWm7 ▸ Bm4.other nBC fl0.v
  have bm7 := hWm7 ▸ below_setRow bm4 gC fl0.v
  go_wp2_with (refine wpList_store_row rfl _ _ _ rfl Wm2.heap.size fl0.v (by rfl) (by rfl) _ _ Cm4 (by kernel_rfl) (by rfl) (by kernel_rfl) ?_; rw [hWm7])
  have hR2 : R = ((fl0 : Fl), (1 : Int)) := by rw [← HR.out]; first | rfl | (simp [Fl.go, bne_t_fw n0, bne_t_fw n1, hq5]; done) | (simp [Fl.go, bne_t_fw n0, bne_t_fw n1, hq5]; rfl)
  subst hR2
  exact ret_cell_tmp (k := 8) (j := 9) Try.f15 (by kernel_rfl) Cm7 Try.underlying33 (by kernel_rfl) (by rfl) (by rfl) rfl ⟨rfl, bm7⟩
theorem go_fw (f : Fl) (i : Int) (s : Sm) (now : Int) (w : World) : Calls Try.prog 15 #[.agg f.v, .int .i64 i, .agg s.v, .int .i64 now] w fun e w' => e = .returned (.tuple #[.agg (f.go i s now).1.v, .int .i64 (f.go i s now).2]) ∧ Below w.heap.size w w' := by
 by_cases h0 : i = 0
 ·subst h0; exact go0_fw f s now w
 by_cases h1 : i = 1
 ·subst h1; exact go1_fw f s now w
 exact goB_fw f i s now w (by simpa using h0) (by simpa using h1)
def sm0 : Sm := ⟨⟨4, 17, ⟨4, 0, 1⟩, ⟨4, 0, 2⟩, 53, 54⟩, 0, 0, 0, 0, 0, 0, false, wy0, none, 0, 0⟩
def sm1 : Sm := ⟨⟨4, 17, ⟨4, 0, 2⟩, ⟨4, 0, 1⟩, 54, 53⟩, 0, 0, 0, 0, 0, 0, false, wy0, none, 0, 0⟩
def flA : Fl := ⟨⟨4, 17, ⟨4, 0, 1⟩, ⟨4, 0, 2⟩, 53, 54⟩, cn0, 130, 0, false⟩
def flZ : Fl := ⟨⟨4, 17, ⟨4, 0, 1⟩, ⟨4, 0, 2⟩, 53, 54⟩, cn0, 290, 0, true⟩
theorem al_s : startF sm0 100 0 = (flA, 0) := by kernel_rfl
theorem al_g : flA.goS true sm1 110 = (flZ, 0) := by kernel_rfl
theorem al_r : flZ.right = true := by kernel_rfl
theorem alS_fw (w : World) : Calls Try.prog 10 #[.agg sm0.v, .int .i64 100, .int .i64 0] w fun e w' => e = .returned (.tuple #[.agg flA.v, .int .i64 0]) ∧ Below w.heap.size w w' := by
 have h := start_fw sm0 100 0 w
 rw [al_s] at h
 exact h
theorem alG_fw (w : World) : Calls Try.prog 15 #[.agg flA.v, .int .i64 1, .agg sm1.v, .int .i64 110] w fun e w' => e = .returned (.tuple #[.agg flZ.v, .int .i64 0]) ∧ Below w.heap.size w w' := by
 have h := go1_fw flA sm1 110 w
 rw [al_g] at h
 exact h
theorem alR_fw (w : World) : Calls Try.prog 12 #[.agg flZ.v] w fun e w' => e = .returned (.bool true) ∧ Below w.heap.size w w' := by
 have h := right_fw flZ w
 rw [al_r] at h
 exact h
theorem alV_fw (w : World) : Calls Try.prog 27 #[.agg (Wy.v ⟨4, 17, ⟨4, 0, 1⟩, ⟨4, 0, 2⟩, 53, 54⟩)] w fun e w' => e = .returned (.agg (Wy.v ⟨4, 17, ⟨4, 0, 2⟩, ⟨4, 0, 1⟩, 54, 53⟩)) ∧ Below w.heap.size w w' := rrev_t _ w
theorem setWay_fw (s : Sm) (x : Wy) : setMany s.v 0 x.v.toList = Sm.v ⟨x, s.fl, s.sq, s.ak, s.win, s.ty, s.co, s.er, s.inn, s.da, s.dn, s.dc⟩ := by kernel_rfl
set_option maxRecDepth 100000 in
set_option maxHeartbeats 4000000 in
theorem small_fw (w : World) :
  Calls Try.prog 42 #[] w fun e w' => e = .returned (.agg sm0.v) ∧ Below w.heap.size w w' := by
 obtain ⟨R, hR⟩ : ∃ R, sm0 = R := ⟨_, rfl⟩
 have HR : Hid (sm0 = R) := hR
 rw [hR]
 clear hR
 have b := Below.refl w.heap.size w
 go_enter Try.func42, Try.ntmps42
 obtain ⟨Wm1, hWm1⟩ : ∃ W, w.alloc (.cells #[.int .i64 0, .int .i64 0, .int .i64 0, .int .u64 0, .int .u64 0, .int .i64 0, .int .u64 0, .int .u64 0, .int .i64 0, .int .i64 0, .int .i64 0, .int .u32 0, .int .u32 0, .int .i64 0, .int .i64 0, .int .i64 0, .bool false, .int .i64 0, .int .i64 0, .int .i64 0, .int .u64 0, .int .u64 0, .int .i64 0, .int .u64 0, .int .u64 0, .int .i64 0, .int .i64 0, .slice none 0 0] 36) = W := ⟨_, rfl⟩
 have bm1 := bel_nw hWm1
 have Am1 := blk_nw hWm1
 have gA : w.heap.size ≤ w.heap.size := Nat.le_refl _
 obtain ⟨Wm2, hWm2⟩ : ∃ W, Wm1.setRow w.heap.size (Sm.v ⟨⟨4, 17, ⟨4, 0, 1⟩, ⟨4, 0, 2⟩, 53, 54⟩, 0, 0, 0, 0, 0, 0, false, ⟨0, 0, ⟨0, 0, 0⟩, ⟨0, 0, 0⟩, 0, 0⟩, none, 0, 0⟩) = W := ⟨_, rfl⟩
 have Am2 : Blk Wm2 w.heap.size 36 (Sm.v ⟨⟨4, 17, ⟨4, 0, 1⟩, ⟨4, 0, 2⟩, 53, 54⟩, 0, 0, 0, 0, 0, 0, false, ⟨0, 0, ⟨0, 0, 0⟩, ⟨0, 0, 0⟩, 0, 0⟩, none, 0, 0⟩) := hWm2 ▸ Am1.set (Sm.v ⟨⟨4, 17, ⟨4, 0, 1⟩, ⟨4, 0, 2⟩, 53, 54⟩, 0, 0, 0, 0, 0, 0, false, ⟨0, 0, ⟨0, 0, 0⟩, ⟨0, 0, 0⟩, 0, 0⟩, none, 0, 0⟩)
 have bm2 := hWm2 ▸ below_setRow bm1 gA (Sm.v ⟨⟨4, 17, ⟨4, 0, 1⟩, ⟨4, 0, 2⟩, 53, 54⟩, 0, 0, 0, 0, 0, 0, false, ⟨0, 0, ⟨0, 0, 0⟩, ⟨0, 0, 0⟩, 0, 0⟩, none, 0, 0⟩)
 go_wp2_with (refine wpList_store_row rfl _ _ _ rfl w.heap.size (Sm.v ⟨⟨4, 17, ⟨4, 0, 1⟩, ⟨4, 0, 2⟩, 53, 54⟩, 0, 0, 0, 0, 0, 0, false, ⟨0, 0, ⟨0, 0, 0⟩, ⟨0, 0, 0⟩, 0, 0⟩, none, 0, 0⟩) (by rfl) (by rfl) _ _ Am1 (by kernel_rfl) (by rfl) (by kernel_rfl) ?_; rw [hWm2])
 have hR2 : R = (⟨⟨4, 17, ⟨4, 0, 1⟩, ⟨4, 0, 2⟩, 53, 54⟩, 0, 0, 0, 0, 0, 0, false, ⟨0, 0, ⟨0, 0, 0⟩, ⟨0, 0, 0⟩, 0, 0⟩, none, 0, 0⟩ : Sm) := by (try rw [← HR.out]) <;> first | rfl | (simp [sm0]; done) | (simp [sm0]; rfl)
 subst hR2
 exact ret_cell (k := 0) Try.f42 (by kernel_rfl) Am2 Try.underlying36 (by kernel_rfl) (by rfl) rfl ⟨rfl, bm2⟩
set_option maxRecDepth 100000 in
set_option maxHeartbeats 4000000 in
theorem alive_fw (w : World) :
  Calls Try.prog 14 #[] w fun e w' => e = .returned (.bool true) ∧ Below w.heap.size w w' := by
 obtain ⟨R, hR⟩ : ∃ R, true = R := ⟨_, rfl⟩
 have HR : Hid (true = R) := hR
 rw [hR]
 clear hR
 have b := Below.refl w.heap.size w
 go_enter Try.func14, Try.ntmps14
 go_wp2_with fail
 refine Calls.mono (small_fw _) ?_
 rintro e Wm1 ⟨rfl, bb⟩
 have bm1 := bb
 go_wp2_with fail
 refine Calls.mono (alS_fw _) ?_
 rintro e Wm2 ⟨rfl, bb⟩
 have bm2 := bel_tr bm1 bb
 clear bb
 clear  bm1
 obtain ⟨Wm3, hWm3⟩ : ∃ W, Wm2.alloc (.cells #[.int .i64 0, .int .i64 0, .int .i64 0, .int .u64 0, .int .u64 0, .int .i64 0, .int .u64 0, .int .u64 0, .int .i64 0, .int .i64 0, .int .i64 0, .int .u32 0, .int .u32 0, .int .u32 0, .int .u32 0, .bool false, .bool false, .bool false, .bool false, .int .i64 0, .int .i64 0, .bool false] 33) = W := ⟨_, rfl⟩
 have bm3 := bel_al bm2 hWm3
 have Am3 := blk_nw hWm3
 have gA : w.heap.size ≤ Wm2.heap.size := bm2.size
 obtain ⟨Wm4, hWm4⟩ : ∃ W, Wm3.setRow Wm2.heap.size flA.v = W := ⟨_, rfl⟩
 have Am4 : Blk Wm4 Wm2.heap.size 33 flA.v := hWm4 ▸ Am3.set flA.v
 have bm4 := hWm4 ▸ below_setRow bm3 gA flA.v
 go_wp2_with (refine wpList_store_row rfl _ _ _ rfl Wm2.heap.size flA.v (by rfl) (by rfl) _ _ Am3 (by kernel_rfl) (by rfl) (by kernel_rfl) ?_; rw [hWm4])
 refine Calls.mono (small_fw _) ?_
 rintro e Wm5 ⟨rfl, bb⟩
 have Am5 := Am4.kept bb
 have bm5 := bel_tr bm4 bb
 clear bb
 clear Am4 bm4
 obtain ⟨Wm6, hWm6⟩ : ∃ W, Wm5.alloc (.cells #[.int .i64 0, .int .i64 0, .int .i64 0, .int .u64 0, .int .u64 0, .int .i64 0, .int .u64 0, .int .u64 0, .int .i64 0, .int .i64 0, .int .i64 0, .int .u32 0, .int .u32 0, .int .i64 0, .int .i64 0, .int .i64 0, .bool false, .int .i64 0, .int .i64 0, .int .i64 0, .int .u64 0, .int .u64 0, .int .i64 0, .int .u64 0, .int .u64 0, .int .i64 0, .int .i64 0, .slice none 0 0] 36) = W := ⟨_, rfl⟩
 have bm6 := bel_al bm5 hWm6
 have Am6 := Am5.al hWm6
 have Bm6 := blk_nw hWm6
 have gB : w.heap.size ≤ Wm5.heap.size := bm5.size
 have nAB : Wm2.heap.size ≠ Wm5.heap.size := by have := Am5.lt; omega
 have nBA : Wm5.heap.size ≠ Wm2.heap.size := fun e => nAB e.symm
 obtain ⟨Wm7, hWm7⟩ : ∃ W, Wm6.setRow Wm5.heap.size sm0.v = W := ⟨_, rfl⟩
 have Bm7 : Blk Wm7 Wm5.heap.size 36 sm0.v := hWm7 ▸ Bm6.set sm0.v
 have Am7 := hWm7 ▸ Am6.other nAB sm0.v
 have bm7 := hWm7 ▸ below_setRow bm6 gB sm0.v
 go_wp2_with (first | (refine wpList_store_row rfl _ _ _ rfl Wm5.heap.size sm0.v (by rfl) (by rfl) _ _ Bm6 (by kernel_rfl) (by rfl) (by kernel_rfl) ?_; rw [hWm7]) | (refine wpList_load_sub_w (by rfl) _ _ rfl Wm5.heap.size 0 _ (by rfl) _ (Wy.v ⟨4, 17, ⟨4, 0, 1⟩, ⟨4, 0, 2⟩, 53, 54⟩) Bm7 (by rfl) Try.underlying26 (by kernel_rfl) ?_))
 refine Calls.mono (alV_fw _) ?_
 rintro e Wm8 ⟨rfl, bb⟩
 have Am8 := Am7.kept bb
 have Bm8 := Bm7.kept bb
 have bm8 := bel_tr bm7 bb
 clear bb
 clear Am7 Bm7 bm7
 obtain ⟨Wm9, hWm9⟩ : ∃ W, Wm8.setRow Wm5.heap.size (Sm.v ⟨⟨4, 17, ⟨4, 0, 2⟩, ⟨4, 0, 1⟩, 54, 53⟩, 0, 0, 0, 0, 0, 0, false, ⟨0, 0, ⟨0, 0, 0⟩, ⟨0, 0, 0⟩, 0, 0⟩, none, 0, 0⟩) = W := ⟨_, rfl⟩
 have Bm9 : Blk Wm9 Wm5.heap.size 36 (Sm.v ⟨⟨4, 17, ⟨4, 0, 2⟩, ⟨4, 0, 1⟩, 54, 53⟩, 0, 0, 0, 0, 0, 0, false, ⟨0, 0, ⟨0, 0, 0⟩, ⟨0, 0, 0⟩, 0, 0⟩, none, 0, 0⟩) := hWm9 ▸ Bm8.set (Sm.v ⟨⟨4, 17, ⟨4, 0, 2⟩, ⟨4, 0, 1⟩, 54, 53⟩, 0, 0, 0, 0, 0, 0, false, ⟨0, 0, ⟨0, 0, 0⟩, ⟨0, 0, 0⟩, 0, 0⟩, none, 0, 0⟩)
 have Am9 := hWm9 ▸ Am8.other nAB (Sm.v ⟨⟨4, 17, ⟨4, 0, 2⟩, ⟨4, 0, 1⟩, 54, 53⟩, 0, 0, 0, 0, 0, 0, false, ⟨0, 0, ⟨0, 0, 0⟩, ⟨0, 0, 0⟩, 0, 0⟩, none, 0, 0⟩)
 have bm9 := hWm9 ▸ below_setRow bm8 gB (Sm.v ⟨⟨4, 17, ⟨4, 0, 2⟩, ⟨4, 0, 1⟩, 54, 53⟩, 0, 0, 0, 0, 0, 0, false, ⟨0, 0, ⟨0, 0, 0⟩, ⟨0, 0, 0⟩, 0, 0⟩, none, 0, 0⟩)
 go_wp2_with (first | (refine wpList_store_off rfl _ _ _ rfl Wm5.heap.size 0 _ (Wy.v ⟨4, 17, ⟨4, 0, 2⟩, ⟨4, 0, 1⟩, 54, 53⟩) _ (Sm.v ⟨⟨4, 17, ⟨4, 0, 2⟩, ⟨4, 0, 1⟩, 54, 53⟩, 0, 0, 0, 0, 0, 0, false, ⟨0, 0, ⟨0, 0, 0⟩, ⟨0, 0, 0⟩, 0, 0⟩, none, 0, 0⟩) (by rfl) (by rfl) Bm8 (by kernel_rfl) (Nat.le_of_ble_eq_true (by kernel_rfl)) (by kernel_rfl) (setWay_fw (⟨⟨4, 17, ⟨4, 0, 1⟩, ⟨4, 0, 2⟩, 53, 54⟩, 0, 0, 0, 0, 0, 0, false, ⟨0, 0, ⟨0, 0, 0⟩, ⟨0, 0, 0⟩, 0, 0⟩, none, 0, 0⟩) (⟨4, 17, ⟨4, 0, 2⟩, ⟨4, 0, 1⟩, 54, 53⟩)) ?_; rw [hWm9]) | (refine wpList_load_blk_w (by rfl) _ _ rfl Wm2.heap.size (by rfl) _ Am9 Try.underlying33 (by kernel_rfl) ?_) | (refine wpList_load_blk_w (by rfl) _ _ rfl Wm5.heap.size (by rfl) _ Bm9 Try.underlying36 (by kernel_rfl) ?_))
 refine Calls.mono (alG_fw _) ?_
 rintro e Wm10 ⟨rfl, bb⟩
 have Am10 := Am9.kept bb
 have Bm10 := Bm9.kept bb
 have bm10 := bel_tr bm9 bb
 clear bb
 clear Am9 Bm9 bm9
 obtain ⟨Wm11, hWm11⟩ : ∃ W, Wm10.alloc (.cells #[.int .i64 0, .int .i64 0, .int .i64 0, .int .u64 0, .int .u64 0, .int .i64 0, .int .u64 0, .int .u64 0, .int .i64 0, .int .i64 0, .int .i64 0, .int .u32 0, .int .u32 0, .int .u32 0, .int .u32 0, .bool false, .bool false, .bool false, .bool false, .int .i64 0, .int .i64 0, .bool false] 33) = W := ⟨_, rfl⟩
 have bm11 := bel_al bm10 hWm11
 have Am11 := Am10.al hWm11
 have Bm11 := Bm10.al hWm11
 have Cm11 := blk_nw hWm11
 have gC : w.heap.size ≤ Wm10.heap.size := bm10.size
 have nAC : Wm2.heap.size ≠ Wm10.heap.size := by have := Am10.lt; omega
 have nCA : Wm10.heap.size ≠ Wm2.heap.size := fun e => nAC e.symm
 have nBC : Wm5.heap.size ≠ Wm10.heap.size := by have := Bm10.lt; omega
 have nCB : Wm10.heap.size ≠ Wm5.heap.size := fun e => nBC e.symm
 obtain ⟨Wm12, hWm12⟩ : ∃ W, Wm11.setRow Wm10.heap.size flZ.v = W := ⟨_, rfl⟩
 have Cm12 : Blk Wm12 Wm10.heap.size 33 flZ.v := hWm12 ▸ Cm11.set flZ.v
 have Am12 := hWm12 ▸ Am11.other nAC flZ.v
 have Bm12 := hWm12 ▸ Bm11.other nBC flZ.v
 have bm12 := hWm12 ▸ below_setRow bm11 gC flZ.v
 have c13 := Am12.cell 19 (.int .i64 130) rfl
 have c14 := Cm12.cell 19 (.int .i64 290) rfl
 have c15 := Cm12.cell 21 (.bool true) rfl
 go_wp2_with (first | (refine wpList_store_row rfl _ _ _ rfl Wm10.heap.size flZ.v (by rfl) (by rfl) _ _ Cm11 (by kernel_rfl) (by rfl) (by kernel_rfl) ?_; rw [hWm12]) | (refine wpList_load_blk_w (by rfl) _ _ rfl Wm10.heap.size (by rfl) _ Cm12 Try.underlying33 (by kernel_rfl) ?_))
 clear c13 c14 c15
 refine Calls.mono (alR_fw _) ?_
 rintro e Wm16 ⟨rfl, bb⟩
 have Am16 := Am12.kept bb
 have Bm16 := Bm12.kept bb
 have Cm16 := Cm12.kept bb
 have bm16 := bel_tr bm12 bb
 clear bb
 clear Am12 Bm12 Cm12 bm12
 go_wp2_with fail
 go_ret
 exact ⟨retB_fw (by (try rw [← HR.out]) <;> first | rfl | (simp []; done) | (simp []; rfl)), bm16⟩
theorem go_right9 {f : Fl} {i : Int} {s : Sm} {now : Int} (h : ((f.go i s now).2 == 0) = true) : (f.go i s now).1.right = true ∧ now < (f.go i s now).1.ends ∧ (f.go i s now).1.w = f.w := by
 have h' : (f.go i s now).2 = 0 := by simpa using h
 unfold Fl.go at h' ⊢
 split
 ·rename_i h0; rw [if_pos h0] at h'; exact goS_right h'
 ·rename_i h0
  rw [if_neg h0] at h'
  split
  ·rename_i h1; rw [if_pos h1] at h'; exact goS_right h'
  ·rename_i h1; rw [if_neg h1] at h'; simp at h'
set_option maxRecDepth 100000 in
set_option maxHeartbeats 8000000 in
theorem flowMakes_walk (s : Sm) (la : Option Addr) (lc : Nat) (l : List Sm) (now : Int) (w : World) (hs : s.w.kf) (hlc : l.length ≤ lc) (hcm : lc * 232 ≤ 140737488351232 ∧ (la = none → lc = 0)) (hrow : RowN 28 Sm.v (fun _ q => q.w.kf) w la l) :
  Calls Try.prog 8 #[.agg s.v, .slice la l.length lc, .int .i64 now] w fun e w' => e = .returned (.bool true) ∧ Below w.heap.size w w' := by
 have HRow : Hid (RowN 28 Sm.v (fun _ q => q.w.kf) w la l) := hrow
 obtain ⟨N, hN⟩ : ∃ N, l.length = N := ⟨_, rfl⟩
 have HN : Hid (l.length = N) := hN
 have hNl : N ≤ 140737488355328 := by omega
 rw [hN]
 clear hN hrow hlc hcm
 obtain ⟨R, hR⟩ : ∃ R, true = R := ⟨_, rfl⟩
 have HR : Hid (true = R) := hR
 rw [hR]
 clear hR
 have b := Below.refl w.heap.size w
 go_enter Try.func8, Try.ntmps8
 obtain ⟨Wm1, hWm1⟩ : ∃ W, w.alloc (.cells s.v 36) = W := ⟨_, rfl⟩
 have bm1 := bel_nw hWm1
 have Am1 := blk_nw hWm1
 have gA : w.heap.size ≤ w.heap.size := Nat.le_refl _
 go_wp2_with (refine wpList_load_blk_w (by rfl) _ _ rfl w.heap.size (by rfl) _ Am1 Try.underlying36 (by kernel_rfl) ?_)
 refine Calls.mono (start_fw s now 0 _) ?_
 rintro e Wm2 ⟨rfl, bb⟩
 have Am2 := Am1.kept bb
 have bm2 := bel_tr bm1 bb
 clear bb
 clear Am1 bm1
 cases hq5 : ((startF s now 0).2 != 0) with
 | false =>
  obtain ⟨Wm6, hWm6⟩ : ∃ W, Wm2.alloc (.cells #[.int .i64 0, .int .i64 0, .int .i64 0, .int .u64 0, .int .u64 0, .int .i64 0, .int .u64 0, .int .u64 0, .int .i64 0, .int .i64 0, .int .i64 0, .int .u32 0, .int .u32 0, .int .u32 0, .int .u32 0, .bool false, .bool false, .bool false, .bool false, .int .i64 0, .int .i64 0, .bool false] 33) = W := ⟨_, rfl⟩
  have bm6 := bel_al bm2 hWm6
  have Am6 := Am2.al hWm6
  have Bm6 := blk_nw hWm6
  have gB : w.heap.size ≤ Wm2.heap.size := bm2.size
  have nAB : w.heap.size ≠ Wm2.heap.size := by have := Am2.lt; omega
  have nBA : Wm2.heap.size ≠ w.heap.size := fun e => nAB e.symm
  obtain ⟨Wm7, hWm7⟩ : ∃ W, Wm6.setRow Wm2.heap.size (startF s now 0).1.v = W := ⟨_, rfl⟩
  have Bm7 : Blk Wm7 Wm2.heap.size 33 (startF s now 0).1.v := hWm7 ▸ Bm6.set (startF s now 0).1.v
  have Am7 := hWm7 ▸ Am6.other nAB (startF s now 0).1.v
  have bm7 := hWm7 ▸ below_setRow bm6 gB (startF s now 0).1.v
  go_wp2_with (refine wpList_store_row rfl _ _ _ rfl Wm2.heap.size (startF s now 0).1.v (by rfl) (by rfl) _ _ Bm6 (by kernel_rfl) (by rfl) (by kernel_rfl) ?_; rw [hWm7])
  have HB0 : Hid ((startF s now 0).1.right = true ∧ now < (startF s now 0).1.ends ∧ (startF s now 0).1.w = s.w) := start_right (by simpa using hq5)
  go_loopw [24] (fun i wr => ∃ (j : Nat) (f : Fl), j ≤ N ∧ i = .int .i64 j ∧ Hid (f.right = true ∧ now < f.ends ∧ f.w = s.w) ∧ Blk wr w.heap.size 36 s.v ∧ Blk wr Wm2.heap.size 33 f.v ∧ Below w.heap.size w wr) (fun i _ => N - (intOf i).toNat)
  case atStart => exact ⟨0, (startF s now 0).1, Nat.zero_le _, rfl, HB0, Am7, Bm7, bm7⟩
  case round =>
   obtain ⟨j, f, hj, rfl, hI, Ar, Br, br⟩ := hrel
   obtain ⟨Wr, rfl⟩ : ∃ W, W = wr := ⟨_, rfl⟩
   have in0 : (0 : Int) ≤ (j : Int) := by omega
   have hqr : f.right = true := hI.out.1
   have hqe : decide (f.ends ≤ now) = false := by have := hI.out.2.1; simp; omega
   have hqw : f.w.eqB s.w = true := (Wy.eqB_iff _ _).2 hI.out.2.2
   by_cases hlt : j < N
   ·have ik : (j : Int) < (N : Int) := by omega
    have ik' : decide ((j : Int) < (N : Int)) = true := by simpa using ik
    obtain ⟨q, hq⟩ : ∃ q, l[j]? = some q := ⟨_, List.getElem?_eq_getElem (by rw [HN.out]; exact hlt)⟩
    obtain ⟨p, off, rfl, hcells⟩ := HRow.out.cells j q hq
    have hca := hcells.below br
    clear hcells
    obtain ⟨Wm8, hWm8⟩ : ∃ W, Wr.alloc (.cells #[.int .i64 0, .int .i64 0, .int .i64 0, .int .u64 0, .int .u64 0, .int .i64 0, .int .u64 0, .int .u64 0, .int .i64 0, .int .i64 0, .int .i64 0, .int .u32 0, .int .u32 0, .int .i64 0, .int .i64 0, .int .i64 0, .bool false, .int .i64 0, .int .i64 0, .int .i64 0, .int .u64 0, .int .u64 0, .int .i64 0, .int .u64 0, .int .u64 0, .int .i64 0, .int .i64 0, .slice none 0 0] 36) = W := ⟨_, rfl⟩
    have bm8 := bel_al br hWm8
    have Am8 := Ar.al hWm8
    have Bm8 := Br.al hWm8
    have Cm8 := blk_nw hWm8
    have gC : w.heap.size ≤ Wr.heap.size := br.size
    have nAC : w.heap.size ≠ Wr.heap.size := by have := Ar.lt; omega
    have nCA : Wr.heap.size ≠ w.heap.size := fun e => nAC e.symm
    have nBC : Wm2.heap.size ≠ Wr.heap.size := by have := Br.lt; omega
    have nCB : Wr.heap.size ≠ Wm2.heap.size := fun e => nBC e.symm
    obtain ⟨Wm9, hWm9⟩ : ∃ W, Wm8.setRow Wr.heap.size q.v = W := ⟨_, rfl⟩
    have Cm9 : Blk Wm9 Wr.heap.size 36 q.v := hWm9 ▸ Cm8.set q.v
    have Am9 := hWm9 ▸ Am8.other nAC q.v
    have Bm9 := hWm9 ▸ Bm8.other nBC q.v
    have bm9 := hWm9 ▸ below_setRow bm8 gC q.v
    go_wp2_with (first | (refine wpList_load_at_w (by rfl) _ _ rfl p (off + j * 28) (by rfl) _ hca Try.underlying36 (by kernel_rfl) ?_) | (refine wpList_store_row rfl _ _ _ rfl Wr.heap.size q.v (by rfl) (by rfl) _ _ Cm8 (by kernel_rfl) (by rfl) (by kernel_rfl) ?_; rw [hWm9]) | (refine wpList_load_blk_w (by rfl) _ _ rfl Wm2.heap.size (by rfl) _ Bm9 Try.underlying33 (by kernel_rfl) ?_))
    refine Calls.mono (right_fw f _) ?_
    rintro e Wm10 ⟨rfl, bb⟩
    have Am10 := Am9.kept bb
    have Bm10 := Bm9.kept bb
    have Cm10 := Cm9.kept bb
    have bm10 := bel_tr bm9 bb
    clear bb
    clear Am9 Bm9 Cm9 bm9
    have c11 := Bm10.cell 19 (.int .i64 f.ends) rfl
    have hE12 := neq_way f.w s.w
    go_wp2_with (first | (refine wpList_load_sub_w (by rfl) _ _ rfl Wm2.heap.size 0 _ (by rfl) _ f.w.v Bm10 (by rfl) Try.underlying26 (by kernel_rfl) ?_) | (refine wpList_load_sub_w (by rfl) _ _ rfl w.heap.size 0 _ (by rfl) _ s.w.v Am10 (by rfl) Try.underlying26 (by kernel_rfl) ?_) | (refine wpList_load_blk_w (by rfl) _ _ rfl Wm2.heap.size (by rfl) _ Bm10 Try.underlying33 (by kernel_rfl) ?_) | (refine wpList_load_blk_w (by rfl) _ _ rfl Wr.heap.size (by rfl) _ Cm10 Try.underlying36 (by kernel_rfl) ?_))
    clear c11 hE12
    refine Calls.mono (go_fw f (bits .and .i64 (j : Int) 1) q now _) ?_
    rintro e Wm13 ⟨rfl, bb⟩
    have Am13 := Am10.kept bb
    have Bm13 := Bm10.kept bb
    have Cm13 := Cm10.kept bb
    have bm13 := bel_tr bm10 bb
    clear bb
    clear Am10 Bm10 Cm10 bm10
    cases hq16 : ((Fl.go f (bits .and .i64 (j : Int) 1) q now).2 == 0) with
    | false =>
     obtain ⟨Wm17, hWm17⟩ : ∃ W, Wm13.alloc (.cells #[.int .i64 0, .int .i64 0, .int .i64 0, .int .u64 0, .int .u64 0, .int .i64 0, .int .u64 0, .int .u64 0, .int .i64 0, .int .i64 0, .int .i64 0, .int .u32 0, .int .u32 0, .int .u32 0, .int .u32 0, .bool false, .bool false, .bool false, .bool false, .int .i64 0, .int .i64 0, .bool false] 33) = W := ⟨_, rfl⟩
     have bm17 := bel_al bm13 hWm17
     have Am17 := Am13.al hWm17
     have Bm17 := Bm13.al hWm17
     have Cm17 := Cm13.al hWm17
     have Dm17 := blk_nw hWm17
     have gD : w.heap.size ≤ Wm13.heap.size := bm13.size
     have nAD : w.heap.size ≠ Wm13.heap.size := by have := Am13.lt; omega
     have nDA : Wm13.heap.size ≠ w.heap.size := fun e => nAD e.symm
     have nBD : Wm2.heap.size ≠ Wm13.heap.size := by have := Bm13.lt; omega
     have nDB : Wm13.heap.size ≠ Wm2.heap.size := fun e => nBD e.symm
     have nCD : Wr.heap.size ≠ Wm13.heap.size := by have := Cm13.lt; omega
     have nDC : Wm13.heap.size ≠ Wr.heap.size := fun e => nCD e.symm
     obtain ⟨Wm18, hWm18⟩ : ∃ W, Wm17.setRow Wm13.heap.size (Fl.go f (bits .and .i64 (j : Int) 1) q now).1.v = W := ⟨_, rfl⟩
     have Dm18 : Blk Wm18 Wm13.heap.size 33 (Fl.go f (bits .and .i64 (j : Int) 1) q now).1.v := hWm18 ▸ Dm17.set (Fl.go f (bits .and .i64 (j : Int) 1) q now).1.v
     have Am18 := hWm18 ▸ Am17.other nAD (Fl.go f (bits .and .i64 (j : Int) 1) q now).1.v
     have Bm18 := hWm18 ▸ Bm17.other nBD (Fl.go f (bits .and .i64 (j : Int) 1) q now).1.v
     have Cm18 := hWm18 ▸ Cm17.other nCD (Fl.go f (bits .and .i64 (j : Int) 1) q now).1.v
     have bm18 := hWm18 ▸ below_setRow bm17 gD (Fl.go f (bits .and .i64 (j : Int) 1) q now).1.v
     go_wp2_with (refine wpList_store_row rfl _ _ _ rfl Wm13.heap.size (Fl.go f (bits .and .i64 (j : Int) 1) q now).1.v (by rfl) (by rfl) _ _ Dm17 (by kernel_rfl) (by rfl) (by kernel_rfl) ?_; rw [hWm18])
     exact ⟨⟨j + 1, f, by omega, by go_num, hI, Am18, Bm18, bm18⟩, by simp [intOf]; omega⟩

    | true =>
     obtain ⟨Wm19, hWm19⟩ : ∃ W, Wm13.alloc (.cells #[.int .i64 0, .int .i64 0, .int .i64 0, .int .u64 0, .int .u64 0, .int .i64 0, .int .u64 0, .int .u64 0, .int .i64 0, .int .i64 0, .int .i64 0, .int .u32 0, .int .u32 0, .int .u32 0, .int .u32 0, .bool false, .bool false, .bool false, .bool false, .int .i64 0, .int .i64 0, .bool false] 33) = W := ⟨_, rfl⟩
     have bm19 := bel_al bm13 hWm19
     have Am19 := Am13.al hWm19
     have Bm19 := Bm13.al hWm19
     have Cm19 := Cm13.al hWm19
     have Dm19 := blk_nw hWm19
     have gD : w.heap.size ≤ Wm13.heap.size := bm13.size
     have nAD : w.heap.size ≠ Wm13.heap.size := by have := Am13.lt; omega
     have nDA : Wm13.heap.size ≠ w.heap.size := fun e => nAD e.symm
     have nBD : Wm2.heap.size ≠ Wm13.heap.size := by have := Bm13.lt; omega
     have nDB : Wm13.heap.size ≠ Wm2.heap.size := fun e => nBD e.symm
     have nCD : Wr.heap.size ≠ Wm13.heap.size := by have := Cm13.lt; omega
     have nDC : Wm13.heap.size ≠ Wr.heap.size := fun e => nCD e.symm
     obtain ⟨Wm20, hWm20⟩ : ∃ W, Wm19.setRow Wm13.heap.size (Fl.go f (bits .and .i64 (j : Int) 1) q now).1.v = W := ⟨_, rfl⟩
     have Dm20 : Blk Wm20 Wm13.heap.size 33 (Fl.go f (bits .and .i64 (j : Int) 1) q now).1.v := hWm20 ▸ Dm19.set (Fl.go f (bits .and .i64 (j : Int) 1) q now).1.v
     have Am20 := hWm20 ▸ Am19.other nAD (Fl.go f (bits .and .i64 (j : Int) 1) q now).1.v
     have Bm20 := hWm20 ▸ Bm19.other nBD (Fl.go f (bits .and .i64 (j : Int) 1) q now).1.v
     have Cm20 := hWm20 ▸ Cm19.other nCD (Fl.go f (bits .and .i64 (j : Int) 1) q now).1.v
     have bm20 := hWm20 ▸ below_setRow bm19 gD (Fl.go f (bits .and .i64 (j : Int) 1) q now).1.v
     obtain ⟨Wm21, hWm21⟩ : ∃ W, Wm20.setRow Wm2.heap.size (Fl.go f (bits .and .i64 (j : Int) 1) q now).1.v = W := ⟨_, rfl⟩
     have Bm21 : Blk Wm21 Wm2.heap.size 33 (Fl.go f (bits .and .i64 (j : Int) 1) q now).1.v := hWm21 ▸ Bm20.set (Fl.go f (bits .and .i64 (j : Int) 1) q now).1.v
     have Am21 := hWm21 ▸ Am20.other nAB (Fl.go f (bits .and .i64 (j : Int) 1) q now).1.v
     have Cm21 := hWm21 ▸ Cm20.other nCB (Fl.go f (bits .and .i64 (j : Int) 1) q now).1.v
     have Dm21 := hWm21 ▸ Dm20.other nDB (Fl.go f (bits .and .i64 (j : Int) 1) q now).1.v
     have bm21 := hWm21 ▸ below_setRow bm20 gB (Fl.go f (bits .and .i64 (j : Int) 1) q now).1.v
     go_wp2_with (first | (refine wpList_store_row rfl _ _ _ rfl Wm13.heap.size (Fl.go f (bits .and .i64 (j : Int) 1) q now).1.v (by rfl) (by rfl) _ _ Dm19 (by kernel_rfl) (by rfl) (by kernel_rfl) ?_; rw [hWm20]) | (refine wpList_load_blk_w (by rfl) _ _ rfl Wm13.heap.size (by rfl) _ Dm20 Try.underlying33 (by kernel_rfl) ?_) | (refine wpList_store_row rfl _ _ _ rfl Wm2.heap.size (Fl.go f (bits .and .i64 (j : Int) 1) q now).1.v (by rfl) (by rfl) _ _ Bm20 (by kernel_rfl) (by rfl) (by kernel_rfl) ?_; rw [hWm21]))
     exact ⟨⟨j + 1, (Fl.go f (bits .and .i64 (j : Int) 1) q now).1, by omega, by go_num, (by have h9 := go_right9 (f := f) (now := now) (by assumption); exact ⟨h9.1, h9.2.1, h9.2.2.trans hI.out.2.2⟩), Am21, Bm21, bm21⟩, by simp [intOf]; omega⟩


   ·have ik : ¬ (j : Int) < (N : Int) := by omega
    have ik' : decide ((j : Int) < (N : Int)) = false := by simpa using ik
    go_wp2_with (refine wpList_load_blk_w (by rfl) _ _ rfl Wm2.heap.size (by rfl) _ Br Try.underlying33 (by kernel_rfl) ?_)
    refine Calls.mono (right_fw f _) ?_
    rintro e Wm22 ⟨rfl, bb⟩
    have Am22 := Ar.kept bb
    have Bm22 := Br.kept bb
    have bm22 := bel_tr br bb
    clear bb
    clear Ar Br br
    go_wp2_with fail
    refine Calls.mono (alive_fw _) ?_
    rintro e Wm23 ⟨rfl, bb⟩
    have Am23 := Am22.kept bb
    have Bm23 := Bm22.kept bb
    have bm23 := bel_tr bm22 bb
    clear bb
    clear Am22 Bm22 bm22
    go_wp2_with fail
    go_ret
    exact ⟨retB_fw (by (try rw [← HR.out]) <;> first | rfl | (simp [bne_f_fw hq5]; done) | (simp [bne_f_fw hq5]; rfl)), bm23⟩

 | true =>
  obtain ⟨Wm24, hWm24⟩ : ∃ W, Wm2.alloc (.cells #[.int .i64 0, .int .i64 0, .int .i64 0, .int .u64 0, .int .u64 0, .int .i64 0, .int .u64 0, .int .u64 0, .int .i64 0, .int .i64 0, .int .i64 0, .int .u32 0, .int .u32 0, .int .u32 0, .int .u32 0, .bool false, .bool false, .bool false, .bool false, .int .i64 0, .int .i64 0, .bool false] 33) = W := ⟨_, rfl⟩
  have bm24 := bel_al bm2 hWm24
  have Am24 := Am2.al hWm24
  have Bm24 := blk_nw hWm24
  have gB : w.heap.size ≤ Wm2.heap.size := bm2.size
  have nAB : w.heap.size ≠ Wm2.heap.size := by have := Am2.lt; omega
  have nBA : Wm2.heap.size ≠ w.heap.size := fun e => nAB e.symm
  obtain ⟨Wm25, hWm25⟩ : ∃ W, Wm24.setRow Wm2.heap.size (startF s now 0).1.v = W := ⟨_, rfl⟩
  have Bm25 : Blk Wm25 Wm2.heap.size 33 (startF s now 0).1.v := hWm25 ▸ Bm24.set (startF s now 0).1.v
  have Am25 := hWm25 ▸ Am24.other nAB (startF s now 0).1.v
  have bm25 := hWm25 ▸ below_setRow bm24 gB (startF s now 0).1.v
  go_wp2_with (refine wpList_store_row rfl _ _ _ rfl Wm2.heap.size (startF s now 0).1.v (by rfl) (by rfl) _ _ Bm24 (by kernel_rfl) (by rfl) (by kernel_rfl) ?_; rw [hWm25])
  refine Calls.mono (alive_fw _) ?_
  rintro e Wm26 ⟨rfl, bb⟩
  have Am26 := Am25.kept bb
  have Bm26 := Bm25.kept bb
  have bm26 := bel_tr bm25 bb
  clear bb
  clear Am25 Bm25 bm25
  go_wp2_with fail
  go_ret
  exact ⟨retB_fw (by (try rw [← HR.out]) <;> first | rfl | (simp [bne_t_fw hq5]; done) | (simp [bne_t_fw hq5]; rfl)), bm26⟩
end Go.Proofs.Ytfiembbmgdmagaa
