/- Texts joined: CkX -/
import Derived.Test.YtgppfkbapieneaaDoorChx17
namespace Go.Proofs.YtgppfkbapieneaaDoor
open Go.RowKit
set_option linter.unusedVariables false
set_option linter.unusedSimpArgs false
set_option maxRecDepth 100000 in
set_option maxHeartbeats 4000000 in
theorem raddress_pt (a : Ad) (w : World) (h : 0 ≤ a.fam ∧ a.fam ≤ 18446744073709551615) : Calls Tryd.prog 43 #[.agg #[.int .i64 a.fam, .int .u64 a.hi, .int .u64 a.lo]] w fun e w' => e = .returned (.agg (ptAd a).v) ∧ Below w.heap.size w w' := by
  have hw := wrapU h
  go_enter Tryd.func43, Tryd.ntmps43
  go_wp2
  exact ret_cell (k := 2) (g := w.heap.size + 1) Tryd.f43 (by kernel_rfl) (blk1 w _ (ptAd a).v 42) Tryd.underlying42 (by kernel_rfl) (by rfl) rfl ⟨rfl, bel_al (bel_nw rfl) rfl⟩
set_option maxRecDepth 100000 in
set_option maxHeartbeats 4000000 in
theorem spot_0 (k : Ky) (w : World) (hr : k.right = true) :
    Calls Tryd.prog 40 #[.agg k.v, .int .i64 0] w fun e w' => e = .returned (.agg (k.spot 0).v) ∧ Below w.heap.size w w' := by
  obtain ⟨k1, k2, k3, k4, k5, k6, k7⟩ := Ky.right_all hr
  have K : Hid (∀ W, Calls Tryd.prog 68 #[.int .i64 k.fr] W fun e w' => e = .returned (.agg (k.spot 0).v) ∧ Below W.heap.size W w') := fun W => number_pt k.fr W (by omega)
  clear k1 k2 k3 k4 k5 k6 k7 hr
  generalize k.spot 0 = P at *
  obtain ⟨W1, hW1⟩ : ∃ W1, w.alloc (.cells k.v 40) = W1 := ⟨_, rfl⟩
  obtain ⟨W2, hW2⟩ : ∃ W2, W1.alloc (.cells z3 42) = W2 := ⟨_, rfl⟩
  have b1 := bel_nw hW1
  have b2 := bel_al b1 hW2
  have B1' := blk_nw hW1
  have B1 := B1'.al hW2
  have B2 := blk_nw hW2
  have gw : w.heap.size ≤ W1.heap.size := Nat.le_of_lt B1'.lt
  have c0 := B1.cell 0 (.int .i64 k.fr) rfl
  clear B1' b1 B1
  generalize k.v = RV at *
  go_enter Tryd.func40, Tryd.ntmps40
  go_wp2_with fail
  refine (K.out _).mono ?_
  rintro e' W3 ⟨rfl, bb⟩
  have B3 := B2.kept bb
  have b3 := bel_tr b2 bb
  clear K bb B2 hW1 hW2 b2 c0
  go_wp2_with (refine wpList_st rfl 42 _ _ rfl W1.heap.size P.v z3 (by rfl) (by rfl) B3 (by kernel_rfl) rfl (by kernel_rfl) ?_)
  exact ret_cell (k := 4) Tryd.f40 (by kernel_rfl) (B3.set _) Tryd.underlying42 (by kernel_rfl) (by rfl) rfl ⟨rfl, below_setRow b3 gw _⟩
set_option maxRecDepth 100000 in
set_option maxHeartbeats 4000000 in
theorem spot_1 (k : Ky) (w : World) (hr : k.right = true) :
    Calls Tryd.prog 40 #[.agg k.v, .int .i64 1] w fun e w' => e = .returned (.agg (k.spot 1).v) ∧ Below w.heap.size w w' := by
  obtain ⟨k1, k2, k3, k4, k5, k6, k7⟩ := Ky.right_all hr
  have K : Hid (∀ W, Calls Tryd.prog 68 #[.int .i64 k.tz] W fun e w' => e = .returned (.agg (k.spot 1).v) ∧ Below W.heap.size W w') := fun W => number_pt k.tz W (by omega)
  clear k1 k2 k3 k4 k5 k6 k7 hr
  generalize k.spot 1 = P at *
  obtain ⟨W1, hW1⟩ : ∃ W1, w.alloc (.cells k.v 40) = W1 := ⟨_, rfl⟩
  obtain ⟨W2, hW2⟩ : ∃ W2, W1.alloc (.cells z3 42) = W2 := ⟨_, rfl⟩
  have b1 := bel_nw hW1
  have b2 := bel_al b1 hW2
  have B1' := blk_nw hW1
  have B1 := B1'.al hW2
  have B2 := blk_nw hW2
  have gw : w.heap.size ≤ W1.heap.size := Nat.le_of_lt B1'.lt
  have c1 := B1.cell 1 (.int .i64 k.tz) rfl
  clear B1' b1 B1
  generalize k.v = RV at *
  go_enter Tryd.func40, Tryd.ntmps40
  go_wp2_with fail
  refine (K.out _).mono ?_
  rintro e' W3 ⟨rfl, bb⟩
  have B3 := B2.kept bb
  have b3 := bel_tr b2 bb
  clear K bb B2 hW1 hW2 b2 c1
  go_wp2_with (refine wpList_st rfl 42 _ _ rfl W1.heap.size P.v z3 (by rfl) (by rfl) B3 (by kernel_rfl) rfl (by kernel_rfl) ?_)
  exact ret_cell (k := 4) Tryd.f40 (by kernel_rfl) (B3.set _) Tryd.underlying42 (by kernel_rfl) (by rfl) rfl ⟨rfl, below_setRow b3 gw _⟩
set_option maxRecDepth 100000 in
set_option maxHeartbeats 4000000 in
theorem spot_2 (k : Ky) (w : World) (hr : k.right = true) :
    Calls Tryd.prog 40 #[.agg k.v, .int .i64 2] w fun e w' => e = .returned (.agg (k.spot 2).v) ∧ Below w.heap.size w w' := by
  obtain ⟨k1, k2, k3, k4, k5, k6, k7⟩ := Ky.right_all hr
  have K : Hid (∀ W, Calls Tryd.prog 69 #[.agg #[.int .i64 k.s.fam, .int .u64 k.s.hi, .int .u64 k.s.lo]] W fun e w' => e = .returned (.agg (k.spot 2).v) ∧ Below W.heap.size W w') := fun W => address_pt k.s W (by have := right_fam k3; omega)
  clear k1 k2 k3 k4 k5 k6 k7 hr
  generalize k.spot 2 = P at *
  obtain ⟨W1, hW1⟩ : ∃ W1, w.alloc (.cells k.v 40) = W1 := ⟨_, rfl⟩
  obtain ⟨W2, hW2⟩ : ∃ W2, W1.alloc (.cells z3 42) = W2 := ⟨_, rfl⟩
  have b1 := bel_nw hW1
  have b2 := bel_al b1 hW2
  have B1' := blk_nw hW1
  have B1 := B1'.al hW2
  have B2 := blk_nw hW2
  have gw : w.heap.size ≤ W1.heap.size := Nat.le_of_lt B1'.lt
  have c2 := B1.cell 2 (.int .i64 k.s.fam) rfl
  have c3 := B1.cell 3 (.int .u64 k.s.hi) rfl
  have c4 := B1.cell 4 (.int .u64 k.s.lo) rfl
  clear B1' b1 B1
  generalize k.v = RV at *
  go_enter Tryd.func40, Tryd.ntmps40
  go_wp2_with fail
  refine (K.out _).mono ?_
  rintro e' W3 ⟨rfl, bb⟩
  have B3 := B2.kept bb
  have b3 := bel_tr b2 bb
  clear K bb B2 hW1 hW2 b2 c2 c3 c4
  go_wp2_with (refine wpList_st rfl 42 _ _ rfl W1.heap.size P.v z3 (by rfl) (by rfl) B3 (by kernel_rfl) rfl (by kernel_rfl) ?_)
  exact ret_cell (k := 4) Tryd.f40 (by kernel_rfl) (B3.set _) Tryd.underlying42 (by kernel_rfl) (by rfl) rfl ⟨rfl, below_setRow b3 gw _⟩
set_option maxRecDepth 100000 in
set_option maxHeartbeats 4000000 in
theorem spot_3 (k : Ky) (w : World) (hr : k.right = true) :
    Calls Tryd.prog 40 #[.agg k.v, .int .i64 3] w fun e w' => e = .returned (.agg (k.spot 3).v) ∧ Below w.heap.size w w' := by
  obtain ⟨k1, k2, k3, k4, k5, k6, k7⟩ := Ky.right_all hr
  have K : Hid (∀ W, Calls Tryd.prog 69 #[.agg #[.int .i64 k.d.fam, .int .u64 k.d.hi, .int .u64 k.d.lo]] W fun e w' => e = .returned (.agg (k.spot 3).v) ∧ Below W.heap.size W w') := fun W => address_pt k.d W (by have := right_fam k4; omega)
  clear k1 k2 k3 k4 k5 k6 k7 hr
  generalize k.spot 3 = P at *
  obtain ⟨W1, hW1⟩ : ∃ W1, w.alloc (.cells k.v 40) = W1 := ⟨_, rfl⟩
  obtain ⟨W2, hW2⟩ : ∃ W2, W1.alloc (.cells z3 42) = W2 := ⟨_, rfl⟩
  have b1 := bel_nw hW1
  have b2 := bel_al b1 hW2
  have B1' := blk_nw hW1
  have B1 := B1'.al hW2
  have B2 := blk_nw hW2
  have gw : w.heap.size ≤ W1.heap.size := Nat.le_of_lt B1'.lt
  have c5 := B1.cell 5 (.int .i64 k.d.fam) rfl
  have c6 := B1.cell 6 (.int .u64 k.d.hi) rfl
  have c7 := B1.cell 7 (.int .u64 k.d.lo) rfl
  clear B1' b1 B1
  generalize k.v = RV at *
  go_enter Tryd.func40, Tryd.ntmps40
  go_wp2_with fail
  refine (K.out _).mono ?_
  rintro e' W3 ⟨rfl, bb⟩
  have B3 := B2.kept bb
  have b3 := bel_tr b2 bb
  clear K bb B2 hW1 hW2 b2 c5 c6 c7
  go_wp2_with (refine wpList_st rfl 42 _ _ rfl W1.heap.size P.v z3 (by rfl) (by rfl) B3 (by kernel_rfl) rfl (by kernel_rfl) ?_)
  exact ret_cell (k := 4) Tryd.f40 (by kernel_rfl) (B3.set _) Tryd.underlying42 (by kernel_rfl) (by rfl) rfl ⟨rfl, below_setRow b3 gw _⟩
set_option maxRecDepth 100000 in
set_option maxHeartbeats 4000000 in
theorem spot_4 (k : Ky) (w : World) (hr : k.right = true) :
    Calls Tryd.prog 40 #[.agg k.v, .int .i64 4] w fun e w' => e = .returned (.agg (k.spot 4).v) ∧ Below w.heap.size w w' := by
  obtain ⟨k1, k2, k3, k4, k5, k6, k7⟩ := Ky.right_all hr
  have K : Hid (∀ W, Calls Tryd.prog 68 #[.int .i64 k.pr] W fun e w' => e = .returned (.agg (k.spot 4).v) ∧ Below W.heap.size W w') := fun W => number_pt k.pr W (by omega)
  clear k1 k2 k3 k4 k5 k6 k7 hr
  generalize k.spot 4 = P at *
  obtain ⟨W1, hW1⟩ : ∃ W1, w.alloc (.cells k.v 40) = W1 := ⟨_, rfl⟩
  obtain ⟨W2, hW2⟩ : ∃ W2, W1.alloc (.cells z3 42) = W2 := ⟨_, rfl⟩
  have b1 := bel_nw hW1
  have b2 := bel_al b1 hW2
  have B1' := blk_nw hW1
  have B1 := B1'.al hW2
  have B2 := blk_nw hW2
  have gw : w.heap.size ≤ W1.heap.size := Nat.le_of_lt B1'.lt
  have c8 := B1.cell 8 (.int .i64 k.pr) rfl
  clear B1' b1 B1
  generalize k.v = RV at *
  go_enter Tryd.func40, Tryd.ntmps40
  go_wp2_with fail
  refine (K.out _).mono ?_
  rintro e' W3 ⟨rfl, bb⟩
  have B3 := B2.kept bb
  have b3 := bel_tr b2 bb
  clear K bb B2 hW1 hW2 b2 c8
  go_wp2_with (refine wpList_st rfl 42 _ _ rfl W1.heap.size P.v z3 (by rfl) (by rfl) B3 (by kernel_rfl) rfl (by kernel_rfl) ?_)
  exact ret_cell (k := 4) Tryd.f40 (by kernel_rfl) (B3.set _) Tryd.underlying42 (by kernel_rfl) (by rfl) rfl ⟨rfl, below_setRow b3 gw _⟩
set_option maxRecDepth 100000 in
set_option maxHeartbeats 4000000 in
theorem spot_5 (k : Ky) (w : World) (hr : k.right = true) :
    Calls Tryd.prog 40 #[.agg k.v, .int .i64 5] w fun e w' => e = .returned (.agg (k.spot 5).v) ∧ Below w.heap.size w w' := by
  obtain ⟨k1, k2, k3, k4, k5, k6, k7⟩ := Ky.right_all hr
  have K : Hid (∀ W, Calls Tryd.prog 68 #[.int .i64 k.sp] W fun e w' => e = .returned (.agg (k.spot 5).v) ∧ Below W.heap.size W w') := fun W => number_pt k.sp W (by omega)
  clear k1 k2 k3 k4 k5 k6 k7 hr
  generalize k.spot 5 = P at *
  obtain ⟨W1, hW1⟩ : ∃ W1, w.alloc (.cells k.v 40) = W1 := ⟨_, rfl⟩
  obtain ⟨W2, hW2⟩ : ∃ W2, W1.alloc (.cells z3 42) = W2 := ⟨_, rfl⟩
  have b1 := bel_nw hW1
  have b2 := bel_al b1 hW2
  have B1' := blk_nw hW1
  have B1 := B1'.al hW2
  have B2 := blk_nw hW2
  have gw : w.heap.size ≤ W1.heap.size := Nat.le_of_lt B1'.lt
  have c9 := B1.cell 9 (.int .i64 k.sp) rfl
  clear B1' b1 B1
  generalize k.v = RV at *
  go_enter Tryd.func40, Tryd.ntmps40
  go_wp2_with fail
  refine (K.out _).mono ?_
  rintro e' W3 ⟨rfl, bb⟩
  have B3 := B2.kept bb
  have b3 := bel_tr b2 bb
  clear K bb B2 hW1 hW2 b2 c9
  go_wp2_with (refine wpList_st rfl 42 _ _ rfl W1.heap.size P.v z3 (by rfl) (by rfl) B3 (by kernel_rfl) rfl (by kernel_rfl) ?_)
  exact ret_cell (k := 4) Tryd.f40 (by kernel_rfl) (B3.set _) Tryd.underlying42 (by kernel_rfl) (by rfl) rfl ⟨rfl, below_setRow b3 gw _⟩
set_option maxRecDepth 100000 in
set_option maxHeartbeats 4000000 in
theorem spot_6 (k : Ky) (w : World) (hr : k.right = true) :
    Calls Tryd.prog 40 #[.agg k.v, .int .i64 6] w fun e w' => e = .returned (.agg (k.spot 6).v) ∧ Below w.heap.size w w' := by
  obtain ⟨k1, k2, k3, k4, k5, k6, k7⟩ := Ky.right_all hr
  have K : Hid (∀ W, Calls Tryd.prog 68 #[.int .i64 k.dp] W fun e w' => e = .returned (.agg (k.spot 6).v) ∧ Below W.heap.size W w') := fun W => number_pt k.dp W (by omega)
  clear k1 k2 k3 k4 k5 k6 k7 hr
  generalize k.spot 6 = P at *
  obtain ⟨W1, hW1⟩ : ∃ W1, w.alloc (.cells k.v 40) = W1 := ⟨_, rfl⟩
  obtain ⟨W2, hW2⟩ : ∃ W2, W1.alloc (.cells z3 42) = W2 := ⟨_, rfl⟩
  have b1 := bel_nw hW1
  have b2 := bel_al b1 hW2
  have B1' := blk_nw hW1
  have B1 := B1'.al hW2
  have B2 := blk_nw hW2
  have gw : w.heap.size ≤ W1.heap.size := Nat.le_of_lt B1'.lt
  have c10 := B1.cell 10 (.int .i64 k.dp) rfl
  clear B1' b1 B1
  generalize k.v = RV at *
  go_enter Tryd.func40, Tryd.ntmps40
  go_wp2_with fail
  refine (K.out _).mono ?_
  rintro e' W3 ⟨rfl, bb⟩
  have B3 := B2.kept bb
  have b3 := bel_tr b2 bb
  clear K bb B2 hW1 hW2 b2 c10
  go_wp2_with (refine wpList_st rfl 42 _ _ rfl W1.heap.size P.v z3 (by rfl) (by rfl) B3 (by kernel_rfl) rfl (by kernel_rfl) ?_)
  exact ret_cell (k := 4) Tryd.f40 (by kernel_rfl) (B3.set _) Tryd.underlying42 (by kernel_rfl) (by rfl) rfl ⟨rfl, below_setRow b3 gw _⟩
theorem spot_any (k : Ky) (d : Nat) (hd : d < 7) (w : World) (hr : k.right = true) :
    Calls Tryd.prog 40 #[.agg k.v, .int .i64 (d : Int)] w fun e w' => e = .returned (.agg (k.spot d).v) ∧ Below w.heap.size w w' := by
  match d, hd with
  | 0, _ => exact spot_0 k w hr
  | 1, _ => exact spot_1 k w hr
  | 2, _ => exact spot_2 k w hr
  | 3, _ => exact spot_3 k w hr
  | 4, _ => exact spot_4 k w hr
  | 5, _ => exact spot_5 k w hr
  | 6, _ => exact spot_6 k w hr
end Go.Proofs.YtgppfkbapieneaaDoor
