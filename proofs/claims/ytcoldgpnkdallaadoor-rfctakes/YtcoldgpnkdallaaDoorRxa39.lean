/- Texts joined: CkY -/
import Derived.Test.YtcoldgpnkdallaaDoorRxa22
namespace Go.Proofs.YtcoldgpnkdallaaDoor
open Go.RowKit
set_option linter.unusedVariables false
set_option linter.unusedSimpArgs false
/-- What Spot answers. -/
def spotR (k : Ky) (dim : Int) : Pt × Bool := if k.right = true ∧ 0 ≤ dim ∧ dim < 7 then (k.spot dim.toNat, true) else (pt0, false)
set_option maxRecDepth 100000 in
set_option maxHeartbeats 4000000 in
theorem rspot_0 (k : Ky) (w : World) (ho : k.ok) (hr : k.right = true) :
    Calls Tryd.prog 41 #[.agg k.v, .int .i64 0] w fun e w' => e = .returned (.tuple #[.agg (k.spot 0).v, .bool true]) ∧ Below w.heap.size w w' := by
  have K2 := hidW (fun W => rrightKey_any k W ho)
  rw [hr] at K2
  obtain ⟨k1, k2, k3, k4, k5, k6, k7⟩ := Ky.right_all hr
  have K : Hid (∀ W, Calls Tryd.prog 62 #[.int .i64 k.fr] W fun e w' => e = .returned (.agg (k.spot 0).v) ∧ Below W.heap.size W w') := fun W => rnumber_pt k.fr W (by omega)
  clear k1 k2 k3 k4 k5 k6 k7 hr
  generalize k.spot 0 = P at *
  have hs2 : (Tryd.prog.info? 41).map (·.size) = some k.v.size := info_ky k
  obtain ⟨W1, hW1⟩ : ∃ W1, w.alloc (.cells k.v 41) = W1 := ⟨_, rfl⟩
  obtain ⟨W2, hW2⟩ : ∃ W2, W1.alloc (.cells z3 91) = W2 := ⟨_, rfl⟩
  have b1 := bel_nw hW1
  have b2 := bel_al b1 hW2
  have B1' := blk_nw hW1
  have HB1 : Hid (Blk W2 w.heap.size 41 k.v) := B1'.al hW2
  have HB2 : Hid (Blk W2 W1.heap.size 91 z3) := blk_nw hW2
  have gw : w.heap.size ≤ W1.heap.size := Nat.le_of_lt B1'.lt
  clear b1 B1'
  obtain ⟨KV, hKV⟩ : ∃ KV, k.v = KV := ⟨_, rfl⟩
  have hk2 := HB1.out.at_
  rw [hKV] at hs2 hW1 hk2 K2 ⊢
  go_enter Tryd.func41, Tryd.ntmps41
  go_wp2_with (refine wpList_load_at_w rfl _ _ rfl _ 0 (by rfl) _ hk2 Tryd.underlying41 hs2 ?_)
  refine Calls.mono (K2.out _) ?_
  rintro e W3 ⟨rfl, bb⟩
  have b3 := bel_tr b2 bb
  have HB3 : Hid (Blk W3 w.heap.size 41 k.v) := HB1.out.kept bb
  have HB4 : Hid (Blk W3 W1.heap.size 91 z3) := HB2.out.kept bb
  clear bb K2 hW1 hW2 hk2 b2
  have c0 := HB3.out.cell 0 (.int .i64 k.fr) rfl
  go_wp2_with fail
  refine Calls.mono (K.out _) ?_
  rintro e W4 ⟨rfl, bb⟩
  have b4 := bel_tr b3 bb
  have B5 : Blk W4 W1.heap.size 91 z3 := HB4.out.kept bb
  clear bb K b3 c0
  go_wp2_with (refine wpList_st rfl 91 _ _ rfl W1.heap.size P.v z3 (by rfl) (by rfl) B5 (by kernel_rfl) rfl (by kernel_rfl) ?_)
  exact ret_cell_tmp (k := 4) (j := 5) Tryd.f41 (by kernel_rfl) (B5.set _) Tryd.underlying91 (by kernel_rfl) (by rfl) (by rfl) rfl ⟨rfl, below_setRow b4 gw _⟩
set_option maxRecDepth 100000 in
set_option maxHeartbeats 4000000 in
theorem rspot_1 (k : Ky) (w : World) (ho : k.ok) (hr : k.right = true) :
    Calls Tryd.prog 41 #[.agg k.v, .int .i64 1] w fun e w' => e = .returned (.tuple #[.agg (k.spot 1).v, .bool true]) ∧ Below w.heap.size w w' := by
  have K2 := hidW (fun W => rrightKey_any k W ho)
  rw [hr] at K2
  obtain ⟨k1, k2, k3, k4, k5, k6, k7⟩ := Ky.right_all hr
  have K : Hid (∀ W, Calls Tryd.prog 62 #[.int .i64 k.tz] W fun e w' => e = .returned (.agg (k.spot 1).v) ∧ Below W.heap.size W w') := fun W => rnumber_pt k.tz W (by omega)
  clear k1 k2 k3 k4 k5 k6 k7 hr
  generalize k.spot 1 = P at *
  have hs2 : (Tryd.prog.info? 41).map (·.size) = some k.v.size := info_ky k
  obtain ⟨W1, hW1⟩ : ∃ W1, w.alloc (.cells k.v 41) = W1 := ⟨_, rfl⟩
  obtain ⟨W2, hW2⟩ : ∃ W2, W1.alloc (.cells z3 91) = W2 := ⟨_, rfl⟩
  have b1 := bel_nw hW1
  have b2 := bel_al b1 hW2
  have B1' := blk_nw hW1
  have HB1 : Hid (Blk W2 w.heap.size 41 k.v) := B1'.al hW2
  have HB2 : Hid (Blk W2 W1.heap.size 91 z3) := blk_nw hW2
  have gw : w.heap.size ≤ W1.heap.size := Nat.le_of_lt B1'.lt
  clear b1 B1'
  obtain ⟨KV, hKV⟩ : ∃ KV, k.v = KV := ⟨_, rfl⟩
  have hk2 := HB1.out.at_
  rw [hKV] at hs2 hW1 hk2 K2 ⊢
  go_enter Tryd.func41, Tryd.ntmps41
  go_wp2_with (refine wpList_load_at_w rfl _ _ rfl _ 0 (by rfl) _ hk2 Tryd.underlying41 hs2 ?_)
  refine Calls.mono (K2.out _) ?_
  rintro e W3 ⟨rfl, bb⟩
  have b3 := bel_tr b2 bb
  have HB3 : Hid (Blk W3 w.heap.size 41 k.v) := HB1.out.kept bb
  have HB4 : Hid (Blk W3 W1.heap.size 91 z3) := HB2.out.kept bb
  clear bb K2 hW1 hW2 hk2 b2
  have c1 := HB3.out.cell 1 (.int .i64 k.tz) rfl
  go_wp2_with fail
  refine Calls.mono (K.out _) ?_
  rintro e W4 ⟨rfl, bb⟩
  have b4 := bel_tr b3 bb
  have B5 : Blk W4 W1.heap.size 91 z3 := HB4.out.kept bb
  clear bb K b3 c1
  go_wp2_with (refine wpList_st rfl 91 _ _ rfl W1.heap.size P.v z3 (by rfl) (by rfl) B5 (by kernel_rfl) rfl (by kernel_rfl) ?_)
  exact ret_cell_tmp (k := 4) (j := 5) Tryd.f41 (by kernel_rfl) (B5.set _) Tryd.underlying91 (by kernel_rfl) (by rfl) (by rfl) rfl ⟨rfl, below_setRow b4 gw _⟩
set_option maxRecDepth 100000 in
set_option maxHeartbeats 4000000 in
theorem rspot_2 (k : Ky) (w : World) (ho : k.ok) (hr : k.right = true) :
    Calls Tryd.prog 41 #[.agg k.v, .int .i64 2] w fun e w' => e = .returned (.tuple #[.agg (k.spot 2).v, .bool true]) ∧ Below w.heap.size w w' := by
  have K2 := hidW (fun W => rrightKey_any k W ho)
  rw [hr] at K2
  obtain ⟨k1, k2, k3, k4, k5, k6, k7⟩ := Ky.right_all hr
  have K : Hid (∀ W, Calls Tryd.prog 63 #[.agg #[.int .i64 k.s.fam, .int .u64 k.s.hi, .int .u64 k.s.lo]] W fun e w' => e = .returned (.agg (k.spot 2).v) ∧ Below W.heap.size W w') := fun W => raddress_pt k.s W (by have := right_fam k3; omega)
  clear k1 k2 k3 k4 k5 k6 k7 hr
  generalize k.spot 2 = P at *
  have hs2 : (Tryd.prog.info? 41).map (·.size) = some k.v.size := info_ky k
  obtain ⟨W1, hW1⟩ : ∃ W1, w.alloc (.cells k.v 41) = W1 := ⟨_, rfl⟩
  obtain ⟨W2, hW2⟩ : ∃ W2, W1.alloc (.cells z3 91) = W2 := ⟨_, rfl⟩
  have b1 := bel_nw hW1
  have b2 := bel_al b1 hW2
  have B1' := blk_nw hW1
  have HB1 : Hid (Blk W2 w.heap.size 41 k.v) := B1'.al hW2
  have HB2 : Hid (Blk W2 W1.heap.size 91 z3) := blk_nw hW2
  have gw : w.heap.size ≤ W1.heap.size := Nat.le_of_lt B1'.lt
  clear b1 B1'
  obtain ⟨KV, hKV⟩ : ∃ KV, k.v = KV := ⟨_, rfl⟩
  have hk2 := HB1.out.at_
  rw [hKV] at hs2 hW1 hk2 K2 ⊢
  go_enter Tryd.func41, Tryd.ntmps41
  go_wp2_with (refine wpList_load_at_w rfl _ _ rfl _ 0 (by rfl) _ hk2 Tryd.underlying41 hs2 ?_)
  refine Calls.mono (K2.out _) ?_
  rintro e W3 ⟨rfl, bb⟩
  have b3 := bel_tr b2 bb
  have HB3 : Hid (Blk W3 w.heap.size 41 k.v) := HB1.out.kept bb
  have HB4 : Hid (Blk W3 W1.heap.size 91 z3) := HB2.out.kept bb
  clear bb K2 hW1 hW2 hk2 b2
  have c2 := HB3.out.cell 2 (.int .i64 k.s.fam) rfl
  have c3 := HB3.out.cell 3 (.int .u64 k.s.hi) rfl
  have c4 := HB3.out.cell 4 (.int .u64 k.s.lo) rfl
  go_wp2_with fail
  refine Calls.mono (K.out _) ?_
  rintro e W4 ⟨rfl, bb⟩
  have b4 := bel_tr b3 bb
  have B5 : Blk W4 W1.heap.size 91 z3 := HB4.out.kept bb
  clear bb K b3 c2 c3 c4
  go_wp2_with (refine wpList_st rfl 91 _ _ rfl W1.heap.size P.v z3 (by rfl) (by rfl) B5 (by kernel_rfl) rfl (by kernel_rfl) ?_)
  exact ret_cell_tmp (k := 4) (j := 5) Tryd.f41 (by kernel_rfl) (B5.set _) Tryd.underlying91 (by kernel_rfl) (by rfl) (by rfl) rfl ⟨rfl, below_setRow b4 gw _⟩
set_option maxRecDepth 100000 in
set_option maxHeartbeats 4000000 in
theorem rspot_3 (k : Ky) (w : World) (ho : k.ok) (hr : k.right = true) :
    Calls Tryd.prog 41 #[.agg k.v, .int .i64 3] w fun e w' => e = .returned (.tuple #[.agg (k.spot 3).v, .bool true]) ∧ Below w.heap.size w w' := by
  have K2 := hidW (fun W => rrightKey_any k W ho)
  rw [hr] at K2
  obtain ⟨k1, k2, k3, k4, k5, k6, k7⟩ := Ky.right_all hr
  have K : Hid (∀ W, Calls Tryd.prog 63 #[.agg #[.int .i64 k.d.fam, .int .u64 k.d.hi, .int .u64 k.d.lo]] W fun e w' => e = .returned (.agg (k.spot 3).v) ∧ Below W.heap.size W w') := fun W => raddress_pt k.d W (by have := right_fam k4; omega)
  clear k1 k2 k3 k4 k5 k6 k7 hr
  generalize k.spot 3 = P at *
  have hs2 : (Tryd.prog.info? 41).map (·.size) = some k.v.size := info_ky k
  obtain ⟨W1, hW1⟩ : ∃ W1, w.alloc (.cells k.v 41) = W1 := ⟨_, rfl⟩
  obtain ⟨W2, hW2⟩ : ∃ W2, W1.alloc (.cells z3 91) = W2 := ⟨_, rfl⟩
  have b1 := bel_nw hW1
  have b2 := bel_al b1 hW2
  have B1' := blk_nw hW1
  have HB1 : Hid (Blk W2 w.heap.size 41 k.v) := B1'.al hW2
  have HB2 : Hid (Blk W2 W1.heap.size 91 z3) := blk_nw hW2
  have gw : w.heap.size ≤ W1.heap.size := Nat.le_of_lt B1'.lt
  clear b1 B1'
  obtain ⟨KV, hKV⟩ : ∃ KV, k.v = KV := ⟨_, rfl⟩
  have hk2 := HB1.out.at_
  rw [hKV] at hs2 hW1 hk2 K2 ⊢
  go_enter Tryd.func41, Tryd.ntmps41
  go_wp2_with (refine wpList_load_at_w rfl _ _ rfl _ 0 (by rfl) _ hk2 Tryd.underlying41 hs2 ?_)
  refine Calls.mono (K2.out _) ?_
  rintro e W3 ⟨rfl, bb⟩
  have b3 := bel_tr b2 bb
  have HB3 : Hid (Blk W3 w.heap.size 41 k.v) := HB1.out.kept bb
  have HB4 : Hid (Blk W3 W1.heap.size 91 z3) := HB2.out.kept bb
  clear bb K2 hW1 hW2 hk2 b2
  have c5 := HB3.out.cell 5 (.int .i64 k.d.fam) rfl
  have c6 := HB3.out.cell 6 (.int .u64 k.d.hi) rfl
  have c7 := HB3.out.cell 7 (.int .u64 k.d.lo) rfl
  go_wp2_with fail
  refine Calls.mono (K.out _) ?_
  rintro e W4 ⟨rfl, bb⟩
  have b4 := bel_tr b3 bb
  have B5 : Blk W4 W1.heap.size 91 z3 := HB4.out.kept bb
  clear bb K b3 c5 c6 c7
  go_wp2_with (refine wpList_st rfl 91 _ _ rfl W1.heap.size P.v z3 (by rfl) (by rfl) B5 (by kernel_rfl) rfl (by kernel_rfl) ?_)
  exact ret_cell_tmp (k := 4) (j := 5) Tryd.f41 (by kernel_rfl) (B5.set _) Tryd.underlying91 (by kernel_rfl) (by rfl) (by rfl) rfl ⟨rfl, below_setRow b4 gw _⟩
set_option maxRecDepth 100000 in
set_option maxHeartbeats 4000000 in
theorem rspot_4 (k : Ky) (w : World) (ho : k.ok) (hr : k.right = true) :
    Calls Tryd.prog 41 #[.agg k.v, .int .i64 4] w fun e w' => e = .returned (.tuple #[.agg (k.spot 4).v, .bool true]) ∧ Below w.heap.size w w' := by
  have K2 := hidW (fun W => rrightKey_any k W ho)
  rw [hr] at K2
  obtain ⟨k1, k2, k3, k4, k5, k6, k7⟩ := Ky.right_all hr
  have K : Hid (∀ W, Calls Tryd.prog 62 #[.int .i64 k.pr] W fun e w' => e = .returned (.agg (k.spot 4).v) ∧ Below W.heap.size W w') := fun W => rnumber_pt k.pr W (by omega)
  clear k1 k2 k3 k4 k5 k6 k7 hr
  generalize k.spot 4 = P at *
  have hs2 : (Tryd.prog.info? 41).map (·.size) = some k.v.size := info_ky k
  obtain ⟨W1, hW1⟩ : ∃ W1, w.alloc (.cells k.v 41) = W1 := ⟨_, rfl⟩
  obtain ⟨W2, hW2⟩ : ∃ W2, W1.alloc (.cells z3 91) = W2 := ⟨_, rfl⟩
  have b1 := bel_nw hW1
  have b2 := bel_al b1 hW2
  have B1' := blk_nw hW1
  have HB1 : Hid (Blk W2 w.heap.size 41 k.v) := B1'.al hW2
  have HB2 : Hid (Blk W2 W1.heap.size 91 z3) := blk_nw hW2
  have gw : w.heap.size ≤ W1.heap.size := Nat.le_of_lt B1'.lt
  clear b1 B1'
  obtain ⟨KV, hKV⟩ : ∃ KV, k.v = KV := ⟨_, rfl⟩
  have hk2 := HB1.out.at_
  rw [hKV] at hs2 hW1 hk2 K2 ⊢
  go_enter Tryd.func41, Tryd.ntmps41
  go_wp2_with (refine wpList_load_at_w rfl _ _ rfl _ 0 (by rfl) _ hk2 Tryd.underlying41 hs2 ?_)
  refine Calls.mono (K2.out _) ?_
  rintro e W3 ⟨rfl, bb⟩
  have b3 := bel_tr b2 bb
  have HB3 : Hid (Blk W3 w.heap.size 41 k.v) := HB1.out.kept bb
  have HB4 : Hid (Blk W3 W1.heap.size 91 z3) := HB2.out.kept bb
  clear bb K2 hW1 hW2 hk2 b2
  have c8 := HB3.out.cell 8 (.int .i64 k.pr) rfl
  go_wp2_with fail
  refine Calls.mono (K.out _) ?_
  rintro e W4 ⟨rfl, bb⟩
  have b4 := bel_tr b3 bb
  have B5 : Blk W4 W1.heap.size 91 z3 := HB4.out.kept bb
  clear bb K b3 c8
  go_wp2_with (refine wpList_st rfl 91 _ _ rfl W1.heap.size P.v z3 (by rfl) (by rfl) B5 (by kernel_rfl) rfl (by kernel_rfl) ?_)
  exact ret_cell_tmp (k := 4) (j := 5) Tryd.f41 (by kernel_rfl) (B5.set _) Tryd.underlying91 (by kernel_rfl) (by rfl) (by rfl) rfl ⟨rfl, below_setRow b4 gw _⟩
set_option maxRecDepth 100000 in
set_option maxHeartbeats 4000000 in
theorem rspot_5 (k : Ky) (w : World) (ho : k.ok) (hr : k.right = true) :
    Calls Tryd.prog 41 #[.agg k.v, .int .i64 5] w fun e w' => e = .returned (.tuple #[.agg (k.spot 5).v, .bool true]) ∧ Below w.heap.size w w' := by
  have K2 := hidW (fun W => rrightKey_any k W ho)
  rw [hr] at K2
  obtain ⟨k1, k2, k3, k4, k5, k6, k7⟩ := Ky.right_all hr
  have K : Hid (∀ W, Calls Tryd.prog 62 #[.int .i64 k.sp] W fun e w' => e = .returned (.agg (k.spot 5).v) ∧ Below W.heap.size W w') := fun W => rnumber_pt k.sp W (by omega)
  clear k1 k2 k3 k4 k5 k6 k7 hr
  generalize k.spot 5 = P at *
  have hs2 : (Tryd.prog.info? 41).map (·.size) = some k.v.size := info_ky k
  obtain ⟨W1, hW1⟩ : ∃ W1, w.alloc (.cells k.v 41) = W1 := ⟨_, rfl⟩
  obtain ⟨W2, hW2⟩ : ∃ W2, W1.alloc (.cells z3 91) = W2 := ⟨_, rfl⟩
  have b1 := bel_nw hW1
  have b2 := bel_al b1 hW2
  have B1' := blk_nw hW1
  have HB1 : Hid (Blk W2 w.heap.size 41 k.v) := B1'.al hW2
  have HB2 : Hid (Blk W2 W1.heap.size 91 z3) := blk_nw hW2
  have gw : w.heap.size ≤ W1.heap.size := Nat.le_of_lt B1'.lt
  clear b1 B1'
  obtain ⟨KV, hKV⟩ : ∃ KV, k.v = KV := ⟨_, rfl⟩
  have hk2 := HB1.out.at_
  rw [hKV] at hs2 hW1 hk2 K2 ⊢
  go_enter Tryd.func41, Tryd.ntmps41
  go_wp2_with (refine wpList_load_at_w rfl _ _ rfl _ 0 (by rfl) _ hk2 Tryd.underlying41 hs2 ?_)
  refine Calls.mono (K2.out _) ?_
  rintro e W3 ⟨rfl, bb⟩
  have b3 := bel_tr b2 bb
  have HB3 : Hid (Blk W3 w.heap.size 41 k.v) := HB1.out.kept bb
  have HB4 : Hid (Blk W3 W1.heap.size 91 z3) := HB2.out.kept bb
  clear bb K2 hW1 hW2 hk2 b2
  have c9 := HB3.out.cell 9 (.int .i64 k.sp) rfl
  go_wp2_with fail
  refine Calls.mono (K.out _) ?_
  rintro e W4 ⟨rfl, bb⟩
  have b4 := bel_tr b3 bb
  have B5 : Blk W4 W1.heap.size 91 z3 := HB4.out.kept bb
  clear bb K b3 c9
  go_wp2_with (refine wpList_st rfl 91 _ _ rfl W1.heap.size P.v z3 (by rfl) (by rfl) B5 (by kernel_rfl) rfl (by kernel_rfl) ?_)
  exact ret_cell_tmp (k := 4) (j := 5) Tryd.f41 (by kernel_rfl) (B5.set _) Tryd.underlying91 (by kernel_rfl) (by rfl) (by rfl) rfl ⟨rfl, below_setRow b4 gw _⟩
set_option maxRecDepth 100000 in
set_option maxHeartbeats 4000000 in
theorem rspot_6 (k : Ky) (w : World) (ho : k.ok) (hr : k.right = true) :
    Calls Tryd.prog 41 #[.agg k.v, .int .i64 6] w fun e w' => e = .returned (.tuple #[.agg (k.spot 6).v, .bool true]) ∧ Below w.heap.size w w' := by
  have K2 := hidW (fun W => rrightKey_any k W ho)
  rw [hr] at K2
  obtain ⟨k1, k2, k3, k4, k5, k6, k7⟩ := Ky.right_all hr
  have K : Hid (∀ W, Calls Tryd.prog 62 #[.int .i64 k.dp] W fun e w' => e = .returned (.agg (k.spot 6).v) ∧ Below W.heap.size W w') := fun W => rnumber_pt k.dp W (by omega)
  clear k1 k2 k3 k4 k5 k6 k7 hr
  generalize k.spot 6 = P at *
  have hs2 : (Tryd.prog.info? 41).map (·.size) = some k.v.size := info_ky k
  obtain ⟨W1, hW1⟩ : ∃ W1, w.alloc (.cells k.v 41) = W1 := ⟨_, rfl⟩
  obtain ⟨W2, hW2⟩ : ∃ W2, W1.alloc (.cells z3 91) = W2 := ⟨_, rfl⟩
  have b1 := bel_nw hW1
  have b2 := bel_al b1 hW2
  have B1' := blk_nw hW1
  have HB1 : Hid (Blk W2 w.heap.size 41 k.v) := B1'.al hW2
  have HB2 : Hid (Blk W2 W1.heap.size 91 z3) := blk_nw hW2
  have gw : w.heap.size ≤ W1.heap.size := Nat.le_of_lt B1'.lt
  clear b1 B1'
  obtain ⟨KV, hKV⟩ : ∃ KV, k.v = KV := ⟨_, rfl⟩
  have hk2 := HB1.out.at_
  rw [hKV] at hs2 hW1 hk2 K2 ⊢
  go_enter Tryd.func41, Tryd.ntmps41
  go_wp2_with (refine wpList_load_at_w rfl _ _ rfl _ 0 (by rfl) _ hk2 Tryd.underlying41 hs2 ?_)
  refine Calls.mono (K2.out _) ?_
  rintro e W3 ⟨rfl, bb⟩
  have b3 := bel_tr b2 bb
  have HB3 : Hid (Blk W3 w.heap.size 41 k.v) := HB1.out.kept bb
  have HB4 : Hid (Blk W3 W1.heap.size 91 z3) := HB2.out.kept bb
  clear bb K2 hW1 hW2 hk2 b2
  have c10 := HB3.out.cell 10 (.int .i64 k.dp) rfl
  go_wp2_with fail
  refine Calls.mono (K.out _) ?_
  rintro e W4 ⟨rfl, bb⟩
  have b4 := bel_tr b3 bb
  have B5 : Blk W4 W1.heap.size 91 z3 := HB4.out.kept bb
  clear bb K b3 c10
  go_wp2_with (refine wpList_st rfl 91 _ _ rfl W1.heap.size P.v z3 (by rfl) (by rfl) B5 (by kernel_rfl) rfl (by kernel_rfl) ?_)
  exact ret_cell_tmp (k := 4) (j := 5) Tryd.f41 (by kernel_rfl) (B5.set _) Tryd.underlying91 (by kernel_rfl) (by rfl) (by rfl) rfl ⟨rfl, below_setRow b4 gw _⟩
set_option maxRecDepth 100000 in
set_option maxHeartbeats 4000000 in
theorem rspot_not (k : Ky) (dim : Int) (w : World) (ho : k.ok) (h : k.right = false ∨ (dim < 0 ∨ 7 ≤ dim)) :
    Calls Tryd.prog 41 #[.agg k.v, .int .i64 dim] w fun e w' => e = .returned (.tuple #[.agg z3, .bool false]) ∧ Below w.heap.size w w' := by
  have K2 := hidW (fun W => rrightKey_any k W ho)
  have hs2 : (Tryd.prog.info? 41).map (·.size) = some k.v.size := info_ky k
  obtain ⟨W1, hW1⟩ : ∃ W1, w.alloc (.cells k.v 41) = W1 := ⟨_, rfl⟩
  obtain ⟨W2, hW2⟩ : ∃ W2, W1.alloc (.cells z3 91) = W2 := ⟨_, rfl⟩
  have b1 := bel_nw hW1
  have b2 := bel_al b1 hW2
  have B1' := blk_nw hW1
  have HB1 : Hid (Blk W2 w.heap.size 41 k.v) := B1'.al hW2
  have HB2 : Hid (Blk W2 W1.heap.size 91 z3) := blk_nw hW2
  have gw : w.heap.size ≤ W1.heap.size := Nat.le_of_lt B1'.lt
  clear b1 B1'
  obtain ⟨KV, hKV⟩ : ∃ KV, k.v = KV := ⟨_, rfl⟩
  have hk2 := HB1.out.at_
  rw [hKV] at hs2 hW1 hk2 K2 ⊢
  go_enter Tryd.func41, Tryd.ntmps41
  go_wp2_with (refine wpList_load_at_w rfl _ _ rfl _ 0 (by rfl) _ hk2 Tryd.underlying41 hs2 ?_)
  refine Calls.mono (K2.out _) ?_
  rintro e W3 ⟨rfl, bb⟩
  have b3 := bel_tr b2 bb
  have B4 : Blk W3 W1.heap.size 91 z3 := HB2.out.kept bb
  clear bb K2 hW1 hW2 hk2 b2
  cases hr : k.right with
  | false =>
    go_wp2_with (refine wpList_st rfl 91 _ _ rfl W1.heap.size z3 z3 (by rfl) (by rfl) B4 (by kernel_rfl) rfl (by kernel_rfl) ?_)
    exact ret_cell_tmp (k := 4) (j := 5) Tryd.f41 (by kernel_rfl) (B4.set _) Tryd.underlying91 (by kernel_rfl) (by rfl) (by rfl) rfl ⟨rfl, below_setRow b3 gw _⟩
  | true =>
    have hd : dim < 0 ∨ 7 ≤ dim := by
      rcases h with h | h
      · rw [hr] at h; cases h
      · exact h
    have n0 : (dim == 0) = false := by rw [beq_eq_false_iff_ne]; omega
    have n1 : (dim == 1) = false := by rw [beq_eq_false_iff_ne]; omega
    have n2 : (dim == 2) = false := by rw [beq_eq_false_iff_ne]; omega
    have n3 : (dim == 3) = false := by rw [beq_eq_false_iff_ne]; omega
    have n4 : (dim == 4) = false := by rw [beq_eq_false_iff_ne]; omega
    have n5 : (dim == 5) = false := by rw [beq_eq_false_iff_ne]; omega
    have n6 : (dim == 6) = false := by rw [beq_eq_false_iff_ne]; omega
    clear h hd
    go_wp2_with (refine wpList_st rfl 91 _ _ rfl W1.heap.size z3 z3 (by rfl) (by rfl) B4 (by kernel_rfl) rfl (by kernel_rfl) ?_)
    exact ret_cell_tmp (k := 4) (j := 5) Tryd.f41 (by kernel_rfl) (B4.set _) Tryd.underlying91 (by kernel_rfl) (by rfl) (by rfl) rfl ⟨rfl, below_setRow b3 gw _⟩
theorem rspot_ck (k : Ky) (dim : Int) (w : World) (ho : k.ok) :
    Calls Tryd.prog 41 #[.agg k.v, .int .i64 dim] w fun e w' => e = .returned (.tuple #[.agg (spotR k dim).1.v, .bool (spotR k dim).2]) ∧ Below w.heap.size w w' := by
  by_cases h : k.right = true ∧ 0 ≤ dim ∧ dim < 7
  · unfold spotR
    rw [if_pos h]
    obtain ⟨hr, h1, h2⟩ := h
    obtain ⟨d, rfl⟩ : ∃ d : Nat, dim = (d : Int) := ⟨dim.toNat, by omega⟩
    rw [Int.toNat_natCast]
    match d, (show d < 7 by omega) with
    | 0, _ => exact rspot_0 k w ho hr
    | 1, _ => exact rspot_1 k w ho hr
    | 2, _ => exact rspot_2 k w ho hr
    | 3, _ => exact rspot_3 k w ho hr
    | 4, _ => exact rspot_4 k w ho hr
    | 5, _ => exact rspot_5 k w ho hr
    | 6, _ => exact rspot_6 k w ho hr
  · unfold spotR
    rw [if_neg h]
    refine rspot_not k dim w ho ?_
    cases hr : k.right with
    | false => exact .inl rfl
    | true => exact .inr (by have : ¬ (0 ≤ dim ∧ dim < 7) := fun x => h ⟨hr, x⟩; omega)
end Go.Proofs.YtcoldgpnkdallaaDoor
