/- Texts joined: CkF -/
import Derived.Test.YtcoldgpnkdallaaDoorRxa10
namespace Go.Proofs.YtcoldgpnkdallaaDoor
open Go.RowKit
set_option linter.unusedVariables false
set_option linter.unusedSimpArgs false
set_option maxRecDepth 100000 in
set_option maxHeartbeats 4000000 in
theorem pieceOf_0 (r : Rl) (w : World) (hT : Top w) (ho : r.ok) (hr : r.right = true) :
    Calls Tryd.prog 48 #[.agg r.v, .int .i64 0] w fun e w' => e = .returned (.agg (pcv (r.fst_ 0) (r.lst_ 0))) ∧ Below w.heap.size w w' := by
  obtain ⟨r1, r2, r3, r4, r5, r6, r7⟩ := Rl.right_all hr
  have K : Hid (∀ W, Top W → Calls Tryd.prog 73 #[.int .i64 r.fr, .int .i64 (-1)] W fun e w' => e = .returned (.agg (pcv (r.fst_ 0) (r.lst_ 0))) ∧ Below W.heap.size W w') := fun W T => numberPiece_any r.fr (-1) (r.fst_ 0) (r.lst_ 0) W T (by intro h; omega) (by simp only [Rl.fst_, Rl.any_, Rl.from_, beq_iff_eq]) (by simp only [Rl.lst_, Rl.any_, Rl.upto, beq_iff_eq])
  clear r1 r2 r3 r4 r5 r6 r7 ho hr
  generalize r.fst_ 0 = P1 at *
  generalize r.lst_ 0 = P2 at *
  obtain ⟨W1, hW1⟩ : ∃ W1, w.alloc (.cells r.v 53) = W1 := ⟨_, rfl⟩
  obtain ⟨W2, hW2⟩ : ∃ W2, W1.alloc (.cells z6 101) = W2 := ⟨_, rfl⟩
  have b1 := bel_nw hW1
  have b2 := bel_al b1 hW2
  have B1' := blk_nw hW1
  have B1 := B1'.al hW2
  have B2 := blk_nw hW2
  have gw : w.heap.size ≤ W1.heap.size := Nat.le_of_lt B1'.lt
  have T2 := hT.below b2
  have c0 := B1.cell 0 (.int .i64 r.fr) rfl
  clear B1' b1 hT B1
  generalize r.v = RV at *
  go_enter Tryd.func48, Tryd.ntmps48
  go_wp2_with fail
  refine (K.out _ T2).mono ?_
  rintro e' W3 ⟨rfl, bb⟩
  have B3 := B2.kept bb
  have b3 := bel_tr b2 bb
  clear K bb B2 hW1 hW2 b2 T2 c0
  go_wp2_with (refine wpList_st rfl 101 _ _ rfl W1.heap.size (pcv P1 P2) z6 (by rfl) (by rfl) B3 (by kernel_rfl) rfl (by kernel_rfl) ?_)
  exact ret_cell (k := 4) Tryd.f48 (by kernel_rfl) (B3.set _) Tryd.underlying101 (by kernel_rfl) (by rfl) rfl ⟨rfl, below_setRow b3 gw _⟩
set_option maxRecDepth 100000 in
set_option maxHeartbeats 4000000 in
theorem pieceOf_1 (r : Rl) (w : World) (hT : Top w) (ho : r.ok) (hr : r.right = true) :
    Calls Tryd.prog 48 #[.agg r.v, .int .i64 1] w fun e w' => e = .returned (.agg (pcv (r.fst_ 1) (r.lst_ 1))) ∧ Below w.heap.size w w' := by
  obtain ⟨r1, r2, r3, r4, r5, r6, r7⟩ := Rl.right_all hr
  have K : Hid (∀ W, Top W → Calls Tryd.prog 73 #[.int .i64 r.tz, .int .i64 (-1)] W fun e w' => e = .returned (.agg (pcv (r.fst_ 1) (r.lst_ 1))) ∧ Below W.heap.size W w') := fun W T => numberPiece_any r.tz (-1) (r.fst_ 1) (r.lst_ 1) W T (by intro h; omega) (by simp only [Rl.fst_, Rl.any_, Rl.from_, beq_iff_eq]) (by simp only [Rl.lst_, Rl.any_, Rl.upto, beq_iff_eq])
  clear r1 r2 r3 r4 r5 r6 r7 ho hr
  generalize r.fst_ 1 = P1 at *
  generalize r.lst_ 1 = P2 at *
  obtain ⟨W1, hW1⟩ : ∃ W1, w.alloc (.cells r.v 53) = W1 := ⟨_, rfl⟩
  obtain ⟨W2, hW2⟩ : ∃ W2, W1.alloc (.cells z6 101) = W2 := ⟨_, rfl⟩
  have b1 := bel_nw hW1
  have b2 := bel_al b1 hW2
  have B1' := blk_nw hW1
  have B1 := B1'.al hW2
  have B2 := blk_nw hW2
  have gw : w.heap.size ≤ W1.heap.size := Nat.le_of_lt B1'.lt
  have T2 := hT.below b2
  have c1 := B1.cell 1 (.int .i64 r.tz) rfl
  clear B1' b1 hT B1
  generalize r.v = RV at *
  go_enter Tryd.func48, Tryd.ntmps48
  go_wp2_with fail
  refine (K.out _ T2).mono ?_
  rintro e' W3 ⟨rfl, bb⟩
  have B3 := B2.kept bb
  have b3 := bel_tr b2 bb
  clear K bb B2 hW1 hW2 b2 T2 c1
  go_wp2_with (refine wpList_st rfl 101 _ _ rfl W1.heap.size (pcv P1 P2) z6 (by rfl) (by rfl) B3 (by kernel_rfl) rfl (by kernel_rfl) ?_)
  exact ret_cell (k := 4) Tryd.f48 (by kernel_rfl) (B3.set _) Tryd.underlying101 (by kernel_rfl) (by rfl) rfl ⟨rfl, below_setRow b3 gw _⟩
set_option maxRecDepth 100000 in
set_option maxHeartbeats 4000000 in
theorem pieceOf_2 (r : Rl) (w : World) (hT : Top w) (ho : r.ok) (hr : r.right = true) :
    Calls Tryd.prog 48 #[.agg r.v, .int .i64 2] w fun e w' => e = .returned (.agg (pcv (r.fst_ 2) (r.lst_ 2))) ∧ Below w.heap.size w w' := by
  obtain ⟨r1, r2, r3, r4, r5, r6, r7⟩ := Rl.right_all hr
  have K : Hid (∀ W, Top W → Calls Tryd.prog 74 #[.agg #[.int .i64 r.s.fam, .int .u64 r.s.hi, .int .u64 r.s.lo, .int .i64 r.sn]] W fun e w' => e = .returned (.agg (pcv (r.fst_ 2) (r.lst_ 2))) ∧ Below W.heap.size W w') := fun W T => netPiece_any r.s r.sn W T ho.s r3
  clear r1 r2 r3 r4 r5 r6 r7 ho hr
  generalize r.fst_ 2 = P1 at *
  generalize r.lst_ 2 = P2 at *
  obtain ⟨W1, hW1⟩ : ∃ W1, w.alloc (.cells r.v 53) = W1 := ⟨_, rfl⟩
  obtain ⟨W2, hW2⟩ : ∃ W2, W1.alloc (.cells z6 101) = W2 := ⟨_, rfl⟩
  have b1 := bel_nw hW1
  have b2 := bel_al b1 hW2
  have B1' := blk_nw hW1
  have B1 := B1'.al hW2
  have B2 := blk_nw hW2
  have gw : w.heap.size ≤ W1.heap.size := Nat.le_of_lt B1'.lt
  have T2 := hT.below b2
  have c2 := B1.cell 2 (.int .i64 r.s.fam) rfl
  have c3 := B1.cell 3 (.int .u64 r.s.hi) rfl
  have c4 := B1.cell 4 (.int .u64 r.s.lo) rfl
  have c5 := B1.cell 5 (.int .i64 r.sn) rfl
  clear B1' b1 hT B1
  generalize r.v = RV at *
  go_enter Tryd.func48, Tryd.ntmps48
  go_wp2_with fail
  refine (K.out _ T2).mono ?_
  rintro e' W3 ⟨rfl, bb⟩
  have B3 := B2.kept bb
  have b3 := bel_tr b2 bb
  clear K bb B2 hW1 hW2 b2 T2 c2 c3 c4 c5
  go_wp2_with (refine wpList_st rfl 101 _ _ rfl W1.heap.size (pcv P1 P2) z6 (by rfl) (by rfl) B3 (by kernel_rfl) rfl (by kernel_rfl) ?_)
  exact ret_cell (k := 4) Tryd.f48 (by kernel_rfl) (B3.set _) Tryd.underlying101 (by kernel_rfl) (by rfl) rfl ⟨rfl, below_setRow b3 gw _⟩
set_option maxRecDepth 100000 in
set_option maxHeartbeats 4000000 in
theorem pieceOf_3 (r : Rl) (w : World) (hT : Top w) (ho : r.ok) (hr : r.right = true) :
    Calls Tryd.prog 48 #[.agg r.v, .int .i64 3] w fun e w' => e = .returned (.agg (pcv (r.fst_ 3) (r.lst_ 3))) ∧ Below w.heap.size w w' := by
  obtain ⟨r1, r2, r3, r4, r5, r6, r7⟩ := Rl.right_all hr
  have K : Hid (∀ W, Top W → Calls Tryd.prog 74 #[.agg #[.int .i64 r.d.fam, .int .u64 r.d.hi, .int .u64 r.d.lo, .int .i64 r.dn]] W fun e w' => e = .returned (.agg (pcv (r.fst_ 3) (r.lst_ 3))) ∧ Below W.heap.size W w') := fun W T => netPiece_any r.d r.dn W T ho.d r4
  clear r1 r2 r3 r4 r5 r6 r7 ho hr
  generalize r.fst_ 3 = P1 at *
  generalize r.lst_ 3 = P2 at *
  obtain ⟨W1, hW1⟩ : ∃ W1, w.alloc (.cells r.v 53) = W1 := ⟨_, rfl⟩
  obtain ⟨W2, hW2⟩ : ∃ W2, W1.alloc (.cells z6 101) = W2 := ⟨_, rfl⟩
  have b1 := bel_nw hW1
  have b2 := bel_al b1 hW2
  have B1' := blk_nw hW1
  have B1 := B1'.al hW2
  have B2 := blk_nw hW2
  have gw : w.heap.size ≤ W1.heap.size := Nat.le_of_lt B1'.lt
  have T2 := hT.below b2
  have c6 := B1.cell 6 (.int .i64 r.d.fam) rfl
  have c7 := B1.cell 7 (.int .u64 r.d.hi) rfl
  have c8 := B1.cell 8 (.int .u64 r.d.lo) rfl
  have c9 := B1.cell 9 (.int .i64 r.dn) rfl
  clear B1' b1 hT B1
  generalize r.v = RV at *
  go_enter Tryd.func48, Tryd.ntmps48
  go_wp2_with fail
  refine (K.out _ T2).mono ?_
  rintro e' W3 ⟨rfl, bb⟩
  have B3 := B2.kept bb
  have b3 := bel_tr b2 bb
  clear K bb B2 hW1 hW2 b2 T2 c6 c7 c8 c9
  go_wp2_with (refine wpList_st rfl 101 _ _ rfl W1.heap.size (pcv P1 P2) z6 (by rfl) (by rfl) B3 (by kernel_rfl) rfl (by kernel_rfl) ?_)
  exact ret_cell (k := 4) Tryd.f48 (by kernel_rfl) (B3.set _) Tryd.underlying101 (by kernel_rfl) (by rfl) rfl ⟨rfl, below_setRow b3 gw _⟩
set_option maxRecDepth 100000 in
set_option maxHeartbeats 4000000 in
theorem pieceOf_4 (r : Rl) (w : World) (hT : Top w) (ho : r.ok) (hr : r.right = true) :
    Calls Tryd.prog 48 #[.agg r.v, .int .i64 4] w fun e w' => e = .returned (.agg (pcv (r.fst_ 4) (r.lst_ 4))) ∧ Below w.heap.size w w' := by
  obtain ⟨r1, r2, r3, r4, r5, r6, r7⟩ := Rl.right_all hr
  have K : Hid (∀ W, Top W → Calls Tryd.prog 73 #[.int .i64 r.pr, .int .i64 0] W fun e w' => e = .returned (.agg (pcv (r.fst_ 4) (r.lst_ 4))) ∧ Below W.heap.size W w') := fun W T => numberPiece_any r.pr 0 (r.fst_ 4) (r.lst_ 4) W T (by intro h; omega) (by simp only [Rl.fst_, Rl.any_, Rl.from_, beq_iff_eq]) (by simp only [Rl.lst_, Rl.any_, Rl.upto, beq_iff_eq])
  clear r1 r2 r3 r4 r5 r6 r7 ho hr
  generalize r.fst_ 4 = P1 at *
  generalize r.lst_ 4 = P2 at *
  obtain ⟨W1, hW1⟩ : ∃ W1, w.alloc (.cells r.v 53) = W1 := ⟨_, rfl⟩
  obtain ⟨W2, hW2⟩ : ∃ W2, W1.alloc (.cells z6 101) = W2 := ⟨_, rfl⟩
  have b1 := bel_nw hW1
  have b2 := bel_al b1 hW2
  have B1' := blk_nw hW1
  have B1 := B1'.al hW2
  have B2 := blk_nw hW2
  have gw : w.heap.size ≤ W1.heap.size := Nat.le_of_lt B1'.lt
  have T2 := hT.below b2
  have c10 := B1.cell 10 (.int .i64 r.pr) rfl
  clear B1' b1 hT B1
  generalize r.v = RV at *
  go_enter Tryd.func48, Tryd.ntmps48
  go_wp2_with fail
  refine (K.out _ T2).mono ?_
  rintro e' W3 ⟨rfl, bb⟩
  have B3 := B2.kept bb
  have b3 := bel_tr b2 bb
  clear K bb B2 hW1 hW2 b2 T2 c10
  go_wp2_with (refine wpList_st rfl 101 _ _ rfl W1.heap.size (pcv P1 P2) z6 (by rfl) (by rfl) B3 (by kernel_rfl) rfl (by kernel_rfl) ?_)
  exact ret_cell (k := 4) Tryd.f48 (by kernel_rfl) (B3.set _) Tryd.underlying101 (by kernel_rfl) (by rfl) rfl ⟨rfl, below_setRow b3 gw _⟩
set_option maxRecDepth 100000 in
set_option maxHeartbeats 4000000 in
theorem pieceOf_5 (r : Rl) (w : World) (hT : Top w) (ho : r.ok) (hr : r.right = true) :
    Calls Tryd.prog 48 #[.agg r.v, .int .i64 5] w fun e w' => e = .returned (.agg (pcv (r.fst_ 5) (r.lst_ 5))) ∧ Below w.heap.size w w' := by
  obtain ⟨r1, r2, r3, r4, r5, r6, r7⟩ := Rl.right_all hr
  have K : Hid (∀ W, Top W → Calls Tryd.prog 75 #[.agg #[.int .i64 r.sl, .int .i64 r.sh]] W fun e w' => e = .returned (.agg (pcv (r.fst_ 5) (r.lst_ 5))) ∧ Below W.heap.size W w') := fun W T => portsPiece_any r.sl r.sh W (by omega) (by omega)
  clear r1 r2 r3 r4 r5 r6 r7 ho hr
  generalize r.fst_ 5 = P1 at *
  generalize r.lst_ 5 = P2 at *
  obtain ⟨W1, hW1⟩ : ∃ W1, w.alloc (.cells r.v 53) = W1 := ⟨_, rfl⟩
  obtain ⟨W2, hW2⟩ : ∃ W2, W1.alloc (.cells z6 101) = W2 := ⟨_, rfl⟩
  have b1 := bel_nw hW1
  have b2 := bel_al b1 hW2
  have B1' := blk_nw hW1
  have B1 := B1'.al hW2
  have B2 := blk_nw hW2
  have gw : w.heap.size ≤ W1.heap.size := Nat.le_of_lt B1'.lt
  have T2 := hT.below b2
  have c11 := B1.cell 11 (.int .i64 r.sl) rfl
  have c12 := B1.cell 12 (.int .i64 r.sh) rfl
  clear B1' b1 hT B1
  generalize r.v = RV at *
  go_enter Tryd.func48, Tryd.ntmps48
  go_wp2_with fail
  refine (K.out _ T2).mono ?_
  rintro e' W3 ⟨rfl, bb⟩
  have B3 := B2.kept bb
  have b3 := bel_tr b2 bb
  clear K bb B2 hW1 hW2 b2 T2 c11 c12
  go_wp2_with (refine wpList_st rfl 101 _ _ rfl W1.heap.size (pcv P1 P2) z6 (by rfl) (by rfl) B3 (by kernel_rfl) rfl (by kernel_rfl) ?_)
  exact ret_cell (k := 4) Tryd.f48 (by kernel_rfl) (B3.set _) Tryd.underlying101 (by kernel_rfl) (by rfl) rfl ⟨rfl, below_setRow b3 gw _⟩
set_option maxRecDepth 100000 in
set_option maxHeartbeats 4000000 in
theorem pieceOf_6 (r : Rl) (w : World) (hT : Top w) (ho : r.ok) (hr : r.right = true) :
    Calls Tryd.prog 48 #[.agg r.v, .int .i64 6] w fun e w' => e = .returned (.agg (pcv (r.fst_ 6) (r.lst_ 6))) ∧ Below w.heap.size w w' := by
  obtain ⟨r1, r2, r3, r4, r5, r6, r7⟩ := Rl.right_all hr
  have K : Hid (∀ W, Top W → Calls Tryd.prog 75 #[.agg #[.int .i64 r.dl, .int .i64 r.dh]] W fun e w' => e = .returned (.agg (pcv (r.fst_ 6) (r.lst_ 6))) ∧ Below W.heap.size W w') := fun W T => portsPiece_any r.dl r.dh W (by omega) (by omega)
  clear r1 r2 r3 r4 r5 r6 r7 ho hr
  generalize r.fst_ 6 = P1 at *
  generalize r.lst_ 6 = P2 at *
  obtain ⟨W1, hW1⟩ : ∃ W1, w.alloc (.cells r.v 53) = W1 := ⟨_, rfl⟩
  obtain ⟨W2, hW2⟩ : ∃ W2, W1.alloc (.cells z6 101) = W2 := ⟨_, rfl⟩
  have b1 := bel_nw hW1
  have b2 := bel_al b1 hW2
  have B1' := blk_nw hW1
  have B1 := B1'.al hW2
  have B2 := blk_nw hW2
  have gw : w.heap.size ≤ W1.heap.size := Nat.le_of_lt B1'.lt
  have T2 := hT.below b2
  have c13 := B1.cell 13 (.int .i64 r.dl) rfl
  have c14 := B1.cell 14 (.int .i64 r.dh) rfl
  clear B1' b1 hT B1
  generalize r.v = RV at *
  go_enter Tryd.func48, Tryd.ntmps48
  go_wp2_with fail
  refine (K.out _ T2).mono ?_
  rintro e' W3 ⟨rfl, bb⟩
  have B3 := B2.kept bb
  have b3 := bel_tr b2 bb
  clear K bb B2 hW1 hW2 b2 T2 c13 c14
  go_wp2_with (refine wpList_st rfl 101 _ _ rfl W1.heap.size (pcv P1 P2) z6 (by rfl) (by rfl) B3 (by kernel_rfl) rfl (by kernel_rfl) ?_)
  exact ret_cell (k := 4) Tryd.f48 (by kernel_rfl) (B3.set _) Tryd.underlying101 (by kernel_rfl) (by rfl) rfl ⟨rfl, below_setRow b3 gw _⟩
theorem pieceOf_any (r : Rl) (d : Nat) (hd : d < 7) (w : World) (hT : Top w) (ho : r.ok) (hr : r.right = true) :
    Calls Tryd.prog 48 #[.agg r.v, .int .i64 (d : Int)] w fun e w' => e = .returned (.agg (pcv (r.fst_ d) (r.lst_ d))) ∧ Below w.heap.size w w' := by
  match d, hd with
  | 0, _ => exact pieceOf_0 r w hT ho hr
  | 1, _ => exact pieceOf_1 r w hT ho hr
  | 2, _ => exact pieceOf_2 r w hT ho hr
  | 3, _ => exact pieceOf_3 r w hT ho hr
  | 4, _ => exact pieceOf_4 r w hT ho hr
  | 5, _ => exact pieceOf_5 r w hT ho hr
  | 6, _ => exact pieceOf_6 r w hT ho hr
end Go.Proofs.YtcoldgpnkdallaaDoor
