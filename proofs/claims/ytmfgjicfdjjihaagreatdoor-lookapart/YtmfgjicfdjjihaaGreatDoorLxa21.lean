/- Texts joined: CmF -/
import Derived.Test.YtmfgjicfdjjihaaGreatDoorLxa20
namespace Go.Proofs.YtmfgjicfdjjihaaGreatDoor
open Go.RowKit
set_option linter.unusedVariables false
set_option linter.unusedSimpArgs false
theorem ret_cct {R : Ending → World → Prop} {a : Act} {w : World} {g1 g2 k1 k2 j : Nat} {t : TypeId} {cs1 cs2 : Array Value} {v : Value} (fn : Func) (hf : fn.results = #[.cell k1 t, .cell k2 t, .tmp j]) (h1 : Blk w g1 t cs1) (h2 : Blk w g2 t cs2) {fs : _} (hu : Tryz.prog.underlying t = some (.struct fs)) (hi1 : (Tryz.prog.info? t).map (·.size) = some cs1.size) (hi2 : (Tryz.prog.info? t).map (·.size) = some cs2.size)
  (p1 : a.tmps[k1]?.getD undef = .pointer (some ⟨g1, 0, none⟩)) (p2 : a.tmps[k2]?.getD undef = .pointer (some ⟨g2, 0, none⟩)) (p3 : a.tmps[j]?.getD undef = v) (hdf : a.defers = []) (hR : R (.returned (.tuple #[.agg cs1, .agg cs2, v])) w) : bodyPost Tryz.prog fn R .ret a w := by
 refine bodyPost_ret (v := .tuple #[.agg cs1, .agg cs2, v]) ?_ hdf hR
 have hl1 := load_blk h1 hu hi1
 have hl2 := load_blk h2 hu hi2
 simp [results, hf, p1, p2, p3, asAddr, hl1, hl2, Array.mapM_eq_mapM_toList]
/-- The point of any number. -/
def ptW (n : Int) : Pt := ⟨0, 0, IntKind.u64.wrap n⟩
theorem ptW_eq {n : Int} (h : 0 ≤ n ∧ n ≤ 18446744073709551615) : ptW n = ptNum n := by unfold ptW ptNum; rw [wrapU h]
set_option maxRecDepth 100000 in
set_option maxHeartbeats 4000000 in
theorem rnumber_w (n : Int) (w : World) : Calls Tryz.prog 57 #[.int .i64 n] w fun e w' => e = .returned (.agg (ptW n).v) ∧ Below w.heap.size w w' := by
 go_enter Tryz.func57, Tryz.ntmps57
 go_wp2
 exact ret_cell (k := 2) Tryz.f57 (by kernel_rfl) (blk_new w (ptW n).v 86) Tryz.underlying86 (by kernel_rfl) (by rfl) rfl ⟨rfl, bel_nw rfl⟩
set_option maxRecDepth 100000 in
set_option maxHeartbeats 4000000 in
theorem rlast_zero (w : World) :
  Calls Tryz.prog 100 #[.agg #[.int .i64 0, .int .u64 0, .int .u64 0, .int .i64 0]] w fun e w' => e = .returned (.agg #[.int .i64 0, .int .u64 0, .int .u64 0]) ∧ Below w.heap.size w w' := by
 have KB : Hid (∀ W, Calls Tryz.prog 114 #[.agg #[.int .i64 0, .int .u64 0, .int .u64 0]] W fun e w' => e = .returned (.slice none 0 0) ∧ Below W.heap.size W w') := fun W => rbytes_no 0 0 0 W ⟨by simp only; omega, by simp only; omega, by simp only; omega⟩ (by kernel_rfl)
 have KF : Hid (∀ W, Calls Tryz.prog 115 #[.slice none 0 0] W fun e w' => e = .returned (.tuple #[.agg #[.int .i64 0, .int .u64 0, .int .u64 0], .int .i64 (fromB []).2]) ∧ Below W.heap.size W w') := fun W => rfrom_any none 0 [] W (fresh_nil (Below.refl _ W)).row
 generalize (fromB []).2 = E at *
 obtain ⟨W1, hW1⟩ : ∃ W1, w.alloc (.cells #[.int .i64 0, .int .u64 0, .int .u64 0, .int .i64 0] 78) = W1 := ⟨_, rfl⟩
 obtain ⟨W2, hW2⟩ : ∃ W2, W1.alloc (.cells #[.int .i64 0, .int .u64 0, .int .u64 0] 31) = W2 := ⟨_, rfl⟩
 have b2 := bel_al (bel_nw hW1) hW2
 have B1 := (blk_nw hW1).al hW2
 have B2 := blk_nw hW2
 have g1 : w.heap.size ≤ W1.heap.size := Nat.le_of_lt (blk_nw hW1).lt
 have p0 := B1.cell 0 _ rfl
 have p1 := B1.cell 1 _ rfl
 have p2 := B1.cell 2 _ rfl
 go_enter Tryz.func100, Tryz.ntmps100
 go_wp2_with fail
 refine Calls.mono (KB.out _) ?_
 rintro e W3 ⟨rfl, bb⟩
 have b3 := bel_tr b2 bb
 have B3 : Blk W3 W1.heap.size 31 #[.int .i64 0, .int .u64 0, .int .u64 0] := B2.kept bb
 clear hW1 hW2 p0 p1 p2 b2 B1 B2 bb KB
 go_wp2_with fail
 go_loopw [4] (fun i wr => i = .int .i64 0 ∧ wr = W3) (fun _ _ => 0)
 case atStart => exact ⟨rfl, rfl⟩
 case round =>
  obtain ⟨rfl, rfl⟩ := hrel
  go_wp2_with fail
  refine Calls.mono (KF.out _) ?_
  rintro e W6 ⟨rfl, bb⟩
  have R6 := B3.kept bb
  have b6 := bel_tr b3 bb
  have R7 := R6.alloc (.cells #[.int .i64 0, .int .u64 0, .int .u64 0] 31)
  have b7 := bel_al b6 (W' := W6.alloc (.cells #[.int .i64 0, .int .u64 0, .int .u64 0] 31)) rfl
  go_wp2_with (refine wpList_st rfl 31 _ _ rfl W1.heap.size #[.int .i64 0, .int .u64 0, .int .u64 0] #[.int .i64 0, .int .u64 0, .int .u64 0] (by rfl) (by rfl) R7 (by kernel_rfl) rfl (by kernel_rfl) ?_)
  exact ret_cell (k := 2) Tryz.f100 (by kernel_rfl) (R7.set _) Tryz.underlying31 (by kernel_rfl) (by rfl) rfl ⟨rfl, below_setRow b7 g1 _⟩
set_option maxRecDepth 100000 in
set_option maxHeartbeats 4000000 in
theorem rpiece_0 (r : Rl) (w : World) :
  Calls Tryz.prog 72 #[.agg r.v, .int .i64 0] w fun e w' => e = .returned (.tuple #[.agg (ptW r.fr).v, .agg (ptW r.fr).v, .bool (r.fr == -1)]) ∧ Below w.heap.size w w' := by
 have K : Hid (∀ W, Calls Tryz.prog 57 #[.int .i64 r.fr] W fun e w' => e = .returned (.agg (ptW r.fr).v) ∧ Below W.heap.size W w') := fun W => rnumber_w r.fr W
 generalize ptW r.fr = P at *
 obtain ⟨W1, hW1⟩ : ∃ W1, w.alloc (.cells r.v 82) = W1 := ⟨_, rfl⟩
 obtain ⟨W2, hW2⟩ : ∃ W2, W1.alloc (.cells z3 86) = W2 := ⟨_, rfl⟩
 obtain ⟨W3, hW3⟩ : ∃ W3, W2.alloc (.cells z3 86) = W3 := ⟨_, rfl⟩
 have b1 := bel_nw hW1
 have b2 := bel_al b1 hW2
 have b3 := bel_al b2 hW3
 have B1 := ((blk_nw hW1).al hW2).al hW3
 have B2 := (blk_nw hW2).al hW3
 have B3 := blk_nw hW3
 have g1 : w.heap.size ≤ W1.heap.size := Nat.le_of_lt (blk_nw hW1).lt
 have g2 : W1.heap.size < W2.heap.size := (blk_nw hW2).lt
 have g2' : w.heap.size ≤ W2.heap.size := Nat.le_trans g1 (Nat.le_of_lt g2)
 have g0 : w.heap.size < W1.heap.size := (blk_nw hW1).lt
 have c0 := B1.cell 0 (.int .i64 r.fr) rfl
 clear b1 b2 B1
 obtain ⟨n, hn⟩ : ∃ n, r.fr = n := ⟨_, rfl⟩
 rw [hn] at c0 K ⊢
 generalize r.v = RV at *
 clear hn
 go_enter Tryz.func72, Tryz.ntmps72
 go_wp2_with fail
 refine (K.out _).mono ?_
 rintro e' W4 ⟨rfl, bb⟩
 have B24 := B2.kept bb
 have B34 := B3.kept bb
 have b4 := bel_tr b3 bb
 clear bb B2 B3 b3 hW1 hW2 hW3 c0
 go_wp2_with fail
 refine (K.out _).mono ?_
 rintro e' W5 ⟨rfl, bb⟩
 have B25 := B24.kept bb
 have B35 := B34.kept bb
 have b5 := bel_tr b4 bb
 clear bb B24 B34 b4 K
 go_wp2_with (first
  | (refine wpList_st rfl 86 _ _ rfl W1.heap.size P.v z3 (by rfl) (by rfl) B25 (by kernel_rfl) rfl (by kernel_rfl) ?_)
  | (refine wpList_st rfl 86 _ _ rfl W2.heap.size P.v z3 (by rfl) (by rfl) (B35.other (Nat.ne_of_gt g2) _) (by kernel_rfl) rfl (by kernel_rfl) ?_))
 exact ret_cct (k1 := 4) (k2 := 5) (j := 6) Tryz.f72 (by kernel_rfl) ((B25.set _).other (Nat.ne_of_lt g2) _) ((B35.other (Nat.ne_of_gt g2) _).set _) Tryz.underlying86 (by kernel_rfl) (by kernel_rfl) (by rfl) (by rfl) (by rfl) rfl ⟨rfl, below_setRow (below_setRow b5 g1 _) g2' _⟩
set_option maxRecDepth 100000 in
set_option maxHeartbeats 4000000 in
theorem rpiece_1 (r : Rl) (w : World) :
  Calls Tryz.prog 72 #[.agg r.v, .int .i64 1] w fun e w' => e = .returned (.tuple #[.agg (ptW r.tz).v, .agg (ptW r.tz).v, .bool (r.tz == -1)]) ∧ Below w.heap.size w w' := by
 have K : Hid (∀ W, Calls Tryz.prog 57 #[.int .i64 r.tz] W fun e w' => e = .returned (.agg (ptW r.tz).v) ∧ Below W.heap.size W w') := fun W => rnumber_w r.tz W
 generalize ptW r.tz = P at *
 obtain ⟨W1, hW1⟩ : ∃ W1, w.alloc (.cells r.v 82) = W1 := ⟨_, rfl⟩
 obtain ⟨W2, hW2⟩ : ∃ W2, W1.alloc (.cells z3 86) = W2 := ⟨_, rfl⟩
 obtain ⟨W3, hW3⟩ : ∃ W3, W2.alloc (.cells z3 86) = W3 := ⟨_, rfl⟩
 have b1 := bel_nw hW1
 have b2 := bel_al b1 hW2
 have b3 := bel_al b2 hW3
 have B1 := ((blk_nw hW1).al hW2).al hW3
 have B2 := (blk_nw hW2).al hW3
 have B3 := blk_nw hW3
 have g1 : w.heap.size ≤ W1.heap.size := Nat.le_of_lt (blk_nw hW1).lt
 have g2 : W1.heap.size < W2.heap.size := (blk_nw hW2).lt
 have g2' : w.heap.size ≤ W2.heap.size := Nat.le_trans g1 (Nat.le_of_lt g2)
 have g0 : w.heap.size < W1.heap.size := (blk_nw hW1).lt
 have c0 := B1.cell 1 (.int .i64 r.tz) rfl
 clear b1 b2 B1
 obtain ⟨n, hn⟩ : ∃ n, r.tz = n := ⟨_, rfl⟩
 rw [hn] at c0 K ⊢
 generalize r.v = RV at *
 clear hn
 go_enter Tryz.func72, Tryz.ntmps72
 go_wp2_with fail
 refine (K.out _).mono ?_
 rintro e' W4 ⟨rfl, bb⟩
 have B24 := B2.kept bb
 have B34 := B3.kept bb
 have b4 := bel_tr b3 bb
 clear bb B2 B3 b3 hW1 hW2 hW3 c0
 go_wp2_with fail
 refine (K.out _).mono ?_
 rintro e' W5 ⟨rfl, bb⟩
 have B25 := B24.kept bb
 have B35 := B34.kept bb
 have b5 := bel_tr b4 bb
 clear bb B24 B34 b4 K
 go_wp2_with (first
  | (refine wpList_st rfl 86 _ _ rfl W1.heap.size P.v z3 (by rfl) (by rfl) B25 (by kernel_rfl) rfl (by kernel_rfl) ?_)
  | (refine wpList_st rfl 86 _ _ rfl W2.heap.size P.v z3 (by rfl) (by rfl) (B35.other (Nat.ne_of_gt g2) _) (by kernel_rfl) rfl (by kernel_rfl) ?_))
 exact ret_cct (k1 := 4) (k2 := 5) (j := 6) Tryz.f72 (by kernel_rfl) ((B25.set _).other (Nat.ne_of_lt g2) _) ((B35.other (Nat.ne_of_gt g2) _).set _) Tryz.underlying86 (by kernel_rfl) (by kernel_rfl) (by rfl) (by rfl) (by rfl) rfl ⟨rfl, below_setRow (below_setRow b5 g1 _) g2' _⟩
set_option maxRecDepth 100000 in
set_option maxHeartbeats 4000000 in
theorem rpiece_4 (r : Rl) (w : World) :
  Calls Tryz.prog 72 #[.agg r.v, .int .i64 4] w fun e w' => e = .returned (.tuple #[.agg (ptW r.pr).v, .agg (ptW r.pr).v, .bool (r.pr == 0)]) ∧ Below w.heap.size w w' := by
 have K : Hid (∀ W, Calls Tryz.prog 57 #[.int .i64 r.pr] W fun e w' => e = .returned (.agg (ptW r.pr).v) ∧ Below W.heap.size W w') := fun W => rnumber_w r.pr W
 generalize ptW r.pr = P at *
 obtain ⟨W1, hW1⟩ : ∃ W1, w.alloc (.cells r.v 82) = W1 := ⟨_, rfl⟩
 obtain ⟨W2, hW2⟩ : ∃ W2, W1.alloc (.cells z3 86) = W2 := ⟨_, rfl⟩
 obtain ⟨W3, hW3⟩ : ∃ W3, W2.alloc (.cells z3 86) = W3 := ⟨_, rfl⟩
 have b1 := bel_nw hW1
 have b2 := bel_al b1 hW2
 have b3 := bel_al b2 hW3
 have B1 := ((blk_nw hW1).al hW2).al hW3
 have B2 := (blk_nw hW2).al hW3
 have B3 := blk_nw hW3
 have g1 : w.heap.size ≤ W1.heap.size := Nat.le_of_lt (blk_nw hW1).lt
 have g2 : W1.heap.size < W2.heap.size := (blk_nw hW2).lt
 have g2' : w.heap.size ≤ W2.heap.size := Nat.le_trans g1 (Nat.le_of_lt g2)
 have g0 : w.heap.size < W1.heap.size := (blk_nw hW1).lt
 have c0 := B1.cell 10 (.int .i64 r.pr) rfl
 clear b1 b2 B1
 obtain ⟨n, hn⟩ : ∃ n, r.pr = n := ⟨_, rfl⟩
 rw [hn] at c0 K ⊢
 generalize r.v = RV at *
 clear hn
 go_enter Tryz.func72, Tryz.ntmps72
 go_wp2_with fail
 refine (K.out _).mono ?_
 rintro e' W4 ⟨rfl, bb⟩
 have B24 := B2.kept bb
 have B34 := B3.kept bb
 have b4 := bel_tr b3 bb
 clear bb B2 B3 b3 hW1 hW2 hW3 c0
 go_wp2_with fail
 refine (K.out _).mono ?_
 rintro e' W5 ⟨rfl, bb⟩
 have B25 := B24.kept bb
 have B35 := B34.kept bb
 have b5 := bel_tr b4 bb
 clear bb B24 B34 b4 K
 go_wp2_with (first
  | (refine wpList_st rfl 86 _ _ rfl W1.heap.size P.v z3 (by rfl) (by rfl) B25 (by kernel_rfl) rfl (by kernel_rfl) ?_)
  | (refine wpList_st rfl 86 _ _ rfl W2.heap.size P.v z3 (by rfl) (by rfl) (B35.other (Nat.ne_of_gt g2) _) (by kernel_rfl) rfl (by kernel_rfl) ?_))
 exact ret_cct (k1 := 4) (k2 := 5) (j := 6) Tryz.f72 (by kernel_rfl) ((B25.set _).other (Nat.ne_of_lt g2) _) ((B35.other (Nat.ne_of_gt g2) _).set _) Tryz.underlying86 (by kernel_rfl) (by kernel_rfl) (by rfl) (by rfl) (by rfl) rfl ⟨rfl, below_setRow (below_setRow b5 g1 _) g2' _⟩
set_option maxRecDepth 100000 in
set_option maxHeartbeats 4000000 in
theorem rpiece_5 (r : Rl) (w : World) :
  Calls Tryz.prog 72 #[.agg r.v, .int .i64 5] w fun e w' => e = .returned (.tuple #[.agg (ptW r.sl).v, .agg (ptW r.sh).v, .bool false]) ∧ Below w.heap.size w w' := by
 have K1 : Hid (∀ W, Calls Tryz.prog 57 #[.int .i64 r.sl] W fun e w' => e = .returned (.agg (ptW r.sl).v) ∧ Below W.heap.size W w') := fun W => rnumber_w r.sl W
 have K2 : Hid (∀ W, Calls Tryz.prog 57 #[.int .i64 r.sh] W fun e w' => e = .returned (.agg (ptW r.sh).v) ∧ Below W.heap.size W w') := fun W => rnumber_w r.sh W
 generalize ptW r.sl = P at *
 generalize ptW r.sh = P' at *
 obtain ⟨W1, hW1⟩ : ∃ W1, w.alloc (.cells r.v 82) = W1 := ⟨_, rfl⟩
 obtain ⟨W2, hW2⟩ : ∃ W2, W1.alloc (.cells z3 86) = W2 := ⟨_, rfl⟩
 obtain ⟨W3, hW3⟩ : ∃ W3, W2.alloc (.cells z3 86) = W3 := ⟨_, rfl⟩
 have b1 := bel_nw hW1
 have b2 := bel_al b1 hW2
 have b3 := bel_al b2 hW3
 have B1 := ((blk_nw hW1).al hW2).al hW3
 have B2 := (blk_nw hW2).al hW3
 have B3 := blk_nw hW3
 have g1 : w.heap.size ≤ W1.heap.size := Nat.le_of_lt (blk_nw hW1).lt
 have g2 : W1.heap.size < W2.heap.size := (blk_nw hW2).lt
 have g2' : w.heap.size ≤ W2.heap.size := Nat.le_trans g1 (Nat.le_of_lt g2)
 have g0 : w.heap.size < W1.heap.size := (blk_nw hW1).lt
 clear b1 b2
 go_enter Tryz.func72, Tryz.ntmps72
 go_wp2_with fail
 refine wp_region_noPanic ?_
 refine wp_region_held_drew (S := fun w'' => Blk w'' w.heap.size 82 r.v) (by kernel_rfl) (by exact B1.drew) (fun hHeld => ?_)
 refine qtk (i := 0) (oi := { dst := some 40, op := Op.fieldAddr 82 (.tmp 2) 5, type := 0, pos := "ref.go:65", after := #[], guard := none }) (v := (.pointer (some ⟨w.heap.size, 11, none⟩))) hHeld ?_ ?_
 ·intro w9 hSw
  try dsimp only at hSw
  go_simp
 try simp only [qpu]
 refine qtk (i := 1) (oi := { dst := some 41, op := Op.fieldAddr 80 (.tmp 40) 0, type := 0, pos := "ref.go:65", after := #[{ on := 0, ground := Ground.data }], guard := none }) (v := (.pointer (some ⟨w.heap.size, 11, none⟩))) hHeld ?_ ?_
 ·intro w9 hSw
  try dsimp only at hSw
  go_simp
 try simp only [qpu]
 refine wpAnyH_take (i := 2) (oi := { dst := some 42, op := Op.load 3 (.tmp 41), type := 3, pos := "ref.go:65", after := #[{ on := 1, ground := Ground.data }], guard := none }) (v := (.int .i64 r.sl)) rfl (by kernel_rfl) (by kernel_rfl) (by kernel_rfl) (fun _ _ _ h => h) (Or.inl ⟨by rfl, fun w9 hSw => by have hc := Blk.cell hSw 11 (.int .i64 r.sl) rfl; go_simp⟩) hHeld ?_
 try simp only [qpu]
 refine qtk (i := 4) (oi := { dst := some 44, op := Op.fieldAddr 82 (.tmp 2) 5, type := 0, pos := "ref.go:65", after := #[], guard := none }) (v := (.pointer (some ⟨w.heap.size, 11, none⟩))) hHeld ?_ ?_
 ·intro w9 hSw
  try dsimp only at hSw
  go_simp
 try simp only [qpu]
 refine qtk (i := 5) (oi := { dst := some 45, op := Op.fieldAddr 80 (.tmp 44) 1, type := 0, pos := "ref.go:65", after := #[{ on := 4, ground := Ground.data }], guard := none }) (v := (.pointer (some ⟨w.heap.size, 12, none⟩))) hHeld ?_ ?_
 ·intro w9 hSw
  try dsimp only at hSw
  go_simp
 try simp only [qpu]
 refine wpAnyH_take (i := 6) (oi := { dst := some 46, op := Op.load 3 (.tmp 45), type := 3, pos := "ref.go:65", after := #[{ on := 5, ground := Ground.data }], guard := none }) (v := (.int .i64 r.sh)) rfl (by kernel_rfl) (by kernel_rfl) (by kernel_rfl) (fun _ _ _ h => h) (Or.inl ⟨by rfl, fun w9 hSw => by have hc := Blk.cell hSw 12 (.int .i64 r.sh) rfl; go_simp⟩) hHeld ?_
 try simp only [qpu]
 refine wpAnyH_ready (rs := [3]) (by kernel_rfl) (by simp) ?_
 refine AllReadyH.cons (o := { dst := some 43, op := Op.call { callee := Callee.value (.func 57), args := #[.tmp 42], argTypes := #[3] }, type := 86, pos := "ref.go:65", after := #[{ on := 2, ground := Ground.data }], guard := none }) rfl (fun K hK => ?_) AllReadyH.nil
 go_simp
 refine Calls.mono (K1.out _) ?_
 rintro e W4 ⟨rfl, bb⟩
 have B14 := B1.drew.kept bb
 have B24 := B2.drew.kept bb
 have B34 := B3.drew.kept bb
 have b4 := bel_tr b3.drew bb
 refine hK.out _ _ ?_ (fun hHeld => ?_)
 ·exact B14
 clear hK K
 try simp only [qpu]
 refine wpAnyH_ready (rs := [7]) (by kernel_rfl) (by simp) ?_
 refine AllReadyH.cons (o := { dst := some 47, op := Op.call { callee := Callee.value (.func 57), args := #[.tmp 46], argTypes := #[3] }, type := 86, pos := "ref.go:65", after := #[{ on := 6, ground := Ground.data }, { on := 3, ground := Ground.chain }], guard := none }) rfl (fun K hK => ?_) AllReadyH.nil
 go_simp
 refine Calls.mono (K2.out _) ?_
 rintro e W5 ⟨rfl, bb'⟩
 have B15 := B14.kept bb'
 have B25 := B24.kept bb'
 have B35 := B34.kept bb'
 have b5 := bel_tr b4 bb'
 refine hK.out _ _ ?_ (fun hHeld => ?_)
 ·exact B15
 clear hK K
 try simp only [qpu]
 refine wpAnyH_ready (rs := [8]) (by kernel_rfl) (by simp) ?_
 refine AllReadyH.cons (o := { dst := none, op := Op.store 86 (.tmp 4) (.tmp 43), type := 0, pos := "ref.go:65", after := #[{ on := 3, ground := Ground.data }, { on := 7, ground := Ground.chain }, { on := 0, ground := Ground.phase }, { on := 1, ground := Ground.phase }, { on := 2, ground := Ground.phase }, { on := 3, ground := Ground.phase }, { on := 4, ground := Ground.textOnly Departure.lateStores }, { on := 5, ground := Ground.textOnly Departure.lateStores }, { on := 6, ground := Ground.textOnly Departure.lateStores }, { on := 7, ground := Ground.textOnly Departure.lateStoresUnsure }], guard := none }) rfl (fun K hK => ?_) AllReadyH.nil
 refine step_store_blk rfl _ _ _ rfl W1.heap.size P.v _ (by rfl) (by rfl) B25 (by kernel_rfl) (by rfl) (by kernel_rfl) ?_
 refine hK.out _ _ ?_ (fun hHeld => ?_)
 ·exact B15.other (Nat.ne_of_lt g0) _
 clear hK K
 try simp only [qpu]
 refine wpAnyH_ready (rs := [9]) (by kernel_rfl) (by simp) ?_
 refine AllReadyH.cons (o := { dst := none, op := Op.store 86 (.tmp 5) (.tmp 47), type := 0, pos := "ref.go:65", after := #[{ on := 7, ground := Ground.data }, { on := 8, ground := Ground.chain }, { on := 0, ground := Ground.phase }, { on := 1, ground := Ground.phase }, { on := 2, ground := Ground.phase }, { on := 3, ground := Ground.phase }, { on := 4, ground := Ground.phase }, { on := 5, ground := Ground.phase }, { on := 6, ground := Ground.phase }, { on := 7, ground := Ground.phase }, { on := 8, ground := Ground.phase }], guard := none }) rfl (fun K hK => ?_) AllReadyH.nil
 refine step_store_blk rfl _ _ _ rfl W2.heap.size P'.v _ (by rfl) (by rfl) (B35.other (Nat.ne_of_gt g2) _) (by kernel_rfl) (by rfl) (by kernel_rfl) ?_
 refine hK.out _ _ ?_ (fun hHeld => ?_)
 ·exact (B15.other (Nat.ne_of_lt g0) _).other (Nat.ne_of_lt (Nat.lt_trans g0 g2)) _
 clear hK K
 try simp only [qpu]
 refine qtk (i := 10) (oi := { dst := some 6, op := Op.assign (.const (.bool false)), type := 4, pos := "ref.go:65", after := #[{ on := 9, ground := Ground.chain }, { on := 0, ground := Ground.phase }, { on := 1, ground := Ground.phase }, { on := 2, ground := Ground.phase }, { on := 3, ground := Ground.phase }, { on := 4, ground := Ground.phase }, { on := 5, ground := Ground.phase }, { on := 6, ground := Ground.phase }, { on := 7, ground := Ground.phase }, { on := 8, ground := Ground.phase }, { on := 9, ground := Ground.phase }], guard := none }) (v := (.bool false)) hHeld ?_ ?_
 ·intro w9 hSw
  try dsimp only at hSw
  go_simp
 try simp only [qpu]
 refine wpAnyH_done (by kernel_rfl) ?_ _
 refine NoPanic.normal ?_
 go_wp2
 exact ret_cct (k1 := 4) (k2 := 5) (j := 6) Tryz.f72 (by kernel_rfl) ((B25.set _).other (Nat.ne_of_lt g2) _) ((B35.other (Nat.ne_of_gt g2) _).set _) Tryz.underlying86 (by kernel_rfl) (by kernel_rfl) (by rfl) (by rfl) (by rfl) rfl ⟨rfl, below_setRow (below_setRow b5 g1 _) g2' _⟩
set_option maxRecDepth 100000 in
set_option maxHeartbeats 4000000 in
theorem rpiece_6 (r : Rl) (w : World) :
  Calls Tryz.prog 72 #[.agg r.v, .int .i64 6] w fun e w' => e = .returned (.tuple #[.agg (ptW r.dl).v, .agg (ptW r.dh).v, .bool false]) ∧ Below w.heap.size w w' := by
 have K1 : Hid (∀ W, Calls Tryz.prog 57 #[.int .i64 r.dl] W fun e w' => e = .returned (.agg (ptW r.dl).v) ∧ Below W.heap.size W w') := fun W => rnumber_w r.dl W
 have K2 : Hid (∀ W, Calls Tryz.prog 57 #[.int .i64 r.dh] W fun e w' => e = .returned (.agg (ptW r.dh).v) ∧ Below W.heap.size W w') := fun W => rnumber_w r.dh W
 generalize ptW r.dl = P at *
 generalize ptW r.dh = P' at *
 obtain ⟨W1, hW1⟩ : ∃ W1, w.alloc (.cells r.v 82) = W1 := ⟨_, rfl⟩
 obtain ⟨W2, hW2⟩ : ∃ W2, W1.alloc (.cells z3 86) = W2 := ⟨_, rfl⟩
 obtain ⟨W3, hW3⟩ : ∃ W3, W2.alloc (.cells z3 86) = W3 := ⟨_, rfl⟩
 have b1 := bel_nw hW1
 have b2 := bel_al b1 hW2
 have b3 := bel_al b2 hW3
 have B1 := ((blk_nw hW1).al hW2).al hW3
 have B2 := (blk_nw hW2).al hW3
 have B3 := blk_nw hW3
 have g1 : w.heap.size ≤ W1.heap.size := Nat.le_of_lt (blk_nw hW1).lt
 have g2 : W1.heap.size < W2.heap.size := (blk_nw hW2).lt
 have g2' : w.heap.size ≤ W2.heap.size := Nat.le_trans g1 (Nat.le_of_lt g2)
 have g0 : w.heap.size < W1.heap.size := (blk_nw hW1).lt
 clear b1 b2
 go_enter Tryz.func72, Tryz.ntmps72
 go_wp2_with fail
 refine wp_region_noPanic ?_
 refine wp_region_held_drew (S := fun w'' => Blk w'' w.heap.size 82 r.v) (by kernel_rfl) (by exact B1.drew) (fun hHeld => ?_)
 refine qtk (i := 0) (oi := { dst := some 50, op := Op.fieldAddr 82 (.tmp 2) 6, type := 0, pos := "ref.go:67", after := #[], guard := none }) (v := (.pointer (some ⟨w.heap.size, 13, none⟩))) hHeld ?_ ?_
 ·intro w9 hSw
  try dsimp only at hSw
  go_simp
 try simp only [qpu]
 refine qtk (i := 1) (oi := { dst := some 51, op := Op.fieldAddr 80 (.tmp 50) 0, type := 0, pos := "ref.go:67", after := #[{ on := 0, ground := Ground.data }], guard := none }) (v := (.pointer (some ⟨w.heap.size, 13, none⟩))) hHeld ?_ ?_
 ·intro w9 hSw
  try dsimp only at hSw
  go_simp
 try simp only [qpu]
 refine wpAnyH_take (i := 2) (oi := { dst := some 52, op := Op.load 3 (.tmp 51), type := 3, pos := "ref.go:67", after := #[{ on := 1, ground := Ground.data }], guard := none }) (v := (.int .i64 r.dl)) rfl (by kernel_rfl) (by kernel_rfl) (by kernel_rfl) (fun _ _ _ h => h) (Or.inl ⟨by rfl, fun w9 hSw => by have hc := Blk.cell hSw 13 (.int .i64 r.dl) rfl; go_simp⟩) hHeld ?_
 try simp only [qpu]
 refine qtk (i := 4) (oi := { dst := some 54, op := Op.fieldAddr 82 (.tmp 2) 6, type := 0, pos := "ref.go:67", after := #[], guard := none }) (v := (.pointer (some ⟨w.heap.size, 13, none⟩))) hHeld ?_ ?_
 ·intro w9 hSw
  try dsimp only at hSw
  go_simp
 try simp only [qpu]
 refine qtk (i := 5) (oi := { dst := some 55, op := Op.fieldAddr 80 (.tmp 54) 1, type := 0, pos := "ref.go:67", after := #[{ on := 4, ground := Ground.data }], guard := none }) (v := (.pointer (some ⟨w.heap.size, 14, none⟩))) hHeld ?_ ?_
 ·intro w9 hSw
  try dsimp only at hSw
  go_simp
 try simp only [qpu]
 refine wpAnyH_take (i := 6) (oi := { dst := some 56, op := Op.load 3 (.tmp 55), type := 3, pos := "ref.go:67", after := #[{ on := 5, ground := Ground.data }], guard := none }) (v := (.int .i64 r.dh)) rfl (by kernel_rfl) (by kernel_rfl) (by kernel_rfl) (fun _ _ _ h => h) (Or.inl ⟨by rfl, fun w9 hSw => by have hc := Blk.cell hSw 14 (.int .i64 r.dh) rfl; go_simp⟩) hHeld ?_
 try simp only [qpu]
 refine wpAnyH_ready (rs := [3]) (by kernel_rfl) (by simp) ?_
 refine AllReadyH.cons (o := { dst := some 53, op := Op.call { callee := Callee.value (.func 57), args := #[.tmp 52], argTypes := #[3] }, type := 86, pos := "ref.go:67", after := #[{ on := 2, ground := Ground.data }], guard := none }) rfl (fun K hK => ?_) AllReadyH.nil
 go_simp
 refine Calls.mono (K1.out _) ?_
 rintro e W4 ⟨rfl, bb⟩
 have B14 := B1.drew.kept bb
 have B24 := B2.drew.kept bb
 have B34 := B3.drew.kept bb
 have b4 := bel_tr b3.drew bb
 refine hK.out _ _ ?_ (fun hHeld => ?_)
 ·exact B14
 clear hK K
 try simp only [qpu]
 refine wpAnyH_ready (rs := [7]) (by kernel_rfl) (by simp) ?_
 refine AllReadyH.cons (o := { dst := some 57, op := Op.call { callee := Callee.value (.func 57), args := #[.tmp 56], argTypes := #[3] }, type := 86, pos := "ref.go:67", after := #[{ on := 6, ground := Ground.data }, { on := 3, ground := Ground.chain }], guard := none }) rfl (fun K hK => ?_) AllReadyH.nil
 go_simp
 refine Calls.mono (K2.out _) ?_
 rintro e W5 ⟨rfl, bb'⟩
 have B15 := B14.kept bb'
 have B25 := B24.kept bb'
 have B35 := B34.kept bb'
 have b5 := bel_tr b4 bb'
 refine hK.out _ _ ?_ (fun hHeld => ?_)
 ·exact B15
 clear hK K
 try simp only [qpu]
 refine wpAnyH_ready (rs := [8]) (by kernel_rfl) (by simp) ?_
 refine AllReadyH.cons (o := { dst := none, op := Op.store 86 (.tmp 4) (.tmp 53), type := 0, pos := "ref.go:67", after := #[{ on := 3, ground := Ground.data }, { on := 7, ground := Ground.chain }, { on := 0, ground := Ground.phase }, { on := 1, ground := Ground.phase }, { on := 2, ground := Ground.phase }, { on := 3, ground := Ground.phase }, { on := 4, ground := Ground.textOnly Departure.lateStores }, { on := 5, ground := Ground.textOnly Departure.lateStores }, { on := 6, ground := Ground.textOnly Departure.lateStores }, { on := 7, ground := Ground.textOnly Departure.lateStoresUnsure }], guard := none }) rfl (fun K hK => ?_) AllReadyH.nil
 refine step_store_blk rfl _ _ _ rfl W1.heap.size P.v _ (by rfl) (by rfl) B25 (by kernel_rfl) (by rfl) (by kernel_rfl) ?_
 refine hK.out _ _ ?_ (fun hHeld => ?_)
 ·exact B15.other (Nat.ne_of_lt g0) _
 clear hK K
 try simp only [qpu]
 refine wpAnyH_ready (rs := [9]) (by kernel_rfl) (by simp) ?_
 refine AllReadyH.cons (o := { dst := none, op := Op.store 86 (.tmp 5) (.tmp 57), type := 0, pos := "ref.go:67", after := #[{ on := 7, ground := Ground.data }, { on := 8, ground := Ground.chain }, { on := 0, ground := Ground.phase }, { on := 1, ground := Ground.phase }, { on := 2, ground := Ground.phase }, { on := 3, ground := Ground.phase }, { on := 4, ground := Ground.phase }, { on := 5, ground := Ground.phase }, { on := 6, ground := Ground.phase }, { on := 7, ground := Ground.phase }, { on := 8, ground := Ground.phase }], guard := none }) rfl (fun K hK => ?_) AllReadyH.nil
 refine step_store_blk rfl _ _ _ rfl W2.heap.size P'.v _ (by rfl) (by rfl) (B35.other (Nat.ne_of_gt g2) _) (by kernel_rfl) (by rfl) (by kernel_rfl) ?_
 refine hK.out _ _ ?_ (fun hHeld => ?_)
 ·exact (B15.other (Nat.ne_of_lt g0) _).other (Nat.ne_of_lt (Nat.lt_trans g0 g2)) _
 clear hK K
 try simp only [qpu]
 refine qtk (i := 10) (oi := { dst := some 6, op := Op.assign (.const (.bool false)), type := 4, pos := "ref.go:67", after := #[{ on := 9, ground := Ground.chain }, { on := 0, ground := Ground.phase }, { on := 1, ground := Ground.phase }, { on := 2, ground := Ground.phase }, { on := 3, ground := Ground.phase }, { on := 4, ground := Ground.phase }, { on := 5, ground := Ground.phase }, { on := 6, ground := Ground.phase }, { on := 7, ground := Ground.phase }, { on := 8, ground := Ground.phase }, { on := 9, ground := Ground.phase }], guard := none }) (v := (.bool false)) hHeld ?_ ?_
 ·intro w9 hSw
  try dsimp only at hSw
  go_simp
 try simp only [qpu]
 refine wpAnyH_done (by kernel_rfl) ?_ _
 refine NoPanic.normal ?_
 go_wp2
 exact ret_cct (k1 := 4) (k2 := 5) (j := 6) Tryz.f72 (by kernel_rfl) ((B25.set _).other (Nat.ne_of_lt g2) _) ((B35.other (Nat.ne_of_gt g2) _).set _) Tryz.underlying86 (by kernel_rfl) (by kernel_rfl) (by rfl) (by rfl) (by rfl) rfl ⟨rfl, below_setRow (below_setRow b5 g1 _) g2' _⟩
end Go.Proofs.YtmfgjicfdjjihaaGreatDoor
