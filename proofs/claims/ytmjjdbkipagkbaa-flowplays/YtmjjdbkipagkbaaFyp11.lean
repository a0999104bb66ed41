/- Texts joined: TcB -/
import Derived.Test.YtmjjdbkipagkbaaFyp2
namespace Go.Proofs.Ytmjjdbkipagkbaa
open Go.RowKit
set_option linter.unusedVariables false
set_option linter.unusedSimpArgs false
theorem retB_tc {a b : Bool} (h : a = b) : Ending.returned (.bool a) = Ending.returned (.bool b) := by rw [h]
theorem retN_tc {k : IntKind} {a b : Int} (h : a = b) : Ending.returned (.int k a) = Ending.returned (.int k b) := by rw [h]
theorem Blk.gt {W : World} {g : Nat} {t : TypeId} {r : Gt} (h : Blk W g t r.v) : W.cell? ⟨g, 0, none⟩ = some (.int .i64 r.fl) ∧ W.cell? ⟨g, 1, none⟩ = some (.int .i64 r.win) ∧ W.cell? ⟨g, 2, none⟩ = some (.int .i64 r.sz) ∧ W.cell? ⟨g, 3, none⟩ = some (.int .u32 r.sq) ∧ W.cell? ⟨g, 4, none⟩ = some (.int .u32 r.ak) :=
  ⟨h.cell 0 _ rfl, h.cell 1 _ rfl, h.cell 2 _ rfl, h.cell 3 _ rfl, h.cell 4 _ rfl⟩
theorem has_tc (g : Gt) (k : Int) (w : World) :
    Calls Try.prog 97 #[.agg g.v, .int .i64 k] w fun e w' => e = .returned (.bool (flB g.fl k)) ∧ Below w.heap.size w w' := by
  obtain ⟨W1, hW1⟩ : ∃ W1, w.alloc (.cells g.v 110) = W1 := ⟨_, rfl⟩
  have b1 := bel_nw hW1
  have A1 := blk_nw hW1
  have c0 := A1.cell 0 (.int .i64 g.fl) rfl
  go_enter Try.func97, Try.ntmps97
  go_wp2
  go_ret
  exact ⟨retB_tc (by simp [flB]), b1⟩
theorem from_tc (a b : Int) (w : World) :
    Calls Try.prog 111 #[.int .u32 a, .int .u32 b] w fun e w' => e = .returned (.bool (frB a b)) ∧ Below w.heap.size w w' := by
  go_enter Try.func111, Try.ntmps111
  go_wp2
  go_ret
  exact ⟨retB_tc (by simp [frB]), Below.refl _ _⟩
theorem size_tc (n : Int) (w : World) :
    Calls Try.prog 79 #[.int .i64 n] w fun e w' => e = .returned (.bool (inB15 n)) ∧ Below w.heap.size w w' := by
  go_enter Try.func79, Try.ntmps79
  by_cases h : 0 ≤ n
  · go_wp2
    all_goals (go_ret; exact ⟨retB_tc (by simp [inB15, h]), Below.refl _ _⟩)
  · go_wp2
    all_goals (go_ret; exact ⟨retB_tc (by simp [inB15]; omega), Below.refl _ _⟩)
theorem state_tc (a b : Bool) (w : World) :
    Calls Try.prog 82 #[.agg #[.bool a, .bool b]] w fun e w' => e = .returned (.int .i64 (stOf a b)) ∧ Below w.heap.size w w' := by
  obtain ⟨W1, hW1⟩ : ∃ W1, w.alloc (.cells #[.bool a, .bool b] 29) = W1 := ⟨_, rfl⟩
  have b1 := bel_nw hW1
  have A1 := blk_nw hW1
  have c0 := A1.cell 0 (.bool a) rfl
  have c1 := A1.cell 1 (.bool b) rfl
  go_enter Try.func82, Try.ntmps82
  cases a <;> cases b <;> (go_wp2; go_ret; exact ⟨rfl, b1⟩)
theorem limit_tc (g : Gt) (w : World) :
    Calls Try.prog 112 #[.agg g.v] w fun e w' => e = .returned (.int .u32 g.lim) ∧ Below w.heap.size w w' := by
  obtain ⟨W1, hW1⟩ : ∃ W1, w.alloc (.cells g.v 110) = W1 := ⟨_, rfl⟩
  have b1 := bel_nw hW1
  have A1 := blk_nw hW1
  obtain ⟨c0, c1, c2, c3, c4⟩ := A1.gt
  go_enter Try.func112, Try.ntmps112
  go_wp2
  go_ret
  exact ⟨retN_tc (by simp [Gt.lim]), b1⟩
set_option maxRecDepth 100000 in
set_option maxHeartbeats 1000000 in
theorem end_tc (g : Gt) (w : World) :
    Calls Try.prog 108 #[.agg g.v] w fun e w' => e = .returned (.int .u32 g.e) ∧ Below w.heap.size w w' := by
  obtain ⟨W1, hW1⟩ : ∃ W1, w.alloc (.cells g.v 110) = W1 := ⟨_, rfl⟩
  have b1 := bel_nw hW1
  have A1 := blk_nw hW1
  obtain ⟨c0, c1, c2, c3, c4⟩ := A1.gt
  have K2 : Hid (∀ W, Calls Try.prog 97 #[.agg g.v, .int .i64 2] W fun e w' => e = .returned (.bool (flB g.fl 2)) ∧ Below W.heap.size W w') := fun W => has_tc g 2 W
  have K1 : Hid (∀ W, Calls Try.prog 97 #[.agg g.v, .int .i64 1] W fun e w' => e = .returned (.bool (flB g.fl 1)) ∧ Below W.heap.size W w') := fun W => has_tc g 1 W
  obtain ⟨E, hE⟩ : ∃ E, g.e = E := ⟨_, rfl⟩
  have HE : Hid ((g.sq + g.sz + bN (flB g.fl 2) + bN (flB g.fl 1)) % 4294967296 = E) := hE
  rw [hE]
  clear hE
  generalize flB g.fl 2 = R2 at *
  generalize flB g.fl 1 = R1 at *
  go_enter Try.func108, Try.ntmps108
  go_wp2_with (refine wpList_load_row rfl _ _ rfl w.heap.size (by rfl) _ _ _ _ A1 Try.underlying110 rfl (by kernel_rfl) ?_)
  refine Calls.mono (K2.out _) ?_
  rintro e W2 ⟨rfl, bb⟩
  have A2 := A1.kept bb
  have b2 := bel_tr b1 bb
  clear bb c0 c1 c2 c3 c4 K2
  cases R2 <;> (
    go_wp2_with (refine wpList_load_row rfl _ _ rfl w.heap.size (by rfl) _ _ _ _ A2 Try.underlying110 rfl (by kernel_rfl) ?_)
    refine Calls.mono (K1.out _) ?_
    rintro e W3 ⟨rfl, bb⟩
    have b3 := bel_tr b2 bb
    cases R1 <;> (
      go_wp2
      go_ret
      exact ⟨retN_tc (by rw [← HE.out]; simp [bN]), b3⟩))
theorem within_tc (n x l : Int) (w : World) :
    Calls Try.prog 110 #[.int .u32 n, .int .u32 x, .int .u32 l] w fun e w' => e = .returned (.bool (wiB n x l)) ∧ Below w.heap.size w w' := by
  have K1 : Hid (∀ W, Calls Try.prog 111 #[.int .u32 n, .int .u32 ((x - 65535) % 4294967296)] W fun e w' => e = .returned (.bool (frB n ((x - 65535) % 4294967296))) ∧ Below W.heap.size W w') := fun W => from_tc _ _ W
  have K2 : Hid (∀ W, Calls Try.prog 111 #[.int .u32 l, .int .u32 n] W fun e w' => e = .returned (.bool (frB l n)) ∧ Below W.heap.size W w') := fun W => from_tc _ _ W
  show Calls _ _ _ w fun e w' => e = .returned (.bool (frB n ((x - 65535) % 4294967296) && frB l n)) ∧ Below w.heap.size w w'
  generalize frB n ((x - 65535) % 4294967296) = P at *
  generalize frB l n = Q at *
  go_enter Try.func110, Try.ntmps110
  go_wp2_with fail
  refine Calls.mono (K1.out _) ?_
  rintro e W2 ⟨rfl, bb⟩
  cases P
  · go_wp2
    go_ret
    exact ⟨rfl, bb⟩
  · go_wp2_with fail
    refine Calls.mono (K2.out _) ?_
    rintro e W3 ⟨rfl, bc⟩
    go_wp2
    go_ret
    exact ⟨retB_tc (by simp), bel_tr bb bc⟩
end Go.Proofs.Ytmjjdbkipagkbaa
