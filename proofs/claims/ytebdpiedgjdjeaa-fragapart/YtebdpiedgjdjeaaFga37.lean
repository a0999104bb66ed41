/- Texts joined: FgE -/
import Derived.Test.YtebdpiedgjdjeaaFga12
namespace Go.Proofs.Ytebdpiedgjdjeaa
open Go.RowKit
set_option linter.unusedVariables false
set_option linter.unusedSimpArgs false
set_option maxRecDepth 100000 in
set_option maxHeartbeats 4000000 in
theorem new_y (gr by_ lf : Int) (w : World) (h0 : ¬ gr < 0) (h1 : ¬ gr > 256) (h2 : ¬ by_ < 0) (h3 : ¬ by_ > 1048576) (h4 : ¬ lf < 1) (h5 : ¬ lf > 1099511627776) :
    Calls Try.prog 12 #[.int .i64 gr, .int .i64 by_, .int .i64 lf] w fun e w' => e = .returned (.tuple #[.pointer (some ⟨w.heap.size + 1, 0, none⟩), .int .i64 0]) ∧ w' = (w.alloc (.map #[] 0)).alloc (.cells #[.bool true, .int .i64 gr, .int .i64 by_, .int .i64 lf, .int .i64 0, .int .i64 0, .map (some w.heap.size)] 64) := by
  have hmm := @run_makeMap Try.prog
  obtain ⟨W1, hW1⟩ : ∃ W, w.alloc (.map #[] 0) = W := ⟨_, rfl⟩
  have z1 : W1.heap.size = w.heap.size + 1 := by rw [← hW1]; simp
  have hb : (Instr.build 64 #[(0, .bool true), (1, .int .i64 gr), (2, .int .i64 by_), (3, .int .i64 lf), (6, .map (some w.heap.size))]).run Try.prog W1 = .ok (.agg #[.bool true, .int .i64 gr, .int .i64 by_, .int .i64 lf, .int .i64 0, .int .i64 0, .map (some w.heap.size)]) W1 := by kernel_rfl
  go_enter Try.func12, Try.ntmps12
  go_wp2_with (refine wpList_buildF _ rfl _ _ rfl _ (by rfl) _ hb ?_)
  go_ret2
  exact ⟨rfl, rfl⟩
end Go.Proofs.Ytebdpiedgjdjeaa
