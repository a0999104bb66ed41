/- Folding a number that is not below 0 returns what the plain function says, and touches no memory. -/
import Derived.Test.YtgdpcomcndidcaaRows
import Derived.Test.YtgdpcomcndidcaaMath
import Derived.Test.YtgdpcomcndidcaaBits
import Derived.WalkKit
namespace Go.Proofs.Ytgdpcomcndidcaa
open Go.RowKit
set_option linter.unusedVariables false

theorem ret_int {k : IntKind} {a b : Int} (h : a = b) : Ending.returned (.int k a) = .returned (.int k b) := by rw [h]

set_option maxHeartbeats 400000 in
theorem fold_any (t : Int) (w : World) (h0 : 0 ≤ t) (h1 : t ≤ 9223372036854775807) :
    Calls Try.prog 79 #[.int .i64 t] w fun e w' => e = .returned (.int .i64 (M.nf t)) ∧ w' = w := by
  go_enter Try.func79, Try.ntmps79
  go_wp2
  go_loop [0] (fun x => ∃ y : Int, 0 ≤ y ∧ y ≤ 9223372036854775807 ∧ M.nf y = M.nf t ∧ x = .int .i64 y) (fun x => (intOf x).toNat)
  case atStart => exact ⟨t, h0, h1, rfl, rfl⟩
  case round =>
    obtain ⟨y, hy0, hy1, hn, rfl⟩ := hrel
    have HN : Hid (M.nf y = M.nf t) := hn
    clear hn
    by_cases hlt : 65535 < y
    · go_wp2
      rw [i64_and65535, wrap64_in _ (by omega) (by omega)]
      exact ⟨⟨_, by omega, by omega, (M.nf_fold hlt).trans HN.out, rfl⟩, by simp [intOf]; omega⟩
    · go_wp2
      go_ret
      exact ⟨ret_int (by rw [← HN.out, M.nf_small hy0 (by omega)]), rfl⟩
end Go.Proofs.Ytgdpcomcndidcaa
