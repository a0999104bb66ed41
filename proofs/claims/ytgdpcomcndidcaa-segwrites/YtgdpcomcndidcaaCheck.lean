/- The check sum of any parts is 65535 less their sum; the reference's sum is the same number. -/
import Derived.Test.YtgdpcomcndidcaaSum
namespace Go.Proofs.Ytgdpcomcndidcaa
open Go.RowKit
set_option linter.unusedVariables false

set_option maxHeartbeats 400000 in
theorem check_any (a : Option Addr) (cap : Nat) (ls : List (List Int)) (w : World) (h : Rowss w a ls) :
    Calls Try.prog 42 #[.slice a ls.length cap] w fun e w' => e = .returned (.int .i64 (65535 - M.sumOf ls)) ∧ w' = w := by
  have hb := M.nf_bd (M.raw true ls.flatten)
  have hb' : 0 ≤ M.sumOf ls ∧ M.sumOf ls ≤ 65535 := hb
  clear hb
  go_enter Try.func42, Try.ntmps42
  go_wp2_with (go_at_call 65; refine (sum_any _ _ _ _ h).mono ?_; rintro e w' ⟨rfl, rfl⟩)
  go_ret
  exact ⟨rfl, rfl⟩
end Go.Proofs.Ytgdpcomcndidcaa
