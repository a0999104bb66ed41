/- The law WireSums returns true: the program's sum and check sum are the reference's. -/
import Derived.Test.YtpklhkoclcpjbaaAlive
import Derived.Test.YtpklhkoclcpjbaaRefSum
namespace Go.Proofs.Ytpklhkoclcpjbaa
open Go.RowKit
set_option linter.unusedVariables false

set_option maxHeartbeats 400000 in
theorem wireSums_walk (a : Option Addr) (c : Nat) (ls : List (List Int)) (w : World) (hc : ls.length ≤ c) (hm : c ≤ 5864062014634) (h : Rowss w a ls) :
    Calls Try.prog 5 #[.slice a ls.length c] w fun e w' => e = .returned (.bool true) ∧ Below w.heap.size w w' := by
  have hb : 0 ≤ M.sumOf ls ∧ M.sumOf ls ≤ 65535 := M.nf_bd (M.raw true ls.flatten)
  go_enter Try.func5, Try.ntmps5
  go_wp2_with (first
    | (go_at_call 21; refine (refsum_any _ _ _ _ h).mono ?_; rintro e w' ⟨rfl, rfl⟩)
    | (go_at_call 22; refine (sum_any _ _ _ _ h).mono ?_; rintro e w' ⟨rfl, rfl⟩)
    | (go_at_call 23; refine (check_any _ _ _ _ h).mono ?_; rintro e w' ⟨rfl, rfl⟩)
    | (go_at_call 16; refine (alive_any _).mono ?_; rintro e w' ⟨rfl, hb⟩))
  go_ret
  exact ⟨rfl, by assumption⟩
end Go.Proofs.Ytpklhkoclcpjbaa
