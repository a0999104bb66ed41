/- Whether bytes lie in a slice; numbers of two and of four bytes are read from any place. -/
import Derived.Test.YtmlddgmkbbaccaaSum
import Derived.Deep.QuietTactic
import Derived.BigQuiet
namespace Go.Proofs.Ytmlddgmkbbaccaa
open Go.RowKit
set_option linter.unusedVariables false

theorem tup_int {k : IntKind} {a b : Int} {c : Bool} (h : a = b) : Ending.returned (.tuple #[.int k a, .bool c]) = .returned (.tuple #[.int k b, .bool c]) := by rw [h]

/-- Whether n bytes from at on lie among len. -/
def liesB (len : Nat) (at_ n : Int) : Bool := decide (0 ≤ at_ ∧ 0 ≤ n ∧ n ≤ (len : Int) - at_)

/-- The number in two bytes. -/
def u16 (l : List Int) (x : Int) : Int := 256 * l.getD x.toNat 0 + l.getD (x.toNat + 1) 0
/-- The number in four bytes. -/
def u32 (l : List Int) (x : Int) : Int := 16777216 * l.getD x.toNat 0 + 65536 * l.getD (x.toNat + 1) 0 + 256 * l.getD (x.toNat + 2) 0 + l.getD (x.toNat + 3) 0

end Go.Proofs.Ytmlddgmkbbaccaa
