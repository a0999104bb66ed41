/- The address of bytes. -/
import Derived.Test.YtmlddgmkbbaccaaPre
import Derived.Test.YtmlddgmkbbaccaaReads
namespace Go.Proofs.Ytmlddgmkbbaccaa
open Go.RowKit
set_option linter.unusedVariables false
set_option linter.unusedSimpArgs false

/-- Bytes taken in, the highest first. -/
def fromGo : List Int → Int → Int → Int × Int
  | [], h, l => (h, l)
  | x :: xs, h, l => fromGo xs (h * 256 % 18446744073709551616 + l / 72057594037927936) (l * 256 % 18446744073709551616 + x)
def fromB (b : List Int) : Ad × Int :=
  if b.length = 4 then (⟨4, (fromGo b 0 0).1, (fromGo b 0 0).2⟩, 0) else if b.length = 16 then (⟨6, (fromGo b 0 0).1, (fromGo b 0 0).2⟩, 0) else (⟨0, 0, 0⟩, 1)
theorem wraps_u64 (n : Int) (h₀ : 0 ≤ n) (h₁ : n < 2 ^ 64) : IntKind.u64.wrap n = n := by rw [IntKind.wrap_u64]; omega
theorem or_low (x y : Int) (hy0 : 0 ≤ y) (hy1 : y < 256) : bits .or .u64 (IntKind.u64.wrap (x * 256)) y = x * 256 % 18446744073709551616 + y := by
  rw [IntKind.wrap_u64]
  exact bits_join .u64 64 (by decide) wraps_u64 8 _ y (by omega) (by omega) (by omega) hy0 (by omega) (by omega)
theorem or_low' (x y : Int) (hx : 0 ≤ x ∧ x * 256 < 18446744073709551616) (hy0 : 0 ≤ y) (hy1 : y < 256) : bits .or .u64 (x * 256) y = x * 256 + y :=
  bits_join .u64 64 (by decide) wraps_u64 8 _ y (by omega) (by omega) (by omega) hy0 (by omega) (by omega)

end Go.Proofs.Ytmlddgmkbbaccaa
