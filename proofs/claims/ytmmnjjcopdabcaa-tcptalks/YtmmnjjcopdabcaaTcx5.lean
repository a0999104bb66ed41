/- Texts joined: Reads Adr -/
import Derived.Test.YtmmnjjcopdabcaaTcx3
import Derived.Deep.QuietTactic
import Derived.BigQuiet
import Derived.Test.YtmmnjjcopdabcaaRows
import Derived.WalkKit
import Derived.Laws.BitsAllLaws
import Derived.Laws.BitsLemmas
import Derived.Laws.Bits128
import Derived.Laws.Shifts
import Derived.Laws.ShiftsVarLaws
import Derived.Laws.StructEq
import Derived.Deep.RegionWith
import Derived.Deep.DeepCutAuto
namespace Go.Proofs.Ytmmnjjcopdabcaa
open Go.RowKit
set_option linter.unusedVariables false
/-- The number in two bytes. -/
def u16 (l : List Int) (x : Int) : Int := 256 * l.getD x.toNat 0 + l.getD (x.toNat + 1) 0
/-- The number in four bytes. -/
def u32 (l : List Int) (x : Int) : Int := 16777216 * l.getD x.toNat 0 + 65536 * l.getD (x.toNat + 1) 0 + 256 * l.getD (x.toNat + 2) 0 + l.getD (x.toNat + 3) 0
end Go.Proofs.Ytmmnjjcopdabcaa
namespace Go.Proofs.Ytmmnjjcopdabcaa
open Go.RowKit
set_option linter.unusedVariables false
set_option linter.unusedSimpArgs false
/-- An address, as three numbers. -/
structure Ad where
 fam : Int
 hi : Int
 lo : Int
/-- Its numbers lie in their kinds. -/
def Ad.ok (a : Ad) : Prop := (-9223372036854775808 ≤ a.fam ∧ a.fam ≤ 9223372036854775807) ∧ (0 ≤ a.hi ∧ a.hi ≤ 18446744073709551615) ∧ (0 ≤ a.lo ∧ a.lo ≤ 18446744073709551615)
abbrev Ad.v (a : Ad) : Value := .agg #[.int .i64 a.fam, .int .u64 a.hi, .int .u64 a.lo]
def Ad.right (a : Ad) : Bool := if a.fam = 4 then (a.hi == 0) && (a.lo / 4294967296 == 0) else a.fam == 6
def Ad.width (a : Ad) : Int := if a.fam = 4 then 32 else 128
/-- The k lowest bits as 0. -/
def cutLow (x : Int) (k : Nat) : Int := x / 2 ^ k * 2 ^ k
/-- The address with its bits from the place bits on 0. -/
def Ad.masked (a : Ad) (bits : Int) : Ad :=
 ⟨a.fam, cutLow a.hi (64 - min (bits + 128 - a.width) 64).toNat, cutLow a.lo (64 - max (bits + 128 - a.width - 64) 0).toNat⟩
def Ad.fits (a : Ad) (bits : Int) : Bool := a.right && (decide (0 ≤ bits) && decide (bits ≤ a.width))
def Ad.mask (a : Ad) (bits : Int) : Ad × Int := if a.fits bits then (a.masked bits, 0) else (⟨0, 0, 0⟩, 1)
end Go.Proofs.Ytmmnjjcopdabcaa
