/- Texts joined: Reads Parts Adr -/
import Derived.Test.YtebdpiedgjdjeaaFgw2
import Derived.Deep.QuietTactic
import Derived.BigQuiet
import Derived.Laws.BytesArg
import Derived.Laws.MakeOwn
import Derived.Test.YtebdpiedgjdjeaaRows
import Derived.WalkKit
import Derived.Laws.BitsAllLaws
import Derived.Laws.BitsLemmas
import Derived.Laws.Bits128
import Derived.Laws.Shifts
import Derived.Laws.ShiftsVarLaws
import Derived.Laws.StructEq
import Derived.Deep.RegionWith
import Derived.Deep.DeepCutAuto
namespace Go.Proofs.Ytebdpiedgjdjeaa
open Go.RowKit
set_option linter.unusedVariables false
/-- The number in two bytes. -/
def u16 (l : List Int) (x : Int) : Int := 256 * l.getD x.toNat 0 + l.getD (x.toNat + 1) 0
/-- The number in four bytes. -/
def u32 (l : List Int) (x : Int) : Int := 16777216 * l.getD x.toNat 0 + 65536 * l.getD (x.toNat + 1) 0 + 256 * l.getD (x.toNat + 2) 0 + l.getD (x.toNat + 3) 0
/-- A value that the call made: a slice of the bytes l in memory of its own. -/
structure Fresh (w w' : World) (a : Option Addr) (c : Nat) (l : List Int) : Prop where
  owns : Owns w' w.heap.size (.slice a l.length c) l
  room : l.length ≤ c
  nil : a = none → c = 0
  row : Row w' a l
  below : Below w.heap.size w w'
theorem conv_row {w : World} {a : Option Addr} {l : List Int} (h : Row w a l) (c : Nat) : (convert 40 9 (.slice a l.length c)).run Try.prog w = .ok (.string (strOfNums l)) w := by
  cases a with
  | none =>
    have hl : l = [] := by
      cases l with
      | nil => rfl
      | cons y l => obtain ⟨b, off, hh, _⟩ := h.cells (by simp); cases hh
    subst hl
    exact run_convert_bytes_nil w _ 5 Try.underlying40 Try.underlying5 _ _ _ Try.underlying9
  | some x =>
    by_cases hp : 0 < l.length
    · obtain ⟨b, off, hh, hc⟩ := h.cells hp
      cases hh
      exact run_convert_bytes_arg w _ 5 Try.underlying40 Try.underlying5 b off _ _ l rfl hc _ Try.underlying9
    · have hl : l = [] := by cases l with | nil => rfl | cons _ _ => simp at hp
      subst hl
      rw [run_convert_bytes_string w _ _ 5 _ _ _ Try.underlying40 Try.underlying5 Try.underlying9]
      show Sem.run _ (Conv.bytesToString (.slice (some x) 0 c)) w = _
      rw [run_bytesToString w x 0 c [] (by
        have := run_loadCells_list (P := Try.prog) w x [] (fun j v hj => by simp at hj)
        simpa using this)]
      rfl
/-- The n bytes from x on. -/
def part (l : List Int) (x n : Int) : List Int := (l.drop x.toNat).take n.toNat
end Go.Proofs.Ytebdpiedgjdjeaa
namespace Go.Proofs.Ytebdpiedgjdjeaa
open Go.RowKit
set_option linter.unusedVariables false
set_option linter.unusedSimpArgs false
/-- An address, as three numbers. -/
structure Ad where
  fam : Int
  hi : Int
  lo : Int
/-- Its numbers lie in their kinds. -/
def Ad.ok (a : Ad) : Prop := (-9223372036854775808 ≤ a.fam ∧ a.fam ≤ 9223372036854775807) ∧ (0 ≤ a.hi ∧ a.hi ≤ 18446744073709551615) ∧ (0 ≤ a.lo ∧ a.lo ≤ 18446744073709551615)
abbrev Ad.v (a : Ad) : Value := .agg #[.int .i64 a.fam, .int .u64 a.hi, .int .u64 a.lo]
def Ad.right (a : Ad) : Bool := if a.fam = 4 then (a.hi == 0) && (a.lo / 4294967296 == 0) else a.fam == 6
def Ad.width (a : Ad) : Int := if a.fam = 4 then 32 else 128
theorem right_any (f h l : Int) (w : World) :
    Calls Try.prog 71 #[.agg #[.int .i64 f, .int .u64 h, .int .u64 l]] w fun e w' => e = .returned (.bool (Ad.right ⟨f, h, l⟩)) ∧ w' = w.alloc (.cells #[.int .i64 f, .int .u64 h, .int .u64 l] 37) := by
  go_enter Try.func71, Try.ntmps71
  by_cases hf : f = 4
  · by_cases hh : h = 0
    · go_wp2
      go_ret
      exact ⟨by simp [Ad.right, hf, hh], by simp [*]⟩
    · go_wp2
      go_ret
      exact ⟨by simp [Ad.right, hf, hh], by simp [*]⟩
  · go_wp2
    go_ret
    exact ⟨by simp [Ad.right, hf], by simp [*]⟩
/-- The k lowest bits as 0. -/
def cutLow (x : Int) (k : Nat) : Int := x / 2 ^ k * 2 ^ k
/-- The address with its bits from the place bits on 0. -/
def Ad.masked (a : Ad) (bits : Int) : Ad :=
  ⟨a.fam, cutLow a.hi (64 - min (bits + 128 - a.width) 64).toNat, cutLow a.lo (64 - max (bits + 128 - a.width - 64) 0).toNat⟩
def Ad.fits (a : Ad) (bits : Int) : Bool := a.right && (decide (0 ≤ bits) && decide (bits ≤ a.width))
def Ad.mask (a : Ad) (bits : Int) : Ad × Int := if a.fits bits then (a.masked bits, 0) else (⟨0, 0, 0⟩, 1)
end Go.Proofs.Ytebdpiedgjdjeaa
