/- Texts joined: Adr Pre Reads -/
import Derived.Test.YtmnkdogdligckaaIp6zb0
import Derived.Test.YtmnkdogdligckaaRows
import Derived.WalkKit
import Derived.Laws.BitsAllLaws
import Derived.Laws.BitsLemmas
import Derived.Laws.Bits128
import Derived.Laws.Shifts
import Derived.Laws.ShiftsVarLaws
import Derived.Laws.StructEq
import Derived.Deep.QuietTactic
import Derived.BigQuiet
import Derived.Deep.RegionWith
import Derived.Deep.DeepCutAuto
namespace Go.Proofs.Ytmnkdogdligckaa
open Go.RowKit
set_option linter.unusedVariables false
set_option linter.unusedSimpArgs false
/-- An address, as three numbers. -/
structure Ad where
  fam : Int
  hi : Int
  lo : Int
/-- Its numbers lie in their kinds. -/
def Ad.ok (a : Ad) : Prop := (-9223372036854775808 ≤ a.fam ∧ a.fam ≤ 9223372036854775807) ∧ (0 ≤ a.hi ∧ a.hi ≤ 18446744073709551615) ∧ (0 ≤ a.lo ∧ a.lo ≤ 18446744073709551615)
abbrev Ad.v (a : Ad) : Value := .agg #[.int .i64 a.fam, .int .u64 a.hi, .int .u64 a.lo]
def Ad.right (a : Ad) : Bool := if a.fam = 4 then (a.hi == 0) && (a.lo / 4294967296 == 0) else a.fam == 6
def Ad.width (a : Ad) : Int := if a.fam = 4 then 32 else 128
theorem width_any (f h l : Int) (w : World) :
    Calls Try.prog 54 #[.agg #[.int .i64 f, .int .u64 h, .int .u64 l]] w fun e w' => e = .returned (.int .i64 (Ad.width ⟨f, h, l⟩)) ∧ w' = w.alloc (.cells #[.int .i64 f, .int .u64 h, .int .u64 l] 35) := by
  go_enter Try.func54, Try.ntmps54
  by_cases hf : f = 4
  · go_wp2
    go_ret
    exact ⟨ret_int (by simp [Ad.width, hf]), by simp [*]⟩
  · go_wp2
    go_ret
    exact ⟨ret_int (by simp [Ad.width, hf]), by simp [*]⟩
theorem right_any (f h l : Int) (w : World) :
    Calls Try.prog 53 #[.agg #[.int .i64 f, .int .u64 h, .int .u64 l]] w fun e w' => e = .returned (.bool (Ad.right ⟨f, h, l⟩)) ∧ w' = w.alloc (.cells #[.int .i64 f, .int .u64 h, .int .u64 l] 35) := by
  go_enter Try.func53, Try.ntmps53
  by_cases hf : f = 4
  · by_cases hh : h = 0
    · go_wp2
      go_ret
      exact ⟨by simp [Ad.right, hf, hh], by simp [*]⟩
    · go_wp2
      go_ret
      exact ⟨by simp [Ad.right, hf, hh], by simp [*]⟩
  · go_wp2
    go_ret
    exact ⟨by simp [Ad.right, hf], by simp [*]⟩
/-- The k lowest bits as 0. -/
def cutLow (x : Int) (k : Nat) : Int := x / 2 ^ k * 2 ^ k
/-- The address with its bits from the place bits on 0. -/
def Ad.masked (a : Ad) (bits : Int) : Ad :=
  ⟨a.fam, cutLow a.hi (64 - min (bits + 128 - a.width) 64).toNat, cutLow a.lo (64 - max (bits + 128 - a.width - 64) 0).toNat⟩
def Ad.fits (a : Ad) (bits : Int) : Bool := a.right && (decide (0 ≤ bits) && decide (bits ≤ a.width))
def Ad.mask (a : Ad) (bits : Int) : Ad × Int := if a.fits bits then (a.masked bits, 0) else (⟨0, 0, 0⟩, 1)
theorem kept {W w1 : World} {b o : Nat} {v : Value} (hb : Below W.heap.size W w1) (h : W.cell? ⟨b, o, none⟩ = some v) : w1.cell? ⟨b, o, none⟩ = some v :=
  (hb.cell (World.block_lt_of_cell? W _ h)).trans h
theorem kept_alloc {W w1 : World} {b o : Nat} {v : Value} (hb : Below W.heap.size W w1) (X : Obj) (h : W.cell? ⟨b, o, none⟩ = some v) : (w1.alloc X).cell? ⟨b, o, none⟩ = some v :=
  kept (hb.alloc hb.size X) h
/-- Are they one address? -/
def Ad.same (a b : Ad) : Bool := a.fam == b.fam && (a.hi == b.hi && a.lo == b.lo)
def Ad.has (p : Ad) (n : Int) (a : Ad) : Bool := (a.mask n).2 == 0 && (a.mask n).1.same p
end Go.Proofs.Ytmnkdogdligckaa
namespace Go.Proofs.Ytmnkdogdligckaa
open Go.RowKit
set_option linter.unusedVariables false
theorem tup_int {k : IntKind} {a b : Int} {c : Bool} (h : a = b) : Ending.returned (.tuple #[.int k a, .bool c]) = .returned (.tuple #[.int k b, .bool c]) := by rw [h]
/-- Whether n bytes from at on lie among len. -/
def liesB (len : Nat) (at_ n : Int) : Bool := decide (0 ≤ at_ ∧ 0 ≤ n ∧ n ≤ (len : Int) - at_)
set_option maxHeartbeats 400000 in
theorem lies_any (a : Option Addr) (len cap : Nat) (x n : Int) (w : World) (hl : len ≤ 140737488355328) (hx : -9223372036854775808 ≤ x ∧ x ≤ 9223372036854775807) :
    Calls Try.prog 45 #[.slice a len cap, .int .i64 x, .int .i64 n] w fun e w' => e = .returned (.bool (liesB len x n)) ∧ w' = w := by
  by_cases h1 : 0 ≤ x
  · by_cases h2 : 0 ≤ n
    · by_cases h3 : n ≤ (len : Int) - x
      · have e : liesB len x n = true := by unfold liesB; simp; omega
        rw [e]; clear e
        go_enter Try.func45, Try.ntmps45
        go_wp2
        go_ret
        simp
      · have e : liesB len x n = false := by unfold liesB; simp; omega
        rw [e]; clear e
        go_enter Try.func45, Try.ntmps45
        go_wp2
        go_ret
        simp
    · have e : liesB len x n = false := by unfold liesB; simp; omega
      rw [e]; clear e
      go_enter Try.func45, Try.ntmps45
      go_wp2
      go_ret
      simp
  · have e : liesB len x n = false := by unfold liesB; simp; omega
    rw [e]; clear e
    go_enter Try.func45, Try.ntmps45
    go_wp2
    go_ret
    simp
/-- The number in two bytes. -/
def u16 (l : List Int) (x : Int) : Int := 256 * l.getD x.toNat 0 + l.getD (x.toNat + 1) 0
/-- The number in four bytes. -/
def u32 (l : List Int) (x : Int) : Int := 16777216 * l.getD x.toNat 0 + 65536 * l.getD (x.toNat + 1) 0 + 256 * l.getD (x.toNat + 2) 0 + l.getD (x.toNat + 3) 0
set_option maxHeartbeats 400000 in
theorem u16_yes (a : Option Addr) (cap : Nat) (l : List Int) (x : Int) (w : World) (h : Row w a l) (hx0 : 0 ≤ x) (hx1 : x + 2 ≤ l.length) :
    Calls Try.prog 27 #[.slice a l.length cap, .int .i64 x] w fun e w' => e = .returned (.tuple #[.int .i64 (u16 l x), .bool true]) ∧ ∃ n, w' = w.drewN n := by
  have hs := h.small
  have hn : liesB l.length x 2 = true := by unfold liesB; simp; omega
  obtain ⟨b, off, rfl, hc⟩ := h.cells (by omega)
  obtain ⟨k, rfl⟩ := Int.eq_ofNat_of_zero_le hx0
  have c0 := hc k (by omega)
  have c1 := hc (k + 1) (by omega)
  have b0 := h.bytes.get k
  have b1 := h.bytes.get (k + 1)
  have hu : u16 l k = 256 * l.getD k 0 + l.getD (k + 1) 0 := rfl
  rw [hu]
  clear hc hu
  generalize l.getD k 0 = y0 at *
  generalize l.getD (k + 1) 0 = y1 at *
  have k1 : (k : Int) + 1 < (l.length : Int) := by omega
  go_enter Try.func27, Try.ntmps27
  go_wp2_with (go_at_call 45; refine (lies_any _ _ _ _ _ _ hs (by omega)).mono ?_; rintro e w' ⟨rfl, rfl⟩)
  go_quiet (fail)
  go_wp2
  go_ret2
  exact ⟨tup_int (i64_or8 _ _ b0.1 b0.2 b1.1 b1.2), nq, rfl⟩
set_option maxHeartbeats 400000 in
theorem u32_yes (a : Option Addr) (cap : Nat) (l : List Int) (x : Int) (w : World) (h : Row w a l) (hx0 : 0 ≤ x) (hx1 : x + 4 ≤ l.length) :
    Calls Try.prog 66 #[.slice a l.length cap, .int .i64 x] w fun e w' => e = .returned (.tuple #[.int .u32 (u32 l x), .bool true]) ∧ ∃ n, w' = w.drewN n := by
  have hs := h.small
  have hn : liesB l.length x 4 = true := by unfold liesB; simp; omega
  obtain ⟨b, off, rfl, hc⟩ := h.cells (by omega)
  obtain ⟨k, rfl⟩ := Int.eq_ofNat_of_zero_le hx0
  have c0 := hc k (by omega)
  have c1 := hc (k + 1) (by omega)
  have c2 := hc (k + 2) (by omega)
  have c3 := hc (k + 3) (by omega)
  have b0 := h.bytes.get k
  have b1 := h.bytes.get (k + 1)
  have b2 := h.bytes.get (k + 2)
  have b3 := h.bytes.get (k + 3)
  have hu : u32 l k = 16777216 * l.getD k 0 + 65536 * l.getD (k + 1) 0 + 256 * l.getD (k + 2) 0 + l.getD (k + 3) 0 := rfl
  rw [hu]
  clear hc hu
  generalize l.getD k 0 = y0 at *
  generalize l.getD (k + 1) 0 = y1 at *
  generalize l.getD (k + 2) 0 = y2 at *
  generalize l.getD (k + 3) 0 = y3 at *
  have k1 : (k : Int) + 1 < (l.length : Int) := by omega
  have k2 : (k : Int) + 2 < (l.length : Int) := by omega
  have k3 : (k : Int) + 3 < (l.length : Int) := by omega
  go_enter Try.func66, Try.ntmps66
  go_wp2_with (go_at_call 45; refine (lies_any _ _ _ _ _ _ hs (by omega)).mono ?_; rintro e w' ⟨rfl, rfl⟩)
  go_quiet (fail)
  go_wp2
  go_ret2
  refine ⟨tup_int ?_, nq, rfl⟩
  exact u32_or4 _ _ _ _ b0.1 b0.2 b1.1 b1.2 b2.1 b2.2 b3.1 b3.2
end Go.Proofs.Ytmnkdogdligckaa
