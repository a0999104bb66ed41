/- Reading numbers and parts from any place, in one sentence each, for the program and for the reference. -/
import Derived.Test.YtgdpcomcndidcaaRefReads
namespace Go.Proofs.Ytgdpcomcndidcaa
open Go.RowKit
set_option linter.unusedVariables false

def u16v (l : List Int) (x : Int) : Int := if liesB l.length x 2 then u16 l x else 0
def u32v (l : List Int) (x : Int) : Int := if liesB l.length x 4 then u32 l x else 0
def partv (l : List Int) (x n : Int) : List Int := if liesB l.length x n then part l x n else []

theorem lies_yes {len : Nat} {x n : Int} (h : liesB len x n = true) : 0 ≤ x ∧ 0 ≤ n ∧ n ≤ (len : Int) - x := by simpa [liesB] using h

theorem u16_any (a : Option Addr) (c : Nat) (l : List Int) (x : Int) (w : World) (h : Row w a l) (hx : -9223372036854775808 ≤ x ∧ x ≤ 9223372036854775807) :
    Calls Try.prog 83 #[.slice a l.length c, .int .i64 x] w fun e w' => e = .returned (.tuple #[.int .i64 (u16v l x), .bool (liesB l.length x 2)]) ∧ Below w.heap.size w w' := by
  cases hl : liesB l.length x 2 with
  | false =>
    refine (u16_no a c l x w h hx hl).mono ?_
    rintro e w' ⟨rfl, rfl⟩
    unfold u16v; rw [hl]
    exact ⟨rfl, Below.refl _ _⟩
  | true =>
    have := lies_yes hl
    refine (u16_yes a c l x w h (by omega) (by omega)).mono ?_
    rintro e w' ⟨rfl, n, rfl⟩
    unfold u16v; rw [hl]
    exact ⟨rfl, below_drewN (Below.refl _ _) n⟩
theorem u32_any (a : Option Addr) (c : Nat) (l : List Int) (x : Int) (w : World) (h : Row w a l) (hx : -9223372036854775808 ≤ x ∧ x ≤ 9223372036854775807) :
    Calls Try.prog 69 #[.slice a l.length c, .int .i64 x] w fun e w' => e = .returned (.tuple #[.int .u32 (u32v l x), .bool (liesB l.length x 4)]) ∧ Below w.heap.size w w' := by
  cases hl : liesB l.length x 4 with
  | false =>
    refine (u32_no a c l x w h hx hl).mono ?_
    rintro e w' ⟨rfl, rfl⟩
    unfold u32v; rw [hl]
    exact ⟨rfl, Below.refl _ _⟩
  | true =>
    have := lies_yes hl
    refine (u32_yes a c l x w h (by omega) (by omega)).mono ?_
    rintro e w' ⟨rfl, n, rfl⟩
    unfold u32v; rw [hl]
    exact ⟨rfl, below_drewN (Below.refl _ _) n⟩
theorem ru16_any (a : Option Addr) (c : Nat) (l : List Int) (x : Int) (w : World) (h : Row w a l) (hnil : a = none → c = 0) (hll : l.length ≤ 140737488351232) (hc : l.length ≤ c) (hcm : c ≤ 9223372036854775807) (hx : -9223372036854775808 ≤ x ∧ x ≤ 9223372036854775807) :
    Calls Try.prog 60 #[.slice a l.length c, .int .i64 x] w fun e w' => e = .returned (.tuple #[.int .i64 (u16v l x), .bool (liesB l.length x 2)]) ∧ Below w.heap.size w w' := by
  cases hl : liesB l.length x 2 with
  | false =>
    refine (ru16_no a c l x w hll hx hl).mono ?_
    rintro e w' ⟨rfl, rfl⟩
    unfold u16v; rw [hl]
    exact ⟨rfl, Below.refl _ _⟩
  | true =>
    have := lies_yes hl
    refine (ru16_yes a c l x w h hnil hll hc hcm (by omega) (by omega)).mono ?_
    rintro e w' ⟨rfl, hb⟩
    unfold u16v; rw [hl]
    exact ⟨rfl, hb⟩
theorem ru32_any (a : Option Addr) (c : Nat) (l : List Int) (x : Int) (w : World) (h : Row w a l) (hnil : a = none → c = 0) (hll : l.length ≤ 140737488351232) (hc : l.length ≤ c) (hcm : c ≤ 9223372036854775807) (hx : -9223372036854775808 ≤ x ∧ x ≤ 9223372036854775807) :
    Calls Try.prog 59 #[.slice a l.length c, .int .i64 x] w fun e w' => e = .returned (.tuple #[.int .u32 (u32v l x), .bool (liesB l.length x 4)]) ∧ Below w.heap.size w w' := by
  cases hl : liesB l.length x 4 with
  | false =>
    refine (ru32_no a c l x w hll hx hl).mono ?_
    rintro e w' ⟨rfl, rfl⟩
    unfold u32v; rw [hl]
    exact ⟨rfl, Below.refl _ _⟩
  | true =>
    have := lies_yes hl
    refine (ru32_yes a c l x w h hnil hll hc hcm (by omega) (by omega)).mono ?_
    rintro e w' ⟨rfl, hb⟩
    unfold u32v; rw [hl]
    exact ⟨rfl, hb⟩
theorem Fresh.none (w : World) : Fresh w w none 0 [] := ⟨Owns.nil _ _, Nat.le_refl _, fun _ => rfl, ⟨by simp, M.Bytes.nil, fun h => by simp at h⟩, Below.refl _ _⟩
theorem part_any (a : Option Addr) (c : Nat) (l : List Int) (x n : Int) (w : World) (h : Row w a l) (hnil : a = none → c = 0) (hll : l.length ≤ 140737488351232) (hc : l.length ≤ c) (hcm : c ≤ 9223372036854775807) (hx : -9223372036854775808 ≤ x ∧ x ≤ 9223372036854775807) :
    Calls Try.prog 92 #[.slice a l.length c, .int .i64 x, .int .i64 n] w fun e w' => ∃ a' c', e = .returned (.tuple #[.slice a' (partv l x n).length c', .bool (liesB l.length x n)]) ∧ Fresh w w' a' c' (partv l x n) := by
  cases hl : liesB l.length x n with
  | false =>
    refine (part_no a c l x n w hll hx hl).mono ?_
    rintro e w' ⟨rfl, rfl⟩
    unfold partv; rw [hl]
    exact ⟨none, 0, rfl, Fresh.none _⟩
  | true =>
    have := lies_yes hl
    refine (part_yes a c l x n w h hnil hll hc hcm (by omega) (by omega) (by omega)).mono ?_
    rintro e w' ⟨a', c', rfl, hf⟩
    unfold partv; rw [hl]
    exact ⟨a', c', rfl, hf⟩
theorem rpart_any (a : Option Addr) (c : Nat) (l : List Int) (x n : Int) (w : World) (h : Row w a l) (hnil : a = none → c = 0) (hll : l.length ≤ 140737488351232) (hc : l.length ≤ c) (hcm : c ≤ 9223372036854775807) (hx : -9223372036854775808 ≤ x ∧ x ≤ 9223372036854775807) :
    Calls Try.prog 74 #[.slice a l.length c, .int .i64 x, .int .i64 n] w fun e w' => ∃ a' c', e = .returned (.tuple #[.slice a' (partv l x n).length c', .bool (liesB l.length x n)]) ∧ Fresh w w' a' c' (partv l x n) := by
  cases hl : liesB l.length x n with
  | false =>
    refine (rpart_no a c l x n w hll hx hl).mono ?_
    rintro e w' ⟨rfl, rfl⟩
    unfold partv; rw [hl]
    exact ⟨none, 0, rfl, Fresh.none _⟩
  | true =>
    have := lies_yes hl
    refine (rpart_yes a c l x n w h hnil hll hc hcm (by omega) (by omega) (by omega)).mono ?_
    rintro e w' ⟨a', c', rfl, hf⟩
    unfold partv; rw [hl]
    exact ⟨a', c', rfl, hf⟩
end Go.Proofs.Ytgdpcomcndidcaa
