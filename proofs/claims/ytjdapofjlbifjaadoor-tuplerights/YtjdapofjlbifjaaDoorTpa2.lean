/- Texts joined: Adr -/
import Derived.Test.YtjdapofjlbifjaaDoorTpa1
import Derived.Test.YtjdapofjlbifjaaDoorRows
import Derived.WalkKit
import Derived.Laws.BitsAllLaws
import Derived.Laws.BitsLemmas
import Derived.Laws.Bits128
import Derived.Laws.Shifts
import Derived.Laws.ShiftsVarLaws
import Derived.Laws.StructEq
import Derived.Deep.QuietTactic
import Derived.BigQuiet
import Derived.Deep.RegionWith
import Derived.Deep.DeepCutAuto
namespace Go.Proofs.YtjdapofjlbifjaaDoor
open Go.RowKit
set_option linter.unusedVariables false
set_option linter.unusedSimpArgs false
/-- An address, as three numbers. -/
structure Ad where
  fam : Int
  hi : Int
  lo : Int
/-- Its numbers lie in their kinds. -/
def Ad.ok (a : Ad) : Prop := (-9223372036854775808 ≤ a.fam ∧ a.fam ≤ 9223372036854775807) ∧ (0 ≤ a.hi ∧ a.hi ≤ 18446744073709551615) ∧ (0 ≤ a.lo ∧ a.lo ≤ 18446744073709551615)
abbrev Ad.v (a : Ad) : Value := .agg #[.int .i64 a.fam, .int .u64 a.hi, .int .u64 a.lo]
def Ad.right (a : Ad) : Bool := if a.fam = 4 then (a.hi == 0) && (a.lo / 4294967296 == 0) else a.fam == 6
def Ad.width (a : Ad) : Int := if a.fam = 4 then 32 else 128
theorem width_any (f h l : Int) (w : World) :
    Calls Tryd.prog 56 #[.agg #[.int .i64 f, .int .u64 h, .int .u64 l]] w fun e w' => e = .returned (.int .i64 (Ad.width ⟨f, h, l⟩)) ∧ w' = w.alloc (.cells #[.int .i64 f, .int .u64 h, .int .u64 l] 24) := by
  go_enter Tryd.func56, Tryd.ntmps56
  by_cases hf : f = 4
  · go_wp2
    go_ret
    exact ⟨ret_int (by simp [Ad.width, hf]), by simp [*]⟩
  · go_wp2
    go_ret
    exact ⟨ret_int (by simp [Ad.width, hf]), by simp [*]⟩
theorem right_any (f h l : Int) (w : World) :
    Calls Tryd.prog 38 #[.agg #[.int .i64 f, .int .u64 h, .int .u64 l]] w fun e w' => e = .returned (.bool (Ad.right ⟨f, h, l⟩)) ∧ w' = w.alloc (.cells #[.int .i64 f, .int .u64 h, .int .u64 l] 24) := by
  go_enter Tryd.func38, Tryd.ntmps38
  by_cases hf : f = 4
  · by_cases hh : h = 0
    · go_wp2
      go_ret
      exact ⟨by simp [Ad.right, hf, hh], by simp [*]⟩
    · go_wp2
      go_ret
      exact ⟨by simp [Ad.right, hf, hh], by simp [*]⟩
  · go_wp2
    go_ret
    exact ⟨by simp [Ad.right, hf], by simp [*]⟩
theorem shl_ones (k : Nat) (hk : k ≤ 64) : IntKind.u64.wrap (18446744073709551615 * 2 ^ k) = 18446744073709551616 - 2 ^ k := by
  have h1 : (1 : Int) ≤ 2 ^ k := Int.le_of_lt_add_one (by have := Int.pow_pos (n := 2) (m := k) (by decide); omega)
  have h2 : (2 : Int) ^ k ≤ 18446744073709551616 := by
    have h : ((2 ^ k : Nat) : Int) ≤ ((2 ^ 64 : Nat) : Int) := Int.ofNat_le.2 (Nat.pow_le_pow_right (by decide) hk)
    have e : ((2 ^ k : Nat) : Int) = 2 ^ k := Int.natCast_pow 2 k
    rw [← e]
    exact h
  rw [IntKind.wrap_u64]
  generalize (2 : Int) ^ k = p at *
  omega
theorem nat_and_high (x k : Nat) (hx : x < 2 ^ 64) (hk : k ≤ 64) : x &&& (2 ^ 64 - 2 ^ k) = x / 2 ^ k * 2 ^ k := by
  have e : 2 ^ 64 - 2 ^ k = (2 ^ (64 - k) - 1) <<< k := by
    rw [Nat.shiftLeft_eq, Nat.sub_mul, ← Nat.pow_add, Nat.sub_add_cancel hk, Nat.one_mul]
  have e2 : x / 2 ^ k * 2 ^ k = (x >>> k) <<< k := by rw [Nat.shiftLeft_eq, Nat.shiftRight_eq_div_pow]
  rw [e, e2]
  apply Nat.eq_of_testBit_eq
  intro i
  rw [Nat.testBit_and, Nat.testBit_shiftLeft, Nat.testBit_shiftLeft, Nat.testBit_two_pow_sub_one, Nat.testBit_shiftRight]
  by_cases hi : k ≤ i
  · have : k + (i - k) = i := by omega
    by_cases h64 : i < 64
    · have : i - k < 64 - k := by omega
      simp [*]
    · have hb : x.testBit i = false := Nat.testBit_lt_two_pow (Nat.lt_of_lt_of_le hx (Nat.pow_le_pow_right (by decide) (by omega)))
      simp [*]
  · simp [hi]
/-- The k lowest bits as 0. -/
def cutLow (x : Int) (k : Nat) : Int := x / 2 ^ k * 2 ^ k
theorem and_high (x : Int) (k : Nat) (hx0 : 0 ≤ x) (hx1 : x ≤ 18446744073709551615) (hk : k ≤ 64) : bits .and .u64 x (18446744073709551616 - 2 ^ k) = cutLow x k := by
  obtain ⟨n, rfl⟩ := Int.eq_ofNat_of_zero_le hx0
  have hn : n < 2 ^ 64 := by omega
  have hp : (2 : Nat) ^ k ≤ 2 ^ 64 := Nat.pow_le_pow_right (by decide) hk
  have hp1 : 1 ≤ (2 : Nat) ^ k := Nat.one_le_two_pow
  have e : (18446744073709551616 - 2 ^ k : Int) = ((2 ^ 64 - 2 ^ k : Nat) : Int) := by
    rw [Int.ofNat_sub hp]; simp
  rw [e]
  show IntKind.u64.wrap ((BitVec.ofInt 64 (n : Int) &&& BitVec.ofInt 64 ((2 ^ 64 - 2 ^ k : Nat) : Int)).toNat : Int) = _
  rw [BitVec.toNat_and, ofInt_u64 n (by omega), ofInt_u64 (2 ^ 64 - 2 ^ k) (by omega), nat_and_high n k hn hk, IntKind.wrap_u64, cutLow]
  have hle : n / 2 ^ k * 2 ^ k ≤ n := Nat.div_mul_le_self _ _
  have e2 : ((n / 2 ^ k * 2 ^ k : Nat) : Int) = (n : Int) / 2 ^ k * 2 ^ k := by simp
  rw [← e2]
  omega
theorem upper_any (n : Int) (w : World) (h0 : 0 ≤ n) (h1 : n ≤ 64) :
    Calls Tryd.prog 61 #[.int .i64 n] w fun e w' => e = .returned (.int .u64 (18446744073709551616 - 2 ^ (64 - n).toNat)) ∧ w' = w := by
  go_enter Tryd.func61, Tryd.ntmps61
  go_wp2
  go_ret
  exact ⟨ret_int (shl_ones _ (by omega)), rfl⟩
/-- The address with its bits from the place bits on 0. -/
def Ad.masked (a : Ad) (bits : Int) : Ad :=
  ⟨a.fam, cutLow a.hi (64 - min (bits + 128 - a.width) 64).toNat, cutLow a.lo (64 - max (bits + 128 - a.width - 64) 0).toNat⟩
def Ad.fits (a : Ad) (bits : Int) : Bool := a.right && (decide (0 ≤ bits) && decide (bits ≤ a.width))
def Ad.mask (a : Ad) (bits : Int) : Ad × Int := if a.fits bits then (a.masked bits, 0) else (⟨0, 0, 0⟩, 1)
theorem mask_bad {a : Ad} {b : Int} (h : a.fits b = false) : a.mask b = (⟨0, 0, 0⟩, 1) := by simp [Ad.mask, h]
theorem mask_good {a : Ad} {b : Int} (h : a.fits b = true) : a.mask b = (a.masked b, 0) := by simp [Ad.mask, h]
set_option maxHeartbeats 4000000 in
theorem mask_any (f h l b : Int) (w : World) (ho : Ad.ok ⟨f, h, l⟩) :
    Calls Tryd.prog 53 #[.agg #[.int .i64 f, .int .u64 h, .int .u64 l], .int .i64 b] w fun e w' =>
      e = .returned (.tuple #[(Ad.mask ⟨f, h, l⟩ b).1.v, .int .i64 (Ad.mask ⟨f, h, l⟩ b).2]) ∧ Below w.heap.size w w' := by
  have hw : Ad.width ⟨f, h, l⟩ = 32 ∨ Ad.width ⟨f, h, l⟩ = 128 := by unfold Ad.width; split <;> simp
  obtain ⟨W, hW⟩ : ∃ W, Ad.width ⟨f, h, l⟩ = W := ⟨_, rfl⟩
  rw [hW] at hw
  have hwd := width_any f h l
  rw [hW] at hwd
  have HM : Hid (Ad.masked ⟨f, h, l⟩ b = ⟨f, cutLow h (64 - min (b + 128 - W) 64).toNat, cutLow l (64 - max (b + 128 - W - 64) 0).toNat⟩) := by show _ = _; unfold Ad.masked; rw [hW]
  have hr := right_any f h l
  generalize hR : Ad.right ⟨f, h, l⟩ = R at hr
  by_cases hf : R = true ∧ 0 ≤ b ∧ b ≤ W
  · obtain ⟨rfl, hb0, hb1⟩ := hf
    have hfit : Ad.fits ⟨f, h, l⟩ b = true := by simp [Ad.fits, hR, hW, hb0, hb1]
    rw [mask_good hfit, HM.out]
    obtain ⟨⟨_, _⟩, ⟨hh0, hh1⟩, ⟨hl0, hl1⟩⟩ := ho
    simp only at hh0 hh1 hl0 hl1
    obtain ⟨K, hK⟩ : ∃ K, b + 128 - W = K := ⟨_, rfl⟩
    rw [hK]
    have hK0 : 0 ≤ K := by omega
    have hK1 : K ≤ 128 := by omega
    have hs : IntKind.i64.wrap (K - 64) = K - 64 := by rw [IntKind.wrap_i64]; omega
    obtain ⟨m1, hm1⟩ : ∃ m1, (if (64 : Int) < K then 64 else K) = m1 := ⟨_, rfl⟩
    obtain ⟨m2, hm2⟩ : ∃ m2, (if K - 64 < (0 : Int) then 0 else K - 64) = m2 := ⟨_, rfl⟩
    have hm10 : 0 ≤ m1 ∧ m1 ≤ 64 := by rw [← hm1]; split <;> omega
    have hm20 : 0 ≤ m2 ∧ m2 ≤ 64 := by rw [← hm2]; split <;> omega
    have E1 : min K 64 = m1 := by rw [← hm1]; split <;> omega
    have E2 : max (K - 64) 0 = m2 := by rw [← hm2]; split <;> omega
    have e1 := and_high h (64 - m1).toNat hh0 hh1 (by omega)
    have e2 := and_high l (64 - m2).toNat hl0 hl1 (by omega)
    rw [E1, E2]
    clear HM hfit hR hW E1 E2
    generalize cutLow h _ = h' at *
    generalize cutLow l _ = l' at *
    go_enter Tryd.func53, Tryd.ntmps53
    go_wp2_with (first | (go_at_call 38; refine (hr _).mono ?_; rintro e w' ⟨rfl, rfl⟩) | (go_at_call 56; refine (hwd _).mono ?_; rintro e w' ⟨rfl, rfl⟩))
    clear hr hwd
    go_cut [] (fun w' => w' = (((((w.alloc (.cells #[.int .i64 f, .int .u64 h', .int .u64 l] 24)).alloc (.cells #[.int .i64 0, .int .u64 0, .int .u64 0] 24)).alloc (.cells #[.int .i64 f, .int .u64 h, .int .u64 l] 24)).alloc (.cells #[.int .i64 f, .int .u64 h, .int .u64 l] 24)).alloc (.cells #[.int .i64 f, .int .u64 h, .int .u64 l] 24)).drew)
    case first =>
      go_region_with (go_at_call 61; refine (upper_any _ _ (by omega) (by omega)).mono ?_; rintro e w' ⟨rfl, rfl⟩)
      all_goals go_wp2
      all_goals go_meet
      all_goals rfl
    case rest =>
      subst hcut
      go_wp2
      go_region_with (go_at_call 61; refine (upper_any _ _ (by omega) (by omega)).mono ?_; rintro e w' ⟨rfl, rfl⟩)
      all_goals go_wp2
      all_goals exact bodyPost_ret (v := .tuple #[.agg #[.int .i64 f, .int .u64 h', .int .u64 l'], .int .i64 0]) (by simp [results, Tryd.results53, go_sem]) rfl ⟨rfl, by repeat (first | exact Below.refl _ _ | refine Below.drew ?_ | refine Below.alloc ?_ (by simp <;> omega) _)⟩
  · have hfit : Ad.fits ⟨f, h, l⟩ b = false := by
      cases R <;> simp_all [Ad.fits]
    rw [mask_bad hfit]
    clear hR hW HM hfit
    go_enter Tryd.func53, Tryd.ntmps53
    cases R
    · go_wp2_with (first | (go_at_call 38; refine (hr _).mono ?_; rintro e w' ⟨rfl, rfl⟩) | (go_at_call 56; refine (hwd _).mono ?_; rintro e w' ⟨rfl, rfl⟩))
      exact bodyPost_ret (v := .tuple #[.agg #[.int .i64 0, .int .u64 0, .int .u64 0], .int .i64 1]) (by simp [results, Tryd.results53, go_sem]) rfl ⟨rfl, by repeat (first | exact Below.refl _ _ | refine Below.drew ?_ | refine Below.alloc ?_ (by simp <;> omega) _)⟩
    · by_cases hb : b < 0
      · go_wp2_with (first | (go_at_call 38; refine (hr _).mono ?_; rintro e w' ⟨rfl, rfl⟩) | (go_at_call 56; refine (hwd _).mono ?_; rintro e w' ⟨rfl, rfl⟩))
        exact bodyPost_ret (v := .tuple #[.agg #[.int .i64 0, .int .u64 0, .int .u64 0], .int .i64 1]) (by simp [results, Tryd.results53, go_sem]) rfl ⟨rfl, by repeat (first | exact Below.refl _ _ | refine Below.drew ?_ | refine Below.alloc ?_ (by simp <;> omega) _)⟩
      · have hb' : W < b := by simp at hf; omega
        go_wp2_with (first | (go_at_call 38; refine (hr _).mono ?_; rintro e w' ⟨rfl, rfl⟩) | (go_at_call 56; refine (hwd _).mono ?_; rintro e w' ⟨rfl, rfl⟩))
        exact bodyPost_ret (v := .tuple #[.agg #[.int .i64 0, .int .u64 0, .int .u64 0], .int .i64 1]) (by simp [results, Tryd.results53, go_sem]) rfl ⟨rfl, by repeat (first | exact Below.refl _ _ | refine Below.drew ?_ | refine Below.alloc ?_ (by simp <;> omega) _)⟩
end Go.Proofs.YtjdapofjlbifjaaDoor
