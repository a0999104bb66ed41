/- Texts joined: Adr Pre MaskLaw Frm Ord App Parts Byt -/
import Derived.Test.YtmfgjicfdjjihaaGreatDoorLxa0
import Derived.Test.YtmfgjicfdjjihaaGreatDoorRows
import Derived.WalkKit
import Derived.Laws.BitsAllLaws
import Derived.Laws.BitsLemmas
import Derived.Laws.Bits128
import Derived.Laws.Shifts
import Derived.Laws.ShiftsVarLaws
import Derived.Laws.StructEq
import Derived.Deep.QuietTactic
import Derived.BigQuiet
import Derived.Deep.RegionWith
import Derived.Deep.DeepCutAuto
import Derived.Deep.RegionHeld3
import Derived.Laws.AppendOwn
import Derived.Laws.AppendOwnNone
import Derived.Laws.OwnMore
import Derived.OwnWalk
import Derived.KernelRfl
import Derived.Laws.BytesArg
import Derived.Laws.MakeOwn
namespace Go.Proofs.YtmfgjicfdjjihaaGreatDoor
open Go.RowKit
set_option linter.unusedVariables false
set_option linter.unusedSimpArgs false
/-- An address, as three numbers. -/
structure Ad where
 fam : Int
 hi : Int
 lo : Int
/-- Its numbers lie in their kinds. -/
def Ad.ok (a : Ad) : Prop := (-9223372036854775808 ≤ a.fam ∧ a.fam ≤ 9223372036854775807) ∧ (0 ≤ a.hi ∧ a.hi ≤ 18446744073709551615) ∧ (0 ≤ a.lo ∧ a.lo ≤ 18446744073709551615)
abbrev Ad.v (a : Ad) : Value := .agg #[.int .i64 a.fam, .int .u64 a.hi, .int .u64 a.lo]
def Ad.right (a : Ad) : Bool := if a.fam = 4 then (a.hi == 0) && (a.lo / 4294967296 == 0) else a.fam == 6
def Ad.width (a : Ad) : Int := if a.fam = 4 then 32 else 128
theorem width_any (f h l : Int) (w : World) :
  Calls Tryz.prog 129 #[.agg #[.int .i64 f, .int .u64 h, .int .u64 l]] w fun e w' => e = .returned (.int .i64 (Ad.width ⟨f, h, l⟩)) ∧ w' = w.alloc (.cells #[.int .i64 f, .int .u64 h, .int .u64 l] 31) := by
 go_enter Tryz.func129, Tryz.ntmps129
 by_cases hf : f = 4
 ·go_wp2
  go_ret
  exact ⟨ret_int (by simp [Ad.width, hf]), by simp [*]⟩
 ·go_wp2
  go_ret
  exact ⟨ret_int (by simp [Ad.width, hf]), by simp [*]⟩
theorem right_any (f h l : Int) (w : World) :
  Calls Tryz.prog 103 #[.agg #[.int .i64 f, .int .u64 h, .int .u64 l]] w fun e w' => e = .returned (.bool (Ad.right ⟨f, h, l⟩)) ∧ w' = w.alloc (.cells #[.int .i64 f, .int .u64 h, .int .u64 l] 31) := by
 go_enter Tryz.func103, Tryz.ntmps103
 by_cases hf : f = 4
 ·by_cases hh : h = 0
  ·go_wp2
   go_ret
   exact ⟨by simp [Ad.right, hf, hh], by simp [*]⟩
  ·go_wp2
   go_ret
   exact ⟨by simp [Ad.right, hf, hh], by simp [*]⟩
 ·go_wp2
  go_ret
  exact ⟨by simp [Ad.right, hf], by simp [*]⟩
theorem shl_ones (k : Nat) (hk : k ≤ 64) : IntKind.u64.wrap (18446744073709551615 * 2 ^ k) = 18446744073709551616 - 2 ^ k := by
 have h1 : (1 : Int) ≤ 2 ^ k := Int.le_of_lt_add_one (by have := Int.pow_pos (n := 2) (m := k) (by decide); omega)
 have h2 : (2 : Int) ^ k ≤ 18446744073709551616 := by
  have h : ((2 ^ k : Nat) : Int) ≤ ((2 ^ 64 : Nat) : Int) := Int.ofNat_le.2 (Nat.pow_le_pow_right (by decide) hk)
  have e : ((2 ^ k : Nat) : Int) = 2 ^ k := Int.natCast_pow 2 k
  rw [← e]
  exact h
 rw [IntKind.wrap_u64]
 generalize (2 : Int) ^ k = p at *
 omega
theorem nat_and_high (x k : Nat) (hx : x < 2 ^ 64) (hk : k ≤ 64) : x &&& (2 ^ 64 - 2 ^ k) = x / 2 ^ k * 2 ^ k := by
 have e : 2 ^ 64 - 2 ^ k = (2 ^ (64 - k) - 1) <<< k := by
  rw [Nat.shiftLeft_eq, Nat.sub_mul, ← Nat.pow_add, Nat.sub_add_cancel hk, Nat.one_mul]
 have e2 : x / 2 ^ k * 2 ^ k = (x >>> k) <<< k := by rw [Nat.shiftLeft_eq, Nat.shiftRight_eq_div_pow]
 rw [e, e2]
 apply Nat.eq_of_testBit_eq
 intro i
 rw [Nat.testBit_and, Nat.testBit_shiftLeft, Nat.testBit_shiftLeft, Nat.testBit_two_pow_sub_one, Nat.testBit_shiftRight]
 by_cases hi : k ≤ i
 ·have : k + (i - k) = i := by omega
  by_cases h64 : i < 64
  ·have : i - k < 64 - k := by omega
   simp [*]
  ·have hb : x.testBit i = false := Nat.testBit_lt_two_pow (Nat.lt_of_lt_of_le hx (Nat.pow_le_pow_right (by decide) (by omega)))
   simp [*]
 ·simp [hi]
/-- The k lowest bits as 0. -/
def cutLow (x : Int) (k : Nat) : Int := x / 2 ^ k * 2 ^ k
theorem and_high (x : Int) (k : Nat) (hx0 : 0 ≤ x) (hx1 : x ≤ 18446744073709551615) (hk : k ≤ 64) : bits .and .u64 x (18446744073709551616 - 2 ^ k) = cutLow x k := by
 obtain ⟨n, rfl⟩ := Int.eq_ofNat_of_zero_le hx0
 have hn : n < 2 ^ 64 := by omega
 have hp : (2 : Nat) ^ k ≤ 2 ^ 64 := Nat.pow_le_pow_right (by decide) hk
 have hp1 : 1 ≤ (2 : Nat) ^ k := Nat.one_le_two_pow
 have e : (18446744073709551616 - 2 ^ k : Int) = ((2 ^ 64 - 2 ^ k : Nat) : Int) := by
  rw [Int.ofNat_sub hp]; simp
 rw [e]
 show IntKind.u64.wrap ((BitVec.ofInt 64 (n : Int) &&& BitVec.ofInt 64 ((2 ^ 64 - 2 ^ k : Nat) : Int)).toNat : Int) = _
 rw [BitVec.toNat_and, ofInt_u64 n (by omega), ofInt_u64 (2 ^ 64 - 2 ^ k) (by omega), nat_and_high n k hn hk, IntKind.wrap_u64, cutLow]
 have hle : n / 2 ^ k * 2 ^ k ≤ n := Nat.div_mul_le_self _ _
 have e2 : ((n / 2 ^ k * 2 ^ k : Nat) : Int) = (n : Int) / 2 ^ k * 2 ^ k := by simp
 rw [← e2]
 omega
theorem upper_any (n : Int) (w : World) (h0 : 0 ≤ n) (h1 : n ≤ 64) :
  Calls Tryz.prog 130 #[.int .i64 n] w fun e w' => e = .returned (.int .u64 (18446744073709551616 - 2 ^ (64 - n).toNat)) ∧ w' = w := by
 go_enter Tryz.func130, Tryz.ntmps130
 go_wp2
 go_ret
 exact ⟨ret_int (shl_ones _ (by omega)), rfl⟩
/-- The address with its bits from the place bits on 0. -/
def Ad.masked (a : Ad) (bits : Int) : Ad :=
 ⟨a.fam, cutLow a.hi (64 - min (bits + 128 - a.width) 64).toNat, cutLow a.lo (64 - max (bits + 128 - a.width - 64) 0).toNat⟩
def Ad.fits (a : Ad) (bits : Int) : Bool := a.right && (decide (0 ≤ bits) && decide (bits ≤ a.width))
def Ad.mask (a : Ad) (bits : Int) : Ad × Int := if a.fits bits then (a.masked bits, 0) else (⟨0, 0, 0⟩, 1)
theorem mask_bad {a : Ad} {b : Int} (h : a.fits b = false) : a.mask b = (⟨0, 0, 0⟩, 1) := by simp [Ad.mask, h]
theorem mask_good {a : Ad} {b : Int} (h : a.fits b = true) : a.mask b = (a.masked b, 0) := by simp [Ad.mask, h]
set_option maxHeartbeats 4000000 in
theorem mask_any (f h l b : Int) (w : World) (ho : Ad.ok ⟨f, h, l⟩) :
  Calls Tryz.prog 116 #[.agg #[.int .i64 f, .int .u64 h, .int .u64 l], .int .i64 b] w fun e w' =>
   e = .returned (.tuple #[(Ad.mask ⟨f, h, l⟩ b).1.v, .int .i64 (Ad.mask ⟨f, h, l⟩ b).2]) ∧ Below w.heap.size w w' := by
 have hw : Ad.width ⟨f, h, l⟩ = 32 ∨ Ad.width ⟨f, h, l⟩ = 128 := by unfold Ad.width; split <;> simp
 obtain ⟨W, hW⟩ : ∃ W, Ad.width ⟨f, h, l⟩ = W := ⟨_, rfl⟩
 rw [hW] at hw
 have hwd := width_any f h l
 rw [hW] at hwd
 have HM : Hid (Ad.masked ⟨f, h, l⟩ b = ⟨f, cutLow h (64 - min (b + 128 - W) 64).toNat, cutLow l (64 - max (b + 128 - W - 64) 0).toNat⟩) := by show _ = _; unfold Ad.masked; rw [hW]
 have hr := right_any f h l
 generalize hR : Ad.right ⟨f, h, l⟩ = R at hr
 by_cases hf : R = true ∧ 0 ≤ b ∧ b ≤ W
 ·obtain ⟨rfl, hb0, hb1⟩ := hf
  have hfit : Ad.fits ⟨f, h, l⟩ b = true := by simp [Ad.fits, hR, hW, hb0, hb1]
  rw [mask_good hfit, HM.out]
  obtain ⟨⟨_, _⟩, ⟨hh0, hh1⟩, ⟨hl0, hl1⟩⟩ := ho
  simp only at hh0 hh1 hl0 hl1
  obtain ⟨K, hK⟩ : ∃ K, b + 128 - W = K := ⟨_, rfl⟩
  rw [hK]
  have hK0 : 0 ≤ K := by omega
  have hK1 : K ≤ 128 := by omega
  have hs : IntKind.i64.wrap (K - 64) = K - 64 := by rw [IntKind.wrap_i64]; omega
  obtain ⟨m1, hm1⟩ : ∃ m1, (if (64 : Int) < K then 64 else K) = m1 := ⟨_, rfl⟩
  obtain ⟨m2, hm2⟩ : ∃ m2, (if K - 64 < (0 : Int) then 0 else K - 64) = m2 := ⟨_, rfl⟩
  have hm10 : 0 ≤ m1 ∧ m1 ≤ 64 := by rw [← hm1]; split <;> omega
  have hm20 : 0 ≤ m2 ∧ m2 ≤ 64 := by rw [← hm2]; split <;> omega
  have E1 : min K 64 = m1 := by rw [← hm1]; split <;> omega
  have E2 : max (K - 64) 0 = m2 := by rw [← hm2]; split <;> omega
  have e1 := and_high h (64 - m1).toNat hh0 hh1 (by omega)
  have e2 := and_high l (64 - m2).toNat hl0 hl1 (by omega)
  rw [E1, E2]
  clear HM hfit hR hW E1 E2
  generalize cutLow h _ = h' at *
  generalize cutLow l _ = l' at *
  go_enter Tryz.func116, Tryz.ntmps116
  go_wp2_with (first | (go_at_call 103; refine (hr _).mono ?_; rintro e w' ⟨rfl, rfl⟩) | (go_at_call 129; refine (hwd _).mono ?_; rintro e w' ⟨rfl, rfl⟩))
  clear hr hwd
  go_cut [] (fun w' => w' = (((((w.alloc (.cells #[.int .i64 f, .int .u64 h', .int .u64 l] 31)).alloc (.cells #[.int .i64 0, .int .u64 0, .int .u64 0] 31)).alloc (.cells #[.int .i64 f, .int .u64 h, .int .u64 l] 31)).alloc (.cells #[.int .i64 f, .int .u64 h, .int .u64 l] 31)).alloc (.cells #[.int .i64 f, .int .u64 h, .int .u64 l] 31)).drew)
  case first =>
   go_region_with (go_at_call 130; refine (upper_any _ _ (by omega) (by omega)).mono ?_; rintro e w' ⟨rfl, rfl⟩)
   all_goals go_wp2
   all_goals go_meet
   all_goals rfl
  case rest =>
   subst hcut
   go_wp2
   go_region_with (go_at_call 130; refine (upper_any _ _ (by omega) (by omega)).mono ?_; rintro e w' ⟨rfl, rfl⟩)
   all_goals go_wp2
   all_goals exact bodyPost_ret (v := .tuple #[.agg #[.int .i64 f, .int .u64 h', .int .u64 l'], .int .i64 0]) (by simp [results, Tryz.results116, go_sem]) rfl ⟨rfl, by repeat (first | exact Below.refl _ _ | refine Below.drew ?_ | refine Below.alloc ?_ (by simp <;> omega) _)⟩
 ·have hfit : Ad.fits ⟨f, h, l⟩ b = false := by
   cases R <;> simp_all [Ad.fits]
  rw [mask_bad hfit]
  clear hR hW HM hfit
  go_enter Tryz.func116, Tryz.ntmps116
  cases R
  ·go_wp2_with (first | (go_at_call 103; refine (hr _).mono ?_; rintro e w' ⟨rfl, rfl⟩) | (go_at_call 129; refine (hwd _).mono ?_; rintro e w' ⟨rfl, rfl⟩))
   exact bodyPost_ret (v := .tuple #[.agg #[.int .i64 0, .int .u64 0, .int .u64 0], .int .i64 1]) (by simp [results, Tryz.results116, go_sem]) rfl ⟨rfl, by repeat (first | exact Below.refl _ _ | refine Below.drew ?_ | refine Below.alloc ?_ (by simp <;> omega) _)⟩
  ·by_cases hb : b < 0
   ·go_wp2_with (first | (go_at_call 103; refine (hr _).mono ?_; rintro e w' ⟨rfl, rfl⟩) | (go_at_call 129; refine (hwd _).mono ?_; rintro e w' ⟨rfl, rfl⟩))
    exact bodyPost_ret (v := .tuple #[.agg #[.int .i64 0, .int .u64 0, .int .u64 0], .int .i64 1]) (by simp [results, Tryz.results116, go_sem]) rfl ⟨rfl, by repeat (first | exact Below.refl _ _ | refine Below.drew ?_ | refine Below.alloc ?_ (by simp <;> omega) _)⟩
   ·have hb' : W < b := by simp at hf; omega
    go_wp2_with (first | (go_at_call 103; refine (hr _).mono ?_; rintro e w' ⟨rfl, rfl⟩) | (go_at_call 129; refine (hwd _).mono ?_; rintro e w' ⟨rfl, rfl⟩))
    exact bodyPost_ret (v := .tuple #[.agg #[.int .i64 0, .int .u64 0, .int .u64 0], .int .i64 1]) (by simp [results, Tryz.results116, go_sem]) rfl ⟨rfl, by repeat (first | exact Below.refl _ _ | refine Below.drew ?_ | refine Below.alloc ?_ (by simp <;> omega) _)⟩
theorem kept {W w1 : World} {b o : Nat} {v : Value} (hb : Below W.heap.size W w1) (h : W.cell? ⟨b, o, none⟩ = some v) : w1.cell? ⟨b, o, none⟩ = some v :=
 (hb.cell (World.block_lt_of_cell? W _ h)).trans h
theorem kept_alloc {W w1 : World} {b o : Nat} {v : Value} (hb : Below W.heap.size W w1) (X : Obj) (h : W.cell? ⟨b, o, none⟩ = some v) : (w1.alloc X).cell? ⟨b, o, none⟩ = some v :=
 kept (hb.alloc hb.size X) h
/-- Are they one address? -/
def Ad.same (a b : Ad) : Bool := a.fam == b.fam && (a.hi == b.hi && a.lo == b.lo)
theorem Ad.same_iff {a b : Ad} : a.same b = true ↔ a = b := by
 cases a; cases b; simp [Ad.same]
def Ad.has (p : Ad) (n : Int) (a : Ad) : Bool := (a.mask n).2 == 0 && (a.mask n).1.same p
def Ad.rightPrefix (p : Ad) (n : Int) : Bool := p.has n p
set_option maxHeartbeats 400000 in
theorem rightPrefix_any (f h l b : Int) (w : World) (ho : Ad.ok ⟨f, h, l⟩) :
  Calls Tryz.prog 107 #[.agg #[.int .i64 f, .int .u64 h, .int .u64 l, .int .i64 b]] w fun e w' =>
   e = .returned (.bool (Ad.rightPrefix ⟨f, h, l⟩ b)) ∧ Below w.heap.size w w' := by
 unfold Ad.rightPrefix Ad.has
 have hm := fun w => mask_any f h l b w ho
 generalize Ad.mask ⟨f, h, l⟩ b = m at *
 obtain ⟨⟨mf, mh, ml⟩, me⟩ := m
 simp only at hm
 go_enter Tryz.func107, Tryz.ntmps107
 go_wp2_with fail
 refine (hm _).mono ?_
 rintro e w1 ⟨rfl, b1⟩
 have k0 : ∀ X, (w1.alloc X).cell? ⟨w.heap.size, 0, none⟩ = some (.int .i64 f) := fun X => kept_alloc b1 X (by simp)
 have k1 : ∀ X, (w1.alloc X).cell? ⟨w.heap.size, 1, none⟩ = some (.int .u64 h) := fun X => kept_alloc b1 X (by simp)
 have k2 : ∀ X, (w1.alloc X).cell? ⟨w.heap.size, 2, none⟩ = some (.int .u64 l) := fun X => kept_alloc b1 X (by simp)
 have bz : w.heap.size ≤ w1.heap.size := by have := b1.size; simp at this; omega
 by_cases he : me = 0
 ·go_wp2
  all_goals go_ret
  all_goals exact ⟨by first | simp_all [Ad.same] | simp [Ad.same, *], (((Below.refl _ _).alloc (Nat.le_refl _) _).trans (b1.mono (by simp))).alloc bz _⟩
 ·go_wp2
  go_ret
  exact ⟨by simp [he], (((Below.refl _ _).alloc (Nat.le_refl _) _).trans (b1.mono (by simp))).alloc bz _⟩
end Go.Proofs.YtmfgjicfdjjihaaGreatDoor
namespace Go.Proofs.YtmfgjicfdjjihaaGreatDoor
set_option linter.unusedVariables false
theorem pow_pos' (k : Nat) : (0 : Int) < 2 ^ k := Int.pow_pos (by decide)
theorem cutLow_idem (x : Int) (k : Nat) : cutLow (cutLow x k) k = cutLow x k := by
 unfold cutLow
 rw [Int.mul_ediv_cancel _ (by have := pow_pos' k; omega)]
theorem cutLow_le (x : Int) (k : Nat) (h : 0 ≤ x) : 0 ≤ cutLow x k ∧ cutLow x k ≤ x := by
 unfold cutLow
 have hp := pow_pos' k
 exact ⟨Int.mul_nonneg (Int.ediv_nonneg h (by omega)) (by omega), Int.ediv_mul_le _ (by omega)⟩
theorem masked_width (a : Ad) (b : Int) : (a.masked b).width = a.width := rfl
theorem masked_ok {a : Ad} {b : Int} (h : a.ok) : (a.masked b).ok := by
 obtain ⟨h1, h2, h3⟩ := h
 have e1 := cutLow_le a.hi (64 - min (b + 128 - a.width) 64).toNat h2.1
 have e2 := cutLow_le a.lo (64 - max (b + 128 - a.width - 64) 0).toNat h3.1
 exact ⟨h1, ⟨e1.1, Int.le_trans e1.2 h2.2⟩, ⟨e2.1, Int.le_trans e2.2 h3.2⟩⟩
theorem masked_right {a : Ad} {b : Int} (h : a.ok) (hr : a.right = true) : (a.masked b).right = true := by
 obtain ⟨h1, h2, h3⟩ := h
 unfold Ad.right at hr ⊢
 show (if a.fam = 4 then _ else _) = true
 by_cases hf : a.fam = 4
 ·rw [if_pos hf] at hr ⊢
  simp only [Bool.and_eq_true, beq_iff_eq] at hr ⊢
  have e1 := cutLow_le a.hi (64 - min (b + 128 - a.width) 64).toNat h2.1
  have e2 := cutLow_le a.lo (64 - max (b + 128 - a.width - 64) 0).toNat h3.1
  refine ⟨?_, ?_⟩
  ·show cutLow _ _ = 0
   omega
  ·show cutLow _ _ / 4294967296 = 0
   omega
 ·rw [if_neg hf] at hr ⊢
  exact hr
theorem masked_fits {a : Ad} {b : Int} (h : a.ok) (hf : a.fits b = true) : (a.masked b).fits b = true := by
 unfold Ad.fits at hf ⊢
 rw [masked_width]
 simp only [Bool.and_eq_true] at hf ⊢
 exact ⟨masked_right h hf.1, hf.2⟩
theorem masked_idem (a : Ad) (b : Int) : (a.masked b).masked b = a.masked b := by
 show (⟨_, _, _⟩ : Ad) = ⟨_, _, _⟩
 simp only [masked_width]
 show (⟨a.fam, cutLow (cutLow _ _) _, cutLow (cutLow _ _) _⟩ : Ad) = ⟨a.fam, cutLow _ _, cutLow _ _⟩
 rw [cutLow_idem, cutLow_idem]
theorem has_iff {p a : Ad} {n : Int} : Ad.has p n a = true ↔ a.fits n = true ∧ a.masked n = p := by
 unfold Ad.has
 by_cases hf : a.fits n = true
 ·rw [mask_good hf]
  simp only [Bool.and_eq_true, beq_self_eq_true, true_and, Ad.same_iff, hf]
 ·have hf' : a.fits n = false := by simpa using hf
  rw [mask_bad hf']
  simp [hf']
/-- What a prefix has is of its family, may be, and the prefix may be. -/
theorem has_all {p a : Ad} {n : Int} (ha : a.ok) (h : Ad.has p n a = true) : Ad.rightPrefix p n = true ∧ a.right = true ∧ a.fam = p.fam := by
 obtain ⟨hf, rfl⟩ := has_iff.1 h
 refine ⟨?_, ?_, rfl⟩
 ·unfold Ad.rightPrefix
  exact has_iff.2 ⟨masked_fits ha hf, masked_idem a n⟩
 ·unfold Ad.fits at hf
  simp only [Bool.and_eq_true] at hf
  exact hf.1
theorem fits_of {p a : Ad} {n : Int} (hp : Ad.rightPrefix p n = true) (hr : a.right = true) (hf : a.fam = p.fam) : a.fits n = true := by
 obtain ⟨h1, _⟩ := has_iff.1 hp
 unfold Ad.fits at h1 ⊢
 have : a.width = p.width := by unfold Ad.width; rw [hf]
 rw [this]
 simp only [Bool.and_eq_true] at h1 ⊢
 exact ⟨hr, h1.2⟩
end Go.Proofs.YtmfgjicfdjjihaaGreatDoor
namespace Go.Proofs.YtmfgjicfdjjihaaGreatDoor
open Go.RowKit
set_option linter.unusedVariables false
set_option linter.unusedSimpArgs false
/-- Bytes taken in, the highest first. -/
def fromGo : List Int → Int → Int → Int × Int
 | [], h, l => (h, l)
 | x :: xs, h, l => fromGo xs (h * 256 % 18446744073709551616 + l / 72057594037927936) (l * 256 % 18446744073709551616 + x)
def fromB (b : List Int) : Ad × Int :=
 if b.length = 4 then (⟨4, (fromGo b 0 0).1, (fromGo b 0 0).2⟩, 0) else if b.length = 16 then (⟨6, (fromGo b 0 0).1, (fromGo b 0 0).2⟩, 0) else (⟨0, 0, 0⟩, 1)
theorem wraps_u64 (n : Int) (h₀ : 0 ≤ n) (h₁ : n < 2 ^ 64) : IntKind.u64.wrap n = n := by rw [IntKind.wrap_u64]; omega
theorem or_low (x y : Int) (hy0 : 0 ≤ y) (hy1 : y < 256) : bits .or .u64 (IntKind.u64.wrap (x * 256)) y = x * 256 % 18446744073709551616 + y := by
 rw [IntKind.wrap_u64]
 exact bits_join .u64 64 (by decide) wraps_u64 8 _ y (by omega) (by omega) (by omega) hy0 (by omega) (by omega)
def cmp3 (x y : Int) : Int := if x < y then -1 else if y < x then 1 else 0
def Ad.order (a b : Ad) : Int := if cmp3 a.fam b.fam = 0 then (if cmp3 a.hi b.hi = 0 then cmp3 a.lo b.lo else cmp3 a.hi b.hi) else cmp3 a.fam b.fam
theorem rright_any (f h l : Int) (w : World) (hl : 0 ≤ l) :
  Calls Tryz.prog 41 #[.agg #[.int .i64 f, .int .u64 h, .int .u64 l]] w fun e w' => e = .returned (.bool (Ad.right ⟨f, h, l⟩)) ∧ w' = w.alloc (.cells #[.int .i64 f, .int .u64 h, .int .u64 l] 31) := by
 go_enter Tryz.func41, Tryz.ntmps41
 by_cases h6 : f = 6
 ·subst h6
  go_wp2
  go_ret
  exact ⟨by simp [Ad.right], rfl⟩
 ·by_cases h4 : f = 4
  ·subst h4
   by_cases hh : h = 0
   ·subst hh
    go_wp2
    go_ret
    refine ⟨?_, rfl⟩
    have e : decide (l < 4294967296) = (l / 4294967296 == 0) := by
     rw [Bool.eq_iff_iff]; simp; omega
    simp [Ad.right, e]
   ·go_wp2
    go_ret
    exact ⟨by simp [Ad.right, hh], rfl⟩
  ·go_wp2
   go_ret
   exact ⟨by simp [Ad.right, h4, h6], rfl⟩
theorem rsize_any (f : Int) (w : World) : Calls Tryz.prog 127 #[.int .i64 f] w fun e w' => e = .returned (.int .i64 (if f = 4 then 32 else 128)) ∧ w' = w := by
 go_enter Tryz.func127, Tryz.ntmps127
 by_cases h4 : f = 4
 ·subst h4
  rw [if_pos rfl]
  go_wp2
  go_ret
  exact ⟨rfl, rfl⟩
 ·rw [if_neg h4]
  go_wp2
  go_ret
  exact ⟨rfl, rfl⟩
end Go.Proofs.YtmfgjicfdjjihaaGreatDoor
namespace Go.Proofs.YtmfgjicfdjjihaaGreatDoor
open Go.RowKit
set_option linter.unusedVariables false
theorem info_u8 : (Tryz.prog.info? 5).map (fun i => (i.zero, i.size, i.bytes)) = some (some (.int .u8 0), 1, 1) := by kernel_rfl
/-- The slice value v owns the bytes l, in a block of the call's own (from B on), or is nil and l empty. -/
def Owns (w : World) (B : Nat) (v : Value) (l : List Int) : Prop := w.ownsRow B 5 1 v l.length (l.map (Value.int .u8))
theorem Owns.form {w : World} {B : Nat} {v : Value} {l : List Int} (h : Owns w B v l) :
  ∃ a c, v = .slice a l.length c ∧ l.length ≤ c ∧ (a = none → c = 0) ∧ (∀ x, a = some x → B ≤ x.block ∧ x.off = 0 ∧ x.spot = none) ∧ v.ownBlock = a.map (·.block) := by
 obtain ⟨h1, h2⟩ := h
 rcases h2 with ⟨rfl, h3⟩ | ⟨g, cap, cur, rfl, h3, h4, h5, h6, h7, h8⟩
 ·exact ⟨none, 0, by rw [h3], by omega, fun _ => rfl, fun _ h => (by cases h), rfl⟩
 ·exact ⟨_, cap, rfl, h5, fun h => (by cases h), fun x hx => (by cases hx; exact ⟨h3, rfl, rfl⟩), rfl⟩
theorem Owns.row {w : World} {B : Nat} {a : Option Addr} {c : Nat} {l : List Int} (h : Owns w B (.slice a l.length c) l) (hs : l.length ≤ 140737488355328) (hb : M.Bytes l) : Row w a l := by
 refine ⟨hs, hb, fun hp => ?_⟩
 have h0 := h
 obtain ⟨h1, h2⟩ := h
 rcases h2 with ⟨h3, h4⟩ | ⟨g, cap, cur, h3, h4, h5, h6, h7, h8, h9⟩
 ·omega
 ·simp only [Value.slice.injEq] at h3
  obtain ⟨rfl, _, rfl⟩ := h3
  refine ⟨g, 0, rfl, fun i hi => ?_⟩
  have hc := World.ownsRow.cellAt (e := 5) (size := 1) h0 i (by omega)
  rw [Nat.zero_add, hc]
  simp [hi]
theorem Owns.nil (w : World) (B : Nat) : Owns w B (.slice none 0 0) [] := World.ownsRow_nil _ _ _ _
theorem Owns.alloc {w : World} {B : Nat} {v : Value} {l : List Int} (h : Owns w B v l) (o : Obj) : Owns (w.alloc o) B v l := World.ownsRow.alloc h o
theorem Owns.drewN {w : World} {B : Nat} {v : Value} {l : List Int} (h : Owns w B v l) (n : Nat) : Owns (w.drewN n) B v l := h
/-- Behind memory that only grew. -/
theorem Owns.below {w w' : World} {B : Nat} {v : Value} {l : List Int} (h : Owns w B v l) (hb : Below w.heap.size w w') : Owns w' B v l := by
 obtain ⟨h1, h2⟩ := h
 refine ⟨h1, ?_⟩
 rcases h2 with h2 | ⟨g, cap, cur, h3, h4, h5, h6⟩
 ·exact .inl h2
 ·refine .inr ⟨g, cap, cur, h3, h4, (hb.block g ?_).trans h5, h6⟩
  have := (Array.getElem?_eq_some_iff.1 h5).1
  exact this
theorem oneCell_u8 {l : List Int} : ∀ u ∈ l.map (Value.int .u8), u.oneCell' = true := by
 intro u hu
 obtain ⟨x, _, rfl⟩ := List.mem_map.1 hu
 rfl
/-- append(v, x...) on a slice of bytes of the call's own. -/
theorem wpList_app {ops : Array Oper} {rest : List Oper} {o : Oper} {ac : Act} {Q : Exit → Act → World → Prop} (w : World) (hgd : o.guard = none) (s x : Operand)
  (ho : o.op = .call { callee := .builtin .append, args := #[s, x], argTypes := #[161, 161] })
  (B : Nat) (v : Value) (xs : List Int) (hs : ac.eval s = v) (hown : Owns w B v xs)
  (a : Option Addr) (c : Nat) (l : List Int) (hx : ac.eval x = .slice a l.length c) (hrow : Row w a l) (hnil : a = none → c = 0)
  (hsum : xs.length + l.length ≤ 140737488355328) (hbase : B ≤ w.heap.size)
  (h : ∀ v' w', Owns w' B v' (xs ++ l) → w.grownBy w' v.ownBlock → wpList Tryz.prog ops Q rest (ac.put o.dst v') w') : wpList Tryz.prog ops Q (o :: rest) ac w := by
 obtain ⟨i0, hi, hz0, hz1, hz2⟩ := info_parts info_u8
 cases a with
 | none =>
  have hl : l = [] := by
   cases l with
   | nil => rfl
   | cons y l => obtain ⟨b, off, hh, _⟩ := hrow.cells (by simp); cases hh
  subst hl
  refine wpList_append_own_none hgd s x 161 ho B 5 i0 1 Tryz.underlying161 hi v xs.length (xs.map (Value.int .u8)) hs hown ?_ ?_
  ·rw [hx, hnil rfl]; rfl
  ·refine h v w (by simpa using hown) ⟨rfl, rfl, rfl, Nat.le_refl _, fun _ _ _ => rfl⟩
 | some ad =>
  refine wpList_append_own w hgd s x 161 ho B 5 i0 (.int .u8 0) 1 1 Tryz.underlying161 hi hz0 hz1 hz2 rfl (by decide) v xs.length (xs.map (Value.int .u8)) hs hown ad l.length c (l.map (Value.int .u8)) hx (by simp) ?_ oneCell_u8 (by unfold maxLen; omega) (by omega) hbase ?_
  ·intro j u hj
   have hjl : j < l.length := by
    have := (List.getElem?_eq_some_iff.1 hj).1
    simpa using this
   obtain ⟨b, off, hh, hc⟩ := hrow.cells (by omega)
   cases hh
   have e1 : Addr.add ⟨b, off, none⟩ j = ⟨b, off + j, none⟩ := Go.WideShapes.add_plain ..
   rw [e1, hc j hjl]
   rw [← hj]
   simp [hjl]
  ·intro v' w' h1 h2 _
   refine h v' w' ?_ h2
   show w'.ownsRow B 5 1 v' (xs ++ l).length ((xs ++ l).map (Value.int .u8))
   rw [List.length_append, List.map_append]
   exact h1
/-- The same, what is left told in one: the value's form, how it reads, and that nothing below B has turned. -/
theorem wpList_app2 {ops : Array Oper} {rest : List Oper} {o : Oper} {ac : Act} {Q : Exit → Act → World → Prop} (w : World) (hgd : o.guard = none) (s x : Operand)
  (ho : o.op = .call { callee := .builtin .append, args := #[s, x], argTypes := #[161, 161] })
  (B : Nat) (v : Value) (xs : List Int) (hs : ac.eval s = v) (hown : Owns w B v xs) (hxs : M.Bytes xs)
  (a : Option Addr) (c : Nat) (l : List Int) (hx : ac.eval x = .slice a l.length c) (hrow : Row w a l) (hnil : a = none → c = 0)
  (r : List Int) (hr : xs ++ l = r) (hsum : r.length ≤ 140737488355328) (hbase : B ≤ w.heap.size)
  (h : ∀ a' c' w', Owns w' B (.slice a' r.length c') r → r.length ≤ c' → (a' = none → c' = 0) → Row w' a' r → Below B w w' → w.grownBy w' v.ownBlock →
   wpList Tryz.prog ops Q rest (ac.put o.dst (.slice a' r.length c')) w') : wpList Tryz.prog ops Q (o :: rest) ac w := by
 subst hr
 refine wpList_app w hgd s x ho B v xs hs hown a c l hx hrow hnil (by simpa using hsum) hbase fun v' w' h1 h2 => ?_
 obtain ⟨a', c', rfl, h3, h4, h5, h6⟩ := h1.form
 refine h a' c' w' h1 h3 h4 (h1.row hsum (hxs.app hrow.bytes)) ((Below.refl _ _).grown h2 hbase fun k hk => ?_) h2
 exact (World.ownsRow.lt hown k hk).1
/-- b[k:]. -/
theorem Row.drop {w : World} {a : Option Addr} {l : List Int} (h : Row w a l) (c k : Nat) (hc : l.length ≤ c) : Row w (if c = k then a else a.map (fun x => x.add k)) (l.drop k) := by
 have hs := h.small
 refine ⟨by simp; omega, h.bytes.drop k, fun hp => ?_⟩
 have hk : k < l.length := by simp at hp; omega
 obtain ⟨b, off, rfl, hcc⟩ := h.cells (by omega)
 rw [if_neg (by omega)]
 refine ⟨b, off + k, by simp [Go.WideShapes.add_plain], fun i hi => ?_⟩
 have hi' : k + i < l.length := by simp at hi; omega
 rw [Nat.add_assoc, hcc (k + i) hi']
 simp
theorem Row.cell {w : World} {g : Nat} {l : List Int} (h : Row w (some ⟨g, 0, none⟩) l) (i : Nat) (hi : i < l.length) : w.cell? ⟨g, i, none⟩ = some (.int .u8 (l.getD i 0)) := by
 obtain ⟨b, off, hh, hcc⟩ := h.cells (by omega)
 cases hh
 have := hcc i hi
 rwa [Nat.zero_add] at this
theorem Owns.at {w : World} {B c : Nat} {a : Option Addr} {l : List Int} (h : Owns w B (.slice a l.length c) l) (hr : Row w a l) (hp : 0 < l.length) : ∃ g, a = some ⟨g, 0, none⟩ ∧ B ≤ g := by
 obtain ⟨b, off, rfl, _⟩ := hr.cells hp
 obtain ⟨a', c', h1, _, _, h3, _⟩ := h.form
 cases h1
 have := h3 _ rfl
 simp at this
 exact ⟨b, by rw [this.2], this.1⟩
/-- A byte is written over in a slice of the call's own. -/
theorem Owns.stored {w : World} {B g c : Nat} {l : List Int} (h : Owns w B (.slice (some ⟨g, 0, none⟩) l.length c) l) (i : Nat) (y : Int) :
  Owns (w.setCell ⟨g, i, none⟩ (.int .u8 y)) B (.slice (some ⟨g, 0, none⟩) l.length c) (l.set i y) := by
 have := World.ownsRow.stored (e := 5) (size := 1) h i (.int .u8 y)
 replace this := this.1
 show World.ownsRow _ B 5 1 _ (l.set i y).length ((l.set i y).map (Value.int .u8))
 rw [List.length_set, List.map_set]
 exact this
theorem Owns.frozen {w : World} {B g c : Nat} {l : List Int} (h : Owns w B (.slice (some ⟨g, 0, none⟩) l.length c) l) (i : Nat) : w.frozen? ⟨g, i, none⟩ = false :=
 World.ownsRow.frozenAt (e := 5) (size := 1) h i
/-- A value that the call made: a slice of the bytes l in memory of its own. -/
structure Fresh (w w' : World) (a : Option Addr) (c : Nat) (l : List Int) : Prop where
 owns : Owns w' w.heap.size (.slice a l.length c) l
 room : l.length ≤ c
 nil : a = none → c = 0
 row : Row w' a l
 below : Below w.heap.size w w'
end Go.Proofs.YtmfgjicfdjjihaaGreatDoor
namespace Go.Proofs.YtmfgjicfdjjihaaGreatDoor
open Go.RowKit
set_option linter.unusedVariables false
set_option linter.unusedSimpArgs false
/-- The n lowest bytes of two words, the highest first. -/
def bytesGo : Nat → Int → Int → List Int
 | 0, _, _ => []
 | n + 1, h, l => bytesGo n (h / 256) (l / 256 + h * 72057594037927936 % 18446744073709551616) ++ [l % 256]
theorem bytesGo_length : ∀ (n : Nat) (h l : Int), (bytesGo n h l).length = n
 | 0, _, _ => rfl
 | n + 1, h, l => by simp [bytesGo, bytesGo_length n]
def Ad.bytes (a : Ad) : List Int := if a.right then bytesGo (if a.fam = 4 then 4 else 16) a.hi a.lo else []
theorem put_other {w : World} {a b : Addr} {v : Value} (h : a ≠ b) : (w.setCell a v).cell? b = w.cell? b := by
 apply World.cell?_setCell_other
 exact h
theorem put_same {w : World} {a : Addr} {v u : Value} (h : w.cell? a = some u) : (w.setCell a v).cell? a = some v := by
 apply World.cell?_setCell_same
 exact h
theorem owns_le {w : World} {B B' : Nat} {v : Value} {l : List Int} (h : B' ≤ B) (o : Owns w B v l) : Owns w B' v l := by
 obtain ⟨h1, h2⟩ := o
 refine ⟨h1, ?_⟩
 rcases h2 with h2 | ⟨g, cap, cur, h3, h4, h5⟩
 ·exact .inl h2
 ·exact .inr ⟨g, cap, cur, h3, Nat.le_trans h h4, h5⟩
end Go.Proofs.YtmfgjicfdjjihaaGreatDoor
