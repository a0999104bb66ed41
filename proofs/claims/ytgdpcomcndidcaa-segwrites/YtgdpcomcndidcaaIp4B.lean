/- Bits of a header's numbers. -/
import Derived.Test.YtgdpcomcndidcaaBits
namespace Go.Proofs.Ytgdpcomcndidcaa
open Go.RowKit
theorem i64_and15 (n : Int) : bits .and .i64 n 15 = n % 16 := by
  show IntKind.i64.wrap ((BitVec.ofInt 64 n &&& BitVec.ofInt 64 15).toNat : Int) = _
  have h15 : BitVec.ofInt 64 15 = (15 : BitVec 64) := rfl
  rw [h15, BitVec.toNat_and, show (15 : BitVec 64).toNat = 2 ^ 4 - 1 from rfl, Nat.and_two_pow_sub_one_eq_mod]
  rw [IntKind.wrap_i64, BitVec.toNat_ofInt]
  omega
theorem i64_and8191 (n : Int) : bits .and .i64 n 8191 = n % 8192 := by
  show IntKind.i64.wrap ((BitVec.ofInt 64 n &&& BitVec.ofInt 64 8191).toNat : Int) = _
  have h15 : BitVec.ofInt 64 8191 = (8191 : BitVec 64) := rfl
  rw [h15, BitVec.toNat_and, show (8191 : BitVec 64).toNat = 2 ^ 13 - 1 from rfl, Nat.and_two_pow_sub_one_eq_mod]
  rw [IntKind.wrap_i64, BitVec.toNat_ofInt]
  omega
theorem nat_and_pow (x i : Nat) : x &&& 2 ^ i = x / 2 ^ i % 2 * 2 ^ i := by
  have e : x / 2 ^ i % 2 = (x.testBit i).toNat := by
    rw [Nat.testBit_eq_decide_div_mod_eq]
    have := Nat.mod_two_eq_zero_or_one (x / 2 ^ i)
    rcases this with h | h <;> simp [h]
  apply Nat.eq_of_testBit_eq
  intro j
  rw [Nat.testBit_and, Nat.testBit_two_pow, e]
  by_cases hj : i = j
  · subst hj
    cases x.testBit i <;> simp
  · cases hx : x.testBit i <;> simp [hj]
theorem i64_and_pow (x : Nat) (i : Nat) (hi : i < 62) (hx : x < 9223372036854775808) : bits .and .i64 (x : Int) (2 ^ i) = ((x / 2 ^ i % 2 * 2 ^ i : Nat) : Int) := by
  show IntKind.i64.wrap ((BitVec.ofInt 64 x &&& BitVec.ofInt 64 (2 ^ i)).toNat : Int) = _
  have h1 : (BitVec.ofInt 64 (x : Int)).toNat = x := by rw [BitVec.toNat_ofInt]; omega
  have hp : 2 ^ i < 2 ^ 62 := Nat.pow_lt_pow_right (by decide) hi
  have h2 : (BitVec.ofInt 64 ((2 : Int) ^ i)).toNat = 2 ^ i := by
    rw [BitVec.toNat_ofInt, show ((2 : Int) ^ i) = ((2 ^ i : Nat) : Int) by simp]
    generalize 2 ^ i = q at hp
    omega
  rw [BitVec.toNat_and, h1, h2, nat_and_pow, IntKind.wrap_i64]
  have h3 : x / 2 ^ i % 2 * 2 ^ i ≤ 2 ^ i := by
    have h4 := Nat.mod_lt (x / 2 ^ i) (by decide : 0 < 2)
    have h5 : x / 2 ^ i % 2 * 2 ^ i ≤ 1 * 2 ^ i := Nat.mul_le_mul_right _ (by omega)
    omega
  generalize x / 2 ^ i % 2 * 2 ^ i = y at h3
  generalize 2 ^ i = q at hp h3
  omega
theorem i64_and32768 (x : Int) (h0 : 0 ≤ x) (hx : x ≤ 65535) : bits .and .i64 x 32768 = x / 32768 % 2 * 32768 := by
  obtain ⟨n, rfl⟩ := Int.eq_ofNat_of_zero_le h0
  have := i64_and_pow n 15 (by decide) (by omega)
  rw [show ((2 : Int) ^ 15) = 32768 from rfl] at this
  rw [this]
  omega
theorem i64_and8192 (x : Int) (h0 : 0 ≤ x) (hx : x ≤ 65535) : bits .and .i64 x 8192 = x / 8192 % 2 * 8192 := by
  obtain ⟨n, rfl⟩ := Int.eq_ofNat_of_zero_le h0
  have := i64_and_pow n 13 (by decide) (by omega)
  rw [show ((2 : Int) ^ 13) = 8192 from rfl] at this
  rw [this]
  omega
end Go.Proofs.Ytgdpcomcndidcaa
