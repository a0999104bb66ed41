/- Texts joined: CmD -/
import Derived.Test.YtgppfkbapieneaaDoorCox12
namespace Go.Proofs.YtgppfkbapieneaaDoor
open Go.RowKit
set_option linter.unusedVariables false
set_option linter.unusedSimpArgs false
theorem sub_div (K s : Nat) (hK : 0 < K) : (2 ^ s * K - 1) / 2 ^ s = K - 1 := by
  have hp : 0 < 2 ^ s := Nat.pow_pos (by decide)
  obtain ⟨k, rfl⟩ : ∃ k, K = k + 1 := ⟨K - 1, by omega⟩
  have e : 2 ^ s * (k + 1) - 1 = (2 ^ s - 1) + 2 ^ s * k := by
    rw [Nat.mul_add, Nat.mul_one]
    omega
  rw [e, Nat.add_mul_div_left _ _ hp, Nat.div_eq_of_lt (by omega)]
  omega
theorem add_byte (U m s : Nat) : (U * 2 ^ m + 2 ^ m - 1) / 2 ^ s % 256 = (if m ≤ s then U * 2 ^ m / 2 ^ s % 256 else if s + 8 ≤ m then 255 else U * 2 ^ m / 2 ^ s % 256 + 2 ^ (m - s) - 1) ∧ (s < m → m < s + 8 → (U * 2 ^ m / 2 ^ s % 256) % 2 ^ (m - s) = 0) ∧ (s + 8 ≤ m → U * 2 ^ m / 2 ^ s % 256 = 0) := by
  have hpm : 0 < 2 ^ m := Nat.pow_pos (by decide)
  have hps : 0 < 2 ^ s := Nat.pow_pos (by decide)
  by_cases h : m ≤ s
  · refine ⟨?_, by omega, by omega⟩
    rw [if_pos h]
    obtain ⟨d, rfl⟩ : ∃ d, s = m + d := ⟨s - m, by omega⟩
    have e1 : (U * 2 ^ m + 2 ^ m - 1) / 2 ^ m = U := by
      have := sub_div (U + 1) m (by omega)
      rw [show 2 ^ m * (U + 1) - 1 = U * 2 ^ m + 2 ^ m - 1 by rw [Nat.mul_add, Nat.mul_comm, Nat.mul_one]] at this
      simpa using this
    rw [Nat.pow_add, ← Nat.div_div_eq_div_mul, e1, ← Nat.div_div_eq_div_mul, Nat.mul_div_cancel _ hpm]
  · obtain ⟨j, rfl⟩ : ∃ j, m = s + j := ⟨m - s, by omega⟩
    have hj0 : 0 < j := by omega
    have e1 : U * 2 ^ (s + j) / 2 ^ s = U * 2 ^ j := by
      rw [Nat.pow_add, Nat.mul_comm (2 ^ s), ← Nat.mul_assoc, Nat.mul_div_cancel _ hps]
    have e2 : (U * 2 ^ (s + j) + 2 ^ (s + j) - 1) / 2 ^ s = U * 2 ^ j + 2 ^ j - 1 := by
      have := sub_div (U * 2 ^ j + 2 ^ j) s (by have := Nat.pow_pos (n := j) (show 0 < 2 by decide); omega)
      rw [← this]
      congr 2
      rw [Nat.pow_add, Nat.mul_add, Nat.mul_left_comm]
    rw [if_neg h, Nat.add_sub_cancel_left, e1, e2]
    by_cases h8 : s + 8 ≤ s + j
    · rw [if_pos h8]
      obtain ⟨d, rfl⟩ : ∃ d, j = 8 + d := ⟨j - 8, by omega⟩
      have e3 : U * 2 ^ (8 + d) = U * 2 ^ d * 256 := by rw [Nat.pow_add]; show U * (256 * 2 ^ d) = _; rw [Nat.mul_comm 256, Nat.mul_assoc]
      have e4 : 2 ^ (8 + d) = 2 ^ d * 256 := by rw [Nat.pow_add]; show 256 * 2 ^ d = _; rw [Nat.mul_comm]
      have hp := Nat.pow_pos (n := d) (show 0 < 2 by decide)
      rw [e3, e4]
      generalize U * 2 ^ d = A
      generalize 2 ^ d = B at hp
      exact ⟨by omega, by omega, by omega⟩
    · rw [if_neg h8]
      have hj : j < 8 := by omega
      refine ⟨?_, fun _ _ => ?_, by omega⟩
      · match j, hj, hj0 with
        | 1, _, _ => omega
        | 2, _, _ => omega
        | 3, _, _ => omega
        | 4, _, _ => omega
        | 5, _, _ => omega
        | 6, _, _ => omega
        | 7, _, _ => omega
      · match j, hj, hj0 with
        | 1, _, _ => omega
        | 2, _, _ => omega
        | 3, _, _ => omega
        | 4, _, _ => omega
        | 5, _, _ => omega
        | 6, _, _ => omega
        | 7, _, _ => omega
theorem lastAd_fam0 (a : Ad) (n : Int) : (lastAd a n).fam = a.fam := rfl
/-- What a right prefix's number is. -/
theorem prefix_val {a : Ad} {n : Int} (ho : a.ok) (hp : a.rightPrefix n = true) : ∃ U m : Nat, a.val = ((U * 2 ^ m : Nat) : Int) ∧ m = (a.width - n).toNat ∧ (lastAd a n).val = ((U * 2 ^ m + 2 ^ m - 1 : Nat) : Int) := by
  obtain ⟨h1, h2⟩ := has_iff.1 (show a.has n a = true from hp)
  obtain ⟨hr, h3, h4⟩ := right_of_prefix hp
  have hv := masked_val ho hr h3 h4
  rw [h2] at hv
  have h0 := (val_low ho hr).1
  obtain ⟨V, hV⟩ := Int.eq_ofNat_of_zero_le h0
  obtain ⟨m, hm⟩ : ∃ m, (a.width - n).toNat = m := ⟨_, rfl⟩
  have hl := lastAd_val a n
  rw [hm] at hv hl
  have e : V = V / 2 ^ m * 2 ^ m := by
    rw [hV] at hv
    have : ((V : Nat) : Int) = ((V / 2 ^ m * 2 ^ m : Nat) : Int) := by
      rw [hv]
      simp
    exact_mod_cast this
  have hp2 : 0 < 2 ^ m := Nat.pow_pos (by decide)
  refine ⟨V / 2 ^ m, m, by rw [hV]; exact_mod_cast e, hm.symm, ?_⟩
  rw [hl, hV, ← e]
  have : ((V + 2 ^ m - 1 : Nat) : Int) = (V : Int) + 2 ^ m - 1 := by
    rw [Int.natCast_sub (by omega)]
    simp
  rw [this]
theorem last_right {a : Ad} {n : Int} (ho : a.ok) (hp : a.rightPrefix n = true) : (lastAd a n).ok ∧ (lastAd a n).right = true := by
  obtain ⟨hr, h3, h4⟩ := right_of_prefix hp
  have hb := last_bound ho hp
  have hf := right_fam hr
  refine ⟨⟨?_, hb.1, hb.2⟩, ?_⟩
  · show _ ≤ (lastAd a n).fam ∧ (lastAd a n).fam ≤ _
    rw [lastAd_fam0]
    omega
  · rcases hf with e | e
    · obtain ⟨⟨n0, n1⟩, he⟩ := last4_p ho hp e
      have hlt : (lastAd a n).lo < 4294967296 ∧ (lastAd a n).hi = 0 := by
        obtain ⟨U, m, hv, hm, hl⟩ := prefix_val ho hp
        have hw : a.width = 32 := by simp [Ad.width, e]
        have hv1 := (val_low ho hr).2
        rw [hw] at hm hv1
        have hm32 : m ≤ 32 := by omega
        have hUm : U * 2 ^ m < 2 ^ 32 := by
          rw [hv] at hv1
          have : ((U * 2 ^ m : Nat) : Int) < ((2 ^ 32 : Nat) : Int) := by simpa using hv1
          exact_mod_cast this
        have hU : U < 2 ^ (32 - m) := by
          have e2 : 2 ^ 32 = 2 ^ (32 - m) * 2 ^ m := by rw [← Nat.pow_add]; congr 1; omega
          rw [e2] at hUm
          exact Nat.lt_of_mul_lt_mul_right hUm
        have hsum : U * 2 ^ m + 2 ^ m ≤ 2 ^ 32 := by
          have e2 : 2 ^ 32 = 2 ^ (32 - m) * 2 ^ m := by rw [← Nat.pow_add]; congr 1; omega
          rw [e2, ← Nat.succ_mul]
          exact Nat.mul_le_mul_right _ hU
        have hval : (lastAd a n).val < 4294967296 := by
          rw [hl]
          have : U * 2 ^ m + 2 ^ m - 1 < 4294967296 := by
            have h9 : (2 : Nat) ^ 32 = 4294967296 := by decide
            have h10 : 0 < 2 ^ m := Nat.pow_pos (by decide)
            omega
          exact Int.ofNat_lt.2 this
        have hd : (lastAd a n).val = (lastAd a n).hi * 18446744073709551616 + (lastAd a n).lo := rfl
        rw [hd] at hval
        have := hb.1.1
        have := hb.2.1
        omega
      unfold Ad.right
      rw [lastAd_fam0, if_pos e, hlt.2]
      have : (lastAd a n).lo / 4294967296 = 0 := Int.ediv_eq_zero_of_lt hb.2.1 hlt.1
      simp [this]
    · unfold Ad.right
      rw [lastAd_fam0, if_neg (by omega)]
      simp [e]
theorem last_byte {a : Ad} {n : Int} (ho : a.ok) (hp : a.rightPrefix n = true) (i : Nat) (hi : i < a.bytes.length) : (lastAd a n).bytes.length = a.bytes.length ∧ (lastAd a n).bytes.getD i 0 = a.bytes.getD i 0 + 2 ^ (8 - min (n - 8 * i).toNat 8) - 1 ∧ a.bytes.getD i 0 % 2 ^ (8 - min (n - 8 * i).toNat 8) = 0 := by
  obtain ⟨hr, h3, h4⟩ := right_of_prefix hp
  obtain ⟨hlo, hlr⟩ := last_right ho hp
  obtain ⟨k, hk⟩ : ∃ k : Nat, (if a.fam = 4 then 4 else 16 : Nat) = k := ⟨_, rfl⟩
  have hw : a.width = 8 * (k : Int) := by unfold Ad.width; rw [← hk]; split <;> rfl
  have e1 : a.bytes = bytesGo k a.hi a.lo := by unfold Ad.bytes; rw [if_pos hr, hk]
  have e2 : (lastAd a n).bytes = bytesGo k (lastAd a n).hi (lastAd a n).lo := by
    unfold Ad.bytes; rw [if_pos hlr]; show bytesGo (if a.fam = 4 then 4 else 16) _ _ = _; rw [hk]
  rw [e1, bytesGo_length] at hi
  refine ⟨by rw [e1, e2, bytesGo_length, bytesGo_length], ?_⟩
  obtain ⟨U, m, hv, hm, hl⟩ := prefix_val ho hp
  obtain ⟨_, ⟨hh0, hh1⟩, ⟨hl0, hl1⟩⟩ := ho
  obtain ⟨_, ⟨mh0, mh1⟩, ⟨ml0, ml1⟩⟩ := hlo
  rw [e1, e2, bytesGo_get k _ _ i hi hh0 hl0 (by omega), bytesGo_get k _ _ i hi mh0 ml0 (by omega)]
  unfold Ad.val at hv hl
  rw [hv, hl]
  have e4 : (256 : Int) ^ (k - 1 - i) = ((2 ^ (8 * (k - 1 - i)) : Nat) : Int) := by
    rw [Nat.pow_mul]
    simp
  rw [e4]
  have c1 : ((U * 2 ^ m + 2 ^ m - 1 : Nat) : Int) / ((2 ^ (8 * (k - 1 - i)) : Nat) : Int) % 256 = (((U * 2 ^ m + 2 ^ m - 1) / 2 ^ (8 * (k - 1 - i)) % 256 : Nat) : Int) := by
    rw [← Int.natCast_ediv]; rfl
  have c2 : ((U * 2 ^ m : Nat) : Int) / ((2 ^ (8 * (k - 1 - i)) : Nat) : Int) % 256 = ((U * 2 ^ m / 2 ^ (8 * (k - 1 - i)) % 256 : Nat) : Int) := by
    rw [← Int.natCast_ediv]; rfl
  rw [c1, c2]
  obtain ⟨b1, b2, b3⟩ := add_byte U m (8 * (k - 1 - i))
  rw [b1]
  obtain ⟨x, hx⟩ : ∃ x, U * 2 ^ m / 2 ^ (8 * (k - 1 - i)) % 256 = x := ⟨_, rfl⟩
  rw [hx] at b2 b3 ⊢
  by_cases q1 : m ≤ 8 * (k - 1 - i)
  · rw [if_pos q1]
    have : min (n - 8 * (i : Int)).toNat 8 = 8 := by omega
    rw [this]
    simp
  · rw [if_neg q1]
    by_cases q2 : 8 * (k - 1 - i) + 8 ≤ m
    · rw [if_pos q2]
      have hx0 := b3 q2
      subst hx0
      have : min (n - 8 * (i : Int)).toNat 8 = 0 := by omega
      rw [this]
      simp
    · rw [if_neg q2]
      obtain ⟨j, hj⟩ : ∃ j, m - 8 * (k - 1 - i) = j := ⟨_, rfl⟩
      have : 8 - min (n - 8 * (i : Int)).toNat 8 = j := by omega
      rw [this, hj]
      have hz := b2 (by omega) (by omega)
      rw [hj] at hz
      have hpj : 0 < 2 ^ j := Nat.pow_pos (by decide)
      refine ⟨?_, ?_⟩
      · rw [Int.natCast_sub (by omega)]
        simp
      · have : ((x % 2 ^ j : Nat) : Int) = 0 := by rw [hz]; rfl
        simpa using this
end Go.Proofs.YtgppfkbapieneaaDoor
