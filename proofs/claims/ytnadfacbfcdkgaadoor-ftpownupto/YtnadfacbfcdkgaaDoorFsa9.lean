/- Texts joined: AtN -/
import Derived.Test.YtnadfacbfcdkgaaDoorFsa8
namespace Go.Proofs.YtnadfacbfcdkgaaDoor
set_option linter.unusedVariables false
set_option linter.unusedSimpArgs false
def rnumGo (base most : Nat) : List UInt8 → Nat → Option Nat
  | [], n => some n
  | c :: cs, n => match hexv c.toNat with
    | none => none
    | some d => if base ≤ d ∨ (most - d) / base < n then none else rnumGo base most cs (n * base + d)
/-- A number in a base. -/
def rnum (base most : Nat) (s : List UInt8) : Int × Bool := if s = [] ∨ (base = 10 ∧ 1 < s.length ∧ s.head? = some 48) then (0, false) else tell (rnumGo base most s 0)
theorem hexv_dec (c : Nat) (h : 48 ≤ c ∧ c ≤ 57) : hexv c = some (c - 48) := by unfold hexv; rw [if_pos h]
theorem hexv_nodec (c d : Nat) (h : ¬ (48 ≤ c ∧ c ≤ 57)) (hd : hexv c = some d) : 10 ≤ d := by
  unfold hexv at hd
  rw [if_neg h] at hd
  split at hd
  · simp at hd; omega
  · split at hd
    · simp at hd; omega
    · cases hd
theorem numGo_r (most : Nat) (hm : 15 ≤ most) : ∀ (l : List UInt8) (n : Nat), n ≠ 0 → numGo most l n true = rnumGo 10 most l n
  | [], n, _ => rfl
  | c :: cs, n, hn => by
    unfold numGo rnumGo
    by_cases h : 48 ≤ c.toNat ∧ c.toNat ≤ 57
    · rw [if_neg (by simp; omega), hexv_dec _ h]
      simp only
      by_cases h2 : most < n * 10 + (c.toNat - 48)
      · rw [if_pos h2, if_pos (by omega)]
      · rw [if_neg h2, if_neg (by omega)]
        exact numGo_r most hm cs _ (by omega)
    · rw [if_pos (by omega)]
      cases hd : hexv c.toNat with
      | none => rfl
      | some d =>
        have := hexv_nodec _ _ h hd
        simp only
        rw [if_pos (by omega)]
theorem rnum10 (most : Nat) (hm : 15 ≤ most) (s : List UInt8) : rnum 10 most s = num most s := by
  unfold rnum num
  cases s with
  | nil => rfl
  | cons c cs =>
    rw [if_neg (show ¬ c :: cs = [] by simp)]
    have hd0 : ∀ n, hexv n = some 0 → n = 48 := fun n h => by
      unfold hexv at h
      split at h
      · simp at h; omega
      · split at h
        · simp at h; omega
        · split at h
          · simp at h; omega
          · cases h
    by_cases hc : c = 48
    · subst hc
      have e48 : (48 : UInt8).toNat = 48 := rfl
      cases cs with
      | nil =>
        rw [if_neg (by simp)]
        unfold numGo rnumGo
        rw [e48, hexv_dec 48 (by decide), if_neg (by simp), if_neg (by omega)]
        simp only
        rw [if_neg (by omega)]
        rfl
      | cons b cs =>
        rw [if_pos (by simp)]
        unfold numGo
        rw [e48, if_neg (by simp), if_neg (by omega)]
        unfold numGo
        rw [if_pos (by simp)]
        rfl
    · have hc' : ¬ c.toNat = 48 := fun e => hc (UInt8.toNat_inj.1 e)
      rw [if_neg (by simp [hc])]
      congr 1
      unfold numGo rnumGo
      by_cases h : 48 ≤ c.toNat ∧ c.toNat ≤ 57
      · rw [if_neg (by simp; omega), hexv_dec _ h]
        simp only
        rw [if_neg (by omega), if_neg (by omega)]
        exact (numGo_r most hm cs _ (by omega)).symm
      · rw [if_pos (by omega)]
        cases hd : hexv c.toNat with
        | none => rfl
        | some d =>
          have := hexv_nodec _ _ h hd
          simp only
          rw [if_pos (by omega)]
theorem hexGo_r : ∀ (l : List UInt8) (i n : Nat), i + l.length ≤ 4 → n < 16 ^ i → hexGo l i n = rnumGo 16 65535 l n
  | [], i, n, _, _ => rfl
  | c :: cs, i, n, hi, hn => by
    unfold hexGo rnumGo
    simp only [List.length_cons] at hi
    have hn3 : n < 4096 := Nat.lt_of_lt_of_le hn (Nat.pow_le_pow_right (n := 16) (j := 3) (by decide) (by omega))
    cases hd : hexv c.toNat with
    | none => rfl
    | some d =>
      have := hexv_le hd
      simp only
      rw [if_neg (by omega), if_neg (by omega)]
      exact hexGo_r cs (i + 1) _ (by omega) (by rw [Nat.pow_succ]; omega)
theorem rnum16 (s : List UInt8) (h : s.length ≤ 4) : rnum 16 65535 s = grp s := by
  unfold rnum grp
  by_cases h0 : s = []
  · rw [if_pos (.inl h0), if_pos h0]
  · rw [if_neg (by simp [h0]), if_neg h0, hexGo_r s 0 0 (by omega) (by decide)]
theorem hexGo_long : ∀ (l : List UInt8) (i n : Nat), i ≤ 4 → 4 < i + l.length → hexGo l i n = none
  | [], i, n, h, h' => by simp at h'; omega
  | c :: cs, i, n, h, h' => by
    unfold hexGo
    simp only [List.length_cons] at h'
    cases hd : hexv c.toNat with
    | none => rfl
    | some d =>
      simp only
      split
      · rfl
      · exact hexGo_long cs (i + 1) _ (by omega) (by omega)
theorem grp_long (s : List UInt8) (h : 4 < s.length) : (grp s).2 = false := by
  unfold grp
  split
  · rfl
  · rw [hexGo_long s 0 0 (by omega) (by omega)]; rfl
theorem rnumGo_le (base most : Nat) (hb : 0 < base) (hm : 15 ≤ most) : ∀ (l : List UInt8) (k n : Nat), k ≤ most → rnumGo base most l k = some n → n ≤ most
  | [], k, n, hk, h => by simp [rnumGo] at h; omega
  | c :: cs, k, n, hk, h => by
    unfold rnumGo at h
    cases hd : hexv c.toNat with
    | none => rw [hd] at h; cases h
    | some d =>
      have := hexv_le hd
      rw [hd] at h
      simp only at h
      split at h
      · cases h
      · next hn =>
        refine rnumGo_le base most hb hm cs _ n ?_ h
        have h1 : k ≤ (most - d) / base := by omega
        have h2 := Nat.mul_le_of_le_div base k (most - d) h1
        omega
theorem rnum_bd (base most : Nat) (hb : 0 < base) (hm : 15 ≤ most) (s : List UInt8) : 0 ≤ (rnum base most s).1 ∧ (rnum base most s).1 ≤ most := by
  unfold rnum
  split
  · simp
  · cases h : rnumGo base most s 0 with
    | none => simp [tell]
    | some n => have := rnumGo_le base most hb hm s 0 n (by omega) h; simp [tell]; omega
end Go.Proofs.YtnadfacbfcdkgaaDoor
