/- Plain facts on masks: masking again turns nothing; what a prefix has. -/
import Derived.Test.YtmlddgmkbbaccaaPre
namespace Go.Proofs.Ytmlddgmkbbaccaa
set_option linter.unusedVariables false

theorem pow_pos' (k : Nat) : (0 : Int) < 2 ^ k := Int.pow_pos (by decide)
theorem cutLow_idem (x : Int) (k : Nat) : cutLow (cutLow x k) k = cutLow x k := by
  unfold cutLow
  rw [Int.mul_ediv_cancel _ (by have := pow_pos' k; omega)]
theorem cutLow_le (x : Int) (k : Nat) (h : 0 ≤ x) : 0 ≤ cutLow x k ∧ cutLow x k ≤ x := by
  unfold cutLow
  have hp := pow_pos' k
  exact ⟨Int.mul_nonneg (Int.ediv_nonneg h (by omega)) (by omega), Int.ediv_mul_le _ (by omega)⟩
theorem cutLow_less (x : Int) (i j : Nat) (h : i ≤ j) : cutLow (cutLow x i) j = cutLow x j := by
  unfold cutLow
  obtain ⟨d, rfl⟩ : ∃ d, j = i + d := ⟨j - i, by omega⟩
  have hp := pow_pos' i
  have hd := pow_pos' d
  rw [Int.pow_add, ← Int.ediv_ediv_of_nonneg (by omega), ← Int.ediv_ediv_of_nonneg (by omega), Int.mul_ediv_cancel _ (by omega)]
theorem masked_width (a : Ad) (b : Int) : (a.masked b).width = a.width := rfl
theorem masked_ok {a : Ad} {b : Int} (h : a.ok) : (a.masked b).ok := by
  obtain ⟨h1, h2, h3⟩ := h
  have e1 := cutLow_le a.hi (64 - min (b + 128 - a.width) 64).toNat h2.1
  have e2 := cutLow_le a.lo (64 - max (b + 128 - a.width - 64) 0).toNat h3.1
  exact ⟨h1, ⟨e1.1, Int.le_trans e1.2 h2.2⟩, ⟨e2.1, Int.le_trans e2.2 h3.2⟩⟩
theorem masked_right {a : Ad} {b : Int} (h : a.ok) (hr : a.right = true) : (a.masked b).right = true := by
  obtain ⟨h1, h2, h3⟩ := h
  unfold Ad.right at hr ⊢
  show (if a.fam = 4 then _ else _) = true
  by_cases hf : a.fam = 4
  · rw [if_pos hf] at hr ⊢
    simp only [Bool.and_eq_true, beq_iff_eq] at hr ⊢
    have e1 := cutLow_le a.hi (64 - min (b + 128 - a.width) 64).toNat h2.1
    have e2 := cutLow_le a.lo (64 - max (b + 128 - a.width - 64) 0).toNat h3.1
    refine ⟨?_, ?_⟩
    · show cutLow _ _ = 0
      omega
    · show cutLow _ _ / 4294967296 = 0
      omega
  · rw [if_neg hf] at hr ⊢
    exact hr
theorem masked_fits {a : Ad} {b : Int} (h : a.ok) (hf : a.fits b = true) : (a.masked b).fits b = true := by
  unfold Ad.fits at hf ⊢
  rw [masked_width]
  simp only [Bool.and_eq_true] at hf ⊢
  exact ⟨masked_right h hf.1, hf.2⟩
theorem masked_idem (a : Ad) (b : Int) : (a.masked b).masked b = a.masked b := by
  show (⟨_, _, _⟩ : Ad) = ⟨_, _, _⟩
  simp only [masked_width]
  show (⟨a.fam, cutLow (cutLow _ _) _, cutLow (cutLow _ _) _⟩ : Ad) = ⟨a.fam, cutLow _ _, cutLow _ _⟩
  rw [cutLow_idem, cutLow_idem]
theorem mask_again {a : Ad} {b : Int} (h : a.ok) (hf : a.fits b = true) : (a.masked b).mask b = (a.masked b, 0) := by
  rw [mask_good (masked_fits h hf), masked_idem]
theorem same_self (a : Ad) : a.same a = true := Ad.same_iff.2 rfl
theorem has_masked {a : Ad} {b : Int} (hf : a.fits b = true) : Ad.has (a.masked b) b a = true := by
  unfold Ad.has
  rw [mask_good hf]
  simp [same_self]
theorem has_iff {p a : Ad} {n : Int} : Ad.has p n a = true ↔ a.fits n = true ∧ a.masked n = p := by
  unfold Ad.has
  by_cases hf : a.fits n = true
  · rw [mask_good hf]
    simp only [Bool.and_eq_true, beq_self_eq_true, true_and, Ad.same_iff, hf]
  · have hf' : a.fits n = false := by simpa using hf
    rw [mask_bad hf']
    simp [hf']
/-- What a prefix has is of its family, may be, and the prefix may be. -/
theorem has_all {p a : Ad} {n : Int} (ha : a.ok) (h : Ad.has p n a = true) : Ad.rightPrefix p n = true ∧ a.right = true ∧ a.fam = p.fam := by
  obtain ⟨hf, rfl⟩ := has_iff.1 h
  refine ⟨?_, ?_, rfl⟩
  · unfold Ad.rightPrefix
    exact has_iff.2 ⟨masked_fits ha hf, masked_idem a n⟩
  · unfold Ad.fits at hf
    simp only [Bool.and_eq_true] at hf
    exact hf.1
theorem fits_of {p a : Ad} {n : Int} (hp : Ad.rightPrefix p n = true) (hr : a.right = true) (hf : a.fam = p.fam) : a.fits n = true := by
  obtain ⟨h1, _⟩ := has_iff.1 hp
  unfold Ad.fits at h1 ⊢
  have : a.width = p.width := by unfold Ad.width; rw [hf]
  rw [this]
  simp only [Bool.and_eq_true] at h1 ⊢
  exact ⟨hr, h1.2⟩
end Go.Proofs.Ytmlddgmkbbaccaa
