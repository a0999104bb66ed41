/- Plain: hiding goes on; which rules are kept. -/
import Derived.Test.YtmlddgmkbbaccaaFrA
namespace Go.Proofs.Ytmlddgmkbbaccaa
open Go.RowKit
set_option linter.unusedVariables false
set_option linter.unusedSimpArgs false

theorem masked_less (c : Ad) (n m : Int) (h : n ≤ m) (hm : m ≤ c.width) : (c.masked m).masked n = c.masked n := by
  show (⟨_, _, _⟩ : Ad) = ⟨_, _, _⟩
  simp only [masked_width]
  show (⟨c.fam, cutLow (cutLow _ _) _, cutLow (cutLow _ _) _⟩ : Ad) = ⟨c.fam, cutLow _ _, cutLow _ _⟩
  rw [cutLow_less _ _ _ (by omega), cutLow_less _ _ _ (by omega)]
theorem has_trans {a b c : Ad} {n m : Int} (hc : c.ok) (h1 : a.has n b = true) (h2 : b.has m c = true) (h : n ≤ m) : a.has n c = true := by
  rw [has_iff] at h1 h2 ⊢
  obtain ⟨f1, e1⟩ := h1
  obtain ⟨f2, e2⟩ := h2
  have hf : c.fits n = true := by
    simp only [Ad.fits, Bool.and_eq_true, decide_eq_true_eq] at f1 f2 ⊢
    exact ⟨f2.1, f1.2.1, by omega⟩
  refine ⟨hf, ?_⟩
  have hm : m ≤ c.width := by
    simp only [Ad.fits, Bool.and_eq_true, decide_eq_true_eq] at f2
    exact f2.2.2
  rw [← masked_less c n m h hm, e2, e1]
theorem zero_wrong {a : Ad} {n : Int} (h : zeroP a n = true) : a.rightPrefix n = false := by
  simp only [zeroP, Bool.and_eq_true, beq_iff_eq] at h
  cases hr : a.rightPrefix n with
  | false => rfl
  | true =>
    have h1 : a.has n a = true := hr
    rw [has_iff] at h1
    have h2 := h1.1
    simp [Ad.fits, Ad.right, h.1] at h2
theorem reach_trans {a b c : Ad} {n m o : Int} (hc : c.ok) (h1 : reachB a n b m = true) (h2 : reachB b m c o = true) : reachB a n c o = true := by
  simp only [reachB, Bool.or_eq_true, Bool.and_eq_true, decide_eq_true_eq] at h1 h2 ⊢
  rcases h1 with h1 | ⟨x1, x2, x3⟩
  · exact .inl h1
  · rcases h2 with h2 | ⟨y1, y2, y3⟩
    · rw [zero_wrong h2] at x1
      cases x1
    · exact .inr ⟨y1, by omega, has_trans hc x3 y3 x2⟩
theorem wider_trans {a b c : Rl} (hc : c.ok) (h1 : a.wider b = true) (h2 : b.wider c = true) : a.wider c = true := by
  simp only [Rl.wider, Bool.or_eq_true, Bool.and_eq_true, decide_eq_true_eq, beq_iff_eq] at h1 h2 ⊢
  obtain ⟨a1, a2, a3, a4, a5, a6, a7, a8, a9⟩ := h1
  obtain ⟨b1, b2, b3, b4, b5, b6, b7, b8, b9⟩ := h2
  exact ⟨by omega, by omega, reach_trans hc.s a3 b3, reach_trans hc.d a4 b4, by omega, by omega, by omega, by omega, by omega⟩
theorem hides_trans {a b c : Rl} (hc : c.ok) (h1 : a.hides b = true) (h2 : b.hides c = true) : a.hides c = true := by
  simp only [Rl.hides, Bool.and_eq_true] at h1 h2 ⊢
  exact ⟨h1.1, wider_trans hc h1.2 h2.2⟩
/-- Is the rule at the place i hidden? -/
def hidB (l : List Rl) (i : Nat) : Bool := match l[i]? with
  | some r => (l.take i).any (·.hides r)
  | none => false
/-- The places below n of the rules that are not hidden. -/
def keepN (l : List Rl) (n : Nat) : List Nat := (List.range n).filter fun i => !hidB l i
/-- Those of them that may be. -/
def ableN (l : List Rl) (n : Nat) : List Nat := (keepN l n).filter fun i => (l[i]?.map (·.right)).getD false
def keepL (l : List Rl) : List Nat := keepN l l.length
theorem keep_succ (l : List Rl) (n : Nat) : keepN l (n + 1) = if hidB l n then keepN l n else keepN l n ++ [n] := by
  unfold keepN
  rw [List.range_succ, List.filter_append]
  cases h : hidB l n <;> simp [h]
theorem able_succ (l : List Rl) (n : Nat) (r : Rl) (hr : l[n]? = some r) : ableN l (n + 1) = if hidB l n then ableN l n else if r.right then ableN l n ++ [n] else ableN l n := by
  unfold ableN
  rw [keep_succ]
  cases hidB l n
  · cases hq : r.right <;> simp [List.filter_append, hr, hq]
  · simp
theorem able_lt {l : List Rl} {n j : Nat} (h : j ∈ ableN l n) : j < n ∧ ∃ r, l[j]? = some r ∧ r.right = true := by
  unfold ableN keepN at h
  simp only [List.mem_filter, List.mem_range] at h
  obtain ⟨⟨h1, _⟩, h2⟩ := h
  refine ⟨h1, ?_⟩
  cases e : l[j]? with
  | none => rw [e] at h2; cases h2
  | some r => rw [e] at h2; exact ⟨r, rfl, h2⟩
theorem keep_len (l : List Rl) (n : Nat) : (keepN l n).length ≤ n := by
  unfold keepN
  exact Nat.le_trans (List.length_filter_le _ _) (by simp)
theorem able_len (l : List Rl) (n : Nat) : (ableN l n).length ≤ n := Nat.le_trans (List.length_filter_le _ _) (keep_len l n)
theorem hid_iff {l : List Rl} {n : Nat} {r : Rl} (hr : l[n]? = some r) : hidB l n = true ↔ ∃ j q, j < n ∧ l[j]? = some q ∧ q.hides r = true := by
  unfold hidB
  rw [hr]
  simp only [List.any_eq_true]
  constructor
  · rintro ⟨q, hq, hh⟩
    obtain ⟨j, hj⟩ := List.getElem?_of_mem hq
    have hjn : j < n := by
      have := (List.getElem?_eq_some_iff.1 hj).1
      simp at this
      omega
    rw [List.getElem?_take_of_lt hjn] at hj
    exact ⟨j, q, hjn, hj, hh⟩
  · rintro ⟨j, q, hj, hq, hh⟩
    refine ⟨q, List.mem_of_getElem? (i := j) ?_, hh⟩
    rw [List.getElem?_take_of_lt hj]
    exact hq
/-- Those that were kept are enough to ask. -/
theorem hid_able {l : List Rl} (hl : ∀ r ∈ l, r.ok) {n : Nat} {r : Rl} (hr : l[n]? = some r) : hidB l n = (ableN l n).any fun j => (l[j]?.map (·.wider r)).getD false := by
  rw [Bool.eq_iff_iff, hid_iff hr, List.any_eq_true]
  constructor
  · intro h
    obtain ⟨j, ⟨q, hj, hq, hh⟩, hmin⟩ : ∃ j, (∃ q, j < n ∧ l[j]? = some q ∧ q.hides r = true) ∧ ∀ i, i < j → ¬ ∃ q, i < n ∧ l[i]? = some q ∧ q.hides r = true := by
      obtain ⟨j, hj⟩ := h
      induction j using Nat.strongRecOn with
      | ind j ih =>
        by_cases hx : ∃ i, i < j ∧ ∃ q, i < n ∧ l[i]? = some q ∧ q.hides r = true
        · obtain ⟨i, hi, hq⟩ := hx
          exact ih i hi hq
        · exact ⟨j, hj, fun i hi hq => hx ⟨i, hi, hq⟩⟩
    have hh' := hh
    simp only [Rl.hides, Bool.and_eq_true] at hh'
    refine ⟨j, ?_, by rw [hq]; exact hh'.2⟩
    unfold ableN keepN
    simp only [List.mem_filter, List.mem_range, Bool.not_eq_true']
    refine ⟨⟨hj, ?_⟩, by rw [hq]; exact hh'.1⟩
    cases hb : hidB l j with
    | false => rfl
    | true =>
      obtain ⟨i, p, hi, hp, hph⟩ := (hid_iff hq).1 hb
      exact absurd ⟨p, by omega, hp, hides_trans (hl r (List.mem_of_getElem? hr)) hph hh⟩ (hmin i hi)
  · rintro ⟨j, hj, hw⟩
    obtain ⟨h1, q, hq, hqr⟩ := able_lt hj
    rw [hq] at hw
    refine ⟨j, q, h1, hq, ?_⟩
    simp only [Rl.hides, Bool.and_eq_true]
    exact ⟨hqr, hw⟩
end Go.Proofs.Ytmlddgmkbbaccaa
