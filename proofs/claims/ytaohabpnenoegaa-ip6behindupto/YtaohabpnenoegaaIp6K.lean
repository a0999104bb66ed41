/- A whole packet without headers of 0 and 44: Walk finds the same. -/
import Derived.Test.YtaohabpnenoegaaIp6J
namespace Go.Proofs.Ytaohabpnenoegaa
open Go.RowKit
set_option linter.unusedVariables false
set_option linter.unusedSimpArgs false

theorem wgo_ex : ∀ (n : Nat) (s : St), ∃ t, (wgo n s).2.ex = s.ex ++ t
  | 0, s => ⟨[], by simp [wgo]⟩
  | n + 1, s => by
    simp only [wgo]
    split
    · exact ⟨[], by simp⟩
    split
    · exact ⟨[], by simp⟩
    · obtain ⟨t, ht⟩ := wgo_ex n (after s)
      exact ⟨[s.next] ++ t, by rw [ht, after_ex]; simp⟩
theorem wgo_met : ∀ (n : Nat) (s : St) (m : Bool), (wgo n s).1 = 0 → (∀ x ∈ (wgo n s).2.ex, x ≠ 0 ∧ x ≠ 44) → wgo n { s with met := m } = (0, { (wgo n s).2 with met := m })
  | 0, s, m, _, _ => rfl
  | n + 1, s, m, h0, hx => by
    simp only [wgo] at h0 hx ⊢
    have e1 : over { s with met := m } = over s := rfl
    rw [e1]
    by_cases ho : over s = true
    · simp only [if_pos ho]
    · rw [if_neg ho] at h0 hx
      simp only [if_neg ho]
      by_cases hw : werr s = 0
      · have hw' : ¬ (werr s ≠ 0) := by simp [hw]
        rw [if_neg hw'] at h0 hx
        obtain ⟨t, ht⟩ := wgo_ex n (after s)
        have hn := hx s.next (by rw [ht, after_ex]; simp)
        have e2 : werr { s with met := m } = werr s := by
          unfold werr lerr
          simp only
          split
          · rfl
          split
          · rfl
          rw [if_neg hn.1, if_neg hn.1]
          split
          · rfl
          rw [if_neg hn.2, if_neg hn.2]
        have e3 : after { s with met := m } = { after s with met := m } := by
          unfold after took stepd
          simp only
          rw [if_neg hn.2, if_neg hn.2]
        simp only [e2, if_neg hw', e3]
        exact wgo_met n (after s) m h0 hx
      · rw [if_pos hw] at h0
        exact absurd h0 hw
theorem perr6_ok {l : List Int} (h : perr6 l = 0) : ¬ l.length < 40 ∧ ¬ u16 l 4 > (l.length : Int) - 40 ∧ (T6 l).1 = 0 ∧ l.getD 0 0 / 16 = 6 ∧ l.getD 7 0 ≠ 0 ∧ ((T6 l).2.cut = true → wrongp (T6 l).2 = 0) := by
  unfold perr6 at h
  split at h
  · omega
  split at h
  · omega
  split at h
  · omega
  split at h
  · omega
  split at h
  · next hh => exact absurd h hh
  next a1 a2 a3 a4 a5 =>
    refine ⟨a1, a3, by simpa using a5, by simpa using a2, a4, fun hc => ?_⟩
    rw [if_pos hc] at h
    exact h
theorem same6 {l : List Int} (h : perr6 l = 0) (hf : (parsed6 l).frag = false) (hx : ∀ x ∈ exts6 l, x ≠ 0 ∧ x ≠ 44) :
    wE (l.getD 6 0) ((l.drop 40).take (u16 l 4).toNat) = 0 ∧ (wS (l.getD 6 0) ((l.drop 40).take (u16 l 4).toNat)).next = (parsed6 l).proto ∧ (wS (l.getD 6 0) ((l.drop 40).take (u16 l 4).toNat)).ex = exts6 l ∧ (wS (l.getD 6 0) ((l.drop 40).take (u16 l 4).toNat)).l = (parsed6 l).data := by
  have hp : parsed6 l = pk6 l := by unfold parsed6; rw [if_pos h]
  have he : exts6 l = (T6 l).2.ex := by unfold exts6; rw [if_pos h]
  rw [hp] at hf ⊢
  rw [he] at hx ⊢
  have h0 := (perr6_ok h).2.2.1
  have k := wgo_met 9 (st0 (l.getD 6 0) ((l.drop 40).take (u16 l 4).toNat) false) true h0 hx
  have k2 : wend (st0 (l.getD 6 0) ((l.drop 40).take (u16 l 4).toNat) true) = (0, { (T6 l).2 with met := true }) := k
  have k3 : wE (l.getD 6 0) ((l.drop 40).take (u16 l 4).toNat) = 0 := by unfold wE; rw [k2]
  have k4 : wS (l.getD 6 0) ((l.drop 40).take (u16 l 4).toNat) = { (T6 l).2 with met := true } := by unfold wS; rw [k2]; rfl
  rw [k4]
  exact ⟨k3, rfl, rfl, rfl⟩
end Go.Proofs.Ytaohabpnenoegaa
