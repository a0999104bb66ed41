/- Texts joined: XpU -/
import Derived.Test.YtmflogmocgbmhaaXpa31
namespace Go.Proofs.Ytmflogmocgbmhaa
open Go.RowKit
set_option linter.unusedVariables false
set_option linter.unusedSimpArgs false
theorem take_none {s : Xt} {x : Wy} (h : (s.take x).2.2 = false) : (s.take x).1 = s := by
  unfold Xt.take at h ⊢
  split
  · rfl
  · rename_i k hk
    rw [hk] at h
    cases h
theorem take_some {s : Xt} (ho : XtOk s) {x : Wy} (h : (s.take x).2.2 = true) : ((s.take x).1.L.length : Int) = (s.L.length : Int) - 1 ∧ (s.take x).2.1.waits x = true ∧ (s.take x).2.1.ok ∧ ∀ y ∈ (s.take x).1.L, y.w.eqB (s.take x).2.1.w = false := by
  cases hw : waitW x s.L with
  | none =>
    unfold Xt.take at h
    rw [hw] at h
    cases h
  | some k =>
    obtain ⟨q, hq, hwt, hk⟩ := wait_some hw
    rw [take_eq hw hq]
    refine ⟨?_, hwt, (ho.each q (List.mem_of_getElem? hq)).2.2, fun y hy => ?_⟩
    · show ((s.L.filter fun p : Wt => !(p.w.eqB q.w)).length : Int) = _
      rw [filter_one ho.apart hq, List.length_eraseIdx_of_lt hk]
      omega
    · have := (List.mem_filter.1 hy).2
      simpa using this
theorem ways_apart {s : Xt} (ho : XtOk s) {i k : Nat} {x y : Wt} (hi : s.L[i]? = some y) (hk : s.L[k]? = some x) (hne : i ≠ k) : Wy.eqB y.w x.w = false := by
  cases e : Wy.eqB y.w x.w with
  | false => rfl
  | true =>
    obtain ⟨h1, rfl⟩ := List.getElem?_eq_some_iff.1 hi
    obtain ⟨h2, rfl⟩ := List.getElem?_eq_some_iff.1 hk
    have e1 := (Wy.eqB_iff _ _).1 e
    have := (List.getElem_inj (xs := s.L.map (·.w)) (i := i) (j := k) (h₀ := by simpa using h1) (h₁ := by simpa using h2) ho.apart).1 (by simpa using e1)
    exact absurd this hne
end Go.Proofs.Ytmflogmocgbmhaa
