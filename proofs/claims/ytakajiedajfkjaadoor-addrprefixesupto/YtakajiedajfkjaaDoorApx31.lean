/- Texts joined: RHasA -/
import Derived.Test.YtakajiedajfkjaaDoorApx30
import Derived.Deep.DeepCutAuto
namespace Go.Proofs.YtakajiedajfkjaaDoor
open Go.RowKit
set_option linter.unusedVariables false
set_option linter.unusedSimpArgs false
theorem rmask_any (f h l b : Int) (w : World) (ho : Ad.ok ⟨f, h, l⟩) :
    Calls Tryd.prog 19 #[.agg #[.int .i64 f, .int .u64 h, .int .u64 l], .int .i64 b] w fun e w' => e = .returned (.tuple #[(Ad.mask ⟨f, h, l⟩ b).1.v, .int .i64 (Ad.mask ⟨f, h, l⟩ b).2]) ∧ Below w.heap.size w w' := by
  cases hr : Ad.right ⟨f, h, l⟩ with
  | false =>
    rw [mask_bad (by unfold Ad.fits; rw [hr]; rfl)]
    exact rmask_n1 f h l b w ho hr
  | true =>
    by_cases hb : b < 0
    · rw [mask_bad (by unfold Ad.fits; rw [decide_eq_false (show ¬ 0 ≤ b by omega)]; simp)]
      exact rmask_n2 f h l b w ho hr hb
    by_cases hw : b > Ad.width ⟨f, h, l⟩
    · rw [mask_bad (by unfold Ad.fits; rw [decide_eq_false (show ¬ b ≤ Ad.width ⟨f, h, l⟩ by omega)]; simp)]
      exact rmask_n3 f h l b w ho hr hb hw
    · rw [mask_good (by unfold Ad.fits; rw [hr, decide_eq_true (show 0 ≤ b by omega), decide_eq_true (show b ≤ Ad.width ⟨f, h, l⟩ by omega)]; rfl)]
      exact rmask_y f h l b w ho hr hb hw
set_option maxHeartbeats 400000 in
theorem rrightPrefix_any (f h l b : Int) (w : World) (ho : Ad.ok ⟨f, h, l⟩) :
    Calls Tryd.prog 12 #[.agg #[.int .i64 f, .int .u64 h, .int .u64 l, .int .i64 b]] w fun e w' =>
      e = .returned (.bool (Ad.rightPrefix ⟨f, h, l⟩ b)) ∧ Below w.heap.size w w' := by
  unfold Ad.rightPrefix Ad.has
  have hm := fun w => rmask_any f h l b w ho
  generalize Ad.mask ⟨f, h, l⟩ b = m at *
  obtain ⟨⟨mf, mh, ml⟩, me⟩ := m
  simp only at hm
  go_enter Tryd.func12, Tryd.ntmps12
  go_wp2_with fail
  refine (hm _).mono ?_
  rintro e w1 ⟨rfl, b1⟩
  have k0 : ∀ X, (w1.alloc X).cell? ⟨w.heap.size, 0, none⟩ = some (.int .i64 f) := fun X => kept_alloc b1 X (by simp)
  have k1 : ∀ X, (w1.alloc X).cell? ⟨w.heap.size, 1, none⟩ = some (.int .u64 h) := fun X => kept_alloc b1 X (by simp)
  have k2 : ∀ X, (w1.alloc X).cell? ⟨w.heap.size, 2, none⟩ = some (.int .u64 l) := fun X => kept_alloc b1 X (by simp)
  have bz : w.heap.size ≤ w1.heap.size := by have := b1.size; simp at this; omega
  by_cases he : me = 0
  · go_wp2
    all_goals go_ret
    all_goals exact ⟨by first | simp_all [Ad.same] | simp [Ad.same, *], (((Below.refl _ _).alloc (Nat.le_refl _) _).trans (b1.mono (by simp))).alloc bz _⟩
  · go_wp2
    go_ret
    exact ⟨by simp [he], (((Below.refl _ _).alloc (Nat.le_refl _) _).trans (b1.mono (by simp))).alloc bz _⟩
end Go.Proofs.YtakajiedajfkjaaDoor
