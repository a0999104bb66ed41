/- How two addresses stand: the program's and the reference's answers. -/
import Derived.Test.YtmlddgmkbbaccaaPre
import Derived.Deep.RegionHeld3
namespace Go.Proofs.Ytmlddgmkbbaccaa
open Go.RowKit
set_option linter.unusedVariables false
set_option linter.unusedSimpArgs false

def cmp3 (x y : Int) : Int := if x < y then -1 else if y < x then 1 else 0
def Ad.order (a b : Ad) : Int := if cmp3 a.fam b.fam = 0 then (if cmp3 a.hi b.hi = 0 then cmp3 a.lo b.lo else cmp3 a.hi b.hi) else cmp3 a.fam b.fam

theorem rright_any (f h l : Int) (w : World) (hl : 0 ≤ l) :
    Calls Try.prog 24 #[.agg #[.int .i64 f, .int .u64 h, .int .u64 l]] w fun e w' => e = .returned (.bool (Ad.right ⟨f, h, l⟩)) ∧ w' = w.alloc (.cells #[.int .i64 f, .int .u64 h, .int .u64 l] 24) := by
  go_enter Try.func24, Try.ntmps24
  by_cases h6 : f = 6
  · subst h6
    go_wp2
    go_ret
    exact ⟨by simp [Ad.right], rfl⟩
  · by_cases h4 : f = 4
    · subst h4
      by_cases hh : h = 0
      · subst hh
        go_wp2
        go_ret
        refine ⟨?_, rfl⟩
        have e : decide (l < 4294967296) = (l / 4294967296 == 0) := by
          rw [Bool.eq_iff_iff]; simp; omega
        simp [Ad.right, e]
      · go_wp2
        go_ret
        exact ⟨by simp [Ad.right, hh], rfl⟩
    · go_wp2
      go_ret
      exact ⟨by simp [Ad.right, h4, h6], rfl⟩
theorem rsize_any (f : Int) (w : World) : Calls Try.prog 64 #[.int .i64 f] w fun e w' => e = .returned (.int .i64 (if f = 4 then 32 else 128)) ∧ w' = w := by
  go_enter Try.func64, Try.ntmps64
  by_cases h4 : f = 4
  · subst h4
    rw [if_pos rfl]
    go_wp2
    go_ret
    exact ⟨rfl, rfl⟩
  · rw [if_neg h4]
    go_wp2
    go_ret
    exact ⟨rfl, rfl⟩
end Go.Proofs.Ytmlddgmkbbaccaa
