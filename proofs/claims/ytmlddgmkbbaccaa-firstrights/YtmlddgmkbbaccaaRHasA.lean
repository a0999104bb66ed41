/- Prefixes by the document -/
import Derived.Test.YtmlddgmkbbaccaaRMasB
import Derived.Test.YtmlddgmkbbaccaaPre
import Derived.Deep.DeepCutAuto
namespace Go.Proofs.Ytmlddgmkbbaccaa
open Go.RowKit
set_option linter.unusedVariables false
set_option linter.unusedSimpArgs false

theorem rmask_any (f h l b : Int) (w : World) (ho : Ad.ok ⟨f, h, l⟩) :
    Calls Try.prog 61 #[.agg #[.int .i64 f, .int .u64 h, .int .u64 l], .int .i64 b] w fun e w' => e = .returned (.tuple #[(Ad.mask ⟨f, h, l⟩ b).1.v, .int .i64 (Ad.mask ⟨f, h, l⟩ b).2]) ∧ Below w.heap.size w w' := by
  cases hr : Ad.right ⟨f, h, l⟩ with
  | false =>
    rw [mask_bad (by unfold Ad.fits; rw [hr]; rfl)]
    exact rmask_n1 f h l b w ho hr
  | true =>
    by_cases hb : b < 0
    · rw [mask_bad (by unfold Ad.fits; rw [decide_eq_false (show ¬ 0 ≤ b by omega)]; simp)]
      exact rmask_n2 f h l b w ho hr hb
    by_cases hw : b > Ad.width ⟨f, h, l⟩
    · rw [mask_bad (by unfold Ad.fits; rw [decide_eq_false (show ¬ b ≤ Ad.width ⟨f, h, l⟩ by omega)]; simp)]
      exact rmask_n3 f h l b w ho hr hb hw
    · rw [mask_good (by unfold Ad.fits; rw [hr, decide_eq_true (show 0 ≤ b by omega), decide_eq_true (show b ≤ Ad.width ⟨f, h, l⟩ by omega)]; rfl)]
      exact rmask_y f h l b w ho hr hb hw
set_option maxHeartbeats 400000 in
theorem rrightPrefix_any (f h l b : Int) (w : World) (ho : Ad.ok ⟨f, h, l⟩) :
    Calls Try.prog 39 #[.agg #[.int .i64 f, .int .u64 h, .int .u64 l, .int .i64 b]] w fun e w' =>
      e = .returned (.bool (Ad.rightPrefix ⟨f, h, l⟩ b)) ∧ Below w.heap.size w w' := by
  unfold Ad.rightPrefix Ad.has
  have hm := fun w => rmask_any f h l b w ho
  generalize Ad.mask ⟨f, h, l⟩ b = m at *
  obtain ⟨⟨mf, mh, ml⟩, me⟩ := m
  simp only at hm
  go_enter Try.func39, Try.ntmps39
  go_wp2_with fail
  refine (hm _).mono ?_
  rintro e w1 ⟨rfl, b1⟩
  have k0 : ∀ X, (w1.alloc X).cell? ⟨w.heap.size, 0, none⟩ = some (.int .i64 f) := fun X => kept_alloc b1 X (by simp)
  have k1 : ∀ X, (w1.alloc X).cell? ⟨w.heap.size, 1, none⟩ = some (.int .u64 h) := fun X => kept_alloc b1 X (by simp)
  have k2 : ∀ X, (w1.alloc X).cell? ⟨w.heap.size, 2, none⟩ = some (.int .u64 l) := fun X => kept_alloc b1 X (by simp)
  have bz : w.heap.size ≤ w1.heap.size := by have := b1.size; simp at this; omega
  by_cases he : me = 0
  · go_wp2
    all_goals go_ret
    all_goals exact ⟨by first | simp_all [Ad.same] | simp [Ad.same, *], (((Below.refl _ _).alloc (Nat.le_refl _) _).trans (b1.mono (by simp))).alloc bz _⟩
  · go_wp2
    go_ret
    exact ⟨by simp [he], (((Below.refl _ _).alloc (Nat.le_refl _) _).trans (b1.mono (by simp))).alloc bz _⟩
set_option maxRecDepth 100000 in
set_option maxHeartbeats 4000000 in
theorem rhas_n1 (f h l b f' h' l' : Int) (w : World) (ho : Ad.ok ⟨f, h, l⟩) (ho' : Ad.ok ⟨f', h', l'⟩) (hp : Ad.rightPrefix ⟨f, h, l⟩ b = false) :
    Calls Try.prog 48 #[.agg #[.int .i64 f, .int .u64 h, .int .u64 l, .int .i64 b], .agg #[.int .i64 f', .int .u64 h', .int .u64 l']] w fun e w' => e = .returned (.bool false) ∧ Below w.heap.size w w' := by
  obtain ⟨W1, hW1⟩ : ∃ W1, w.alloc (.cells #[.int .i64 f, .int .u64 h, .int .u64 l, .int .i64 b] 26) = W1 := ⟨_, rfl⟩
  have b1 := bel_nw hW1
  have P1 := blk_nw hW1
  obtain ⟨W2, hW2⟩ : ∃ W2, W1.alloc (.cells #[.int .i64 f', .int .u64 h', .int .u64 l'] 24) = W2 := ⟨_, rfl⟩
  have b2 := bel_al b1 hW2
  have P2 := P1.al hW2
  have A2 := blk_nw hW2
  have KP : Hid (∀ W, Calls Try.prog 39 #[.agg #[.int .i64 f, .int .u64 h, .int .u64 l, .int .i64 b]] W fun e w' => e = .returned (.bool false) ∧ Below W.heap.size W w') := fun W => by
    have := rrightPrefix_any f h l b W ho
    rw [hp] at this
    exact this
  clear hp
  go_enter Try.func48, Try.ntmps48
  go_wp2_with (refine wpList_load_row rfl _ _ rfl w.heap.size (by rfl) _ _ _ _ P2 Try.underlying26 rfl (by kernel_rfl) ?_)
  refine Calls.mono (KP.out _) ?_
  rintro e W3 ⟨rfl, bb⟩
  have P3 := P2.kept bb
  have A3 := A2.kept bb
  have b3 := bel_tr b2 bb
  clear KP bb P2 A2 b2 hW1 hW2 P1 b1
  clear P3 A3
  go_wp2_with fail
  go_ret
  exact ⟨rfl, b3⟩

set_option maxRecDepth 100000 in
set_option maxHeartbeats 4000000 in
theorem rhas_n2 (f h l b f' h' l' : Int) (w : World) (ho : Ad.ok ⟨f, h, l⟩) (ho' : Ad.ok ⟨f', h', l'⟩) (hp : Ad.rightPrefix ⟨f, h, l⟩ b = true) (hr : Ad.right ⟨f', h', l'⟩ = false) :
    Calls Try.prog 48 #[.agg #[.int .i64 f, .int .u64 h, .int .u64 l, .int .i64 b], .agg #[.int .i64 f', .int .u64 h', .int .u64 l']] w fun e w' => e = .returned (.bool false) ∧ Below w.heap.size w w' := by
  obtain ⟨W1, hW1⟩ : ∃ W1, w.alloc (.cells #[.int .i64 f, .int .u64 h, .int .u64 l, .int .i64 b] 26) = W1 := ⟨_, rfl⟩
  have b1 := bel_nw hW1
  have P1 := blk_nw hW1
  obtain ⟨W2, hW2⟩ : ∃ W2, W1.alloc (.cells #[.int .i64 f', .int .u64 h', .int .u64 l'] 24) = W2 := ⟨_, rfl⟩
  have b2 := bel_al b1 hW2
  have P2 := P1.al hW2
  have A2 := blk_nw hW2
  have KP : Hid (∀ W, Calls Try.prog 39 #[.agg #[.int .i64 f, .int .u64 h, .int .u64 l, .int .i64 b]] W fun e w' => e = .returned (.bool true) ∧ Below W.heap.size W w') := fun W => by
    have := rrightPrefix_any f h l b W ho
    rw [hp] at this
    exact this
  have KR : Hid (∀ W, Calls Try.prog 24 #[.agg #[.int .i64 f', .int .u64 h', .int .u64 l']] W fun e w' => e = .returned (.bool false) ∧ Below W.heap.size W w') := fun W => by
    have := rright_any f' h' l' W ho'.2.2.1
    rw [hr] at this
    exact Calls.mono this (by rintro e w' ⟨rfl, rfl⟩; exact ⟨rfl, (Below.refl _ _).alloc (Nat.le_refl _) _⟩)
  clear hp hr
  go_enter Try.func48, Try.ntmps48
  go_wp2_with (refine wpList_load_row rfl _ _ rfl w.heap.size (by rfl) _ _ _ _ P2 Try.underlying26 rfl (by kernel_rfl) ?_)
  refine Calls.mono (KP.out _) ?_
  rintro e W3 ⟨rfl, bb⟩
  have P3 := P2.kept bb
  have A3 := A2.kept bb
  have b3 := bel_tr b2 bb
  clear KP bb P2 A2 b2 hW1 hW2 P1 b1
  go_wp2_with (refine wpList_load_blk_w (by kernel_rfl) _ _ rfl W1.heap.size (by rfl) _ A3 Try.underlying24 (by kernel_rfl) ?_)
  refine Calls.mono (KR.out _) ?_
  rintro e W4 ⟨rfl, bb⟩
  have P4 := P3.kept bb
  have A4 := A3.kept bb
  have b4 := bel_tr b3 bb
  clear KR bb P3 A3 b3
  clear P4 A4
  go_wp2_with fail
  go_ret
  exact ⟨rfl, b4⟩

set_option maxRecDepth 100000 in
set_option maxHeartbeats 4000000 in
theorem rhas_n3 (f h l b f' h' l' : Int) (w : World) (ho : Ad.ok ⟨f, h, l⟩) (ho' : Ad.ok ⟨f', h', l'⟩) (hp : Ad.rightPrefix ⟨f, h, l⟩ b = true) (hr : Ad.right ⟨f', h', l'⟩ = true) (hf : ¬ f' = f) :
    Calls Try.prog 48 #[.agg #[.int .i64 f, .int .u64 h, .int .u64 l, .int .i64 b], .agg #[.int .i64 f', .int .u64 h', .int .u64 l']] w fun e w' => e = .returned (.bool false) ∧ Below w.heap.size w w' := by
  obtain ⟨W1, hW1⟩ : ∃ W1, w.alloc (.cells #[.int .i64 f, .int .u64 h, .int .u64 l, .int .i64 b] 26) = W1 := ⟨_, rfl⟩
  have b1 := bel_nw hW1
  have P1 := blk_nw hW1
  obtain ⟨W2, hW2⟩ : ∃ W2, W1.alloc (.cells #[.int .i64 f', .int .u64 h', .int .u64 l'] 24) = W2 := ⟨_, rfl⟩
  have b2 := bel_al b1 hW2
  have P2 := P1.al hW2
  have A2 := blk_nw hW2
  have KP : Hid (∀ W, Calls Try.prog 39 #[.agg #[.int .i64 f, .int .u64 h, .int .u64 l, .int .i64 b]] W fun e w' => e = .returned (.bool true) ∧ Below W.heap.size W w') := fun W => by
    have := rrightPrefix_any f h l b W ho
    rw [hp] at this
    exact this
  have KR : Hid (∀ W, Calls Try.prog 24 #[.agg #[.int .i64 f', .int .u64 h', .int .u64 l']] W fun e w' => e = .returned (.bool true) ∧ Below W.heap.size W w') := fun W => by
    have := rright_any f' h' l' W ho'.2.2.1
    rw [hr] at this
    exact Calls.mono this (by rintro e w' ⟨rfl, rfl⟩; exact ⟨rfl, (Below.refl _ _).alloc (Nat.le_refl _) _⟩)
  have hf' : (f' != f) = true := by simpa using hf
  clear hp hr hf
  go_enter Try.func48, Try.ntmps48
  go_wp2_with (refine wpList_load_row rfl _ _ rfl w.heap.size (by rfl) _ _ _ _ P2 Try.underlying26 rfl (by kernel_rfl) ?_)
  refine Calls.mono (KP.out _) ?_
  rintro e W3 ⟨rfl, bb⟩
  have P3 := P2.kept bb
  have A3 := A2.kept bb
  have b3 := bel_tr b2 bb
  clear KP bb P2 A2 b2 hW1 hW2 P1 b1
  go_wp2_with (refine wpList_load_blk_w (by kernel_rfl) _ _ rfl W1.heap.size (by rfl) _ A3 Try.underlying24 (by kernel_rfl) ?_)
  refine Calls.mono (KR.out _) ?_
  rintro e W4 ⟨rfl, bb⟩
  have P4 := P3.kept bb
  have A4 := A3.kept bb
  have b4 := bel_tr b3 bb
  clear KR bb P3 A3 b3
  have d0 := A4.cell 0 (.int .i64 f') rfl
  have p0 := P4.cell 0 (.int .i64 f) rfl
  clear P4 A4
  go_wp2_with fail
  go_ret
  exact ⟨rfl, b4⟩

end Go.Proofs.Ytmlddgmkbbaccaa
