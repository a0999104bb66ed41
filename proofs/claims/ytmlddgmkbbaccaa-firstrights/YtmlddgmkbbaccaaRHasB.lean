/- Prefixes by the document -/
import Derived.Test.YtmlddgmkbbaccaaRHasA
import Derived.Deep.DeepCutAuto
namespace Go.Proofs.Ytmlddgmkbbaccaa
open Go.RowKit
set_option linter.unusedVariables false
set_option linter.unusedSimpArgs false

set_option maxRecDepth 100000 in
set_option maxHeartbeats 4000000 in
theorem rhas_y (f h l b f' h' l' : Int) (w : World) (ho : Ad.ok ⟨f, h, l⟩) (ho' : Ad.ok ⟨f', h', l'⟩) (hp : Ad.rightPrefix ⟨f, h, l⟩ b = true) (hr : Ad.right ⟨f', h', l'⟩ = true) (hf : f' = f) (mf mh ml me : Int) (hm : Ad.mask ⟨f', h', l'⟩ b = (⟨mf, mh, ml⟩, me)) :
    Calls Try.prog 48 #[.agg #[.int .i64 f, .int .u64 h, .int .u64 l, .int .i64 b], .agg #[.int .i64 f', .int .u64 h', .int .u64 l']] w fun e w' => e = .returned (.bool (Ad.same ⟨mf, mh, ml⟩ ⟨f, h, l⟩)) ∧ Below w.heap.size w w' := by
  obtain ⟨W1, hW1⟩ : ∃ W1, w.alloc (.cells #[.int .i64 f, .int .u64 h, .int .u64 l, .int .i64 b] 26) = W1 := ⟨_, rfl⟩
  have b1 := bel_nw hW1
  have P1 := blk_nw hW1
  obtain ⟨W2, hW2⟩ : ∃ W2, W1.alloc (.cells #[.int .i64 f', .int .u64 h', .int .u64 l'] 24) = W2 := ⟨_, rfl⟩
  have b2 := bel_al b1 hW2
  have P2 := P1.al hW2
  have A2 := blk_nw hW2
  have KP : Hid (∀ W, Calls Try.prog 39 #[.agg #[.int .i64 f, .int .u64 h, .int .u64 l, .int .i64 b]] W fun e w' => e = .returned (.bool true) ∧ Below W.heap.size W w') := fun W => by
    have := rrightPrefix_any f h l b W ho
    rw [hp] at this
    exact this
  have KR : Hid (∀ W, Calls Try.prog 24 #[.agg #[.int .i64 f', .int .u64 h', .int .u64 l']] W fun e w' => e = .returned (.bool true) ∧ Below W.heap.size W w') := fun W => by
    have := rright_any f' h' l' W ho'.2.2.1
    rw [hr] at this
    exact Calls.mono this (by rintro e w' ⟨rfl, rfl⟩; exact ⟨rfl, (Below.refl _ _).alloc (Nat.le_refl _) _⟩)
  have KM : Hid (∀ W, Calls Try.prog 61 #[.agg #[.int .i64 f', .int .u64 h', .int .u64 l'], .int .i64 b] W fun e w' => e = .returned (.tuple #[.agg #[.int .i64 mf, .int .u64 mh, .int .u64 ml], .int .i64 me]) ∧ Below W.heap.size W w') := fun W => by
    have := rmask_any f' h' l' b W ho'
    rw [hm] at this
    exact this
  have hf' : (f' != f) = false := by simpa using hf
  clear hp hr hf hm
  go_enter Try.func48, Try.ntmps48
  go_wp2_with (refine wpList_load_row rfl _ _ rfl w.heap.size (by rfl) _ _ _ _ P2 Try.underlying26 rfl (by kernel_rfl) ?_)
  refine Calls.mono (KP.out _) ?_
  rintro e W3 ⟨rfl, bb⟩
  have P3 := P2.kept bb
  have A3 := A2.kept bb
  have b3 := bel_tr b2 bb
  clear KP bb P2 A2 b2 hW1 hW2 P1 b1
  go_wp2_with (refine wpList_load_blk_w (by kernel_rfl) _ _ rfl W1.heap.size (by rfl) _ A3 Try.underlying24 (by kernel_rfl) ?_)
  refine Calls.mono (KR.out _) ?_
  rintro e W4 ⟨rfl, bb⟩
  have P4 := P3.kept bb
  have A4 := A3.kept bb
  have b4 := bel_tr b3 bb
  clear KR bb P3 A3 b3
  have d0 := A4.cell 0 (.int .i64 f') rfl
  have p0 := P4.cell 0 (.int .i64 f) rfl
  have p3 := P4.cell 3 (.int .i64 b) rfl
  go_wp2_with (refine wpList_load_row rfl _ _ rfl W1.heap.size (by rfl) _ _ _ _ A4 Try.underlying24 rfl (by kernel_rfl) ?_)
  refine Calls.mono (KM.out _) ?_
  rintro e W5 ⟨rfl, bb⟩
  have P5 := P4.kept bb
  have b5 := bel_tr b4 bb
  clear KM bb P4 A4 b4 d0 p0 p3
  obtain ⟨W6, hW6⟩ : ∃ W, W5.alloc (.cells #[.int .i64 0, .int .u64 0, .int .u64 0] 24) = W := ⟨_, rfl⟩
  have P6 := P5.al hW6
  have b6 := bel_al b5 hW6
  have M6 := blk_nw hW6
  have g5 : w.heap.size < W5.heap.size := P5.lt
  have P7 := P6.other (show w.heap.size ≠ W5.heap.size by omega) #[.int .i64 mf, .int .u64 mh, .int .u64 ml]
  have M7 := M6.set #[.int .i64 mf, .int .u64 mh, .int .u64 ml]
  have b7 := below_setRow b6 (Nat.le_of_lt g5) #[.int .i64 mf, .int .u64 mh, .int .u64 ml]
  obtain ⟨W7, hW7⟩ : ∃ W, W6.setRow W5.heap.size #[.int .i64 mf, .int .u64 mh, .int .u64 ml] = W := ⟨_, rfl⟩
  rw [hW7] at P7 M7 b7
  have HW7 : Hid _ := hW7
  clear hW7
  go_wp2_with (first
    | (refine wpList_store_row rfl _ _ _ rfl W5.heap.size #[.int .i64 mf, .int .u64 mh, .int .u64 ml] (by rfl) (by rfl) _ _ M6 (by kernel_rfl) (by rfl) (by kernel_rfl) ?_; rw [HW7.out])
    | (refine wpList_load_row rfl _ _ rfl W5.heap.size (by rfl) _ _ _ _ M7 Try.underlying24 rfl (by kernel_rfl) ?_)
    | (refine wpList_load_sub rfl _ _ rfl w.heap.size 0 26 (by rfl) _ #[.int .i64 f, .int .u64 h, .int .u64 l] P7 (by rfl) Try.underlying24 (by kernel_rfl) ?_))
  all_goals go_ret
  all_goals exact ⟨by first | simp_all [Ad.same] | simp [Ad.same, *], b7⟩

theorem rhas_any (f h l b f' h' l' : Int) (w : World) (ho : Ad.ok ⟨f, h, l⟩) (ho' : Ad.ok ⟨f', h', l'⟩) :
    Calls Try.prog 48 #[.agg #[.int .i64 f, .int .u64 h, .int .u64 l, .int .i64 b], .agg #[.int .i64 f', .int .u64 h', .int .u64 l']] w fun e w' => e = .returned (.bool (Ad.has ⟨f, h, l⟩ b ⟨f', h', l'⟩)) ∧ Below w.heap.size w w' := by
  have hno : ∀ q : Prop, (Ad.has ⟨f, h, l⟩ b ⟨f', h', l'⟩ = true → q) → ¬ q → Ad.has ⟨f, h, l⟩ b ⟨f', h', l'⟩ = false := fun q h1 h2 => by
    cases e : Ad.has ⟨f, h, l⟩ b ⟨f', h', l'⟩ with
    | false => rfl
    | true => exact absurd (h1 e) h2
  cases hp : Ad.rightPrefix ⟨f, h, l⟩ b with
  | false =>
    rw [hno _ (fun e => (has_all ho' e).1) (by rw [hp]; decide)]
    exact rhas_n1 f h l b f' h' l' w ho ho' hp
  | true =>
    cases hr : Ad.right ⟨f', h', l'⟩ with
    | false =>
      rw [hno _ (fun e => (has_all ho' e).2.1) (by rw [hr]; decide)]
      exact rhas_n2 f h l b f' h' l' w ho ho' hp hr
    | true =>
      by_cases hf : f' = f
      · have hfit := fits_of (p := ⟨f, h, l⟩) (a := ⟨f', h', l'⟩) hp hr hf
        obtain ⟨⟨⟨mf, mh, ml⟩, me⟩, hm⟩ : ∃ m, Ad.mask ⟨f', h', l'⟩ b = m := ⟨_, rfl⟩
        have := rhas_y f h l b f' h' l' w ho ho' hp hr hf mf mh ml me hm
        have e : Ad.has ⟨f, h, l⟩ b ⟨f', h', l'⟩ = Ad.same ⟨mf, mh, ml⟩ ⟨f, h, l⟩ := by
          unfold Ad.has
          have e0 : me = 0 := by rw [mask_good hfit] at hm; injection hm with _ h2; exact h2.symm
          rw [hm, e0]
          simp
        rw [e]
        exact this
      · rw [hno _ (fun e => (has_all ho' e).2.2) hf]
        exact rhas_n3 f h l b f' h' l' w ho ho' hp hr hf
set_option maxRecDepth 100000 in
set_option maxHeartbeats 4000000 in
theorem rbytes_no (f h l : Int) (w : World) (ho : Ad.ok ⟨f, h, l⟩) (hr : Ad.right ⟨f, h, l⟩ = false) :
    Calls Try.prog 65 #[.agg #[.int .i64 f, .int .u64 h, .int .u64 l]] w fun e w' => e = .returned (.slice none 0 0) ∧ Below w.heap.size w w' := by
  obtain ⟨W1, hW1⟩ : ∃ W1, w.alloc (.cells #[.int .i64 f, .int .u64 h, .int .u64 l] 24) = W1 := ⟨_, rfl⟩
  have b1 := bel_nw hW1
  have P1 := blk_nw hW1
  have KR : Hid (∀ W, Calls Try.prog 24 #[.agg #[.int .i64 f, .int .u64 h, .int .u64 l]] W fun e w' => e = .returned (.bool false) ∧ Below W.heap.size W w') := fun W => by
    have := rright_any f h l W ho.2.2.1
    rw [hr] at this
    exact Calls.mono this (by rintro e w' ⟨rfl, rfl⟩; exact ⟨rfl, (Below.refl _ _).alloc (Nat.le_refl _) _⟩)
  clear hr
  go_enter Try.func65, Try.ntmps65
  go_wp2_with (refine wpList_load_row rfl _ _ rfl w.heap.size (by rfl) _ _ _ _ P1 Try.underlying24 rfl (by kernel_rfl) ?_)
  refine Calls.mono (KR.out _) ?_
  rintro e W3 ⟨rfl, bb⟩
  have b3 := bel_tr b1 bb
  clear KR bb P1 b1 hW1
  go_wp2_with fail
  go_ret
  exact ⟨rfl, b3⟩
theorem rbytes_any (f h l : Int) (w : World) (ho : Ad.ok ⟨f, h, l⟩) :
    Calls Try.prog 65 #[.agg #[.int .i64 f, .int .u64 h, .int .u64 l]] w fun e w' => ∃ a c, e = .returned (.slice a (Ad.bytes ⟨f, h, l⟩).length c) ∧ Fresh w w' a c (Ad.bytes ⟨f, h, l⟩) := by
  cases hr : Ad.right ⟨f, h, l⟩ with
  | true => exact rbytes_right f h l w ho hr
  | false =>
    have e : Ad.bytes ⟨f, h, l⟩ = [] := by unfold Ad.bytes; rw [if_neg (by rw [hr]; decide)]
    rw [e]
    refine Calls.mono (rbytes_no f h l w ho hr) ?_
    rintro e w' ⟨rfl, hb⟩
    exact ⟨none, 0, rfl, fresh_nil hb⟩
end Go.Proofs.Ytmlddgmkbbaccaa
