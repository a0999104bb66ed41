/- Texts joined: Ord -/
import Derived.Test.YtjdapofjlbifjaaDoorTpa3
import Derived.Deep.RegionHeld3
namespace Go.Proofs.YtjdapofjlbifjaaDoor
open Go.RowKit
set_option linter.unusedVariables false
set_option linter.unusedSimpArgs false
def cmp3 (x y : Int) : Int := if x < y then -1 else if y < x then 1 else 0
def Ad.order (a b : Ad) : Int := if cmp3 a.fam b.fam = 0 then (if cmp3 a.hi b.hi = 0 then cmp3 a.lo b.lo else cmp3 a.hi b.hi) else cmp3 a.fam b.fam
theorem cmpI_any (x y : Int) (w : World) : Calls Tryd.prog 28 #[.int .i64 x, .int .i64 y] w fun e w' => e = .returned (.int .i64 (cmp3 x y)) ∧ w' = w := by
  have nan : ∀ x w, Calls Tryd.prog 39 #[.int .i64 x] w fun e w' => e = .returned (.bool false) ∧ w' = w := fun x w => by
    go_enter Tryd.func39, Tryd.ntmps39
    go_wp2
    go_ret
    exact ⟨by simp, rfl⟩
  go_enter Tryd.func28, Tryd.ntmps28
  rcases Int.lt_trichotomy x y with h | h | h
  · go_wp2_with (go_at_call 39; refine (nan _ _).mono ?_; rintro e w' ⟨rfl, rfl⟩)
    go_ret
    exact ⟨ret_int (by simp [cmp3, h]), rfl⟩
  · subst h
    go_wp2_with (go_at_call 39; refine (nan _ _).mono ?_; rintro e w' ⟨rfl, rfl⟩)
    go_ret
    exact ⟨ret_int (by simp [cmp3]), rfl⟩
  · have h' : ¬ x < y := by omega
    go_wp2_with (go_at_call 39; refine (nan _ _).mono ?_; rintro e w' ⟨rfl, rfl⟩)
    go_ret
    exact ⟨ret_int (by simp [cmp3, h, h']), rfl⟩
theorem cmpU_any (x y : Int) (w : World) : Calls Tryd.prog 41 #[.int .u64 x, .int .u64 y] w fun e w' => e = .returned (.int .i64 (cmp3 x y)) ∧ w' = w := by
  have nan : ∀ x w, Calls Tryd.prog 48 #[.int .u64 x] w fun e w' => e = .returned (.bool false) ∧ w' = w := fun x w => by
    go_enter Tryd.func48, Tryd.ntmps48
    go_wp2
    go_ret
    exact ⟨by simp, rfl⟩
  go_enter Tryd.func41, Tryd.ntmps41
  rcases Int.lt_trichotomy x y with h | h | h
  · go_wp2_with (go_at_call 48; refine (nan _ _).mono ?_; rintro e w' ⟨rfl, rfl⟩)
    go_ret
    exact ⟨ret_int (by simp [cmp3, h]), rfl⟩
  · subst h
    go_wp2_with (go_at_call 48; refine (nan _ _).mono ?_; rintro e w' ⟨rfl, rfl⟩)
    go_ret
    exact ⟨ret_int (by simp [cmp3]), rfl⟩
  · have h' : ¬ x < y := by omega
    go_wp2_with (go_at_call 48; refine (nan _ _).mono ?_; rintro e w' ⟨rfl, rfl⟩)
    go_ret
    exact ⟨ret_int (by simp [cmp3, h, h']), rfl⟩
theorem rright_any (f h l : Int) (w : World) (hl : 0 ≤ l) :
    Calls Tryd.prog 36 #[.agg #[.int .i64 f, .int .u64 h, .int .u64 l]] w fun e w' => e = .returned (.bool (Ad.right ⟨f, h, l⟩)) ∧ w' = w.alloc (.cells #[.int .i64 f, .int .u64 h, .int .u64 l] 24) := by
  go_enter Tryd.func36, Tryd.ntmps36
  by_cases h6 : f = 6
  · subst h6
    go_wp2
    go_ret
    exact ⟨by simp [Ad.right], rfl⟩
  · by_cases h4 : f = 4
    · subst h4
      by_cases hh : h = 0
      · subst hh
        go_wp2
        go_ret
        refine ⟨?_, rfl⟩
        have e : decide (l < 4294967296) = (l / 4294967296 == 0) := by
          rw [Bool.eq_iff_iff]; simp; omega
        simp [Ad.right, e]
      · go_wp2
        go_ret
        exact ⟨by simp [Ad.right, hh], rfl⟩
    · go_wp2
      go_ret
      exact ⟨by simp [Ad.right, h4, h6], rfl⟩
theorem rsize_any (f : Int) (w : World) : Calls Tryd.prog 54 #[.int .i64 f] w fun e w' => e = .returned (.int .i64 (if f = 4 then 32 else 128)) ∧ w' = w := by
  go_enter Tryd.func54, Tryd.ntmps54
  by_cases h4 : f = 4
  · subst h4
    rw [if_pos rfl]
    go_wp2
    go_ret
    exact ⟨rfl, rfl⟩
  · rw [if_neg h4]
    go_wp2
    go_ret
    exact ⟨rfl, rfl⟩
theorem rorder_any (f h l f' h' l' : Int) (w : World) :
    Calls Tryd.prog 31 #[.agg #[.int .i64 f, .int .u64 h, .int .u64 l], .agg #[.int .i64 f', .int .u64 h', .int .u64 l']] w fun e w' => e = .returned (.int .i64 (Ad.order ⟨f, h, l⟩ ⟨f', h', l'⟩)) ∧ Below w.heap.size w w' := by
  have bb : Below w.heap.size w ((w.alloc (.cells #[.int .i64 f, .int .u64 h, .int .u64 l] 24)).alloc (.cells #[.int .i64 f', .int .u64 h', .int .u64 l'] 24)) := ((Below.refl _ _).alloc (Nat.le_refl _) _).alloc (by simp) _
  obtain ⟨T, hT⟩ : ∃ T, Ad.order ⟨f, h, l⟩ ⟨f', h', l'⟩ = T := ⟨_, rfl⟩
  rw [hT]
  have HT : Hid (Ad.order ⟨f, h, l⟩ ⟨f', h', l'⟩ = T) := hT
  clear hT
  go_enter Tryd.func31, Tryd.ntmps31
  rcases Int.lt_trichotomy f f' with h1 | h1 | h1
  · go_wp2
    go_ret
    exact ⟨ret_int (by rw [← HT.out]; simp [Ad.order, cmp3, h1]), bb⟩
  · subst h1
    rcases Int.lt_trichotomy h h' with h2 | h2 | h2
    · go_wp2
      go_ret
      exact ⟨ret_int (by rw [← HT.out]; simp [Ad.order, cmp3, h2]), bb⟩
    · subst h2
      rcases Int.lt_trichotomy l l' with h3 | h3 | h3
      · go_wp2
        go_ret
        exact ⟨ret_int (by rw [← HT.out]; simp [Ad.order, cmp3, h3]), bb⟩
      · subst h3
        go_wp2
        go_ret
        exact ⟨ret_int (by rw [← HT.out]; simp [Ad.order, cmp3]), bb⟩
      · have h3' : ¬ l < l' := by omega
        go_wp2
        go_ret
        exact ⟨ret_int (by rw [← HT.out]; simp [Ad.order, cmp3, h3, h3']), bb⟩
    · have h2' : ¬ h < h' := by omega
      go_wp2
      go_ret
      exact ⟨ret_int (by rw [← HT.out]; unfold Ad.order cmp3; simp only; (repeat' split) <;> omega), bb⟩
  · have h1' : ¬ f < f' := by omega
    go_wp2
    go_ret
    exact ⟨ret_int (by rw [← HT.out]; unfold Ad.order cmp3; simp only; (repeat' split) <;> omega), bb⟩
theorem or_any (g x y z : Int) (b : Nat) (w : World) (h0 : w.cell? ⟨b, 0, none⟩ = some (.int .i64 x)) (h1 : w.cell? ⟨b, 1, none⟩ = some (.int .i64 y)) (h2 : w.cell? ⟨b, 2, none⟩ = some (.int .i64 z)) (c : Nat) :
    Calls Tryd.prog 40 #[.slice (some ⟨b, 0, none⟩) 3 c] w fun e w' => e = .returned (.int .i64 (if x = 0 then (if y = 0 then z else y) else x)) ∧ w' = w := by
  obtain ⟨T, hT⟩ : ∃ T, (if x = 0 then (if y = 0 then z else y) else x) = T := ⟨_, rfl⟩
  rw [hT]
  have HT : Hid ((if x = 0 then (if y = 0 then z else y) else x) = T) := hT
  clear hT
  go_enter Tryd.func40, Tryd.ntmps40
  go_wp2
  go_loop [8] (fun i => ∃ k : Nat, k ≤ 3 ∧ i = .int .i64 k ∧ (1 ≤ k → x = 0) ∧ (2 ≤ k → y = 0) ∧ (3 ≤ k → z = 0)) (fun i => 3 - (intOf i).toNat)
  case atStart => exact ⟨0, by omega, rfl, by omega, by omega, by omega⟩
  case round =>
    obtain ⟨k, hk, rfl, k1, k2, k3⟩ := hrel
    have hk' : k = 0 ∨ k = 1 ∨ k = 2 ∨ k = 3 := by omega
    rcases hk' with rfl | rfl | rfl | rfl
    · clear k1 k2 k3
      by_cases hx : x = 0
      · go_wp2
        exact ⟨⟨1, by omega, rfl, fun _ => hx, by omega, by omega⟩, by simp [intOf]⟩
      · go_wp2
        go_ret
        exact ⟨ret_int (by rw [← HT.out, if_neg hx]), rfl⟩
    · have hx := k1 (by omega)
      clear k1 k2 k3
      by_cases hy : y = 0
      · go_wp2
        exact ⟨⟨2, by omega, rfl, fun _ => hx, fun _ => hy, by omega⟩, by simp [intOf]⟩
      · go_wp2
        go_ret
        exact ⟨ret_int (by rw [← HT.out, if_pos hx, if_neg hy]), rfl⟩
    · have hx := k1 (by omega)
      have hy := k2 (by omega)
      clear k1 k2 k3
      by_cases hz : z = 0
      · go_wp2
        exact ⟨⟨3, by omega, rfl, fun _ => hx, fun _ => hy, fun _ => hz⟩, by simp [intOf]⟩
      · go_wp2
        go_ret
        exact ⟨ret_int (by rw [← HT.out, if_pos hx, if_pos hy]), rfl⟩
    · have hx := k1 (by omega)
      have hy := k2 (by omega)
      have hz := k3 (by omega)
      clear k1 k2 k3
      go_wp2
      go_ret
      exact ⟨ret_int (by rw [← HT.out, if_pos hx, if_pos hy, hz]), rfl⟩
end Go.Proofs.YtjdapofjlbifjaaDoor
