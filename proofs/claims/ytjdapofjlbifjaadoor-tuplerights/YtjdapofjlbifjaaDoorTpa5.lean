/- Texts joined: Ord2 -/
import Derived.Test.YtjdapofjlbifjaaDoorTpa4
import Derived.Deep.RegionHeld3
namespace Go.Proofs.YtjdapofjlbifjaaDoor
open Go.RowKit
set_option linter.unusedVariables false
set_option linter.unusedSimpArgs false
set_option maxRecDepth 100000 in
set_option maxHeartbeats 1000000 in
theorem order_any (f h l f' h' l' : Int) (w : World) :
    Calls Tryd.prog 29 #[.agg #[.int .i64 f, .int .u64 h, .int .u64 l], .agg #[.int .i64 f', .int .u64 h', .int .u64 l']] w fun e w' => e = .returned (.int .i64 (Ad.order ⟨f, h, l⟩ ⟨f', h', l'⟩)) ∧ Below w.heap.size w w' := by
  have k1 := cmpI_any f f'
  have k2 := cmpU_any h h'
  have k3 := cmpU_any l l'
  have ko : Ad.order ⟨f, h, l⟩ ⟨f', h', l'⟩ = if cmp3 f f' = 0 then (if cmp3 h h' = 0 then cmp3 l l' else cmp3 h h') else cmp3 f f' := rfl
  rw [ko]
  generalize cmp3 f f' = x at *
  generalize cmp3 h h' = y at *
  generalize cmp3 l l' = z at *
  obtain ⟨T, hT⟩ : ∃ T, (if x = 0 then (if y = 0 then z else y) else x) = T := ⟨_, rfl⟩
  rw [hT]
  clear ko
  have kor : ∀ (b c : Nat) (w : World), w.cell? ⟨b, 0, none⟩ = some (.int .i64 x) → w.cell? ⟨b, 1, none⟩ = some (.int .i64 y) → w.cell? ⟨b, 2, none⟩ = some (.int .i64 z) → Calls Tryd.prog 40 #[.slice (some ⟨b, 0, none⟩) 3 c] w fun e w' => e = .returned (.int .i64 T) ∧ w' = w := fun b c w h0 h1 h2 => by
    have := or_any 0 x y z b w h0 h1 h2 c
    rwa [hT] at this
  clear hT
  go_enter Tryd.func29, Tryd.ntmps29
  go_wp2
  go_region_held3 (fun w'' => w''.cell? ⟨w.heap.size, 0, none⟩ = some (.int .i64 f) ∧ w''.cell? ⟨w.heap.size, 1, none⟩ = some (.int .u64 h) ∧ w''.cell? ⟨w.heap.size, 2, none⟩ = some (.int .u64 l) ∧ w''.cell? ⟨w.heap.size + 1, 0, none⟩ = some (.int .i64 f') ∧ w''.cell? ⟨w.heap.size + 1, 1, none⟩ = some (.int .u64 h') ∧ w''.cell? ⟨w.heap.size + 1, 2, none⟩ = some (.int .u64 l')) (go_keep) (first
    | (go_at_call 28; refine (k1 _).mono ?_; rintro e w' ⟨rfl, rfl⟩)
    | (go_at_call 41; (with_reducible show Calls _ _ #[Value.int _ h, _] _ _); refine (k2 _).mono ?_; rintro e w' ⟨rfl, rfl⟩)
    | (go_at_call 41; refine (k3 _).mono ?_; rintro e w' ⟨rfl, rfl⟩)
    | (go_at_call 40; refine (kor _ _ _ (by simp [go_sem]) (by simp [go_sem]) (by simp [go_sem])).mono ?_; rintro e w' ⟨rfl, rfl⟩))
  all_goals go_wp2
  all_goals go_ret
  all_goals exact ⟨rfl, by repeat (first | exact Below.refl _ _ | refine Below.drew ?_ | refine Below.alloc ?_ (by simp <;> omega) _)⟩
end Go.Proofs.YtjdapofjlbifjaaDoor
