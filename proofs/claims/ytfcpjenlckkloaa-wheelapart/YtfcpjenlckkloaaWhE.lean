/- The slot of a time; Time, Len, Now. -/
import Derived.Test.YtfcpjenlckkloaaWhD
namespace Go.Proofs.Ytfcpjenlckkloaa
open Go.RowKit
set_option linter.unusedVariables false
set_option linter.unusedSimpArgs false

theorem slot_any (g : Nat) (now t : Int) (w : World) (h1 : w.cell? ⟨g, 1, none⟩ = some (.int .i64 now)) (n0 : 0 ≤ now) (n1 : now ≤ 4611686018427387904) (t1 : t ≤ 4611686018427387904) :
    Calls Try.prog 38 #[.pointer (some ⟨g, 0, none⟩), .int .i64 t] w fun e w' => e = .returned (.pointer (some ⟨g, 3 + M.slot now t, none⟩)) ∧ w' = w.drew := by
  obtain ⟨N, hN⟩ := Int.eq_ofNat_of_zero_le n0
  obtain ⟨X, hX⟩ : ∃ X : Nat, max t now = (X : Int) := Int.eq_ofNat_of_zero_le (by omega)
  have hs : M.slot now t = 64 * M.ap N X + M.dg X (M.ap N X) := by
    unfold M.slot M.slotN
    rw [hX, hN]
    rfl
  have hr := (M.ap_row (a := N) (b := X) (by omega) (by omega)).2.2
  have hd := M.dg_lt X (M.ap N X)
  have ka := apart_any N X w (by omega) (by omega)
  have kd := digit_any X (M.ap N X) w.drew (by omega) hr
  rw [hs]
  generalize M.ap N X = r at *
  generalize M.dg X r = d at *
  subst hN
  have r0 : (0 : Int) ≤ ↑r := by omega
  have r1 : (↑r : Int) < 11 := by omega
  have d0 : (0 : Int) ≤ ↑d := by omega
  have d1 : (↑d : Int) < 64 := by omega
  go_enter Try.func38, Try.ntmps38
  go_wp2_with fail
  refine Calls.mono ka ?_
  rintro e w' ⟨rfl, rfl⟩
  go_wp2
  go_region_held3 (fun w'' => True) (go_keep) (first
    | (go_at_call 46; refine kd.mono ?_; rintro e w' ⟨rfl, rfl⟩))
  all_goals go_wp2
  all_goals go_ret
  all_goals refine ⟨?_, rfl⟩
  all_goals (show Ending.returned (.pointer (some ⟨g, 3 + r * 64 + d, none⟩)) = _)
  all_goals rw [show 3 + r * 64 + d = 3 + (64 * r + d) by omega]
theorem time_at (w : World) (g m : Nat) (now : Int) (E : List M.Ent) (sl : List Sl) (h : Wm w g m now E sl) (id : Int) (hi : In64 id) :
    Calls Try.prog 20 #[.pointer (some ⟨g, 0, none⟩), .int .i64 id] w fun e w' => e = .returned (.tuple #[.int .i64 ((M.tm E id).getD 0), .bool (M.tm E id).isSome]) ∧ w' = w := by
  have c0 := h.blk.cell 0 _ (wc_0 ..)
  have c2 := h.blk.cell 2 _ (wc_2 ..)
  have K := isMade_at g true w c0
  have L := h.map.look2 hi
  generalize (M.tm E id).getD 0 = T at L ⊢
  generalize (M.tm E id).isSome = B at L ⊢
  clear h
  go_enter Try.func20, Try.ntmps20
  go_wp2_with fail
  refine Calls.mono K ?_
  rintro e w' ⟨rfl, rfl⟩
  go_wp2
  go_ret2
  exact ⟨rfl, rfl⟩
theorem len_at (w : World) (g m : Nat) (now : Int) (E : List M.Ent) (sl : List Sl) (h : Wm w g m now E sl) :
    Calls Try.prog 17 #[.pointer (some ⟨g, 0, none⟩)] w fun e w' => e = .returned (.int .i64 E.length) ∧ w' = w := by
  have c0 := h.blk.cell 0 _ (wc_0 ..)
  have c2 := h.blk.cell 2 _ (wc_2 ..)
  have K := isMade_at g true w c0
  have L := h.map.len 3
  clear h
  go_enter Try.func17, Try.ntmps17
  go_wp2_with fail
  refine Calls.mono K ?_
  rintro e w' ⟨rfl, rfl⟩
  go_wp2
  go_ret
  exact ⟨rfl, rfl⟩
theorem now_at (w : World) (g m : Nat) (now : Int) (E : List M.Ent) (sl : List Sl) (h : Wm w g m now E sl) :
    Calls Try.prog 15 #[.pointer (some ⟨g, 0, none⟩)] w fun e w' => e = .returned (.int .i64 now) ∧ w' = w := by
  have c0 := h.blk.cell 0 _ (wc_0 ..)
  have c1 := h.blk.cell 1 _ (wc_1 ..)
  have K := isMade_at g true w c0
  clear h
  go_enter Try.func15, Try.ntmps15
  go_wp2_with fail
  refine Calls.mono K ?_
  rintro e w' ⟨rfl, rfl⟩
  go_wp2
  go_ret
  exact ⟨rfl, rfl⟩
end Go.Proofs.Ytfcpjenlckkloaa
