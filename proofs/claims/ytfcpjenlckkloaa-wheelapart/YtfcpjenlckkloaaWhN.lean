/- The order of Tick: cmp.Or, Tick's closure. -/
import Derived.Test.YtfcpjenlckkloaaWhM
namespace Go.Proofs.Ytfcpjenlckkloaa
open Go.RowKit
set_option linter.unusedVariables false
set_option linter.unusedSimpArgs false

def cmpI (a b : Int) : Int := if a < b then -1 else if a > b then 1 else 0
theorem isNaN_any (a : Int) (w : World) : Calls Try.prog 44 #[.int .i64 a] w fun e w' => e = .returned (.bool false) ∧ w' = w := by
  go_enter Try.func44, Try.ntmps44
  go_wp2
  all_goals go_ret
  all_goals (refine ⟨?_, rfl⟩; first | rfl | simp)
set_option maxHeartbeats 4000000 in
theorem compare_any (a b : Int) (w : World) : Calls Try.prog 35 #[.int .i64 a, .int .i64 b] w fun e w' => e = .returned (.int .i64 (cmpI a b)) ∧ w' = w := by
  have ka := hidW (isNaN_any a w)
  have kb := hidW (isNaN_any b w)
  unfold cmpI
  rcases Int.lt_trichotomy a b with h | h | h
  · rw [if_pos h]
    go_enter Try.func35, Try.ntmps35
    go_wp2_with (first | (go_at_call 44; refine Calls.mono ka.out ?_; rintro e w' ⟨rfl, rfl⟩) | (go_at_call 44; refine Calls.mono kb.out ?_; rintro e w' ⟨rfl, rfl⟩))
    all_goals go_ret
    all_goals exact ⟨rfl, rfl⟩
  · subst h
    rw [if_neg (by omega), if_neg (by omega)]
    have h1 : ¬ a < a := by omega
    go_enter Try.func35, Try.ntmps35
    go_wp2_with (first | (go_at_call 44; refine Calls.mono ka.out ?_; rintro e w' ⟨rfl, rfl⟩) | (go_at_call 44; refine Calls.mono kb.out ?_; rintro e w' ⟨rfl, rfl⟩))
    all_goals go_ret
    all_goals exact ⟨rfl, rfl⟩
  · have h1 : ¬ a < b := by omega
    rw [if_neg h1, if_pos h]
    go_enter Try.func35, Try.ntmps35
    go_wp2_with (first | (go_at_call 44; refine Calls.mono ka.out ?_; rintro e w' ⟨rfl, rfl⟩) | (go_at_call 44; refine Calls.mono kb.out ?_; rintro e w' ⟨rfl, rfl⟩))
    all_goals go_ret
    all_goals exact ⟨rfl, rfl⟩
set_option maxHeartbeats 4000000 in
theorem or_any (x y : Int) (b c : Nat) (w : World) (h0 : w.cell? ⟨b, 0, none⟩ = some (.int .i64 x)) (h1 : w.cell? ⟨b, 1, none⟩ = some (.int .i64 y)) :
    Calls Try.prog 34 #[.slice (some ⟨b, 0, none⟩) 2 c] w fun e w' => e = .returned (.int .i64 (if x = 0 then y else x)) ∧ w' = w := by
  have hl := hidW h1
  obtain ⟨R, hR⟩ : ∃ R, (if x = 0 then y else x) = R := ⟨_, rfl⟩
  rw [hR]
  have HR := hidW hR
  clear hR
  go_enter Try.func34, Try.ntmps34
  go_wp2
  go_loopw [8] (fun i wr => wr = w ∧ ∃ k : Nat, k ≤ 2 ∧ i = .int .i64 k ∧ (1 ≤ k → x = 0) ∧ (2 ≤ k → y = 0)) (fun i _ => 2 - (intOf i).toNat)
  case atStart => exact ⟨rfl, 0, by omega, rfl, by omega, by omega⟩
  case round =>
    obtain ⟨rfl, k, hk, rfl, q1, q2⟩ := hrel
    rcases (show k = 0 ∨ k = 1 ∨ k = 2 by omega) with rfl | rfl | rfl
    · by_cases hx : x = 0
      · have hx' : (x != 0) = false := by simp [hx]
        clear q1 q2
        go_wp2
        exact ⟨⟨by trivial, 1, by omega, rfl, fun _ => hx, by omega⟩, by simp [intOf]⟩
      · have hx' : (x != 0) = true := by simp [hx]
        have : R = x := by have := HR.out; rw [if_neg hx] at this; exact this.symm
        subst this
        clear q1 q2
        go_wp2
        go_ret
        exact ⟨rfl, rfl⟩
    · have hx := q1 (by omega)
      have hR : R = y := by have := HR.out; rw [if_pos hx] at this; exact this.symm
      subst hR
      by_cases hy : R = 0
      · have hx' : (R != 0) = false := by simp [hy]
        have Hx := hidW hx
        have Hy := hidW hy
        clear q1 q2 hx hy
        go_wp2
        exact ⟨⟨by trivial, 2, by omega, rfl, fun _ => Hx.out, fun _ => Hy.out⟩, by simp [intOf]⟩
      · have hx' : (R != 0) = true := by simp [hy]
        clear q1 q2 hx
        go_wp2
        go_ret
        exact ⟨rfl, rfl⟩
    · have hx := q1 (by omega)
      have hy := q2 (by omega)
      have hR : R = 0 := by have := HR.out; rw [if_pos hx] at this; rw [← this]; exact hy
      subst hR
      clear q1 q2 hx hy
      go_wp2
      go_ret
      exact ⟨rfl, rfl⟩
/-- The order of numbers by their times. -/
def cfE (E : List M.Ent) (x y : Int) : Int := if cmpI ((M.tm E x).getD 0) ((M.tm E y).getD 0) = 0 then cmpI x y else cmpI ((M.tm E x).getD 0) ((M.tm E y).getD 0)
theorem cfE_lt (E : List M.Ent) (x y : Int) : cfE E x y < 0 ↔ M.ltE E x y := by
  unfold cfE cmpI M.ltE
  generalize (M.tm E x).getD 0 = a
  generalize (M.tm E y).getD 0 = b
  split <;> (try split) <;> (try split) <;> (try split) <;> (try split) <;> omega
set_option maxRecDepth 100000 in
set_option maxHeartbeats 4000000 in
theorem less_any (bx g m : Nat) (E : List M.Ent) (x y : Int) (hx : In64 x) (hy : In64 y) (w : World) (h0 : w.cell? ⟨bx, 0, none⟩ = some (.pointer (some ⟨g, 0, none⟩))) (h1 : w.cell? ⟨g, 2, none⟩ = some (.map (some m))) (hm : MapT w m E) :
    Calls Try.prog 33 #[.int .i64 x, .int .i64 y, .pointer (some ⟨bx, 0, none⟩)] w fun e w' => e = .returned (.int .i64 (cfE E x y)) ∧ ∃ X, w' = w.drew.alloc X := by
  have L1 : Hid (∀ W, MapT W m E → (Instr.lookup 53 (.map (some m)) (.int .i64 x) false).run Try.prog W = .ok (.int .i64 ((M.tm E x).getD 0)) W) := fun W h => h.look1 hx
  have L2 : Hid (∀ W, MapT W m E → (Instr.lookup 53 (.map (some m)) (.int .i64 y) false).run Try.prog W = .ok (.int .i64 ((M.tm E y).getD 0)) W) := fun W h => h.look1 hy
  have k0 := hidW (fun W => compare_any ((M.tm E x).getD 0) ((M.tm E y).getD 0) W)
  have k1 := hidW (fun W => compare_any x y W)
  have ko := hidW (fun b c W h0 h1 => or_any (cmpI ((M.tm E x).getD 0) ((M.tm E y).getD 0)) (cmpI x y) b c W h0 h1)
  have hcf : cfE E x y = if cmpI ((M.tm E x).getD 0) ((M.tm E y).getD 0) = 0 then cmpI x y else cmpI ((M.tm E x).getD 0) ((M.tm E y).getD 0) := rfl
  rw [hcf]
  clear hcf
  generalize (if cmpI ((M.tm E x).getD 0) ((M.tm E y).getD 0) = 0 then cmpI x y else cmpI ((M.tm E x).getD 0) ((M.tm E y).getD 0)) = R at *
  generalize cmpI ((M.tm E x).getD 0) ((M.tm E y).getD 0) = p at *
  generalize cmpI x y = q at *
  generalize (M.tm E x).getD 0 = tx at *
  generalize (M.tm E y).getD 0 = ty at *
  have l1 := L1.out w.drew (hm.but ((But.refl (fun _ => False) w).drew) (fun x => x))
  have l2 := L2.out w.drew (hm.but ((But.refl (fun _ => False) w).drew) (fun x => x))
  have A : Hid (∀ X, (Instr.lookup 53 (.map (some m)) (.int .i64 x) false).run Try.prog (w.drew.alloc X) = .ok (.int .i64 tx) (w.drew.alloc X) ∧ (Instr.lookup 53 (.map (some m)) (.int .i64 y) false).run Try.prog (w.drew.alloc X) = .ok (.int .i64 ty) (w.drew.alloc X)) := fun X =>
    have hh := hm.but (((But.refl (fun _ => False) w).drew).alloc X) (fun x => x)
    ⟨L1.out _ hh, L2.out _ hh⟩
  have hbl := World.block_lt_of_cell? w _ h0
  have hgl := World.block_lt_of_cell? w _ h1
  have B : Hid (∀ X, (w.drew.alloc X).cell? ⟨bx, 0, none⟩ = some (.pointer (some ⟨g, 0, none⟩)) ∧ (w.drew.alloc X).cell? ⟨g, 2, none⟩ = some (.map (some m))) := fun X =>
    have b := ((But.refl (fun _ => False) w).drew).alloc X
    ⟨b.cell (fun x => x) h0, b.cell (fun x => x) h1⟩
  clear L1 L2 hm
  go_enter Try.func33, Try.ntmps33
  go_wp2
  go_region_held3 (fun w'' => w''.cell? ⟨bx, 0, none⟩ = some (.pointer (some ⟨g, 0, none⟩)) ∧ w''.cell? ⟨g, 2, none⟩ = some (.map (some m)) ∧ (Instr.lookup 53 (.map (some m)) (.int .i64 x) false).run Try.prog w'' = .ok (.int .i64 tx) w'' ∧ (Instr.lookup 53 (.map (some m)) (.int .i64 y) false).run Try.prog w'' = .ok (.int .i64 ty) w'') (first | exact ⟨h0, h1, l1, l2⟩ | exact ⟨(B.out _).1, (B.out _).2, (A.out _).1, (A.out _).2⟩ | go_keep) (first
    | (go_at_call 35; (with_reducible show Calls _ _ #[Value.int _ x, _] _ _); refine (k1.out _).mono ?_; rintro e w' ⟨rfl, rfl⟩)
    | (go_at_call 35; refine (k0.out _).mono ?_; rintro e w' ⟨rfl, rfl⟩)
    | (go_at_call 34; refine (ko.out _ _ _ (by simp [go_sem]) (by simp [go_sem])).mono ?_; rintro e w' ⟨rfl, rfl⟩))
  all_goals go_wp2
  all_goals go_ret
  all_goals exact ⟨rfl, _, rfl⟩
end Go.Proofs.Ytfcpjenlckkloaa
