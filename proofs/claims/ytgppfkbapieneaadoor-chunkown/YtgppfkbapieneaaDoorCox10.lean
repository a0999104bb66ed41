/- Texts joined: CkA -/
import Derived.Test.YtgppfkbapieneaaDoorCox9
import Derived.Sort.Grow
import Derived.Deep.RegionHeld3
namespace Go.Proofs.YtgppfkbapieneaaDoor
open Go.RowKit
set_option linter.unusedVariables false
set_option linter.unusedSimpArgs false
theorem hidW {p : Prop} (h : p) : Hid p := h
def cmpU (a b : Int) : Int := if a < b then -1 else if a > b then 1 else 0
theorem isNaNU_any (a : Int) (w : World) : Calls Tryd.prog 84 #[.int .u64 a] w fun e w' => e = .returned (.bool false) ∧ w' = w := by
  go_enter Tryd.func84, Tryd.ntmps84
  go_wp2
  all_goals go_ret
  all_goals (refine ⟨?_, rfl⟩; first | rfl | simp)
set_option maxRecDepth 100000 in
set_option maxHeartbeats 4000000 in
theorem compareU_any (a b : Int) (w : World) : Calls Tryd.prog 72 #[.int .u64 a, .int .u64 b] w fun e w' => e = .returned (.int .i64 (cmpU a b)) ∧ w' = w := by
  have ka := hidW (isNaNU_any a w)
  have kb := hidW (isNaNU_any b w)
  unfold cmpU
  rcases Int.lt_trichotomy a b with h | h | h
  · rw [if_pos h]
    go_enter Tryd.func72, Tryd.ntmps72
    go_wp2_with (first | (go_at_call 84; refine Calls.mono ka.out ?_; rintro e w' ⟨rfl, rfl⟩) | (go_at_call 84; refine Calls.mono kb.out ?_; rintro e w' ⟨rfl, rfl⟩))
    all_goals go_ret
    all_goals exact ⟨rfl, rfl⟩
  · subst h
    rw [if_neg (by omega), if_neg (by omega)]
    have h1 : ¬ a < a := by omega
    go_enter Tryd.func72, Tryd.ntmps72
    go_wp2_with (first | (go_at_call 84; refine Calls.mono ka.out ?_; rintro e w' ⟨rfl, rfl⟩) | (go_at_call 84; refine Calls.mono kb.out ?_; rintro e w' ⟨rfl, rfl⟩))
    all_goals go_ret
    all_goals exact ⟨rfl, rfl⟩
  · have h1 : ¬ a < b := by omega
    rw [if_neg h1, if_pos h]
    go_enter Tryd.func72, Tryd.ntmps72
    go_wp2_with (first | (go_at_call 84; refine Calls.mono ka.out ?_; rintro e w' ⟨rfl, rfl⟩) | (go_at_call 84; refine Calls.mono kb.out ?_; rintro e w' ⟨rfl, rfl⟩))
    all_goals go_ret
    all_goals exact ⟨rfl, rfl⟩
/-- The first of three that is not 0. -/
def or3 (x y z : Int) : Int := if x = 0 then (if y = 0 then z else y) else x
set_option maxHeartbeats 4000000 in
theorem or3_any (x y z : Int) (b c : Nat) (w : World) (h0 : w.cell? ⟨b, 0, none⟩ = some (.int .i64 x)) (h1 : w.cell? ⟨b, 1, none⟩ = some (.int .i64 y)) (h2 : w.cell? ⟨b, 2, none⟩ = some (.int .i64 z)) :
    Calls Tryd.prog 71 #[.slice (some ⟨b, 0, none⟩) 3 c] w fun e w' => e = .returned (.int .i64 (or3 x y z)) ∧ w' = w := by
  obtain ⟨R, hR⟩ : ∃ R, or3 x y z = R := ⟨_, rfl⟩
  rw [hR]
  have HR := hidW hR
  clear hR
  have hg : ∀ k : Nat, k < 3 → ∃ v : Int, w.cell? ⟨b, k, none⟩ = some (.int .i64 v) ∧ (k = 0 → v = x) ∧ (k = 1 → v = y) ∧ (k = 2 → v = z) := fun k hk => by
    rcases (show k = 0 ∨ k = 1 ∨ k = 2 by omega) with rfl | rfl | rfl
    · exact ⟨x, h0, fun _ => rfl, by omega, by omega⟩
    · exact ⟨y, h1, by omega, fun _ => rfl, by omega⟩
    · exact ⟨z, h2, by omega, by omega, fun _ => rfl⟩
  have HG := hidW hg
  clear hg h0 h1 h2
  go_enter Tryd.func71, Tryd.ntmps71
  go_wp2
  go_loopw [8] (fun i wr => wr = w ∧ ∃ k : Nat, k ≤ 3 ∧ i = .int .i64 k ∧ (1 ≤ k → x = 0) ∧ (2 ≤ k → y = 0) ∧ (3 ≤ k → z = 0)) (fun i _ => 3 - (intOf i).toNat)
  case atStart => exact ⟨rfl, 0, by omega, rfl, by omega, by omega, by omega⟩
  case round =>
    obtain ⟨rfl, k, hk, rfl, q1, q2, q3⟩ := hrel
    by_cases hk3 : k < 3
    · obtain ⟨v, hv, e0, e1, e2⟩ := HG.out k hk3
      have hkb : (k : Int) < 3 := by omega
      by_cases hx : v = 0
      · have hx' : (v != 0) = false := by simp [hx]
        have hw1 : IntKind.i64.wrap ((k : Int) + 1) = ((k + 1 : Nat) : Int) := by simp [IntKind.wrap, IntKind.bits, IntKind.signed]; omega
        have Q : Hid ((1 ≤ k + 1 → x = 0) ∧ (2 ≤ k + 1 → y = 0) ∧ (3 ≤ k + 1 → z = 0)) := by
          refine ⟨fun h => ?_, fun h => ?_, fun h => ?_⟩
          · by_cases h' : k = 0
            · rw [← e0 h']; exact hx
            · exact q1 (by omega)
          · by_cases h' : k = 1
            · rw [← e1 h']; exact hx
            · exact q2 (by omega)
          · by_cases h' : k = 2
            · rw [← e2 h']; exact hx
            · exact q3 (by omega)
        clear q1 q2 q3 e0 e1 e2 hx
        go_wp2
        exact ⟨⟨by trivial, k + 1, by omega, by first | rfl | (congr 1), Q.out.1, Q.out.2.1, Q.out.2.2⟩, by simp only [intOf]; omega⟩
      · have hx' : (v != 0) = true := by simp [hx]
        have hR : R = v := by
          have := HR.out
          unfold or3 at this
          rcases (show k = 0 ∨ k = 1 ∨ k = 2 by omega) with h | h | h
          · have := e0 h
            subst this
            rw [if_neg hx] at this
            simp_all
          · have h1 := e1 h
            subst h1
            rw [if_pos (q1 (by omega)), if_neg hx] at this
            exact this.symm
          · have h1 := e2 h
            subst h1
            rw [if_pos (q1 (by omega)), if_pos (q2 (by omega))] at this
            exact this.symm
        subst hR
        clear q1 q2 q3 e0 e1 e2 hx
        go_wp2
        go_ret
        exact ⟨rfl, rfl⟩
    · have hk' : k = 3 := by omega
      subst hk'
      have hR : R = 0 := by
        have := HR.out
        unfold or3 at this
        rw [if_pos (q1 (by omega)), if_pos (q2 (by omega))] at this
        rw [← this]
        exact q3 (by omega)
      subst hR
      clear q1 q2 q3 hk3
      go_wp2
      go_ret
      exact ⟨rfl, rfl⟩
theorem ord_or (p q : Pt) : ordP p q = or3 (cmpU p.a q.a) (cmpU p.b q.b) (cmpU p.c q.c) := by
  obtain ⟨a, b, c⟩ := p
  obtain ⟨a', b', c'⟩ := q
  unfold ordP or3 cmpU Pt.less
  simp only
  rcases Int.lt_trichotomy a a' with h | h | h
  · simp [h]
  · subst h
    rcases Int.lt_trichotomy b b' with h | h | h
    · simp [h]
    · subst h
      rcases Int.lt_trichotomy c c' with h | h | h
      · simp [h]
      · subst h
        simp
      · have h' : ¬ c < c' := by omega
        simp [h, h']
    · have h' : ¬ b < b' := by omega
      have h'' : b ≠ b' := by omega
      simp [h, h', h'']
  · have h' : ¬ a < a' := by omega
    have h'' : a ≠ a' := by omega
    simp [h, h', h'']
set_option maxRecDepth 100000 in
set_option maxHeartbeats 4000000 in
theorem order_any (p q : Pt) (w : World) :
    Calls Tryd.prog 45 #[.agg p.v, .agg q.v] w fun e w' => e = .returned (.int .i64 (ordP p q)) ∧ ∃ n os, w' = Sort.grow (w.drewN n) os := by
  rw [ord_or]
  obtain ⟨a1, b1, c1⟩ := p
  obtain ⟨a2, b2, c2⟩ := q
  have k0 := hidW (fun W => compareU_any a1 a2 W)
  have k1 := hidW (fun W => compareU_any b1 b2 W)
  have k2 := hidW (fun W => compareU_any c1 c2 W)
  have ko := hidW (fun b c W h0 h1 h2 => or3_any (cmpU a1 a2) (cmpU b1 b2) (cmpU c1 c2) b c W h0 h1 h2)
  simp only
  generalize cmpU a1 a2 = x at *
  generalize cmpU b1 b2 = y at *
  generalize cmpU c1 c2 = z at *
  generalize or3 x y z = R at *
  have hp := blk_new w (Pt.v ⟨a1, b1, c1⟩) 42
  have hq := blk_new (w.alloc (.cells (Pt.v ⟨a1, b1, c1⟩) 42)) (Pt.v ⟨a2, b2, c2⟩) 42
  have hp2 := hp.alloc (.cells (Pt.v ⟨a2, b2, c2⟩) 42)
  obtain ⟨P, eP⟩ : ∃ P, P = w.heap.size := ⟨_, rfl⟩
  obtain ⟨W1, hW1⟩ : ∃ W1, w.alloc (.cells (Pt.v ⟨a1, b1, c1⟩) 42) = W1 := ⟨_, rfl⟩
  rw [← eP] at hp hp2
  rw [hW1] at hp hq hp2
  obtain ⟨Q', eQ⟩ : ∃ Q', Q' = W1.heap.size := ⟨_, rfl⟩
  obtain ⟨W2, hW2⟩ : ∃ W2, W1.alloc (.cells (Pt.v ⟨a2, b2, c2⟩) 42) = W2 := ⟨_, rfl⟩
  rw [← eQ] at hq
  rw [hW2] at hq hp2
  have l0 := hp2.drew.cell 0 _ rfl
  have l1 := hp2.drew.cell 1 _ rfl
  have l2 := hp2.drew.cell 2 _ rfl
  have m0 := hq.drew.cell 0 _ rfl
  have m1 := hq.drew.cell 1 _ rfl
  have m2 := hq.drew.cell 2 _ rfl
  have B : Hid (∀ X, (W2.drew.alloc X).cell? ⟨P, 0, none⟩ = some (.int .u64 a1) ∧ (W2.drew.alloc X).cell? ⟨P, 1, none⟩ = some (.int .u64 b1) ∧ (W2.drew.alloc X).cell? ⟨P, 2, none⟩ = some (.int .u64 c1) ∧ (W2.drew.alloc X).cell? ⟨Q', 0, none⟩ = some (.int .u64 a2) ∧ (W2.drew.alloc X).cell? ⟨Q', 1, none⟩ = some (.int .u64 b2) ∧ (W2.drew.alloc X).cell? ⟨Q', 2, none⟩ = some (.int .u64 c2)) := fun X =>
    ⟨(hp2.drew.alloc X).cell 0 _ rfl, (hp2.drew.alloc X).cell 1 _ rfl, (hp2.drew.alloc X).cell 2 _ rfl, (hq.drew.alloc X).cell 0 _ rfl, (hq.drew.alloc X).cell 1 _ rfl, (hq.drew.alloc X).cell 2 _ rfl⟩
  have HW1 := hidW hW1
  have HW2 := hidW hW2
  clear hp hq hp2
  go_enter Tryd.func45, Tryd.ntmps45
  go_wp2
  try rw [hW1]
  try rw [hW2]
  try rw [← eP]
  try rw [← eQ]
  clear hW1 hW2 eP eQ
  go_region_held3 (fun w'' => w''.cell? ⟨P, 0, none⟩ = some (.int .u64 a1) ∧ w''.cell? ⟨P, 1, none⟩ = some (.int .u64 b1) ∧ w''.cell? ⟨P, 2, none⟩ = some (.int .u64 c1) ∧ w''.cell? ⟨Q', 0, none⟩ = some (.int .u64 a2) ∧ w''.cell? ⟨Q', 1, none⟩ = some (.int .u64 b2) ∧ w''.cell? ⟨Q', 2, none⟩ = some (.int .u64 c2)) (first | exact ⟨l0, l1, l2, m0, m1, m2⟩ | exact B.out _ | go_keep) (first
    | (go_at_call 72; (with_reducible show Calls _ _ #[Value.int _ a1, _] _ _); refine (k0.out _).mono ?_; rintro e w' ⟨rfl, rfl⟩)
    | (go_at_call 72; (with_reducible show Calls _ _ #[Value.int _ b1, _] _ _); refine (k1.out _).mono ?_; rintro e w' ⟨rfl, rfl⟩)
    | (go_at_call 72; refine (k2.out _).mono ?_; rintro e w' ⟨rfl, rfl⟩)
    | (go_at_call 71; refine (ko.out _ _ _ (by simp [go_sem]) (by simp [go_sem]) (by simp [go_sem])).mono ?_; rintro e w' ⟨rfl, rfl⟩))
  all_goals go_wp2
  all_goals go_ret
  all_goals (
    refine ⟨rfl, 1, ?_⟩
    rw [← HW2.out, ← HW1.out]
    exact ⟨#[_] ++ #[_] ++ #[_], by rw [Sort.alloc_eq_grow, Sort.alloc_eq_grow, Sort.alloc_eq_grow, Sort.grow_grow, Sort.grow_grow]; rfl⟩)
end Go.Proofs.YtgppfkbapieneaaDoor
