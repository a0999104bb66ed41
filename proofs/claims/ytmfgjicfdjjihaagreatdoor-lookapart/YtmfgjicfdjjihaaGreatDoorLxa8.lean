/- Texts joined: CkA CkB -/
import Derived.Test.YtmfgjicfdjjihaaGreatDoorLxa7
import Derived.Sort.Grow
import Derived.Deep.RegionHeld3
namespace Go.Proofs.YtmfgjicfdjjihaaGreatDoor
open Go.RowKit
set_option linter.unusedVariables false
set_option linter.unusedSimpArgs false
theorem hidW {p : Prop} (h : p) : Hid p := h
def cmpU (a b : Int) : Int := if a < b then -1 else if a > b then 1 else 0
theorem isNaNU_any (a : Int) (w : World) : Calls Tryz.prog 101 #[.int .u64 a] w fun e w' => e = .returned (.bool false) ∧ w' = w := by
 go_enter Tryz.func101, Tryz.ntmps101
 go_wp2
 all_goals go_ret
 all_goals (refine ⟨?_, rfl⟩; first | rfl | simp)
set_option maxRecDepth 100000 in
set_option maxHeartbeats 4000000 in
theorem compareU_any (a b : Int) (w : World) : Calls Tryz.prog 81 #[.int .u64 a, .int .u64 b] w fun e w' => e = .returned (.int .i64 (cmpU a b)) ∧ w' = w := by
 have ka := hidW (isNaNU_any a w)
 have kb := hidW (isNaNU_any b w)
 unfold cmpU
 rcases Int.lt_trichotomy a b with h | h | h
 ·rw [if_pos h]
  go_enter Tryz.func81, Tryz.ntmps81
  go_wp2_with (first | (go_at_call 101; refine Calls.mono ka.out ?_; rintro e w' ⟨rfl, rfl⟩) | (go_at_call 101; refine Calls.mono kb.out ?_; rintro e w' ⟨rfl, rfl⟩))
  all_goals go_ret
  all_goals exact ⟨rfl, rfl⟩
 ·subst h
  rw [if_neg (by omega), if_neg (by omega)]
  have h1 : ¬ a < a := by omega
  go_enter Tryz.func81, Tryz.ntmps81
  go_wp2_with (first | (go_at_call 101; refine Calls.mono ka.out ?_; rintro e w' ⟨rfl, rfl⟩) | (go_at_call 101; refine Calls.mono kb.out ?_; rintro e w' ⟨rfl, rfl⟩))
  all_goals go_ret
  all_goals exact ⟨rfl, rfl⟩
 ·have h1 : ¬ a < b := by omega
  rw [if_neg h1, if_pos h]
  go_enter Tryz.func81, Tryz.ntmps81
  go_wp2_with (first | (go_at_call 101; refine Calls.mono ka.out ?_; rintro e w' ⟨rfl, rfl⟩) | (go_at_call 101; refine Calls.mono kb.out ?_; rintro e w' ⟨rfl, rfl⟩))
  all_goals go_ret
  all_goals exact ⟨rfl, rfl⟩
/-- The first of three that is not 0. -/
def or3 (x y z : Int) : Int := if x = 0 then (if y = 0 then z else y) else x
set_option maxHeartbeats 4000000 in
theorem or3_any (x y z : Int) (b c : Nat) (w : World) (h0 : w.cell? ⟨b, 0, none⟩ = some (.int .i64 x)) (h1 : w.cell? ⟨b, 1, none⟩ = some (.int .i64 y)) (h2 : w.cell? ⟨b, 2, none⟩ = some (.int .i64 z)) :
  Calls Tryz.prog 80 #[.slice (some ⟨b, 0, none⟩) 3 c] w fun e w' => e = .returned (.int .i64 (or3 x y z)) ∧ w' = w := by
 obtain ⟨R, hR⟩ : ∃ R, or3 x y z = R := ⟨_, rfl⟩
 rw [hR]
 have HR := hidW hR
 clear hR
 have hg : ∀ k : Nat, k < 3 → ∃ v : Int, w.cell? ⟨b, k, none⟩ = some (.int .i64 v) ∧ (k = 0 → v = x) ∧ (k = 1 → v = y) ∧ (k = 2 → v = z) := fun k hk => by
  rcases (show k = 0 ∨ k = 1 ∨ k = 2 by omega) with rfl | rfl | rfl
  ·exact ⟨x, h0, fun _ => rfl, by omega, by omega⟩
  ·exact ⟨y, h1, by omega, fun _ => rfl, by omega⟩
  ·exact ⟨z, h2, by omega, by omega, fun _ => rfl⟩
 have HG := hidW hg
 clear hg h0 h1 h2
 go_enter Tryz.func80, Tryz.ntmps80
 go_wp2
 go_loopw [8] (fun i wr => wr = w ∧ ∃ k : Nat, k ≤ 3 ∧ i = .int .i64 k ∧ (1 ≤ k → x = 0) ∧ (2 ≤ k → y = 0) ∧ (3 ≤ k → z = 0)) (fun i _ => 3 - (intOf i).toNat)
 case atStart => exact ⟨rfl, 0, by omega, rfl, by omega, by omega, by omega⟩
 case round =>
  obtain ⟨rfl, k, hk, rfl, q1, q2, q3⟩ := hrel
  by_cases hk3 : k < 3
  ·obtain ⟨v, hv, e0, e1, e2⟩ := HG.out k hk3
   have hkb : (k : Int) < 3 := by omega
   by_cases hx : v = 0
   ·have hx' : (v != 0) = false := by simp [hx]
    have hw1 : IntKind.i64.wrap ((k : Int) + 1) = ((k + 1 : Nat) : Int) := by simp [IntKind.wrap, IntKind.bits, IntKind.signed]; omega
    have Q : Hid ((1 ≤ k + 1 → x = 0) ∧ (2 ≤ k + 1 → y = 0) ∧ (3 ≤ k + 1 → z = 0)) := by
     refine ⟨fun h => ?_, fun h => ?_, fun h => ?_⟩
     ·by_cases h' : k = 0
      ·rw [← e0 h']; exact hx
      ·exact q1 (by omega)
     ·by_cases h' : k = 1
      ·rw [← e1 h']; exact hx
      ·exact q2 (by omega)
     ·by_cases h' : k = 2
      ·rw [← e2 h']; exact hx
      ·exact q3 (by omega)
    clear q1 q2 q3 e0 e1 e2 hx
    go_wp2
    exact ⟨⟨by trivial, k + 1, by omega, by first | rfl | (congr 1), Q.out.1, Q.out.2.1, Q.out.2.2⟩, by simp only [intOf]; omega⟩
   ·have hx' : (v != 0) = true := by simp [hx]
    have hR : R = v := by
     have := HR.out
     unfold or3 at this
     rcases (show k = 0 ∨ k = 1 ∨ k = 2 by omega) with h | h | h
     ·have := e0 h
      subst this
      rw [if_neg hx] at this
      simp_all
     ·have h1 := e1 h
      subst h1
      rw [if_pos (q1 (by omega)), if_neg hx] at this
      exact this.symm
     ·have h1 := e2 h
      subst h1
      rw [if_pos (q1 (by omega)), if_pos (q2 (by omega))] at this
      exact this.symm
    subst hR
    clear q1 q2 q3 e0 e1 e2 hx
    go_wp2
    go_ret
    exact ⟨rfl, rfl⟩
  ·have hk' : k = 3 := by omega
   subst hk'
   have hR : R = 0 := by
    have := HR.out
    unfold or3 at this
    rw [if_pos (q1 (by omega)), if_pos (q2 (by omega))] at this
    rw [← this]
    exact q3 (by omega)
   subst hR
   clear q1 q2 q3 hk3
   go_wp2
   go_ret
   exact ⟨rfl, rfl⟩
theorem ord_or (p q : Pt) : ordP p q = or3 (cmpU p.a q.a) (cmpU p.b q.b) (cmpU p.c q.c) := by
 obtain ⟨a, b, c⟩ := p
 obtain ⟨a', b', c'⟩ := q
 unfold ordP or3 cmpU Pt.less
 simp only
 rcases Int.lt_trichotomy a a' with h | h | h
 ·simp [h]
 ·subst h
  rcases Int.lt_trichotomy b b' with h | h | h
  ·simp [h]
  ·subst h
   rcases Int.lt_trichotomy c c' with h | h | h
   ·simp [h]
   ·subst h
    simp
   ·have h' : ¬ c < c' := by omega
    simp [h, h']
  ·have h' : ¬ b < b' := by omega
   have h'' : b ≠ b' := by omega
   simp [h, h', h'']
 ·have h' : ¬ a < a' := by omega
  have h'' : a ≠ a' := by omega
  simp [h, h', h'']
set_option maxRecDepth 100000 in
set_option maxHeartbeats 4000000 in
theorem order_any (p q : Pt) (w : World) :
  Calls Tryz.prog 50 #[.agg p.v, .agg q.v] w fun e w' => e = .returned (.int .i64 (ordP p q)) ∧ ∃ n os, w' = Sort.grow (w.drewN n) os := by
 rw [ord_or]
 obtain ⟨a1, b1, c1⟩ := p
 obtain ⟨a2, b2, c2⟩ := q
 have k0 := hidW (fun W => compareU_any a1 a2 W)
 have k1 := hidW (fun W => compareU_any b1 b2 W)
 have k2 := hidW (fun W => compareU_any c1 c2 W)
 have ko := hidW (fun b c W h0 h1 h2 => or3_any (cmpU a1 a2) (cmpU b1 b2) (cmpU c1 c2) b c W h0 h1 h2)
 simp only
 generalize cmpU a1 a2 = x at *
 generalize cmpU b1 b2 = y at *
 generalize cmpU c1 c2 = z at *
 generalize or3 x y z = R at *
 have hp := blk_new w (Pt.v ⟨a1, b1, c1⟩) 86
 have hq := blk_new (w.alloc (.cells (Pt.v ⟨a1, b1, c1⟩) 86)) (Pt.v ⟨a2, b2, c2⟩) 86
 have hp2 := hp.alloc (.cells (Pt.v ⟨a2, b2, c2⟩) 86)
 obtain ⟨P, eP⟩ : ∃ P, P = w.heap.size := ⟨_, rfl⟩
 obtain ⟨W1, hW1⟩ : ∃ W1, w.alloc (.cells (Pt.v ⟨a1, b1, c1⟩) 86) = W1 := ⟨_, rfl⟩
 rw [← eP] at hp hp2
 rw [hW1] at hp hq hp2
 obtain ⟨Q', eQ⟩ : ∃ Q', Q' = W1.heap.size := ⟨_, rfl⟩
 obtain ⟨W2, hW2⟩ : ∃ W2, W1.alloc (.cells (Pt.v ⟨a2, b2, c2⟩) 86) = W2 := ⟨_, rfl⟩
 rw [← eQ] at hq
 rw [hW2] at hq hp2
 have l0 := hp2.drew.cell 0 _ rfl
 have l1 := hp2.drew.cell 1 _ rfl
 have l2 := hp2.drew.cell 2 _ rfl
 have m0 := hq.drew.cell 0 _ rfl
 have m1 := hq.drew.cell 1 _ rfl
 have m2 := hq.drew.cell 2 _ rfl
 have B : Hid (∀ X, (W2.drew.alloc X).cell? ⟨P, 0, none⟩ = some (.int .u64 a1) ∧ (W2.drew.alloc X).cell? ⟨P, 1, none⟩ = some (.int .u64 b1) ∧ (W2.drew.alloc X).cell? ⟨P, 2, none⟩ = some (.int .u64 c1) ∧ (W2.drew.alloc X).cell? ⟨Q', 0, none⟩ = some (.int .u64 a2) ∧ (W2.drew.alloc X).cell? ⟨Q', 1, none⟩ = some (.int .u64 b2) ∧ (W2.drew.alloc X).cell? ⟨Q', 2, none⟩ = some (.int .u64 c2)) := fun X =>
  ⟨(hp2.drew.alloc X).cell 0 _ rfl, (hp2.drew.alloc X).cell 1 _ rfl, (hp2.drew.alloc X).cell 2 _ rfl, (hq.drew.alloc X).cell 0 _ rfl, (hq.drew.alloc X).cell 1 _ rfl, (hq.drew.alloc X).cell 2 _ rfl⟩
 have HW1 := hidW hW1
 have HW2 := hidW hW2
 clear hp hq hp2
 go_enter Tryz.func50, Tryz.ntmps50
 go_wp2
 try rw [hW1]
 try rw [hW2]
 try rw [← eP]
 try rw [← eQ]
 clear hW1 hW2 eP eQ
 go_region_held3 (fun w'' => w''.cell? ⟨P, 0, none⟩ = some (.int .u64 a1) ∧ w''.cell? ⟨P, 1, none⟩ = some (.int .u64 b1) ∧ w''.cell? ⟨P, 2, none⟩ = some (.int .u64 c1) ∧ w''.cell? ⟨Q', 0, none⟩ = some (.int .u64 a2) ∧ w''.cell? ⟨Q', 1, none⟩ = some (.int .u64 b2) ∧ w''.cell? ⟨Q', 2, none⟩ = some (.int .u64 c2)) (first | exact ⟨l0, l1, l2, m0, m1, m2⟩ | exact B.out _ | go_keep) (first
  | (go_at_call 81; (with_reducible show Calls _ _ #[Value.int _ a1, _] _ _); refine (k0.out _).mono ?_; rintro e w' ⟨rfl, rfl⟩)
  | (go_at_call 81; (with_reducible show Calls _ _ #[Value.int _ b1, _] _ _); refine (k1.out _).mono ?_; rintro e w' ⟨rfl, rfl⟩)
  | (go_at_call 81; refine (k2.out _).mono ?_; rintro e w' ⟨rfl, rfl⟩)
  | (go_at_call 80; refine (ko.out _ _ _ (by simp [go_sem]) (by simp [go_sem]) (by simp [go_sem])).mono ?_; rintro e w' ⟨rfl, rfl⟩))
 all_goals go_wp2
 all_goals go_ret
 all_goals (
  refine ⟨rfl, 1, ?_⟩
  rw [← HW2.out, ← HW1.out]
  exact ⟨#[_] ++ #[_] ++ #[_], by rw [Sort.alloc_eq_grow, Sort.alloc_eq_grow, Sort.alloc_eq_grow, Sort.grow_grow, Sort.grow_grow]; rfl⟩)
abbrev z3 : Array Value := #[.int .u64 0, .int .u64 0, .int .u64 0]
abbrev z6 : Array Value := #[.int .u64 0, .int .u64 0, .int .u64 0, .int .u64 0, .int .u64 0, .int .u64 0]
/-- A piece's cells. -/
abbrev pcv (p q : Pt) : Array Value := #[.int .u64 p.a, .int .u64 p.b, .int .u64 p.c, .int .u64 q.a, .int .u64 q.b, .int .u64 q.c]
theorem blk1 (w : World) (X : Obj) (cs : Array Value) (t : TypeId) : Blk ((w.alloc X).alloc (.cells cs t)) (w.heap.size + 1) t cs := by
 have := blk_new (w.alloc X) cs t
 rwa [World.size_alloc] at this
theorem wrapU {n : Int} (h : 0 ≤ n ∧ n ≤ 18446744073709551615) : IntKind.u64.wrap n = n := by simp [IntKind.wrap, IntKind.bits, IntKind.signed]; omega
set_option maxRecDepth 100000 in
set_option maxHeartbeats 4000000 in
theorem number_pt (n : Int) (w : World) (h : 0 ≤ n ∧ n ≤ 18446744073709551615) : Calls Tryz.prog 104 #[.int .i64 n] w fun e w' => e = .returned (.agg (ptNum n).v) ∧ Below w.heap.size w w' := by
 have hw := wrapU h
 go_enter Tryz.func104, Tryz.ntmps104
 go_wp2
 exact ret_cell (k := 2) Tryz.f104 (by kernel_rfl) (blk_new w (ptNum n).v 86) Tryz.underlying86 (by kernel_rfl) (by rfl) rfl ⟨rfl, bel_nw rfl⟩
set_option maxRecDepth 100000 in
set_option maxHeartbeats 4000000 in
theorem address_pt (a : Ad) (w : World) (h : 0 ≤ a.fam ∧ a.fam ≤ 18446744073709551615) : Calls Tryz.prog 105 #[.agg #[.int .i64 a.fam, .int .u64 a.hi, .int .u64 a.lo]] w fun e w' => e = .returned (.agg (ptAd a).v) ∧ Below w.heap.size w w' := by
 have hw := wrapU h
 go_enter Tryz.func105, Tryz.ntmps105
 go_wp2
 exact ret_cell (k := 2) (g := w.heap.size + 1) Tryz.f105 (by kernel_rfl) (blk1 w _ (ptAd a).v 86) Tryz.underlying86 (by kernel_rfl) (by rfl) rfl ⟨rfl, bel_al (bel_nw rfl) rfl⟩
theorem u64_or (i : Nat) (x y : Int) (hx0 : 0 ≤ x) (hx : x % 2 ^ i = 0) (hx1 : x < 2 ^ 64) (hy0 : 0 ≤ y) (hy : y < 2 ^ i) (hy1 : y < 2 ^ 64) : bits .or .u64 x y = x + y :=
 bits_join .u64 64 (by decide) wraps_u64 i x y hx0 hx hx1 hy0 hy hy1
set_option maxRecDepth 100000 in
set_option maxHeartbeats 4000000 in
theorem last4_any (h l n l' : Int) (w : World) (hn : 0 ≤ n ∧ n ≤ 32) (hl : bits .or .u64 l (4294967295 / 2 ^ n.toNat) = l') : Calls Tryz.prog 109 #[.agg #[.int .i64 4, .int .u64 h, .int .u64 l, .int .i64 n]] w fun e w' => e = .returned (.agg #[.int .i64 4, .int .u64 h, .int .u64 l']) ∧ Below w.heap.size w w' := by
 go_enter Tryz.func109, Tryz.ntmps109
 go_wp2
 go_region
 all_goals go_wp2
 all_goals exact ret_cell (k := 2) (g := w.heap.size + 1) Tryz.f109 (by kernel_rfl) ((blk1 w _ #[.int .i64 4, .int .u64 h, .int .u64 l'] 31).alloc _).drew Tryz.underlying31 (by kernel_rfl) (by rfl) rfl ⟨rfl, (bel_al (bel_al (bel_nw rfl) rfl) rfl).drew⟩
set_option maxRecDepth 100000 in
set_option maxHeartbeats 4000000 in
theorem last6_any (h l n m h' l' : Int) (w : World) (hn : 0 ≤ n ∧ n ≤ 128) (hm : (if n - 64 < 0 then 0 else n - 64) = m) (hh : bits .or .u64 h (18446744073709551615 / 2 ^ min n.toNat 64) = h') (hl : bits .or .u64 l (18446744073709551615 / 2 ^ m.toNat) = l') : Calls Tryz.prog 109 #[.agg #[.int .i64 6, .int .u64 h, .int .u64 l, .int .i64 n]] w fun e w' => e = .returned (.agg #[.int .i64 6, .int .u64 h', .int .u64 l']) ∧ Below w.heap.size w w' := by
 have hw : IntKind.i64.wrap (n - 64) = n - 64 := by rw [IntKind.wrap_i64]; omega
 have hm0 : 0 ≤ m ∧ m ≤ 64 := by rw [← hm]; split <;> omega
 go_enter Tryz.func109, Tryz.ntmps109
 go_wp2
 go_region
 all_goals go_wp2
 all_goals go_region
 all_goals go_wp2
 all_goals exact ret_cell (k := 2) (g := w.heap.size + 1) Tryz.f109 (by kernel_rfl) ((blk1 w _ #[.int .i64 6, .int .u64 h', .int .u64 l'] 31).alloc _).drew.drew Tryz.underlying31 (by kernel_rfl) (by rfl) rfl ⟨rfl, (bel_al (bel_al (bel_nw rfl) rfl) rfl).drew.drew⟩
theorem ones32 : ∀ n : Fin 33, 4294967295 / 2 ^ n.val = 2 ^ (32 - n.val) - 1 := by decide +kernel
theorem ones64 : ∀ n : Fin 65, 18446744073709551615 / 2 ^ n.val = 2 ^ (64 - n.val) - 1 := by decide +kernel
theorem one32 (n : Nat) (h : n ≤ 32) : (4294967295 : Int) / 2 ^ n = 2 ^ (32 - n) - 1 := by
 have := ones32 ⟨n, by omega⟩
 simp only at this
 have hp : 1 ≤ 2 ^ (32 - n) := Nat.one_le_two_pow
 have h2 : ((4294967295 / 2 ^ n : Nat) : Int) = ((2 ^ (32 - n) - 1 : Nat) : Int) := by rw [this]
 rw [Int.natCast_ediv, Int.natCast_sub hp] at h2
 simpa using h2
theorem one64 (n : Nat) (h : n ≤ 64) : (18446744073709551615 : Int) / 2 ^ n = 2 ^ (64 - n) - 1 := by
 have := ones64 ⟨n, by omega⟩
 simp only at this
 have hp : 1 ≤ 2 ^ (64 - n) := Nat.one_le_two_pow
 have h2 : ((18446744073709551615 / 2 ^ n : Nat) : Int) = ((2 ^ (64 - n) - 1 : Nat) : Int) := by rw [this]
 rw [Int.natCast_ediv, Int.natCast_sub hp] at h2
 simpa using h2
theorem pow_le64 (k : Nat) (h : k ≤ 64) : (2 : Int) ^ k ≤ 18446744073709551616 := by
 have : 2 ^ k ≤ 2 ^ 64 := Nat.pow_le_pow_right (by decide) h
 have h2 : ((2 ^ k : Nat) : Int) ≤ ((2 ^ 64 : Nat) : Int) := by exact_mod_cast this
 simpa using h2
theorem cut_mod {x : Int} {k : Nat} (h : cutLow x k = x) : x % 2 ^ k = 0 := by
 unfold cutLow at h
 rw [← h]
 exact Int.mul_emod_left _ _
theorem mod_lt {x : Int} {k : Nat} (h0 : 0 ≤ x) (h1 : x ≤ 18446744073709551615) (hk : k ≤ 64) (h : x % 2 ^ k = 0) : x + 2 ^ k - 1 ≤ 18446744073709551615 := by
 obtain ⟨c, hc⟩ : ∃ c, (18446744073709551616 : Int) = c * 2 ^ k := ⟨2 ^ (64 - k), by rw [← Int.pow_add, show 64 - k + k = 64 by omega]; decide⟩
 have hp : (0 : Int) < 2 ^ k := Int.pow_pos (by decide)
 have hd := Int.mul_ediv_add_emod x (2 ^ k)
 rw [h, Int.add_zero] at hd
 have hlt : x / 2 ^ k < c := by
  rw [Int.ediv_lt_iff_lt_mul hp, ← hc]
  omega
 have : (x / 2 ^ k + 1) * 2 ^ k ≤ c * 2 ^ k := Int.mul_le_mul_of_nonneg_right (by omega) (Int.le_of_lt hp)
 rw [Int.add_mul, Int.one_mul, Int.mul_comm (x / 2 ^ k), hd, ← hc] at this
 omega
theorem or_ones {x : Int} {k : Nat} (h0 : 0 ≤ x) (h1 : x ≤ 18446744073709551615) (hk : k ≤ 64) (h : x % 2 ^ k = 0) : bits .or .u64 x (2 ^ k - 1) = x + 2 ^ k - 1 := by
 have hp : (0 : Int) < 2 ^ k := Int.pow_pos (by decide)
 have h3 := pow_le64 k hk
 rw [u64_or k x (2 ^ k - 1) h0 h (by omega) (by omega) (by omega) (by omega)]
 omega
theorem last4_p {a : Ad} {n : Int} (ho : a.ok) (hp : a.rightPrefix n = true) (hf : a.fam = 4) : (0 ≤ n ∧ n ≤ 32) ∧ lastAd a n = ⟨4, a.hi, bits .or .u64 a.lo (4294967295 / 2 ^ n.toNat)⟩ := by
 obtain ⟨h1, h2⟩ := has_iff.1 (show a.has n a = true from hp)
 have hwd : a.width = 32 := by simp [Ad.width, hf]
 simp only [Ad.fits, Bool.and_eq_true, decide_eq_true_eq] at h1
 obtain ⟨hr, h3, h4⟩ := h1
 rw [hwd] at h4
 simp only [Ad.right, hf, if_true, Bool.and_eq_true, beq_iff_eq] at hr
 obtain ⟨_, ⟨a1, a2⟩, ⟨a3, a4⟩⟩ := ho
 have hlo : cutLow a.lo (32 - n).toNat = a.lo := by
  have := congrArg Ad.lo h2
  simp only [Ad.masked, hwd] at this
  rw [show (64 - max (n + 128 - 32 - 64) 0).toNat = (32 - n).toNat by omega] at this
  exact this
 have hm := cut_mod hlo
 refine ⟨⟨h3, h4⟩, ?_⟩
 rw [one32 n.toNat (by omega), show 32 - n.toNat = (32 - n).toNat by omega, or_ones a3 a4 (by omega) hm]
 have hlt := mod_lt a3 a4 (by omega) hm
 have hpp : (0 : Int) < 2 ^ (32 - n).toNat := Int.pow_pos (by decide)
 unfold lastAd Ad.val
 rw [hwd, hf, hr.1]
 generalize (2 : Int) ^ (32 - n).toNat = P at *
 simp only [Ad.mk.injEq, true_and]
 simp only [num2]
 omega
theorem last6_p {a : Ad} {n : Int} (ho : a.ok) (hp : a.rightPrefix n = true) (hf : a.fam = 6) : (0 ≤ n ∧ n ≤ 128) ∧ lastAd a n = ⟨6, bits .or .u64 a.hi (18446744073709551615 / 2 ^ min n.toNat 64), bits .or .u64 a.lo (18446744073709551615 / 2 ^ (if n - 64 < 0 then 0 else n - 64).toNat)⟩ := by
 obtain ⟨h1, h2⟩ := has_iff.1 (show a.has n a = true from hp)
 have hwd : a.width = 128 := by simp [Ad.width, hf]
 simp only [Ad.fits, Bool.and_eq_true, decide_eq_true_eq] at h1
 obtain ⟨hr, h3, h4⟩ := h1
 rw [hwd] at h4
 obtain ⟨_, ⟨a1, a2⟩, ⟨a3, a4⟩⟩ := ho
 have hhi : cutLow a.hi (64 - min n 64).toNat = a.hi := by
  have := congrArg Ad.hi h2
  simp only [Ad.masked, hwd] at this
  rw [show (64 - min (n + 128 - 128) 64).toNat = (64 - min n 64).toNat by omega] at this
  exact this
 have hlo : cutLow a.lo (64 - max (n - 64) 0).toNat = a.lo := by
  have := congrArg Ad.lo h2
  simp only [Ad.masked, hwd] at this
  rw [show (64 - max (n + 128 - 128 - 64) 0).toNat = (64 - max (n - 64) 0).toNat by omega] at this
  exact this
 have m1 := cut_mod hhi
 have m2 := cut_mod hlo
 refine ⟨⟨h3, h4⟩, ?_⟩
 have l1 := mod_lt a1 a2 (by omega) m1
 have l2 := mod_lt a3 a4 (by omega) m2
 rw [one64 (min n.toNat 64) (by omega), one64 (if n - 64 < 0 then 0 else n - 64).toNat (by split <;> omega), show 64 - min n.toNat 64 = (64 - min n 64).toNat by omega, show 64 - (if n - 64 < 0 then 0 else n - 64).toNat = (64 - max (n - 64) 0).toNat by split <;> omega, or_ones a1 a2 (by omega) m1, or_ones a3 a4 (by omega) m2]
 unfold lastAd Ad.val
 rw [hwd, hf]
 by_cases hn : n < 64
 ·have e1 : (64 - max (n - 64) 0).toNat = 64 := by omega
  have e2 : (64 - min n 64).toNat = (64 - n).toNat := by omega
  have e3 : (2 : Int) ^ (128 - n).toNat = 2 ^ (64 - n).toNat * 18446744073709551616 := by
   rw [show (128 - n).toNat = (64 - n).toNat + 64 by omega, Int.pow_add]
   rfl
  rw [e1] at m2 l2 ⊢
  rw [e2] at m1 l1 ⊢
  rw [e3]
  have hpp : (0 : Int) < 2 ^ (64 - n).toNat := Int.pow_pos (by decide)
  generalize (2 : Int) ^ (64 - n).toNat = P at *
  simp only [Ad.mk.injEq, true_and]
  simp only [num2]
  omega
 ·have e1 : (64 - max (n - 64) 0).toNat = (128 - n).toNat := by omega
  have e2 : (64 - min n 64).toNat = 0 := by omega
  rw [e1] at m2 l2 ⊢
  rw [e2] at m1 l1 ⊢
  have hpp : (0 : Int) < 2 ^ (128 - n).toNat := Int.pow_pos (by decide)
  generalize (2 : Int) ^ (128 - n).toNat = P at *
  simp only [Ad.mk.injEq, true_and]
  simp only [num2]
  omega
theorem last_bound {a : Ad} {n : Int} (ho : a.ok) (hp : a.rightPrefix n = true) : (0 ≤ (lastAd a n).hi ∧ (lastAd a n).hi ≤ 18446744073709551615) ∧ (0 ≤ (lastAd a n).lo ∧ (lastAd a n).lo ≤ 18446744073709551615) := by
 obtain ⟨h1, h2⟩ := has_iff.1 (show a.has n a = true from hp)
 have hr := right_fam (right_of_prefix hp).1
 have ho' := ho
 obtain ⟨_, ⟨a1, a2⟩, ⟨a3, a4⟩⟩ := ho
 rcases hr with hf | hf
 ·obtain ⟨⟨n0, n1⟩, he⟩ := last4_p ho' hp hf
  have hwd : a.width = 32 := by simp [Ad.width, hf]
  have hlo : cutLow a.lo (32 - n).toNat = a.lo := by
   have := congrArg Ad.lo h2
   simp only [Ad.masked, hwd] at this
   rw [show (64 - max (n + 128 - 32 - 64) 0).toNat = (32 - n).toNat by omega] at this
   exact this
  have hm := cut_mod hlo
  rw [one32 n.toNat (by omega), show 32 - n.toNat = (32 - n).toNat by omega, or_ones a3 a4 (by omega) hm] at he
  have hlt := mod_lt a3 a4 (by omega) hm
  have hpp : (0 : Int) < 2 ^ (32 - n).toNat := Int.pow_pos (by decide)
  rw [he]
  simp only
  omega
 ·obtain ⟨⟨n0, n1⟩, he⟩ := last6_p ho' hp hf
  have hwd : a.width = 128 := by simp [Ad.width, hf]
  have hhi : cutLow a.hi (64 - min n 64).toNat = a.hi := by
   have := congrArg Ad.hi h2
   simp only [Ad.masked, hwd] at this
   rw [show (64 - min (n + 128 - 128) 64).toNat = (64 - min n 64).toNat by omega] at this
   exact this
  have hlo : cutLow a.lo (64 - max (n - 64) 0).toNat = a.lo := by
   have := congrArg Ad.lo h2
   simp only [Ad.masked, hwd] at this
   rw [show (64 - max (n + 128 - 128 - 64) 0).toNat = (64 - max (n - 64) 0).toNat by omega] at this
   exact this
  have m1 := cut_mod hhi
  have m2 := cut_mod hlo
  have l1 := mod_lt a1 a2 (by omega) m1
  have l2 := mod_lt a3 a4 (by omega) m2
  rw [one64 (min n.toNat 64) (by omega), one64 (if n - 64 < 0 then 0 else n - 64).toNat (by split <;> omega), show 64 - min n.toNat 64 = (64 - min n 64).toNat by omega, show 64 - (if n - 64 < 0 then 0 else n - 64).toNat = (64 - max (n - 64) 0).toNat by split <;> omega, or_ones a1 a2 (by omega) m1, or_ones a3 a4 (by omega) m2] at he
  have p1 : (0 : Int) < 2 ^ (64 - min n 64).toNat := Int.pow_pos (by decide)
  have p2 : (0 : Int) < 2 ^ (64 - max (n - 64) 0).toNat := Int.pow_pos (by decide)
  rw [he]
  simp only
  omega
/-- The program's last address of a prefix. -/
theorem last_any (a : Ad) (n : Int) (w : World) (ho : a.ok) (hp : a.rightPrefix n = true) : Calls Tryz.prog 109 #[.agg #[.int .i64 a.fam, .int .u64 a.hi, .int .u64 a.lo, .int .i64 n]] w fun e w' => e = .returned (.agg #[.int .i64 (lastAd a n).fam, .int .u64 (lastAd a n).hi, .int .u64 (lastAd a n).lo]) ∧ Below w.heap.size w w' := by
 rcases right_fam (right_of_prefix hp).1 with hf | hf
 ·obtain ⟨h1, h2⟩ := last4_p ho hp hf
  rw [h2, hf]
  exact last4_any a.hi a.lo n _ w h1 rfl
 ·obtain ⟨h1, h2⟩ := last6_p ho hp hf
  rw [h2, hf]
  exact last6_any a.hi a.lo n _ _ _ w h1 rfl rfl rfl
end Go.Proofs.YtmfgjicfdjjihaaGreatDoor
