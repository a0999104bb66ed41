/- Texts joined: CmN CmD -/
import Derived.Test.YtmfgjicfdjjihaaGreatDoorLxa18
namespace Go.Proofs.YtmfgjicfdjjihaaGreatDoor
open Go.RowKit
set_option linter.unusedVariables false
set_option linter.unusedSimpArgs false
/-- The class of the last start that is not behind a point, among the first k. -/
def clsTo (L : List Pt) (K : List Int) (p : Pt) (k : Nat) (x : Int) : Prop := ∃ (i : Nat) (s : Pt), i < k ∧ L[i]? = some s ∧ s.n ≤ p.n ∧ (∀ (j : Nat) (t : Pt), i < j → j < k → L[j]? = some t → p.n < t.n) ∧ K[i]? = some x
set_option maxRecDepth 100000 in
set_option maxHeartbeats 8000000 in
theorem rfind_ck (a1 a2 a3 : Option Addr) (c1 c2 c3 : Nat) (L : List Pt) (K : List Int) (S : List (List Int)) (p : Pt) (w : World) (hs : L.length ≤ 17592186044416) (h1 : RowP w a1 L) (h2 : RowI w a2 K) (h3 : RowS w a3 S) (hp : p.ok) :
  Calls Tryz.prog 33 #[.agg #[.slice a1 L.length c1, .slice a2 K.length c2, .slice a3 S.length c3], .agg p.v] w fun e w' => Finds e L K S p ∧ Below w.heap.size w w' := by
 have HPO : Hid p.ok := hp
 have HPN : Hid (0 ≤ p.n) := by show 0 ≤ p.n; obtain ⟨⟨q1, q2⟩, ⟨q3, q4⟩, q5, q6⟩ := hp; unfold Pt.n; omega
 obtain ⟨W1, hW1⟩ : ∃ W1, w.alloc (.cells #[.slice a1 L.length c1, .slice a2 K.length c2, .slice a3 S.length c3] 63) = W1 := ⟨_, rfl⟩
 obtain ⟨W2, hW2⟩ : ∃ W2, W1.alloc (.cells p.v 86) = W2 := ⟨_, rfl⟩
 have b1 := bel_nw hW1
 have b2 := bel_al b1 hW2
 have HB1 : Hid (Blk W2 w.heap.size 63 #[.slice a1 L.length c1, .slice a2 K.length c2, .slice a3 S.length c3]) := (blk_nw hW1).al hW2
 have HB2 : Hid (Blk W2 W1.heap.size 86 p.v) := blk_nw hW2
 have KR : Hid _ := rright_ck a1 a2 a3 c1 c2 c3 L K S W2 hs (h1.low b2) (h2.below b2) (h3.below b2)
 have HR1 : Hid (∀ W, Below w.heap.size w W → RowP W a1 L ∧ RowI W a2 K) := fun W hb => ⟨h1.low hb, h2.below hb⟩
 clear h1 h2 h3 hp b1
 obtain ⟨N, hN⟩ : ∃ N, L.length = N := ⟨_, rfl⟩
 obtain ⟨M, hM⟩ : ∃ M, K.length = M := ⟨_, rfl⟩
 have HN : Hid (L.length = N ∧ K.length = M) := ⟨hN, hM⟩
 rw [hN] at hs HB1 hW1 KR ⊢
 rw [hM] at HB1 hW1 KR ⊢
 generalize S.length = Q at *
 clear hN hM
 have d0 := HB1.out.cell 0 (.slice a1 N c1) rfl
 have d1 := HB1.out.cell 1 (.slice a2 M c2) rfl
 have d2 := HB1.out.cell 2 (.slice a3 Q c3) rfl
 go_enter Tryz.func33, Tryz.ntmps33
 go_wp2_with fail
 refine Calls.mono KR.out ?_
 rintro e W3 ⟨⟨r, rfl, hr⟩, bb⟩
 have HR : Hid (r = true ↔ RightC L K S) := hr
 have b3 := bel_tr b2 bb
 have HB3 : Hid (Blk W3 w.heap.size 63 #[.slice a1 N c1, .slice a2 M c2, .slice a3 Q c3]) := HB1.out.kept bb
 have HB4 : Hid (Blk W3 W1.heap.size 86 p.v) := HB2.out.kept bb
 clear hr bb KR d0 d1 d2 hW1 hW2 b2 HB1 HB2
 cases r
 ·have HF : Hid (¬ RightC L K S) := fun h => by have := HR.out.2 h; cases this
  go_wp2
  go_ret2
  exact ⟨.inl ⟨HF.out, rfl⟩, b3⟩
 ·have HRC : Hid (RightC L K S) := HR.out.1 rfl
  have HMN : M = N := by have := HRC.out.2.2.1; rw [HN.out.1, HN.out.2] at this; exact this
  subst HMN
  have HR2 : Hid (∀ W, Below W3.heap.size W3 W → RowP W a1 L ∧ RowI W a2 K ∧ Blk W w.heap.size 63 #[.slice a1 M c1, .slice a2 M c2, .slice a3 Q c3] ∧ Blk W W1.heap.size 86 p.v ∧ Below w.heap.size w W) := fun W hb =>
   ⟨(HR1.out W (bel_tr b3 hb)).1, (HR1.out W (bel_tr b3 hb)).2, HB3.out.kept hb, HB4.out.kept hb, bel_tr b3 hb⟩
  clear HB3 HB4 HR1
  go_wp2_with fail
  go_loopw [6, 7] (fun n i wr => ∃ (k : Nat) (x : Int), k ≤ M ∧ n = .int .i64 x ∧ i = .int .i64 k ∧ Below W3.heap.size W3 wr ∧ Hid (k = 0 ∨ clsTo L K p k x)) (fun _ i _ => M - (intOf i).toNat)
  case atStart => exact ⟨0, 0, Nat.zero_le _, rfl, rfl, Below.refl _ _, .inl rfl⟩
  case round =>
   obtain ⟨k, x, hk, rfl, rfl, qb, qe⟩ := hrel
   by_cases hlt : k < M
   ·have ik : (k : Int) < (M : Int) := by omega
    obtain ⟨q, hq⟩ : ∃ q, L[k]? = some q := ⟨_, List.getElem?_eq_getElem (by rw [HN.out.1]; exact hlt)⟩
    obtain ⟨y, hy⟩ : ∃ y, K[k]? = some y := ⟨_, List.getElem?_eq_getElem (by rw [HN.out.2]; exact hlt)⟩
    have HQ : Hid (L[k]? = some q) := hq
    obtain ⟨r1, r2, B1, B2, b4⟩ := HR2.out wr.drew qb.drew
    have hqo := r1.each q (List.mem_of_getElem? hq)
    have hle := Pt.less_iff HPO.out hqo
    obtain ⟨b, off, ha, q0, q1, q2⟩ := r1.at_ hq
    subst ha
    have d0 := B1.cell 0 (.slice (some ⟨b, off, none⟩) M c1) rfl
    have e0 := (HR2.out wr qb).2.2.1.cell 0 (.slice (some ⟨b, off, none⟩) M c1) rfl
    have KD : Hid _ := less_ck p q wr.drew
    obtain ⟨R, hR⟩ : ∃ R, p.less q = R := ⟨_, rfl⟩
    rw [hR] at KD hle
    have HY : Hid (R = false → clsTo L K p (k + 1) y) := fun h => ⟨k, q, by omega, hq, by
     have h3 : ¬ p.n < q.n := fun h4 => by have := hle.2 h4; rw [h] at this; cases this
     omega, fun j t hj hj' => by omega, hy⟩
    have HZ : Hid (R = true → clsTo L K p (k + 1) x) := fun h => by
     show clsTo L K p (k + 1) x
     have hlt2 := hle.1 h
     rcases qe.out with e | ⟨i, s, g1, g2, g3, g4, g5⟩
     ·subst e
      have h0 := HRC.out.1
      rw [hq] at h0
      cases h0
      have := HPN.out
      have h5 : pt0.n = 0 := by simp [pt0, Pt.n]
      omega
     ·refine ⟨i, s, by omega, g2, g3, fun j t hj hj' ht => ?_, g5⟩
      by_cases e : j = k
      ·subst e
       rw [hq] at ht
       cases ht
       exact hlt2
      ·exact g4 j t hj (by omega) ht
    have HYK : Hid (K[k]? = some y) := hy
    have hw2 : IntKind.i64.wrap ((k : Int) + 1) = ((k + 1 : Nat) : Int) := by simp [IntKind.wrap, IntKind.bits, IntKind.signed]; omega
    clear hR hle hq hy hqo r1 r2 qe B1
    have t0 := B2.cell 0 (.int .u64 p.a) rfl
    have t1 := B2.cell 1 (.int .u64 p.b) rfl
    have t2 := B2.cell 2 (.int .u64 p.c) rfl
    have HD : Hid (Below W3.heap.size W3 wr.drew) := qb.drew
    clear B2 b4
    obtain ⟨pa, pb, pc⟩ := p
    obtain ⟨ua, ub, uc⟩ := q
    simp only at t0 t1 t2 q0 q1 q2
    go_wp2
    go_region_held3 (fun w'' => w''.cell? ⟨w.heap.size, 0, none⟩ = some (.slice (some ⟨b, off, none⟩) M c1) ∧ w''.cell? ⟨b, off + k * 3, none⟩ = some (.int .u64 ua) ∧ w''.cell? ⟨b, off + k * 3 + 1, none⟩ = some (.int .u64 ub) ∧ w''.cell? ⟨b, off + k * 3 + 2, none⟩ = some (.int .u64 uc) ∧ w''.cell? ⟨W1.heap.size, 0, none⟩ = some (.int .u64 pa) ∧ w''.cell? ⟨W1.heap.size, 1, none⟩ = some (.int .u64 pb) ∧ w''.cell? ⟨W1.heap.size, 2, none⟩ = some (.int .u64 pc)) (first | exact ⟨d0, q0, q1, q2, t0, t1, t2⟩ | exact ⟨kept bb d0, kept bb q0, kept bb q1, kept bb q2, kept bb t0, kept bb t1, kept bb t2⟩ | go_keep) (first | (go_at_call 54; refine Calls.mono KD.out ?_; rintro e W4 ⟨rfl, bb⟩))
    have qb4 := bel_tr HD.out bb
    clear d0 e0 q0 q1 q2 t0 t1 t2 bb KD
    cases R
    ·have HC : Hid (k + 1 = 0 ∨ clsTo L K ⟨pa, pb, pc⟩ (k + 1) y) := .inr (HY.out rfl)
     obtain ⟨r1, r2, B1, B2, b4⟩ := HR2.out W4 qb4
     obtain ⟨b', off', ha, hcs⟩ := r2.cells (by rw [HN.out.2]; omega)
     have x0 := hcs k (by rw [HN.out.2]; omega)
     rw [show K.getD k 0 = y by simp [HYK.out]] at x0
     subst ha
     have d1 := B1.cell 1 (.slice (some ⟨b', off', none⟩) M c2) rfl
     clear hcs r1 r2 B1 B2 HY HZ
     go_wp2
     exact ⟨⟨k + 1, y, by omega, rfl, by first | rfl | (congr 1), qb4, HC⟩, by simp only [intOf]; omega⟩
    ·have HC : Hid (k + 1 = 0 ∨ clsTo L K ⟨pa, pb, pc⟩ (k + 1) x) := .inr (HZ.out rfl)
     clear HY HZ
     go_wp2
     exact ⟨⟨k + 1, x, by omega, rfl, by first | rfl | (congr 1), qb4, HC⟩, by simp only [intOf]; omega⟩
   ·have ik : ¬ (k : Int) < (M : Int) := by omega
    have HC : Hid (clsAt L K p x) := by
     show clsAt L K p x
     rcases qe.out with e | ⟨i, s, g1, g2, g3, g4, g5⟩
     ·have h0 := HRC.out.1
      have := (List.getElem?_eq_some_iff.1 h0).1
      have := HN.out.1
      omega
     ·exact ⟨i, s, g2, g3, fun j t hj ht => g4 j t hj (by have := (List.getElem?_eq_some_iff.1 ht).1; have := HN.out.1; omega) ht, g5⟩
    have q6 := (HR2.out wr qb).2.2.2.2
    have B1 := (HR2.out wr qb).2.2.1
    have d0 := B1.cell 0 (.slice a1 M c1) rfl
    clear qe B1
    go_wp2
    go_ret2
    exact ⟨.inr ⟨HRC.out, x, rfl, HC.out⟩, q6⟩
theorem sub_div (K s : Nat) (hK : 0 < K) : (2 ^ s * K - 1) / 2 ^ s = K - 1 := by
 have hp : 0 < 2 ^ s := Nat.pow_pos (by decide)
 obtain ⟨k, rfl⟩ : ∃ k, K = k + 1 := ⟨K - 1, by omega⟩
 have e : 2 ^ s * (k + 1) - 1 = (2 ^ s - 1) + 2 ^ s * k := by
  rw [Nat.mul_add, Nat.mul_one]
  omega
 rw [e, Nat.add_mul_div_left _ _ hp, Nat.div_eq_of_lt (by omega)]
 omega
theorem add_byte (U m s : Nat) : (U * 2 ^ m + 2 ^ m - 1) / 2 ^ s % 256 = (if m ≤ s then U * 2 ^ m / 2 ^ s % 256 else if s + 8 ≤ m then 255 else U * 2 ^ m / 2 ^ s % 256 + 2 ^ (m - s) - 1) ∧ (s < m → m < s + 8 → (U * 2 ^ m / 2 ^ s % 256) % 2 ^ (m - s) = 0) ∧ (s + 8 ≤ m → U * 2 ^ m / 2 ^ s % 256 = 0) := by
 have hpm : 0 < 2 ^ m := Nat.pow_pos (by decide)
 have hps : 0 < 2 ^ s := Nat.pow_pos (by decide)
 by_cases h : m ≤ s
 ·refine ⟨?_, by omega, by omega⟩
  rw [if_pos h]
  obtain ⟨d, rfl⟩ : ∃ d, s = m + d := ⟨s - m, by omega⟩
  have e1 : (U * 2 ^ m + 2 ^ m - 1) / 2 ^ m = U := by
   have := sub_div (U + 1) m (by omega)
   rw [show 2 ^ m * (U + 1) - 1 = U * 2 ^ m + 2 ^ m - 1 by rw [Nat.mul_add, Nat.mul_comm, Nat.mul_one]] at this
   simpa using this
  rw [Nat.pow_add, ← Nat.div_div_eq_div_mul, e1, ← Nat.div_div_eq_div_mul, Nat.mul_div_cancel _ hpm]
 ·obtain ⟨j, rfl⟩ : ∃ j, m = s + j := ⟨m - s, by omega⟩
  have hj0 : 0 < j := by omega
  have e1 : U * 2 ^ (s + j) / 2 ^ s = U * 2 ^ j := by
   rw [Nat.pow_add, Nat.mul_comm (2 ^ s), ← Nat.mul_assoc, Nat.mul_div_cancel _ hps]
  have e2 : (U * 2 ^ (s + j) + 2 ^ (s + j) - 1) / 2 ^ s = U * 2 ^ j + 2 ^ j - 1 := by
   have := sub_div (U * 2 ^ j + 2 ^ j) s (by have := Nat.pow_pos (n := j) (show 0 < 2 by decide); omega)
   rw [← this]
   congr 2
   rw [Nat.pow_add, Nat.mul_add, Nat.mul_left_comm]
  rw [if_neg h, Nat.add_sub_cancel_left, e1, e2]
  by_cases h8 : s + 8 ≤ s + j
  ·rw [if_pos h8]
   obtain ⟨d, rfl⟩ : ∃ d, j = 8 + d := ⟨j - 8, by omega⟩
   have e3 : U * 2 ^ (8 + d) = U * 2 ^ d * 256 := by rw [Nat.pow_add]; show U * (256 * 2 ^ d) = _; rw [Nat.mul_comm 256, Nat.mul_assoc]
   have e4 : 2 ^ (8 + d) = 2 ^ d * 256 := by rw [Nat.pow_add]; show 256 * 2 ^ d = _; rw [Nat.mul_comm]
   have hp := Nat.pow_pos (n := d) (show 0 < 2 by decide)
   rw [e3, e4]
   generalize U * 2 ^ d = A
   generalize 2 ^ d = B at hp
   exact ⟨by omega, by omega, by omega⟩
  ·rw [if_neg h8]
   have hj : j < 8 := by omega
   refine ⟨?_, fun _ _ => ?_, by omega⟩
   ·match j, hj, hj0 with
    | 1, _, _ => omega
    | 2, _, _ => omega
    | 3, _, _ => omega
    | 4, _, _ => omega
    | 5, _, _ => omega
    | 6, _, _ => omega
    | 7, _, _ => omega
   ·match j, hj, hj0 with
    | 1, _, _ => omega
    | 2, _, _ => omega
    | 3, _, _ => omega
    | 4, _, _ => omega
    | 5, _, _ => omega
    | 6, _, _ => omega
    | 7, _, _ => omega
theorem lastAd_fam0 (a : Ad) (n : Int) : (lastAd a n).fam = a.fam := rfl
/-- What a right prefix's number is. -/
theorem prefix_val {a : Ad} {n : Int} (ho : a.ok) (hp : a.rightPrefix n = true) : ∃ U m : Nat, a.val = ((U * 2 ^ m : Nat) : Int) ∧ m = (a.width - n).toNat ∧ (lastAd a n).val = ((U * 2 ^ m + 2 ^ m - 1 : Nat) : Int) := by
 obtain ⟨h1, h2⟩ := has_iff.1 (show a.has n a = true from hp)
 obtain ⟨hr, h3, h4⟩ := right_of_prefix hp
 have hv := masked_val ho hr h3 h4
 rw [h2] at hv
 have h0 := (val_low ho hr).1
 obtain ⟨V, hV⟩ := Int.eq_ofNat_of_zero_le h0
 obtain ⟨m, hm⟩ : ∃ m, (a.width - n).toNat = m := ⟨_, rfl⟩
 have hl := lastAd_val a n
 rw [hm] at hv hl
 have e : V = V / 2 ^ m * 2 ^ m := by
  rw [hV] at hv
  have : ((V : Nat) : Int) = ((V / 2 ^ m * 2 ^ m : Nat) : Int) := by
   rw [hv]
   simp
  exact_mod_cast this
 have hp2 : 0 < 2 ^ m := Nat.pow_pos (by decide)
 refine ⟨V / 2 ^ m, m, by rw [hV]; exact_mod_cast e, hm.symm, ?_⟩
 rw [hl, hV, ← e]
 have : ((V + 2 ^ m - 1 : Nat) : Int) = (V : Int) + 2 ^ m - 1 := by
  rw [Int.natCast_sub (by omega)]
  simp
 rw [this]
theorem last_right {a : Ad} {n : Int} (ho : a.ok) (hp : a.rightPrefix n = true) : (lastAd a n).ok ∧ (lastAd a n).right = true := by
 obtain ⟨hr, h3, h4⟩ := right_of_prefix hp
 have hb := last_bound ho hp
 have hf := right_fam hr
 refine ⟨⟨?_, hb.1, hb.2⟩, ?_⟩
 ·show _ ≤ (lastAd a n).fam ∧ (lastAd a n).fam ≤ _
  rw [lastAd_fam0]
  omega
 ·rcases hf with e | e
  ·obtain ⟨⟨n0, n1⟩, he⟩ := last4_p ho hp e
   have hlt : (lastAd a n).lo < 4294967296 ∧ (lastAd a n).hi = 0 := by
    obtain ⟨U, m, hv, hm, hl⟩ := prefix_val ho hp
    have hw : a.width = 32 := by simp [Ad.width, e]
    have hv1 := (val_low ho hr).2
    rw [hw] at hm hv1
    have hm32 : m ≤ 32 := by omega
    have hUm : U * 2 ^ m < 2 ^ 32 := by
     rw [hv] at hv1
     have : ((U * 2 ^ m : Nat) : Int) < ((2 ^ 32 : Nat) : Int) := by simpa using hv1
     exact_mod_cast this
    have hU : U < 2 ^ (32 - m) := by
     have e2 : 2 ^ 32 = 2 ^ (32 - m) * 2 ^ m := by rw [← Nat.pow_add]; congr 1; omega
     rw [e2] at hUm
     exact Nat.lt_of_mul_lt_mul_right hUm
    have hsum : U * 2 ^ m + 2 ^ m ≤ 2 ^ 32 := by
     have e2 : 2 ^ 32 = 2 ^ (32 - m) * 2 ^ m := by rw [← Nat.pow_add]; congr 1; omega
     rw [e2, ← Nat.succ_mul]
     exact Nat.mul_le_mul_right _ hU
    have hval : (lastAd a n).val < 4294967296 := by
     rw [hl]
     have : U * 2 ^ m + 2 ^ m - 1 < 4294967296 := by
      have h9 : (2 : Nat) ^ 32 = 4294967296 := by decide
      have h10 : 0 < 2 ^ m := Nat.pow_pos (by decide)
      omega
     exact Int.ofNat_lt.2 this
    have hd : (lastAd a n).val = (lastAd a n).hi * 18446744073709551616 + (lastAd a n).lo := rfl
    rw [hd] at hval
    have := hb.1.1
    have := hb.2.1
    omega
   unfold Ad.right
   rw [lastAd_fam0, if_pos e, hlt.2]
   have : (lastAd a n).lo / 4294967296 = 0 := Int.ediv_eq_zero_of_lt hb.2.1 hlt.1
   simp [this]
  ·unfold Ad.right
   rw [lastAd_fam0, if_neg (by omega)]
   simp [e]
theorem last_byte {a : Ad} {n : Int} (ho : a.ok) (hp : a.rightPrefix n = true) (i : Nat) (hi : i < a.bytes.length) : (lastAd a n).bytes.length = a.bytes.length ∧ (lastAd a n).bytes.getD i 0 = a.bytes.getD i 0 + 2 ^ (8 - min (n - 8 * i).toNat 8) - 1 ∧ a.bytes.getD i 0 % 2 ^ (8 - min (n - 8 * i).toNat 8) = 0 := by
 obtain ⟨hr, h3, h4⟩ := right_of_prefix hp
 obtain ⟨hlo, hlr⟩ := last_right ho hp
 obtain ⟨k, hk⟩ : ∃ k : Nat, (if a.fam = 4 then 4 else 16 : Nat) = k := ⟨_, rfl⟩
 have hw : a.width = 8 * (k : Int) := by unfold Ad.width; rw [← hk]; split <;> rfl
 have e1 : a.bytes = bytesGo k a.hi a.lo := by unfold Ad.bytes; rw [if_pos hr, hk]
 have e2 : (lastAd a n).bytes = bytesGo k (lastAd a n).hi (lastAd a n).lo := by
  unfold Ad.bytes; rw [if_pos hlr]; show bytesGo (if a.fam = 4 then 4 else 16) _ _ = _; rw [hk]
 rw [e1, bytesGo_length] at hi
 refine ⟨by rw [e1, e2, bytesGo_length, bytesGo_length], ?_⟩
 obtain ⟨U, m, hv, hm, hl⟩ := prefix_val ho hp
 obtain ⟨_, ⟨hh0, hh1⟩, ⟨hl0, hl1⟩⟩ := ho
 obtain ⟨_, ⟨mh0, mh1⟩, ⟨ml0, ml1⟩⟩ := hlo
 rw [e1, e2, bytesGo_get k _ _ i hi hh0 hl0 (by omega), bytesGo_get k _ _ i hi mh0 ml0 (by omega)]
 unfold Ad.val at hv hl
 rw [hv, hl]
 have e4 : (256 : Int) ^ (k - 1 - i) = ((2 ^ (8 * (k - 1 - i)) : Nat) : Int) := by
  rw [Nat.pow_mul]
  simp
 rw [e4]
 have c1 : ((U * 2 ^ m + 2 ^ m - 1 : Nat) : Int) / ((2 ^ (8 * (k - 1 - i)) : Nat) : Int) % 256 = (((U * 2 ^ m + 2 ^ m - 1) / 2 ^ (8 * (k - 1 - i)) % 256 : Nat) : Int) := by
  rw [← Int.natCast_ediv]; rfl
 have c2 : ((U * 2 ^ m : Nat) : Int) / ((2 ^ (8 * (k - 1 - i)) : Nat) : Int) % 256 = ((U * 2 ^ m / 2 ^ (8 * (k - 1 - i)) % 256 : Nat) : Int) := by
  rw [← Int.natCast_ediv]; rfl
 rw [c1, c2]
 obtain ⟨b1, b2, b3⟩ := add_byte U m (8 * (k - 1 - i))
 rw [b1]
 obtain ⟨x, hx⟩ : ∃ x, U * 2 ^ m / 2 ^ (8 * (k - 1 - i)) % 256 = x := ⟨_, rfl⟩
 rw [hx] at b2 b3 ⊢
 by_cases q1 : m ≤ 8 * (k - 1 - i)
 ·rw [if_pos q1]
  have : min (n - 8 * (i : Int)).toNat 8 = 8 := by omega
  rw [this]
  simp
 ·rw [if_neg q1]
  by_cases q2 : 8 * (k - 1 - i) + 8 ≤ m
  ·rw [if_pos q2]
   have hx0 := b3 q2
   subst hx0
   have : min (n - 8 * (i : Int)).toNat 8 = 0 := by omega
   rw [this]
   simp
  ·rw [if_neg q2]
   obtain ⟨j, hj⟩ : ∃ j, m - 8 * (k - 1 - i) = j := ⟨_, rfl⟩
   have : 8 - min (n - 8 * (i : Int)).toNat 8 = j := by omega
   rw [this, hj]
   have hz := b2 (by omega) (by omega)
   rw [hj] at hz
   have hpj : 0 < 2 ^ j := Nat.pow_pos (by decide)
   refine ⟨?_, ?_⟩
   ·rw [Int.natCast_sub (by omega)]
    simp
   ·have : ((x % 2 ^ j : Nat) : Int) = 0 := by rw [hz]; rfl
    simpa using this
end Go.Proofs.YtmfgjicfdjjihaaGreatDoor
