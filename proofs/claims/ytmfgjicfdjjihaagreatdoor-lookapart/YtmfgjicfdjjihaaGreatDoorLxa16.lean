/- Texts joined: CkS CkT -/
import Derived.Test.YtmfgjicfdjjihaaGreatDoorLxa15
namespace Go.Proofs.YtmfgjicfdjjihaaGreatDoor
open Go.RowKit
set_option linter.unusedVariables false
set_option linter.unusedSimpArgs false
set_option maxRecDepth 100000 in
set_option maxHeartbeats 8000000 in
theorem right_ck (a1 a2 a3 : Option Addr) (c1 c2 c3 : Nat) (L : List Pt) (K : List Int) (S : List (List Int)) (w : World) (hs : L.length ≤ 17592186044416) (h1 : RowP w a1 L) (h2 : RowI w a2 K) (h3 : RowS w a3 S) :
  Calls Tryz.prog 22 #[.agg #[.slice a1 L.length c1, .slice a2 K.length c2, .slice a3 S.length c3]] w fun e w' => Tells e (RightC L K S) ∧ Below w.heap.size w w' := by
 have hk := h2.small
 have hS := h3.small
 have H1 : Hid (RowP w a1 L) := h1
 have H2 : Hid (RowI w a2 K) := h2
 have H3 : Hid (RowS w a3 S) := h3
 have HLs : Hid (L.length ≤ 17592186044416) := hs
 obtain ⟨W1, hW1⟩ : ∃ W1, w.alloc (.cells #[.slice a1 L.length c1, .slice a2 K.length c2, .slice a3 S.length c3] 63) = W1 := ⟨_, rfl⟩
 have b1 := bel_nw hW1
 have B1 := blk_nw hW1
 have HB1 : Hid (Blk W1 w.heap.size 63 #[.slice a1 L.length c1, .slice a2 K.length c2, .slice a3 S.length c3]) := B1
 have d0 := B1.cell 0 (.slice a1 L.length c1) rfl
 clear h1 h2 h3 B1
 cases hL : L with
 | nil =>
  subst hL
  have HF : Hid (¬ RightC [] K S) := fun h => by have := h.1; simp at this
  simp only [List.length_nil] at d0 hW1 ⊢
  go_enter Tryz.func22, Tryz.ntmps22
  go_wp2
  go_ret
  exact ⟨Tells.no HF.out, b1⟩
 | cons p L' =>
  have HLE : Hid (L = p :: L') := hL
  have hp : L[0]? = some p := by rw [hL]; rfl
  rw [← hL]
  obtain ⟨b, off, ha, p0, p1, p2⟩ := (H1.out.low b1).at_ hp
  have HP : Hid (L[0]? = some p) := hp
  simp only [Nat.zero_mul, Nat.add_zero] at p0 p1 p2
  have hn0 : 0 < L.length := by rw [hL]; simp
  clear hL hp
  obtain ⟨N, hN⟩ : ∃ N, L.length = N := ⟨_, rfl⟩
  obtain ⟨M, hM⟩ : ∃ M, K.length = M := ⟨_, rfl⟩
  obtain ⟨Q, hQ⟩ : ∃ Q, S.length = Q := ⟨_, rfl⟩
  have HN : Hid (L.length = N ∧ K.length = M ∧ S.length = Q) := ⟨hN, hM, hQ⟩
  rw [hN] at d0 hn0 hs HB1 hW1 ⊢
  rw [hM] at hk HB1 hW1 ⊢
  rw [hQ] at hS HB1 hW1 ⊢
  have hn0' : (0 : Int) < (N : Int) := by omega
  subst ha
  clear hN hM hQ
  by_cases hp0 : p = pt0
  ·have HPZ : Hid (p = pt0) := hp0
   have KR : Hid _ := risingP_any (some ⟨b, off, none⟩) c1 L W1 HLs.out (H1.out.low b1)
   rw [HN.out.1] at KR
   rw [hp0] at p0 p1 p2
   simp only [pt0] at p0 p1 p2
   go_enter Tryz.func22, Tryz.ntmps22
   go_wp2_with fail
   refine Calls.mono KR.out ?_
   rintro e W2 ⟨⟨r, rfl, hr⟩, bb⟩
   have HR1 : Hid (r = true ↔ RiseP L) := hr
   have b2 := bel_tr b1 bb
   have HB2 : Hid (Blk W2 w.heap.size 63 #[.slice (some ⟨b, off, none⟩) N c1, .slice a2 M c2, .slice a3 Q c3]) := HB1.out.kept bb
   have d0' := HB2.out.cell 0 (.slice (some ⟨b, off, none⟩) N c1) rfl
   have d1' := HB2.out.cell 1 (.slice a2 M c2) rfl
   have d2' := HB2.out.cell 2 (.slice a3 Q c3) rfl
   clear hr bb KR p0 p1 p2 d0 b1 hW1 hp0
   cases r
   ·have HF : Hid (¬ RightC L K S) := fun h => by have := HR1.out.2 h.2.1; cases this
    go_wp2
    go_ret
    exact ⟨Tells.no HF.out, b2⟩
   ·by_cases hMN : M = N
    ·subst hMN
     have KC : Hid _ := rightClasses_any a2 c2 Q K W2 (H2.out.below b2)
     rw [HN.out.2.1] at KC
     go_wp2_with fail
     refine Calls.mono KC.out ?_
     rintro e W3 ⟨⟨r, rfl, hr⟩, bb⟩
     have HR2 : Hid (r = true ↔ RightK K Q) := hr
     have b3 := bel_tr b2 bb
     have HB3 : Hid (Blk W3 w.heap.size 63 #[.slice (some ⟨b, off, none⟩) M c1, .slice a2 M c2, .slice a3 Q c3]) := HB2.out.kept bb
     clear d0' d1' d2' hr bb KC b2
     have d2 := HB3.out.cell 2 (.slice a3 Q c3) rfl
     cases r
     ·have HF : Hid (¬ RightC L K S) := fun h => by
       have h4 := h.2.2.2.1
       rw [HN.out.2.2] at h4
       have := HR2.out.2 h4
       cases this
      go_wp2
      go_ret
      exact ⟨Tells.no HF.out, b3⟩
     ·have KS : Hid _ := rightSets_any a3 c3 S W3 (H3.out.below b3)
      rw [HN.out.2.2] at KS
      go_wp2_with fail
      refine Calls.mono KS.out ?_
      rintro e W4 ⟨⟨r, rfl, hr⟩, bb⟩
      have HR3 : Hid (r = true ↔ ∀ s ∈ S, RiseI s) := hr
      have b4 := bel_tr b3 bb
      clear d2 hr bb KS b3
      cases r
      ·have HF : Hid (¬ RightC L K S) := fun h => by have := HR3.out.2 h.2.2.2.2; cases this
       go_wp2
       go_ret
       exact ⟨Tells.no HF.out, b4⟩
      ·have HT : Hid (RightC L K S) := ⟨by rw [HP.out, HPZ.out], by have h9 := HR1.out; simpa using h9, by rw [HN.out.1, HN.out.2.1], by rw [HN.out.2.2]; have h9 := HR2.out; simpa using h9, by have h9 := HR3.out; simpa using h9⟩
       go_wp2
       go_ret
       exact ⟨Tells.yes HT.out, b4⟩
    ·have HF : Hid (¬ RightC L K S) := fun h => by
      have := h.2.2.1
      rw [HN.out.1, HN.out.2.1] at this
      exact hMN this
     have hMN' : ((M : Int) == (N : Int)) = false := by rw [beq_eq_false_iff_ne]; omega
     go_wp2
     go_ret
     exact ⟨Tells.no HF.out, b2⟩
  ·have HF : Hid (¬ RightC L K S) := fun h => by
    have := h.1
    rw [HP.out] at this
    cases this
    exact hp0 rfl
   obtain ⟨pa, pb, pc⟩ := p
   have hne := pt_ne hp0
   simp only [pt0] at hne p0 p1 p2
   rcases hne with hne | ⟨rfl, hne⟩ | ⟨rfl, rfl, hne⟩
   all_goals (
    go_enter Tryz.func22, Tryz.ntmps22
    go_wp2
    go_ret
    exact ⟨Tells.no HF.out, b1⟩)
/-- Where a point would stand. -/
def SpotAt (L : List Pt) (p : Pt) (i : Nat) : Prop := i ≤ L.length ∧ (∀ (k : Nat) (q : Pt), k < i → L[k]? = some q → q.n < p.n) ∧ ∀ (k : Nat) (q : Pt), i ≤ k → L[k]? = some q → p.n ≤ q.n
theorem rise_lt {L : List Pt} (h : RiseP L) : ∀ (k i : Nat) (p q : Pt), L[i]? = some p → L[i + k + 1]? = some q → p.n < q.n
 | 0, i, p, q, hp, hq => h i p q hp hq
 | k + 1, i, p, q, hp, hq => by
  obtain ⟨x, hx⟩ : ∃ x, L[i + k + 1]? = some x := ⟨_, List.getElem?_eq_getElem (by have := (List.getElem?_eq_some_iff.1 hq).1; omega)⟩
  have h1 := rise_lt h k i p x hp hx
  have h2 := h (i + k + 1) x q hx (by rw [show i + k + 1 + 1 = i + (k + 1) + 1 by omega]; exact hq)
  omega
theorem rise_le {L : List Pt} (h : RiseP L) {i j : Nat} {p q : Pt} (hij : i < j) (hp : L[i]? = some p) (hq : L[j]? = some q) : p.n < q.n :=
 rise_lt h (j - i - 1) i p q hp (by rw [show i + (j - i - 1) + 1 = j by omega]; exact hq)
set_option maxRecDepth 100000 in
set_option maxHeartbeats 8000000 in
theorem search_any (a : Option Addr) (c : Nat) (L : List Pt) (p : Pt) (w : World) (hs : L.length ≤ 17592186044416) (h : RowP w a L) (hp : p.ok) (hr : RiseP L) :
  Calls Tryz.prog 86 #[.slice a L.length c, .agg p.v, .func (.func 50) #[] #[]] w fun e w' => (∃ i : Nat, e = .returned (.tuple #[.int .i64 (i : Int), .bool (decide (L[i]? = some p))]) ∧ SpotAt L p i) ∧ Below w.heap.size w w' := by
 obtain ⟨N, hN⟩ : ∃ N, L.length = N := ⟨_, rfl⟩
 have HN : Hid (L.length = N) := hN
 have HR : Hid (RowP w a L) := h
 have HRI : Hid (RiseP L) := hr
 have HPO : Hid p.ok := hp
 have hcf : ∀ args w, (callFunc 50 args).run Tryz.prog w = .ok (.enter 50 args) w := Tryz.call50
 have KO : Hid (∀ (p q : Pt) W, Calls Tryz.prog 50 #[.agg p.v, .agg q.v] W fun e w' => e = .returned (.int .i64 (ordP p q)) ∧ Below W.heap.size W w') := order_b
 rw [hN] at hs ⊢
 clear h hN hr hp
 have HE : Hid (∀ (e : Ending) (w' : World) (i : Nat) (b : Bool), e = .returned (.tuple #[.int .i64 (i : Int), .bool b]) → b = decide (L[i]? = some p) → SpotAt L p i → Below w.heap.size w w' → (∃ i : Nat, e = .returned (.tuple #[.int .i64 (i : Int), .bool (decide (L[i]? = some p))]) ∧ SpotAt L p i) ∧ Below w.heap.size w w') := fun e w' i b h1 h2 h3 h4 => ⟨⟨i, by rw [h1, h2], h3⟩, h4⟩
 generalize hP : (fun e w' => (∃ i : Nat, e = .returned (.tuple #[.int .i64 (i : Int), .bool (decide (L[i]? = some p))]) ∧ SpotAt L p i) ∧ Below w.heap.size w w' : Ending → World → Prop) = P
 have HP : Hid (∀ (e : Ending) (w' : World) (i : Nat) (b : Bool), e = .returned (.tuple #[.int .i64 (i : Int), .bool b]) → b = decide (L[i]? = some p) → SpotAt L p i → Below w.heap.size w w' → P e w') := by rw [← hP]; exact HE
 clear hP HE
 obtain ⟨W1, hW1⟩ : ∃ W1, w.alloc (.cells p.v 86) = W1 := ⟨_, rfl⟩
 have b1 := bel_nw hW1
 have HB1 : Hid (Blk W1 w.heap.size 86 p.v) := blk_nw hW1
 go_enter Tryz.func86, Tryz.ntmps86
 go_wp2_with fail
 clear hW1
 go_loopw [9, 10] (fun vi vj wr => ∃ (i j : Nat), i ≤ j ∧ j ≤ N ∧ vi = .int .i64 i ∧ vj = .int .i64 j ∧ Hid (Blk wr w.heap.size 86 p.v) ∧ Below w.heap.size w wr ∧ Hid (∀ (k : Nat) (q : Pt), k < i → L[k]? = some q → q.n < p.n) ∧ Hid (∀ (k : Nat) (q : Pt), j ≤ k → L[k]? = some q → p.n ≤ q.n)) (fun vi vj _ => (intOf vj).toNat - (intOf vi).toNat)
 case atStart => exact ⟨0, N, Nat.zero_le _, Nat.le_refl _, rfl, rfl, HB1, b1, fun k q hk => by omega, fun k q hk hq => by have := (List.getElem?_eq_some_iff.1 hq).1; have := HN.out; omega⟩
 case round =>
  clear b1
  obtain ⟨i, j, hij, hjN, rfl, rfl, HB, qb, HI, HJ⟩ := hrel
  by_cases hlt : i < j
  ·have ik : (i : Int) < (j : Int) := by omega
   have hw0 : IntKind.i64.wrap ((i : Int) + (j : Int)) = ((i + j : Nat) : Int) := by simp [IntKind.wrap, IntKind.bits, IntKind.signed]; omega
   have hw1 : IntKind.u64.wrap ((i + j : Nat) : Int) = ((i + j : Nat) : Int) := by simp [IntKind.wrap, IntKind.bits, IntKind.signed]; omega
   obtain ⟨m, hm⟩ : ∃ m : Nat, (i + j) / 2 = m := ⟨_, rfl⟩
   have hmi : i ≤ m := by omega
   have hmj : m < j := by omega
   obtain ⟨q, hq⟩ : ∃ q, L[m]? = some q := ⟨_, List.getElem?_eq_getElem (by rw [HN.out]; omega)⟩
   have HQ : Hid (L[m]? = some q) := hq
   have hqo := HR.out.each q (List.mem_of_getElem? hq)
   have HOR : Hid (ordP q p < 0 ↔ q.n < p.n) := ord_neg hqo HPO.out
   obtain ⟨b, off, ha, q0, q1, q2⟩ := ((HR.out.low qb).low (below_drew wr)).at_ hq
   subst ha
   have t0 := HB.out.drew.cell 0 (.int .u64 p.a) rfl
   have t1 := HB.out.drew.cell 1 (.int .u64 p.b) rfl
   have t2 := HB.out.drew.cell 2 (.int .u64 p.c) rfl
   have KD : Hid _ := KO.out q p wr.drew
   generalize hX : ordP q p = X at HOR KD
   clear hX hq hqo
   have hm' : ((i : Int) + (j : Int)) / 2 = (m : Int) := by omega
   have hw2 : IntKind.i64.wrap ((m : Int) + 1) = ((m + 1 : Nat) : Int) := by simp [IntKind.wrap, IntKind.bits, IntKind.signed]; omega
   have HD : Hid (Below w.heap.size w wr.drew) := qb.drew
   have HBD : Hid (Blk wr.drew w.heap.size 86 p.v) := HB.out.drew
   have hmN : m < N := by omega
   have HHI : Hid (∀ (k : Nat) (x : Pt), k < m → L[k]? = some x → x.n < q.n) := fun k x hk hx => rise_le HRI.out hk hx HQ.out
   have HHJ : Hid (∀ (k : Nat) (x : Pt), m ≤ k → L[k]? = some x → q.n ≤ x.n) := fun k x hk hx => by
    by_cases e : k = m
    ·subst e
     rw [HQ.out] at hx
     cases hx
     exact Int.le_refl _
    ·exact Int.le_of_lt (rise_le HRI.out (by omega) HQ.out hx)
   have HN1 : Hid (q.n < p.n ∨ p.n ≤ q.n) := by show _ ∨ _; omega
   obtain ⟨pa, pb, pc⟩ := p
   obtain ⟨qa, qb', qc⟩ := q
   simp only at q0 q1 q2 t0 t1 t2
   go_wp2
   try rw [hm']
   go_region_held3 (fun w'' => w''.cell? ⟨b, off + m * 3, none⟩ = some (.int .u64 qa) ∧ w''.cell? ⟨b, off + m * 3 + 1, none⟩ = some (.int .u64 qb') ∧ w''.cell? ⟨b, off + m * 3 + 2, none⟩ = some (.int .u64 qc) ∧ w''.cell? ⟨w.heap.size, 0, none⟩ = some (.int .u64 pa) ∧ w''.cell? ⟨w.heap.size, 1, none⟩ = some (.int .u64 pb) ∧ w''.cell? ⟨w.heap.size, 2, none⟩ = some (.int .u64 pc)) (first | exact ⟨q0, q1, q2, t0, t1, t2⟩ | exact ⟨kept bb q0, kept bb q1, kept bb q2, kept bb t0, kept bb t1, kept bb t2⟩ | go_keep) (first | (go_at_call 50; refine Calls.mono KD.out ?_; rintro e W2 ⟨rfl, bb⟩))
   have b2 := bel_tr HD.out bb
   have HB2 : Hid (Blk W2 w.heap.size 86 (Pt.v ⟨pa, pb, pc⟩)) := HBD.out.kept bb
   clear q0 q1 q2 t0 t1 t2 bb KD
   by_cases hX : X < 0
   ·have HI' : Hid (∀ (k : Nat) (x : Pt), k < m + 1 → L[k]? = some x → x.n < (⟨pa, pb, pc⟩ : Pt).n) := fun k x hk hx => by
     have h1 := HOR.out.1 hX
     by_cases e : k = m
     ·subst e
      rw [HQ.out] at hx
      cases hx
      exact h1
     ·have := HHI.out k x (by omega) hx
      omega
    go_wp2
    exact ⟨⟨m + 1, j, by omega, hjN, by first | rfl | (congr 1), rfl, HB2, b2, HI', HJ⟩, by simp only [intOf]; omega⟩
   ·have HJ' : Hid (∀ (k : Nat) (x : Pt), m ≤ k → L[k]? = some x → (⟨pa, pb, pc⟩ : Pt).n ≤ x.n) := fun k x hk hx => by
     have h1 : ¬ (⟨qa, qb', qc⟩ : Pt).n < (⟨pa, pb, pc⟩ : Pt).n := fun e => hX (HOR.out.2 e)
     have := HHJ.out k x hk hx
     omega
    go_wp2
    exact ⟨⟨i, m, by omega, by omega, rfl, rfl, HB2, b2, HI, HJ'⟩, by simp only [intOf]; omega⟩
  ·have hijE : i = j := by omega
   subst hijE
   have HSP : Hid (SpotAt L p i) := ⟨by rw [HN.out]; exact hjN, HI.out, HJ.out⟩
   have ik0 : ¬ (i : Int) < (i : Int) := by omega
   clear HI HJ
   by_cases hiN : i < N
   ·have ikN : (i : Int) < (N : Int) := by omega
    obtain ⟨q, hq⟩ : ∃ q, L[i]? = some q := ⟨_, List.getElem?_eq_getElem (by rw [HN.out]; omega)⟩
    have hqo := HR.out.each q (List.mem_of_getElem? hq)
    have HOR : Hid (ordP q p = 0 ↔ L[i]? = some p) := by
     show _ ↔ _
     rw [ord_zero hqo HPO.out, hq]
     simp
    obtain ⟨b, off, ha, q0, q1, q2⟩ := ((HR.out.low qb).low (below_drew wr)).at_ hq
    subst ha
    have t0 := HB.out.drew.cell 0 (.int .u64 p.a) rfl
    have t1 := HB.out.drew.cell 1 (.int .u64 p.b) rfl
    have t2 := HB.out.drew.cell 2 (.int .u64 p.c) rfl
    have KD : Hid _ := KO.out q p wr.drew
    generalize hX : ordP q p = X at HOR KD
    have HXD : Hid ((X == 0) = decide (L[i]? = some p)) := by
     show _ = _
     rw [Bool.eq_iff_iff, beq_iff_eq, decide_eq_true_eq]
     exact HOR.out
    clear hX hq hqo
    have HD : Hid (Below w.heap.size w wr.drew) := qb.drew
    obtain ⟨pa, pb, pc⟩ := p
    obtain ⟨qa, qb', qc⟩ := q
    simp only at q0 q1 q2 t0 t1 t2
    go_wp2
    go_region_held3 (fun w'' => w''.cell? ⟨b, off + i * 3, none⟩ = some (.int .u64 qa) ∧ w''.cell? ⟨b, off + i * 3 + 1, none⟩ = some (.int .u64 qb') ∧ w''.cell? ⟨b, off + i * 3 + 2, none⟩ = some (.int .u64 qc) ∧ w''.cell? ⟨w.heap.size, 0, none⟩ = some (.int .u64 pa) ∧ w''.cell? ⟨w.heap.size, 1, none⟩ = some (.int .u64 pb) ∧ w''.cell? ⟨w.heap.size, 2, none⟩ = some (.int .u64 pc)) (first | exact ⟨q0, q1, q2, t0, t1, t2⟩ | exact ⟨kept bb q0, kept bb q1, kept bb q2, kept bb t0, kept bb t1, kept bb t2⟩ | go_keep) (first | (go_at_call 50; refine Calls.mono KD.out ?_; rintro e W2 ⟨rfl, bb⟩))
    have b2 := bel_tr HD.out bb
    go_wp2
    exact HP.out _ _ i _ rfl HXD.out HSP.out b2
   ·have ikN : ¬ (i : Int) < (N : Int) := by omega
    have HXD : Hid (false = decide (L[i]? = some p)) := by
     show _ = _
     rw [List.getElem?_eq_none (by rw [HN.out]; omega)]
     simp
    go_wp2
    go_quiet (fail)
    have b2 : Below w.heap.size w (wr.drewN nq) := below_drewN qb nq
    go_wp2
    exact HP.out _ _ i _ rfl HXD.out HSP.out b2
/-- The class of a point. -/
def clsAt (L : List Pt) (K : List Int) (p : Pt) (x : Int) : Prop := ∃ (i : Nat) (s : Pt), L[i]? = some s ∧ s.n ≤ p.n ∧ (∀ (j : Nat) (t : Pt), i < j → L[j]? = some t → p.n < t.n) ∧ K[i]? = some x
theorem spot_cls {L : List Pt} {K : List Int} {S : List (List Int)} (hr : RightC L K S) (hok : ∀ q ∈ L, q.ok) {p : Pt} (hp : p.ok) {i : Nat} (hs : SpotAt L p i) :
  (L[i]? = some p → ∃ x, K[i]? = some x ∧ clsAt L K p x) ∧ (L[i]? ≠ some p → 1 ≤ i ∧ ∃ x, K[i - 1]? = some x ∧ clsAt L K p x) := by
 obtain ⟨h0, h1, h2⟩ := hs
 have hkl := hr.2.2.1
 constructor
 ·intro hi
  have hlt := (List.getElem?_eq_some_iff.1 hi).1
  obtain ⟨x, hx⟩ : ∃ x, K[i]? = some x := ⟨_, List.getElem?_eq_getElem (by omega)⟩
  exact ⟨x, hx, i, p, hi, Int.le_refl _, fun j t hj ht => rise_le hr.2.1 hj hi ht, hx⟩
 ·intro hi
  have hi0 : 1 ≤ i := by
   rcases Nat.eq_zero_or_pos i with e | e
   ·subst e
    exfalso
    have h3 := h2 0 pt0 (Nat.le_refl _) hr.1
    have h4 := Pt.low hp
    exact hi (by rw [hr.1, Pt.n_inj pt0_ok hp (by omega)])
   ·exact e
  obtain ⟨x, hx⟩ : ∃ x, K[i - 1]? = some x := ⟨_, List.getElem?_eq_getElem (by omega)⟩
  obtain ⟨s, hs⟩ : ∃ s, L[i - 1]? = some s := ⟨_, List.getElem?_eq_getElem (by omega)⟩
  refine ⟨hi0, x, hx, i - 1, s, hs, Int.le_of_lt (h1 (i - 1) s (by omega) hs), fun j t hj ht => ?_, hx⟩
  have h3 := h2 j t (by omega) ht
  by_cases e : j = i
  ·subst e
   have : p.n ≠ t.n := fun e => hi (by rw [ht, Pt.n_inj hp (hok t (List.mem_of_getElem? ht)) e])
   omega
  ·obtain ⟨q, hq⟩ : ∃ q, L[i]? = some q := ⟨_, List.getElem?_eq_getElem (by have := (List.getElem?_eq_some_iff.1 ht).1; omega)⟩
   have h4 := h2 i q (Nat.le_refl _) hq
   have h5 := rise_le hr.2.1 (show i < j by omega) hq ht
   omega
/-- What Find answers. -/
def Finds (e : Ending) (L : List Pt) (K : List Int) (S : List (List Int)) (p : Pt) : Prop := (¬ RightC L K S ∧ e = .returned (.tuple #[.int .i64 0, .bool false])) ∨ (RightC L K S ∧ ∃ x, e = .returned (.tuple #[.int .i64 x, .bool true]) ∧ clsAt L K p x)
set_option maxRecDepth 100000 in
set_option maxHeartbeats 8000000 in
theorem find_ck (a1 a2 a3 : Option Addr) (c1 c2 c3 : Nat) (L : List Pt) (K : List Int) (S : List (List Int)) (p : Pt) (w : World) (hs : L.length ≤ 17592186044416) (h1 : RowP w a1 L) (h2 : RowI w a2 K) (h3 : RowS w a3 S) (hp : p.ok) :
  Calls Tryz.prog 56 #[.agg #[.slice a1 L.length c1, .slice a2 K.length c2, .slice a3 S.length c3], .agg p.v] w fun e w' => Finds e L K S p ∧ Below w.heap.size w w' := by
 have hk := h2.small
 have H1 : Hid (RowP w a1 L) := h1
 have H2 : Hid (RowI w a2 K) := h2
 have H3 : Hid (RowS w a3 S) := h3
 have HLs : Hid (L.length ≤ 17592186044416) := hs
 have HPO : Hid p.ok := hp
 obtain ⟨W1, hW1⟩ : ∃ W1, w.alloc (.cells #[.slice a1 L.length c1, .slice a2 K.length c2, .slice a3 S.length c3] 63) = W1 := ⟨_, rfl⟩
 obtain ⟨W2, hW2⟩ : ∃ W2, W1.alloc (.cells p.v 86) = W2 := ⟨_, rfl⟩
 have b1 := bel_nw hW1
 have b2 := bel_al b1 hW2
 have HB1 : Hid (Blk W2 w.heap.size 63 #[.slice a1 L.length c1, .slice a2 K.length c2, .slice a3 S.length c3]) := (blk_nw hW1).al hW2
 have HB2 : Hid (Blk W2 W1.heap.size 86 p.v) := blk_nw hW2
 have KR : Hid _ := right_ck a1 a2 a3 c1 c2 c3 L K S W2 HLs.out (H1.out.low b2) (H2.out.below b2) (H3.out.below b2)
 clear h1 h2 h3 hp b1
 obtain ⟨N, hN⟩ : ∃ N, L.length = N := ⟨_, rfl⟩
 obtain ⟨M, hM⟩ : ∃ M, K.length = M := ⟨_, rfl⟩
 obtain ⟨Q, hQ⟩ : ∃ Q, S.length = Q := ⟨_, rfl⟩
 have HN : Hid (L.length = N ∧ K.length = M ∧ S.length = Q) := ⟨hN, hM, hQ⟩
 rw [hN] at hs HB1 hW1 KR ⊢
 rw [hM] at hk HB1 hW1 KR ⊢
 rw [hQ] at HB1 hW1 KR ⊢
 clear hN hM hQ
 have d0 := HB1.out.cell 0 (.slice a1 N c1) rfl
 have d1 := HB1.out.cell 1 (.slice a2 M c2) rfl
 have d2 := HB1.out.cell 2 (.slice a3 Q c3) rfl
 go_enter Tryz.func56, Tryz.ntmps56
 go_wp2_with fail
 refine Calls.mono KR.out ?_
 rintro e W3 ⟨⟨r, rfl, hr⟩, bb⟩
 have HR : Hid (r = true ↔ RightC L K S) := hr
 have b3 := bel_tr b2 bb
 have HB3 : Hid (Blk W3 w.heap.size 63 #[.slice a1 N c1, .slice a2 M c2, .slice a3 Q c3]) := HB1.out.kept bb
 have HB4 : Hid (Blk W3 W1.heap.size 86 p.v) := HB2.out.kept bb
 clear hr bb KR d0 d1 d2 hW1 hW2 b2 HB1 HB2
 cases r
 ·have HF : Hid (¬ RightC L K S) := fun h => by have := HR.out.2 h; cases this
  go_wp2
  go_ret2
  exact ⟨.inl ⟨HF.out, rfl⟩, b3⟩
 ·have HRC : Hid (RightC L K S) := HR.out.1 rfl
  have KB : Hid _ := search_any a1 c1 L p W3 HLs.out (H1.out.low b3) HPO.out HRC.out.2.1
  rw [HN.out.1] at KB
  have d0 := HB3.out.cell 0 (.slice a1 N c1) rfl
  have t0 := HB4.out.cell 0 (.int .u64 p.a) rfl
  have t1 := HB4.out.cell 1 (.int .u64 p.b) rfl
  have t2 := HB4.out.cell 2 (.int .u64 p.c) rfl
  go_wp2_with fail
  refine Calls.mono KB.out ?_
  rintro e W4 ⟨⟨i, rfl, hsp⟩, bb⟩
  have b4 := bel_tr b3 bb
  have HB5 : Hid (Blk W4 w.heap.size 63 #[.slice a1 N c1, .slice a2 M c2, .slice a3 Q c3]) := HB3.out.kept bb
  have HSP : Hid _ := spot_cls HRC.out H1.out.each HPO.out hsp
  clear hsp bb KB d0 t0 t1 t2 b3 HB3 HB4
  have d1 := HB5.out.cell 1 (.slice a2 M c2) rfl
  by_cases hf : L[i]? = some p
  ·obtain ⟨x, hx, hcl⟩ := HSP.out.1 hf
   have HCL : Hid (clsAt L K p x) := hcl
   have hiM : i < M := by have := (List.getElem?_eq_some_iff.1 hx).1; rw [HN.out.2.1] at this; exact this
   obtain ⟨b, off, ha, hcs⟩ := (H2.out.below b4).cells (by rw [HN.out.2.1]; omega)
   have x0 := hcs i (by rw [HN.out.2.1]; omega)
   rw [show K.getD i 0 = x by simp [hx]] at x0
   subst ha
   have hd : decide (L[i]? = some p) = true := by simp [hf]
   rw [hd]
   clear hcs hx hcl hd hf
   go_wp2
   go_ret2
   exact ⟨.inr ⟨HRC.out, x, rfl, HCL.out⟩, b4⟩
  ·obtain ⟨hi1, x, hx, hcl⟩ := HSP.out.2 hf
   have HCL : Hid (clsAt L K p x) := hcl
   have hiM : i - 1 < M := by have := (List.getElem?_eq_some_iff.1 hx).1; rw [HN.out.2.1] at this; exact this
   obtain ⟨b, off, ha, hcs⟩ := (H2.out.below b4).cells (by rw [HN.out.2.1]; omega)
   have x0 := hcs (i - 1) (by rw [HN.out.2.1]; omega)
   rw [show K.getD (i - 1) 0 = x by simp [hx]] at x0
   subst ha
   have hd : decide (L[i]? = some p) = false := by simp [hf]
   rw [hd]
   have hw1 : IntKind.i64.wrap ((i : Int) - 1) = ((i - 1 : Nat) : Int) := by simp [IntKind.wrap, IntKind.bits, IntKind.signed]; omega
   clear hcs hx hcl hd hf
   go_wp2
   go_ret2
   exact ⟨.inr ⟨HRC.out, x, rfl, HCL.out⟩, b4⟩
end Go.Proofs.YtmfgjicfdjjihaaGreatDoor
