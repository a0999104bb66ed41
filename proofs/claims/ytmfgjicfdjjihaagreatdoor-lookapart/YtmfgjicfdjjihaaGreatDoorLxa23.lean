/- Texts joined: CmH CkV CmA CmB CmO -/
import Derived.Test.YtmfgjicfdjjihaaGreatDoorLxa22
import Derived.Laws.AppendOwnNone
namespace Go.Proofs.YtmfgjicfdjjihaaGreatDoor
open Go.RowKit
set_option linter.unusedVariables false
set_option linter.unusedSimpArgs false
theorem rpiece_any (r : Rl) (d : Nat) (hd : d < 7) (w : World) (ho : r.ok) (hr : r.right = true) :
  Calls Tryz.prog 72 #[.agg r.v, .int .i64 (d : Int)] w fun e w' => ∃ p q : Pt, e = .returned (.tuple #[.agg p.v, .agg q.v, .bool (r.any_ d)]) ∧ (r.any_ d = false → p = r.from_ d ∧ q = r.upto d) ∧ Below w.heap.size w w' := by
 obtain ⟨r1, r2, r3, r4, r5, r6, r7⟩ := Rl.right_all hr
 match d, hd with
 | 0, _ => exact (rpiece_0 r w).mono (by rintro e w' ⟨rfl, hb⟩; exact ⟨_, _, rfl, fun h => by
   have h' : (r.fr == -1) = false := h
   simp only [beq_eq_false_iff_ne, ne_eq] at h'
   exact ⟨ptW_eq (by omega), ptW_eq (by omega)⟩, hb⟩)
 | 1, _ => exact (rpiece_1 r w).mono (by rintro e w' ⟨rfl, hb⟩; exact ⟨_, _, rfl, fun h => by
   have h' : (r.tz == -1) = false := h
   simp only [beq_eq_false_iff_ne, ne_eq] at h'
   exact ⟨ptW_eq (by omega), ptW_eq (by omega)⟩, hb⟩)
 | 2, _ =>
  cases hz : zeroP r.s r.sn with
  | true => exact (rpiece_2z r w hz).mono (by rintro e w' ⟨rfl, hb⟩; exact ⟨pt0, pt0, by rw [show r.any_ 2 = true from hz], fun h => absurd (h.symm.trans (show r.any_ 2 = true from hz)) (by decide), hb⟩)
  | false => exact (rpiece_2s r w ho.s (net_right r3 hz)).mono (by rintro e w' ⟨rfl, hb⟩; exact ⟨ptAd r.s, ptAd (lastAd r.s r.sn), by rw [show r.any_ 2 = false from hz], fun _ => ⟨rfl, rfl⟩, hb⟩)
 | 3, _ =>
  cases hz : zeroP r.d r.dn with
  | true => exact (rpiece_3z r w hz).mono (by rintro e w' ⟨rfl, hb⟩; exact ⟨pt0, pt0, by rw [show r.any_ 3 = true from hz], fun h => absurd (h.symm.trans (show r.any_ 3 = true from hz)) (by decide), hb⟩)
  | false => exact (rpiece_3s r w ho.d (net_right r4 hz)).mono (by rintro e w' ⟨rfl, hb⟩; exact ⟨ptAd r.d, ptAd (lastAd r.d r.dn), by rw [show r.any_ 3 = false from hz], fun _ => ⟨rfl, rfl⟩, hb⟩)
 | 4, _ => exact (rpiece_4 r w).mono (by rintro e w' ⟨rfl, hb⟩; exact ⟨_, _, rfl, fun h => ⟨ptW_eq (by omega), ptW_eq (by omega)⟩, hb⟩)
 | 5, _ => exact (rpiece_5 r w).mono (by rintro e w' ⟨rfl, hb⟩; exact ⟨_, _, rfl, fun h => ⟨ptW_eq (by omega), ptW_eq (by omega)⟩, hb⟩)
 | 6, _ => exact (rpiece_6 r w).mono (by rintro e w' ⟨rfl, hb⟩; exact ⟨_, _, rfl, fun h => ⟨ptW_eq (by omega), ptW_eq (by omega)⟩, hb⟩)
theorem less_n {p q : Pt} (hp : p.ok) (hq : q.ok) : p.less q = decide (p.n < q.n) := by
 rw [Bool.eq_iff_iff, Pt.less_iff hp hq, decide_eq_true_eq]
set_option maxRecDepth 100000 in
set_option maxHeartbeats 8000000 in
theorem rholds_any (r : Rl) (d : Nat) (hd : d < 7) (x : Pt) (w : World) (ho : r.ok) (hr : r.right = true) (hx : x.ok) :
  Calls Tryz.prog 75 #[.agg r.v, .int .i64 (d : Int), .agg x.v] w fun e w' => e = .returned (.bool ((r.piece d).holds x.n)) ∧ Below w.heap.size w w' := by
 have KP : Hid (∀ W, Calls Tryz.prog 72 #[.agg r.v, .int .i64 (d : Int)] W fun e w' => ∃ p q : Pt, e = .returned (.tuple #[.agg p.v, .agg q.v, .bool (r.any_ d)]) ∧ (r.any_ d = false → p = r.from_ d ∧ q = r.upto d) ∧ Below W.heap.size W w') := fun W => rpiece_any r d hd W ho hr
 have KL : Hid (∀ (p q : Pt) W, Calls Tryz.prog 54 #[.agg p.v, .agg q.v] W fun e w' => e = .returned (.bool (p.less q)) ∧ Below W.heap.size W w') := less_ck
 have HH : Hid ((r.piece d).holds x.n = (r.any_ d || (!x.less (r.from_ d) && !(r.upto d).less x)) ∨ r.any_ d = true) := by
  show _ ∨ _
  cases hz : r.any_ d with
  | true => exact .inr rfl
  | false =>
   left
   have hpo := piece_ok ho hr d hd
   simp only [Rl.fst_, Rl.lst_, hz, Bool.false_eq_true, if_false] at hpo
   rw [less_n hx hpo.1, less_n hpo.2.1 hx]
   unfold Spn.holds
   simp only [Rl.piece, hz, Bool.false_or]
   rw [Bool.eq_iff_iff]
   simp only [Bool.and_eq_true, decide_eq_true_eq, Bool.not_eq_true', decide_eq_false_iff_not]
   omega
 have HT : Hid (r.any_ d = true → (r.piece d).holds x.n = true) := fun h => by unfold Spn.holds; simp [Rl.piece, h]
 generalize (r.piece d).holds x.n = R at *
 have hs1 : (Tryz.prog.info? 82).map (·.size) = some r.v.size := info_rl r
 obtain ⟨W1, hW1⟩ : ∃ W1, w.alloc (.cells r.v 82) = W1 := ⟨_, rfl⟩
 obtain ⟨W2, hW2⟩ : ∃ W2, W1.alloc (.cells x.v 86) = W2 := ⟨_, rfl⟩
 have b2 := bel_al (bel_nw hW1) hW2
 have hB := ((blk_nw hW1).al hW2).at_
 have HX2 : Hid (Blk W2 W1.heap.size 86 x.v) := blk_nw hW2
 generalize r.from_ d = F at *
 generalize r.upto d = U at *
 generalize r.any_ d = Z at *
 generalize r.v = RV at *
 clear ho hr hx hd
 go_enter Tryz.func75, Tryz.ntmps75
 go_wp2_with (refine wpList_load_at_w rfl _ _ rfl _ 0 (by rfl) _ hB Tryz.underlying82 hs1 ?_)
 refine Calls.mono (KP.out _) ?_
 rintro e W3 ⟨p, q, rfl, hpq, bb⟩
 have HPQ : Hid (Z = false → p = F ∧ q = U) := hpq
 have b3 := bel_tr b2 bb
 have HX3 : Hid (Blk W3 W1.heap.size 86 x.v) := HX2.out.kept bb
 clear hB hs1 bb hW1 hW2 b2 KP hpq
 obtain ⟨pa, pb, pc⟩ := p
 obtain ⟨qa, qb, qc⟩ := q
 have b5 : Below w.heap.size w ((W3.alloc (.cells #[.int .u64 pa, .int .u64 pb, .int .u64 pc] 86)).alloc (.cells #[.int .u64 qa, .int .u64 qb, .int .u64 qc] 86)) := bel_al (bel_al b3 rfl) rfl
 have X5 : Blk ((W3.alloc (.cells #[.int .u64 pa, .int .u64 pb, .int .u64 pc] 86)).alloc (.cells #[.int .u64 qa, .int .u64 qb, .int .u64 qc] 86)) W1.heap.size 86 x.v := (HX3.out.alloc _).alloc _
 have P5 : Blk ((W3.alloc (.cells #[.int .u64 pa, .int .u64 pb, .int .u64 pc] 86)).alloc (.cells #[.int .u64 qa, .int .u64 qb, .int .u64 qc] 86)) W3.heap.size 86 #[.int .u64 pa, .int .u64 pb, .int .u64 pc] := (blk_new W3 _ _).alloc _
 have Q5 : Blk ((W3.alloc (.cells #[.int .u64 pa, .int .u64 pb, .int .u64 pc] 86)).alloc (.cells #[.int .u64 qa, .int .u64 qb, .int .u64 qc] 86)) (W3.heap.size + 1) 86 #[.int .u64 qa, .int .u64 qb, .int .u64 qc] := blk1 W3 _ _ _
 cases Z
 ·obtain ⟨hF, hU⟩ := HPQ.out rfl
  subst hF
  subst hU
  have eR : R = (false || (!x.less ⟨pa, pb, pc⟩ && !(⟨qa, qb, qc⟩ : Pt).less x)) := by
   rcases HH.out with h | h
   ·exact h
   ·cases h
  rw [Bool.false_or] at eR
  have HER : Hid (R = (!x.less ⟨pa, pb, pc⟩ && !(⟨qa, qb, qc⟩ : Pt).less x)) := eR
  have x0 := X5.cell 0 (.int .u64 x.a) rfl
  have x1 := X5.cell 1 (.int .u64 x.b) rfl
  have x2 := X5.cell 2 (.int .u64 x.c) rfl
  have HX5 : Hid (Blk ((W3.alloc (.cells #[.int .u64 pa, .int .u64 pb, .int .u64 pc] 86)).alloc (.cells #[.int .u64 qa, .int .u64 qb, .int .u64 qc] 86)) W1.heap.size 86 x.v) := X5
  have HP5 : Hid (Blk ((W3.alloc (.cells #[.int .u64 pa, .int .u64 pb, .int .u64 pc] 86)).alloc (.cells #[.int .u64 qa, .int .u64 qb, .int .u64 qc] 86)) W3.heap.size 86 #[.int .u64 pa, .int .u64 pb, .int .u64 pc]) := P5
  have HQ5 : Hid (Blk ((W3.alloc (.cells #[.int .u64 pa, .int .u64 pb, .int .u64 pc] 86)).alloc (.cells #[.int .u64 qa, .int .u64 qb, .int .u64 qc] 86)) (W3.heap.size + 1) 86 #[.int .u64 qa, .int .u64 qb, .int .u64 qc]) := Q5
  have KL1 : Hid _ := KL.out x ⟨pa, pb, pc⟩ ((W3.alloc (.cells #[.int .u64 pa, .int .u64 pb, .int .u64 pc] 86)).alloc (.cells #[.int .u64 qa, .int .u64 qb, .int .u64 qc] 86))
  clear eR X5 P5 Q5
  go_wp2_with fail
  refine Calls.mono KL1.out ?_
  rintro e W6 ⟨rfl, bb⟩
  have b6 := bel_tr b5 bb
  have HX6 : Hid (Blk W6 W1.heap.size 86 x.v) := HX5.out.kept bb
  have HQ6 : Hid (Blk W6 (W3.heap.size + 1) 86 #[.int .u64 qa, .int .u64 qb, .int .u64 qc]) := HQ5.out.kept bb
  obtain ⟨l1, hl1⟩ : ∃ l1, x.less ⟨pa, pb, pc⟩ = l1 := ⟨_, rfl⟩
  have HL1 : Hid (x.less ⟨pa, pb, pc⟩ = l1) := hl1
  rw [hl1]
  clear x0 x1 x2 bb KL1 hl1 b5
  cases l1
  ·have x0 := HX6.out.cell 0 (.int .u64 x.a) rfl
   have x1 := HX6.out.cell 1 (.int .u64 x.b) rfl
   have x2 := HX6.out.cell 2 (.int .u64 x.c) rfl
   have q0 := HQ6.out.cell 0 (.int .u64 qa) rfl
   have q1 := HQ6.out.cell 1 (.int .u64 qb) rfl
   have q2 := HQ6.out.cell 2 (.int .u64 qc) rfl
   have KL2 : Hid _ := KL.out ⟨qa, qb, qc⟩ x W6
   go_wp2_with fail
   refine Calls.mono KL2.out ?_
   rintro e W7 ⟨rfl, bb⟩
   have b7 := bel_tr b6 bb
   obtain ⟨l2, hl2⟩ : ∃ l2, (⟨qa, qb, qc⟩ : Pt).less x = l2 := ⟨_, rfl⟩
   have HL2 : Hid ((⟨qa, qb, qc⟩ : Pt).less x = l2) := hl2
   rw [hl2]
   have eR : R = !l2 := by rw [HER.out, HL1.out, HL2.out]; rfl
   subst eR
   clear x0 x1 x2 q0 q1 q2 bb KL2 hl2 b6
   cases l2
   all_goals (go_wp2; go_ret; exact ⟨rfl, b7⟩)
  ·have eR : R = false := by rw [HER.out, HL1.out]; rfl
   subst eR
   go_wp2
   go_ret
   exact ⟨rfl, b6⟩
 ·have eR : R = true := HT.out rfl
  subst eR
  clear X5 P5 Q5
  go_wp2
  go_ret
  exact ⟨rfl, b5⟩
theorem ad0_ok : Ad.ok ⟨0, 0, 0⟩ := ⟨by simp only; omega, by simp only; omega, by simp only; omega⟩
theorem row2L (w W : World) (p q : Rl) (A : Array Value) (t : TypeId) (hA : A = p.v ++ q.v) (h : w.alloc (.cells A t) = W) (hp : p.ok) (hq : q.ok) : RowR W (some ⟨w.heap.size, 0, none⟩) [p, q] := by
 subst hA
 have B := blk_nw h
 refine ⟨fun r hr => ?_, fun i r hr => ?_⟩
 ·simp only [List.mem_cons, List.not_mem_nil, or_false] at hr
  rcases hr with rfl | rfl
  ·exact hp
  ·exact hq
 ·refine ⟨w.heap.size, 0, rfl, B.lt, fun j v hv => ?_⟩
  match i, hr with
  | 0, hr =>
   cases hr
   have hj : j < 17 := (Array.getElem?_eq_some_iff.1 hv).1
   refine B.cell _ v ?_
   rw [show 0 + 0 * 17 + j = j by omega, Array.getElem?_append_left (by simpa using hj)]
   exact hv
  | 1, hr =>
   cases hr
   refine B.cell _ v ?_
   rw [show 0 + 1 * 17 + j = 17 + j by omega, Array.getElem?_append_right (by simp)]
   have e : 17 + j - p.v.size = j := by simp
   rw [e]
   exact hv
/-- The error of a cut. -/
def errC (l : List Rl) (dim : Int) : Int := if 0 ≤ dim ∧ dim < 7 then (if 64 < l.length then 17 else if l.all (·.right) then 0 else 1) else 1
theorem err_ok {l : List Rl} {dim : Int} (h : errC l dim = 0) : ∃ d : Nat, dim = (d : Int) ∧ d < 7 ∧ l.length ≤ 64 ∧ ∀ r ∈ l, r.right = true := by
 unfold errC at h
 split at h
 ·split at h
  ·cases h
  ·split at h
   ·rename_i h1 h2 h3
    exact ⟨dim.toNat, by omega, by omega, by omega, fun r hr => List.all_eq_true.1 h3 r hr⟩
   ·cases h
 ·cases h
theorem cut_err (a : Option Addr) (c : Nat) (l : List Rl) (dim : Int) (w : World) (hT : Top w) (hrow : RowR w a l) (h : errC l dim ≠ 0) :
  Calls Tryz.prog 34 #[.slice a l.length c, .int .i64 dim] w fun e w' => e = .returned (.tuple #[.agg zc, .int .i64 (errC l dim)]) ∧ Below w.heap.size w w' := by
 unfold errC at h ⊢
 by_cases hd : 0 ≤ dim ∧ dim < 7
 ·rw [if_pos hd] at h ⊢
  by_cases hn : 64 < l.length
  ·rw [if_pos hn]
   exact cut_many a l.length c dim w hd hn
  ·rw [if_neg hn] at h ⊢
   by_cases ha : l.all (·.right) = true
   ·rw [if_pos ha] at h
    exact absurd rfl h
   ·rw [if_neg ha]
    obtain ⟨d, rfl⟩ : ∃ d : Nat, dim = (d : Int) := ⟨dim.toNat, by omega⟩
    refine cut_wrong a c l d w hT (by omega) hrow (by omega) ?_
    simp only [List.all_eq_true, Classical.not_forall] at ha
    obtain ⟨r, hr, hf⟩ := ha
    exact ⟨r, hr, by simpa using hf⟩
 ·rw [if_neg hd]
  exact cut_dim a l.length c dim w hd
/-- A cut in memory of one's own. -/
structure CutIn (w : World) (B : Nat) (g1 c1 : Nat) (ka : Option Addr) (kc : Nat) (sa : Option Addr) (sc : Nat) (vs : List Value) (L : List Pt) (K : List Nat) (S : List (List Nat)) : Prop where
 sts : OwnP w B (some ⟨g1, 0, none⟩) c1 L
 cls : OwnI w B ka kc K
 set : SetsO w B sa sc S vs
theorem CutIn.below {w w' : World} {B g1 c1 : Nat} {ka : Option Addr} {kc : Nat} {sa : Option Addr} {sc : Nat} {vs : List Value} {L : List Pt} {K : List Nat} {S : List (List Nat)} (h : CutIn w B g1 c1 ka kc sa sc vs L K S) (hb : Below w.heap.size w w') : CutIn w' B g1 c1 ka kc sa sc vs L K S :=
 ⟨h.sts.below hb, h.cls.below hb, h.set.below hb⟩
/-- What is known of the plain cut. -/
structure CutP (l : List Rl) (d : Nat) (L : List Pt) (K : List Nat) (S : List (List Nat)) : Prop where
 stn : L.map Pt.n = startsL (spns l d)
 ok : ∀ p ∈ L, p.ok
 cls : K = classL (rowL (spns l d))
 set : S = setsL (rowL (spns l d))
 len : K.length = L.length
 few : L.length ≤ 2 * l.length + 1
 num : S.length ≤ L.length
 each : ∀ s ∈ S, s.length ≤ l.length
 right : RightC L (ints K) (S.map ints)
theorem cutP_mk {l : List Rl} {d : Nat} {L : List Pt} (hl : ∀ r ∈ l, r.ok ∧ r.right = true) (hd : d < 7) (hs : L.Pairwise fun p q => p.n < q.n) (hn : L.map Pt.n = startsL (spns l d)) (hok : ∀ p ∈ L, p.ok) (hf : L.length ≤ 2 * l.length + 1) : CutP l d L (classL (rowL (spns l d))) (setsL (rowL (spns l d))) := by
 have hlen : L.length = (startsL (spns l d)).length := by rw [← hn, List.length_map]
 have hrl : (rowL (spns l d)).length = L.length := by rw [rowL, List.length_map, hlen]
 refine ⟨hn, hok, rfl, rfl, by rw [class_len, hrl], hf, ?_, fun s hs' => ?_, cut_right hl hd hs hn hok⟩
 ·have := sets_len (rowL (spns l d))
  rw [hrl] at this
  exact this
 ·have h1 := sets_mem hs'
  unfold rowL at h1
  obtain ⟨z, _, rfl⟩ := List.mem_map.1 h1
  have := List.length_filter_le (fun i => ((spns l d)[i]?.map (·.holds z)).getD false) (List.range (spns l d).length)
  unfold setOf
  simpa using this
theorem cut_ok (a : Option Addr) (c : Nat) (l : List Rl) (dim : Int) (w : World) (hT : Top w) (hrow : RowR w a l) (h : errC l dim = 0) :
  Calls Tryz.prog 34 #[.slice a l.length c, .int .i64 dim] w fun e w' => ∃ g1 c1 ka kc sa sc vs L K S, e = .returned (.tuple #[.agg #[.slice (some ⟨g1, 0, none⟩) L.length c1, .slice ka L.length kc, .slice sa S.length sc], .int .i64 0]) ∧ CutIn w' w.heap.size g1 c1 ka kc sa sc vs L K S ∧ CutP l dim.toNat L K S ∧ Below w.heap.size w w' := by
 obtain ⟨d, rfl, hd, hl, hr⟩ := err_ok h
 refine (cut_yes a c l d w hT hl hrow hd hr).mono ?_
 rintro e w' ⟨g1, c1, L, ka, kc, sa, sc, vs, rfl, h1, h2, h3, hs, hm, hll, hb⟩
 have hlr : ∀ r ∈ l, r.ok ∧ r.right = true := fun r hr' => ⟨hrow.each r hr', hr r hr'⟩
 obtain ⟨hn, hok⟩ := cut_starts hlr hd hs hm
 have er := cut_rows hlr hd hn hok
 rw [er] at h2 h3
 rw [er]
 rw [Int.toNat_natCast]
 exact ⟨g1, c1, ka, kc, sa, sc, vs, L, _, _, rfl, ⟨h1, h2, h3⟩, cutP_mk hlr hd hs hn hok hll, hb⟩
theorem CutIn.ri {w : World} {B g1 c1 : Nat} {ka : Option Addr} {kc : Nat} {sa : Option Addr} {sc : Nat} {vs : List Value} {L : List Pt} {K : List Nat} {S : List (List Nat)} (h : CutIn w B g1 c1 ka kc sa sc vs L K S) {l : List Rl} {d : Nat} (hp : CutP l d L K S) (hl : l.length ≤ 64) : RowI w ka (ints K) := h.cls.row (by have := hp.len; have := hp.few; omega)
theorem CutIn.rs {w : World} {B g1 c1 : Nat} {ka : Option Addr} {kc : Nat} {sa : Option Addr} {sc : Nat} {vs : List Value} {L : List Pt} {K : List Nat} {S : List (List Nat)} (h : CutIn w B g1 c1 ka kc sa sc vs L K S) {l : List Rl} {d : Nat} (hp : CutP l d L K S) (hl : l.length ≤ 64) : RowS w sa (S.map ints) := h.set.rows (by have := hp.num; have := hp.few; omega) (fun s hs => by have := hp.each s hs; omega)
theorem wp_runA {o : Oper} {ac : Act} {K : Act → World → Prop} {Q : Exit → Act → World → Prop} {w : World} (t : TypeId) (s x : Operand)
  (ho : o.op = .call { callee := .builtin .append, args := #[s, x], argTypes := #[t, t] }) (v1 v2 : Value) (hs : ac.eval s = v1) (hx : ac.eval x = v2) (r : Value) (w' : World)
  (hrun : (Builtin.append_ #[t, t] o.type #[v1, v2]).run Tryz.prog w = .ok r w') (h : K (ac.put o.dst r) w') : Oper.wp Tryz.prog o ac w K Q := by
 unfold Oper.wp execOp
 simp only [ho, resolve, invoke, builtin, Sem.run_bind, Sem.run_pure, Result.andThen_ok, List.map_toArray, List.map_cons, List.map_nil, hs, hx, hrun]
 exact h
theorem wpList_runA {ops : Array Oper} {rest : List Oper} {o : Oper} {ac : Act} {Q : Exit → Act → World → Prop} {w : World} (hgd : o.guard = none) (t : TypeId) (s x : Operand)
  (ho : o.op = .call { callee := .builtin .append, args := #[s, x], argTypes := #[t, t] }) (v1 v2 : Value) (hs : ac.eval s = v1) (hx : ac.eval x = v2) (r : Value) (w' : World)
  (hrun : (Builtin.append_ #[t, t] o.type #[v1, v2]).run Tryz.prog w = .ok r w') (h : wpList Tryz.prog ops Q rest (ac.put o.dst r) w') : wpList Tryz.prog ops Q (o :: rest) ac w :=
 wpList_plain hgd fun K hK => wp_runA t s x ho v1 v2 hs hx r w' hrun (hK _ _ h)
theorem step_runA {ops : Array Oper} {o : Oper} {ac : Act} {K : Act → World → Prop} {Q : Exit → Act → World → Prop} {Z : Prop} {w : World} (hgd : o.guard = none) (t : TypeId) (s x : Operand)
  (ho : o.op = .call { callee := .builtin .append, args := #[s, x], argTypes := #[t, t] }) (v1 v2 : Value) (hs : ac.eval s = v1) (hx : ac.eval x = v2) (r : Value) (w' : World)
  (hrun : (Builtin.append_ #[t, t] o.type #[v1, v2]).run Tryz.prog w = .ok r w') (h : K (ac.put o.dst r) w') : if Region.wanted o (yielded ops ac.tmps) = true then Oper.wp Tryz.prog o ac w K Q else Z := by
 have hw : Region.wanted o (yielded ops ac.tmps) = true := by simp [Region.wanted, hgd]
 rw [if_pos hw]
 exact wp_runA t s x ho v1 v2 hs hx r w' hrun h
/-- A cut that lay there already when memory from another place on was written. -/
theorem CutIn.low {w0 w w' : World} {B g1 c1 : Nat} {ka : Option Addr} {kc : Nat} {sa : Option Addr} {sc : Nat} {vs : List Value} {L : List Pt} {K : List Nat} {S : List (List Nat)} (h0 : CutIn w0 B g1 c1 ka kc sa sc vs L K S) (h : CutIn w B g1 c1 ka kc sa sc vs L K S) (hb : Below w0.heap.size w w') : CutIn w' B g1 c1 ka kc sa sc vs L K S := by
 have own : ∀ {t : TypeId} {k n : Nat} {v : Value} {xs : List Value}, w0.ownsRow B t k v n xs → w.ownsRow B t k v n xs → w'.ownsRow B t k v n xs := fun {t k n v xs} o0 o => by
  obtain ⟨h1, h2⟩ := o
  refine ⟨h1, ?_⟩
  rcases h2 with h2 | ⟨g, cap, cur, h3, h4, h5, h6⟩
  ·exact .inl h2
  ·obtain ⟨cur0, hb0⟩ := ownsRow_blk o0 (g := g) (by rw [h3]; rfl)
   exact .inr ⟨g, cap, cur, h3, h4, (hb.block g hb0.lt).trans h5, h6⟩
 refine ⟨own h0.sts h.sts, own h0.cls h.cls, own h0.set.row h.set.row, fun i s hs => ?_⟩
 obtain ⟨ai, ci, h1, h2⟩ := h.set.each i s hs
 obtain ⟨ai', ci', h1', h2'⟩ := h0.set.each i s hs
 rw [h1] at h1'
 cases h1'
 exact ⟨ai, ci, h1, own h2' h2⟩
theorem OwnI.nil_of {w : World} {B c : Nat} {l : List Nat} (h : OwnI w B none c l) : c = 0 ∧ l = [] := by
 obtain ⟨h1, h2⟩ := h
 rcases h2 with ⟨h3, h4⟩ | ⟨g, cap, cur, h3, _⟩
 ·simp only [Value.slice.injEq] at h3
  exact ⟨h3.2.2, List.eq_nil_of_length_eq_zero h4⟩
 ·cases h3
theorem SetsO.at_ {w : World} {B : Nat} {a : Option Addr} {c : Nat} {S : List (List Nat)} {vs : List Value} (h : SetsO w B a c S vs) {i : Nat} {s : List Nat} (hi : S[i]? = some s) : ∃ b off ai ci, a = some ⟨b, off, none⟩ ∧ w.cell? ⟨b, off + i, none⟩ = some (Value.slice ai s.length ci) ∧ OwnI w B ai ci s := by
 obtain ⟨ai, ci, h1, h2⟩ := h.each i s hi
 obtain ⟨r1, r2⟩ := h.row
 have hlt : i < S.length := (List.getElem?_eq_some_iff.1 hi).1
 rcases r2 with ⟨_, r3⟩ | ⟨g, cap, cur, r3, r4, r5, r6, r7, r8, r9⟩
 ·omega
 ·simp only [Value.slice.injEq] at r3
  obtain ⟨rfl, _, rfl⟩ := r3
  have hb : Blk w g 24 cur := r5
  refine ⟨g, 0, ai, ci, rfl, hb.cell _ _ ?_, h2⟩
  rw [Nat.zero_add]
  have h11 : (cur.toList.take (S.length * 1))[i]? = vs[i]? := by rw [r9]
  rw [List.getElem?_take_of_lt (by omega), Array.getElem?_toList] at h11
  rw [h11, h1]
/-- Two sets, one of each cut, as they lie. -/
structure Four (w : World) (g5 b off Q sc i : Nat) (ai : Option Addr) (n ci g7 b' off' sd : Nat) (ai' : Option Addr) (ci' : Nat) : Prop where
 one : w.cell? ⟨g5, 2, none⟩ = some (.slice (some ⟨b, off, none⟩) Q sc)
 two : w.cell? ⟨b, off + i, none⟩ = some (.slice ai n ci)
 three : w.cell? ⟨g7, 2, none⟩ = some (.slice (some ⟨b', off', none⟩) Q sd)
 four : w.cell? ⟨b', off' + i, none⟩ = some (.slice ai' (n + 1) ci')
theorem Four.below {w w' : World} {g5 b off Q sc i : Nat} {ai : Option Addr} {n ci g7 b' off' sd : Nat} {ai' : Option Addr} {ci' : Nat} (h : Four w g5 b off Q sc i ai n ci g7 b' off' sd ai' ci') (hb : Below w.heap.size w w') : Four w' g5 b off Q sc i ai n ci g7 b' off' sd ai' ci' :=
 ⟨kept hb h.one, kept hb h.two, kept hb h.three, kept hb h.four⟩
theorem Four.cells {w : World} {g5 b off Q sc i : Nat} {ai : Option Addr} {n ci g7 b' off' sd : Nat} {ai' : Option Addr} {ci' : Nat} (h : Four w g5 b off Q sc i ai n ci g7 b' off' sd ai' ci') : w.cell? ⟨g5, 2, none⟩ = some (.slice (some ⟨b, off, none⟩) Q sc) ∧ w.cell? ⟨b, off + i, none⟩ = some (.slice ai n ci) ∧ w.cell? ⟨g7, 2, none⟩ = some (.slice (some ⟨b', off', none⟩) Q sd) ∧ w.cell? ⟨b', off' + i, none⟩ = some (.slice ai' (n + 1) ci') := ⟨h.one, h.two, h.three, h.four⟩
set_option maxRecDepth 100000 in
set_option maxHeartbeats 4000000 in
theorem rbehind_pt (p : Pt) (w : World) (hp : p.ok) (ha : p.a < 18446744073709551615) : Calls Tryz.prog 74 #[.agg p.v] w fun e w' => e = .returned (.agg p.next.v) ∧ Below w.heap.size w w' := by
 obtain ⟨a, b, c⟩ := p
 obtain ⟨⟨a0, a1⟩, ⟨b0, b1⟩, ⟨c0, c1⟩⟩ := hp
 simp only at *
 unfold Pt.next
 simp only
 by_cases hc : c < 18446744073709551615
 ·rw [if_pos hc]
  have hw : IntKind.u64.wrap (c + 1) = c + 1 := wraps_u64 _ (by omega) (by omega)
  have hne2 : ¬ c + 1 = 0 := by omega
  go_enter Tryz.func74, Tryz.ntmps74
  go_wp2
  exact ret_cell (k := 2) (g := w.heap.size + 1) Tryz.f74 (by kernel_rfl) (blk1 w _ (Pt.v ⟨a, b, c + 1⟩) 86) Tryz.underlying86 (by kernel_rfl) (by rfl) rfl ⟨rfl, bel_al (bel_nw rfl) rfl⟩
 ·rw [if_neg hc]
  have ec : c = 18446744073709551615 := by omega
  subst ec
  clear hc
  have hw0 : IntKind.u64.wrap (18446744073709551615 + 1) = 0 := by kernel_rfl
  by_cases hb : b < 18446744073709551615
  ·rw [if_pos hb]
   have hw : IntKind.u64.wrap (b + 1) = b + 1 := wraps_u64 _ (by omega) (by omega)
   have hne2 : ¬ b + 1 = 0 := by omega
   go_enter Tryz.func74, Tryz.ntmps74
   go_wp2
   exact ret_cell (k := 2) (g := w.heap.size + 1) Tryz.f74 (by kernel_rfl) (blk1 w _ (Pt.v ⟨a, b + 1, 0⟩) 86) Tryz.underlying86 (by kernel_rfl) (by rfl) rfl ⟨rfl, bel_al (bel_nw rfl) rfl⟩
  ·rw [if_neg hb]
   have eb : b = 18446744073709551615 := by omega
   subst eb
   clear hb
   have hw : IntKind.u64.wrap (a + 1) = a + 1 := wraps_u64 _ (by omega) (by omega)
   go_enter Tryz.func74, Tryz.ntmps74
   go_wp2
   exact ret_cell (k := 2) (g := w.heap.size + 1) Tryz.f74 (by kernel_rfl) (blk1 w _ (Pt.v ⟨a + 1, 0, 0⟩) 86) Tryz.underlying86 (by kernel_rfl) (by rfl) rfl ⟨rfl, bel_al (bel_nw rfl) rfl⟩
theorem insP_at : ∀ (i : Nat) (L : List Pt) (p : Pt), i ≤ L.length → (∀ (j : Nat) (q : Pt), j < i → L[j]? = some q → q.less p = true) → (∀ q, L[i]? = some q → q.less p = false) → insP L p = if L[i]? = some p then L else L.take i ++ p :: L.drop i
 | 0, [], p, _, _, _ => by simp [insP]
 | 0, q :: L, p, _, _, h => by
  have h1 := h q rfl
  unfold insP
  rw [if_neg (by rw [h1]; simp)]
  by_cases e : q = p
  ·subst e
   rw [if_pos (Pt.same_iff.2 rfl), if_pos (by simp)]
  ·rw [if_neg (fun h => e (Pt.same_iff.1 h)), if_neg (by simpa using e)]
   simp
 | i + 1, [], p, h, _, _ => by simp at h
 | i + 1, q :: L, p, h, hl, hn => by
  have h1 := hl 0 q (by omega) rfl
  have ih := insP_at i L p (by simp at h; omega) (fun j x hj hx => hl (j + 1) x (by omega) (by simpa using hx)) (fun x hx => hn x (by simpa using hx))
  unfold insP
  rw [if_pos h1, ih]
  by_cases e : L[i]? = some p
  ·rw [if_pos e, if_pos (by simpa using e)]
  ·rw [if_neg e, if_neg (by simpa using e)]
   simp
theorem insP_n : ∀ {L : List Pt} {p : Pt}, (∀ q ∈ L, q.ok) → p.ok → (insP L p).map Pt.n = insS (L.map Pt.n) p.n
 | [], p, _, _ => by simp [insP, insS]
 | q :: L, p, h, hp => by
  have hq := h q (by simp)
  have ih := insP_n (L := L) (p := p) (fun x hx => h x (by simp [hx])) hp
  unfold insP
  simp only [List.map_cons, insS]
  have h1 := Pt.less_iff hq hp
  have h2 := Pt.same_n hq hp
  by_cases e : q.n < p.n
  ·rw [if_pos (h1.2 e), if_pos e, List.map_cons, ih]
  ·rw [if_neg (fun h => e (h1.1 h)), if_neg e]
   by_cases e2 : q.n = p.n
   ·rw [if_pos (h2.2 e2), if_pos e2, List.map_cons]
   ·rw [if_neg (fun h => e2 (h2.1 h)), if_neg e2, List.map_cons, List.map_cons]
theorem insP_mem : ∀ {L : List Pt} {p z : Pt}, z ∈ insP L p → z = p ∨ z ∈ L
 | [], p, z, h => by simpa [insP] using h
 | q :: L, p, z, h => by
  unfold insP at h
  split at h
  ·rcases List.mem_cons.1 h with h | h
   ·exact .inr (by simp [h])
   ·rcases insP_mem h with h | h
    ·exact .inl h
    ·exact .inr (by simp [h])
  ·split at h
   ·exact .inr h
   ·simpa using h
theorem insP_ok {L : List Pt} {p : Pt} (h : ∀ q ∈ L, q.ok) (hp : p.ok) : ∀ q ∈ insP L p, q.ok := fun q hq => by
 rcases insP_mem hq with e | e
 ·rw [e]; exact hp
 ·exact h q e
theorem insP_len (L : List Pt) (p : Pt) : (insP L p).length ≤ L.length + 1 ∧ L.length ≤ (insP L p).length := by
 induction L with
 | nil => simp [insP]
 | cons q L ih =>
  unfold insP
  split
  ·simp; omega
  ·split <;> simp
/-- append(v, x...) of points. -/
theorem run_appPs (w : World) (ty : TypeId) (B : Nat) (a : Option Addr) (c : Nat) (xs : List Pt) (hown : OwnP w B a c xs) (b : Option Addr) (cc : Nat) (l : List Pt) (hrow : RowP w b l) (hnil : b = none → cc = 0)
  (hsum : (xs.length + l.length) * 24 ≤ 140737488355328) (hbase : B ≤ w.heap.size) :
  ∃ a' c' w', (Builtin.append_ #[61, 61] ty #[.slice a xs.length c, .slice b l.length cc]).run Tryz.prog w = .ok (.slice a' (xs ++ l).length c') w' ∧ OwnP w' B a' c' (xs ++ l) ∧ Below B w w' := by
 obtain ⟨i0, hi, hz0, hz1, hz2⟩ := info_parts info_point
 cases b with
 | none =>
  have hl : l = [] := by
   cases l with
   | nil => rfl
   | cons y l => obtain ⟨b, off, hh, _⟩ := hrow.cells 0 y rfl; cases hh
  subst hl
  have := run_append_owned_none (P := Tryz.prog) (w := w) B 61 ty 86 i0 3 Tryz.underlying61 hi (.slice a xs.length c) xs.length (pc3 xs) hown
  rw [hnil rfl]
  refine ⟨a, c, w, ?_, by simpa using hown, Below.refl _ _⟩
  simpa using this
 | some ad =>
  obtain ⟨v', w', h1, h2, h3, _⟩ := run_append_own (P := Tryz.prog) w B 61 ty 86 i0 (.agg z3) 3 24 Tryz.underlying61 hi hz0 hz1 hz2 rfl (by decide) (.slice a xs.length c) xs.length (pc3 xs) hown ad l.length cc (pc3 l) (fl_len _ 3 ptv_len l) (by
   intro j u hj
   have hjl : j < l.length * 3 := by
    have := (List.getElem?_eq_some_iff.1 hj).1
    rwa [fl_len _ 3 ptv_len l] at this
   have hq : j / 3 < l.length := (Nat.div_lt_iff_lt_mul (by decide)).2 hjl
   obtain ⟨q, hq'⟩ : ∃ q, l[j / 3]? = some q := ⟨_, List.getElem?_eq_getElem hq⟩
   obtain ⟨b, off, hh, hc⟩ := hrow.cells (j / 3) q hq'
   cases hh
   have e : j / 3 * 3 + j % 3 = j := by omega
   have h1 := fl_get (fun q : Pt => q.v.toList) 3 ptv_len l (j / 3) (j % 3) q hq' (Nat.mod_lt _ (by decide))
   rw [e] at h1
   have h2 : q.v.toList[j % 3]? = some u := by rw [← h1]; exact hj
   have h3 := hc.2 (j % 3) u (by simpa using h2)
   rw [show (⟨b, off, none⟩ : Addr).add j = ⟨b, off + j, none⟩ from Go.WideShapes.add_plain ..]
   rw [show off + j = off + j / 3 * 3 + j % 3 by omega]
   exact h3) (by
   intro u hu
   obtain ⟨q, _, hq⟩ := List.mem_flatMap.1 hu
   exact ptv_one q u hq) (by unfold maxLen; omega) hsum hbase
  have h4 : w'.ownsRow B 86 3 v' (xs ++ l).length (pc3 (xs ++ l)) := by
   have e : pc3 (xs ++ l) = pc3 xs ++ pc3 l := by simp [pc3]
   rw [List.length_append, e]
   exact h2
  obtain ⟨a', c', rfl⟩ : ∃ a' c', v' = .slice a' (xs ++ l).length c' := by
   rcases h4.2 with ⟨h5, h6⟩ | ⟨g, cap, cur, h5, _⟩
   ·exact ⟨none, 0, by rw [h5, h6]⟩
   ·exact ⟨_, cap, h5⟩
  refine ⟨a', c', w', h1, h4, (Below.refl _ _).grown h3 hbase fun k hk => ?_⟩
  cases a with
  | none => cases hk
  | some ad' =>
   have e : ad'.block = k := by
    cases ad'
    simpa [Value.ownBlock] using hk
   rw [← e]
   exact OwnP.lt hown ad' rfl
theorem OwnP.at0 {w : World} {B : Nat} {a : Option Addr} {c : Nat} {l : List Pt} (h : OwnP w B a c l) (hl : 0 < l.length) : ∃ g, a = some ⟨g, 0, none⟩ := by
 rcases h.2 with ⟨h5, h6⟩ | ⟨g, cap, cur, h5, _⟩
 ·omega
 ·cases h5
  exact ⟨g, rfl⟩
theorem RowP.take {w : World} {g : Nat} {L : List Pt} (h : RowP w (some ⟨g, 0, none⟩) L) (i : Nat) : RowP w (some ⟨g, 0, none⟩) (L.take i) :=
 ⟨fun q hq => h.each q (List.mem_of_mem_take hq), fun j q hq => h.cells j q (by
  rw [List.getElem?_take] at hq
  split at hq
  ·exact hq
  ·cases hq)⟩
theorem RowP.drop {w : World} {g : Nat} {L : List Pt} (h : RowP w (some ⟨g, 0, none⟩) L) (i c : Nat) (hc : L.length ≤ c) : RowP w (if c = i then some ⟨g, 0, none⟩ else some ⟨g, i * 3, none⟩) (L.drop i) :=
 ⟨fun q hq => h.each q (List.mem_of_mem_drop hq), fun j q hq => by
  rw [List.getElem?_drop] at hq
  have hlt := (List.getElem?_eq_some_iff.1 hq).1
  rw [if_neg (by omega)]
  obtain ⟨b, off, e, hcs⟩ := h.cells (i + j) q hq
  cases e
  refine ⟨g, i * 3, rfl, ?_⟩
  rw [show i * 3 + j * 3 = 0 + (i + j) * 3 by omega]
  exact hcs⟩
end Go.Proofs.YtmfgjicfdjjihaaGreatDoor
