/- Texts joined: CmQ CmR RfC -/
import Derived.Test.YtmfgjicfdjjihaaGreatDoorLxa23
namespace Go.Proofs.YtmfgjicfdjjihaaGreatDoor
open Go.RowKit
set_option linter.unusedVariables false
set_option linter.unusedSimpArgs false
/-- append(v, x...) of sets. -/
theorem run_appSs (w : World) (ty : TypeId) (B : Nat) (a : Option Addr) (c n : Nat) (xs : List Value) (hown : w.ownsRow B 24 1 (.slice a n c) n xs) (b : Option Addr) (cc m : Nat) (l : List Value) (hm : l.length = m)
  (hrow : ∀ ad, b = some ad → ∀ (j : Nat) (u : Value), l[j]? = some u → w.cell? (ad.add j) = some u) (hone : ∀ u ∈ l, u.oneCell' = true) (hnil : b = none → cc = 0 ∧ l = [])
  (hsum : n + m ≤ 1000000) (hbase : B ≤ w.heap.size) :
  ∃ a' c' w', (Builtin.append_ #[58, 58] ty #[.slice a n c, .slice b m cc]).run Tryz.prog w = .ok (.slice a' (n + m) c') w' ∧ w'.ownsRow B 24 1 (.slice a' (n + m) c') (n + m) (xs ++ l) ∧ Below B w w' := by
 obtain ⟨i0, hi, hz0, hz1, hz2⟩ := info_parts info_ints
 cases b with
 | none =>
  obtain ⟨h1, h2⟩ := hnil rfl
  subst h2
  have hm' : m = 0 := by simpa using hm.symm
  subst hm'
  have := run_append_owned_none (P := Tryz.prog) (w := w) B 58 ty 24 i0 1 Tryz.underlying58 hi (.slice a n c) n xs hown
  rw [h1]
  exact ⟨a, c, w, by simpa using this, by simpa using hown, Below.refl _ _⟩
 | some ad =>
  obtain ⟨v', w', h1, h2, h3, _⟩ := run_append_own (P := Tryz.prog) w B 58 ty 24 i0 (.slice none 0 0) 1 24 Tryz.underlying58 hi hz0 hz1 hz2 rfl (by decide) (.slice a n c) n xs hown ad m cc l (by omega) (hrow ad rfl) hone (by unfold maxLen; omega) (by omega) hbase
  obtain ⟨a', c', rfl⟩ : ∃ a' c', v' = .slice a' (n + m) c' := by
   rcases h2.2 with ⟨h5, h6⟩ | ⟨g, cap, cur, h5, _⟩
   ·exact ⟨none, 0, by rw [h5, h6]⟩
   ·exact ⟨_, cap, h5⟩
  refine ⟨a', c', w', h1, h2, (Below.refl _ _).grown h3 hbase fun k hk => ?_⟩
  obtain ⟨q1, q2⟩ := hown
  rcases q2 with ⟨q2, _⟩ | ⟨g', cap', cur, q3, q4, q5, q6⟩
  ·cases q2
   cases hk
  ·cases q3
   cases hk
   exact q4
/-- The inner slices' blocks lie apart from one. -/
def Apt (x : Option Nat) (vs : List Value) : Prop := ∀ v ∈ vs, ∀ (ai : Addr) (n ci : Nat), v = Value.slice (some ai) n ci → x ≠ some ai.block
theorem Apt.nil (x : Option Nat) : Apt x [] := fun v hv => by cases hv
theorem Apt.more {x : Option Nat} {vs : List Value} {v : Value} (h : Apt x vs) (hv : Apt x [v]) : Apt x (vs ++ [v]) := fun u hu => by
 rcases List.mem_append.1 hu with hu | hu
 ·exact h u hu
 ·exact hv u hu
theorem SetsO.cells {w : World} {B : Nat} {a : Option Addr} {c : Nat} {S : List (List Nat)} {vs : List Value} (h : SetsO w B a c S vs) : vs.length = S.length ∧ (∀ ad, a = some ad → ∀ (j : Nat) (u : Value), vs[j]? = some u → w.cell? (ad.add j) = some u) ∧ (∀ u ∈ vs, u.oneCell' = true) ∧ (a = none → c = 0 ∧ vs = []) := by
 obtain ⟨r1, r2⟩ := h.row
 have hvl : vs.length = S.length := by omega
 refine ⟨hvl, ?_, ?_, ?_⟩
 ·rintro ad rfl j u hj
  rcases r2 with ⟨r3, r4⟩ | ⟨g, cap, cur, r3, r4, r5, r6, r7, r8, r9⟩
  ·cases r3
  ·simp only [Value.slice.injEq, Option.some.injEq] at r3
   obtain ⟨rfl, _, rfl⟩ := r3
   have hb : Blk w g 24 cur := r5
   have hjl : j < S.length := by
    have := (List.getElem?_eq_some_iff.1 hj).1
    omega
   rw [show (⟨g, 0, none⟩ : Addr).add j = ⟨g, 0 + j, none⟩ from Go.WideShapes.add_plain ..]
   refine hb.cell _ _ ?_
   rw [Nat.zero_add]
   have h11 : (cur.toList.take (S.length * 1))[j]? = vs[j]? := by rw [r9]
   rw [List.getElem?_take_of_lt (by omega), Array.getElem?_toList] at h11
   rw [h11, hj]
 ·intro u hu
  obtain ⟨i, hi⟩ := List.getElem?_of_mem hu
  obtain ⟨s, hs⟩ : ∃ s, S[i]? = some s := ⟨_, List.getElem?_eq_getElem (by have := (List.getElem?_eq_some_iff.1 hi).1; omega)⟩
  obtain ⟨ai, ci, h1, h2⟩ := h.each i s hs
  rw [hi] at h1
  cases h1
  rfl
 ·rintro rfl
  rcases r2 with ⟨r3, r4⟩ | ⟨g, cap, cur, r3, r4, r5, r6, r7, r8, r9⟩
  ·simp only [Value.slice.injEq] at r3
   refine ⟨r3.2.2, ?_⟩
   rw [← List.length_eq_zero_iff]
   omega
  ·cases r3
theorem ownsRow_base {w : World} {B B' : Nat} {t : TypeId} {k n : Nat} {v : Value} {xs : List Value} (h : w.ownsRow B t k v n xs) (hb : B' ≤ B) : w.ownsRow B' t k v n xs := by
 obtain ⟨h1, h2⟩ := h
 refine ⟨h1, ?_⟩
 rcases h2 with h2 | ⟨g, cap, cur, h3, h4, h5, h6⟩
 ·exact .inl h2
 ·exact .inr ⟨g, cap, cur, h3, Nat.le_trans hb h4, h5, h6⟩
theorem SetsO.copied {w w' : World} {B : Nat} {sa : Option Addr} {sc : Nat} {S : List (List Nat)} {vs : List Value} {a' : Option Addr} {c' : Nat} {s : List Nat} {ya : Option Addr} {yc : Nat} (h : SetsO w B sa sc S vs) (hb : Below w.heap.size w w') (hrow : w'.ownsRow B 24 1 (.slice a' (S.length + 1) c') (S.length + 1) (vs ++ [.slice ya s.length yc])) (hy : OwnI w B ya yc s) : SetsO w' B a' c' (S ++ [s]) (vs ++ [.slice ya s.length yc]) := by
 have hvl : vs.length = S.length := h.cells.1
 refine ⟨by simpa using hrow, fun i t ht => ?_⟩
 by_cases e : i < S.length
 ·rw [List.getElem?_append_left e] at ht
  obtain ⟨ai, ci, h1, h2⟩ := h.each i t ht
  exact ⟨ai, ci, by rw [List.getElem?_append_left (by omega)]; exact h1, h2.below hb⟩
 ·have e' : i = S.length := by
   have := (List.getElem?_eq_some_iff.1 ht).1
   simp at this
   omega
  subst e'
  rw [List.getElem?_append_right (Nat.le_refl _)] at ht
  simp at ht
  subst ht
  exact ⟨ya, yc, by rw [List.getElem?_append_right (by omega), hvl]; simp, hy.below hb⟩
theorem find_at {S : List (List Nat)} {s t : List Nat} {k : Nat} (hk : S[k]? = some t) (ht : t = s) (hb : ∀ (j : Nat) (q : List Nat), j < k → S[j]? = some q → q ≠ s) : S.findIdx? (· == s) = some k := by
 rw [List.findIdx?_eq_some_iff_getElem]
 obtain ⟨h1, h2⟩ := List.getElem?_eq_some_iff.1 hk
 refine ⟨h1, by simp [h2, ht], fun j hj => ?_⟩
 have := hb j _ hj (List.getElem?_eq_getElem (by omega))
 simpa using this
theorem find_no {S : List (List Nat)} {s : List Nat} (hb : ∀ (j : Nat) (q : List Nat), j < S.length → S[j]? = some q → q ≠ s) : S.findIdx? (· == s) = none := by
 rw [List.findIdx?_eq_none_iff]
 intro x hx
 obtain ⟨j, hj⟩ := List.getElem?_of_mem hx
 have := hb j x (List.getElem?_eq_some_iff.1 hj).1 hj
 simpa using this
set_option maxRecDepth 100000 in
set_option maxHeartbeats 8000000 in
theorem rput_any (B : Nat) (sa : Option Addr) (sc : Nat) (S : List (List Nat)) (vs : List Value) (ya : Option Addr) (yc : Nat) (s : List Nat) (w : World) (hB : B ≤ w.heap.size) (h : SetsO w B sa sc S vs) (hy : OwnI w B ya yc s) (hl : S.length ≤ 100000) (hs : ∀ t ∈ S, t.length ≤ 1000) (hsl : s.length ≤ 1000) :
  Calls Tryz.prog 45 #[.slice sa S.length sc, .slice ya s.length yc] w fun e w' => ∃ sa' sc' vs', e = .returned (.tuple #[.int .i64 (putN S s : Nat), .slice sa' (putS S s).length sc']) ∧ SetsO w' B sa' sc' (putS S s) vs' ∧ (∀ v ∈ vs', v ∈ vs ∨ v = Value.slice ya s.length yc) ∧ Below w.heap.size w w' := by
 have KS : Hid (∀ (W : World) (a b : Option Addr) (c d : Nat) (x y : List Nat), RowI W a (ints x) → RowI W b (ints y) → Calls Tryz.prog 76 #[.slice a x.length c, .slice b y.length d] W fun e w' => e = .returned (.bool (decide (x = y))) ∧ Below W.heap.size W w') := fun W a b c d x y h h' => by
  have K := sameI_any a b c d (ints x) (ints y) W h h'
  rw [List.length_map, List.length_map, show decide (ints x = ints y) = decide (x = y) from decide_eq_decide.2 ⟨ints_inj, fun h => by rw [h]⟩] at K
  exact K.mono (by rintro e w' ⟨rfl, n, rfl⟩; exact ⟨rfl, below_drewN (Below.refl _ _) n⟩)
 have HRS : Hid (RowS w sa (S.map ints)) := h.rows (by omega) (fun t ht => by have := hs t ht; omega)
 have HRY : Hid (RowI w ya (ints s)) := hy.row (by omega)
 have HB : Hid (B ≤ w.heap.size) := hB
 have HSO : Hid (SetsO w B sa sc S vs) := h
 have HOY : Hid (OwnI w B ya yc s) := hy
 obtain ⟨N, hN⟩ : ∃ N, S.length = N := ⟨_, rfl⟩
 have HN : Hid (S.length = N) := hN
 obtain ⟨M, hM⟩ : ∃ M, s.length = M := ⟨_, rfl⟩
 have HM : Hid (s.length = M) := hM
 rw [hN, hM]
 rw [hN] at hl
 clear h hy hs hsl hN hM hB
 go_enter Tryz.func45, Tryz.ntmps45
 go_wp2_with fail
 go_loopw [6] (fun i wr => ∃ (k : Nat), k ≤ N ∧ i = .int .i64 k ∧ Below w.heap.size w wr ∧ Hid (∀ (j : Nat) (t : List Nat), j < k → S[j]? = some t → t ≠ s)) (fun i _ => N - (intOf i).toNat)
 case atStart => exact ⟨0, Nat.zero_le _, rfl, Below.refl _ _, fun j p hj => by omega⟩
 case round =>
  obtain ⟨k, hk, rfl, qb, qe⟩ := hrel
  by_cases hlt : k < N
  ·have ik : (k : Int) < (N : Int) := by omega
   obtain ⟨t, ht⟩ : ∃ t, S[k]? = some t := ⟨_, List.getElem?_eq_getElem (by rw [HN.out]; exact hlt)⟩
   obtain ⟨b, off, ai, ci, ha, d0, hri⟩ := (HRS.out.below qb).cells k (ints t) (by rw [List.getElem?_map, ht]; rfl)
   have KK : Hid _ := KS.out wr ai ya ci yc t s hri (HRY.out.below qb)
   have HTK : Hid (S[k]? = some t) := ht
   have hw2 : IntKind.i64.wrap ((k : Int) + 1) = ((k + 1 : Nat) : Int) := by simp [IntKind.wrap, IntKind.bits, IntKind.signed]; omega
   subst ha
   clear ht hri
   rw [List.length_map] at d0
   rw [HM.out] at KK
   obtain ⟨n, hn⟩ : ∃ n, t.length = n := ⟨_, rfl⟩
   rw [hn] at KK d0
   clear hn
   go_wp2_with fail
   refine Calls.mono KK.out ?_
   rintro e W2 ⟨rfl, bb⟩
   have b2 := bel_tr qb bb
   clear KK bb d0 qb
   by_cases hts : t = s
   ·have HF : Hid (S.findIdx? (· == s) = some k) := find_at HTK.out hts qe.out
    have hd : decide (t = s) = true := by simp [hts]
    rw [hd]
    clear qe hd hts
    go_wp2
    obtain ⟨_, i2, i3, _⟩ := ix_some HF.out
    refine bodyPost_ret (v := .tuple #[.int .i64 k, .slice (some ⟨b, off, none⟩) N sc]) (by simp [results, Tryz.results45, go_sem]) rfl ⟨some ⟨b, off, none⟩, sc, vs, ?_, ?_, fun v hv => .inl hv, b2⟩
    ·rw [i2, i3, HN.out]
    ·rw [i3]; exact HSO.out.below b2
   ·have hd : decide (t = s) = false := by simp [hts]
    have HN' : Hid (∀ (j : Nat) (q : List Nat), j < k + 1 → S[j]? = some q → q ≠ s) := fun j q hj hq => by
     by_cases e : j = k
     ·subst e
      rw [HTK.out] at hq
      cases hq
      exact hts
     ·exact qe.out j q (by omega) hq
    rw [hd]
    clear qe hd hts
    go_wp2
    exact ⟨⟨k + 1, by omega, by first | rfl | (congr 1), b2, HN'⟩, by simp only [intOf]; omega⟩
  ·have ik : ¬ (k : Int) < (N : Int) := by omega
   have HF : Hid (S.findIdx? (· == s) = none) := find_no (fun j q hj hq => qe.out j q (by have := HN.out; omega) hq)
   clear qe
   have HSW : Hid (SetsO wr B sa sc S vs) := HSO.out.below qb
   have HOW : Hid (OwnI wr B ya yc s) := HOY.out.below qb
   obtain ⟨cl, cc, co, cn⟩ := HSW.out.cells
   rw [HN.out] at cl
   obtain ⟨a3, c3, X1, hr1, O3, h1⟩ := run_appSs wr 58 wr.heap.size none 0 0 [] (World.ownsRow_nil _ _ _ _) sa sc N vs cl cc co cn (by omega) (Nat.le_refl _)
   rw [Nat.zero_add] at hr1 O3
   rw [List.nil_append] at O3
   obtain ⟨X2, hX2⟩ : ∃ X2, X1.alloc (.cells #[.slice ya M yc] 24) = X2 := ⟨_, rfl⟩
   have h2 : Below wr.heap.size wr X2 := bel_al h1 hX2
   have O3' := ownsRow_low O3 (bel_nw hX2)
   obtain ⟨a4, c4, X3, hr2, O4, h23⟩ := run_appSs X2 58 wr.heap.size a3 c3 N vs O3' (some ⟨X1.heap.size, 0, none⟩) 1 1 [.slice ya M yc] rfl (fun ad had j u hj => by
    cases had
    have hj0 : j = 0 := by
     have := (List.getElem?_eq_some_iff.1 hj).1
     simp at this; omega
    subst hj0
    simp only [List.getElem?_cons_zero, Option.some.injEq] at hj
    subst hj
    rw [show (⟨X1.heap.size, 0, none⟩ : Addr).add 0 = ⟨X1.heap.size, 0, none⟩ from rfl]
    exact (blk_nw hX2).cell 0 _ rfl) (fun u hu => by simp at hu; rw [hu]; rfl) (by intro h; cases h) (by omega) h2.size
   have h3 : Below wr.heap.size wr X3 := h2.trans h23
   have HSN : Hid (SetsO X3 B a4 c4 (S ++ [s]) (vs ++ [.slice ya s.length yc])) := HSW.out.copied h3 (by rw [HN.out, HM.out]; exact ownsRow_base O4 (Nat.le_trans HB.out qb.size)) HOW.out
   have b3 := bel_tr qb h3
   clear O3 O3' O4 h1 h2 h23 h3 cl cc co cn
   go_wp2_with (first
    | (refine wpList_runA rfl 58 _ _ rfl _ _ (by rfl) (by rfl) _ _ hr1 ?_)
    | (refine wpList_runA rfl 58 _ _ rfl _ _ (by rfl) (by rfl) _ _ hr2 ?_))
   obtain ⟨_, i2, i3⟩ := ix_none HF.out
   refine bodyPost_ret (v := .tuple #[.int .i64 N, .slice a4 (N + 1) c4]) (by simp [results, Tryz.results45, go_sem]) rfl ⟨a4, c4, ?_, vs ++ [.slice ya s.length yc], by rw [i3]; exact HSN.out, fun v hv => ?_, b3⟩
   ·rw [i2, i3, List.length_append, HN.out]; rfl
   ·rcases List.mem_append.1 hv with hv | hv
    ·exact .inl hv
    ·right
     rw [← HM.out]
     simpa using hv
/-- A row of one's own, one cell an element, read and written at a place. -/
theorem own_at {w : World} {B : Nat} {t : TypeId} {n c : Nat} {a : Option Addr} {xs : List Value} (h : w.ownsRow B t 1 (.slice a n c) n xs) {i : Nat} (hi : i < n) :
  ∃ g cur v, a = some ⟨g, 0, none⟩ ∧ B ≤ g ∧ Blk w g t cur ∧ xs[i]? = some v ∧ w.cell? ⟨g, i, none⟩ = some v ∧ ∀ u : Value, (w.setCell ⟨g, i, none⟩ u).ownsRow B t 1 (.slice a n c) n (xs.set i u) := by
 obtain ⟨h1, h2⟩ := h
 rcases h2 with ⟨h3, h4⟩ | ⟨g, cap, cur, h3, h4, h5, h6, h7, h8, h9⟩
 ·omega
 ·simp only [Value.slice.injEq] at h3
  obtain ⟨rfl, _, rfl⟩ := h3
  have hb : Blk w g t cur := h5
  have hxl : i < xs.length := by omega
  have hc : cur[i]? = xs[i]? := by
   rw [← h9, List.getElem?_take_of_lt (by omega), Array.getElem?_toList]
  refine ⟨g, cur, xs[i], rfl, h4, hb, List.getElem?_eq_getElem hxl, hb.cell _ _ (by rw [hc, List.getElem?_eq_getElem hxl]), fun u => ?_⟩
  refine ⟨by simpa using h1, .inr ⟨g, c, cur.setIfInBounds i u, rfl, h4, hb.put i u, h6, h7, by simpa using h8, ?_⟩⟩
  rw [Array.toList_setIfInBounds, List.take_set, h9]
/-- A place, or -1. -/
def ixU : Option Nat → Int
 | some i => i
 | none => -1
set_option maxRecDepth 100000 in
set_option maxHeartbeats 1000000 in
theorem indexU_any (a : Option Addr) (c : Nat) (l : List Nat) (x : Nat) (w : World) (h : RowU w a l) :
  Calls Tryz.prog 67 #[.slice a l.length c, .int .u64 (x : Int)] w fun e w' => e = .returned (.int .i64 (ixU (l.findIdx? (· == x)))) ∧ Below w.heap.size w w' := by
 obtain ⟨R, hR⟩ : ∃ R, ixU (l.findIdx? (· == x)) = R := ⟨_, rfl⟩
 have HR' : Hid (ixU (l.findIdx? (· == x)) = R) := hR
 rw [hR]
 clear hR
 have hs := h.small
 have HR : Hid (RowU w a l) := h
 obtain ⟨N, hN⟩ : ∃ N, l.length = N := ⟨_, rfl⟩
 have HN : Hid (l.length = N) := hN
 rw [hN] at hs ⊢
 clear h hN
 go_enter Tryz.func67, Tryz.ntmps67
 go_wp2_with fail
 go_loopw [8] (fun i wr => ∃ (n : Nat), n ≤ N ∧ i = .int .i64 n ∧ w = wr ∧ Hid (∀ (j q : Nat), j < n → l[j]? = some q → q ≠ x)) (fun i _ => N - (intOf i).toNat)
 case atStart => exact ⟨0, Nat.zero_le _, rfl, rfl, fun j q hj => by omega⟩
 case round =>
  obtain ⟨n, hn, rfl, hw, HA⟩ := hrel
  subst hw
  by_cases hlt : n < N
  ·have ik : (n : Int) < (N : Int) := by omega
   obtain ⟨y, hy⟩ : ∃ y, l[n]? = some y := ⟨_, List.getElem?_eq_getElem (by rw [HN.out]; exact hlt)⟩
   have HY : Hid (l[n]? = some y) := hy
   obtain ⟨b, off, ha, hc⟩ := HR.out.cells (by rw [HN.out]; omega)
   have hc := hc n (by rw [HN.out]; exact hlt)
   rw [List.getD_eq_getElem?_getD, hy] at hc
   simp only [Option.getD_some] at hc
   subst ha
   have hw1 : IntKind.i64.wrap ((n : Int) + 1) = ((n + 1 : Nat) : Int) := by simp [IntKind.wrap, IntKind.bits, IntKind.signed]; omega
   clear hy
   by_cases e : y = x
   ·have he : ((x : Int) == (y : Int)) = true := by simp [e]
    have HF : Hid (l.findIdx? (· == x) = some n) := by
     show _ = _
     rw [List.findIdx?_eq_some_iff_getElem]
     obtain ⟨h1, h2⟩ := List.getElem?_eq_some_iff.1 HY.out
     refine ⟨h1, by simp [h2, e], fun j hj => ?_⟩
     have := HA.out j _ hj (List.getElem?_eq_getElem (by omega))
     simpa using this
    clear e
    go_wp2
    go_ret
    have hh := HR'.out
    rw [HF.out] at hh
    exact ⟨by rw [← hh]; rfl, Below.refl _ _⟩
   ·have he : ((x : Int) == (y : Int)) = false := by simp; omega
    have HA' : Hid (∀ (j q : Nat), j < n + 1 → l[j]? = some q → q ≠ x) := fun j q hj hq => by
     by_cases ej : j = n
     ·subst ej
      rw [HY.out] at hq
      cases hq
      exact e
     ·exact HA.out j q (by omega) hq
    clear e
    go_wp2
    exact ⟨⟨n + 1, by omega, by first | rfl | (congr 1), by trivial, HA'⟩, by simp only [intOf]; omega⟩
  ·have ik : ¬ (n : Int) < (N : Int) := by omega
   have HF : Hid (l.findIdx? (· == x) = none) := by
    show _ = _
    rw [List.findIdx?_eq_none_iff]
    intro q hq
    obtain ⟨j, hj⟩ := List.getElem?_of_mem hq
    have := HA.out j q (by have := (List.getElem?_eq_some_iff.1 hj).1; rw [HN.out] at this; omega) hj
    simpa using this
   go_wp2
   go_ret
   have hh := HR'.out
   rw [HF.out] at hh
   exact ⟨by rw [← hh]; rfl, Below.refl _ _⟩
/-- The numbers of the first n sets; the rest is 0. -/
def prt (A : List (List Nat)) (n : Nat) : List Nat := (A.take n).map bitsN ++ List.replicate (A.length - n) 0
theorem prt_len (A : List (List Nat)) {n : Nat} (h : n ≤ A.length) : (prt A n).length = A.length := by unfold prt; simp; omega
theorem prt_at {A : List (List Nat)} {n : Nat} (h : n < A.length) : (prt A n)[n]? = some 0 := by
 unfold prt
 rw [List.getElem?_append_right (by simp; omega), List.getElem?_replicate, if_pos (by simp; omega)]
theorem prt_set {A : List (List Nat)} {n : Nat} {s : List Nat} (h : A[n]? = some s) : (prt A n).set n (bitsN s) = prt A (n + 1) := by
 obtain ⟨h1, h2⟩ := List.getElem?_eq_some_iff.1 h
 unfold prt
 rw [List.set_append_right _ _ (by simp; omega), List.take_add_one, h]
 have e : A.length - n = (A.length - (n + 1)) + 1 := by omega
 rw [e, List.replicate_succ]
 simp [Nat.min_eq_left (Nat.le_of_lt h1)]
theorem prt_all (A : List (List Nat)) : prt A A.length = A.map bitsN := by unfold prt; simp
abbrev u64s (l : List Nat) : List Value := l.map fun i : Nat => Value.int .u64 (i : Int)
set_option maxRecDepth 100000 in
set_option maxHeartbeats 4000000 in
theorem setsOf_any (a : Option Addr) (c : Nat) (A : List (List Nat)) (w : World) (h : RowS w a (A.map ints)) (hA : Rs2 A) (hN : A.length ≤ 10000) :
  Calls Tryz.prog 35 #[.slice a A.length c] w fun e w' => ∃ a' c', e = .returned (.slice a' A.length c') ∧ OwnU w' w.heap.size a' c' (A.map bitsN) ∧ Below w.heap.size w w' := by
 obtain ⟨i0, hi, hz0, hz1, hz2⟩ := info_parts info_set
 have HR : Hid (RowS w a (A.map ints)) := h
 have HA : Hid (Rs2 A) := hA
 obtain ⟨N, hN'⟩ : ∃ N, A.length = N := ⟨_, rfl⟩
 have HN : Hid (A.length = N) := hN'
 rw [hN'] at hN ⊢
 clear h hA hN'
 go_enter Tryz.func35, Tryz.ntmps35
 go_wp2_with (first | (at_make; refine wpList_make_full _ rfl _ _ 93 rfl w.heap.size 99 i0 (.int .u64 0) 1 Tryz.underlying93 hi hz0 hz1 _ _ _ _ N rfl rfl (by first | rfl | omega) (by first | rfl | omega) (by rw [hz2]; omega) (by unfold maxLen; omega) (Nat.le_refl _) ?_; intro w1 ho1 hg1))
 have HO1 : Hid (w1.ownsRow w.heap.size 99 1 (.slice (some ⟨w.heap.size, 0, none⟩) N N) N (u64s (prt A 0))) := by
  have e : u64s (prt A 0) = (madeCells (Value.int .u64 0).cells (N * 1)).toList := by
   show _ = (madeCells #[Value.int .u64 0] (N * 1)).toList
   rw [toList_madeCells_one]
   simp [u64s, prt, HN.out]
  show w1.ownsRow _ _ _ _ _ _
  rw [e]
  exact ho1
 have b1 : Below w.heap.size w w1 := (Below.refl _ _).grown hg1 (Nat.le_refl _) (fun k hk => by cases hk)
 clear ho1 hg1 hi hz0 hz1 hz2
 go_wp2_with fail
 go_loopw [13] (fun i wr => ∃ (n : Nat), n ≤ N ∧ i = .int .i64 n ∧ Hid (wr.ownsRow w.heap.size 99 1 (.slice (some ⟨w.heap.size, 0, none⟩) N N) N (u64s (prt A n))) ∧ Below w.heap.size w wr) (fun i _ => N - (intOf i).toNat)
 case atStart => exact ⟨0, Nat.zero_le _, rfl, HO1, b1⟩
 case round =>
  clear HO1 b1
  obtain ⟨n, hn, rfl, HO, bw⟩ := hrel
  by_cases hlt : n < N
  ·have ik : (n : Int) < (N : Int) := by omega
   have in0 : (0 : Int) ≤ (n : Int) := by omega
   have hw1 : IntKind.i64.wrap ((n : Int) + 1) = ((n + 1 : Nat) : Int) := by simp [IntKind.wrap, IntKind.bits, IntKind.signed]; omega
   obtain ⟨s, hs⟩ : ∃ s, A[n]? = some s := ⟨_, List.getElem?_eq_getElem (by rw [HN.out]; exact hlt)⟩
   have HSN : Hid (A[n]? = some s) := hs
   have HRS : Hid (Rs s) := HA.out s (List.mem_of_getElem? hs)
   obtain ⟨b, off, ai, ci, ha, hc, hri⟩ := HR.out.cells n (ints s) (by rw [List.getElem?_map, hs]; rfl)
   have hc' := kept bw hc
   have HRI : Hid (RowI w ai (ints s)) := hri
   rw [List.length_map] at hc'
   have hsl := rs_len HRS.out
   obtain ⟨M, hM⟩ : ∃ M, s.length = M := ⟨_, rfl⟩
   have HM : Hid (s.length = M) := hM
   rw [hM] at hc' hsl
   subst ha
   clear hs hc hri hM
   go_wp2_with fail
   clear hc'
   go_loopw [20] (fun i wr => ∃ (m : Nat), m ≤ M ∧ i = .int .i64 m ∧ Hid (wr.ownsRow w.heap.size 99 1 (.slice (some ⟨w.heap.size, 0, none⟩) N N) N (u64s ((prt A n).set n (bitsN (s.take m))))) ∧ Below w.heap.size w wr) (fun i _ => M - (intOf i).toNat)
   case atStart =>
    refine ⟨0, Nat.zero_le _, rfl, ?_, bw⟩
    have e : (prt A n).set n (bitsN (s.take 0)) = prt A n := by
     rw [List.take_zero, bits_nil]
     have h1 := prt_at (A := A) (n := n) (by rw [HN.out]; exact hlt)
     obtain ⟨h2, h3⟩ := List.getElem?_eq_some_iff.1 h1
     have := List.set_getElem_self h2
     rwa [h3] at this
    rw [e]
    exact HO
   case round =>
    clear HO bw
    obtain ⟨m, hm, rfl, HO, bw⟩ := hrel
    by_cases hmt : m < M
    ·have im : (m : Int) < (M : Int) := by omega
     have hw2 : IntKind.i64.wrap ((m : Int) + 1) = ((m + 1 : Nat) : Int) := by simp [IntKind.wrap, IntKind.bits, IntKind.signed]; omega
     obtain ⟨p, hp⟩ : ∃ p, s[m]? = some p := ⟨_, List.getElem?_eq_getElem (by rw [HM.out]; exact hmt)⟩
     have hp64 : p < 64 := HRS.out.2 p (List.mem_of_getElem? hp)
     have htake : s.take (m + 1) = s.take m ++ [p] := by rw [List.take_add_one, hp]; rfl
     obtain ⟨b', off', ha', hcs⟩ := HRI.out.cells (by simp [HM.out]; omega)
     have hcm := kept bw (hcs m (by simp [HM.out]; omega))
     rw [List.getD_eq_getElem?_getD, List.getElem?_map, hp] at hcm
     simp only [Option.map_some, Option.getD_some] at hcm
     subst ha'
     have hX : bitsN (s.take m) < 18446744073709551616 := bits_lt fun i hi => HRS.out.2 i (List.mem_of_mem_take hi)
     have hsn : bitsN (s.take (m + 1)) = bitsN (s.take m) ||| 2 ^ p := by rw [htake, bits_snoc]
     obtain ⟨X, hXe⟩ : ∃ X, bitsN (s.take m) = X := ⟨_, rfl⟩
     obtain ⟨Y, hYe⟩ : ∃ Y, bitsN (s.take (m + 1)) = Y := ⟨_, rfl⟩
     have HY : Hid (bitsN (s.take (m + 1)) = Y) := hYe
     rw [hXe, hYe] at hsn
     have q0 := HO.out
     rw [hXe] at hX q0
     obtain ⟨g, cur, v, ea, k1, kb, kx, kc, kw⟩ := own_at q0 hlt
     cases ea
     have hv : v = .int .u64 (X : Int) := by
      rw [u64s, List.getElem?_map, List.getElem?_set_self (by rw [prt_len A (by rw [HN.out]; omega), HN.out]; exact hlt)] at kx
      simpa using kx.symm
     subst hv
     have KK : Hid ((wr.setCell ⟨w.heap.size, n, none⟩ (.int .u64 (Y : Int))).ownsRow w.heap.size 99 1 (.slice (some ⟨w.heap.size, 0, none⟩) N N) N (u64s ((prt A n).set n Y))) := by
      have := kw (.int .u64 (Y : Int))
      have e : (u64s ((prt A n).set n X)).set n (.int .u64 (Y : Int)) = u64s ((prt A n).set n Y) := by
       simp [u64s, List.map_set]
      rw [e] at this
      exact this
     have kf := kb.frozen n
     have hp2 : (2 : Nat) ^ p < 18446744073709551616 := by
      have := Nat.pow_lt_pow_right (a := 2) (by omega) hp64
      simpa using this
     have hor : bits BinOp.or IntKind.u64 (X : Int) (2 ^ p) = (Y : Int) := by
      have hcast : (2 : Int) ^ p = ((2 ^ p : Nat) : Int) := by simp
      rw [hcast, bits_or_u64_nat X _ hX hp2, hsn]
     have hshl : IntKind.u64.wrap ((2 : Int) ^ p) = (2 : Int) ^ p := by
      have hcast : (2 : Int) ^ p = ((2 ^ p : Nat) : Int) := by simp
      rw [hcast]
      obtain ⟨E, hE⟩ : ∃ E, (2 : Nat) ^ p = E := ⟨_, rfl⟩
      rw [hE] at hp2 ⊢
      rw [IntKind.wrap_u64]
      omega
     have bw' : Below w.heap.size w (wr.setCell ⟨w.heap.size, n, none⟩ (.int .u64 (Y : Int))).drew := (bw.setCell (Nat.le_refl _) _).drew
     have KD : Hid ((wr.setCell ⟨w.heap.size, n, none⟩ (.int .u64 (Y : Int))).drew.ownsRow w.heap.size 99 1 (.slice (some ⟨w.heap.size, 0, none⟩) N N) N (u64s ((prt A n).set n Y))) := ownsRow_low KK.out (below_drew _)
     clear q0 hsn kw kx hX htake hp hXe hYe HO hcs
     go_wp2_with fail
     go_region
     try simp only [hor]
     go_wp2
     exact ⟨⟨m + 1, by omega, by first | rfl | (congr 1), by rw [HY.out]; exact KD, bw'⟩, by simp only [intOf]; omega⟩
    ·have im : ¬ (m : Int) < (M : Int) := by omega
     have HO' : Hid (wr.ownsRow w.heap.size 99 1 (.slice (some ⟨w.heap.size, 0, none⟩) N N) N (u64s (prt A (n + 1)))) := by
      have := HO.out
      rw [List.take_of_length_le (by rw [HM.out]; omega), prt_set HSN.out] at this
      exact this
     clear HO
     go_wp2
     exact ⟨⟨n + 1, by omega, by first | rfl | (congr 1), HO', bw⟩, by simp only [intOf]; omega⟩
  ·have ik : ¬ (n : Int) < (N : Int) := by omega
   have hn' : n = A.length := by rw [HN.out]; omega
   have HO' : Hid (OwnU wr w.heap.size (some ⟨w.heap.size, 0, none⟩) N (A.map bitsN)) := by
    have := HO.out
    rw [hn', prt_all] at this
    show OwnU _ _ _ _ _
    unfold OwnU
    rw [List.length_map, HN.out]
    exact this
   clear hn' HO
   go_wp2
   go_ret
   exact ⟨_, _, rfl, HO'.out, bw⟩
/-- The first n of N sets are there. -/
def SetsT (w : World) (B : Nat) (a : Option Addr) (N c n : Nat) (A : List (List Nat)) : Prop := ∃ vs, w.ownsRow B 24 1 (.slice a N c) N vs ∧ ∀ (i : Nat) (s : List Nat), i < n → A[i]? = some s → ∃ ai ci, vs[i]? = some (Value.slice ai s.length ci) ∧ OwnI w B ai ci s
theorem SetsT.below {w w' : World} {B : Nat} {a : Option Addr} {N c n : Nat} {A : List (List Nat)} (h : SetsT w B a N c n A) (hb : Below w.heap.size w w') : SetsT w' B a N c n A := by
 obtain ⟨vs, h1, h2⟩ := h
 exact ⟨vs, ownsRow_low h1 hb, fun i s hi hs => by
  obtain ⟨ai, ci, e1, e2⟩ := h2 i s hi hs
  exact ⟨ai, ci, e1, e2.below hb⟩⟩
theorem SetsT.put {w : World} {B g N c n : Nat} {A : List (List Nat)} (h : SetsT w B (some ⟨g, 0, none⟩) N c n A) (hn : n < N) {s : List Nat} (hs : A[n]? = some s) {ai : Option Addr} {ci : Nat} (ho : OwnI w B ai ci s) : ∃ cur, Blk w g 24 cur ∧ n < cur.size ∧ SetsT (w.setCell ⟨g, n, none⟩ (.slice ai s.length ci)) B (some ⟨g, 0, none⟩) N c (n + 1) A := by
 obtain ⟨vs, h1, h2⟩ := h
 obtain ⟨g', cur, v, ea, k1, kb, kx, kc, kw⟩ := own_at h1 hn
 cases ea
 have hT : Tc (· == 24) w (w.setCell ⟨g, n, none⟩ (.slice ai s.length ci)) := by
  rw [setCell_eq_setRow w g n cur _ (0, 0) _ kb]
  exact Tc.set kb (by rfl) _
 have hcs : n < cur.size := by
  rcases h1.2 with ⟨h3, _⟩ | ⟨g2, cap, cur2, h3, h4, h5, h6, h7, h8, h9⟩
  ·cases h3
  ·cases h3
   have kb' : w.heap[g]? = some (.cells cur 24 (0, 0)) := kb
   rw [h5] at kb'
   simp only [Option.some.injEq, Obj.cells.injEq] at kb'
   rw [← kb'.1]
   omega
 refine ⟨cur, kb, hcs, vs.set n (.slice ai s.length ci), kw _, fun i t hi ht => ?_⟩
 by_cases e : i = n
 ·subst e
  rw [hs] at ht
  cases ht
  refine ⟨ai, ci, ?_, ownsRow_tc ho hT (by rfl)⟩
  rw [List.getElem?_set_self (List.getElem?_eq_some_iff.1 kx).1]
 ·obtain ⟨aj, cj, e1, e2⟩ := h2 i t (by omega) ht
  exact ⟨aj, cj, by rw [List.getElem?_set_ne (by omega)]; exact e1, ownsRow_tc e2 hT (by rfl)⟩
theorem SetsT.all {w : World} {B N c : Nat} {a : Option Addr} {A : List (List Nat)} (h : SetsT w B a N c N A) (hN : A.length = N) : ∃ vs, SetsO w B a c A vs := by
 obtain ⟨vs, h1, h2⟩ := h
 rw [← hN] at h1
 exact ⟨vs, h1, fun i s hs => h2 i s (by have := (List.getElem?_eq_some_iff.1 hs).1; omega) hs⟩
set_option maxRecDepth 100000 in
set_option maxHeartbeats 4000000 in
theorem lists_any (a : Option Addr) (c : Nat) (A : List (List Nat)) (w : World) (h : RowU w a (A.map bitsN)) (hA : Rs2 A) (hN : A.length ≤ 10000) (hd : Deb w) :
  Calls Tryz.prog 38 #[.slice a A.length c] w fun e w' => ∃ a' c' vs, e = .returned (.slice a' A.length c') ∧ SetsO w' w.heap.size a' c' A vs ∧ Below w.heap.size w w' := by
 obtain ⟨i0, hi, hz0, hz1, hz2⟩ := info_parts info_ints
 have HR : Hid (RowU w a (A.map bitsN)) := h
 have HA : Hid (Rs2 A) := hA
 have HD : Hid (Deb w) := hd
 have KP : Hid (∀ s, Rs s → ∀ W, Deb W → Calls Tryz.prog 68 #[.int .u64 (bitsN s : Int)] W fun e w' => ∃ a c, e = .returned (.slice a s.length c) ∧ OwnI w' W.heap.size a c s ∧ Below W.heap.size W w') := fun s hs W hW => places_any s hs W hW
 obtain ⟨N, hN'⟩ : ∃ N, A.length = N := ⟨_, rfl⟩
 have HN : Hid (A.length = N) := hN'
 rw [hN'] at hN ⊢
 clear h hA hN' hd
 go_enter Tryz.func38, Tryz.ntmps38
 go_wp2_with (first | (at_make; refine wpList_make_full _ rfl _ _ 58 rfl w.heap.size 24 i0 (.slice none 0 0) 1 Tryz.underlying58 hi hz0 hz1 _ _ _ _ N rfl rfl (by first | rfl | omega) (by first | rfl | omega) (by rw [hz2]; omega) (by unfold maxLen; omega) (Nat.le_refl _) ?_; intro w1 ho1 hg1))
 have HO1 : Hid (SetsT w1 w.heap.size (some ⟨w.heap.size, 0, none⟩) N N 0 A) := ⟨_, ho1, fun i s hi => by omega⟩
 have b1 : Below w.heap.size w w1 := (Below.refl _ _).grown hg1 (Nat.le_refl _) (fun k hk => by cases hk)
 clear ho1 hg1 hi hz0 hz1 hz2
 go_wp2_with fail
 go_loopw [11] (fun i wr => ∃ (n : Nat), n ≤ N ∧ i = .int .i64 n ∧ Hid (SetsT wr w.heap.size (some ⟨w.heap.size, 0, none⟩) N N n A) ∧ Below w.heap.size w wr) (fun i _ => N - (intOf i).toNat)
 case atStart => exact ⟨0, Nat.zero_le _, rfl, HO1, b1⟩
 case round =>
  clear HO1 b1
  obtain ⟨n, hn, rfl, HO, bw⟩ := hrel
  by_cases hlt : n < N
  ·have ik : (n : Int) < (N : Int) := by omega
   have in0 : (0 : Int) ≤ (n : Int) := by omega
   have hw1 : IntKind.i64.wrap ((n : Int) + 1) = ((n + 1 : Nat) : Int) := by simp [IntKind.wrap, IntKind.bits, IntKind.signed]; omega
   obtain ⟨s, hs⟩ : ∃ s, A[n]? = some s := ⟨_, List.getElem?_eq_getElem (by rw [HN.out]; exact hlt)⟩
   have HSN : Hid (A[n]? = some s) := hs
   have HRS : Hid (Rs s) := HA.out s (List.mem_of_getElem? hs)
   obtain ⟨b, off, ha, hc⟩ := HR.out.cells (by rw [List.length_map, HN.out]; omega)
   have hc := kept bw (hc n (by rw [List.length_map, HN.out]; exact hlt))
   rw [List.getD_eq_getElem?_getD, List.getElem?_map, hs] at hc
   simp only [Option.map_some, Option.getD_some] at hc
   subst ha
   have K : Hid _ := KP.out s HRS.out wr (HD.out.below bw)
   obtain ⟨X, hX⟩ : ∃ X, bitsN s = X := ⟨_, rfl⟩
   rw [hX] at hc K
   obtain ⟨M, hM⟩ : ∃ M, s.length = M := ⟨_, rfl⟩
   have HM : Hid (s.length = M) := hM
   rw [hM] at K
   clear hs hX hM
   go_wp2_with fail
   refine Calls.mono K.out ?_
   rintro e W2 ⟨ai, ci, rfl, hoi, b2⟩
   have bw2 := bel_tr bw b2
   obtain ⟨cur, kb, hcur, hset⟩ := (HO.out.below b2).put hlt HSN.out (ownsRow_base hoi bw.size)
   rw [HM.out] at hset
   have HS' : Hid (SetsT (W2.setCell ⟨w.heap.size, n, none⟩ (.slice ai M ci)) w.heap.size (some ⟨w.heap.size, 0, none⟩) N N (n + 1) A) := hset
   have kc := kb.cell n _ (Array.getElem?_eq_getElem hcur)
   have kf := kb.frozen n
   have bw3 : Below w.heap.size w (W2.setCell ⟨w.heap.size, n, none⟩ (.slice ai M ci)) := bw2.setCell (Nat.le_refl _) _
   clear hoi hset K HO hc bw b2 bw2
   go_wp2
   exact ⟨⟨n + 1, by omega, by first | rfl | (congr 1), HS', bw3⟩, by simp only [intOf]; omega⟩
  ·have ik : ¬ (n : Int) < (N : Int) := by omega
   have hn' : n = N := by omega
   subst hn'
   obtain ⟨vs, hvs⟩ := SetsT.all HO.out HN.out
   clear HO
   go_wp2
   go_ret
   exact ⟨_, _, rfl, ⟨vs, hvs⟩, bw⟩
end Go.Proofs.YtmfgjicfdjjihaaGreatDoor
