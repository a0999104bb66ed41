/- Texts joined: LkF -/
import Derived.Test.YtmfgjicfdjjihaaGreatDoorLxa34
namespace Go.Proofs.YtmfgjicfdjjihaaGreatDoor
open Go.RowKit
set_option linter.unusedVariables false
set_option linter.unusedSimpArgs false
theorem OwnJ.below {w w' : World} {B : Nat} {a : Option Addr} {c : Nat} {l : List Int} (h : OwnJ w B a c l) (hb : Below w.heap.size w w') : OwnJ w' B a c l := ownsRow_low h hb
theorem ownJ_of {w : World} {B : Nat} {a : Option Addr} {c : Nat} {l : List Nat} : OwnJ w B a c (ints l) ↔ OwnI w B a c l := by
 unfold OwnJ OwnI ints
 rw [List.length_map, List.map_map]
 exact Iff.rfl
/-- append(v, x...) of numbers, of either sign. -/
theorem run_appJs (w : World) (ty : TypeId) (B : Nat) (a : Option Addr) (c : Nat) (xs : List Int) (hown : OwnJ w B a c xs) (b : Option Addr) (cc : Nat) (l : List Int) (hrow : RowI w b l) (hnil : b = none → cc = 0 ∧ l = [])
  (hsum : xs.length + l.length ≤ 1000000) (hbase : B ≤ w.heap.size) :
  ∃ a' c' w', (Builtin.append_ #[24, 24] ty #[.slice a xs.length c, .slice b l.length cc]).run Tryz.prog w = .ok (.slice a' (xs ++ l).length c') w' ∧ OwnJ w' B a' c' (xs ++ l) ∧ Below B w w' := by
 obtain ⟨i0, hi, hz0, hz1, hz2⟩ := info_parts info_int
 cases b with
 | none =>
  obtain ⟨h1, h2⟩ := hnil rfl
  subst h2
  have := run_append_owned_none (P := Tryz.prog) (w := w) B 24 ty 3 i0 1 Tryz.underlying24 hi (.slice a xs.length c) xs.length (xs.map (Value.int .i64)) hown
  rw [h1]
  refine ⟨a, c, w, ?_, by simpa using hown, Below.refl _ _⟩
  simpa using this
 | some ad =>
  obtain ⟨v', w', h1, h2, h3, _⟩ := run_append_own (P := Tryz.prog) w B 24 ty 3 i0 (.int .i64 0) 1 8 Tryz.underlying24 hi hz0 hz1 hz2 rfl (by decide) (.slice a xs.length c) xs.length (xs.map (Value.int .i64)) hown ad l.length cc (l.map (Value.int .i64)) (by simp) (by
   intro j u hj
   have hjl : j < l.length := by
    have := (List.getElem?_eq_some_iff.1 hj).1
    simpa using this
   obtain ⟨bk, off, hh, hc⟩ := hrow.cells (by omega)
   cases hh
   have h4 := hc j hjl
   rw [show (⟨bk, off, none⟩ : Addr).add j = ⟨bk, off + j, none⟩ from Go.WideShapes.add_plain .., h4]
   rw [List.getElem?_map, List.getElem?_eq_getElem hjl] at hj
   simp at hj
   simp [← hj, List.getElem?_eq_getElem hjl]) (by
   intro u hu
   obtain ⟨q, _, hq⟩ := List.mem_map.1 hu
   rw [← hq]; rfl) (by unfold maxLen; omega) (by omega) hbase
  have h4 : w'.ownsRow B 3 1 v' (xs ++ l).length ((xs ++ l).map (Value.int .i64)) := by
   rw [List.length_append, List.map_append]
   exact h2
  obtain ⟨a', c', rfl⟩ : ∃ a' c', v' = .slice a' (xs ++ l).length c' := by
   rcases h4.2 with ⟨h5, h6⟩ | ⟨g, cap, cur, h5, _⟩
   ·exact ⟨none, 0, by rw [h5, h6]⟩
   ·exact ⟨_, cap, h5⟩
  refine ⟨a', c', w', h1, h4, (Below.refl _ _).grown h3 hbase fun k hk => ?_⟩
  cases a with
  | none => cases hk
  | some ad' =>
   have e : ad'.block = k := by
    cases ad'
    simpa [Value.ownBlock] using hk
   rw [← e]
   rcases hown.2 with ⟨h5, _⟩ | ⟨g, cap, cur, h5, h6, _⟩
   ·cases h5
   ·cases h5; exact h6
theorem ownJ_zero {w W : World} (h : w.alloc (.cells #[] 3) = W) : OwnJ W w.heap.size (some ⟨w.heap.size, 0, none⟩) 0 [] :=
 ⟨rfl, .inr ⟨w.heap.size, 0, #[], rfl, Nat.le_refl _, blk_nw h, Nat.le_refl _, by unfold maxLen; omega, rfl, rfl⟩⟩
theorem ownP_zero {w W : World} (h : w.alloc (.cells #[] 86) = W) : OwnP W w.heap.size (some ⟨w.heap.size, 0, none⟩) 0 [] :=
 ⟨rfl, .inr ⟨w.heap.size, 0, #[], rfl, Nat.le_refl _, blk_nw h, Nat.le_refl _, by unfold maxLen; omega, rfl, rfl⟩⟩
set_option maxRecDepth 100000 in
theorem eq_nilJ (a : Option Addr) (n c : Nat) (w : World) : (binOp .eql 24 (.slice a n c) (.slice none 0 0)).run Tryz.prog w = .ok (.bool a.isNone) w := by
 cases a <;> rfl
set_option maxRecDepth 100000 in
theorem eq_nilP (a : Option Addr) (n c : Nat) (w : World) : (binOp .eql 61 (.slice a n c) (.slice none 0 0)).run Tryz.prog w = .ok (.bool a.isNone) w := by
 cases a <;> rfl
set_option maxRecDepth 100000 in
set_option maxHeartbeats 4000000 in
theorem cloneJ_lk (a : Option Addr) (c : Nat) (l : List Int) (w : World) (h : RowI w a l) (hnil : a = none → c = 0 ∧ l = []) (hs : l.length ≤ 1000000) :
  Calls Tryz.prog 77 #[.slice a l.length c] w fun e w' => ∃ a' c', e = .returned (.slice a' l.length c') ∧ OwnJ w' w.heap.size a' c' l ∧ Below w.heap.size w w' := by
 cases a with
 | none =>
  obtain ⟨rfl, rfl⟩ := hnil rfl
  have hq := eq_nilJ none 0 0 w
  go_enter Tryz.func77, Tryz.ntmps77
  go_wp2
  go_ret
  exact ⟨none, 0, rfl, OwnJ.nil _ _, Below.refl _ _⟩
 | some x =>
  obtain ⟨W1, hW1⟩ : ∃ W1, w.alloc (.cells #[] 3) = W1 := ⟨_, rfl⟩
  have b1 := bel_nw hW1
  obtain ⟨a', c', W2, hrun, ho, hb⟩ := run_appJs W1 24 w.heap.size (some ⟨w.heap.size, 0, none⟩) 0 [] (ownJ_zero hW1) (some x) c l (h.below b1) (fun e => by cases e) (by simpa using hs) b1.size
  rw [List.nil_append] at hrun ho
  have HRr : Hid _ := hrun
  have HO : Hid (OwnJ W2 w.heap.size a' c' l) := ho
  have b2 : Below w.heap.size w W2 := b1.trans hb
  have hq := eq_nilJ (some x) l.length c w
  clear hrun ho hb h hnil
  go_enter Tryz.func77, Tryz.ntmps77
  go_wp2_with (refine wpList_rn rfl 24 _ _ rfl _ _ rfl rfl _ _ HRr.out ?_)
  go_ret
  exact ⟨a', c', rfl, HO.out, b2⟩
set_option maxRecDepth 100000 in
set_option maxHeartbeats 4000000 in
theorem cloneP_lk (a : Option Addr) (c : Nat) (l : List Pt) (w : World) (h : RowP w a l) (hl : 0 < l.length) (hs : l.length ≤ 1000000) :
  Calls Tryz.prog 78 #[.slice a l.length c] w fun e w' => ∃ g c', e = .returned (.slice (some ⟨g, 0, none⟩) l.length c') ∧ OwnP w' w.heap.size (some ⟨g, 0, none⟩) c' l ∧ Below w.heap.size w w' := by
 obtain ⟨p, hp⟩ : ∃ p, l[0]? = some p := ⟨_, List.getElem?_eq_getElem hl⟩
 obtain ⟨b, off, ha, _⟩ := h.at_ hp
 subst ha
 obtain ⟨W1, hW1⟩ : ∃ W1, w.alloc (.cells #[] 86) = W1 := ⟨_, rfl⟩
 have b1 := bel_nw hW1
 obtain ⟨a', c', W2, hrun, ho, hb⟩ := run_appPs W1 61 w.heap.size (some ⟨w.heap.size, 0, none⟩) 0 [] (ownP_zero hW1) (some ⟨b, off, none⟩) c l (h.low b1) (fun e => by cases e) (by simp; omega) b1.size
 rw [List.nil_append] at hrun ho
 obtain ⟨g, rfl⟩ := OwnP.at0 ho hl
 have HRr : Hid _ := hrun
 have HO : Hid (OwnP W2 w.heap.size (some ⟨g, 0, none⟩) c' l) := ho
 have b2 : Below w.heap.size w W2 := b1.trans hb
 have hq := eq_nilP (some ⟨b, off, none⟩) l.length c w
 clear hrun ho hb h hp
 go_enter Tryz.func78, Tryz.ntmps78
 go_wp2_with (refine wpList_rn rfl 61 _ _ rfl _ _ rfl rfl _ _ HRr.out ?_)
 go_ret
 exact ⟨g, c', rfl, HO.out, b2⟩
set_option maxRecDepth 100000 in
set_option maxHeartbeats 4000000 in
theorem copySets_lk (a : Option Addr) (c : Nat) (A : List (List Nat)) (vs0 : List Value) (B0 : Nat) (w : World) (h : SetsO w B0 a c A vs0) (hN : A.length ≤ 10000) (hA : ∀ s ∈ A, s.length ≤ 10000) :
  Calls Tryz.prog 79 #[.slice a A.length c] w fun e w' => ∃ a' c' vs, e = .returned (.slice a' A.length c') ∧ SetsO w' w.heap.size a' c' A vs ∧ Below w.heap.size w w' := by
 obtain ⟨i0, hi, hz0, hz1, hz2⟩ := info_parts info_ints
 have HR : Hid (SetsO w B0 a c A vs0) := h
 have HA : Hid (∀ s ∈ A, s.length ≤ 10000) := hA
 have KP : Hid (∀ (ai : Option Addr) (ci : Nat) (s : List Nat) W, OwnI W B0 ai ci s → s.length ≤ 10000 → Calls Tryz.prog 77 #[.slice ai s.length ci] W fun e w' => ∃ a c, e = .returned (.slice a s.length c) ∧ OwnI w' W.heap.size a c s ∧ Below W.heap.size W w') := fun ai ci s W ho hs => by
  have := cloneJ_lk ai ci (ints s) W (ho.row (by omega)) (fun e => by subst e; obtain ⟨h1, h2⟩ := OwnI.nil_of ho; exact ⟨h1, by rw [h2]; rfl⟩) (by rw [List.length_map]; omega)
  rw [List.length_map] at this
  refine this.mono ?_
  rintro e w' ⟨a', c', h1, h2, h3⟩
  exact ⟨a', c', h1, ownJ_of.1 h2, h3⟩
 obtain ⟨N, hN'⟩ : ∃ N, A.length = N := ⟨_, rfl⟩
 have HN : Hid (A.length = N) := hN'
 rw [hN'] at hN ⊢
 clear h hA hN'
 go_enter Tryz.func79, Tryz.ntmps79
 go_wp2_with (first | (at_make; refine wpList_make_full _ rfl _ _ 58 rfl w.heap.size 24 i0 (.slice none 0 0) 1 Tryz.underlying58 hi hz0 hz1 _ _ _ _ N rfl rfl (by first | rfl | omega) (by first | rfl | omega) (by rw [hz2]; omega) (by unfold maxLen; omega) (Nat.le_refl _) ?_; intro w1 ho1 hg1))
 have HO1 : Hid (SetsT w1 w.heap.size (some ⟨w.heap.size, 0, none⟩) N N 0 A) := ⟨_, ho1, fun i s hi => by omega⟩
 have b1 : Below w.heap.size w w1 := (Below.refl _ _).grown hg1 (Nat.le_refl _) (fun k hk => by cases hk)
 clear ho1 hg1 hi hz0 hz1 hz2
 go_wp2_with fail
 go_loopw [11] (fun i wr => ∃ (n : Nat), n ≤ N ∧ i = .int .i64 n ∧ Hid (SetsT wr w.heap.size (some ⟨w.heap.size, 0, none⟩) N N n A) ∧ Below w.heap.size w wr) (fun i _ => N - (intOf i).toNat)
 case atStart => exact ⟨0, Nat.zero_le _, rfl, HO1, b1⟩
 case round =>
  clear HO1 b1
  obtain ⟨n, hn, rfl, HO, bw⟩ := hrel
  by_cases hlt : n < N
  ·have ik : (n : Int) < (N : Int) := by omega
   have in0 : (0 : Int) ≤ (n : Int) := by omega
   have hw1 : IntKind.i64.wrap ((n : Int) + 1) = ((n + 1 : Nat) : Int) := by simp [IntKind.wrap, IntKind.bits, IntKind.signed]; omega
   obtain ⟨s, hs⟩ : ∃ s, A[n]? = some s := ⟨_, List.getElem?_eq_getElem (by rw [HN.out]; exact hlt)⟩
   have HSN : Hid (A[n]? = some s) := hs
   obtain ⟨b, off, ai, ci, ha, hc, hoi0⟩ := (HR.out.below bw).at_ hs
   have K : Hid _ := KP.out ai ci s wr hoi0 (HA.out s (List.mem_of_getElem? hs))
   obtain ⟨M, hM⟩ : ∃ M, s.length = M := ⟨_, rfl⟩
   have HM : Hid (s.length = M) := hM
   rw [hM] at K hc
   subst ha
   clear hs hM hoi0
   go_wp2_with fail
   refine Calls.mono K.out ?_
   rintro e W2 ⟨ai', ci', rfl, hoi, b2⟩
   have bw2 := bel_tr bw b2
   obtain ⟨cur, kb, hcur, hset⟩ := (HO.out.below b2).put hlt HSN.out (ownsRow_base hoi bw.size)
   rw [HM.out] at hset
   have HS' : Hid (SetsT (W2.setCell ⟨w.heap.size, n, none⟩ (.slice ai' M ci')) w.heap.size (some ⟨w.heap.size, 0, none⟩) N N (n + 1) A) := hset
   have kc := kb.cell n _ (Array.getElem?_eq_getElem hcur)
   have kf := kb.frozen n
   have bw3 : Below w.heap.size w (W2.setCell ⟨w.heap.size, n, none⟩ (.slice ai' M ci')) := bw2.setCell (Nat.le_refl _) _
   clear hoi hset K HO hc bw b2 bw2
   go_wp2
   exact ⟨⟨n + 1, by omega, by first | rfl | (congr 1), HS', bw3⟩, by simp only [intOf]; omega⟩
  ·have ik : ¬ (n : Int) < (N : Int) := by omega
   have hn' : n = N := by omega
   subst hn'
   obtain ⟨vs, hvs⟩ := SetsT.all HO.out HN.out
   clear HO
   go_wp2
   go_ret
   exact ⟨_, _, rfl, ⟨vs, hvs⟩, bw⟩
end Go.Proofs.YtmfgjicfdjjihaaGreatDoor
