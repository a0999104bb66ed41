/- Texts joined: CmQ CmR -/
import Derived.Test.YtcoldgpnkdallaaDoorRxa25
namespace Go.Proofs.YtcoldgpnkdallaaDoor
open Go.RowKit
set_option linter.unusedVariables false
set_option linter.unusedSimpArgs false
/-- append(v, x...) of sets. -/
theorem run_appSs (w : World) (ty : TypeId) (B : Nat) (a : Option Addr) (c n : Nat) (xs : List Value) (hown : w.ownsRow B 25 1 (.slice a n c) n xs) (b : Option Addr) (cc m : Nat) (l : List Value) (hm : l.length = m)
    (hrow : ∀ ad, b = some ad → ∀ (j : Nat) (u : Value), l[j]? = some u → w.cell? (ad.add j) = some u) (hone : ∀ u ∈ l, u.oneCell' = true) (hnil : b = none → cc = 0 ∧ l = [])
    (hsum : n + m ≤ 1000000) (hbase : B ≤ w.heap.size) :
    ∃ a' c' w', (Builtin.append_ #[45, 45] ty #[.slice a n c, .slice b m cc]).run Tryd.prog w = .ok (.slice a' (n + m) c') w' ∧ w'.ownsRow B 25 1 (.slice a' (n + m) c') (n + m) (xs ++ l) ∧ Below B w w' := by
  obtain ⟨i0, hi, hz0, hz1, hz2⟩ := info_parts info_ints
  cases b with
  | none =>
    obtain ⟨h1, h2⟩ := hnil rfl
    subst h2
    have hm' : m = 0 := by simpa using hm.symm
    subst hm'
    have := run_append_owned_none (P := Tryd.prog) (w := w) B 45 ty 25 i0 1 Tryd.underlying45 hi (.slice a n c) n xs hown
    rw [h1]
    exact ⟨a, c, w, by simpa using this, by simpa using hown, Below.refl _ _⟩
  | some ad =>
    obtain ⟨v', w', h1, h2, h3, _⟩ := run_append_own (P := Tryd.prog) w B 45 ty 25 i0 (.slice none 0 0) 1 24 Tryd.underlying45 hi hz0 hz1 hz2 rfl (by decide) (.slice a n c) n xs hown ad m cc l (by omega) (hrow ad rfl) hone (by unfold maxLen; omega) (by omega) hbase
    obtain ⟨a', c', rfl⟩ : ∃ a' c', v' = .slice a' (n + m) c' := by
      rcases h2.2 with ⟨h5, h6⟩ | ⟨g, cap, cur, h5, _⟩
      · exact ⟨none, 0, by rw [h5, h6]⟩
      · exact ⟨_, cap, h5⟩
    refine ⟨a', c', w', h1, h2, (Below.refl _ _).grown h3 hbase fun k hk => ?_⟩
    obtain ⟨q1, q2⟩ := hown
    rcases q2 with ⟨q2, _⟩ | ⟨g', cap', cur, q3, q4, q5, q6⟩
    · cases q2
      cases hk
    · cases q3
      cases hk
      exact q4
/-- The inner slices' blocks lie apart from one. -/
def Apt (x : Option Nat) (vs : List Value) : Prop := ∀ v ∈ vs, ∀ (ai : Addr) (n ci : Nat), v = Value.slice (some ai) n ci → x ≠ some ai.block
theorem Apt.nil (x : Option Nat) : Apt x [] := fun v hv => by cases hv
theorem Apt.more {x : Option Nat} {vs : List Value} {v : Value} (h : Apt x vs) (hv : Apt x [v]) : Apt x (vs ++ [v]) := fun u hu => by
  rcases List.mem_append.1 hu with hu | hu
  · exact h u hu
  · exact hv u hu
theorem SetsO.cells {w : World} {B : Nat} {a : Option Addr} {c : Nat} {S : List (List Nat)} {vs : List Value} (h : SetsO w B a c S vs) : vs.length = S.length ∧ (∀ ad, a = some ad → ∀ (j : Nat) (u : Value), vs[j]? = some u → w.cell? (ad.add j) = some u) ∧ (∀ u ∈ vs, u.oneCell' = true) ∧ (a = none → c = 0 ∧ vs = []) := by
  obtain ⟨r1, r2⟩ := h.row
  have hvl : vs.length = S.length := by omega
  refine ⟨hvl, ?_, ?_, ?_⟩
  · rintro ad rfl j u hj
    rcases r2 with ⟨r3, r4⟩ | ⟨g, cap, cur, r3, r4, r5, r6, r7, r8, r9⟩
    · cases r3
    · simp only [Value.slice.injEq, Option.some.injEq] at r3
      obtain ⟨rfl, _, rfl⟩ := r3
      have hb : Blk w g 25 cur := r5
      have hjl : j < S.length := by
        have := (List.getElem?_eq_some_iff.1 hj).1
        omega
      rw [show (⟨g, 0, none⟩ : Addr).add j = ⟨g, 0 + j, none⟩ from Go.WideShapes.add_plain ..]
      refine hb.cell _ _ ?_
      rw [Nat.zero_add]
      have h11 : (cur.toList.take (S.length * 1))[j]? = vs[j]? := by rw [r9]
      rw [List.getElem?_take_of_lt (by omega), Array.getElem?_toList] at h11
      rw [h11, hj]
  · intro u hu
    obtain ⟨i, hi⟩ := List.getElem?_of_mem hu
    obtain ⟨s, hs⟩ : ∃ s, S[i]? = some s := ⟨_, List.getElem?_eq_getElem (by have := (List.getElem?_eq_some_iff.1 hi).1; omega)⟩
    obtain ⟨ai, ci, h1, h2⟩ := h.each i s hs
    rw [hi] at h1
    cases h1
    rfl
  · rintro rfl
    rcases r2 with ⟨r3, r4⟩ | ⟨g, cap, cur, r3, r4, r5, r6, r7, r8, r9⟩
    · simp only [Value.slice.injEq] at r3
      refine ⟨r3.2.2, ?_⟩
      rw [← List.length_eq_zero_iff]
      omega
    · cases r3
theorem ownsRow_base {w : World} {B B' : Nat} {t : TypeId} {k n : Nat} {v : Value} {xs : List Value} (h : w.ownsRow B t k v n xs) (hb : B' ≤ B) : w.ownsRow B' t k v n xs := by
  obtain ⟨h1, h2⟩ := h
  refine ⟨h1, ?_⟩
  rcases h2 with h2 | ⟨g, cap, cur, h3, h4, h5, h6⟩
  · exact .inl h2
  · exact .inr ⟨g, cap, cur, h3, Nat.le_trans hb h4, h5, h6⟩
theorem SetsO.copied {w w' : World} {B : Nat} {sa : Option Addr} {sc : Nat} {S : List (List Nat)} {vs : List Value} {a' : Option Addr} {c' : Nat} {s : List Nat} {ya : Option Addr} {yc : Nat} (h : SetsO w B sa sc S vs) (hb : Below w.heap.size w w') (hrow : w'.ownsRow B 25 1 (.slice a' (S.length + 1) c') (S.length + 1) (vs ++ [.slice ya s.length yc])) (hy : OwnI w B ya yc s) : SetsO w' B a' c' (S ++ [s]) (vs ++ [.slice ya s.length yc]) := by
  have hvl : vs.length = S.length := h.cells.1
  refine ⟨by simpa using hrow, fun i t ht => ?_⟩
  by_cases e : i < S.length
  · rw [List.getElem?_append_left e] at ht
    obtain ⟨ai, ci, h1, h2⟩ := h.each i t ht
    exact ⟨ai, ci, by rw [List.getElem?_append_left (by omega)]; exact h1, h2.below hb⟩
  · have e' : i = S.length := by
      have := (List.getElem?_eq_some_iff.1 ht).1
      simp at this
      omega
    subst e'
    rw [List.getElem?_append_right (Nat.le_refl _)] at ht
    simp at ht
    subst ht
    exact ⟨ya, yc, by rw [List.getElem?_append_right (by omega), hvl]; simp, hy.below hb⟩
theorem find_at {S : List (List Nat)} {s t : List Nat} {k : Nat} (hk : S[k]? = some t) (ht : t = s) (hb : ∀ (j : Nat) (q : List Nat), j < k → S[j]? = some q → q ≠ s) : S.findIdx? (· == s) = some k := by
  rw [List.findIdx?_eq_some_iff_getElem]
  obtain ⟨h1, h2⟩ := List.getElem?_eq_some_iff.1 hk
  refine ⟨h1, by simp [h2, ht], fun j hj => ?_⟩
  have := hb j _ hj (List.getElem?_eq_getElem (by omega))
  simpa using this
theorem find_no {S : List (List Nat)} {s : List Nat} (hb : ∀ (j : Nat) (q : List Nat), j < S.length → S[j]? = some q → q ≠ s) : S.findIdx? (· == s) = none := by
  rw [List.findIdx?_eq_none_iff]
  intro x hx
  obtain ⟨j, hj⟩ := List.getElem?_of_mem hx
  have := hb j x (List.getElem?_eq_some_iff.1 hj).1 hj
  simpa using this
set_option maxRecDepth 100000 in
set_option maxHeartbeats 8000000 in
theorem rput_any (B : Nat) (sa : Option Addr) (sc : Nat) (S : List (List Nat)) (vs : List Value) (ya : Option Addr) (yc : Nat) (s : List Nat) (w : World) (hB : B ≤ w.heap.size) (h : SetsO w B sa sc S vs) (hy : OwnI w B ya yc s) (hl : S.length ≤ 100000) (hs : ∀ t ∈ S, t.length ≤ 1000) (hsl : s.length ≤ 1000) :
    Calls Tryd.prog 30 #[.slice sa S.length sc, .slice ya s.length yc] w fun e w' => ∃ sa' sc' vs', e = .returned (.tuple #[.int .i64 (putN S s : Nat), .slice sa' (putS S s).length sc']) ∧ SetsO w' B sa' sc' (putS S s) vs' ∧ (∀ v ∈ vs', v ∈ vs ∨ v = Value.slice ya s.length yc) ∧ Below w.heap.size w w' := by
  have KS : Hid (∀ (W : World) (a b : Option Addr) (c d : Nat) (x y : List Nat), RowI W a (ints x) → RowI W b (ints y) → Calls Tryd.prog 20 #[.slice a x.length c, .slice b y.length d] W fun e w' => e = .returned (.bool (decide (x = y))) ∧ Below W.heap.size W w') := fun W a b c d x y h h' => by
    have K := sameI_any a b c d (ints x) (ints y) W h h'
    rw [List.length_map, List.length_map, show decide (ints x = ints y) = decide (x = y) from decide_eq_decide.2 ⟨ints_inj, fun h => by rw [h]⟩] at K
    exact K.mono (by rintro e w' ⟨rfl, n, rfl⟩; exact ⟨rfl, below_drewN (Below.refl _ _) n⟩)
  have HRS : Hid (RowS w sa (S.map ints)) := h.rows (by omega) (fun t ht => by have := hs t ht; omega)
  have HRY : Hid (RowI w ya (ints s)) := hy.row (by omega)
  have HB : Hid (B ≤ w.heap.size) := hB
  have HSO : Hid (SetsO w B sa sc S vs) := h
  have HOY : Hid (OwnI w B ya yc s) := hy
  obtain ⟨N, hN⟩ : ∃ N, S.length = N := ⟨_, rfl⟩
  have HN : Hid (S.length = N) := hN
  obtain ⟨M, hM⟩ : ∃ M, s.length = M := ⟨_, rfl⟩
  have HM : Hid (s.length = M) := hM
  rw [hN, hM]
  rw [hN] at hl
  clear h hy hs hsl hN hM hB
  go_enter Tryd.func30, Tryd.ntmps30
  go_wp2_with fail
  go_loopw [6] (fun i wr => ∃ (k : Nat), k ≤ N ∧ i = .int .i64 k ∧ Below w.heap.size w wr ∧ Hid (∀ (j : Nat) (t : List Nat), j < k → S[j]? = some t → t ≠ s)) (fun i _ => N - (intOf i).toNat)
  case atStart => exact ⟨0, Nat.zero_le _, rfl, Below.refl _ _, fun j p hj => by omega⟩
  case round =>
    obtain ⟨k, hk, rfl, qb, qe⟩ := hrel
    by_cases hlt : k < N
    · have ik : (k : Int) < (N : Int) := by omega
      obtain ⟨t, ht⟩ : ∃ t, S[k]? = some t := ⟨_, List.getElem?_eq_getElem (by rw [HN.out]; exact hlt)⟩
      obtain ⟨b, off, ai, ci, ha, d0, hri⟩ := (HRS.out.below qb).cells k (ints t) (by rw [List.getElem?_map, ht]; rfl)
      have KK : Hid _ := KS.out wr ai ya ci yc t s hri (HRY.out.below qb)
      have HTK : Hid (S[k]? = some t) := ht
      have hw2 : IntKind.i64.wrap ((k : Int) + 1) = ((k + 1 : Nat) : Int) := by simp [IntKind.wrap, IntKind.bits, IntKind.signed]; omega
      subst ha
      clear ht hri
      rw [List.length_map] at d0
      rw [HM.out] at KK
      obtain ⟨n, hn⟩ : ∃ n, t.length = n := ⟨_, rfl⟩
      rw [hn] at KK d0
      clear hn
      go_wp2_with fail
      refine Calls.mono KK.out ?_
      rintro e W2 ⟨rfl, bb⟩
      have b2 := bel_tr qb bb
      clear KK bb d0 qb
      by_cases hts : t = s
      · have HF : Hid (S.findIdx? (· == s) = some k) := find_at HTK.out hts qe.out
        have hd : decide (t = s) = true := by simp [hts]
        rw [hd]
        clear qe hd hts
        go_wp2
        obtain ⟨_, i2, i3, _⟩ := ix_some HF.out
        refine bodyPost_ret (v := .tuple #[.int .i64 k, .slice (some ⟨b, off, none⟩) N sc]) (by simp [results, Tryd.results30, go_sem]) rfl ⟨some ⟨b, off, none⟩, sc, vs, ?_, ?_, fun v hv => .inl hv, b2⟩
        · rw [i2, i3, HN.out]
        · rw [i3]; exact HSO.out.below b2
      · have hd : decide (t = s) = false := by simp [hts]
        have HN' : Hid (∀ (j : Nat) (q : List Nat), j < k + 1 → S[j]? = some q → q ≠ s) := fun j q hj hq => by
          by_cases e : j = k
          · subst e
            rw [HTK.out] at hq
            cases hq
            exact hts
          · exact qe.out j q (by omega) hq
        rw [hd]
        clear qe hd hts
        go_wp2
        exact ⟨⟨k + 1, by omega, by first | rfl | (congr 1), b2, HN'⟩, by simp only [intOf]; omega⟩
    · have ik : ¬ (k : Int) < (N : Int) := by omega
      have HF : Hid (S.findIdx? (· == s) = none) := find_no (fun j q hj hq => qe.out j q (by have := HN.out; omega) hq)
      clear qe
      have HSW : Hid (SetsO wr B sa sc S vs) := HSO.out.below qb
      have HOW : Hid (OwnI wr B ya yc s) := HOY.out.below qb
      obtain ⟨cl, cc, co, cn⟩ := HSW.out.cells
      rw [HN.out] at cl
      obtain ⟨a3, c3, X1, hr1, O3, h1⟩ := run_appSs wr 45 wr.heap.size none 0 0 [] (World.ownsRow_nil _ _ _ _) sa sc N vs cl cc co cn (by omega) (Nat.le_refl _)
      rw [Nat.zero_add] at hr1 O3
      rw [List.nil_append] at O3
      obtain ⟨X2, hX2⟩ : ∃ X2, X1.alloc (.cells #[.slice ya M yc] 25) = X2 := ⟨_, rfl⟩
      have h2 : Below wr.heap.size wr X2 := bel_al h1 hX2
      have O3' := ownsRow_low O3 (bel_nw hX2)
      obtain ⟨a4, c4, X3, hr2, O4, h23⟩ := run_appSs X2 45 wr.heap.size a3 c3 N vs O3' (some ⟨X1.heap.size, 0, none⟩) 1 1 [.slice ya M yc] rfl (fun ad had j u hj => by
        cases had
        have hj0 : j = 0 := by
          have := (List.getElem?_eq_some_iff.1 hj).1
          simp at this; omega
        subst hj0
        simp only [List.getElem?_cons_zero, Option.some.injEq] at hj
        subst hj
        rw [show (⟨X1.heap.size, 0, none⟩ : Addr).add 0 = ⟨X1.heap.size, 0, none⟩ from rfl]
        exact (blk_nw hX2).cell 0 _ rfl) (fun u hu => by simp at hu; rw [hu]; rfl) (by intro h; cases h) (by omega) h2.size
      have h3 : Below wr.heap.size wr X3 := h2.trans h23
      have HSN : Hid (SetsO X3 B a4 c4 (S ++ [s]) (vs ++ [.slice ya s.length yc])) := HSW.out.copied h3 (by rw [HN.out, HM.out]; exact ownsRow_base O4 (Nat.le_trans HB.out qb.size)) HOW.out
      have b3 := bel_tr qb h3
      clear O3 O3' O4 h1 h2 h23 h3 cl cc co cn
      go_wp2_with (first
        | (refine wpList_runA rfl 45 _ _ rfl _ _ (by rfl) (by rfl) _ _ hr1 ?_)
        | (refine wpList_runA rfl 45 _ _ rfl _ _ (by rfl) (by rfl) _ _ hr2 ?_))
      obtain ⟨_, i2, i3⟩ := ix_none HF.out
      refine bodyPost_ret (v := .tuple #[.int .i64 N, .slice a4 (N + 1) c4]) (by simp [results, Tryd.results30, go_sem]) rfl ⟨a4, c4, ?_, vs ++ [.slice ya s.length yc], by rw [i3]; exact HSN.out, fun v hv => ?_, b3⟩
      · rw [i2, i3, List.length_append, HN.out]; rfl
      · rcases List.mem_append.1 hv with hv | hv
        · exact .inl hv
        · right
          rw [← HM.out]
          simpa using hv
end Go.Proofs.YtcoldgpnkdallaaDoor
