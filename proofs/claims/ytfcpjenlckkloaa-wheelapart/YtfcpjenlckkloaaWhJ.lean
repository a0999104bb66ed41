/- append of a slice of numbers to one's own; slots that are emptied one by one. -/
import Derived.Test.YtfcpjenlckkloaaWhI
import Derived.Maps.AppendAt
namespace Go.Proofs.Ytfcpjenlckkloaa
open Go.RowKit
set_option linter.unusedVariables false
set_option linter.unusedSimpArgs false

theorem ownBlock_at {s : Sl} {k : Nat} : s.v.ownBlock = some k ↔ s.at_ k := by
  obtain ⟨a, c, l⟩ := s
  cases a with
  | none => simp [Sl.v, Value.ownBlock, Sl.at_]
  | some x => simp [Sl.v, Value.ownBlock, Sl.at_]
theorem own_sl {w : World} {v : Value} {l : List Int} (h : w.ownsRow 0 3 1 v l.length (l.map (Value.int .i64))) : ∃ a c, v = Sl.v ⟨a, c, l⟩ ∧ Sl.own w ⟨a, c, l⟩ := by
  rcases h.2 with ⟨h3, h4⟩ | ⟨g, cap, cur, h3, _⟩
  · refine ⟨none, 0, ?_, ?_⟩
    · show v = .slice none l.length 0
      rw [h4]; exact h3
    · show w.ownsRow 0 _ 1 (.slice none l.length 0) _ _
      rw [h3] at h
      rw [h4] at h ⊢
      exact h
  · refine ⟨_, cap, h3, ?_⟩
    rw [h3] at h
    exact h
theorem run_app (w : World) (ty : TypeId) (O S : Sl) (hO : O.own w) (hS : S.own w) (hl : O.ids.length + S.ids.length ≤ 1048576) :
    ∃ (O' : Sl) (w' : World), (Builtin.append_ #[39, 39] ty #[O.v, S.v]).run Try.prog w = .ok O'.v w' ∧ O'.ids = O.ids ++ S.ids ∧ O'.own w' ∧ But (fun k => O.at_ k) w w' ∧ ∀ k, O'.at_ k → O.at_ k ∨ w.heap.size ≤ k := by
  obtain ⟨i0, hi, hz0, hz1, hz2⟩ := infoParts info_i64
  rcases hS.cases with ⟨h1, h2, h3⟩ | ⟨gs, cur, h1, h2, h3, h4, h5, h6⟩
  · refine ⟨O, w, ?_, by simp [h3], hO, But.refl _ _, fun k hk => .inl hk⟩
    have hv : S.v = .slice none 0 0 := by simp [Sl.v, h1, h2, h3]
    rw [hv]
    exact run_append_owned_none (P := Try.prog) (w := w) 0 39 ty 3 i0 1 Try.underlying39 hi O.v O.ids.length (O.ids.map (Value.int .i64)) hO
  · have hH := holds_of_blockI h2 h6
    obtain ⟨v', w', r1, r2, r3, _, r5⟩ := run_append_own_at (P := Try.prog) w 0 39 ty 3 i0 (.int .i64 0) 1 8 Try.underlying39 hi hz0 hz1 hz2 rfl (by decide) O.v O.ids.length (O.ids.map (Value.int .i64)) hO ⟨gs, 0, none⟩ S.ids.length S.c (S.ids.map (Value.int .i64)) (by simp) (fun j u hj => by
      have hjl : j < S.ids.length := by
        have := (List.getElem?_eq_some_iff.1 hj).1
        simpa using this
      have e1 : Addr.add ⟨gs, 0, none⟩ j = ⟨gs, 0 + j, none⟩ := Go.WideShapes.add_plain ..
      rw [e1, (hH j (by simpa using hjl)).1]
      rw [← hj]
      simp [hjl]) (fun u hu => by
        obtain ⟨y, _, rfl⟩ := List.mem_map.1 hu
        rfl) (by unfold maxLen; omega) (by omega) (by omega)
    have r2' : w'.ownsRow 0 3 1 v' (O.ids ++ S.ids).length ((O.ids ++ S.ids).map (Value.int .i64)) := by simpa using r2
    obtain ⟨a, c, rfl, ho⟩ := own_sl r2'
    have hv : S.v = .slice (some ⟨gs, 0, none⟩) S.ids.length S.c := by simp [Sl.v, h1]
    refine ⟨⟨a, c, O.ids ++ S.ids⟩, w', by rw [hv]; exact r1, rfl, ho, (But.refl _ _).grown r3 (fun n hn => .inl (ownBlock_at.1 hn)), fun k hk => ?_⟩
    have hk' := ownBlock_at.2 hk
    rcases r5 with e | e
    · rw [e] at hk'; exact .inl (ownBlock_at.1 hk')
    · rw [e] at hk'
      cases hk'
      exact .inr (Nat.le_refl _)
/-- Slots of which the first p are empty. -/
def nilTo (sl : List Sl) (p : Nat) : List Sl := List.replicate p nilSl ++ sl.drop p
theorem nilTo_0 (sl : List Sl) : nilTo sl 0 = sl := by simp [nilTo]
theorem nilTo_len {sl : List Sl} {p : Nat} (hp : p ≤ sl.length) : (nilTo sl p).length = sl.length := by simp [nilTo]; omega
theorem nilTo_ge {sl : List Sl} {p k : Nat} (hk : p ≤ k) : (nilTo sl p)[k]? = sl[k]? := by
  unfold nilTo
  rw [List.getElem?_append_right (by simpa using hk)]
  simp only [List.length_replicate, List.getElem?_drop]
  congr 1
  omega
theorem nilTo_lt {sl : List Sl} {p k : Nat} (hk : k < p) : (nilTo sl p)[k]? = some nilSl := by
  unfold nilTo
  rw [List.getElem?_append_left (by simpa using hk)]
  simp [hk]
theorem nilTo_set {sl : List Sl} {p : Nat} (hp : p < sl.length) : (nilTo sl p).set p nilSl = nilTo sl (p + 1) := by
  apply List.ext_getElem?
  intro k
  rw [List.getElem?_set]
  have hl := nilTo_len (sl := sl) (p := p) (by omega)
  rcases Nat.lt_trichotomy p k with h | h | h
  · rw [if_neg (by omega), nilTo_ge (by omega), nilTo_ge (by omega)]
  · subst h
    rw [if_pos rfl, hl, if_pos hp, nilTo_lt (by omega)]
  · rw [if_neg (by omega), nilTo_lt h, nilTo_lt (by omega)]
/-- The numbers of the first p slots. -/
def cat (sl : List Sl) (p : Nat) : List Int := (sl.take p).flatMap (·.ids)
theorem cat_0 (sl : List Sl) : cat sl 0 = [] := rfl
theorem cat_succ {sl : List Sl} {p : Nat} {s : Sl} (h : sl[p]? = some s) : cat sl (p + 1) = cat sl p ++ s.ids := by
  unfold cat
  rw [List.take_add_one, h]
  simp
theorem mem_cat {sl : List Sl} {p : Nat} {x : Int} : x ∈ cat sl p ↔ ∃ (k : Nat) (s : Sl), k < p ∧ sl[k]? = some s ∧ x ∈ s.ids := by
  unfold cat
  rw [List.mem_flatMap]
  constructor
  · rintro ⟨s, h1, h2⟩
    obtain ⟨k, hk⟩ := List.mem_iff_getElem?.1 h1
    rw [List.getElem?_take] at hk
    split at hk
    · exact ⟨k, s, by assumption, hk, h2⟩
    · cases hk
  · rintro ⟨k, s, h1, h2, h3⟩
    refine ⟨s, List.mem_iff_getElem?.2 ⟨k, ?_⟩, h3⟩
    rw [List.getElem?_take, if_pos h1, h2]
theorem nodup_cat {now : Int} {A : Int → Int → Prop} {sl : List Sl} (h : In now A sl) (hf : ∀ x t u, A x t → A x u → t = u) : ∀ p, (cat sl p).Nodup
  | 0 => by simp [cat_0]
  | p + 1 => by
    cases hs : sl[p]? with
    | none =>
      have : cat sl (p + 1) = cat sl p := by
        unfold cat
        rw [List.take_add_one, hs]
        simp
      rw [this]
      exact nodup_cat h hf p
    | some s =>
      rw [cat_succ hs]
      refine List.nodup_append.2 ⟨nodup_cat h hf p, (h p s hs).1, fun x hx y hy e => ?_⟩
      subst e
      obtain ⟨k, s', h1, h2, h3⟩ := mem_cat.1 hx
      obtain ⟨t, a1, a2⟩ := ((h k s' h2).2 x).1 h3
      obtain ⟨u, b1, b2⟩ := ((h p s hs).2 x).1 hy
      have := hf x t u a1 b1
      subst this
      omega
/-- What empty has come to behind p slots. -/
structure Emp (w wr : World) (g m : Nat) (now : Int) (E : List M.Ent) (sl : List Sl) (p : Nat) (O : Sl) : Prop where
  wm : Wm wr g m now E (nilTo sl p)
  own : O.own wr
  new : ∀ k, O.at_ k → w.heap.size ≤ k
  ids : O.ids = cat sl p
  but : But (fun k => k = g) w wr
theorem Emp.start {w : World} {g m : Nat} {now : Int} {E : List M.Ent} {sl : List Sl} (h : Wm w g m now E sl) : Emp w w g m now E sl 0 nilSl :=
  ⟨by rw [nilTo_0]; exact h, nilSl_own _, fun k hk => absurd hk (nil_at k), rfl, But.refl _ _⟩
theorem Emp.step {w wr : World} {g m : Nat} {now : Int} {E : List M.Ent} {sl : List Sl} {p : Nat} {O : Sl} (h0 : Wm w g m now E sl) (hb : ∀ q, (cat sl q).length ≤ 1048576) (h : Emp w wr g m now E sl p O) {s : Sl} (hs : sl[p]? = some s) :
    wr.cell? ⟨g, 3 + p, none⟩ = some s.v ∧ ∀ ty, ∃ (O' : Sl) (w' : World), (Builtin.append_ #[39, 39] ty #[O.v, s.v]).run Try.prog wr = .ok O'.v w' ∧ (∃ u, w'.cell? ⟨g, 3 + p, none⟩ = some u) ∧ w'.frozen? ⟨g, 3 + p, none⟩ = false ∧ Emp w (w'.setCell ⟨g, 3 + p, none⟩ (.slice none 0 0)) g m now E sl (p + 1) O' := by
  have hp : p < sl.length := (List.getElem?_eq_some_iff.1 hs).1
  have hs' : (nilTo sl p)[p]? = some s := by rw [nilTo_ge (Nat.le_refl _)]; exact hs
  have hc := cat_succ hs
  have hbd := hb (p + 1)
  rw [hc, List.length_append, ← h.ids] at hbd
  refine ⟨h.wm.blk.cell (3 + p) _ (wc_3 _ _ _ hs'), fun ty => ?_⟩
  obtain ⟨O', w', r1, r2, r3, r4, r5⟩ := run_app wr ty O s h.own (h.wm.own p s hs') hbd
  have hlt : ∀ k, WF g m (nilTo sl p) k → k < w.heap.size := fun k hk => by
    rcases hk with e | e | ⟨i, t, h1, h2⟩
    · rw [e]; exact h0.blk.lt
    · rw [e]; exact h0.map.lt
    · rcases Nat.lt_or_ge i p with x | x
      · rw [nilTo_lt x] at h1
        cases h1
        exact absurd h2 (nil_at k)
      · rw [nilTo_ge x] at h1
        exact (h0.own i t h1).lt h2
  have w1 := h.wm.but r4 (fun k hk hk' => by
    have := hlt k hk
    have := h.new k hk'
    omega)
  obtain ⟨k1, k2⟩ := w1.slotted (s' := nilSl) hs' (But.refl _ _) (nilSl_own _) (fun k hk => absurd hk (nil_at k))
  have hO' : ∀ k, O'.at_ k → w.heap.size ≤ k := fun k hk => by
    rcases r5 k hk with x | x
    · exact h.new k x
    · exact Nat.le_trans h.but.size x
  have hgl := h0.blk.lt
  rw [nilTo_set hp] at k1
  refine ⟨O', w', r1, ⟨_, w1.blk.cell (3 + p) _ (wc_3 _ _ _ hs')⟩, w1.blk.frozen _, k1, ?_, hO', by rw [r2, h.ids, hc], ?_⟩
  · exact r3.but ((But.refl (fun k => k = g) w').setCell g (3 + p) (.inl rfl) _) (fun k hk e => by
      have := hO' k hk
      omega)
  · refine (h.but.trans (F' := fun k => O.at_ k) r4 (fun n hn hk => ?_)).setCell g (3 + p) (.inl rfl) _
    have := h.new n hk
    omega
end Go.Proofs.Ytfcpjenlckkloaa
