/- takeOut. -/
import Derived.Test.YtfcpjenlckkloaaWhF
namespace Go.Proofs.Ytfcpjenlckkloaa
open Go.RowKit
set_option linter.unusedVariables false
set_option linter.unusedSimpArgs false

theorem idx_of {l : List Int} {id : Int} (h : id ∈ l) : ∃ i, i < l.length ∧ l.getD i 0 = id ∧ ∀ j, j < i → l.getD j 0 ≠ id := by
  induction l with
  | nil => simp at h
  | cons x l ih =>
    by_cases e : x = id
    · exact ⟨0, by simp, by simpa using e, fun j hj => by omega⟩
    · rcases List.mem_cons.1 h with h | h
      · exact absurd h.symm e
      · obtain ⟨i, h1, h2, h3⟩ := ih h
        refine ⟨i + 1, by simp; omega, by simpa using h2, fun j hj => ?_⟩
        cases j with
        | zero => simpa using e
        | succ j => simpa using h3 j (by omega)
/-- Without the number at the place i. -/
def less (l : List Int) (i : Nat) : List Int := l.take i ++ l.drop (i + 1)
theorem len_less {l : List Int} {i : Nat} (h : i < l.length) : (less l i).length = l.length - 1 := by
  unfold less
  simp
  omega
theorem split_at {l : List Int} {i : Nat} (h : i < l.length) : l = l.take i ++ l.getD i 0 :: l.drop (i + 1) := by
  have h1 := List.take_append_drop i l
  rw [List.drop_eq_getElem_cons h] at h1
  have h2 : l.getD i 0 = l[i] := by simp [h]
  rw [h2]
  exact h1.symm
theorem mem_less {l : List Int} (hn : l.Nodup) {i : Nat} (h : i < l.length) {x : Int} : x ∈ less l i ↔ x ∈ l ∧ x ≠ l.getD i 0 := by
  have hs := split_at h
  generalize l.getD i 0 = y at hs ⊢
  unfold less
  rw [hs] at hn
  have hm : x ∈ l ↔ x ∈ l.take i ∨ x = y ∨ x ∈ l.drop (i + 1) := by
    conv => lhs; rw [hs]
    simp
  rw [hm]
  obtain ⟨_, h2, h3⟩ := List.nodup_append.1 hn
  obtain ⟨h4, _⟩ := List.nodup_cons.1 h2
  simp only [List.mem_append]
  constructor
  · rintro (k | k)
    · exact ⟨.inl k, fun e => h3 x k y (by simp) e⟩
    · exact ⟨.inr (.inr k), fun e => h4 (e ▸ k)⟩
  · rintro ⟨k | k | k, e⟩
    · exact .inl k
    · exact absurd k e
    · exact .inr k
theorem nodup_less {l : List Int} (hn : l.Nodup) (i : Nat) : (less l i).Nodup := by
  unfold less
  have h1 : (l.take i ++ l.drop (i + 1)).Sublist l := by
    conv => rhs; rw [← List.take_append_drop i l]
    refine List.Sublist.append_left ?_ _
    rw [← List.drop_drop]
    exact List.drop_sublist _ _
  exact hn.sublist h1
theorem own_less {w : World} {s : Sl} (h : s.own w) {g : Nat} (ha : s.a = some ⟨g, 0, none⟩) {i : Nat} (hi : i < s.ids.length) (q : Nat) :
    Sl.own (Sort.putRow (Value.int .i64) (Sort.ahead w q) g 0 (s.ids.take i ++ s.ids.drop (i + 1) ++ List.replicate 1 0).toArray) ⟨s.a, s.c, less s.ids i⟩ := by
  rcases h.cases with ⟨h1, _⟩ | ⟨g', cur, h1, h2, h3, h4, h5, h6⟩
  · rw [h1] at ha; cases ha
  · rw [h1] at ha
    cases ha
    have hb := heap_sortedI (n := q) (os := #[]) (s.ids.take i ++ s.ids.drop (i + 1) ++ List.replicate 1 0).toArray h2
    rw [Sort.grow_empty] at hb
    have hl : (s.ids.take i ++ s.ids.drop (i + 1) ++ List.replicate 1 0).length = s.ids.length := by simp; omega
    have ht := take_putCellsI cur (s.ids.take i ++ s.ids.drop (i + 1) ++ List.replicate 1 0) (by omega)
    rw [hl] at ht
    have hll := len_less hi
    refine ⟨by simp, .inr ⟨g, s.c, _, by simp [Sl.v, h1], Nat.zero_le _, hb, ?_, h4, by simp [Sort.putCells, h5], ?_⟩⟩
    · show (less s.ids i).length ≤ s.c
      omega
    · show List.take ((less s.ids i).length * 1) _ = _
      have h7 := congrArg (List.take (less s.ids i).length) ht
      rw [List.take_take, Nat.min_eq_left (by omega)] at h7
      rw [Nat.mul_one, h7]
      show _ = (less s.ids i).map _
      rw [← List.map_take]
      have : (less s.ids i).length = (s.ids.take i ++ s.ids.drop (i + 1)).length := rfl
      rw [this, List.take_left']
      · rfl
      · rfl
theorem but_putRow (w : World) (g q : Nat) (d : Array Int) : But (fun k => k = g) w (Sort.putRow (Value.int .i64) (Sort.ahead w q) g 0 d) := by
  have := grownBy_sortedI (w := w) (g := g) (n := q) (os := #[]) d
  rw [Sort.grow_empty] at this
  exact (But.refl (fun k => k = g) w).grown this (fun n hn => by cases hn; exact .inl rfl)
set_option maxHeartbeats 4000000 in
theorem takeOut_any (w : World) (g m : Nat) (now : Int) (E : List M.Ent) (sl : List Sl) (h : Wm w g m now E sl) (id t : Int) (hi : In64 id) (ht : M.tm E id = some t) (s : Sl) (hs : sl[M.slot now t]? = some s) (hl : s.ids.length ≤ 1048576) (hm : id ∈ s.ids) :
    Calls Try.prog 29 #[.pointer (some ⟨g, 0, none⟩), .int .i64 id] w fun e w' => e = .returned (.tuple #[]) ∧ ∃ a c i, i < s.ids.length ∧ s.ids.getD i 0 = id ∧ Put w w' g m now E sl (M.slot now t) s ⟨a, c, less s.ids i⟩ := by
  have hb := h.ok.bnd _ ((h.ok.tm_iff id t).1 ht)
  have c1 := h.blk.cell 1 _ (wc_1 ..)
  have c2 := h.blk.cell 2 _ (wc_2 ..)
  have L := h.map.look1 hi
  rw [ht] at L
  simp only [Option.getD_some] at L
  have K := slot_any g now t w c1 h.now0 h.now1 hb.2.1
  have hd := h.drew
  obtain ⟨B, hB⟩ : ∃ B, M.slot now t = B := ⟨_, rfl⟩
  rw [hB] at hs K ⊢
  have c3 := hd.blk.cell (3 + B) _ (wc_3 now m sl hs)
  have o0 := hd.own B s hs
  have hsl := hd.slotNe hs
  obtain ⟨i, i1, i2, i3⟩ := idx_of hm
  rcases o0.cases with ⟨h1, h2, h3⟩ | ⟨gs, cur, h1, h2, h3, h4, h5, h6⟩
  · rw [h3] at hm; simp at hm
  have hH := holds_of_blockI h2 h6
  have kI := Try.slices_Index_int gs 0 s.ids.length s.c s.ids id w.drew (Nat.le_refl _) (by omega) (fun j hj => by
    have := (hH j (by simpa using hj)).1
    simpa [hj] using this)
  rw [Lib.idxOf_hit s.ids s.ids.length i id i1 (Nat.le_refl _) i2 i3] at kI
  have kD := Try.slices_Delete_int gs 0 s.c i (i + 1) s.ids w.drew hH h3 (by unfold maxLen at h4; omega) (by omega) (by omega)
  have e1 : i + 1 - i = 1 := by omega
  rw [e1] at kD
  have fin : Hid (∀ q, Put w ((Sort.putRow (Value.int .i64) (Sort.ahead w.drew q) gs 0 (s.ids.take i ++ s.ids.drop (i + 1) ++ List.replicate 1 0).toArray).setCell ⟨g, 3 + B, none⟩ (.slice (some ⟨gs, 0, none⟩) (s.ids.length - 1) s.c)) g m now E sl B s ⟨some ⟨gs, 0, none⟩, s.c, less s.ids i⟩ ∧
      (∃ v, (Sort.putRow (Value.int .i64) (Sort.ahead w.drew q) gs 0 (s.ids.take i ++ s.ids.drop (i + 1) ++ List.replicate 1 0).toArray).cell? ⟨g, 3 + B, none⟩ = some v) ∧ (Sort.putRow (Value.int .i64) (Sort.ahead w.drew q) gs 0 (s.ids.take i ++ s.ids.drop (i + 1) ++ List.replicate 1 0).toArray).frozen? ⟨g, 3 + B, none⟩ = false) := fun q => by
    have o := own_less o0 h1 i1 q
    rw [h1] at o
    have b0 : But (fun j => s.at_ j) w w.drew := (But.refl _ w).drew
    have b1 : But (fun j => s.at_ j) w.drew (Sort.putRow (Value.int .i64) (Sort.ahead w.drew q) gs 0 (s.ids.take i ++ s.ids.drop (i + 1) ++ List.replicate 1 0).toArray) := (but_putRow w.drew gs q _).mono (fun n _ e => ⟨_, h1, e.symm⟩)
    have hat : ∀ j, Sl.at_ ⟨some ⟨gs, 0, none⟩, s.c, less s.ids i⟩ j → s.at_ j ∨ w.heap.size ≤ j := by
      rintro j ⟨x, hx, rfl⟩
      cases hx
      exact .inl ⟨_, h1, rfl⟩
    have r := h.slotted hs (b0.trans b1 (fun _ _ x => x)) o hat
    have hv : Sl.v ⟨some ⟨gs, 0, none⟩, s.c, less s.ids i⟩ = .slice (some ⟨gs, 0, none⟩) (s.ids.length - 1) s.c := by simp [Sl.v, len_less i1]
    rw [hv] at r
    have hB2 := (hd.blk).but b1 hsl.1
    exact ⟨⟨r.1, r.2, hat⟩, ⟨_, hB2.cell (3 + B) _ (wc_3 now m sl hs)⟩, hB2.frozen _⟩
  have ci : s.v = .slice (some ⟨gs, 0, none⟩) s.ids.length s.c := by simp [Sl.v, h1]
  rw [ci] at c3
  have HB : Hid (M.slot now t = B) := hB
  have kD := hidW kD
  have kI := hidW kI
  have J2 : Hid (s.ids.getD i 0 = id) := i2
  have J1 : Hid (i < s.ids.length) := i1
  have wi : IntKind.i64.wrap ((i : Int) + 1) = (i : Int) + 1 := by rw [IntKind.wrap_i64]; omega
  clear hB h hb ht hH h1 h2 h3 h4 h5 h6 i3 hm o0 hsl ci
  generalize s.ids.length = n at *
  clear hd i1 i2
  go_enter Try.func29, Try.ntmps29
  go_wp2_with fail
  refine Calls.mono K ?_
  rintro e w' ⟨rfl, rfl⟩
  go_wp2_with fail
  refine Calls.mono kI.out ?_
  rintro e w' ⟨rfl, rfl⟩
  go_wp2_with fail
  refine Calls.mono kD.out ?_
  rintro e w' ⟨rfl, q, hq⟩
  obtain ⟨F1, ⟨v, F2⟩, F3⟩ := fin.out q
  rw [← hq] at F1 F2 F3
  have F1 := hidW F1
  clear hq kI kD fin
  go_wp2
  go_end0
  exact ⟨rfl, _, _, i, J1.out, J2.out, F1.out⟩
end Go.Proofs.Ytfcpjenlckkloaa
