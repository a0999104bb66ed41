/- Wheels in memory: the slots, and all together. -/
import Derived.Test.YtfcpjenlckkloaaWhB
namespace Go.Proofs.Ytfcpjenlckkloaa
open Go.RowKit
set_option linter.unusedVariables false
set_option linter.unusedSimpArgs false

/-- A slot: its memory, its room, its numbers. -/
structure Sl where
  a : Option Addr
  c : Nat
  ids : List Int
abbrev Sl.v (s : Sl) : Value := .slice s.a s.ids.length s.c
def nilSl : Sl := ⟨none, 0, []⟩
/-- The cells of a wheel. -/
def wc (now : Int) (m : Nat) (sl : List Sl) : Array Value := (.bool true :: .int .i64 now :: .map (some m) :: sl.map Sl.v).toArray
theorem wc_0 (now : Int) (m : Nat) (sl : List Sl) : (wc now m sl)[0]? = some (.bool true) := by simp [wc]
theorem wc_1 (now : Int) (m : Nat) (sl : List Sl) : (wc now m sl)[1]? = some (.int .i64 now) := by simp [wc]
theorem wc_2 (now : Int) (m : Nat) (sl : List Sl) : (wc now m sl)[2]? = some (.map (some m)) := by simp [wc]
theorem wc_3 (now : Int) (m : Nat) (sl : List Sl) {k : Nat} {s : Sl} (h : sl[k]? = some s) : (wc now m sl)[3 + k]? = some s.v := by
  rw [Nat.add_comm]
  simp [wc, h]
theorem wc_now (now to : Int) (m : Nat) (sl : List Sl) : (wc now m sl).setIfInBounds 1 (.int .i64 to) = wc to m sl := by simp [wc]
theorem wc_set (now : Int) (m : Nat) (sl : List Sl) (k : Nat) (s : Sl) : (wc now m sl).setIfInBounds (3 + k) s.v = wc now m (sl.set k s) := by
  rw [Nat.add_comm]
  simp [wc, List.map_set]
/-- A slot's memory is its own. -/
def Sl.own (w : World) (s : Sl) : Prop := w.ownsRow 0 3 1 s.v s.ids.length (s.ids.map (Value.int .i64))
theorem nilSl_own (w : World) : nilSl.own w := ⟨rfl, .inl ⟨rfl, rfl⟩⟩
/-- A slot's block. -/
def Sl.at_ (s : Sl) (k : Nat) : Prop := ∃ x, s.a = some x ∧ x.block = k
theorem Sl.own.cases {w : World} {s : Sl} (h : s.own w) : (s.a = none ∧ s.c = 0 ∧ s.ids = []) ∨ ∃ g cur, s.a = some ⟨g, 0, none⟩ ∧ w.heap[g]? = some (.cells cur 3 (0, 0)) ∧ s.ids.length ≤ s.c ∧ s.c ≤ maxLen ∧ cur.size = s.c ∧ cur.toList.take s.ids.length = s.ids.map (Value.int .i64) := by
  obtain ⟨h1, h2⟩ := h
  rcases h2 with ⟨h3, h4⟩ | ⟨g, cap, cur, h3, h4, h5, h6, h7, h8, h9⟩
  · simp only [Value.slice.injEq] at h3
    exact .inl ⟨h3.1, h3.2.2, List.eq_nil_of_length_eq_zero h4⟩
  · simp only [Value.slice.injEq] at h3
    refine .inr ⟨g, cur, h3.1, h5, by rw [h3.2.2]; exact h6, by rw [h3.2.2]; exact h7, by rw [h3.2.2]; simpa using h8, by simpa using h9⟩
theorem Sl.own.lt {w : World} {s : Sl} (h : s.own w) {k : Nat} (hk : s.at_ k) : k < w.heap.size := by
  obtain ⟨x, h1, rfl⟩ := hk
  rcases h.cases with ⟨h2, _⟩ | ⟨g, cur, h2, h3, _⟩
  · rw [h2] at h1; cases h1
  · rw [h2] at h1; cases h1
    exact (Array.getElem?_eq_some_iff.1 h3).1
theorem Sl.own.block {w w' : World} {s : Sl} (h : s.own w) (hb : ∀ k, s.at_ k → w'.heap[k]? = w.heap[k]?) : s.own w' := by
  obtain ⟨h1, h2⟩ := h
  refine ⟨h1, ?_⟩
  rcases h2 with h2 | ⟨g, cap, cur, h3, h4, h5, h6⟩
  · exact .inl h2
  · refine .inr ⟨g, cap, cur, h3, h4, ?_, h6⟩
    simp only [Value.slice.injEq] at h3
    exact (hb g ⟨_, h3.1, rfl⟩).trans h5
theorem Sl.own.but {F : Nat → Prop} {w w' : World} {s : Sl} (h : s.own w) (hb : But F w w') (hn : ∀ k, s.at_ k → ¬ F k) : s.own w' := h.block (fun k hk => hb.block k (h.lt hk) (hn k hk))
theorem Sl.own.ne_blk {w : World} {s : Sl} (h : s.own w) {g : Nat} {t : TypeId} {cs : Array Value} (hb : Blk w g t cs) (ht : 3 ≠ t) : ¬ s.at_ g := by
  rintro ⟨x, h1, e⟩
  rcases h.cases with ⟨h2, _⟩ | ⟨g', cur, h2, h3, _⟩
  · rw [h2] at h1; cases h1
  · rw [h2] at h1; cases h1
    simp only at e
    subst e
    have := h3.symm.trans hb
    simp at this
    exact ht this.2
theorem Sl.own.ne_map {w : World} {s : Sl} (h : s.own w) {m : Nat} {E : List M.Ent} (hb : MapT w m E) : ¬ s.at_ m := by
  rintro ⟨x, h1, e⟩
  obtain ⟨D, ⟨es, clock, hm, _⟩, _⟩ := hb.ex
  rcases h.cases with ⟨h2, _⟩ | ⟨g', cur, h2, h3, _⟩
  · rw [h2] at h1; cases h1
  · rw [h2] at h1; cases h1
    simp only at e
    subst e
    have := h3.symm.trans hm
    simp at this
/-- Two slots have no memory in common. -/
def Sl.apart (s s' : Sl) : Prop := ∀ k, s.at_ k → ¬ s'.at_ k
theorem nil_at (k : Nat) : ¬ nilSl.at_ k := by rintro ⟨x, h, _⟩; cases h

/-- A wheel in memory: its block, its map, its slots' values. -/
structure Wm (w : World) (g m : Nat) (now : Int) (E : List M.Ent) (sl : List Sl) : Prop where
  blk : Blk w g 57 (wc now m sl)
  map : MapT w m E
  len : sl.length = 704
  own : ∀ (k : Nat) (s : Sl), sl[k]? = some s → s.own w
  apart : ∀ (i j : Nat) (s s' : Sl), sl[i]? = some s → sl[j]? = some s' → i ≠ j → s.apart s'
  ok : M.Ok E
  few : E.length ≤ 1024
  now0 : 0 ≤ now
  now1 : now ≤ 4611686018427387904
/-- The blocks of a wheel. -/
def WF (g m : Nat) (sl : List Sl) (k : Nat) : Prop := k = g ∨ k = m ∨ ∃ (i : Nat) (s : Sl), sl[i]? = some s ∧ s.at_ k
theorem Wm.ne {w : World} {g m : Nat} {now : Int} {E : List M.Ent} {sl : List Sl} (h : Wm w g m now E sl) : g ≠ m := by
  obtain ⟨D, ⟨es, clock, hm, _⟩, _⟩ := h.map.ex
  intro e
  subst e
  have := h.blk.symm.trans hm
  simp at this
theorem Wm.lt {w : World} {g m : Nat} {now : Int} {E : List M.Ent} {sl : List Sl} (h : Wm w g m now E sl) {k : Nat} (hk : WF g m sl k) : k < w.heap.size := by
  rcases hk with rfl | rfl | ⟨i, s, h1, h2⟩
  · exact h.blk.lt
  · exact h.map.lt
  · exact (h.own i s h1).lt h2
theorem Wm.but {F : Nat → Prop} {w w' : World} {g m : Nat} {now : Int} {E : List M.Ent} {sl : List Sl} (h : Wm w g m now E sl) (hb : But F w w') (hn : ∀ k, WF g m sl k → ¬ F k) : Wm w' g m now E sl :=
  ⟨h.blk.but hb (hn g (.inl rfl)), h.map.but hb (hn m (.inr (.inl rfl))), h.len, fun k s hs => (h.own k s hs).but hb (fun j hj => hn j (.inr (.inr ⟨k, s, hs, hj⟩))), h.apart, h.ok, h.few, h.now0, h.now1⟩
theorem Wm.drew {w : World} {g m : Nat} {now : Int} {E : List M.Ent} {sl : List Sl} (h : Wm w g m now E sl) : Wm w.drew g m now E sl := h.but ((But.refl (fun _ => False) w).drew) (fun _ _ x => x)
theorem Wm.alloc {w : World} {g m : Nat} {now : Int} {E : List M.Ent} {sl : List Sl} (h : Wm w g m now E sl) (o : Obj) : Wm (w.alloc o) g m now E sl := h.but ((But.refl (fun _ => False) w).alloc o) (fun _ _ x => x)
theorem Wm.slotNe {w : World} {g m : Nat} {now : Int} {E : List M.Ent} {sl : List Sl} (h : Wm w g m now E sl) {i : Nat} {s : Sl} (hs : sl[i]? = some s) : ¬ s.at_ g ∧ ¬ s.at_ m :=
  ⟨(h.own i s hs).ne_blk h.blk (by decide), (h.own i s hs).ne_map h.map⟩
/-- The map turned. -/
theorem Wm.mapped {w w' : World} {g m : Nat} {now : Int} {E E' : List M.Ent} {sl : List Sl} (h : Wm w g m now E sl) (hm : MapT w' m E') (hb : But (fun k => k = m) w w') (ho : M.Ok E') (hf : E'.length ≤ 1024) : Wm w' g m now E' sl :=
  ⟨h.blk.but hb h.ne, hm, h.len, fun k s hs => (h.own k s hs).but hb (fun j hj e => (h.slotNe hs).2 (by rw [← e]; exact hj)), h.apart, ho, hf, h.now0, h.now1⟩
/-- A slot turned: its value stored behind its memory was written. W1: behind what turned the slot's own memory. -/
theorem Wm.slotted {w W1 : World} {g m : Nat} {now : Int} {E : List M.Ent} {sl : List Sl} (h : Wm w g m now E sl) {i : Nat} {s s' : Sl} (hs : sl[i]? = some s) (hb : But (fun k => s.at_ k) w W1) (ho : s'.own W1) (hat : ∀ k, s'.at_ k → s.at_ k ∨ w.heap.size ≤ k) :
    Wm (W1.setCell ⟨g, 3 + i, none⟩ s'.v) g m now E (sl.set i s') ∧ But (fun k => k = g ∨ s.at_ k) w (W1.setCell ⟨g, 3 + i, none⟩ s'.v) := by
  have hne := h.slotNe hs
  have b2 : But (fun k => k = g) W1 (W1.setCell ⟨g, 3 + i, none⟩ s'.v) := (But.refl (fun k => k = g) W1).setCell g (3 + i) (.inl rfl) _
  have hgB : Blk W1 g 57 (wc now m sl) := h.blk.but hb hne.1
  have hil : i < sl.length := (List.getElem?_eq_some_iff.1 hs).1
  refine ⟨⟨?_, (h.map.but hb hne.2).but b2 (fun e => h.ne e.symm), by simpa using h.len, fun k t ht => ?_, fun a b t u ht hu hab => ?_, h.ok, h.few, h.now0, h.now1⟩, ?_⟩
  · have := hgB.put (3 + i) s'.v
    rw [wc_set] at this
    exact this
  · rw [List.getElem?_set] at ht
    split at ht
    · rename_i e
      simp [hil] at ht
      have ht : s' = t := ht
      subst ht
      exact ho.but b2 (fun j hj e' => ho.ne_blk hgB (by decide) (by rw [← e']; exact hj))
    · rename_i e
      exact ((h.own k t ht).but hb (fun j hj hj' => h.apart k i t s ht hs (fun x => e x.symm) j hj hj')).but b2 (fun j hj e' => (h.slotNe ht).1 (by rw [← e']; exact hj))
  · have key : ∀ {a b : Nat} {t u : Sl}, sl[b]? = some u → b ≠ i → s'.apart u := fun {a b t u} hu hbi k hk hk' => by
      rcases hat k hk with x | x
      · exact h.apart i b s u hs hu (fun e => hbi e.symm) k x hk'
      · have := (h.own b u hu).lt hk'
        omega
    rw [List.getElem?_set] at ht hu
    split at ht <;> split at hu
    · omega
    · rename_i e1 e2
      simp [hil] at ht
      have ht : s' = t := ht
      subst ht
      exact key (a := 0) (t := s) hu (fun x => e2 x.symm)
    · rename_i e1 e2
      simp [hil] at hu
      have hu : s' = u := hu
      subst hu
      intro k hk hk'
      exact key (a := 0) (t := s) ht (fun x => e1 x.symm) k hk' hk
    · exact h.apart a b t u ht hu hab
  · exact (hb.mono (fun n _ x => .inr x)).trans b2 (fun n _ e => .inl e)
/-- The clock set. -/
theorem Wm.ticked {w : World} {g m : Nat} {now : Int} {E : List M.Ent} {sl : List Sl} (h : Wm w g m now E sl) {to : Int} (h0 : 0 ≤ to) (h1 : to ≤ 4611686018427387904) :
    Wm (w.setCell ⟨g, 1, none⟩ (.int .i64 to)) g m to E sl ∧ But (fun k => k = g) w (w.setCell ⟨g, 1, none⟩ (.int .i64 to)) := by
  have b2 : But (fun k => k = g) w (w.setCell ⟨g, 1, none⟩ (.int .i64 to)) := (But.refl (fun k => k = g) w).setCell g 1 (.inl rfl) _
  refine ⟨⟨?_, h.map.but b2 (fun e => h.ne e.symm), h.len, fun k s hs => (h.own k s hs).but b2 (fun j hj e => (h.slotNe hs).1 (by rw [← e]; exact hj)), h.apart, h.ok, h.few, h0, h1⟩, b2⟩
  have := h.blk.put 1 (.int .i64 to)
  rw [wc_now] at this
  exact this
/-- Which numbers are in which slot. -/
def In (now : Int) (A : Int → Int → Prop) (sl : List Sl) : Prop := ∀ (k : Nat) (s : Sl), sl[k]? = some s → s.ids.Nodup ∧ ∀ id, id ∈ s.ids ↔ ∃ t, A id t ∧ M.slot now t = k
/-- A wheel. -/
structure Whl (w : World) (g : Nat) (F : Nat → Prop) (now : Int) (E : List M.Ent) : Prop where
  ex : ∃ m sl, Wm w g m now E sl ∧ In now (fun id t => (id, t) ∈ E) sl ∧ ∀ k, WF g m sl k → F k
  lt : ∀ k, F k → k < w.heap.size
/-- The blocks of a wheel behind a call. -/
def nx (F : Nat → Prop) (w w' : World) (k : Nat) : Prop := F k ∨ (w.heap.size ≤ k ∧ k < w'.heap.size)
theorem Whl.but {F G : Nat → Prop} {w w' : World} {g : Nat} {now : Int} {E : List M.Ent} (h : Whl w g F now E) (hb : But G w w') (hn : ∀ k, F k → ¬ G k) : Whl w' g F now E := by
  obtain ⟨m, sl, h1, h2, h3⟩ := h.ex
  exact ⟨⟨m, sl, h1.but hb (fun k hk => hn k (h3 k hk)), h2, h3⟩, fun k hk => Nat.lt_of_lt_of_le (h.lt k hk) hb.size⟩
theorem Whl.below {F : Nat → Prop} {w w' : World} {g : Nat} {now : Int} {E : List M.Ent} (h : Whl w g F now E) (hb : Below w.heap.size w w') : Whl w' g F now E := h.but (But.of_below hb (fun _ => False)) (fun _ _ x => x)
/-- What a call leaves: the blocks of the wheel may be new ones. -/
theorem whl_mk {F : Nat → Prop} {w w' : World} {g m : Nat} {now : Int} {E : List M.Ent} {sl : List Sl} (h1 : Wm w' g m now E sl) (h2 : In now (fun id t => (id, t) ∈ E) sl) (h3 : ∀ k, WF g m sl k → F k ∨ w.heap.size ≤ k) (hF : ∀ k, F k → k < w.heap.size) (hs : w.heap.size ≤ w'.heap.size) : Whl w' g (nx F w w') now E :=
  ⟨⟨m, sl, h1, h2, fun k hk => by
    rcases h3 k hk with x | x
    · exact .inl x
    · exact .inr ⟨x, h1.lt hk⟩⟩, fun k hk => by
    rcases hk with x | x
    · exact Nat.lt_of_lt_of_le (hF k x) hs
    · exact x.2⟩
end Go.Proofs.Ytfcpjenlckkloaa
