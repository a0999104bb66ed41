/- Texts joined: FgI FgJ -/
import Derived.Test.YtbghilihccaaaaaTwz11
import Derived.Deep.AppendLies
namespace Go.Proofs.Ytbghilihccaaaaa
open Go.RowKit
set_option linter.unusedVariables false
set_option linter.unusedSimpArgs false
/-- w' is w but for the blocks F, and new ones. -/
structure But (F : Nat → Prop) (w w' : World) : Prop where
  os : w'.os = w.os
  tape : w'.tape = w.tape
  output : w'.output = w.output
  size : w.heap.size ≤ w'.heap.size
  block : ∀ k, k < w.heap.size → ¬ F k → w'.heap[k]? = w.heap[k]?
theorem But.refl (F : Nat → Prop) (w : World) : But F w w := ⟨rfl, rfl, rfl, Nat.le_refl _, fun _ _ _ => rfl⟩
theorem But.trans {F F' : Nat → Prop} {a b c : World} (h : But F a b) (k : But F' b c) (hf : ∀ n, n < a.heap.size → F' n → F n) : But F a c :=
  ⟨k.os.trans h.os, k.tape.trans h.tape, k.output.trans h.output, Nat.le_trans h.size k.size, fun i hi hn => (k.block i (Nat.lt_of_lt_of_le hi h.size) (fun x => hn (hf i hi x))).trans (h.block i hi hn)⟩
theorem But.of_below {w w' : World} (h : Below w.heap.size w w') (F : Nat → Prop) : But F w w' := ⟨h.os, h.tape, h.output, h.size, fun k hk _ => h.block k hk⟩
theorem But.below {F : Nat → Prop} {a b c : World} (h : But F a b) (k : Below b.heap.size b c) : But F a c := h.trans (F' := fun _ => False) (But.of_below k _) (fun _ _ x => x.elim)
theorem But.setRow {F : Nat → Prop} {a b : World} (h : But F a b) (g : Nat) (hg : F g ∨ a.heap.size ≤ g) (cs : Array Value) : But F a (b.setRow g cs) :=
  h.trans (F' := fun k => k = g) ⟨rfl, rfl, rfl, by simp [World.setRow], fun k hk hn => setRow_heap_ne b g k cs hn⟩ (fun n hn e => by subst e; rcases hg with x | x; exact x; omega)
theorem But.setCell {F : Nat → Prop} {a b : World} (h : But F a b) (g i : Nat) (hg : F g ∨ a.heap.size ≤ g) (v : Value) : But F a (b.setCell ⟨g, i, none⟩ v) :=
  h.trans (F' := fun k => k = g) ⟨rfl, rfl, rfl, by simp [World.setCell], fun k hk hn => Below.heap_setCell _ _ _ _ hn⟩ (fun n hn e => by subst e; rcases hg with x | x; exact x; omega)
theorem But.grown {F : Nat → Prop} {a b c : World} {r : Option Nat} (h : But F a b) (k : b.grownBy c r) (hr : ∀ n, r = some n → F n ∨ a.heap.size ≤ n) : But F a c :=
  h.trans (F' := fun k => r = some k) ⟨k.os, k.tape, k.output, k.size, fun i hi hn => k.block i hi (fun e => hn e.symm)⟩ (fun n hn e => by rcases hr n e with x | x; exact x; omega)
theorem But.to_below {F : Nat → Prop} {w w' : World} (h : But F w w') {B : Nat} (hB : B ≤ w.heap.size) (hF : ∀ k, k < B → ¬ F k) : Below B w w' := ⟨h.os, h.tape, h.output, h.size, fun k hk => h.block k (by omega) (hF k hk)⟩
theorem info_i64F : (Try.prog.info? 3).map (fun i => (i.zero, i.size, i.bytes)) = some (some (.int .i64 0), 1, 8) := by kernel_rfl
set_option maxRecDepth 100000 in
theorem eq_nilI (a : Option Addr) (n c : Nat) (w : World) : (binOp .eql 39 (.slice a n c) (.slice none 0 0)).run Try.prog w = .ok (.bool a.isNone) w := by
  cases a <;> rfl
set_option maxHeartbeats 1000000 in
theorem cloneI_any (a : Option Addr) (c : Nat) (l : List Int) (w : World) (h : RowI w a l) (hnil : a = none → c = 0) :
    Calls Try.prog 31 #[.slice a l.length c] w fun e w' => ∃ a' c', e = .returned (.slice a' l.length c') ∧ OwnsI w' w.heap.size (.slice a' l.length c') l ∧ Below w.heap.size w w' := by
  obtain ⟨i0, hi, hz0, hz1, hz2⟩ := info_parts info_i64F
  cases a with
  | none =>
    have hl : l = [] := by
      cases l with
      | nil => rfl
      | cons y l => obtain ⟨b, off, hh, _⟩ := h.cells (by simp); cases hh
    subst hl
    have hc0 := hnil rfl
    subst hc0
    have hq := eq_nilI none 0 0 w
    go_enter Try.func31, Try.ntmps31
    go_wp2
    go_ret
    exact ⟨none, 0, rfl, OwnsI.nil _ _, Below.refl _ _⟩
  | some x =>
    have o1 : (w.alloc (.cells #[] 3)).ownsRow w.heap.size 3 1 (.slice (some ⟨w.heap.size, 0, none⟩) 0 0) 0 [] := ⟨rfl, Or.inr ⟨w.heap.size, 0, #[], rfl, Nat.le_refl _, World.heap_new w _, Nat.le_refl _, by unfold maxLen; omega, rfl, rfl⟩⟩
    have b1 : Below w.heap.size w (w.alloc (.cells #[] 3)) := (Below.refl _ _).alloc (Nat.le_refl _) _
    have r1 := h.alloc (.cells #[] 3)
    have hs := h.small
    have hq := eq_nilI (some x) l.length c w
    have hnews : ∀ j u, (l.map (Value.int .i64))[j]? = some u → (w.alloc (.cells #[] 3)).cell? (x.add j) = some u := fun j u hj => by
      have hjl : j < l.length := by
        have := (List.getElem?_eq_some_iff.1 hj).1
        simpa using this
      obtain ⟨b, off, hh, hc⟩ := r1.cells (by omega)
      cases hh
      have e1 : Addr.add ⟨b, off, none⟩ j = ⟨b, off + j, none⟩ := Go.WideShapes.add_plain ..
      rw [e1, hc j hjl]
      rw [← hj]
      simp [hjl]
    have h1 : ∀ u ∈ l.map (Value.int .i64), u.oneCell' = true := fun u hu => by
      obtain ⟨y, _, rfl⟩ := List.mem_map.1 hu
      rfl
    go_enter Try.func31, Try.ntmps31
    go_wp2_with (at_builtin; refine wpList_append_own _ rfl _ _ 39 rfl w.heap.size 3 i0 (.int .i64 0) 1 8 Try.underlying39 hi hz0 hz1 hz2 rfl (by decide) _ 0 [] rfl o1 x l.length c (l.map (Value.int .i64)) rfl (by simp) hnews h1 (by unfold maxLen; omega) (by omega) (by simp) ?_)
    intro v' w4 o4 g4 _
    have b4 : Below w.heap.size w w4 := b1.grown g4 (by simp) (fun k hk => by cases hk; exact Nat.le_refl _)
    have o5 : OwnsI w4 w.heap.size v' l := by
      show w4.ownsRow w.heap.size 3 1 v' l.length (l.map (Value.int .i64))
      simpa using o4
    have hv : ∃ a' c', v' = .slice a' l.length c' := by
      rcases o5.2 with ⟨h2, h3⟩ | ⟨g, cap, cur, h2, _⟩
      · exact ⟨none, 0, by rw [h3]; exact h2⟩
      · exact ⟨_, _, h2⟩
    obtain ⟨a', c', rfl⟩ := hv
    clear o4 g4 hnews h1
    go_wp2
    go_ret
    exact ⟨a', c', rfl, o5, b4⟩
/-- No memory of a is in a block of F. -/
def Off (F : Nat → Prop) (a : Option Addr) : Prop := ∀ x, a = some x → ¬ F x.block
theorem But.cell {F : Nat → Prop} {w w' : World} (h : But F w w') {b i : Nat} {v : Value} (hn : ¬ F b) (hc : w.cell? ⟨b, i, none⟩ = some v) : w'.cell? ⟨b, i, none⟩ = some v :=
  (World.cell?_of_block (h.block b (World.block_lt_of_cell? w _ hc) hn)).trans hc
theorem Row.but {F : Nat → Prop} {w w' : World} {a : Option Addr} {l : List Int} (h : Row w a l) (hb : But F w w') (ho : Off F a) : Row w' a l :=
  ⟨h.small, h.bytes, fun hl => by
    obtain ⟨b, off, ha, hc⟩ := h.cells hl
    exact ⟨b, off, ha, fun i hi => hb.cell (ho _ ha) (hc i hi)⟩⟩
theorem RowI.but {F : Nat → Prop} {w w' : World} {a : Option Addr} {l : List Int} (h : RowI w a l) (hb : But F w w') (ho : Off F a) : RowI w' a l :=
  ⟨h.small, fun hl => by
    obtain ⟨b, off, ha, hc⟩ := h.cells hl
    exact ⟨b, off, ha, fun i hi => hb.cell (ho _ ha) (hc i hi)⟩⟩
theorem Blk.but {F : Nat → Prop} {w w' : World} {g : Nat} {t : TypeId} {cs : Array Value} (h : Blk w g t cs) (hb : But F w w') (hn : ¬ F g) : Blk w' g t cs := (hb.block g h.lt hn).trans h
/-- Memory that is newer than B. -/
def New (B : Nat) (a : Option Addr) : Prop := ∀ x, a = some x → B ≤ x.block
theorem owns_new_of {w : World} {B n c : Nat} {a : Option Addr} {l : List Int} (h : Owns w B (.slice a n c) l) : New B a ∧ ∀ x, a = some x → x.block < w.heap.size := by
  obtain ⟨_, h2⟩ := h
  rcases h2 with ⟨h3, _⟩ | ⟨g, cap, cur, h3, h4, h5, _⟩
  · simp only [Value.slice.injEq] at h3
    exact ⟨fun x hx => (by rw [h3.1] at hx; cases hx), fun x hx => (by rw [h3.1] at hx; cases hx)⟩
  · simp only [Value.slice.injEq] at h3
    have hlt := (Array.getElem?_eq_some_iff.1 h5).1
    exact ⟨fun x hx => (by rw [h3.1] at hx; cases hx; exact h4), fun x hx => (by rw [h3.1] at hx; cases hx; exact hlt)⟩
theorem ownsI_new_of {w : World} {B n c : Nat} {a : Option Addr} {l : List Int} (h : OwnsI w B (.slice a n c) l) : New B a ∧ ∀ x, a = some x → x.block < w.heap.size := by
  obtain ⟨_, h2⟩ := h
  rcases h2 with ⟨h3, _⟩ | ⟨g, cap, cur, h3, h4, h5, _⟩
  · simp only [Value.slice.injEq] at h3
    exact ⟨fun x hx => (by rw [h3.1] at hx; cases hx), fun x hx => (by rw [h3.1] at hx; cases hx)⟩
  · simp only [Value.slice.injEq] at h3
    have hlt := (Array.getElem?_eq_some_iff.1 h5).1
    exact ⟨fun x hx => (by rw [h3.1] at hx; cases hx; exact h4), fun x hx => (by rw [h3.1] at hx; cases hx; exact hlt)⟩
/-- The blocks that add turns. -/
def addF (gg : Nat) (pa : Option Addr) (k : Nat) : Prop := k = gg ∨ ∃ x, pa = some x ∧ x.block = k
/-- The block of a slice's own row. -/
theorem ownBlock_of {w : World} {B n : Nat} {t : TypeId} {s : Nat} {a : Option Addr} {c : Nat} {xs : List Value} (h : w.ownsRow B t s (.slice a n c) n xs) : (Value.slice a n c).ownBlock = a.map (·.block) := by
  rcases h.2 with ⟨h3, _⟩ | ⟨g, cap, cur, h3, _⟩
  · simp only [Value.slice.injEq] at h3
    rw [h3.1]; rfl
  · simp only [Value.slice.injEq] at h3
    rw [h3.1]; rfl
theorem ownsRow_block {w w' : World} {B n : Nat} {t : TypeId} {s : Nat} {a : Option Addr} {c : Nat} {xs : List Value} (h : w.ownsRow B t s (.slice a n c) n xs) (hb : ∀ x, a = some x → w'.heap[x.block]? = w.heap[x.block]?) : w'.ownsRow B t s (.slice a n c) n xs := by
  obtain ⟨h1, h2⟩ := h
  refine ⟨h1, ?_⟩
  rcases h2 with h2 | ⟨g, cap, cur, h3, h4, h5, h6⟩
  · exact .inl h2
  · refine .inr ⟨g, cap, cur, h3, h4, ?_, h6⟩
    simp only [Value.slice.injEq] at h3
    exact (hb _ h3.1).trans h5
theorem ownsRow_ne {w : World} {B n : Nat} {t t' : TypeId} {s : Nat} {a : Option Addr} {c : Nat} {xs : List Value} (h : w.ownsRow B t s (.slice a n c) n xs) {g : Nat} {cs : Array Value} (hb : Blk w g t' cs) (ht : t ≠ t') : ∀ x, a = some x → x.block ≠ g := fun x hx e => by
  rcases h.2 with ⟨h3, _⟩ | ⟨g', cap, cur, h3, _, h5, _⟩
  · simp only [Value.slice.injEq] at h3
    rw [h3.1] at hx; cases hx
  · simp only [Value.slice.injEq] at h3
    rw [h3.1] at hx; cases hx
    subst e
    have := h5.symm.trans hb
    simp at this
    exact ht this.2
theorem ownsRow_lt {w : World} {B n : Nat} {t : TypeId} {s : Nat} {a : Option Addr} {c : Nat} {xs : List Value} (h : w.ownsRow B t s (.slice a n c) n xs) : ∀ x, a = some x → x.block < w.heap.size := fun x hx => by
  rcases h.2 with ⟨h3, _⟩ | ⟨g', cap, cur, h3, _, h5, _⟩
  · simp only [Value.slice.injEq] at h3
    rw [h3.1] at hx; cases hx
  · simp only [Value.slice.injEq] at h3
    rw [h3.1] at hx; cases hx
    exact (Array.getElem?_eq_some_iff.1 h5).1
/-- What an append to the pieces and a store into the datagram leave. -/
structure Aft (w W : World) (gg : Nat) (pa : Option Addr) (n : Nat) (xs : List Value) (of : Int) (dat : List Int) (cs : Array Value) (gx cx : Nat) (a4 : Option Addr) (c4 : Nat) : Prop where
  blk : Blk W gg 75 cs
  row : W.ownsRow 0 117 2 (.slice (some ⟨gx, 0, none⟩) (n + 1) cx) (n + 1) (xs ++ [.int .i64 of, .slice a4 dat.length c4])
  data : Row W a4 dat
  room : dat.length ≤ c4
  nil : a4 = none → c4 = 0
  new : New w.heap.size a4
  apart : ∀ x, a4 = some x → x.block ≠ gx
  at_ : (∃ x, pa = some x ∧ x.block = gx) ∨ w.heap.size ≤ gx
  ne : gx ≠ gg
  ne4 : ∀ x, a4 = some x → x.block ≠ gg
  but : But (addF gg pa) w W
theorem Aft.put {w W : World} {gg : Nat} {pa : Option Addr} {n : Nat} {xs : List Value} {of : Int} {dat : List Int} {cs : Array Value} {gx cx : Nat} {a4 : Option Addr} {c4 : Nat} (h : Aft w W gg pa n xs of dat cs gx cx a4 c4) (i : Nat) (v : Value) : Aft w (W.setCell ⟨gg, i, none⟩ v) gg pa n xs of dat (cs.setIfInBounds i v) gx cx a4 c4 :=
  have hb : But (fun k => k = gg) W (W.setCell ⟨gg, i, none⟩ v) := (But.refl (fun k => k = gg) W).setCell gg i (.inl rfl) v
  ⟨h.blk.put i v, ownsRow_block h.row (fun x hx => by cases hx; exact hb.block gx (ownsRow_lt h.row _ rfl) h.ne), h.data.but hb (fun x hx e => h.ne4 x hx e), h.room, h.nil, h.new, h.apart, h.at_, h.ne, h.ne4, h.but.setCell gg i (.inl (.inl rfl)) v⟩
theorem Aft.drew {w W : World} {gg : Nat} {pa : Option Addr} {n : Nat} {xs : List Value} {of : Int} {dat : List Int} {cs : Array Value} {gx cx : Nat} {a4 : Option Addr} {c4 : Nat} (h : Aft w W gg pa n xs of dat cs gx cx a4 c4) : Aft w W.drew gg pa n xs of dat cs gx cx a4 c4 :=
  ⟨h.blk.drew, h.row, h.data.drewN 1, h.room, h.nil, h.new, h.apart, h.at_, h.ne, h.ne4, h.but.below (Below.refl _ _).drew⟩
/-- Behind the append. -/
theorem aft_app {w Wd W4 W5 W6 : World} {gg : Nat} {pa : Option Addr} {n pc : Nat} {xs : List Value} {of : Int} {dat : List Int} {cs : Array Value} {gx cx : Nat} {a4 : Option Addr} {c4 : Nat}
    (bd : But (addF gg pa) w Wd) (f4 : Fresh Wd W4 a4 c4 dat) (k5 : Below W4.heap.size W4 W5) (hsz : W4.heap.size ≤ W5.heap.size) (rd : Wd.ownsRow 0 117 2 (.slice pa n pc) n xs) (r5 : W5.ownsRow 0 117 2 (.slice pa n pc) n xs) (hg : Blk W5 gg 75 cs) (hgd : gg < Wd.heap.size)
    (r6 : W6.ownsRow 0 117 2 (.slice (some ⟨gx, 0, none⟩) (n + 1) cx) (n + 1) (xs ++ [.int .i64 of, .slice a4 dat.length c4])) (g6 : W5.grownBy W6 (Value.slice pa n pc).ownBlock) (at6 : (Value.slice pa n pc).ownBlock = some gx ∨ gx = W5.heap.size) : Aft w W6 gg pa n xs of dat cs gx cx a4 c4 := by
  have hob := ownBlock_of r5
  rw [hob] at g6 at6
  have hne := ownsRow_ne r5 hg (by decide)
  have hlt := ownsRow_lt rd
  obtain ⟨hnew, h4lt⟩ := owns_new_of f4.owns
  have hbs := bd.size
  have b6 : But (fun k => ∃ x, pa = some x ∧ x.block = k) W5 W6 := (But.refl _ _).grown g6 (fun m hm => .inl (by
    cases pa with
    | none => cases hm
    | some x => simp at hm; exact ⟨x, rfl, hm⟩))
  have ggne : ¬ ∃ x, pa = some x ∧ x.block = gg := fun ⟨x, h1, h2⟩ => hne x h1 h2
  have b5 : But (addF gg pa) w W5 := (bd.below f4.below).below k5
  refine ⟨hg.but b6 ggne, r6, (f4.row.below k5).but b6 (fun x hx ⟨y, h1, h2⟩ => ?_), f4.room, f4.nil, fun x hx => Nat.le_trans hbs (hnew x hx), fun x hx e => ?_, ?_, ?_, fun x hx e => ?_, b5.trans b6 (fun m _ hm => .inr hm)⟩
  · have := hlt y h1
    have := hnew x hx
    omega
  · rcases at6 with h | h
    · cases pa with
      | none => cases h
      | some y => simp at h; have := hlt y rfl; have := hnew x hx; omega
    · have := h4lt x hx
      omega
  · rcases at6 with h | h
    · cases pa with
      | none => cases h
      | some y => simp at h; exact .inl ⟨y, rfl, h⟩
    · have := f4.below.size
      exact .inr (by omega)
  · rcases at6 with h | h
    · cases pa with
      | none => cases h
      | some y => simp at h; rw [← h]; exact hne y rfl
    · have := f4.below.size
      omega
  · have := hnew x hx
    omega
theorem pcells_app (ps : List Pc) (p : Pc) : pcells (ps ++ [p]) = pcells ps ++ [.int .i64 p.off, .slice p.da p.data.length p.dc] := by simp [pcells]
theorem info_pieceF : (Try.prog.info? 117).map (fun i => (i.zero, i.size, i.bytes)) = some (some (.agg #[.int .i64 0, .slice none 0 0]), 2, 32) := by kernel_rfl
end Go.Proofs.Ytbghilihccaaaaa
