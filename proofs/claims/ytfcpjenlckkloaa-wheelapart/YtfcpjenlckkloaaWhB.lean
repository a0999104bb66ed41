/- Wheels in memory: blocks, what a call leaves, the map of times, the slots. -/
import Derived.Test.YtfcpjenlckkloaaRows
import Derived.Test.YtfcpjenlckkloaaWhA
import Derived.WalkKit
import Derived.Below
import Derived.Carry
import Derived.OwnWalk
import Derived.KernelRfl
import Derived.Deep.Draws
import Derived.Deep.WholeRow
import Derived.BigRegion
import Derived.Deep.RegionHeld3
import Derived.Deep.AppendLies
import Derived.Laws.World
import Derived.Laws.Rows
import Derived.Laws.Tables
import Derived.Laws.OwnMore
import Derived.Laws.AppendOwnNone
import Derived.Laws.BitsAllLaws
import Derived.Maps.OwnSet
import Derived.Maps.OwnOps
import Derived.Maps.Ext
namespace Go.Proofs.Ytfcpjenlckkloaa
open Go.RowKit
set_option linter.unusedVariables false
set_option linter.unusedSimpArgs false

/-- The block g holds these cells. -/
def Blk (W : World) (g : Nat) (t : TypeId) (cs : Array Value) : Prop := W.heap[g]? = some (.cells cs t (0, 0))
theorem heap_last (w : World) (o : Obj) : (w.alloc o).heap[w.heap.size]? = some o := heap_alloc_last w o
theorem blk_new (w : World) (cs : Array Value) (t : TypeId) : Blk (w.alloc (.cells cs t)) w.heap.size t cs := heap_last w _
theorem Blk.lt {W : World} {g : Nat} {t : TypeId} {cs : Array Value} (h : Blk W g t cs) : g < W.heap.size := (Array.getElem?_eq_some_iff.1 h).1
theorem Blk.below {W W' : World} {g B : Nat} {t : TypeId} {cs : Array Value} (h : Blk W g t cs) (hb : Below B W W') (hg : g < B) : Blk W' g t cs := (hb.block g hg).trans h
theorem Blk.kept {W W' : World} {g : Nat} {t : TypeId} {cs : Array Value} (h : Blk W g t cs) (hb : Below W.heap.size W W') : Blk W' g t cs := h.below hb h.lt
theorem Blk.alloc {W : World} {g : Nat} {t : TypeId} {cs : Array Value} (h : Blk W g t cs) (X : Obj) : Blk (W.alloc X) g t cs := h.kept ((Below.refl _ _).alloc (Nat.le_refl _) _)
theorem Blk.drew {W : World} {g : Nat} {t : TypeId} {cs : Array Value} (h : Blk W g t cs) : Blk W.drew g t cs := h.kept ((Below.refl _ _).drew)
theorem Blk.cell {W : World} {g : Nat} {t : TypeId} {cs : Array Value} (h : Blk W g t cs) (i : Nat) (v : Value) (hv : cs[i]? = some v) : W.cell? ⟨g, i, none⟩ = some v :=
  (cell_of_row W g i cs t (0, 0) h).trans hv
theorem Blk.set {W : World} {g : Nat} {t : TypeId} {cs : Array Value} (h : Blk W g t cs) (cs' : Array Value) : Blk (W.setRow g cs') g t cs' := setRow_heap W g cs cs' t (0, 0) h
theorem setRow_heap_ne (W : World) (g k : Nat) (cs : Array Value) (h : k ≠ g) : (W.setRow g cs).heap[k]? = W.heap[k]? := by
  show (W.heap.modify g _)[k]? = _
  rw [Array.getElem?_modify, if_neg (fun e => h e.symm)]
theorem Blk.put {W : World} {g : Nat} {t : TypeId} {cs : Array Value} (h : Blk W g t cs) (i : Nat) (v : Value) : Blk (W.setCell ⟨g, i, none⟩ v) g t (cs.setIfInBounds i v) := by
  rw [setCell_eq_setRow W g i cs t (0, 0) v h]
  exact h.set _
theorem Blk.frozen {W : World} {g : Nat} {t : TypeId} {cs : Array Value} (h : Blk W g t cs) (i : Nat) : W.frozen? ⟨g, i, none⟩ = false := by
  have h' : W.heap[g]? = some (.cells cs t (0, 0)) := h
  simp [World.frozen?, h']

/-- w' is w but for the blocks F, and new ones. -/
structure But (F : Nat → Prop) (w w' : World) : Prop where
  os : w'.os = w.os
  tape : w'.tape = w.tape
  output : w'.output = w.output
  size : w.heap.size ≤ w'.heap.size
  block : ∀ k, k < w.heap.size → ¬ F k → w'.heap[k]? = w.heap[k]?
theorem But.refl (F : Nat → Prop) (w : World) : But F w w := ⟨rfl, rfl, rfl, Nat.le_refl _, fun _ _ _ => rfl⟩
theorem But.trans {F F' : Nat → Prop} {a b c : World} (h : But F a b) (k : But F' b c) (hf : ∀ n, n < a.heap.size → F' n → F n) : But F a c :=
  ⟨k.os.trans h.os, k.tape.trans h.tape, k.output.trans h.output, Nat.le_trans h.size k.size, fun i hi hn => (k.block i (Nat.lt_of_lt_of_le hi h.size) (fun x => hn (hf i hi x))).trans (h.block i hi hn)⟩
theorem But.mono {F F' : Nat → Prop} {a b : World} (h : But F a b) (hf : ∀ n, n < a.heap.size → F n → F' n) : But F' a b := ⟨h.os, h.tape, h.output, h.size, fun k hk hn => h.block k hk (fun x => hn (hf k hk x))⟩
theorem But.of_below {w w' : World} (h : Below w.heap.size w w') (F : Nat → Prop) : But F w w' := ⟨h.os, h.tape, h.output, h.size, fun k hk _ => h.block k hk⟩
theorem But.below {F : Nat → Prop} {a b c : World} (h : But F a b) (k : Below b.heap.size b c) : But F a c := h.trans (F' := fun _ => False) (But.of_below k _) (fun _ _ x => x.elim)
theorem But.drew {F : Nat → Prop} {a b : World} (h : But F a b) : But F a b.drew := h.below (Below.refl _ _).drew
theorem But.alloc {F : Nat → Prop} {a b : World} (h : But F a b) (o : Obj) : But F a (b.alloc o) := h.below ((Below.refl _ _).alloc (Nat.le_refl _) _)
theorem But.setCell {F : Nat → Prop} {a b : World} (h : But F a b) (g i : Nat) (hg : F g ∨ a.heap.size ≤ g) (v : Value) : But F a (b.setCell ⟨g, i, none⟩ v) :=
  h.trans (F' := fun k => k = g) ⟨rfl, rfl, rfl, by simp [World.setCell], fun k hk hn => Below.heap_setCell _ _ _ _ hn⟩ (fun n hn e => by subst e; rcases hg with x | x; exact x; omega)
theorem But.grown {F : Nat → Prop} {a b c : World} {r : Option Nat} (h : But F a b) (k : b.grownBy c r) (hr : ∀ n, r = some n → F n ∨ a.heap.size ≤ n) : But F a c :=
  h.trans (F' := fun k => r = some k) ⟨k.os, k.tape, k.output, k.size, fun i hi hn => k.block i hi (fun e => hn e.symm)⟩ (fun n hn e => by rcases hr n e with x | x; exact x; omega)
theorem But.to_below {F : Nat → Prop} {w w' : World} (h : But F w w') {B : Nat} (hB : B ≤ w.heap.size) (hF : ∀ k, k < B → ¬ F k) : Below B w w' := ⟨h.os, h.tape, h.output, h.size, fun k hk => h.block k (by omega) (hF k hk)⟩
theorem But.cell {F : Nat → Prop} {w w' : World} (h : But F w w') {b i : Nat} {v : Value} (hn : ¬ F b) (hc : w.cell? ⟨b, i, none⟩ = some v) : w'.cell? ⟨b, i, none⟩ = some v :=
  (World.cell?_of_block (h.block b (World.block_lt_of_cell? w _ hc) hn)).trans hc
theorem Blk.but {F : Nat → Prop} {w w' : World} {g : Nat} {t : TypeId} {cs : Array Value} (h : Blk w g t cs) (hb : But F w w') (hn : ¬ F g) : Blk w' g t cs := (hb.block g h.lt hn).trans h

/-! ### the map of times -/
/-- A number that an int can be. -/
def In64 (x : Int) : Prop := -9223372036854775808 ≤ x ∧ x ≤ 9223372036854775807
theorem In64.wf {x : Int} (h : In64 x) : (Lit.int .i64 x).wf = true := by
  obtain ⟨h1, h2⟩ := h
  simp [Lit.wf, IntKind.min, IntKind.max, IntKind.signed, IntKind.bits]
  omega
theorem keyInt : Maps.Keyed Try.prog 3 := Maps.int_keyed Try.underlying3
theorem keyOf64 {x : Int} (h : In64 x) : keyOf Try.prog 3 (.int .i64 x) = some (.int .i64 x) := Maps.keyOf_int_mk Try.underlying3 h.wf
abbrev OwnsT (w : World) (b n : Nat) (D : DataW Unit) : Prop := w.ownsMap Try.prog 3 (plainElem Try.prog 3) b n D
theorem ownsT_tight {w : World} {b n : Nat} {D : DataW Unit} (h : OwnsT w b n D) : OwnsT w b (Maps.size D) D := by
  obtain ⟨es, clock, hb, F, hs, rfl⟩ := h
  refine ⟨es, clock, hb, F, ?_, rfl⟩
  simp [Maps.size, length_sorted]
/-- The block m is a map that has these times. -/
structure MapT (w : World) (m : Nat) (E : List M.Ent) : Prop where
  ex : ∃ D : DataW Unit, OwnsT w m E.length D ∧ Maps.size D = E.length ∧ ∀ id, In64 id → (∀ t, M.tm E id = some t → Maps.has D (.int .i64 id) = true ∧ ∀ z, D.atKey (.int .i64 id) z = .lit (.int .i64 t)) ∧ (M.tm E id = none → Maps.has D (.int .i64 id) = false)
theorem MapT.new (w : World) : MapT (w.alloc (.map #[] 0)) w.heap.size [] :=
  ⟨.map [], World.ownsMap_made w _ _ _, rfl, fun id _ => ⟨fun t h => by simp [M.tm] at h, fun _ => rfl⟩⟩
theorem MapT.lt {w : World} {m : Nat} {E : List M.Ent} (h : MapT w m E) : m < w.heap.size := by obtain ⟨D, h1, _⟩ := h.ex; exact h1.lt
theorem MapT.but {F : Nat → Prop} {w w' : World} {m : Nat} {E : List M.Ent} (h : MapT w m E) (hb : But F w w') (hn : ¬ F m) : MapT w' m E := by
  obtain ⟨D, ⟨es, clock, h1, h2⟩, h3⟩ := h.ex
  exact ⟨D, ⟨es, clock, (hb.block m (Array.getElem?_eq_some_iff.1 h1).1 hn).trans h1, h2⟩, h3⟩
theorem zero_int (w : World) : (zeroValue 3).run Try.prog w = .ok (.int .i64 0) w := by kernel_rfl
theorem MapT.look1 {w : World} {m : Nat} {E : List M.Ent} (h : MapT w m E) {id : Int} (hi : In64 id) :
    (Instr.lookup 53 (.map (some m)) (.int .i64 id) false).run Try.prog w = .ok (.int .i64 ((M.tm E id).getD 0)) w := by
  obtain ⟨D, h1, h2, h3⟩ := h.ex
  obtain ⟨c, h4, h5, h6⟩ := World.ownsMap.lookup_int h1 keyInt Try.underlying53 Try.underlying3 (zero_int w) (keyOf64 hi)
  rw [h4]
  cases ht : M.tm E id with
  | none =>
    have := Maps.atKey_of_not_has ((h3 id hi).2 ht) (.lit (.int .i64 0))
    rw [this] at h5
    simp at h5
    rw [← h5]; rfl
  | some t =>
    have := ((h3 id hi).1 t ht).2 (.lit (.int .i64 0))
    rw [this] at h5
    simp at h5
    rw [← h5]; rfl
theorem MapT.look2 {w : World} {m : Nat} {E : List M.Ent} (h : MapT w m E) {id : Int} (hi : In64 id) :
    (Instr.lookup 53 (.map (some m)) (.int .i64 id) true).run Try.prog w = .ok (.tuple #[.int .i64 ((M.tm E id).getD 0), .bool (M.tm E id).isSome]) w := by
  obtain ⟨D, h1, h2, h3⟩ := h.ex
  obtain ⟨v, ps, h4, h5⟩ := World.ownsMap.look_ok h1 keyInt Try.underlying53 (zero_int w) (zd := .lit (.int .i64 0)) (zp := []) (plainElem_int Try.underlying3 (by decide)) (keyOf64 hi)
  obtain ⟨c, rfl, h6, _⟩ := plainElem_int_inv Try.underlying3 h5
  have h7 := congrArg Prod.fst h6
  rw [h4]
  cases ht : M.tm E id with
  | none =>
    have hn := (h3 id hi).2 ht
    have := Maps.atKey_of_not_has hn (.lit (.int .i64 0))
    simp only [] at h7
    rw [this] at h7
    simp at h7
    rw [← h7, hn]; rfl
  | some t =>
    obtain ⟨hn, this⟩ := (h3 id hi).1 t ht
    simp only [] at h7
    rw [this] at h7
    simp at h7
    rw [← h7, hn]; rfl
theorem MapT.len {w : World} {m : Nat} {E : List M.Ent} (h : MapT w m E) (ty : TypeId) : (Builtin.len_ #[53] ty #[.map (some m)]).run Try.prog w = .ok (.int .i64 E.length) w := by
  obtain ⟨D, h1, h2, h3⟩ := h.ex
  rw [World.ownsMap.len h1 Try.underlying53 ty, h2]
theorem but_turned {w w' : World} {m : Nat} (k : w.mapTurned w' m) : But (fun k => k = m) w w' := (But.refl (fun k => k = m) w).grown k.grown (fun n hn => by cases hn; exact .inl rfl)
theorem ne_int {a b : Int} (h : a ≠ b) : Lit.int .i64 a ≠ Lit.int .i64 b := fun e => h (by injection e)
theorem MapT.store {w : World} {m : Nat} {E : List M.Ent} (h : MapT w m E) (hE : M.Ok E) (hl : E.length ≤ 1024) {id at_ : Int} (hi : In64 id) (h0 : 0 ≤ at_) (h1 : at_ ≤ 4611686018427387904) :
    ∃ w', (Instr.mapUpdate 53 (.map (some m)) (.int .i64 id) (.int .i64 at_)).run Try.prog w = .ok () w' ∧ MapT w' m (M.setE E id at_) ∧ But (fun k => k = m) w w' := by
  obtain ⟨D, g1, g2, g3⟩ := h.ex
  have hw : In64 at_ := ⟨by omega, by omega⟩
  obtain ⟨w', r1, r2, r3⟩ := World.ownsMap.store g1 keyInt Try.underlying53 (by unfold maxLen; omega) (keyOf64 hi) (plainElem_int Try.underlying3 hw.wf)
  have hb : 0 ≤ at_ ∧ at_ ≤ 4611686018427387904 ∧ -9223372036854775808 ≤ id ∧ id ≤ 9223372036854775807 := ⟨h0, h1, hi.1, hi.2⟩
  have hs : Maps.size (D.put (.int .i64 id) (.lit (.int .i64 at_))) = (M.setE E id at_).length := by
    rw [Maps.size_put (g1.tidy keyInt), hE.len_set, g2]
    cases ht : M.tm E id with
    | none => rw [((g3 id hi).2 ht)]; rfl
    | some t => rw [((g3 id hi).1 t ht).1]; rfl
  refine ⟨w', r1, ⟨_, hs ▸ ownsT_tight r2, hs, fun x hx => ?_⟩, but_turned r3⟩
  by_cases e : x = id
  · subst e
    rw [hE.tm_set_same hb]
    refine ⟨fun t ht => ?_, fun ht => by cases ht⟩
    cases ht
    exact ⟨Maps.has_put_same g1.isMap (keyInt.key (keyOf64 hx)) _, fun z => Maps.atKey_put_same g1.isMap (keyInt.key (keyOf64 hx)) _ _⟩
  · rw [hE.tm_set_other hb e, Maps.has_put_other (ne_int e)]
    refine ⟨fun t ht => ⟨((g3 x hx).1 t ht).1, fun z => ?_⟩, (g3 x hx).2⟩
    rw [Maps.atKey_put_other (ne_int e)]
    exact ((g3 x hx).1 t ht).2 z
theorem MapT.drop {w : World} {m : Nat} {E : List M.Ent} (h : MapT w m E) (hE : M.Ok E) {id : Int} (hi : In64 id) (ty : TypeId) :
    ∃ w', (Builtin.delete_ #[53, 3] ty #[.map (some m), .int .i64 id]).run Try.prog w = .ok (.tuple #[]) w' ∧ MapT w' m (M.dropE E id) ∧ But (fun k => k = m) w w' := by
  obtain ⟨D, g1, g2, g3⟩ := h.ex
  obtain ⟨w', r1, r2, r3⟩ := World.ownsMap.drop g1 keyInt Try.underlying53 (keyOf64 hi) ty
  have hs : Maps.size (D.del (.int .i64 id)) = (M.dropE E id).length := by
    have h1 := Maps.size_del (k := Lit.int .i64 id) (g1.tidy keyInt)
    cases ht : M.tm E id with
    | none =>
      rw [((g3 id hi).2 ht)] at h1
      rw [M.dropE_none ht, ← g2, ← h1]; rfl
    | some t =>
      rw [((g3 id hi).1 t ht).1] at h1
      have := hE.len_drop ht
      simp at h1
      omega
  refine ⟨w', r1, ⟨_, hs ▸ ownsT_tight r2, hs, fun x hx => ?_⟩, but_turned r3⟩
  by_cases e : x = id
  · subst e
    rw [M.tm_drop_same]
    exact ⟨fun t ht => (by cases ht), fun _ => Maps.has_del_same⟩
  · rw [hE.tm_drop_other e, Maps.has_del_other (ne_int e)]
    refine ⟨fun t ht => ⟨((g3 x hx).1 t ht).1, fun z => ?_⟩, (g3 x hx).2⟩
    rw [Maps.atKey_del_other (ne_int e)]
    exact ((g3 x hx).1 t ht).2 z
end Go.Proofs.Ytfcpjenlckkloaa
