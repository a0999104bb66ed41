/- Texts joined: Room BlkX -/
import Derived.Test.YtakajiedajfkjaaDoorApx6
import Derived.Test.YtakajiedajfkjaaDoorApx10
import Derived.Laws.MakeOwn
import Derived.Deep.WholeRow
import Derived.BigRegion
import Derived.Deep.RegionHeld3
namespace Go.Proofs.YtakajiedajfkjaaDoor
open Go.RowKit
set_option linter.unusedVariables false
/-- One byte of a slice of the call's own: where it lies, and what writing it does. -/
theorem Owns.write {w : World} {B n c : Nat} {a : Option Addr} {l : List Int} (h : Owns w B (.slice a n c) l) (hl : l.length = n) (k : Nat) (hk : k < n) :
    ∃ g, a = some ⟨g, 0, none⟩ ∧ B ≤ g ∧ g < w.heap.size ∧ w.cell? ⟨g, k, none⟩ = some (.int .u8 (l.getD k 0)) ∧ w.frozen? ⟨g, k, none⟩ = false ∧ ∀ y, Owns (w.setCell ⟨g, k, none⟩ (.int .u8 y)) B (.slice a n c) (l.set k y) := by
  subst hl
  obtain ⟨a', c', h1, _, h2, h3, h4⟩ := h.form
  cases h1
  cases a with
  | none =>
    obtain ⟨_, hh⟩ := h
    rcases hh with ⟨_, h6⟩ | ⟨g, cap, cur, h6, _⟩
    · omega
    · cases h6
  | some x =>
    obtain ⟨g, off, spot⟩ := x
    have := h3 _ rfl
    simp at this
    obtain ⟨h5, rfl, rfl⟩ := this
    have hc := World.ownsRow.cellAt (e := 5) (size := 1) h k (by omega)
    refine ⟨g, rfl, h5, ?_, ?_, h.frozen k, fun y => h.stored k y⟩
    · exact (World.ownsRow.lt h g rfl).2
    · rw [hc]; simp [hk]
theorem Owns.other {w : World} {B : Nat} {v : Value} {l : List Int} (h : Owns w B v l) {ad : Addr} (ha : ad.block < B) (u : Value) : Owns (w.setCell ad u) B v l := ownsRow_setCell_below h ha u
end Go.Proofs.YtakajiedajfkjaaDoor
namespace Go.Proofs.YtakajiedajfkjaaDoor
open Go.RowKit
set_option linter.unusedVariables false
set_option linter.unusedSimpArgs false
/-- The block g holds these cells. -/
def Blk (W : World) (g : Nat) (t : TypeId) (cs : Array Value) : Prop := W.heap[g]? = some (.cells cs t (0, 0))
theorem blk_new (w : World) (cs : Array Value) (t : TypeId) : Blk (w.alloc (.cells cs t)) w.heap.size t cs := heap_alloc_last w _
theorem Blk.lt {W : World} {g : Nat} {t : TypeId} {cs : Array Value} (h : Blk W g t cs) : g < W.heap.size := (Array.getElem?_eq_some_iff.1 h).1
theorem Blk.below {W W' : World} {g B : Nat} {t : TypeId} {cs : Array Value} (h : Blk W g t cs) (hb : Below B W W') (hg : g < B) : Blk W' g t cs := (hb.block g hg).trans h
theorem Blk.kept {W W' : World} {g : Nat} {t : TypeId} {cs : Array Value} (h : Blk W g t cs) (hb : Below W.heap.size W W') : Blk W' g t cs := h.below hb h.lt
theorem Blk.alloc {W : World} {g : Nat} {t : TypeId} {cs : Array Value} (h : Blk W g t cs) (X : Obj) : Blk (W.alloc X) g t cs := h.kept ((Below.refl _ _).alloc (Nat.le_refl _) _)
theorem Blk.drew {W : World} {g : Nat} {t : TypeId} {cs : Array Value} (h : Blk W g t cs) : Blk W.drew g t cs := h.kept ((Below.refl _ _).drew)
theorem Blk.cell {W : World} {g : Nat} {t : TypeId} {cs : Array Value} (h : Blk W g t cs) (i : Nat) (v : Value) (hv : cs[i]? = some v) : W.cell? ⟨g, i, none⟩ = some v :=
  (cell_of_row W g i cs t (0, 0) h).trans hv
theorem Blk.set {W : World} {g : Nat} {t : TypeId} {cs : Array Value} (h : Blk W g t cs) (cs' : Array Value) : Blk (W.setRow g cs') g t cs' := setRow_heap W g cs cs' t (0, 0) h
theorem setRow_heap_ne (W : World) (g k : Nat) (cs : Array Value) (h : k ≠ g) : (W.setRow g cs).heap[k]? = W.heap[k]? := by
  show (W.heap.modify g _)[k]? = _
  rw [Array.getElem?_modify, if_neg (fun e => h e.symm)]
theorem below_setRow {B : Nat} {w W : World} (hb : Below B w W) {g : Nat} (hg : B ≤ g) (cs : Array Value) : Below B w (W.setRow g cs) :=
  ⟨hb.os, hb.tape, hb.output, by rw [setRow_size]; exact hb.size, fun k hk => (setRow_heap_ne W g k cs (by omega)).trans (hb.block k hk)⟩
theorem Blk.other {W : World} {g g' : Nat} {t : TypeId} {cs : Array Value} (h : Blk W g t cs) (hn : g ≠ g') (cs' : Array Value) : Blk (W.setRow g' cs') g t cs := (setRow_heap_ne W g' g cs' hn).trans h
theorem Blk.put {W : World} {g : Nat} {t : TypeId} {cs : Array Value} (h : Blk W g t cs) (i : Nat) (v : Value) : Blk (W.setCell ⟨g, i, none⟩ v) g t (cs.setIfInBounds i v) := by
  rw [setCell_eq_setRow W g i cs t (0, 0) v h]
  exact h.set _
theorem Blk.put_other {W : World} {g g' : Nat} {t t' : TypeId} {cs cs' : Array Value} (h : Blk W g t cs) (h' : Blk W g' t' cs') (hn : g ≠ g') (i : Nat) (v : Value) : Blk (W.setCell ⟨g', i, none⟩ v) g t cs := by
  rw [setCell_eq_setRow W g' i cs' t' (0, 0) v h']
  exact h.other hn _
/-- A whole struct out of its block. -/
theorem load_blk {W : World} {g : Nat} {t : TypeId} {cs : Array Value} (h : Blk W g t cs) {fs : _} (hu : Tryd.prog.underlying t = some (.struct fs)) (hi : (Tryd.prog.info? t).map (·.size) = some cs.size) :
    (loadVar t ⟨g, 0, none⟩).run Tryd.prog W = .ok (.agg cs) W := run_loadVar_row W g t t cs (0, 0) (.struct fs) h hu rfl hi
theorem ret_cell_tmp {R : Ending → World → Prop} {a : Act} {w : World} {g k j : Nat} {t : TypeId} {cs : Array Value} {v : Value} (fn : Func) (hf : fn.results = #[.cell k t, .tmp j]) (h : Blk w g t cs) {fs : _} (hu : Tryd.prog.underlying t = some (.struct fs)) (hi : (Tryd.prog.info? t).map (·.size) = some cs.size)
    (h2 : a.tmps[k]?.getD undef = .pointer (some ⟨g, 0, none⟩)) (h3 : a.tmps[j]?.getD undef = v) (hdf : a.defers = []) (hR : R (.returned (.tuple #[.agg cs, v])) w) : bodyPost Tryd.prog fn R .ret a w := by
  refine bodyPost_ret (v := .tuple #[.agg cs, v]) ?_ hdf hR
  have hl := load_blk h hu hi
  simp [results, hf, h2, h3, asAddr, hl, Array.mapM_eq_mapM_toList]
theorem fresh_nil {w w' : World} (h : Below w.heap.size w w') : Fresh w w' none 0 [] :=
  ⟨Owns.nil _ _, Nat.le_refl _, fun _ => rfl, ⟨by simp, M.Bytes.nil, fun h => by simp at h⟩, h⟩
theorem blk_nw {W W' : World} {cs : Array Value} {t : TypeId} (e : W.alloc (.cells cs t) = W') : Blk W' W.heap.size t cs := e ▸ blk_new _ _ _
theorem Blk.al {W W' : World} {g : Nat} {t : TypeId} {cs : Array Value} {o : Obj} (h : Blk W g t cs) (e : W.alloc o = W') : Blk W' g t cs := e ▸ h.alloc _
theorem bel_nw {w W : World} {o : Obj} (e : w.alloc o = W) : Below w.heap.size w W := e ▸ (Below.refl _ _).alloc (Nat.le_refl _) _
theorem bel_al {w W W' : World} {o : Obj} (h : Below w.heap.size w W) (e : W.alloc o = W') : Below w.heap.size w W' := e ▸ h.alloc h.size _
theorem bel_tr {w W W' : World} (h : Below w.heap.size w W) (k : Below W.heap.size W W') : Below w.heap.size w W' := h.trans (k.mono h.size)
end Go.Proofs.YtakajiedajfkjaaDoor
