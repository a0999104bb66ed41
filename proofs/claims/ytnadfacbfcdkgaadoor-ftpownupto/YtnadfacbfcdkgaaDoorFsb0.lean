/- Texts joined: BlkZ -/
import Derived.Test.YtnadfacbfcdkgaaDoorFsa0
import Derived.Test.YtnadfacbfcdkgaaDoorFsa1
import Derived.Test.YtnadfacbfcdkgaaDoorFsa2
import Derived.Test.YtnadfacbfcdkgaaDoorFsa3
import Derived.Test.YtnadfacbfcdkgaaDoorFsa4
import Derived.Test.YtnadfacbfcdkgaaDoorFsa5
import Derived.Test.YtnadfacbfcdkgaaDoorFsa6
import Derived.Test.YtnadfacbfcdkgaaDoorFsa7
import Derived.Test.YtnadfacbfcdkgaaDoorFsa8
import Derived.Test.YtnadfacbfcdkgaaDoorFsa9
import Derived.Test.YtnadfacbfcdkgaaDoorFsa10
import Derived.Test.YtnadfacbfcdkgaaDoorFsa11
import Derived.Test.YtnadfacbfcdkgaaDoorFsa12
import Derived.Test.YtnadfacbfcdkgaaDoorFsa13
import Derived.Test.YtnadfacbfcdkgaaDoorFsa14
import Derived.Test.YtnadfacbfcdkgaaDoorFsa15
import Derived.Test.YtnadfacbfcdkgaaDoorFsa16
import Derived.Test.YtnadfacbfcdkgaaDoorFsa17
import Derived.Test.YtnadfacbfcdkgaaDoorFsa18
import Derived.Test.YtnadfacbfcdkgaaDoorFsa19
import Derived.Test.YtnadfacbfcdkgaaDoorFsa20
import Derived.Test.YtnadfacbfcdkgaaDoorFsa21
import Derived.Test.YtnadfacbfcdkgaaDoorFsa22
import Derived.Test.YtnadfacbfcdkgaaDoorFsa23
import Derived.Test.YtnadfacbfcdkgaaDoorFsa24
import Derived.Test.YtnadfacbfcdkgaaDoorFsa25
import Derived.Test.YtnadfacbfcdkgaaDoorFsa26
import Derived.Test.YtnadfacbfcdkgaaDoorFsa27
import Derived.Test.YtnadfacbfcdkgaaDoorFsa28
import Derived.Test.YtnadfacbfcdkgaaDoorFsa29
import Derived.Test.YtnadfacbfcdkgaaDoorFsa30
import Derived.Test.YtnadfacbfcdkgaaDoorFsa31
import Derived.Test.YtnadfacbfcdkgaaDoorFsa32
import Derived.Test.YtnadfacbfcdkgaaDoorFsa33
import Derived.Test.YtnadfacbfcdkgaaDoorFsa34
import Derived.Test.YtnadfacbfcdkgaaDoorFsa35
import Derived.Test.YtnadfacbfcdkgaaDoorFsa36
import Derived.Test.YtnadfacbfcdkgaaDoorFsa37
import Derived.Test.YtnadfacbfcdkgaaDoorFsa38
import Derived.Test.YtnadfacbfcdkgaaDoorFsa39
import Derived.Deep.WholeRow
import Derived.BigRegion
import Derived.Deep.RegionHeld3
import Derived.Laws.BytesArg
import Derived.Laws.MakeOwn
import Derived.Deep.QuietTactic
import Derived.BigQuiet
import Derived.Test.YtnadfacbfcdkgaaDoorRows
import Derived.WalkKit
import Derived.Laws.BitsAllLaws
import Derived.Laws.BitsLemmas
import Derived.Laws.Bits128
import Derived.Laws.AppendOwn
import Derived.Laws.AppendOwnNone
import Derived.Laws.OwnMore
import Derived.OwnWalk
import Derived.KernelRfl
import Derived.Below
import Derived.Deep.Draws
import Derived.Laws.World
import Derived.Laws.Shifts
import Derived.Laws.ShiftsVarLaws
import Derived.Laws.StructEq
import Derived.Deep.RegionWith
import Derived.Deep.DeepCutAuto
namespace Go.Proofs.YtnadfacbfcdkgaaDoor
open Go.RowKit
set_option linter.unusedVariables false
set_option linter.unusedSimpArgs false
/-- Cells put one behind the other. -/
def setMany (cur : Array Value) (j : Nat) : List Value → Array Value
  | [] => cur
  | v :: vs => setMany (cur.setIfInBounds j v) (j + 1) vs
theorem setRow_self {W : World} {g : Nat} {t : TypeId} {cs : Array Value} (h : Blk W g t cs) : W.setRow g cs = W := by
  have hlt : g < W.heap.size := h.lt
  have hv : W.heap[g] = .cells cs t (0, 0) := (Array.getElem?_eq_some_iff.1 h).2
  unfold World.setRow
  cases W with
  | mk heap tape drawn os output =>
    congr 1
    apply Array.ext
    · simp
    · intro k h1 h2
      simp only [Array.getElem_modify]
      split
      · rename_i hk; subst hk; simp at hv; simp [hv]
      · rfl
theorem run_storeCells_off (g k : Nat) (t : TypeId) : ∀ (vs : List Value) (i : Nat) (cur : Array Value) (w : World), Blk w g t cur → k + i + vs.length ≤ cur.size → (∀ v ∈ vs, v.oneCell' = true) →
    (storeCells ⟨g, k, none⟩ vs i).run Tryd.prog w = .ok () (w.setRow g (setMany cur (k + i) vs))
  | [], i, cur, w, hg, hl, _ => by
    simp only [storeCells, setMany]
    rw [setRow_self hg]
    rfl
  | v :: rest, i, cur, w, hg, hl, h1 => by
    have hi : k + i < cur.size := by simp at hl; omega
    have hadd : (⟨g, k, none⟩ : Addr).add i = ⟨g, k + i, none⟩ := Go.WideShapes.add_plain ..
    have hcell : w.cell? ⟨g, k + i, none⟩ = some cur[k + i] := hg.cell (k + i) _ (by simp [hi])
    have hfro : w.frozen? ⟨g, k + i, none⟩ = false := hg.frozen _
    have hst : (store ((⟨g, k, none⟩ : Addr).add i) v).run Tryd.prog w = .ok () (w.setRow g (cur.setIfInBounds (k + i) v)) := by
      rw [hadd, run_store Tryd.prog w _ v _ (h1 v (by simp)), hcell]
      simp [hfro, setCell_eq_setRow w g (k + i) cur t (0, 0) v hg]
    have ih := run_storeCells_off g k t rest (i + 1) (cur.setIfInBounds (k + i) v) (w.setRow g (cur.setIfInBounds (k + i) v)) (hg.set _) (by simp at hl ⊢; omega) (fun x hx => h1 x (by simp [hx]))
    simp only [storeCells, Sem.run_bind, hst, Result.andThen_ok, ih, setRow_setRow, setMany]
    rfl
theorem run_storeVar_off {W : World} {g k : Nat} {t ty : TypeId} {cur cells : Array Value} (h : Blk W g t cur) (hi : (Tryd.prog.info? ty).map (·.size) = some cells.size) (hl : k + cells.size ≤ cur.size) (h1 : cells.all (·.oneCell') = true) :
    (storeVar ty ⟨g, k, none⟩ (.agg cells)).run Tryd.prog W = .ok () (W.setRow g (setMany cur k cells.toList)) := by
  have := run_storeCells_off g k t cells.toList 0 cur W h (by simp; omega) (fun v hv => (Array.all_eq_true_iff_forall_mem.1 h1) v (by simpa using hv))
  cases hq : Tryd.prog.info? ty with
  | none => simp [hq] at hi
  | some i =>
    have hs : cells.size = i.size := by simp [hq] at hi; omega
    simp [storeVar, sizeOf, typeInfo, hq, Value.cells, hs, this]
theorem wpList_store_off {ops : Array Oper} {rest : List Oper} {o : Oper} {ac : Act} {Q : Exit → Act → World → Prop} {w : World} (hgd : o.guard = none) (ty : TypeId) (p x : Operand) (ho : o.op = Op.store ty p x) (g k : Nat) (t : TypeId) (cs cur new : Array Value)
    (hp : ac.eval p = .pointer (some ⟨g, k, none⟩)) (hx : ac.eval x = .agg cs) (hb : Blk w g t cur) (hi : (Tryd.prog.info? ty).map (·.size) = some cs.size) (hl : k + cs.size ≤ cur.size) (h1 : cs.all (·.oneCell') = true) (hn : setMany cur k cs.toList = new) (h : wpList Tryd.prog ops Q rest (ac.put o.dst undef) (w.setRow g new)) : wpList Tryd.prog ops Q (o :: rest) ac w := by
  refine wpList_plain hgd fun K hK => ?_
  subst hn
  unfold Oper.wp execOp
  simp only [ho, hp, hx, Instr.storeAt, Instr.sureAddr, Sem.run_bind, Sem.run_pure, Result.andThen_ok, run_storeVar_off hb hi hl h1]
  exact hK _ _ h
end Go.Proofs.YtnadfacbfcdkgaaDoor
