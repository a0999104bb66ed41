/- Texts joined: BlkB FtO -/
import Derived.Test.YtnadfacbfcdkgaaDoorFsa0
import Derived.Test.YtnadfacbfcdkgaaDoorFsa1
import Derived.Test.YtnadfacbfcdkgaaDoorFsa2
import Derived.Test.YtnadfacbfcdkgaaDoorFsa3
import Derived.Test.YtnadfacbfcdkgaaDoorFsa4
import Derived.Test.YtnadfacbfcdkgaaDoorFsa5
import Derived.Test.YtnadfacbfcdkgaaDoorFsa6
import Derived.Test.YtnadfacbfcdkgaaDoorFsa7
import Derived.Test.YtnadfacbfcdkgaaDoorFsa8
import Derived.Test.YtnadfacbfcdkgaaDoorFsa9
import Derived.Test.YtnadfacbfcdkgaaDoorFsa10
import Derived.Test.YtnadfacbfcdkgaaDoorFsa11
import Derived.Test.YtnadfacbfcdkgaaDoorFsa12
import Derived.Test.YtnadfacbfcdkgaaDoorFsa13
import Derived.Test.YtnadfacbfcdkgaaDoorFsa14
import Derived.Test.YtnadfacbfcdkgaaDoorFsa15
import Derived.Test.YtnadfacbfcdkgaaDoorFsa16
import Derived.Test.YtnadfacbfcdkgaaDoorFsa17
import Derived.Test.YtnadfacbfcdkgaaDoorFsa18
import Derived.Test.YtnadfacbfcdkgaaDoorFsa19
import Derived.Test.YtnadfacbfcdkgaaDoorFsa20
import Derived.Test.YtnadfacbfcdkgaaDoorFsa21
import Derived.Test.YtnadfacbfcdkgaaDoorFsa22
import Derived.Test.YtnadfacbfcdkgaaDoorFsa23
import Derived.Test.YtnadfacbfcdkgaaDoorFsa24
import Derived.Test.YtnadfacbfcdkgaaDoorFsa25
import Derived.Test.YtnadfacbfcdkgaaDoorFsa26
import Derived.Test.YtnadfacbfcdkgaaDoorFsa27
import Derived.Test.YtnadfacbfcdkgaaDoorFsa28
import Derived.Test.YtnadfacbfcdkgaaDoorFsa29
import Derived.Test.YtnadfacbfcdkgaaDoorFsa30
import Derived.Test.YtnadfacbfcdkgaaDoorFsa31
import Derived.Test.YtnadfacbfcdkgaaDoorFsa32
import Derived.Test.YtnadfacbfcdkgaaDoorFsa33
import Derived.Test.YtnadfacbfcdkgaaDoorFsa34
import Derived.Test.YtnadfacbfcdkgaaDoorFsa35
import Derived.Test.YtnadfacbfcdkgaaDoorFsa36
import Derived.Test.YtnadfacbfcdkgaaDoorFsa37
import Derived.Test.YtnadfacbfcdkgaaDoorFsa38
import Derived.Test.YtnadfacbfcdkgaaDoorFsa39
import Derived.Test.YtnadfacbfcdkgaaDoorFsc1
import Derived.Maps.Ext
import Derived.Deep.WholeRow
import Derived.BigRegion
import Derived.Deep.RegionHeld3
import Derived.Laws.BytesArg
import Derived.Laws.MakeOwn
import Derived.Deep.QuietTactic
import Derived.BigQuiet
import Derived.Test.YtnadfacbfcdkgaaDoorRows
import Derived.WalkKit
import Derived.Laws.BitsAllLaws
import Derived.Laws.BitsLemmas
import Derived.Laws.Bits128
import Derived.Laws.AppendOwn
import Derived.Laws.AppendOwnNone
import Derived.Laws.OwnMore
import Derived.OwnWalk
import Derived.KernelRfl
import Derived.Below
import Derived.Deep.Draws
import Derived.Laws.World
import Derived.Laws.Shifts
import Derived.Laws.ShiftsVarLaws
import Derived.Laws.StructEq
import Derived.Deep.RegionWith
import Derived.Deep.DeepCutAuto
import Derived.Deep.AppendLies
import Derived.RegionTactic
import Derived.Test.YtnadfacbfcdkgaaDoorShelf
import Derived.Lib.Split
import Derived.Laws.Runes
import Derived.Laws.RangeString
import Derived.Laws.RangeAny
import Derived.LoopTactic
import Derived.Lib.SmallJoins
import Derived.Lib.AppendIntMem
import Derived.Lib.Join
import Derived.Lib.SlBytesConst
import Derived.Lib.OthersKept
import Derived.Lib.DecodeN
import Derived.Deep.Onto
import Derived.WalkSmall
namespace Go.Proofs.YtnadfacbfcdkgaaDoor
open Go.RowKit
set_option linter.unusedVariables false
set_option linter.unusedSimpArgs false
theorem Blk.but {F : Nat → Prop} {w w' : World} {g : Nat} {t : TypeId} {cs : Array Value} (h : Blk w g t cs) (hb : But F w w') (hn : ¬ F g) : Blk w' g t cs := (hb.block g h.lt hn).trans h
theorem fl_len {α : Type} (f : α → List Value) (n : Nat) (hf : ∀ a, (f a).length = n) : ∀ L : List α, (L.flatMap f).length = L.length * n
  | [] => by simp
  | a :: r => by simp only [List.flatMap_cons, List.length_append, hf, fl_len f n hf r, List.length_cons, Nat.add_mul]; omega
theorem step_rnL {ops : Array Oper} {o : Oper} {ac : Act} {K : Act → World → Prop} {Q : Exit → Act → World → Prop} {Z : Prop} {w : World} (hgd : o.guard = none) (t : TypeId) (s x : Operand)
    (ho : o.op = .call { callee := .builtin .append, args := #[s, x], argTypes := #[t, t] }) (v1 v2 : Value) (hs : ac.eval s = v1) (hx : ac.eval x = v2) (r : Value) (w' : World)
    (hrun : (Builtin.append_ #[t, t] o.type #[v1, v2]).run Tryd.prog w = .ok r w') (h : K (ac.put o.dst r) w') : if Region.wanted o (yielded ops ac.tmps) = true then Oper.wp Tryd.prog o ac w K Q else Z := by
  have hw : Region.wanted o (yielded ops ac.tmps) = true := by simp [Region.wanted, hgd]
  rw [if_pos hw]
  unfold Oper.wp execOp
  simp only [ho, resolve, invoke, builtin, Sem.run_bind, Sem.run_pure, Result.andThen_ok, List.map_toArray, List.map_cons, List.map_nil, hs, hx, hrun]
  exact h
theorem OwnAs.lt_size {w : World} {B : Nat} {a : Option Addr} {c : Nat} {l : List As} (h : OwnAs w B a c l) : ∀ y, a = some y → y.block < w.heap.size := by
  intro y hy
  obtain ⟨h1, h2⟩ := h
  rcases h2 with ⟨h2, _⟩ | ⟨g, cap, cur, h3, h4, h5, h6⟩
  · simp only [Value.slice.injEq] at h2
    rw [h2.1] at hy; cases hy
  · simp only [Value.slice.injEq] at h3
    rw [h3.1] at hy; cases hy
    exact (Array.getElem?_eq_some_iff.1 h5).1
theorem OwnAs.le {w : World} {B : Nat} {a : Option Addr} {c : Nat} {l : List As} (h : OwnAs w B a c l) : l.length ≤ c := by
  obtain ⟨h1, h2⟩ := h
  rcases h2 with ⟨h3, h4⟩ | ⟨g, cap, cur, h3, h4, h5, h6, h7⟩
  · omega
  · simp only [Value.slice.injEq] at h3
    obtain ⟨_, _, rfl⟩ := h3
    exact h6
end Go.Proofs.YtnadfacbfcdkgaaDoor
