/- Texts joined: FrF FrG FrR CkW -/
import Derived.Test.YtgppfkbapieneaaDoorCfx11
import Derived.Deep.QuietTactic
import Derived.BigQuiet
import Derived.BigRegion
import Derived.Deep.RegionWith
import Derived.Deep.RegionHeld3
import Derived.ProofKit
import Derived.OpenShut
import Derived.Lib.SmallJoins
import Derived.Deep.DeepHandedRow
import Derived.Deep.Slices
import Derived.Deep.Strs
import Derived.ChangeSame
import Derived.Test.YtgppfkbapieneaaDoorRows
import Derived.Lib.LaidTab
namespace Go.Proofs.YtgppfkbapieneaaDoor
open Go.RowKit
set_option linter.unusedVariables false
set_option linter.unusedSimpArgs false
abbrev RowR (w : World) (a : Option Addr) (l : List Rl) : Prop := RowN 17 Rl.v (fun _ r => r.ok) w a l
theorem RowR.low {w w' : World} {a : Option Addr} {l : List Rl} (h : RowR w a l) (hb : Below w.heap.size w w') : RowR w' a l := RowN.below (fun h _ => h) h hb
end Go.Proofs.YtgppfkbapieneaaDoor
namespace Go.Proofs.YtgppfkbapieneaaDoor
open Go.RowKit Go.ChangeShapes Go.WideShapes Go.ChangeAt
set_option linter.unusedVariables false
set_option linter.unusedSimpArgs false
set_option linter.constructorNameAsVariable false
theorem lst3 {cs : List Value} (h : cs.length = 3) : ∃ a b c, cs = [a, b, c] := by
  match cs, h with
  | [a, b, c], _ => exact ⟨a, b, c, rfl⟩
theorem one_val {x y : Value} (h : [x] = [y]) : x = y := (List.cons.inj h).1
end Go.Proofs.YtgppfkbapieneaaDoor
namespace Go.Proofs.YtgppfkbapieneaaDoor
open Go.ChangeShapes Go.WideShapes Go.ChangeAt Go.RowKit
set_option linter.unusedVariables false
set_option linter.unusedSimpArgs false
theorem gTop : Tryd.prog.globalNamed "stockade/chunk.greatest" = some 0 := by kernel_rfl
theorem gTopType : (Tryd.prog.globals[0]?).map (·.type) = some 42 := by kernel_rfl
theorem pt_cells {H : Type} {enc : TypeId × Value → H} {W : World} {base : Nat} {spare : TypeId → Bool} {held : Bool} {n : Nat} {cs : List Value} {y : DataW H × List MemPlace}
    (h : DataW.trod enc Tryd.prog W base spare held n 42 cs = some y) : ∃ a b c, cs = [.int .u64 a, .int .u64 b, .int .u64 c] ∧ Pt.ok ⟨a, b, c⟩ ∧ y.1 = .agg [.lit (.int .u64 a), .lit (.int .u64 b), .lit (.int .u64 c)] := by
  obtain ⟨y0, y1, y2, k, hy, hl, h0, h1, h2⟩ := Go.Deep.trod_struct3 Tryd.underlying42 h
  have c24 : Tryd.prog.cellsOf 42 = 3 := by kernel_rfl
  have c22 : Tryd.prog.cellsOf 36 = 1 := by kernel_rfl
  rw [c24] at hl
  obtain ⟨v0, v1, v2, rfl⟩ := lst3 hl
  simp only [c22] at h0 h1 h2
  obtain ⟨f, e0, q0, w0⟩ := DataW.trod_int Tryd.underlying36 h0
  obtain ⟨g, e1, q1, w1⟩ := DataW.trod_int Tryd.underlying36 h1
  obtain ⟨l, e2, q2, w2⟩ := DataW.trod_int Tryd.underlying36 h2
  simp only [List.drop_zero, List.drop_succ_cons, List.take_succ_cons, List.take_zero, List.cons.injEq, and_true] at e0 e1 e2
  subst e0 e1 e2
  refine ⟨_, _, _, rfl, ?_, ?_⟩
  · refine ⟨?_, ?_, ?_⟩
    · simpa [Lit.wf, IntKind.min, IntKind.max, IntKind.signed, IntKind.bits] using w0
    · simpa [Lit.wf, IntKind.min, IntKind.max, IntKind.signed, IntKind.bits] using w1
    · simpa [Lit.wf, IntKind.min, IntKind.max, IntKind.signed, IntKind.bits] using w2
  · rw [hy, q0, q1, q2]
theorem top_of {W : World} (h : laidMet Tryd.prog [("stockade/chunk.greatest", Rows.laid_stockade_chunk_greatest)] W) : Top W := by
  obtain ⟨ps, ⟨g', t', cs, fuel, p, q, hg', ht', hvar, hd, _, _⟩, _⟩ := h
  obtain rfl := Option.some.inj (gTop.symm.trans hg')
  obtain rfl := Option.some.inj (gTopType.symm.trans ht')
  obtain ⟨a, b, c, e, _, he⟩ := pt_cells hd
  simp only [Rows.laid_stockade_chunk_greatest, DataW.agg.injEq, List.cons.injEq, DataW.lit.injEq, Lit.int.injEq, and_true, true_and] at he
  obtain ⟨rfl, rfl, rfl⟩ := he
  have hcs : cs = ptTop.v := Array.ext' e
  subst hcs
  have hc := fun i => World.var?_cell gTop hvar i
  exact ⟨World.block_lt_of_cell? W ⟨0, 0, none⟩ (hc 0), fun j v hv => by rw [Nat.zero_add, hc j]; exact hv⟩
set_option maxRecDepth 100000 in
theorem open_point {H : Type} {enc : TypeId × Value → H} {W : World} {base : Nat} {v : Value} {d : DataW H} {p : List MemPlace}
    (hv : Value.okWide Tryd.prog W .any base 42 v) (h : DataW.Trod enc Tryd.prog W 0 (fun _ => true) true 42 v d p) :
    ∃ q : Pt, v = .agg q.v ∧ q.ok := by
  obtain ⟨cs, rfl, _⟩ := okWide_struct Tryd.underlying42 hv
  obtain ⟨fuel, hf⟩ := h
  obtain ⟨a, b, c, e, ok, _⟩ := pt_cells hf
  refine ⟨⟨a, b, c⟩, ?_, ok⟩
  simp only [Value.cells] at e
  congr 1
  exact Array.ext' e
/-- What a flat datum lays, cell by cell. -/
def lay1 : DataW Unit → Value
  | .lit (.int k n) => .int k n
  | _ => .bool false
def layA : DataW Unit → List Value
  | .agg ds => ds.map lay1
  | _ => []
def layOne (vs : List Value) : Obj → Obj
  | .cells _ t frozen => .cells vs.toArray t frozen
  | o => o
end Go.Proofs.YtgppfkbapieneaaDoor
