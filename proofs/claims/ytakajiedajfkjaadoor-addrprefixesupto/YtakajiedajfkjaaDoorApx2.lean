/- Texts joined: Arg2 Tab2 -/
import Derived.Test.YtakajiedajfkjaaDoorApx1
import Derived.Test.YtakajiedajfkjaaDoorRows
import Derived.ProofKit
import Derived.OpenShut
import Derived.Lib.SmallJoins
import Derived.Lib.LaidTab
import Derived.Stop.LaidErr
import Derived.Deep.DeepHandedRow
import Derived.Deep.Strs
import Derived.ChangeSame
import Derived.Shelf.LaysM
import Derived.Shelf.Strconv.Itoa3
namespace Go.Proofs.YtakajiedajfkjaaDoor
open Go.ChangeShapes Go.WideShapes Go.ChangeAt Go.RowKit Go.Joins
set_option linter.unusedVariables false
set_option linter.constructorNameAsVariable false
set_option maxRecDepth 100000
theorem ad_ok {f h l : Int} (w0 : (Lit.int .i64 f).wf = true) (w1 : (Lit.int .u64 h).wf = true) (w2 : (Lit.int .u64 l).wf = true) : Ad.ok ⟨f, h, l⟩ := by
  refine ⟨?_, ?_, ?_⟩
  · simpa [Lit.wf, IntKind.min, IntKind.max, IntKind.signed, IntKind.bits] using w0
  · simpa [Lit.wf, IntKind.min, IntKind.max, IntKind.signed, IntKind.bits] using w1
  · simpa [Lit.wf, IntKind.min, IntKind.max, IntKind.signed, IntKind.bits] using w2
theorem list3 {cs : List Value} (h : cs.length = 3) : ∃ a b c, cs = [a, b, c] := by
  match cs, h with
  | [a, b, c], _ => exact ⟨a, b, c, rfl⟩
theorem addr_cells {H : Type} {enc : TypeId × Value → H} {W : World} {n : Nat} {cs : List Value} {y : DataW H × List MemPlace}
    (h : DataW.trod enc Tryd.prog W 0 (fun _ => true) true n 24 cs = some y) : ∃ f h l, cs = [.int .i64 f, .int .u64 h, .int .u64 l] ∧ Ad.ok ⟨f, h, l⟩ := by
  obtain ⟨y0, y1, y2, k, _, hl, h0, h1, h2⟩ := Go.Deep.trod_struct3 Tryd.underlying24 h
  have c24 : Tryd.prog.cellsOf 24 = 3 := by kernel_rfl
  have c3 : Tryd.prog.cellsOf 3 = 1 := by kernel_rfl
  have c22 : Tryd.prog.cellsOf 22 = 1 := by kernel_rfl
  rw [c24] at hl
  obtain ⟨v0, v1, v2, rfl⟩ := list3 hl
  simp only [c3, c22] at h0 h1 h2
  obtain ⟨f, e0, _, w0⟩ := DataW.trod_int Tryd.underlying3 h0
  obtain ⟨h, e1, _, w1⟩ := DataW.trod_int Tryd.underlying22 h1
  obtain ⟨l, e2, _, w2⟩ := DataW.trod_int Tryd.underlying22 h2
  simp only [List.drop_zero, List.drop_succ_cons, List.take_succ_cons, List.take_zero, List.cons.injEq, and_true] at e0 e1 e2
  subst e0 e1 e2
  exact ⟨_, _, _, rfl, ad_ok w0 w1 w2⟩
theorem open_prefix {H : Type} {enc : TypeId × Value → H} {W : World} {base : Nat} {v : Value} {d : DataW H} {p : List MemPlace}
    (hv : Value.okWide Tryd.prog W .any base 26 v) (h : DataW.Trod enc Tryd.prog W 0 (fun _ => true) true 26 v d p) :
    ∃ f h l b, v = .agg #[.int .i64 f, .int .u64 h, .int .u64 l, .int .i64 b] ∧ Ad.ok ⟨f, h, l⟩ ∧ (Lit.int .i64 b).wf = true := by
  have c26 : Tryd.prog.cellsOf 26 = 4 := by kernel_rfl
  have c24 : Tryd.prog.cellsOf 24 = 3 := by kernel_rfl
  have c3 : Tryd.prog.cellsOf 3 = 1 := by kernel_rfl
  obtain ⟨cs, rfl, hsz⟩ := okWide_struct Tryd.underlying26 hv
  obtain ⟨v0, v1, v2, v3, rfl⟩ := array4 (hsz.trans c26)
  obtain ⟨fuel, hf⟩ := h
  obtain ⟨y0, y1, n, _, _, h0, h1⟩ := trod_struct2 Tryd.underlying26 hf
  simp only [Value.cells, c24, c3] at h0 h1
  obtain ⟨f, h, l, e, ok⟩ := addr_cells h0
  obtain ⟨b, eb, _, wb⟩ := DataW.trod_int Tryd.underlying3 h1
  simp only [List.drop_zero, List.drop_succ_cons, List.take_succ_cons, List.take_zero, List.cons.injEq, and_true] at e eb
  obtain ⟨rfl, rfl, rfl⟩ := e
  subst eb
  exact ⟨f, h, l, b, rfl, ok, wb⟩
theorem maxLen_cell {W : World} (h : W.ShapedOpen Tryd.prog) : ∃ m, W.cell? ⟨0, 0, none⟩ = some (.int .i64 m) :=
  Go.Proofs.cell_of_shapedOpen_int (zero := #[.int .i64 0]) (t := 3) h (of_decide_eq_true (by kernel_rfl)) (by kernel_rfl) rfl (by kernel_rfl) (by kernel_rfl) Tryd.underlying3
def dbTab : List Int := [0, 1, 56, 2, 57, 49, 28, 3, 61, 58, 42, 50, 38, 29, 17, 4, 62, 47, 59, 36, 45, 43, 51, 22, 53, 39, 33, 30, 24, 18, 12, 5, 63, 55, 48, 27, 60, 41, 37, 16, 46, 35, 44, 21, 52, 32, 23, 11, 54, 26, 40, 15, 34, 20, 31, 10, 25, 14, 19, 9, 13, 8, 7, 6]
theorem gDb : Tryd.prog.globalNamed "math/bits.deBruijn64tab" = some 5 := by kernel_rfl
theorem gDbType : (Tryd.prog.globals[5]?).map (·.type) = some 122 := by kernel_rfl
theorem cDb : Tryd.prog.cellsOf 122 = 64 := by kernel_rfl
theorem cU8 : Tryd.prog.cellsOf 5 = 1 := by kernel_rfl
theorem db_cell {W : World} {x : String × DataW Unit} {rest : List (String × DataW Unit)} (h : laidMet Tryd.prog (x :: ("math/bits.deBruijn64tab", Rows.laid_math_bits_deBruijn64tab) :: rest) W) : W.cell? ⟨5, 15, none⟩ = some (.int .u8 4) := by
  have h1 : laidMet Tryd.prog (("math/bits.deBruijn64tab", Lib.tabData .u8 dbTab) :: rest) W := h.tail
  exact (Lib.tabIs_of_head gDb gDbType Tryd.underlying122 Tryd.underlying5 cU8 cDb h1).cell gDb 15 (by decide)
/-- What a flat datum lays, cell by cell. -/
def cell1 : DataW Unit → Value
  | .lit (.int k n) => .int k n
  | _ => .bool false
def cellsA : DataW Unit → List Value
  | .agg ds => ds.map cell1
  | _ => []
def cellsB : DataW Unit → List Value
  | .agg ds => ds.flatMap cellsA
  | _ => []
def laidOne (vs : List Value) : Obj → Obj
  | .cells _ t frozen => .cells vs.toArray t frozen
  | o => o
end Go.Proofs.YtakajiedajfkjaaDoor
namespace Go.Proofs.YtakajiedajfkjaaDoor
set_option linter.unusedVariables false
set_option maxRecDepth 100000
theorem gTen : Tryd.prog.globalNamed "internal/strconv.uint64pow10" = some 1 := by kernel_rfl
theorem gTenType : (Tryd.prog.globals[1]?).map (·.type) = some 110 := by kernel_rfl
theorem cTen : Tryd.prog.cellsOf 110 = 20 := by kernel_rfl
theorem cU64 : Tryd.prog.cellsOf 22 = 1 := by kernel_rfl
theorem ten_tab {W : World} {x y : String × DataW Unit} {rest : List (String × DataW Unit)} (h : laidMet Tryd.prog (x :: y :: ("internal/strconv.uint64pow10", Rows.laid_internal_strconv_uint64pow10) :: rest) W) : Lib.TabIs Tryd.prog W "internal/strconv.uint64pow10" .u64 Lib.pow10Tab := by
  have h1 : laidMet Tryd.prog (("internal/strconv.uint64pow10", Lib.tabData .u64 Lib.pow10Tab) :: rest) W := h.tail.tail
  exact Lib.tabIs_of_head gTen gTenType Tryd.underlying110 Tryd.underlying22 cU64 cTen h1
end Go.Proofs.YtakajiedajfkjaaDoor
