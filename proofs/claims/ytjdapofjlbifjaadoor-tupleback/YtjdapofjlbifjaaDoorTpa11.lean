/- Texts joined: Tab2 TuM BlkY -/
import Derived.Test.YtjdapofjlbifjaaDoorTpa10
import Derived.Shelf.Strconv.Itoa3
namespace Go.Proofs.YtjdapofjlbifjaaDoor
set_option linter.unusedVariables false
set_option maxRecDepth 100000
theorem gTen : Tryd.prog.globalNamed "internal/strconv.uint64pow10" = some 0 := by kernel_rfl
theorem gTenType : (Tryd.prog.globals[0]?).map (·.type) = some 90 := by kernel_rfl
theorem cTen : Tryd.prog.cellsOf 90 = 20 := by kernel_rfl
theorem cU64 : Tryd.prog.cellsOf 22 = 1 := by kernel_rfl
theorem ten_tab {W : World} {x y : String × DataW Unit} {rest : List (String × DataW Unit)} (h : laidMet Tryd.prog (x :: y :: ("internal/strconv.uint64pow10", Rows.laid_internal_strconv_uint64pow10) :: rest) W) : Lib.TabIs Tryd.prog W "internal/strconv.uint64pow10" .u64 Lib.pow10Tab := by
  have h1 : laidMet Tryd.prog (("internal/strconv.uint64pow10", Lib.tabData .u64 Lib.pow10Tab) :: rest) W := h.tail.tail
  exact Lib.tabIs_of_head gTen gTenType Tryd.underlying90 Tryd.underlying22 cU64 cTen h1
end Go.Proofs.YtjdapofjlbifjaaDoor
namespace Go.Proofs.YtjdapofjlbifjaaDoor
open Go.RowKit Go.ChangeShapes Go.WideShapes Go.ChangeAt
set_option linter.unusedVariables false
set_option linter.unusedSimpArgs false
set_option linter.constructorNameAsVariable false
theorem ls10 {cs : List Value} (h : cs.length = 10) : ∃ v0 v1 v2 v3 v4 v5 v6 v7 v8 v9, cs = [v0, v1, v2, v3, v4, v5, v6, v7, v8, v9] := by
  match cs, h with
  | [v0, v1, v2, v3, v4, v5, v6, v7, v8, v9], _ => exact ⟨v0, v1, v2, v3, v4, v5, v6, v7, v8, v9, rfl⟩
theorem one_v {x y : Value} (h : [x] = [y]) : x = y := (List.cons.inj h).1
set_option maxRecDepth 100000 in
theorem way_cells {H : Type} {enc : TypeId × Value → H} {W : World} {fuel : Nat} {cs : List Value} {y : DataW H × List MemPlace} (hf0 : DataW.trod enc Tryd.prog W 0 (fun _ => true) true fuel 26 cs = some y) :
    ∃ q : Wy, cs = q.v.toList ∧ q.ok := by
  have cc : Tryd.prog.cellsOf 26 = 10 := by kernel_rfl
  have cA : Tryd.prog.cellsOf 24 = 3 := by kernel_rfl
  have cI : Tryd.prog.cellsOf 3 = 1 := by kernel_rfl
  obtain ⟨xs, n, _, hx, hl, hlen, hf⟩ := DataW.trod_struct Tryd.underlying26 hf0
  obtain ⟨v0, v1, v2, v3, v4, v5, v6, v7, v8, v9, rfl⟩ := ls10 (hl.trans cc)
  obtain ⟨y0, y1, y2, y3, y4, y5, rfl⟩ : ∃ y0 y1 y2 y3 y4 y5, xs = [y0, y1, y2, y3, y4, y5] := by
    match xs, hlen with
    | [y0, y1, y2, y3, y4, y5], _ => exact ⟨y0, y1, y2, y3, y4, y5, rfl⟩
  have h0 : DataW.trod enc Tryd.prog W 0 (fun _ => true) true n 3 ((([v0, v1, v2, v3, v4, v5, v6, v7, v8, v9] : List Value).drop 0).take (Tryd.prog.cellsOf 3)) = some y0 := hf 0 _ rfl
  have h1 : DataW.trod enc Tryd.prog W 0 (fun _ => true) true n 3 ((([v0, v1, v2, v3, v4, v5, v6, v7, v8, v9] : List Value).drop 1).take (Tryd.prog.cellsOf 3)) = some y1 := hf 1 _ rfl
  have h2 : DataW.trod enc Tryd.prog W 0 (fun _ => true) true n 24 ((([v0, v1, v2, v3, v4, v5, v6, v7, v8, v9] : List Value).drop 2).take (Tryd.prog.cellsOf 24)) = some y2 := hf 2 _ rfl
  have h3 : DataW.trod enc Tryd.prog W 0 (fun _ => true) true n 24 ((([v0, v1, v2, v3, v4, v5, v6, v7, v8, v9] : List Value).drop 5).take (Tryd.prog.cellsOf 24)) = some y3 := hf 3 _ rfl
  have h4 : DataW.trod enc Tryd.prog W 0 (fun _ => true) true n 3 ((([v0, v1, v2, v3, v4, v5, v6, v7, v8, v9] : List Value).drop 8).take (Tryd.prog.cellsOf 3)) = some y4 := hf 4 _ rfl
  have h5 : DataW.trod enc Tryd.prog W 0 (fun _ => true) true n 3 ((([v0, v1, v2, v3, v4, v5, v6, v7, v8, v9] : List Value).drop 9).take (Tryd.prog.cellsOf 3)) = some y5 := hf 5 _ rfl
  simp only [cA, cI, List.drop_zero, List.drop_succ_cons, List.take_succ_cons, List.take_zero] at h0 h1 h2 h3 h4 h5
  obtain ⟨fam, e0, _, _⟩ := DataW.trod_int Tryd.underlying3 h0
  obtain rfl := one_v e0
  obtain ⟨pr, e1, _, _⟩ := DataW.trod_int Tryd.underlying3 h1
  obtain rfl := one_v e1
  obtain ⟨sf, sh, sl, e2, ok2⟩ := addr_cells h2
  simp only [List.cons.injEq, and_true] at e2
  obtain ⟨rfl, rfl, rfl⟩ := e2
  obtain ⟨df, dh, dl, e3, ok3⟩ := addr_cells h3
  simp only [List.cons.injEq, and_true] at e3
  obtain ⟨rfl, rfl, rfl⟩ := e3
  obtain ⟨sp, e4, _, _⟩ := DataW.trod_int Tryd.underlying3 h4
  obtain rfl := one_v e4
  obtain ⟨dp, e5, _, _⟩ := DataW.trod_int Tryd.underlying3 h5
  obtain rfl := one_v e5
  exact ⟨⟨fam, pr, ⟨sf, sh, sl⟩, ⟨df, dh, dl⟩, sp, dp⟩, rfl, ok2, ok3⟩
set_option maxRecDepth 100000 in
theorem open_way {H : Type} {enc : TypeId × Value → H} {W : World} {base : Nat} {v : Value} {d : DataW H} {p : List MemPlace}
    (hv : Value.okWide Tryd.prog W .any base 26 v) (h : DataW.Trod enc Tryd.prog W 0 (fun _ => true) true 26 v d p) :
    ∃ q : Wy, v = .agg q.v ∧ q.ok := by
  obtain ⟨cs, rfl, _⟩ := okWide_struct Tryd.underlying26 hv
  obtain ⟨fuel, hf⟩ := h
  obtain ⟨q, e, ok⟩ := way_cells hf
  refine ⟨q, ?_, ok⟩
  simp only [Value.cells] at e
  congr 1
  exact Array.ext' e
end Go.Proofs.YtjdapofjlbifjaaDoor
namespace Go.Proofs.YtjdapofjlbifjaaDoor
open Go.RowKit
set_option linter.unusedVariables false
theorem yieldsIf_blk_w {ops : Array Oper} {S : World → Prop} {o : Oper} {ac : Act} (hw : Region.wanted o (yielded ops ac.tmps) = true) (t : TypeId) (p : Operand) (ho : o.op = Op.load t p) (g : Nat) (hp : ac.eval p = .pointer (some ⟨g, 0, none⟩)) (cs : Array Value)
    (hS : ∀ w, S w → Blk w g t cs) {fs : _} (hu : Tryd.prog.underlying t = some (.struct fs)) (hi : (Tryd.prog.info? t).map (·.size) = some cs.size) : YieldsIf Tryd.prog ops S o (.agg cs) ac := by
  refine .inl ⟨hw, fun w hw' => ?_⟩
  have hl := load_blk (hS w hw') hu hi
  simp [execOp, ho, hp, Instr.loadAt, Instr.sureAddr, hl, Result.andThen]
end Go.Proofs.YtjdapofjlbifjaaDoor
