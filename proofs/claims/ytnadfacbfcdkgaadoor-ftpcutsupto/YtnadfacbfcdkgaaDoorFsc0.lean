/- Texts joined: ArgV -/
import Derived.Test.YtnadfacbfcdkgaaDoorFsa0
import Derived.Test.YtnadfacbfcdkgaaDoorFsa1
import Derived.Test.YtnadfacbfcdkgaaDoorFsa2
import Derived.Test.YtnadfacbfcdkgaaDoorFsa3
import Derived.Test.YtnadfacbfcdkgaaDoorFsa4
import Derived.Test.YtnadfacbfcdkgaaDoorFsa5
import Derived.Test.YtnadfacbfcdkgaaDoorFsa6
import Derived.Test.YtnadfacbfcdkgaaDoorFsa7
import Derived.Test.YtnadfacbfcdkgaaDoorFsa8
import Derived.Test.YtnadfacbfcdkgaaDoorFsa9
import Derived.Test.YtnadfacbfcdkgaaDoorFsa10
import Derived.Test.YtnadfacbfcdkgaaDoorFsa11
import Derived.Test.YtnadfacbfcdkgaaDoorFsa12
import Derived.Test.YtnadfacbfcdkgaaDoorFsa13
import Derived.Test.YtnadfacbfcdkgaaDoorFsa14
import Derived.Test.YtnadfacbfcdkgaaDoorFsa15
import Derived.Test.YtnadfacbfcdkgaaDoorFsa16
import Derived.Test.YtnadfacbfcdkgaaDoorFsa17
import Derived.Test.YtnadfacbfcdkgaaDoorFsa18
import Derived.Test.YtnadfacbfcdkgaaDoorFsa19
import Derived.Test.YtnadfacbfcdkgaaDoorFsa20
import Derived.Test.YtnadfacbfcdkgaaDoorFsa21
import Derived.Test.YtnadfacbfcdkgaaDoorFsa22
import Derived.Test.YtnadfacbfcdkgaaDoorFsa23
import Derived.Test.YtnadfacbfcdkgaaDoorFsa24
import Derived.Test.YtnadfacbfcdkgaaDoorFsa25
import Derived.Test.YtnadfacbfcdkgaaDoorFsa26
import Derived.Test.YtnadfacbfcdkgaaDoorFsa27
import Derived.Test.YtnadfacbfcdkgaaDoorFsa28
import Derived.Test.YtnadfacbfcdkgaaDoorFsa29
import Derived.Test.YtnadfacbfcdkgaaDoorFsa30
import Derived.Test.YtnadfacbfcdkgaaDoorFsa31
import Derived.Test.YtnadfacbfcdkgaaDoorFsa32
import Derived.Test.YtnadfacbfcdkgaaDoorFsa33
import Derived.Test.YtnadfacbfcdkgaaDoorFsa34
import Derived.Test.YtnadfacbfcdkgaaDoorFsa35
import Derived.Test.YtnadfacbfcdkgaaDoorFsa36
import Derived.Test.YtnadfacbfcdkgaaDoorFsa37
import Derived.Test.YtnadfacbfcdkgaaDoorFsa38
import Derived.Test.YtnadfacbfcdkgaaDoorFsa39
import Derived.Test.YtnadfacbfcdkgaaDoorRows
import Derived.ProofKit
import Derived.OpenShut
import Derived.Deep.DeepHandedRow
import Derived.Deep.Slices
import Derived.Deep.Strs
import Derived.ChangeSlices
import Derived.ChangeSame
import Derived.SizedLaws
import Derived.Deep.Matrix
import Derived.Below
import Derived.Deep.Draws
import Derived.Laws.World
import Derived.WalkKit
import Derived.Laws.BitsAllLaws
import Derived.Laws.BitsLemmas
import Derived.Laws.Bits128
namespace Go.Proofs.YtnadfacbfcdkgaaDoor
open Go.RowKit Go.ChangeShapes Go.WideShapes Go.ChangeAt
set_option linter.unusedVariables false
set_option linter.unusedSimpArgs false
theorem one_tc {x y : Value} (h : [x] = [y]) : x = y := (List.cons.inj h).1
theorem two_tc {cs : List Value} (h : cs.length = 2) : ∃ a b, cs = [a, b] := by
  match cs, h with
  | [a, b], _ => exact ⟨a, b, rfl⟩
theorem okWide_arr_tc {W : World} {base : Nat} {v : Value} {P : Program} {t e : TypeId} {n : Nat} (ht : P.underlying t = some (.array n e)) (h : Value.okWide P W .any base t v) : ∃ cs, v = .agg cs ∧ cs.size = P.cellsOf t := by
 simp only [Value.okWide, ht] at h
 obtain ⟨cs, h1, h2, _⟩ := h
 exact ⟨cs, h1, h2⟩
set_option maxRecDepth 100000 in
theorem open_i2 {H : Type} {enc : TypeId × Value → H} {W : World} {base : Nat} {v : Value} {d : DataW H} {p : List MemPlace}
    (hv : Value.okWide Tryd.prog W .any base 40 v) (h : DataW.Trod enc Tryd.prog W 0 (fun _ => true) true 40 v d p) :
    ∃ (a b : Int), v = .agg #[.int .i64 a, .int .i64 b] := by
  have cc : Tryd.prog.cellsOf 40 = 2 := by kernel_rfl
  have cI : Tryd.prog.cellsOf 3 = 1 := by kernel_rfl
  obtain ⟨cs, rfl, hs⟩ := okWide_arr_tc Tryd.underlying40 hv
  obtain ⟨L⟩ := cs
  obtain ⟨x, y, rfl⟩ := two_tc (show L.length = 2 by simpa using hs.trans cc)
  obtain ⟨fuel, hf0⟩ := h
  obtain ⟨xs, m, _, hx, _, hlen, hf⟩ := DataW.trod_array Tryd.underlying40 hf0
  obtain ⟨y0, y1, rfl⟩ : ∃ y0 y1, xs = [y0, y1] := by
    match xs, hlen with
    | [y0, y1], _ => exact ⟨y0, y1, rfl⟩
  have h0 : DataW.trod enc Tryd.prog W 0 (fun _ => true) true m 3 (([x, y].drop (0 * Tryd.prog.cellsOf 3)).take (Tryd.prog.cellsOf 3)) = some y0 := hf 0 (by decide)
  have h1 : DataW.trod enc Tryd.prog W 0 (fun _ => true) true m 3 (([x, y].drop (1 * Tryd.prog.cellsOf 3)).take (Tryd.prog.cellsOf 3)) = some y1 := hf 1 (by decide)
  rw [cI] at h0 h1
  obtain ⟨a, e0, _, w0⟩ := DataW.trod_int Tryd.underlying3 (show DataW.trod enc Tryd.prog W 0 (fun _ => true) true m 3 [x] = some y0 from h0)
  obtain ⟨b, e1, _, w1⟩ := DataW.trod_int Tryd.underlying3 (show DataW.trod enc Tryd.prog W 0 (fun _ => true) true m 3 [y] = some y1 from h1)
  obtain rfl := one_tc e0
  obtain rfl := one_tc e1
  exact ⟨a, b, rfl⟩
end Go.Proofs.YtnadfacbfcdkgaaDoor
