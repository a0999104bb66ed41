/- Texts joined: Arg2 Pre -/
import Derived.Test.YtjdapofjlbifjaaDoorTpa2
import Derived.Test.YtjdapofjlbifjaaDoorRows
import Derived.ProofKit
import Derived.OpenShut
import Derived.Lib.SmallJoins
import Derived.Lib.LaidTab
import Derived.Stop.LaidErr
import Derived.Deep.DeepHandedRow
import Derived.Deep.Strs
import Derived.ChangeSame
import Derived.Shelf.LaysM
namespace Go.Proofs.YtjdapofjlbifjaaDoor
open Go.ChangeShapes Go.WideShapes Go.ChangeAt Go.RowKit Go.Joins
set_option linter.unusedVariables false
set_option linter.constructorNameAsVariable false
set_option maxRecDepth 100000
theorem ad_ok {f h l : Int} (w0 : (Lit.int .i64 f).wf = true) (w1 : (Lit.int .u64 h).wf = true) (w2 : (Lit.int .u64 l).wf = true) : Ad.ok ⟨f, h, l⟩ := by
  refine ⟨?_, ?_, ?_⟩
  · simpa [Lit.wf, IntKind.min, IntKind.max, IntKind.signed, IntKind.bits] using w0
  · simpa [Lit.wf, IntKind.min, IntKind.max, IntKind.signed, IntKind.bits] using w1
  · simpa [Lit.wf, IntKind.min, IntKind.max, IntKind.signed, IntKind.bits] using w2
theorem list3 {cs : List Value} (h : cs.length = 3) : ∃ a b c, cs = [a, b, c] := by
  match cs, h with
  | [a, b, c], _ => exact ⟨a, b, c, rfl⟩
theorem addr_cells {H : Type} {enc : TypeId × Value → H} {W : World} {n : Nat} {cs : List Value} {y : DataW H × List MemPlace}
    (h : DataW.trod enc Tryd.prog W 0 (fun _ => true) true n 24 cs = some y) : ∃ f h l, cs = [.int .i64 f, .int .u64 h, .int .u64 l] ∧ Ad.ok ⟨f, h, l⟩ := by
  obtain ⟨y0, y1, y2, k, _, hl, h0, h1, h2⟩ := Go.Deep.trod_struct3 Tryd.underlying24 h
  have c24 : Tryd.prog.cellsOf 24 = 3 := by kernel_rfl
  have c3 : Tryd.prog.cellsOf 3 = 1 := by kernel_rfl
  have c22 : Tryd.prog.cellsOf 22 = 1 := by kernel_rfl
  rw [c24] at hl
  obtain ⟨v0, v1, v2, rfl⟩ := list3 hl
  simp only [c3, c22] at h0 h1 h2
  obtain ⟨f, e0, _, w0⟩ := DataW.trod_int Tryd.underlying3 h0
  obtain ⟨h, e1, _, w1⟩ := DataW.trod_int Tryd.underlying22 h1
  obtain ⟨l, e2, _, w2⟩ := DataW.trod_int Tryd.underlying22 h2
  simp only [List.drop_zero, List.drop_succ_cons, List.take_succ_cons, List.take_zero, List.cons.injEq, and_true] at e0 e1 e2
  subst e0 e1 e2
  exact ⟨_, _, _, rfl, ad_ok w0 w1 w2⟩
theorem open_addr {H : Type} {enc : TypeId × Value → H} {W : World} {base : Nat} {v : Value} {d : DataW H} {p : List MemPlace}
    (hv : Value.okWide Tryd.prog W .any base 24 v) (h : DataW.Trod enc Tryd.prog W 0 (fun _ => true) true 24 v d p) :
    ∃ f h l, v = .agg #[.int .i64 f, .int .u64 h, .int .u64 l] ∧ Ad.ok ⟨f, h, l⟩ := by
  obtain ⟨cs, rfl, _⟩ := okWide_struct Tryd.underlying24 hv
  obtain ⟨fuel, hf⟩ := h
  obtain ⟨f, h, l, e, ok⟩ := addr_cells hf
  refine ⟨f, h, l, ?_, ok⟩
  simp only [Value.cells] at e
  congr 1
  exact Array.ext' e
def dbTab : List Int := [0, 1, 56, 2, 57, 49, 28, 3, 61, 58, 42, 50, 38, 29, 17, 4, 62, 47, 59, 36, 45, 43, 51, 22, 53, 39, 33, 30, 24, 18, 12, 5, 63, 55, 48, 27, 60, 41, 37, 16, 46, 35, 44, 21, 52, 32, 23, 11, 54, 26, 40, 15, 34, 20, 31, 10, 25, 14, 19, 9, 13, 8, 7, 6]
theorem gDb : Tryd.prog.globalNamed "math/bits.deBruijn64tab" = some 3 := by kernel_rfl
theorem gDbType : (Tryd.prog.globals[3]?).map (·.type) = some 99 := by kernel_rfl
theorem cDb : Tryd.prog.cellsOf 99 = 64 := by kernel_rfl
theorem cU8 : Tryd.prog.cellsOf 5 = 1 := by kernel_rfl
theorem db_cell {W : World} {x : String × DataW Unit} {rest : List (String × DataW Unit)} (h : laidMet Tryd.prog (x :: ("math/bits.deBruijn64tab", Rows.laid_math_bits_deBruijn64tab) :: rest) W) : W.cell? ⟨3, 15, none⟩ = some (.int .u8 4) := by
  have h1 : laidMet Tryd.prog (("math/bits.deBruijn64tab", Lib.tabData .u8 dbTab) :: rest) W := h.tail
  exact (Lib.tabIs_of_head gDb gDbType Tryd.underlying99 Tryd.underlying5 cU8 cDb h1).cell gDb 15 (by decide)
/-- What a flat datum lays, cell by cell. -/
def cell1 : DataW Unit → Value
  | .lit (.int k n) => .int k n
  | _ => .bool false
def cellsA : DataW Unit → List Value
  | .agg ds => ds.map cell1
  | _ => []
def laidOne (vs : List Value) : Obj → Obj
  | .cells _ t frozen => .cells vs.toArray t frozen
  | o => o
end Go.Proofs.YtjdapofjlbifjaaDoor
namespace Go.Proofs.YtjdapofjlbifjaaDoor
open Go.RowKit
set_option linter.unusedVariables false
set_option linter.unusedSimpArgs false
theorem kept {W w1 : World} {b o : Nat} {v : Value} (hb : Below W.heap.size W w1) (h : W.cell? ⟨b, o, none⟩ = some v) : w1.cell? ⟨b, o, none⟩ = some v :=
  (hb.cell (World.block_lt_of_cell? W _ h)).trans h
theorem kept_alloc {W w1 : World} {b o : Nat} {v : Value} (hb : Below W.heap.size W w1) (X : Obj) (h : W.cell? ⟨b, o, none⟩ = some v) : (w1.alloc X).cell? ⟨b, o, none⟩ = some v :=
  kept (hb.alloc hb.size X) h
/-- Are they one address? -/
def Ad.same (a b : Ad) : Bool := a.fam == b.fam && (a.hi == b.hi && a.lo == b.lo)
theorem Ad.same_iff {a b : Ad} : a.same b = true ↔ a = b := by
  cases a; cases b; simp [Ad.same]
def Ad.has (p : Ad) (n : Int) (a : Ad) : Bool := (a.mask n).2 == 0 && (a.mask n).1.same p
set_option maxHeartbeats 400000 in
theorem has_any (f h l b f' h' l' : Int) (w : World) (ho : Ad.ok ⟨f', h', l'⟩) :
    Calls Tryd.prog 46 #[.agg #[.int .i64 f, .int .u64 h, .int .u64 l, .int .i64 b], .agg #[.int .i64 f', .int .u64 h', .int .u64 l']] w fun e w' =>
      e = .returned (.bool (Ad.has ⟨f, h, l⟩ b ⟨f', h', l'⟩)) ∧ Below w.heap.size w w' := by
  unfold Ad.has
  have hm := fun w => mask_any f' h' l' b w ho
  generalize Ad.mask ⟨f', h', l'⟩ b = m at *
  obtain ⟨⟨mf, mh, ml⟩, me⟩ := m
  simp only at hm
  go_enter Tryd.func46, Tryd.ntmps46
  go_wp2_with fail
  refine (hm _).mono ?_
  rintro e w1 ⟨rfl, b1⟩
  have k0 : ∀ X, (w1.alloc X).cell? ⟨w.heap.size, 0, none⟩ = some (.int .i64 f) := fun X => kept_alloc b1 X (by simp)
  have k1 : ∀ X, (w1.alloc X).cell? ⟨w.heap.size, 1, none⟩ = some (.int .u64 h) := fun X => kept_alloc b1 X (by simp)
  have k2 : ∀ X, (w1.alloc X).cell? ⟨w.heap.size, 2, none⟩ = some (.int .u64 l) := fun X => kept_alloc b1 X (by simp)
  have bz : w.heap.size ≤ w1.heap.size := by have := b1.size; simp at this; omega
  by_cases he : me = 0
  · go_wp2
    all_goals go_ret
    all_goals exact ⟨by first | simp_all [Ad.same] | simp [Ad.same, *], ((((Below.refl _ _).alloc (Nat.le_refl _) _).alloc (by simp) _).trans (b1.mono (by simp; omega))).alloc bz _⟩
  · go_wp2
    go_ret
    exact ⟨by simp [he], ((((Below.refl _ _).alloc (Nat.le_refl _) _).alloc (by simp) _).trans (b1.mono (by simp; omega))).alloc bz _⟩
def Ad.rightPrefix (p : Ad) (n : Int) : Bool := p.has n p
end Go.Proofs.YtjdapofjlbifjaaDoor
