/- Texts joined: Ord RByt -/
import Derived.Test.YtmmnjjcopdabcaaTcx6
import Derived.Deep.RegionHeld3
import Derived.Deep.DeepCutAuto
import Derived.RegionTactic
import Derived.BigRegion
namespace Go.Proofs.Ytmmnjjcopdabcaa
open Go.RowKit
set_option linter.unusedVariables false
set_option linter.unusedSimpArgs false
def cmp3 (x y : Int) : Int := if x < y then -1 else if y < x then 1 else 0
def Ad.order (a b : Ad) : Int := if cmp3 a.fam b.fam = 0 then (if cmp3 a.hi b.hi = 0 then cmp3 a.lo b.lo else cmp3 a.hi b.hi) else cmp3 a.fam b.fam
/-- The box of an address stands. -/
structure Boxed (w w' : World) (f h l : Int) : Prop where
 a0 : w'.cell? ⟨w.heap.size, 0, none⟩ = some (.int .i64 f)
 a1 : w'.cell? ⟨w.heap.size, 1, none⟩ = some (.int .u64 h)
 a2 : w'.cell? ⟨w.heap.size, 2, none⟩ = some (.int .u64 l)
 bel : Below w.heap.size w w'
 size : w.heap.size < w'.heap.size
theorem Boxed.below {w w' w'' : World} {f h l : Int} (x : Boxed w w' f h l) (hb : Below (w.heap.size + 1) w' w'') : Boxed w w'' f h l :=
  ⟨(hb.cell (p := ⟨w.heap.size, 0, none⟩) (by simp)).trans x.a0, (hb.cell (p := ⟨w.heap.size, 1, none⟩) (by simp)).trans x.a1, (hb.cell (p := ⟨w.heap.size, 2, none⟩) (by simp)).trans x.a2,
   x.bel.trans (hb.mono (by omega)), by have := x.size; have := hb.size; omega⟩
end Go.Proofs.Ytmmnjjcopdabcaa
