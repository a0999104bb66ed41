/- Texts joined: Room -/
import Derived.Test.YtnggdjjmijocfaaFgn4
import Derived.Laws.MakeOwn
namespace Go.Proofs.Ytnggdjjmijocfaa
open Go.RowKit
set_option linter.unusedVariables false
theorem made_zero (N : Nat) : (madeCells #[Value.int .u8 0] N).toList = List.replicate N (Value.int .u8 0) := by
  apply List.ext_getElem
  · simp [madeCells]
  · intro i h1 h2
    simp [madeCells, Nat.mod_one]
theorem Owns.other {w : World} {B : Nat} {v : Value} {l : List Int} (h : Owns w B v l) {ad : Addr} (ha : ad.block < B) (u : Value) : Owns (w.setCell ad u) B v l := ownsRow_setCell_below h ha u
end Go.Proofs.Ytnggdjjmijocfaa
