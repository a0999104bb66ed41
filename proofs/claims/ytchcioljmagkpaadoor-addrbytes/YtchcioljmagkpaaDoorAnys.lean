/- Reading numbers and parts from any place, in one sentence each, for the program and for the reference. -/
import Derived.Test.YtchcioljmagkpaaDoorRefReads
namespace Go.Proofs.YtchcioljmagkpaaDoor
open Go.RowKit
set_option linter.unusedVariables false

def u16v (l : List Int) (x : Int) : Int := if liesB l.length x 2 then u16 l x else 0
def u32v (l : List Int) (x : Int) : Int := if liesB l.length x 4 then u32 l x else 0
def partv (l : List Int) (x n : Int) : List Int := if liesB l.length x n then part l x n else []

theorem lies_yes {len : Nat} {x n : Int} (h : liesB len x n = true) : 0 ≤ x ∧ 0 ≤ n ∧ n ≤ (len : Int) - x := by simpa [liesB] using h

theorem Fresh.none (w : World) : Fresh w w none 0 [] := ⟨Owns.nil _ _, Nat.le_refl _, fun _ => rfl, ⟨by simp, M.Bytes.nil, fun h => by simp at h⟩, Below.refl _ _⟩
end Go.Proofs.YtchcioljmagkpaaDoor
