/-
  No cell of these rows narrows 'for every input' (looked for: loops, veiled, ifaces, maps, wideKeys, modest, calm, conditions, laid).
  DERIVED. THE GIVEN ROWS OF THIS SEAT. 7 by the template 'for every input the law returns true; each argument reads behind the call as it read before'; 0 by the template 'total and deterministic' (their statements: YtmjjdbkipagkbaaTotals.lean).
  GIVEN WITH THE SEED: the statements are not yours to turn. If you find one false, say at which input.
  Laid BY PROGRAM, IN A SANDBOX (cutbox-rows.mjs): the forced cells as the released guide's own fill.sh prints them over the translation 9ce8ce5697549723… (all of the seat's roots in one cut). By AI agents, Wed Nov 11 2026. No macro, syntax, notation, axiom, sorry.
-/
import Derived.Test.YtmjjdbkipagkbaaChecked
import GoSem.Claim
import GoSem.ClaimJoined
import GoSem.ClaimMapViews
import Derived.JoinedTies
import Derived.KernelRfl
namespace Go.Proofs.Ytmjjdbkipagkbaa
/- THE CELL 'sum', in the pinned program and in every row, IS THE sha256 OF THE DUMP (.gsa) THAT YtmjjdbkipagkbaaProg.lean LOADS. Nothing in Lean hashes anything: it is a label: what it is worth is what the hold of that sum in a sandbox is worth. -/
noncomputable def Try.pinned : Pinned := { name := "ytmjjdbkipagkbaa", sum := "9ce8ce5697549723fad5e1702c92398dc67e78f5c4b64b424bf16b2c6be546d3", checked := Try.checked }
namespace Rows
def none {H : Type} : Left H := { results := [], args := [] }

/-- 'stockadelaw16.FlowRights': WHATEVER THE INPUT: true; the input reads as it did. -/
def flowRightsSpec : ChangeSpec := { name := "flowRights", fn := fun _ => fun
  | [d1, d2, d3] => { results := [.lit (.bool true)], args := [d1, d2, d3] }
  | _ => none }
def flowRightsRow : OpenClaim := { program := "ytmjjdbkipagkbaa", sum := "9ce8ce5697549723fad5e1702c92398dc67e78f5c4b64b424bf16b2c6be546d3", func := "stockade/stockadelaw16.FlowRights", spec := "flowRights", plainKeys := false, apart := false }
def FlowRightsSaid : Prop := flowRightsRow.holds Try.pinned (OpenSpec.ofChange flowRightsSpec)

/-- ITS FALSE NEIGHBOUR: 'it returns false'. Refute it at one input. -/
def flowRightsWrong : ChangeSpec := { name := "flowRights", fn := fun _ => fun
  | [d1, d2, d3] => { results := [.lit (.bool false)], args := [d1, d2, d3] }
  | _ => none }
def FlowRightsWrongFalsely : Prop := flowRightsRow.holds Try.pinned (OpenSpec.ofChange flowRightsWrong)

/-- 'stockadelaw16.FlowGoes': WHATEVER THE INPUT: true; the input reads as it did. -/
def flowGoesSpec : ChangeSpec := { name := "flowGoes", fn := fun _ => fun
  | [d1, d2, d3] => { results := [.lit (.bool true)], args := [d1, d2, d3] }
  | _ => none }
def flowGoesRow : OpenClaim := { program := "ytmjjdbkipagkbaa", sum := "9ce8ce5697549723fad5e1702c92398dc67e78f5c4b64b424bf16b2c6be546d3", func := "stockade/stockadelaw16.FlowGoes", spec := "flowGoes", plainKeys := false, apart := false }
def FlowGoesSaid : Prop := flowGoesRow.holds Try.pinned (OpenSpec.ofChange flowGoesSpec)

/-- ITS FALSE NEIGHBOUR: 'it returns false'. Refute it at one input. -/
def flowGoesWrong : ChangeSpec := { name := "flowGoes", fn := fun _ => fun
  | [d1, d2, d3] => { results := [.lit (.bool false)], args := [d1, d2, d3] }
  | _ => none }
def FlowGoesWrongFalsely : Prop := flowGoesRow.holds Try.pinned (OpenSpec.ofChange flowGoesWrong)

/-- 'stockadelaw16.FlowPlays': WHATEVER THE INPUT: true; the input reads as it did. -/
def flowPlaysSpec : ChangeSpec := { name := "flowPlays", fn := fun _ => fun
  | [d1, d2] => { results := [.lit (.bool true)], args := [d1, d2] }
  | _ => none }
def flowPlaysRow : OpenClaim := { program := "ytmjjdbkipagkbaa", sum := "9ce8ce5697549723fad5e1702c92398dc67e78f5c4b64b424bf16b2c6be546d3", func := "stockade/stockadelaw16.FlowPlays", spec := "flowPlays", unfollowed := true, recurses := true, plainKeys := false, apart := false }
def FlowPlaysSaid : Prop := flowPlaysRow.holds Try.pinned (OpenSpec.ofChange flowPlaysSpec)

/-- ITS FALSE NEIGHBOUR: 'it returns false'. Refute it at one input. -/
def flowPlaysWrong : ChangeSpec := { name := "flowPlays", fn := fun _ => fun
  | [d1, d2] => { results := [.lit (.bool false)], args := [d1, d2] }
  | _ => none }
def FlowPlaysWrongFalsely : Prop := flowPlaysRow.holds Try.pinned (OpenSpec.ofChange flowPlaysWrong)

/-- 'stockadelaw16.FlowSides': WHATEVER THE INPUT: true; the input reads as it did. -/
def flowSidesSpec : ChangeSpec := { name := "flowSides", fn := fun _ => fun
  | [d1, d2, d3] => { results := [.lit (.bool true)], args := [d1, d2, d3] }
  | _ => none }
def flowSidesRow : OpenClaim := { program := "ytmjjdbkipagkbaa", sum := "9ce8ce5697549723fad5e1702c92398dc67e78f5c4b64b424bf16b2c6be546d3", func := "stockade/stockadelaw16.FlowSides", spec := "flowSides", unfollowed := true, recurses := true, plainKeys := false, apart := false }
def FlowSidesSaid : Prop := flowSidesRow.holds Try.pinned (OpenSpec.ofChange flowSidesSpec)

/-- ITS FALSE NEIGHBOUR: 'it returns false'. Refute it at one input. -/
def flowSidesWrong : ChangeSpec := { name := "flowSides", fn := fun _ => fun
  | [d1, d2, d3] => { results := [.lit (.bool false)], args := [d1, d2, d3] }
  | _ => none }
def FlowSidesWrongFalsely : Prop := flowSidesRow.holds Try.pinned (OpenSpec.ofChange flowSidesWrong)

/-- 'stockadelaw16.FlowBounds': WHATEVER THE INPUT: true; the input reads as it did. -/
def flowBoundsSpec : ChangeSpec := { name := "flowBounds", fn := fun _ => fun
  | [d1, d2] => { results := [.lit (.bool true)], args := [d1, d2] }
  | _ => none }
def flowBoundsRow : OpenClaim := { program := "ytmjjdbkipagkbaa", sum := "9ce8ce5697549723fad5e1702c92398dc67e78f5c4b64b424bf16b2c6be546d3", func := "stockade/stockadelaw16.FlowBounds", spec := "flowBounds", unfollowed := true, recurses := true, plainKeys := false, apart := false }
def FlowBoundsSaid : Prop := flowBoundsRow.holds Try.pinned (OpenSpec.ofChange flowBoundsSpec)

/-- ITS FALSE NEIGHBOUR: 'it returns false'. Refute it at one input. -/
def flowBoundsWrong : ChangeSpec := { name := "flowBounds", fn := fun _ => fun
  | [d1, d2] => { results := [.lit (.bool false)], args := [d1, d2] }
  | _ => none }
def FlowBoundsWrongFalsely : Prop := flowBoundsRow.holds Try.pinned (OpenSpec.ofChange flowBoundsWrong)

/-- 'stockadelaw16.FlowMakes': WHATEVER THE INPUT: true; the input reads as it did. -/
def flowMakesSpec : ChangeSpec := { name := "flowMakes", fn := fun _ => fun
  | [d1, d2, d3] => { results := [.lit (.bool true)], args := [d1, d2, d3] }
  | _ => none }
def flowMakesRow : OpenClaim := { program := "ytmjjdbkipagkbaa", sum := "9ce8ce5697549723fad5e1702c92398dc67e78f5c4b64b424bf16b2c6be546d3", func := "stockade/stockadelaw16.FlowMakes", spec := "flowMakes", plainKeys := false, apart := false }
def FlowMakesSaid : Prop := flowMakesRow.holds Try.pinned (OpenSpec.ofChange flowMakesSpec)

/-- ITS FALSE NEIGHBOUR: 'it returns false'. Refute it at one input. -/
def flowMakesWrong : ChangeSpec := { name := "flowMakes", fn := fun _ => fun
  | [d1, d2, d3] => { results := [.lit (.bool false)], args := [d1, d2, d3] }
  | _ => none }
def FlowMakesWrongFalsely : Prop := flowMakesRow.holds Try.pinned (OpenSpec.ofChange flowMakesWrong)

/-- 'stockadelaw16.FlowNobody': WHATEVER THE INPUT: true; the input reads as it did. -/
def flowNobodySpec : ChangeSpec := { name := "flowNobody", fn := fun _ => fun
  | [d1, d2] => { results := [.lit (.bool true)], args := [d1, d2] }
  | _ => none }
def flowNobodyRow : OpenClaim := { program := "ytmjjdbkipagkbaa", sum := "9ce8ce5697549723fad5e1702c92398dc67e78f5c4b64b424bf16b2c6be546d3", func := "stockade/stockadelaw16.FlowNobody", spec := "flowNobody", unfollowed := true, recurses := true, plainKeys := false, apart := false }
def FlowNobodySaid : Prop := flowNobodyRow.holds Try.pinned (OpenSpec.ofChange flowNobodySpec)

/-- ITS FALSE NEIGHBOUR: 'it returns false'. Refute it at one input. -/
def flowNobodyWrong : ChangeSpec := { name := "flowNobody", fn := fun _ => fun
  | [d1, d2] => { results := [.lit (.bool false)], args := [d1, d2] }
  | _ => none }
def FlowNobodyWrongFalsely : Prop := flowNobodyRow.holds Try.pinned (OpenSpec.ofChange flowNobodyWrong)

/- THE SECOND FORM. 'bulk': how many values and letters a reading holds, each counted each time it is reached (what is shared counts as often as it is met; a slice's spare places count too). A statement '..UptoSaid' is the law's where the arguments, and the package variables that the reading takes, are together of bulk at most 1048576: NARROWER than '..Said'. Prove '..Said' where nothing that the law and all that it calls make is longer than what came in: it says more and counts as full. Else prove '..UptoSaid'. A law counts once. -/
mutual
def uptoBulk {H : Type} : DataW H → Nat
  | .lit (.string bytes) => bytes.length + 1
  | .lit _ => 1
  | .nil => 1
  | .ptr d => uptoBulk d + 1
  | .slice elems spare => uptoBulkAll elems + uptoBulkAll spare + 1
  | .agg parts => uptoBulkAll parts + 1
  | .iface _ d => uptoBulk d + 1
  | .map entries => uptoBulkEntries entries + 1
  | .held _ => 1
def uptoBulkAll {H : Type} : List (DataW H) → Nat
  | [] => 0
  | d :: r => uptoBulk d + uptoBulkAll r
def uptoBulkEntries {H : Type} : List (Lit × DataW H) → Nat
  | [] => 0
  | x :: r => uptoBulkEntry x + uptoBulkEntries r
def uptoBulkEntry {H : Type} : Lit × DataW H → Nat
  | (.string bytes, d) => bytes.length + uptoBulk d + 1
  | (_, d) => uptoBulk d + 1
 end
def uptoSmall : (H : Type) → List (DataW H) → Bool := fun _ ds => decide (uptoBulkAll ds ≤ 1048576)
def OpenSpec.upto (s : _root_.Go.ChangeSpec) : _root_.Go.OpenSpec := { _root_.Go.OpenSpec.ofChange s with cond := some uptoSmall }

/-- 'stockadelaw16.FlowRights', WHERE WHAT IT READS IS OF BULK AT MOST 1048576: true; the input reads as it did. -/
def flowRightsUptoRow : OpenClaim := { program := "ytmjjdbkipagkbaa", sum := "9ce8ce5697549723fad5e1702c92398dc67e78f5c4b64b424bf16b2c6be546d3", func := "stockade/stockadelaw16.FlowRights", spec := "flowRights", plainKeys := false, apart := false, narrowed := true }
def FlowRightsUptoSaid : Prop := flowRightsUptoRow.holds Try.pinned (OpenSpec.upto flowRightsSpec)

/-- 'stockadelaw16.FlowGoes', WHERE WHAT IT READS IS OF BULK AT MOST 1048576: true; the input reads as it did. -/
def flowGoesUptoRow : OpenClaim := { program := "ytmjjdbkipagkbaa", sum := "9ce8ce5697549723fad5e1702c92398dc67e78f5c4b64b424bf16b2c6be546d3", func := "stockade/stockadelaw16.FlowGoes", spec := "flowGoes", plainKeys := false, apart := false, narrowed := true }
def FlowGoesUptoSaid : Prop := flowGoesUptoRow.holds Try.pinned (OpenSpec.upto flowGoesSpec)

/-- 'stockadelaw16.FlowPlays', WHERE WHAT IT READS IS OF BULK AT MOST 1048576: true; the input reads as it did. -/
def flowPlaysUptoRow : OpenClaim := { program := "ytmjjdbkipagkbaa", sum := "9ce8ce5697549723fad5e1702c92398dc67e78f5c4b64b424bf16b2c6be546d3", func := "stockade/stockadelaw16.FlowPlays", spec := "flowPlays", unfollowed := true, recurses := true, plainKeys := false, apart := false, narrowed := true }
def FlowPlaysUptoSaid : Prop := flowPlaysUptoRow.holds Try.pinned (OpenSpec.upto flowPlaysSpec)

/-- 'stockadelaw16.FlowSides', WHERE WHAT IT READS IS OF BULK AT MOST 1048576: true; the input reads as it did. -/
def flowSidesUptoRow : OpenClaim := { program := "ytmjjdbkipagkbaa", sum := "9ce8ce5697549723fad5e1702c92398dc67e78f5c4b64b424bf16b2c6be546d3", func := "stockade/stockadelaw16.FlowSides", spec := "flowSides", unfollowed := true, recurses := true, plainKeys := false, apart := false, narrowed := true }
def FlowSidesUptoSaid : Prop := flowSidesUptoRow.holds Try.pinned (OpenSpec.upto flowSidesSpec)

/-- 'stockadelaw16.FlowBounds', WHERE WHAT IT READS IS OF BULK AT MOST 1048576: true; the input reads as it did. -/
def flowBoundsUptoRow : OpenClaim := { program := "ytmjjdbkipagkbaa", sum := "9ce8ce5697549723fad5e1702c92398dc67e78f5c4b64b424bf16b2c6be546d3", func := "stockade/stockadelaw16.FlowBounds", spec := "flowBounds", unfollowed := true, recurses := true, plainKeys := false, apart := false, narrowed := true }
def FlowBoundsUptoSaid : Prop := flowBoundsUptoRow.holds Try.pinned (OpenSpec.upto flowBoundsSpec)

/-- 'stockadelaw16.FlowMakes', WHERE WHAT IT READS IS OF BULK AT MOST 1048576: true; the input reads as it did. -/
def flowMakesUptoRow : OpenClaim := { program := "ytmjjdbkipagkbaa", sum := "9ce8ce5697549723fad5e1702c92398dc67e78f5c4b64b424bf16b2c6be546d3", func := "stockade/stockadelaw16.FlowMakes", spec := "flowMakes", plainKeys := false, apart := false, narrowed := true }
def FlowMakesUptoSaid : Prop := flowMakesUptoRow.holds Try.pinned (OpenSpec.upto flowMakesSpec)

/-- 'stockadelaw16.FlowNobody', WHERE WHAT IT READS IS OF BULK AT MOST 1048576: true; the input reads as it did. -/
def flowNobodyUptoRow : OpenClaim := { program := "ytmjjdbkipagkbaa", sum := "9ce8ce5697549723fad5e1702c92398dc67e78f5c4b64b424bf16b2c6be546d3", func := "stockade/stockadelaw16.FlowNobody", spec := "flowNobody", unfollowed := true, recurses := true, plainKeys := false, apart := false, narrowed := true }
def FlowNobodyUptoSaid : Prop := flowNobodyUptoRow.holds Try.pinned (OpenSpec.upto flowNobodySpec)

end Rows
end Go.Proofs.Ytmjjdbkipagkbaa
