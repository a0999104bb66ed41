/-
  No cell of these rows narrows 'for every input' (looked for: loops, veiled, ifaces, maps, wideKeys, modest, calm, conditions, laid).
  DERIVED. THE GIVEN ROWS OF THIS SEAT. 6 by the template 'for every input the law returns true; each argument reads behind the call as it read before'; 0 by the template 'total and deterministic' (their statements: YtkgackhgbblobaaTotals.lean).
  GIVEN WITH THE SEED: the statements are not yours to turn. If you find one false, say at which input.
  Laid BY PROGRAM, IN A SANDBOX (cutbox-rows.mjs): the forced cells as the released guide's own fill.sh prints them over the translation 83fe2d301279cb5e… (all of the seat's roots in one cut). By AI agents, Wed Nov 11 2026. No macro, syntax, notation, axiom, sorry.
-/
import Derived.Test.YtkgackhgbblobaaChecked
import GoSem.Claim
import GoSem.ClaimJoined
import GoSem.ClaimMapViews
import Derived.JoinedTies
import Derived.KernelRfl
namespace Go.Proofs.Ytkgackhgbblobaa
/- THE CELL 'sum', in the pinned program and in every row, IS THE sha256 OF THE DUMP (.gsa) THAT YtkgackhgbblobaaProg.lean LOADS. Nothing in Lean hashes anything: it is a label: what it is worth is what the hold of that sum in a sandbox is worth. -/
noncomputable def Try.pinned : Pinned := { name := "ytkgackhgbblobaa", sum := "83fe2d301279cb5e3c3943ec1aa27e3b12824ce7fb9e2690a850bb55f2aaf597", checked := Try.checked }
namespace Rows
def none {H : Type} : Left H := { results := [], args := [] }

/-- 'stockadelaw03.Ip4Reads': WHATEVER THE INPUT: true; the input reads as it did. -/
def ip4ReadsSpec : ChangeSpec := { name := "ip4Reads", fn := fun _ => fun
  | [d] => { results := [.lit (.bool true)], args := [d] }
  | _ => none }
def ip4ReadsRow : OpenClaim := { program := "ytkgackhgbblobaa", sum := "83fe2d301279cb5e3c3943ec1aa27e3b12824ce7fb9e2690a850bb55f2aaf597", func := "stockade/stockadelaw03.Ip4Reads", spec := "ip4Reads", unfollowed := true, recurses := true, apart := false }
def Ip4ReadsSaid : Prop := ip4ReadsRow.holds Try.pinned (OpenSpec.ofChange ip4ReadsSpec)

/-- ITS FALSE NEIGHBOUR: 'it returns false'. Refute it at one input. -/
def ip4ReadsWrong : ChangeSpec := { name := "ip4Reads", fn := fun _ => fun
  | [d] => { results := [.lit (.bool false)], args := [d] }
  | _ => none }
def Ip4ReadsWrongFalsely : Prop := ip4ReadsRow.holds Try.pinned (OpenSpec.ofChange ip4ReadsWrong)

/-- 'stockadelaw03.Ip4Writes': WHATEVER THE INPUT: true; the input reads as it did. -/
def ip4WritesSpec : ChangeSpec := { name := "ip4Writes", fn := fun _ => fun
  | [d] => { results := [.lit (.bool true)], args := [d] }
  | _ => none }
def ip4WritesRow : OpenClaim := { program := "ytkgackhgbblobaa", sum := "83fe2d301279cb5e3c3943ec1aa27e3b12824ce7fb9e2690a850bb55f2aaf597", func := "stockade/stockadelaw03.Ip4Writes", spec := "ip4Writes", unfollowed := true, recurses := true, apart := false }
def Ip4WritesSaid : Prop := ip4WritesRow.holds Try.pinned (OpenSpec.ofChange ip4WritesSpec)

/-- ITS FALSE NEIGHBOUR: 'it returns false'. Refute it at one input. -/
def ip4WritesWrong : ChangeSpec := { name := "ip4Writes", fn := fun _ => fun
  | [d] => { results := [.lit (.bool false)], args := [d] }
  | _ => none }
def Ip4WritesWrongFalsely : Prop := ip4WritesRow.holds Try.pinned (OpenSpec.ofChange ip4WritesWrong)

/-- 'stockadelaw03.Ip4Back': WHATEVER THE INPUT: true; the input reads as it did. -/
def ip4BackSpec : ChangeSpec := { name := "ip4Back", fn := fun _ => fun
  | [d] => { results := [.lit (.bool true)], args := [d] }
  | _ => none }
def ip4BackRow : OpenClaim := { program := "ytkgackhgbblobaa", sum := "83fe2d301279cb5e3c3943ec1aa27e3b12824ce7fb9e2690a850bb55f2aaf597", func := "stockade/stockadelaw03.Ip4Back", spec := "ip4Back", unfollowed := true, recurses := true, apart := false }
def Ip4BackSaid : Prop := ip4BackRow.holds Try.pinned (OpenSpec.ofChange ip4BackSpec)

/-- ITS FALSE NEIGHBOUR: 'it returns false'. Refute it at one input. -/
def ip4BackWrong : ChangeSpec := { name := "ip4Back", fn := fun _ => fun
  | [d] => { results := [.lit (.bool false)], args := [d] }
  | _ => none }
def Ip4BackWrongFalsely : Prop := ip4BackRow.holds Try.pinned (OpenSpec.ofChange ip4BackWrong)

/-- 'stockadelaw03.Ip4Behind': WHATEVER THE INPUT: true; the input reads as it did. -/
def ip4BehindSpec : ChangeSpec := { name := "ip4Behind", fn := fun _ => fun
  | [d1, d2] => { results := [.lit (.bool true)], args := [d1, d2] }
  | _ => none }
def ip4BehindRow : OpenClaim := { program := "ytkgackhgbblobaa", sum := "83fe2d301279cb5e3c3943ec1aa27e3b12824ce7fb9e2690a850bb55f2aaf597", func := "stockade/stockadelaw03.Ip4Behind", spec := "ip4Behind", unfollowed := true, recurses := true, apart := false }
def Ip4BehindSaid : Prop := ip4BehindRow.holds Try.pinned (OpenSpec.ofChange ip4BehindSpec)

/-- ITS FALSE NEIGHBOUR: 'it returns false'. Refute it at one input. -/
def ip4BehindWrong : ChangeSpec := { name := "ip4Behind", fn := fun _ => fun
  | [d1, d2] => { results := [.lit (.bool false)], args := [d1, d2] }
  | _ => none }
def Ip4BehindWrongFalsely : Prop := ip4BehindRow.holds Try.pinned (OpenSpec.ofChange ip4BehindWrong)

/-- 'stockadelaw03.Ip4Turned': WHATEVER THE INPUT: true; the input reads as it did. -/
def ip4TurnedSpec : ChangeSpec := { name := "ip4Turned", fn := fun _ => fun
  | [d1, d2, d3] => { results := [.lit (.bool true)], args := [d1, d2, d3] }
  | _ => none }
def ip4TurnedRow : OpenClaim := { program := "ytkgackhgbblobaa", sum := "83fe2d301279cb5e3c3943ec1aa27e3b12824ce7fb9e2690a850bb55f2aaf597", func := "stockade/stockadelaw03.Ip4Turned", spec := "ip4Turned", unfollowed := true, recurses := true, apart := false }
def Ip4TurnedSaid : Prop := ip4TurnedRow.holds Try.pinned (OpenSpec.ofChange ip4TurnedSpec)

/-- ITS FALSE NEIGHBOUR: 'it returns false'. Refute it at one input. -/
def ip4TurnedWrong : ChangeSpec := { name := "ip4Turned", fn := fun _ => fun
  | [d1, d2, d3] => { results := [.lit (.bool false)], args := [d1, d2, d3] }
  | _ => none }
def Ip4TurnedWrongFalsely : Prop := ip4TurnedRow.holds Try.pinned (OpenSpec.ofChange ip4TurnedWrong)

/-- 'stockadelaw03.Ip4Short': WHATEVER THE INPUT: true; the input reads as it did. -/
def ip4ShortSpec : ChangeSpec := { name := "ip4Short", fn := fun _ => fun
  | [d1, d2] => { results := [.lit (.bool true)], args := [d1, d2] }
  | _ => none }
def ip4ShortRow : OpenClaim := { program := "ytkgackhgbblobaa", sum := "83fe2d301279cb5e3c3943ec1aa27e3b12824ce7fb9e2690a850bb55f2aaf597", func := "stockade/stockadelaw03.Ip4Short", spec := "ip4Short", unfollowed := true, recurses := true, apart := false }
def Ip4ShortSaid : Prop := ip4ShortRow.holds Try.pinned (OpenSpec.ofChange ip4ShortSpec)

/-- ITS FALSE NEIGHBOUR: 'it returns false'. Refute it at one input. -/
def ip4ShortWrong : ChangeSpec := { name := "ip4Short", fn := fun _ => fun
  | [d1, d2] => { results := [.lit (.bool false)], args := [d1, d2] }
  | _ => none }
def Ip4ShortWrongFalsely : Prop := ip4ShortRow.holds Try.pinned (OpenSpec.ofChange ip4ShortWrong)

/- THE SECOND FORM. 'bulk': how many values and letters a reading holds, each counted each time it is reached (what is shared counts as often as it is met; a slice's spare places count too). A statement '..UptoSaid' is the law's where the arguments, and the package variables that the reading takes, are together of bulk at most 1048576: NARROWER than '..Said'. Prove '..Said' where nothing that the law and all that it calls make is longer than what came in: it says more and counts as full. Else prove '..UptoSaid'. A law counts once. -/
mutual
def uptoBulk {H : Type} : DataW H → Nat
  | .lit (.string bytes) => bytes.length + 1
  | .lit _ => 1
  | .nil => 1
  | .ptr d => uptoBulk d + 1
  | .slice elems spare => uptoBulkAll elems + uptoBulkAll spare + 1
  | .agg parts => uptoBulkAll parts + 1
  | .iface _ d => uptoBulk d + 1
  | .map entries => uptoBulkEntries entries + 1
  | .held _ => 1
def uptoBulkAll {H : Type} : List (DataW H) → Nat
  | [] => 0
  | d :: r => uptoBulk d + uptoBulkAll r
def uptoBulkEntries {H : Type} : List (Lit × DataW H) → Nat
  | [] => 0
  | x :: r => uptoBulkEntry x + uptoBulkEntries r
def uptoBulkEntry {H : Type} : Lit × DataW H → Nat
  | (.string bytes, d) => bytes.length + uptoBulk d + 1
  | (_, d) => uptoBulk d + 1
 end
def uptoSmall : (H : Type) → List (DataW H) → Bool := fun _ ds => decide (uptoBulkAll ds ≤ 1048576)
def OpenSpec.upto (s : _root_.Go.ChangeSpec) : _root_.Go.OpenSpec := { _root_.Go.OpenSpec.ofChange s with cond := some uptoSmall }

/-- 'stockadelaw03.Ip4Reads', WHERE WHAT IT READS IS OF BULK AT MOST 1048576: true; the input reads as it did. -/
def ip4ReadsUptoRow : OpenClaim := { program := "ytkgackhgbblobaa", sum := "83fe2d301279cb5e3c3943ec1aa27e3b12824ce7fb9e2690a850bb55f2aaf597", func := "stockade/stockadelaw03.Ip4Reads", spec := "ip4Reads", unfollowed := true, recurses := true, apart := false, narrowed := true }
def Ip4ReadsUptoSaid : Prop := ip4ReadsUptoRow.holds Try.pinned (OpenSpec.upto ip4ReadsSpec)

/-- 'stockadelaw03.Ip4Writes', WHERE WHAT IT READS IS OF BULK AT MOST 1048576: true; the input reads as it did. -/
def ip4WritesUptoRow : OpenClaim := { program := "ytkgackhgbblobaa", sum := "83fe2d301279cb5e3c3943ec1aa27e3b12824ce7fb9e2690a850bb55f2aaf597", func := "stockade/stockadelaw03.Ip4Writes", spec := "ip4Writes", unfollowed := true, recurses := true, apart := false, narrowed := true }
def Ip4WritesUptoSaid : Prop := ip4WritesUptoRow.holds Try.pinned (OpenSpec.upto ip4WritesSpec)

/-- 'stockadelaw03.Ip4Back', WHERE WHAT IT READS IS OF BULK AT MOST 1048576: true; the input reads as it did. -/
def ip4BackUptoRow : OpenClaim := { program := "ytkgackhgbblobaa", sum := "83fe2d301279cb5e3c3943ec1aa27e3b12824ce7fb9e2690a850bb55f2aaf597", func := "stockade/stockadelaw03.Ip4Back", spec := "ip4Back", unfollowed := true, recurses := true, apart := false, narrowed := true }
def Ip4BackUptoSaid : Prop := ip4BackUptoRow.holds Try.pinned (OpenSpec.upto ip4BackSpec)

/-- 'stockadelaw03.Ip4Behind', WHERE WHAT IT READS IS OF BULK AT MOST 1048576: true; the input reads as it did. -/
def ip4BehindUptoRow : OpenClaim := { program := "ytkgackhgbblobaa", sum := "83fe2d301279cb5e3c3943ec1aa27e3b12824ce7fb9e2690a850bb55f2aaf597", func := "stockade/stockadelaw03.Ip4Behind", spec := "ip4Behind", unfollowed := true, recurses := true, apart := false, narrowed := true }
def Ip4BehindUptoSaid : Prop := ip4BehindUptoRow.holds Try.pinned (OpenSpec.upto ip4BehindSpec)

/-- 'stockadelaw03.Ip4Turned', WHERE WHAT IT READS IS OF BULK AT MOST 1048576: true; the input reads as it did. -/
def ip4TurnedUptoRow : OpenClaim := { program := "ytkgackhgbblobaa", sum := "83fe2d301279cb5e3c3943ec1aa27e3b12824ce7fb9e2690a850bb55f2aaf597", func := "stockade/stockadelaw03.Ip4Turned", spec := "ip4Turned", unfollowed := true, recurses := true, apart := false, narrowed := true }
def Ip4TurnedUptoSaid : Prop := ip4TurnedUptoRow.holds Try.pinned (OpenSpec.upto ip4TurnedSpec)

/-- 'stockadelaw03.Ip4Short', WHERE WHAT IT READS IS OF BULK AT MOST 1048576: true; the input reads as it did. -/
def ip4ShortUptoRow : OpenClaim := { program := "ytkgackhgbblobaa", sum := "83fe2d301279cb5e3c3943ec1aa27e3b12824ce7fb9e2690a850bb55f2aaf597", func := "stockade/stockadelaw03.Ip4Short", spec := "ip4Short", unfollowed := true, recurses := true, apart := false, narrowed := true }
def Ip4ShortUptoSaid : Prop := ip4ShortUptoRow.holds Try.pinned (OpenSpec.upto ip4ShortSpec)

end Rows
end Go.Proofs.Ytkgackhgbblobaa
