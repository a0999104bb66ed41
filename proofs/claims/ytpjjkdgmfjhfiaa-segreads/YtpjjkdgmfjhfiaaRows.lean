/-
  No cell of these rows narrows 'for every input' (looked for: loops, veiled, ifaces, maps, wideKeys, modest, calm, conditions, laid).
  DERIVED. THE GIVEN ROWS OF THIS SEAT. 7 by the template 'for every input the law returns true; each argument reads behind the call as it read before'; 0 by the template 'total and deterministic' (their statements: YtpjjkdgmfjhfiaaTotals.lean).
  GIVEN WITH THE SEED: the statements are not yours to turn. If you find one false, say at which input.
  Laid BY PROGRAM, IN A SANDBOX (cutbox-rows.mjs): the forced cells as the released guide's own fill.sh prints them over the translation 9101fef48833c05d… (all of the seat's roots in one cut). By AI agents, Wed Nov 11 2026. No macro, syntax, notation, axiom, sorry.
-/
import Derived.Test.YtpjjkdgmfjhfiaaChecked
import GoSem.Claim
import GoSem.ClaimJoined
import GoSem.ClaimMapViews
import Derived.JoinedTies
import Derived.KernelRfl
namespace Go.Proofs.Ytpjjkdgmfjhfiaa
/- THE CELL 'sum', in the pinned program and in every row, IS THE sha256 OF THE DUMP (.gsa) THAT YtpjjkdgmfjhfiaaProg.lean LOADS. Nothing in Lean hashes anything: it is a label: what it is worth is what the hold of that sum in a sandbox is worth. -/
noncomputable def Try.pinned : Pinned := { name := "ytpjjkdgmfjhfiaa", sum := "9101fef48833c05dbcb0dd319901a68000fc4a7079cf15d7dcabe1d4f54dc83f", checked := Try.checked }
namespace Rows
def none {H : Type} : Left H := { results := [], args := [] }

/-- 'stockadelaw05.SegPseudos': WHATEVER THE INPUT: true; the input reads as it did. -/
def segPseudosSpec : ChangeSpec := { name := "segPseudos", fn := fun _ => fun
  | [d1, d2, d3] => { results := [.lit (.bool true)], args := [d1, d2, d3] }
  | _ => none }
def segPseudosRow : OpenClaim := { program := "ytpjjkdgmfjhfiaa", sum := "9101fef48833c05dbcb0dd319901a68000fc4a7079cf15d7dcabe1d4f54dc83f", func := "stockade/stockadelaw05.SegPseudos", spec := "segPseudos", unfollowed := true, recurses := true, apart := false }
def SegPseudosSaid : Prop := segPseudosRow.holds Try.pinned (OpenSpec.ofChange segPseudosSpec)

/-- ITS FALSE NEIGHBOUR: 'it returns false'. Refute it at one input. -/
def segPseudosWrong : ChangeSpec := { name := "segPseudos", fn := fun _ => fun
  | [d1, d2, d3] => { results := [.lit (.bool false)], args := [d1, d2, d3] }
  | _ => none }
def SegPseudosWrongFalsely : Prop := segPseudosRow.holds Try.pinned (OpenSpec.ofChange segPseudosWrong)

/-- 'stockadelaw05.SegReads': WHATEVER THE INPUT: true; the input reads as it did. -/
def segReadsSpec : ChangeSpec := { name := "segReads", fn := fun _ => fun
  | [d] => { results := [.lit (.bool true)], args := [d] }
  | _ => none }
def segReadsRow : OpenClaim := { program := "ytpjjkdgmfjhfiaa", sum := "9101fef48833c05dbcb0dd319901a68000fc4a7079cf15d7dcabe1d4f54dc83f", func := "stockade/stockadelaw05.SegReads", spec := "segReads", unfollowed := true, recurses := true, apart := false }
def SegReadsSaid : Prop := segReadsRow.holds Try.pinned (OpenSpec.ofChange segReadsSpec)

/-- ITS FALSE NEIGHBOUR: 'it returns false'. Refute it at one input. -/
def segReadsWrong : ChangeSpec := { name := "segReads", fn := fun _ => fun
  | [d] => { results := [.lit (.bool false)], args := [d] }
  | _ => none }
def SegReadsWrongFalsely : Prop := segReadsRow.holds Try.pinned (OpenSpec.ofChange segReadsWrong)

/-- 'stockadelaw05.SegWrites': WHATEVER THE INPUT: true; the input reads as it did. -/
def segWritesSpec : ChangeSpec := { name := "segWrites", fn := fun _ => fun
  | [d] => { results := [.lit (.bool true)], args := [d] }
  | _ => none }
def segWritesRow : OpenClaim := { program := "ytpjjkdgmfjhfiaa", sum := "9101fef48833c05dbcb0dd319901a68000fc4a7079cf15d7dcabe1d4f54dc83f", func := "stockade/stockadelaw05.SegWrites", spec := "segWrites", unfollowed := true, recurses := true, apart := false }
def SegWritesSaid : Prop := segWritesRow.holds Try.pinned (OpenSpec.ofChange segWritesSpec)

/-- ITS FALSE NEIGHBOUR: 'it returns false'. Refute it at one input. -/
def segWritesWrong : ChangeSpec := { name := "segWrites", fn := fun _ => fun
  | [d] => { results := [.lit (.bool false)], args := [d] }
  | _ => none }
def SegWritesWrongFalsely : Prop := segWritesRow.holds Try.pinned (OpenSpec.ofChange segWritesWrong)

/-- 'stockadelaw05.SegBack': WHATEVER THE INPUT: true; the input reads as it did. -/
def segBackSpec : ChangeSpec := { name := "segBack", fn := fun _ => fun
  | [d] => { results := [.lit (.bool true)], args := [d] }
  | _ => none }
def segBackRow : OpenClaim := { program := "ytpjjkdgmfjhfiaa", sum := "9101fef48833c05dbcb0dd319901a68000fc4a7079cf15d7dcabe1d4f54dc83f", func := "stockade/stockadelaw05.SegBack", spec := "segBack", unfollowed := true, recurses := true, apart := false }
def SegBackSaid : Prop := segBackRow.holds Try.pinned (OpenSpec.ofChange segBackSpec)

/-- ITS FALSE NEIGHBOUR: 'it returns false'. Refute it at one input. -/
def segBackWrong : ChangeSpec := { name := "segBack", fn := fun _ => fun
  | [d] => { results := [.lit (.bool false)], args := [d] }
  | _ => none }
def SegBackWrongFalsely : Prop := segBackRow.holds Try.pinned (OpenSpec.ofChange segBackWrong)

/-- 'stockadelaw05.SegTurned': WHATEVER THE INPUT: true; the input reads as it did. -/
def segTurnedSpec : ChangeSpec := { name := "segTurned", fn := fun _ => fun
  | [d1, d2, d3] => { results := [.lit (.bool true)], args := [d1, d2, d3] }
  | _ => none }
def segTurnedRow : OpenClaim := { program := "ytpjjkdgmfjhfiaa", sum := "9101fef48833c05dbcb0dd319901a68000fc4a7079cf15d7dcabe1d4f54dc83f", func := "stockade/stockadelaw05.SegTurned", spec := "segTurned", unfollowed := true, recurses := true, apart := false }
def SegTurnedSaid : Prop := segTurnedRow.holds Try.pinned (OpenSpec.ofChange segTurnedSpec)

/-- ITS FALSE NEIGHBOUR: 'it returns false'. Refute it at one input. -/
def segTurnedWrong : ChangeSpec := { name := "segTurned", fn := fun _ => fun
  | [d1, d2, d3] => { results := [.lit (.bool false)], args := [d1, d2, d3] }
  | _ => none }
def SegTurnedWrongFalsely : Prop := segTurnedRow.holds Try.pinned (OpenSpec.ofChange segTurnedWrong)

/-- 'stockadelaw05.SegShort': WHATEVER THE INPUT: true; the input reads as it did. -/
def segShortSpec : ChangeSpec := { name := "segShort", fn := fun _ => fun
  | [d1, d2] => { results := [.lit (.bool true)], args := [d1, d2] }
  | _ => none }
def segShortRow : OpenClaim := { program := "ytpjjkdgmfjhfiaa", sum := "9101fef48833c05dbcb0dd319901a68000fc4a7079cf15d7dcabe1d4f54dc83f", func := "stockade/stockadelaw05.SegShort", spec := "segShort", unfollowed := true, recurses := true, apart := false }
def SegShortSaid : Prop := segShortRow.holds Try.pinned (OpenSpec.ofChange segShortSpec)

/-- ITS FALSE NEIGHBOUR: 'it returns false'. Refute it at one input. -/
def segShortWrong : ChangeSpec := { name := "segShort", fn := fun _ => fun
  | [d1, d2] => { results := [.lit (.bool false)], args := [d1, d2] }
  | _ => none }
def SegShortWrongFalsely : Prop := segShortRow.holds Try.pinned (OpenSpec.ofChange segShortWrong)

/-- 'stockadelaw05.SegOwn': WHATEVER THE INPUT: true; the input reads as it did. -/
def segOwnSpec : ChangeSpec := { name := "segOwn", fn := fun _ => fun
  | [d] => { results := [.lit (.bool true)], args := [d] }
  | _ => none }
def segOwnRow : OpenClaim := { program := "ytpjjkdgmfjhfiaa", sum := "9101fef48833c05dbcb0dd319901a68000fc4a7079cf15d7dcabe1d4f54dc83f", func := "stockade/stockadelaw05.SegOwn", spec := "segOwn", unfollowed := true, recurses := true, apart := false }
def SegOwnSaid : Prop := segOwnRow.holds Try.pinned (OpenSpec.ofChange segOwnSpec)

/-- ITS FALSE NEIGHBOUR: 'it returns false'. Refute it at one input. -/
def segOwnWrong : ChangeSpec := { name := "segOwn", fn := fun _ => fun
  | [d] => { results := [.lit (.bool false)], args := [d] }
  | _ => none }
def SegOwnWrongFalsely : Prop := segOwnRow.holds Try.pinned (OpenSpec.ofChange segOwnWrong)

/- THE SECOND FORM. 'bulk': how many values and letters a reading holds, each counted each time it is reached (what is shared counts as often as it is met; a slice's spare places count too). A statement '..UptoSaid' is the law's where the arguments, and the package variables that the reading takes, are together of bulk at most 1048576: NARROWER than '..Said'. Prove '..Said' where nothing that the law and all that it calls make is longer than what came in: it says more and counts as full. Else prove '..UptoSaid'. A law counts once. -/
mutual
def uptoBulk {H : Type} : DataW H → Nat
  | .lit (.string bytes) => bytes.length + 1
  | .lit _ => 1
  | .nil => 1
  | .ptr d => uptoBulk d + 1
  | .slice elems spare => uptoBulkAll elems + uptoBulkAll spare + 1
  | .agg parts => uptoBulkAll parts + 1
  | .iface _ d => uptoBulk d + 1
  | .map entries => uptoBulkEntries entries + 1
  | .held _ => 1
def uptoBulkAll {H : Type} : List (DataW H) → Nat
  | [] => 0
  | d :: r => uptoBulk d + uptoBulkAll r
def uptoBulkEntries {H : Type} : List (Lit × DataW H) → Nat
  | [] => 0
  | x :: r => uptoBulkEntry x + uptoBulkEntries r
def uptoBulkEntry {H : Type} : Lit × DataW H → Nat
  | (.string bytes, d) => bytes.length + uptoBulk d + 1
  | (_, d) => uptoBulk d + 1
 end
def uptoSmall : (H : Type) → List (DataW H) → Bool := fun _ ds => decide (uptoBulkAll ds ≤ 1048576)
def OpenSpec.upto (s : _root_.Go.ChangeSpec) : _root_.Go.OpenSpec := { _root_.Go.OpenSpec.ofChange s with cond := some uptoSmall }

/-- 'stockadelaw05.SegPseudos', WHERE WHAT IT READS IS OF BULK AT MOST 1048576: true; the input reads as it did. -/
def segPseudosUptoRow : OpenClaim := { program := "ytpjjkdgmfjhfiaa", sum := "9101fef48833c05dbcb0dd319901a68000fc4a7079cf15d7dcabe1d4f54dc83f", func := "stockade/stockadelaw05.SegPseudos", spec := "segPseudos", unfollowed := true, recurses := true, apart := false, narrowed := true }
def SegPseudosUptoSaid : Prop := segPseudosUptoRow.holds Try.pinned (OpenSpec.upto segPseudosSpec)

/-- 'stockadelaw05.SegReads', WHERE WHAT IT READS IS OF BULK AT MOST 1048576: true; the input reads as it did. -/
def segReadsUptoRow : OpenClaim := { program := "ytpjjkdgmfjhfiaa", sum := "9101fef48833c05dbcb0dd319901a68000fc4a7079cf15d7dcabe1d4f54dc83f", func := "stockade/stockadelaw05.SegReads", spec := "segReads", unfollowed := true, recurses := true, apart := false, narrowed := true }
def SegReadsUptoSaid : Prop := segReadsUptoRow.holds Try.pinned (OpenSpec.upto segReadsSpec)

/-- 'stockadelaw05.SegWrites', WHERE WHAT IT READS IS OF BULK AT MOST 1048576: true; the input reads as it did. -/
def segWritesUptoRow : OpenClaim := { program := "ytpjjkdgmfjhfiaa", sum := "9101fef48833c05dbcb0dd319901a68000fc4a7079cf15d7dcabe1d4f54dc83f", func := "stockade/stockadelaw05.SegWrites", spec := "segWrites", unfollowed := true, recurses := true, apart := false, narrowed := true }
def SegWritesUptoSaid : Prop := segWritesUptoRow.holds Try.pinned (OpenSpec.upto segWritesSpec)

/-- 'stockadelaw05.SegBack', WHERE WHAT IT READS IS OF BULK AT MOST 1048576: true; the input reads as it did. -/
def segBackUptoRow : OpenClaim := { program := "ytpjjkdgmfjhfiaa", sum := "9101fef48833c05dbcb0dd319901a68000fc4a7079cf15d7dcabe1d4f54dc83f", func := "stockade/stockadelaw05.SegBack", spec := "segBack", unfollowed := true, recurses := true, apart := false, narrowed := true }
def SegBackUptoSaid : Prop := segBackUptoRow.holds Try.pinned (OpenSpec.upto segBackSpec)

/-- 'stockadelaw05.SegTurned', WHERE WHAT IT READS IS OF BULK AT MOST 1048576: true; the input reads as it did. -/
def segTurnedUptoRow : OpenClaim := { program := "ytpjjkdgmfjhfiaa", sum := "9101fef48833c05dbcb0dd319901a68000fc4a7079cf15d7dcabe1d4f54dc83f", func := "stockade/stockadelaw05.SegTurned", spec := "segTurned", unfollowed := true, recurses := true, apart := false, narrowed := true }
def SegTurnedUptoSaid : Prop := segTurnedUptoRow.holds Try.pinned (OpenSpec.upto segTurnedSpec)

/-- 'stockadelaw05.SegShort', WHERE WHAT IT READS IS OF BULK AT MOST 1048576: true; the input reads as it did. -/
def segShortUptoRow : OpenClaim := { program := "ytpjjkdgmfjhfiaa", sum := "9101fef48833c05dbcb0dd319901a68000fc4a7079cf15d7dcabe1d4f54dc83f", func := "stockade/stockadelaw05.SegShort", spec := "segShort", unfollowed := true, recurses := true, apart := false, narrowed := true }
def SegShortUptoSaid : Prop := segShortUptoRow.holds Try.pinned (OpenSpec.upto segShortSpec)

/-- 'stockadelaw05.SegOwn', WHERE WHAT IT READS IS OF BULK AT MOST 1048576: true; the input reads as it did. -/
def segOwnUptoRow : OpenClaim := { program := "ytpjjkdgmfjhfiaa", sum := "9101fef48833c05dbcb0dd319901a68000fc4a7079cf15d7dcabe1d4f54dc83f", func := "stockade/stockadelaw05.SegOwn", spec := "segOwn", unfollowed := true, recurses := true, apart := false, narrowed := true }
def SegOwnUptoSaid : Prop := segOwnUptoRow.holds Try.pinned (OpenSpec.upto segOwnSpec)

end Rows
end Go.Proofs.Ytpjjkdgmfjhfiaa
