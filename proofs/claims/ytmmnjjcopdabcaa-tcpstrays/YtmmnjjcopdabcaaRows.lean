/-
  No cell of these rows narrows 'for every input' (looked for: loops, veiled, ifaces, maps, wideKeys, modest, calm, conditions, laid).
  DERIVED. THE GIVEN ROWS OF THIS SEAT. 7 by the template 'for every input the law returns true; each argument reads behind the call as it read before'; 0 by the template 'total and deterministic' (their statements: YtmmnjjcopdabcaaTotals.lean).
  GIVEN WITH THE SEED: the statements are not yours to turn. If you find one false, say at which input.
  Laid BY PROGRAM, IN A SANDBOX (cutbox-rows.mjs): the forced cells as the released guide's own fill.sh prints them over the translation 673a616570541474… (all of the seat's roots in one cut). By AI agents, Wed Nov 11 2026. No macro, syntax, notation, axiom, sorry.
-/
import Derived.Test.YtmmnjjcopdabcaaChecked
import GoSem.Claim
import GoSem.ClaimJoined
import GoSem.ClaimMapViews
import Derived.JoinedTies
import Derived.KernelRfl
namespace Go.Proofs.Ytmmnjjcopdabcaa
/- THE CELL 'sum', in the pinned program and in every row, IS THE sha256 OF THE DUMP (.gsa) THAT YtmmnjjcopdabcaaProg.lean LOADS. Nothing in Lean hashes anything: it is a label: what it is worth is what the hold of that sum in a sandbox is worth. -/
noncomputable def Try.pinned : Pinned := { name := "ytmmnjjcopdabcaa", sum := "673a61657054147451173374108c6b154faabf41d08f4fcc122d39f8c7f699af", checked := Try.checked }
namespace Rows
def none {H : Type} : Left H := { results := [], args := [] }

/-- 'stockadelaw15.TcpBegins': WHATEVER THE INPUT: true; the input reads as it did. -/
def tcpBeginsSpec : ChangeSpec := { name := "tcpBegins", fn := fun _ => fun
  | [d] => { results := [.lit (.bool true)], args := [d] }
  | _ => none }
def tcpBeginsRow : OpenClaim := { program := "ytmmnjjcopdabcaa", sum := "673a61657054147451173374108c6b154faabf41d08f4fcc122d39f8c7f699af", func := "stockade/stockadelaw15.TcpBegins", spec := "tcpBegins", apart := false }
def TcpBeginsSaid : Prop := tcpBeginsRow.holds Try.pinned (OpenSpec.ofChange tcpBeginsSpec)

/-- ITS FALSE NEIGHBOUR: 'it returns false'. Refute it at one input. -/
def tcpBeginsWrong : ChangeSpec := { name := "tcpBegins", fn := fun _ => fun
  | [d] => { results := [.lit (.bool false)], args := [d] }
  | _ => none }
def TcpBeginsWrongFalsely : Prop := tcpBeginsRow.holds Try.pinned (OpenSpec.ofChange tcpBeginsWrong)

/-- 'stockadelaw15.TcpRights': WHATEVER THE INPUT: true; the input reads as it did. -/
def tcpRightsSpec : ChangeSpec := { name := "tcpRights", fn := fun _ => fun
  | [d] => { results := [.lit (.bool true)], args := [d] }
  | _ => none }
def tcpRightsRow : OpenClaim := { program := "ytmmnjjcopdabcaa", sum := "673a61657054147451173374108c6b154faabf41d08f4fcc122d39f8c7f699af", func := "stockade/stockadelaw15.TcpRights", spec := "tcpRights", apart := false }
def TcpRightsSaid : Prop := tcpRightsRow.holds Try.pinned (OpenSpec.ofChange tcpRightsSpec)

/-- ITS FALSE NEIGHBOUR: 'it returns false'. Refute it at one input. -/
def tcpRightsWrong : ChangeSpec := { name := "tcpRights", fn := fun _ => fun
  | [d] => { results := [.lit (.bool false)], args := [d] }
  | _ => none }
def TcpRightsWrongFalsely : Prop := tcpRightsRow.holds Try.pinned (OpenSpec.ofChange tcpRightsWrong)

/-- 'stockadelaw15.TcpSteps': WHATEVER THE INPUT: true; the input reads as it did. -/
def tcpStepsSpec : ChangeSpec := { name := "tcpSteps", fn := fun _ => fun
  | [d1, d2, d3] => { results := [.lit (.bool true)], args := [d1, d2, d3] }
  | _ => none }
def tcpStepsRow : OpenClaim := { program := "ytmmnjjcopdabcaa", sum := "673a61657054147451173374108c6b154faabf41d08f4fcc122d39f8c7f699af", func := "stockade/stockadelaw15.TcpSteps", spec := "tcpSteps", apart := false }
def TcpStepsSaid : Prop := tcpStepsRow.holds Try.pinned (OpenSpec.ofChange tcpStepsSpec)

/-- ITS FALSE NEIGHBOUR: 'it returns false'. Refute it at one input. -/
def tcpStepsWrong : ChangeSpec := { name := "tcpSteps", fn := fun _ => fun
  | [d1, d2, d3] => { results := [.lit (.bool false)], args := [d1, d2, d3] }
  | _ => none }
def TcpStepsWrongFalsely : Prop := tcpStepsRow.holds Try.pinned (OpenSpec.ofChange tcpStepsWrong)

/-- 'stockadelaw15.TcpRuns': WHATEVER THE INPUT: true; the input reads as it did. -/
def tcpRunsSpec : ChangeSpec := { name := "tcpRuns", fn := fun _ => fun
  | [d1, d2, d3] => { results := [.lit (.bool true)], args := [d1, d2, d3] }
  | _ => none }
def tcpRunsRow : OpenClaim := { program := "ytmmnjjcopdabcaa", sum := "673a61657054147451173374108c6b154faabf41d08f4fcc122d39f8c7f699af", func := "stockade/stockadelaw15.TcpRuns", spec := "tcpRuns", apart := false }
def TcpRunsSaid : Prop := tcpRunsRow.holds Try.pinned (OpenSpec.ofChange tcpRunsSpec)

/-- ITS FALSE NEIGHBOUR: 'it returns false'. Refute it at one input. -/
def tcpRunsWrong : ChangeSpec := { name := "tcpRuns", fn := fun _ => fun
  | [d1, d2, d3] => { results := [.lit (.bool false)], args := [d1, d2, d3] }
  | _ => none }
def TcpRunsWrongFalsely : Prop := tcpRunsRow.holds Try.pinned (OpenSpec.ofChange tcpRunsWrong)

/-- 'stockadelaw15.TcpTalks': WHATEVER THE INPUT: true; the input reads as it did. -/
def tcpTalksSpec : ChangeSpec := { name := "tcpTalks", fn := fun _ => fun
  | [d1, d2, d3] => { results := [.lit (.bool true)], args := [d1, d2, d3] }
  | _ => none }
def tcpTalksRow : OpenClaim := { program := "ytmmnjjcopdabcaa", sum := "673a61657054147451173374108c6b154faabf41d08f4fcc122d39f8c7f699af", func := "stockade/stockadelaw15.TcpTalks", spec := "tcpTalks", apart := false }
def TcpTalksSaid : Prop := tcpTalksRow.holds Try.pinned (OpenSpec.ofChange tcpTalksSpec)

/-- ITS FALSE NEIGHBOUR: 'it returns false'. Refute it at one input. -/
def tcpTalksWrong : ChangeSpec := { name := "tcpTalks", fn := fun _ => fun
  | [d1, d2, d3] => { results := [.lit (.bool false)], args := [d1, d2, d3] }
  | _ => none }
def TcpTalksWrongFalsely : Prop := tcpTalksRow.holds Try.pinned (OpenSpec.ofChange tcpTalksWrong)

/-- 'stockadelaw15.TcpMoved': WHATEVER THE INPUT: true; the input reads as it did. -/
def tcpMovedSpec : ChangeSpec := { name := "tcpMoved", fn := fun _ => fun
  | [d1, d2, d3] => { results := [.lit (.bool true)], args := [d1, d2, d3] }
  | _ => none }
def tcpMovedRow : OpenClaim := { program := "ytmmnjjcopdabcaa", sum := "673a61657054147451173374108c6b154faabf41d08f4fcc122d39f8c7f699af", func := "stockade/stockadelaw15.TcpMoved", spec := "tcpMoved", apart := false }
def TcpMovedSaid : Prop := tcpMovedRow.holds Try.pinned (OpenSpec.ofChange tcpMovedSpec)

/-- ITS FALSE NEIGHBOUR: 'it returns false'. Refute it at one input. -/
def tcpMovedWrong : ChangeSpec := { name := "tcpMoved", fn := fun _ => fun
  | [d1, d2, d3] => { results := [.lit (.bool false)], args := [d1, d2, d3] }
  | _ => none }
def TcpMovedWrongFalsely : Prop := tcpMovedRow.holds Try.pinned (OpenSpec.ofChange tcpMovedWrong)

/-- 'stockadelaw15.TcpStrays': WHATEVER THE INPUT: true; the input reads as it did. -/
def tcpStraysSpec : ChangeSpec := { name := "tcpStrays", fn := fun _ => fun
  | [d1, d2] => { results := [.lit (.bool true)], args := [d1, d2] }
  | _ => none }
def tcpStraysRow : OpenClaim := { program := "ytmmnjjcopdabcaa", sum := "673a61657054147451173374108c6b154faabf41d08f4fcc122d39f8c7f699af", func := "stockade/stockadelaw15.TcpStrays", spec := "tcpStrays", apart := false }
def TcpStraysSaid : Prop := tcpStraysRow.holds Try.pinned (OpenSpec.ofChange tcpStraysSpec)

/-- ITS FALSE NEIGHBOUR: 'it returns false'. Refute it at one input. -/
def tcpStraysWrong : ChangeSpec := { name := "tcpStrays", fn := fun _ => fun
  | [d1, d2] => { results := [.lit (.bool false)], args := [d1, d2] }
  | _ => none }
def TcpStraysWrongFalsely : Prop := tcpStraysRow.holds Try.pinned (OpenSpec.ofChange tcpStraysWrong)

/- THE SECOND FORM. 'bulk': how many values and letters a reading holds, each counted each time it is reached (what is shared counts as often as it is met; a slice's spare places count too). A statement '..UptoSaid' is the law's where the arguments, and the package variables that the reading takes, are together of bulk at most 1048576: NARROWER than '..Said'. Prove '..Said' where nothing that the law and all that it calls make is longer than what came in: it says more and counts as full. Else prove '..UptoSaid'. A law counts once. -/
mutual
def uptoBulk {H : Type} : DataW H → Nat
  | .lit (.string bytes) => bytes.length + 1
  | .lit _ => 1
  | .nil => 1
  | .ptr d => uptoBulk d + 1
  | .slice elems spare => uptoBulkAll elems + uptoBulkAll spare + 1
  | .agg parts => uptoBulkAll parts + 1
  | .iface _ d => uptoBulk d + 1
  | .map entries => uptoBulkEntries entries + 1
  | .held _ => 1
def uptoBulkAll {H : Type} : List (DataW H) → Nat
  | [] => 0
  | d :: r => uptoBulk d + uptoBulkAll r
def uptoBulkEntries {H : Type} : List (Lit × DataW H) → Nat
  | [] => 0
  | x :: r => uptoBulkEntry x + uptoBulkEntries r
def uptoBulkEntry {H : Type} : Lit × DataW H → Nat
  | (.string bytes, d) => bytes.length + uptoBulk d + 1
  | (_, d) => uptoBulk d + 1
 end
def uptoSmall : (H : Type) → List (DataW H) → Bool := fun _ ds => decide (uptoBulkAll ds ≤ 1048576)
def OpenSpec.upto (s : _root_.Go.ChangeSpec) : _root_.Go.OpenSpec := { _root_.Go.OpenSpec.ofChange s with cond := some uptoSmall }

/-- 'stockadelaw15.TcpBegins', WHERE WHAT IT READS IS OF BULK AT MOST 1048576: true; the input reads as it did. -/
def tcpBeginsUptoRow : OpenClaim := { program := "ytmmnjjcopdabcaa", sum := "673a61657054147451173374108c6b154faabf41d08f4fcc122d39f8c7f699af", func := "stockade/stockadelaw15.TcpBegins", spec := "tcpBegins", apart := false, narrowed := true }
def TcpBeginsUptoSaid : Prop := tcpBeginsUptoRow.holds Try.pinned (OpenSpec.upto tcpBeginsSpec)

/-- 'stockadelaw15.TcpRights', WHERE WHAT IT READS IS OF BULK AT MOST 1048576: true; the input reads as it did. -/
def tcpRightsUptoRow : OpenClaim := { program := "ytmmnjjcopdabcaa", sum := "673a61657054147451173374108c6b154faabf41d08f4fcc122d39f8c7f699af", func := "stockade/stockadelaw15.TcpRights", spec := "tcpRights", apart := false, narrowed := true }
def TcpRightsUptoSaid : Prop := tcpRightsUptoRow.holds Try.pinned (OpenSpec.upto tcpRightsSpec)

/-- 'stockadelaw15.TcpSteps', WHERE WHAT IT READS IS OF BULK AT MOST 1048576: true; the input reads as it did. -/
def tcpStepsUptoRow : OpenClaim := { program := "ytmmnjjcopdabcaa", sum := "673a61657054147451173374108c6b154faabf41d08f4fcc122d39f8c7f699af", func := "stockade/stockadelaw15.TcpSteps", spec := "tcpSteps", apart := false, narrowed := true }
def TcpStepsUptoSaid : Prop := tcpStepsUptoRow.holds Try.pinned (OpenSpec.upto tcpStepsSpec)

/-- 'stockadelaw15.TcpRuns', WHERE WHAT IT READS IS OF BULK AT MOST 1048576: true; the input reads as it did. -/
def tcpRunsUptoRow : OpenClaim := { program := "ytmmnjjcopdabcaa", sum := "673a61657054147451173374108c6b154faabf41d08f4fcc122d39f8c7f699af", func := "stockade/stockadelaw15.TcpRuns", spec := "tcpRuns", apart := false, narrowed := true }
def TcpRunsUptoSaid : Prop := tcpRunsUptoRow.holds Try.pinned (OpenSpec.upto tcpRunsSpec)

/-- 'stockadelaw15.TcpTalks', WHERE WHAT IT READS IS OF BULK AT MOST 1048576: true; the input reads as it did. -/
def tcpTalksUptoRow : OpenClaim := { program := "ytmmnjjcopdabcaa", sum := "673a61657054147451173374108c6b154faabf41d08f4fcc122d39f8c7f699af", func := "stockade/stockadelaw15.TcpTalks", spec := "tcpTalks", apart := false, narrowed := true }
def TcpTalksUptoSaid : Prop := tcpTalksUptoRow.holds Try.pinned (OpenSpec.upto tcpTalksSpec)

/-- 'stockadelaw15.TcpMoved', WHERE WHAT IT READS IS OF BULK AT MOST 1048576: true; the input reads as it did. -/
def tcpMovedUptoRow : OpenClaim := { program := "ytmmnjjcopdabcaa", sum := "673a61657054147451173374108c6b154faabf41d08f4fcc122d39f8c7f699af", func := "stockade/stockadelaw15.TcpMoved", spec := "tcpMoved", apart := false, narrowed := true }
def TcpMovedUptoSaid : Prop := tcpMovedUptoRow.holds Try.pinned (OpenSpec.upto tcpMovedSpec)

/-- 'stockadelaw15.TcpStrays', WHERE WHAT IT READS IS OF BULK AT MOST 1048576: true; the input reads as it did. -/
def tcpStraysUptoRow : OpenClaim := { program := "ytmmnjjcopdabcaa", sum := "673a61657054147451173374108c6b154faabf41d08f4fcc122d39f8c7f699af", func := "stockade/stockadelaw15.TcpStrays", spec := "tcpStrays", apart := false, narrowed := true }
def TcpStraysUptoSaid : Prop := tcpStraysUptoRow.holds Try.pinned (OpenSpec.upto tcpStraysSpec)

end Rows
end Go.Proofs.Ytmmnjjcopdabcaa
