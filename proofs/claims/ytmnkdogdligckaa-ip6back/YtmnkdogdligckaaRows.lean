/-
  No cell of these rows narrows 'for every input' (looked for: loops, veiled, ifaces, maps, wideKeys, modest, calm, conditions, laid).
  DERIVED. THE GIVEN ROWS OF THIS SEAT. 7 by the template 'for every input the law returns true; each argument reads behind the call as it read before'; 0 by the template 'total and deterministic' (their statements: YtmnkdogdligckaaTotals.lean).
  GIVEN WITH THE SEED: the statements are not yours to turn. If you find one false, say at which input.
  Laid BY PROGRAM, IN A SANDBOX (cutbox-rows.mjs): the forced cells as the released guide's own fill.sh prints them over the translation 37f8d10828884f84… (all of the seat's roots in one cut). By AI agents, Wed Nov 11 2026. No macro, syntax, notation, axiom, sorry.
-/
import Derived.Test.YtmnkdogdligckaaChecked
import GoSem.Claim
import GoSem.ClaimJoined
import GoSem.ClaimMapViews
import Derived.JoinedTies
import Derived.KernelRfl
namespace Go.Proofs.Ytmnkdogdligckaa
/- THE CELL 'sum', in the pinned program and in every row, IS THE sha256 OF THE DUMP (.gsa) THAT YtmnkdogdligckaaProg.lean LOADS. Nothing in Lean hashes anything: it is a label: what it is worth is what the hold of that sum in a sandbox is worth. -/
noncomputable def Try.pinned : Pinned := { name := "ytmnkdogdligckaa", sum := "37f8d10828884f845e8f824b72d25e8b42f39b12af34c68dd7420214ab10ad4a", checked := Try.checked }
namespace Rows
def none {H : Type} : Left H := { results := [], args := [] }

/-- 'stockadelaw04.Ip6Walks': WHATEVER THE INPUT: true; the input reads as it did. -/
def ip6WalksSpec : ChangeSpec := { name := "ip6Walks", fn := fun _ => fun
  | [d1, d2] => { results := [.lit (.bool true)], args := [d1, d2] }
  | _ => none }
def ip6WalksRow : OpenClaim := { program := "ytmnkdogdligckaa", sum := "37f8d10828884f845e8f824b72d25e8b42f39b12af34c68dd7420214ab10ad4a", func := "stockade/stockadelaw04.Ip6Walks", spec := "ip6Walks", unfollowed := true, recurses := true, apart := false }
def Ip6WalksSaid : Prop := ip6WalksRow.holds Try.pinned (OpenSpec.ofChange ip6WalksSpec)

/-- ITS FALSE NEIGHBOUR: 'it returns false'. Refute it at one input. -/
def ip6WalksWrong : ChangeSpec := { name := "ip6Walks", fn := fun _ => fun
  | [d1, d2] => { results := [.lit (.bool false)], args := [d1, d2] }
  | _ => none }
def Ip6WalksWrongFalsely : Prop := ip6WalksRow.holds Try.pinned (OpenSpec.ofChange ip6WalksWrong)

/-- 'stockadelaw04.Ip6Reads': WHATEVER THE INPUT: true; the input reads as it did. -/
def ip6ReadsSpec : ChangeSpec := { name := "ip6Reads", fn := fun _ => fun
  | [d] => { results := [.lit (.bool true)], args := [d] }
  | _ => none }
def ip6ReadsRow : OpenClaim := { program := "ytmnkdogdligckaa", sum := "37f8d10828884f845e8f824b72d25e8b42f39b12af34c68dd7420214ab10ad4a", func := "stockade/stockadelaw04.Ip6Reads", spec := "ip6Reads", unfollowed := true, recurses := true, apart := false }
def Ip6ReadsSaid : Prop := ip6ReadsRow.holds Try.pinned (OpenSpec.ofChange ip6ReadsSpec)

/-- ITS FALSE NEIGHBOUR: 'it returns false'. Refute it at one input. -/
def ip6ReadsWrong : ChangeSpec := { name := "ip6Reads", fn := fun _ => fun
  | [d] => { results := [.lit (.bool false)], args := [d] }
  | _ => none }
def Ip6ReadsWrongFalsely : Prop := ip6ReadsRow.holds Try.pinned (OpenSpec.ofChange ip6ReadsWrong)

/-- 'stockadelaw04.Ip6Writes': WHATEVER THE INPUT: true; the input reads as it did. -/
def ip6WritesSpec : ChangeSpec := { name := "ip6Writes", fn := fun _ => fun
  | [d] => { results := [.lit (.bool true)], args := [d] }
  | _ => none }
def ip6WritesRow : OpenClaim := { program := "ytmnkdogdligckaa", sum := "37f8d10828884f845e8f824b72d25e8b42f39b12af34c68dd7420214ab10ad4a", func := "stockade/stockadelaw04.Ip6Writes", spec := "ip6Writes", unfollowed := true, recurses := true, apart := false }
def Ip6WritesSaid : Prop := ip6WritesRow.holds Try.pinned (OpenSpec.ofChange ip6WritesSpec)

/-- ITS FALSE NEIGHBOUR: 'it returns false'. Refute it at one input. -/
def ip6WritesWrong : ChangeSpec := { name := "ip6Writes", fn := fun _ => fun
  | [d] => { results := [.lit (.bool false)], args := [d] }
  | _ => none }
def Ip6WritesWrongFalsely : Prop := ip6WritesRow.holds Try.pinned (OpenSpec.ofChange ip6WritesWrong)

/-- 'stockadelaw04.Ip6Back': WHATEVER THE INPUT: true; the input reads as it did. -/
def ip6BackSpec : ChangeSpec := { name := "ip6Back", fn := fun _ => fun
  | [d] => { results := [.lit (.bool true)], args := [d] }
  | _ => none }
def ip6BackRow : OpenClaim := { program := "ytmnkdogdligckaa", sum := "37f8d10828884f845e8f824b72d25e8b42f39b12af34c68dd7420214ab10ad4a", func := "stockade/stockadelaw04.Ip6Back", spec := "ip6Back", unfollowed := true, recurses := true, apart := false }
def Ip6BackSaid : Prop := ip6BackRow.holds Try.pinned (OpenSpec.ofChange ip6BackSpec)

/-- ITS FALSE NEIGHBOUR: 'it returns false'. Refute it at one input. -/
def ip6BackWrong : ChangeSpec := { name := "ip6Back", fn := fun _ => fun
  | [d] => { results := [.lit (.bool false)], args := [d] }
  | _ => none }
def Ip6BackWrongFalsely : Prop := ip6BackRow.holds Try.pinned (OpenSpec.ofChange ip6BackWrong)

/-- 'stockadelaw04.Ip6Behind': WHATEVER THE INPUT: true; the input reads as it did. -/
def ip6BehindSpec : ChangeSpec := { name := "ip6Behind", fn := fun _ => fun
  | [d1, d2] => { results := [.lit (.bool true)], args := [d1, d2] }
  | _ => none }
def ip6BehindRow : OpenClaim := { program := "ytmnkdogdligckaa", sum := "37f8d10828884f845e8f824b72d25e8b42f39b12af34c68dd7420214ab10ad4a", func := "stockade/stockadelaw04.Ip6Behind", spec := "ip6Behind", unfollowed := true, recurses := true, apart := false }
def Ip6BehindSaid : Prop := ip6BehindRow.holds Try.pinned (OpenSpec.ofChange ip6BehindSpec)

/-- ITS FALSE NEIGHBOUR: 'it returns false'. Refute it at one input. -/
def ip6BehindWrong : ChangeSpec := { name := "ip6Behind", fn := fun _ => fun
  | [d1, d2] => { results := [.lit (.bool false)], args := [d1, d2] }
  | _ => none }
def Ip6BehindWrongFalsely : Prop := ip6BehindRow.holds Try.pinned (OpenSpec.ofChange ip6BehindWrong)

/-- 'stockadelaw04.Ip6Same': WHATEVER THE INPUT: true; the input reads as it did. -/
def ip6SameSpec : ChangeSpec := { name := "ip6Same", fn := fun _ => fun
  | [d] => { results := [.lit (.bool true)], args := [d] }
  | _ => none }
def ip6SameRow : OpenClaim := { program := "ytmnkdogdligckaa", sum := "37f8d10828884f845e8f824b72d25e8b42f39b12af34c68dd7420214ab10ad4a", func := "stockade/stockadelaw04.Ip6Same", spec := "ip6Same", unfollowed := true, recurses := true, apart := false }
def Ip6SameSaid : Prop := ip6SameRow.holds Try.pinned (OpenSpec.ofChange ip6SameSpec)

/-- ITS FALSE NEIGHBOUR: 'it returns false'. Refute it at one input. -/
def ip6SameWrong : ChangeSpec := { name := "ip6Same", fn := fun _ => fun
  | [d] => { results := [.lit (.bool false)], args := [d] }
  | _ => none }
def Ip6SameWrongFalsely : Prop := ip6SameRow.holds Try.pinned (OpenSpec.ofChange ip6SameWrong)

/-- 'stockadelaw04.Ip6Own': WHATEVER THE INPUT: true; the input reads as it did. -/
def ip6OwnSpec : ChangeSpec := { name := "ip6Own", fn := fun _ => fun
  | [d] => { results := [.lit (.bool true)], args := [d] }
  | _ => none }
def ip6OwnRow : OpenClaim := { program := "ytmnkdogdligckaa", sum := "37f8d10828884f845e8f824b72d25e8b42f39b12af34c68dd7420214ab10ad4a", func := "stockade/stockadelaw04.Ip6Own", spec := "ip6Own", unfollowed := true, recurses := true, apart := false }
def Ip6OwnSaid : Prop := ip6OwnRow.holds Try.pinned (OpenSpec.ofChange ip6OwnSpec)

/-- ITS FALSE NEIGHBOUR: 'it returns false'. Refute it at one input. -/
def ip6OwnWrong : ChangeSpec := { name := "ip6Own", fn := fun _ => fun
  | [d] => { results := [.lit (.bool false)], args := [d] }
  | _ => none }
def Ip6OwnWrongFalsely : Prop := ip6OwnRow.holds Try.pinned (OpenSpec.ofChange ip6OwnWrong)

/- THE SECOND FORM. 'bulk': how many values and letters a reading holds, each counted each time it is reached (what is shared counts as often as it is met; a slice's spare places count too). A statement '..UptoSaid' is the law's where the arguments, and the package variables that the reading takes, are together of bulk at most 1048576: NARROWER than '..Said'. Prove '..Said' where nothing that the law and all that it calls make is longer than what came in: it says more and counts as full. Else prove '..UptoSaid'. A law counts once. -/
mutual
def uptoBulk {H : Type} : DataW H → Nat
  | .lit (.string bytes) => bytes.length + 1
  | .lit _ => 1
  | .nil => 1
  | .ptr d => uptoBulk d + 1
  | .slice elems spare => uptoBulkAll elems + uptoBulkAll spare + 1
  | .agg parts => uptoBulkAll parts + 1
  | .iface _ d => uptoBulk d + 1
  | .map entries => uptoBulkEntries entries + 1
  | .held _ => 1
def uptoBulkAll {H : Type} : List (DataW H) → Nat
  | [] => 0
  | d :: r => uptoBulk d + uptoBulkAll r
def uptoBulkEntries {H : Type} : List (Lit × DataW H) → Nat
  | [] => 0
  | x :: r => uptoBulkEntry x + uptoBulkEntries r
def uptoBulkEntry {H : Type} : Lit × DataW H → Nat
  | (.string bytes, d) => bytes.length + uptoBulk d + 1
  | (_, d) => uptoBulk d + 1
 end
def uptoSmall : (H : Type) → List (DataW H) → Bool := fun _ ds => decide (uptoBulkAll ds ≤ 1048576)
def OpenSpec.upto (s : _root_.Go.ChangeSpec) : _root_.Go.OpenSpec := { _root_.Go.OpenSpec.ofChange s with cond := some uptoSmall }

/-- 'stockadelaw04.Ip6Walks', WHERE WHAT IT READS IS OF BULK AT MOST 1048576: true; the input reads as it did. -/
def ip6WalksUptoRow : OpenClaim := { program := "ytmnkdogdligckaa", sum := "37f8d10828884f845e8f824b72d25e8b42f39b12af34c68dd7420214ab10ad4a", func := "stockade/stockadelaw04.Ip6Walks", spec := "ip6Walks", unfollowed := true, recurses := true, apart := false, narrowed := true }
def Ip6WalksUptoSaid : Prop := ip6WalksUptoRow.holds Try.pinned (OpenSpec.upto ip6WalksSpec)

/-- 'stockadelaw04.Ip6Reads', WHERE WHAT IT READS IS OF BULK AT MOST 1048576: true; the input reads as it did. -/
def ip6ReadsUptoRow : OpenClaim := { program := "ytmnkdogdligckaa", sum := "37f8d10828884f845e8f824b72d25e8b42f39b12af34c68dd7420214ab10ad4a", func := "stockade/stockadelaw04.Ip6Reads", spec := "ip6Reads", unfollowed := true, recurses := true, apart := false, narrowed := true }
def Ip6ReadsUptoSaid : Prop := ip6ReadsUptoRow.holds Try.pinned (OpenSpec.upto ip6ReadsSpec)

/-- 'stockadelaw04.Ip6Writes', WHERE WHAT IT READS IS OF BULK AT MOST 1048576: true; the input reads as it did. -/
def ip6WritesUptoRow : OpenClaim := { program := "ytmnkdogdligckaa", sum := "37f8d10828884f845e8f824b72d25e8b42f39b12af34c68dd7420214ab10ad4a", func := "stockade/stockadelaw04.Ip6Writes", spec := "ip6Writes", unfollowed := true, recurses := true, apart := false, narrowed := true }
def Ip6WritesUptoSaid : Prop := ip6WritesUptoRow.holds Try.pinned (OpenSpec.upto ip6WritesSpec)

/-- 'stockadelaw04.Ip6Back', WHERE WHAT IT READS IS OF BULK AT MOST 1048576: true; the input reads as it did. -/
def ip6BackUptoRow : OpenClaim := { program := "ytmnkdogdligckaa", sum := "37f8d10828884f845e8f824b72d25e8b42f39b12af34c68dd7420214ab10ad4a", func := "stockade/stockadelaw04.Ip6Back", spec := "ip6Back", unfollowed := true, recurses := true, apart := false, narrowed := true }
def Ip6BackUptoSaid : Prop := ip6BackUptoRow.holds Try.pinned (OpenSpec.upto ip6BackSpec)

/-- 'stockadelaw04.Ip6Behind', WHERE WHAT IT READS IS OF BULK AT MOST 1048576: true; the input reads as it did. -/
def ip6BehindUptoRow : OpenClaim := { program := "ytmnkdogdligckaa", sum := "37f8d10828884f845e8f824b72d25e8b42f39b12af34c68dd7420214ab10ad4a", func := "stockade/stockadelaw04.Ip6Behind", spec := "ip6Behind", unfollowed := true, recurses := true, apart := false, narrowed := true }
def Ip6BehindUptoSaid : Prop := ip6BehindUptoRow.holds Try.pinned (OpenSpec.upto ip6BehindSpec)

/-- 'stockadelaw04.Ip6Same', WHERE WHAT IT READS IS OF BULK AT MOST 1048576: true; the input reads as it did. -/
def ip6SameUptoRow : OpenClaim := { program := "ytmnkdogdligckaa", sum := "37f8d10828884f845e8f824b72d25e8b42f39b12af34c68dd7420214ab10ad4a", func := "stockade/stockadelaw04.Ip6Same", spec := "ip6Same", unfollowed := true, recurses := true, apart := false, narrowed := true }
def Ip6SameUptoSaid : Prop := ip6SameUptoRow.holds Try.pinned (OpenSpec.upto ip6SameSpec)

/-- 'stockadelaw04.Ip6Own', WHERE WHAT IT READS IS OF BULK AT MOST 1048576: true; the input reads as it did. -/
def ip6OwnUptoRow : OpenClaim := { program := "ytmnkdogdligckaa", sum := "37f8d10828884f845e8f824b72d25e8b42f39b12af34c68dd7420214ab10ad4a", func := "stockade/stockadelaw04.Ip6Own", spec := "ip6Own", unfollowed := true, recurses := true, apart := false, narrowed := true }
def Ip6OwnUptoSaid : Prop := ip6OwnUptoRow.holds Try.pinned (OpenSpec.upto ip6OwnSpec)

end Rows
end Go.Proofs.Ytmnkdogdligckaa
