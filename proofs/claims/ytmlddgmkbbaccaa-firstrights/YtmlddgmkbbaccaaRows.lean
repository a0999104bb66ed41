/-
  No cell of these rows narrows 'for every input' (looked for: loops, veiled, ifaces, maps, wideKeys, modest, calm, conditions, laid).
  DERIVED. THE GIVEN ROWS OF THIS SEAT. 6 by the template 'for every input the law returns true; each argument reads behind the call as it read before'; 0 by the template 'total and deterministic' (their statements: YtmlddgmkbbaccaaTotals.lean).
  GIVEN WITH THE SEED: the statements are not yours to turn. If you find one false, say at which input.
  Laid BY PROGRAM, IN A SANDBOX (cutbox-rows.mjs): the forced cells as the released guide's own fill.sh prints them over the translation 3a177d506d218218… (all of the seat's roots in one cut). By AI agents, Wed Nov 11 2026. No macro, syntax, notation, axiom, sorry.
-/
import Derived.Test.YtmlddgmkbbaccaaChecked
import GoSem.Claim
import GoSem.ClaimJoined
import GoSem.ClaimMapViews
import Derived.JoinedTies
import Derived.KernelRfl
namespace Go.Proofs.Ytmlddgmkbbaccaa
/- THE CELL 'sum', in the pinned program and in every row, IS THE sha256 OF THE DUMP (.gsa) THAT YtmlddgmkbbaccaaProg.lean LOADS. Nothing in Lean hashes anything: it is a label: what it is worth is what the hold of that sum in a sandbox is worth. -/
noncomputable def Try.pinned : Pinned := { name := "ytmlddgmkbbaccaa", sum := "3a177d506d21821868533edb29bda6d837afad358fc8608672a91b1930e63ad9", checked := Try.checked }
namespace Rows
def none {H : Type} : Left H := { results := [], args := [] }

/-- 'stockadelaw10.FirstRights': WHATEVER THE INPUT: true; the input reads as it did. -/
def firstRightsSpec : ChangeSpec := { name := "firstRights", fn := fun _ => fun
  | [d1, d2] => { results := [.lit (.bool true)], args := [d1, d2] }
  | _ => none }
def firstRightsRow : OpenClaim := { program := "ytmlddgmkbbaccaa", sum := "3a177d506d21821868533edb29bda6d837afad358fc8608672a91b1930e63ad9", func := "stockade/stockadelaw10.FirstRights", spec := "firstRights", unfollowed := true, recurses := true, apart := false }
def FirstRightsSaid : Prop := firstRightsRow.holds Try.pinned (OpenSpec.ofChange firstRightsSpec)

/-- ITS FALSE NEIGHBOUR: 'it returns false'. Refute it at one input. -/
def firstRightsWrong : ChangeSpec := { name := "firstRights", fn := fun _ => fun
  | [d1, d2] => { results := [.lit (.bool false)], args := [d1, d2] }
  | _ => none }
def FirstRightsWrongFalsely : Prop := firstRightsRow.holds Try.pinned (OpenSpec.ofChange firstRightsWrong)

/-- 'stockadelaw10.FirstFinds': WHATEVER THE INPUT: true; the input reads as it did. -/
def firstFindsSpec : ChangeSpec := { name := "firstFinds", fn := fun _ => fun
  | [d1, d2] => { results := [.lit (.bool true)], args := [d1, d2] }
  | _ => none }
def firstFindsRow : OpenClaim := { program := "ytmlddgmkbbaccaa", sum := "3a177d506d21821868533edb29bda6d837afad358fc8608672a91b1930e63ad9", func := "stockade/stockadelaw10.FirstFinds", spec := "firstFinds", unfollowed := true, recurses := true, apart := false }
def FirstFindsSaid : Prop := firstFindsRow.holds Try.pinned (OpenSpec.ofChange firstFindsSpec)

/-- ITS FALSE NEIGHBOUR: 'it returns false'. Refute it at one input. -/
def firstFindsWrong : ChangeSpec := { name := "firstFinds", fn := fun _ => fun
  | [d1, d2] => { results := [.lit (.bool false)], args := [d1, d2] }
  | _ => none }
def FirstFindsWrongFalsely : Prop := firstFindsRow.holds Try.pinned (OpenSpec.ofChange firstFindsWrong)

/-- 'stockadelaw10.FirstKeeps': WHATEVER THE INPUT: true; the input reads as it did. -/
def firstKeepsSpec : ChangeSpec := { name := "firstKeeps", fn := fun _ => fun
  | [d] => { results := [.lit (.bool true)], args := [d] }
  | _ => none }
def firstKeepsRow : OpenClaim := { program := "ytmlddgmkbbaccaa", sum := "3a177d506d21821868533edb29bda6d837afad358fc8608672a91b1930e63ad9", func := "stockade/stockadelaw10.FirstKeeps", spec := "firstKeeps", unfollowed := true, recurses := true, apart := false }
def FirstKeepsSaid : Prop := firstKeepsRow.holds Try.pinned (OpenSpec.ofChange firstKeepsSpec)

/-- ITS FALSE NEIGHBOUR: 'it returns false'. Refute it at one input. -/
def firstKeepsWrong : ChangeSpec := { name := "firstKeeps", fn := fun _ => fun
  | [d] => { results := [.lit (.bool false)], args := [d] }
  | _ => none }
def FirstKeepsWrongFalsely : Prop := firstKeepsRow.holds Try.pinned (OpenSpec.ofChange firstKeepsWrong)

/-- 'stockadelaw10.FirstHidden': WHATEVER THE INPUT: true; the input reads as it did. -/
def firstHiddenSpec : ChangeSpec := { name := "firstHidden", fn := fun _ => fun
  | [d1, d2] => { results := [.lit (.bool true)], args := [d1, d2] }
  | _ => none }
def firstHiddenRow : OpenClaim := { program := "ytmlddgmkbbaccaa", sum := "3a177d506d21821868533edb29bda6d837afad358fc8608672a91b1930e63ad9", func := "stockade/stockadelaw10.FirstHidden", spec := "firstHidden", unfollowed := true, recurses := true, apart := false }
def FirstHiddenSaid : Prop := firstHiddenRow.holds Try.pinned (OpenSpec.ofChange firstHiddenSpec)

/-- ITS FALSE NEIGHBOUR: 'it returns false'. Refute it at one input. -/
def firstHiddenWrong : ChangeSpec := { name := "firstHidden", fn := fun _ => fun
  | [d1, d2] => { results := [.lit (.bool false)], args := [d1, d2] }
  | _ => none }
def FirstHiddenWrongFalsely : Prop := firstHiddenRow.holds Try.pinned (OpenSpec.ofChange firstHiddenWrong)

/-- 'stockadelaw10.FirstBehind': WHATEVER THE INPUT: true; the input reads as it did. -/
def firstBehindSpec : ChangeSpec := { name := "firstBehind", fn := fun _ => fun
  | [d1, d2, d3] => { results := [.lit (.bool true)], args := [d1, d2, d3] }
  | _ => none }
def firstBehindRow : OpenClaim := { program := "ytmlddgmkbbaccaa", sum := "3a177d506d21821868533edb29bda6d837afad358fc8608672a91b1930e63ad9", func := "stockade/stockadelaw10.FirstBehind", spec := "firstBehind", unfollowed := true, recurses := true, apart := false }
def FirstBehindSaid : Prop := firstBehindRow.holds Try.pinned (OpenSpec.ofChange firstBehindSpec)

/-- ITS FALSE NEIGHBOUR: 'it returns false'. Refute it at one input. -/
def firstBehindWrong : ChangeSpec := { name := "firstBehind", fn := fun _ => fun
  | [d1, d2, d3] => { results := [.lit (.bool false)], args := [d1, d2, d3] }
  | _ => none }
def FirstBehindWrongFalsely : Prop := firstBehindRow.holds Try.pinned (OpenSpec.ofChange firstBehindWrong)

/-- 'stockadelaw10.FirstTwo': WHATEVER THE INPUT: true; the input reads as it did. -/
def firstTwoSpec : ChangeSpec := { name := "firstTwo", fn := fun _ => fun
  | [d1, d2, d3] => { results := [.lit (.bool true)], args := [d1, d2, d3] }
  | _ => none }
def firstTwoRow : OpenClaim := { program := "ytmlddgmkbbaccaa", sum := "3a177d506d21821868533edb29bda6d837afad358fc8608672a91b1930e63ad9", func := "stockade/stockadelaw10.FirstTwo", spec := "firstTwo", unfollowed := true, recurses := true, apart := false }
def FirstTwoSaid : Prop := firstTwoRow.holds Try.pinned (OpenSpec.ofChange firstTwoSpec)

/-- ITS FALSE NEIGHBOUR: 'it returns false'. Refute it at one input. -/
def firstTwoWrong : ChangeSpec := { name := "firstTwo", fn := fun _ => fun
  | [d1, d2, d3] => { results := [.lit (.bool false)], args := [d1, d2, d3] }
  | _ => none }
def FirstTwoWrongFalsely : Prop := firstTwoRow.holds Try.pinned (OpenSpec.ofChange firstTwoWrong)

/- THE SECOND FORM. 'bulk': how many values and letters a reading holds, each counted each time it is reached (what is shared counts as often as it is met; a slice's spare places count too). A statement '..UptoSaid' is the law's where the arguments, and the package variables that the reading takes, are together of bulk at most 1048576: NARROWER than '..Said'. Prove '..Said' where nothing that the law and all that it calls make is longer than what came in: it says more and counts as full. Else prove '..UptoSaid'. A law counts once. -/
mutual
def uptoBulk {H : Type} : DataW H → Nat
  | .lit (.string bytes) => bytes.length + 1
  | .lit _ => 1
  | .nil => 1
  | .ptr d => uptoBulk d + 1
  | .slice elems spare => uptoBulkAll elems + uptoBulkAll spare + 1
  | .agg parts => uptoBulkAll parts + 1
  | .iface _ d => uptoBulk d + 1
  | .map entries => uptoBulkEntries entries + 1
  | .held _ => 1
def uptoBulkAll {H : Type} : List (DataW H) → Nat
  | [] => 0
  | d :: r => uptoBulk d + uptoBulkAll r
def uptoBulkEntries {H : Type} : List (Lit × DataW H) → Nat
  | [] => 0
  | x :: r => uptoBulkEntry x + uptoBulkEntries r
def uptoBulkEntry {H : Type} : Lit × DataW H → Nat
  | (.string bytes, d) => bytes.length + uptoBulk d + 1
  | (_, d) => uptoBulk d + 1
 end
def uptoSmall : (H : Type) → List (DataW H) → Bool := fun _ ds => decide (uptoBulkAll ds ≤ 1048576)
def OpenSpec.upto (s : _root_.Go.ChangeSpec) : _root_.Go.OpenSpec := { _root_.Go.OpenSpec.ofChange s with cond := some uptoSmall }

/-- 'stockadelaw10.FirstRights', WHERE WHAT IT READS IS OF BULK AT MOST 1048576: true; the input reads as it did. -/
def firstRightsUptoRow : OpenClaim := { program := "ytmlddgmkbbaccaa", sum := "3a177d506d21821868533edb29bda6d837afad358fc8608672a91b1930e63ad9", func := "stockade/stockadelaw10.FirstRights", spec := "firstRights", unfollowed := true, recurses := true, apart := false, narrowed := true }
def FirstRightsUptoSaid : Prop := firstRightsUptoRow.holds Try.pinned (OpenSpec.upto firstRightsSpec)

/-- 'stockadelaw10.FirstFinds', WHERE WHAT IT READS IS OF BULK AT MOST 1048576: true; the input reads as it did. -/
def firstFindsUptoRow : OpenClaim := { program := "ytmlddgmkbbaccaa", sum := "3a177d506d21821868533edb29bda6d837afad358fc8608672a91b1930e63ad9", func := "stockade/stockadelaw10.FirstFinds", spec := "firstFinds", unfollowed := true, recurses := true, apart := false, narrowed := true }
def FirstFindsUptoSaid : Prop := firstFindsUptoRow.holds Try.pinned (OpenSpec.upto firstFindsSpec)

/-- 'stockadelaw10.FirstKeeps', WHERE WHAT IT READS IS OF BULK AT MOST 1048576: true; the input reads as it did. -/
def firstKeepsUptoRow : OpenClaim := { program := "ytmlddgmkbbaccaa", sum := "3a177d506d21821868533edb29bda6d837afad358fc8608672a91b1930e63ad9", func := "stockade/stockadelaw10.FirstKeeps", spec := "firstKeeps", unfollowed := true, recurses := true, apart := false, narrowed := true }
def FirstKeepsUptoSaid : Prop := firstKeepsUptoRow.holds Try.pinned (OpenSpec.upto firstKeepsSpec)

/-- 'stockadelaw10.FirstHidden', WHERE WHAT IT READS IS OF BULK AT MOST 1048576: true; the input reads as it did. -/
def firstHiddenUptoRow : OpenClaim := { program := "ytmlddgmkbbaccaa", sum := "3a177d506d21821868533edb29bda6d837afad358fc8608672a91b1930e63ad9", func := "stockade/stockadelaw10.FirstHidden", spec := "firstHidden", unfollowed := true, recurses := true, apart := false, narrowed := true }
def FirstHiddenUptoSaid : Prop := firstHiddenUptoRow.holds Try.pinned (OpenSpec.upto firstHiddenSpec)

/-- 'stockadelaw10.FirstBehind', WHERE WHAT IT READS IS OF BULK AT MOST 1048576: true; the input reads as it did. -/
def firstBehindUptoRow : OpenClaim := { program := "ytmlddgmkbbaccaa", sum := "3a177d506d21821868533edb29bda6d837afad358fc8608672a91b1930e63ad9", func := "stockade/stockadelaw10.FirstBehind", spec := "firstBehind", unfollowed := true, recurses := true, apart := false, narrowed := true }
def FirstBehindUptoSaid : Prop := firstBehindUptoRow.holds Try.pinned (OpenSpec.upto firstBehindSpec)

/-- 'stockadelaw10.FirstTwo', WHERE WHAT IT READS IS OF BULK AT MOST 1048576: true; the input reads as it did. -/
def firstTwoUptoRow : OpenClaim := { program := "ytmlddgmkbbaccaa", sum := "3a177d506d21821868533edb29bda6d837afad358fc8608672a91b1930e63ad9", func := "stockade/stockadelaw10.FirstTwo", spec := "firstTwo", unfollowed := true, recurses := true, apart := false, narrowed := true }
def FirstTwoUptoSaid : Prop := firstTwoUptoRow.holds Try.pinned (OpenSpec.upto firstTwoSpec)

end Rows
end Go.Proofs.Ytmlddgmkbbaccaa
