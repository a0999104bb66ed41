/-
  No cell of these rows narrows 'for every input' (looked for: loops, veiled, ifaces, maps, wideKeys, modest, calm, conditions, laid).
  DERIVED. THE GIVEN ROWS OF THIS SEAT. 9 by the template 'for every input the law returns true; each argument reads behind the call as it read before'; 0 by the template 'total and deterministic' (their statements: YtkeeidfpgfdldaaTotals.lean).
  GIVEN WITH THE SEED: the statements are not yours to turn. If you find one false, say at which input.
  Laid BY PROGRAM, IN A SANDBOX (cutbox-rows.mjs): the forced cells as the released guide's own fill.sh prints them over the translation b8c6b36aa3073f1c… (all of the seat's roots in one cut). By AI agents, Wed Nov 11 2026. No macro, syntax, notation, axiom, sorry.
-/
import Derived.Test.YtkeeidfpgfdldaaChecked
import GoSem.Claim
import GoSem.ClaimJoined
import GoSem.ClaimMapViews
import Derived.JoinedTies
import Derived.KernelRfl
namespace Go.Proofs.Ytkeeidfpgfdldaa
/- THE CELL 'sum', in the pinned program and in every row, IS THE sha256 OF THE DUMP (.gsa) THAT YtkeeidfpgfdldaaProg.lean LOADS. Nothing in Lean hashes anything: it is a label: what it is worth is what the hold of that sum in a sandbox is worth. -/
noncomputable def Try.pinned : Pinned := { name := "ytkeeidfpgfdldaa", sum := "b8c6b36aa3073f1c8c9d9054c706f5f3483e02155e9f9c20f7645592d77d9d0a", checked := Try.checked }
namespace Rows
def none {H : Type} : Left H := { results := [], args := [] }

/-- 'stockadelaw06.FragPlays': WHATEVER THE INPUT: true; the input reads as it did. -/
def fragPlaysSpec : ChangeSpec := { name := "fragPlays", fn := fun _ => fun
  | [d1, d2] => { results := [.lit (.bool true)], args := [d1, d2] }
  | _ => none }
def fragPlaysRow : OpenClaim := { program := "ytkeeidfpgfdldaa", sum := "b8c6b36aa3073f1c8c9d9054c706f5f3483e02155e9f9c20f7645592d77d9d0a", func := "stockade/stockadelaw06.FragPlays", spec := "fragPlays", unfollowed := true, recurses := true, plainKeys := false, apart := false }
def FragPlaysSaid : Prop := fragPlaysRow.holds Try.pinned (OpenSpec.ofChange fragPlaysSpec)

/-- ITS FALSE NEIGHBOUR: 'it returns false'. Refute it at one input. -/
def fragPlaysWrong : ChangeSpec := { name := "fragPlays", fn := fun _ => fun
  | [d1, d2] => { results := [.lit (.bool false)], args := [d1, d2] }
  | _ => none }
def FragPlaysWrongFalsely : Prop := fragPlaysRow.holds Try.pinned (OpenSpec.ofChange fragPlaysWrong)

/-- 'stockadelaw06.FragBounds': WHATEVER THE INPUT: true; the input reads as it did. -/
def fragBoundsSpec : ChangeSpec := { name := "fragBounds", fn := fun _ => fun
  | [d1, d2] => { results := [.lit (.bool true)], args := [d1, d2] }
  | _ => none }
def fragBoundsRow : OpenClaim := { program := "ytkeeidfpgfdldaa", sum := "b8c6b36aa3073f1c8c9d9054c706f5f3483e02155e9f9c20f7645592d77d9d0a", func := "stockade/stockadelaw06.FragBounds", spec := "fragBounds", unfollowed := true, recurses := true, plainKeys := false, apart := false }
def FragBoundsSaid : Prop := fragBoundsRow.holds Try.pinned (OpenSpec.ofChange fragBoundsSpec)

/-- ITS FALSE NEIGHBOUR: 'it returns false'. Refute it at one input. -/
def fragBoundsWrong : ChangeSpec := { name := "fragBounds", fn := fun _ => fun
  | [d1, d2] => { results := [.lit (.bool false)], args := [d1, d2] }
  | _ => none }
def FragBoundsWrongFalsely : Prop := fragBoundsRow.holds Try.pinned (OpenSpec.ofChange fragBoundsWrong)

/-- 'stockadelaw06.FragOrder': WHATEVER THE INPUT: true; the input reads as it did. -/
def fragOrderSpec : ChangeSpec := { name := "fragOrder", fn := fun _ => fun
  | [d1, d2, d3] => { results := [.lit (.bool true)], args := [d1, d2, d3] }
  | _ => none }
def fragOrderRow : OpenClaim := { program := "ytkeeidfpgfdldaa", sum := "b8c6b36aa3073f1c8c9d9054c706f5f3483e02155e9f9c20f7645592d77d9d0a", func := "stockade/stockadelaw06.FragOrder", spec := "fragOrder", unfollowed := true, recurses := true, plainKeys := false, apart := false }
def FragOrderSaid : Prop := fragOrderRow.holds Try.pinned (OpenSpec.ofChange fragOrderSpec)

/-- ITS FALSE NEIGHBOUR: 'it returns false'. Refute it at one input. -/
def fragOrderWrong : ChangeSpec := { name := "fragOrder", fn := fun _ => fun
  | [d1, d2, d3] => { results := [.lit (.bool false)], args := [d1, d2, d3] }
  | _ => none }
def FragOrderWrongFalsely : Prop := fragOrderRow.holds Try.pinned (OpenSpec.ofChange fragOrderWrong)

/-- 'stockadelaw06.FragOver': WHATEVER THE INPUT: true; the input reads as it did. -/
def fragOverSpec : ChangeSpec := { name := "fragOver", fn := fun _ => fun
  | [d1, d2, d3] => { results := [.lit (.bool true)], args := [d1, d2, d3] }
  | _ => none }
def fragOverRow : OpenClaim := { program := "ytkeeidfpgfdldaa", sum := "b8c6b36aa3073f1c8c9d9054c706f5f3483e02155e9f9c20f7645592d77d9d0a", func := "stockade/stockadelaw06.FragOver", spec := "fragOver", unfollowed := true, recurses := true, plainKeys := false, apart := false }
def FragOverSaid : Prop := fragOverRow.holds Try.pinned (OpenSpec.ofChange fragOverSpec)

/-- ITS FALSE NEIGHBOUR: 'it returns false'. Refute it at one input. -/
def fragOverWrong : ChangeSpec := { name := "fragOver", fn := fun _ => fun
  | [d1, d2, d3] => { results := [.lit (.bool false)], args := [d1, d2, d3] }
  | _ => none }
def FragOverWrongFalsely : Prop := fragOverRow.holds Try.pinned (OpenSpec.ofChange fragOverWrong)

/-- 'stockadelaw06.FragGone': WHATEVER THE INPUT: true; the input reads as it did. -/
def fragGoneSpec : ChangeSpec := { name := "fragGone", fn := fun _ => fun
  | [d1, d2, d3] => { results := [.lit (.bool true)], args := [d1, d2, d3] }
  | _ => none }
def fragGoneRow : OpenClaim := { program := "ytkeeidfpgfdldaa", sum := "b8c6b36aa3073f1c8c9d9054c706f5f3483e02155e9f9c20f7645592d77d9d0a", func := "stockade/stockadelaw06.FragGone", spec := "fragGone", unfollowed := true, recurses := true, plainKeys := false, apart := false }
def FragGoneSaid : Prop := fragGoneRow.holds Try.pinned (OpenSpec.ofChange fragGoneSpec)

/-- ITS FALSE NEIGHBOUR: 'it returns false'. Refute it at one input. -/
def fragGoneWrong : ChangeSpec := { name := "fragGone", fn := fun _ => fun
  | [d1, d2, d3] => { results := [.lit (.bool false)], args := [d1, d2, d3] }
  | _ => none }
def FragGoneWrongFalsely : Prop := fragGoneRow.holds Try.pinned (OpenSpec.ofChange fragGoneWrong)

/-- 'stockadelaw06.FragApart': WHATEVER THE INPUT: true; the input reads as it did. -/
def fragApartSpec : ChangeSpec := { name := "fragApart", fn := fun _ => fun
  | [d1, d2, d3] => { results := [.lit (.bool true)], args := [d1, d2, d3] }
  | _ => none }
def fragApartRow : OpenClaim := { program := "ytkeeidfpgfdldaa", sum := "b8c6b36aa3073f1c8c9d9054c706f5f3483e02155e9f9c20f7645592d77d9d0a", func := "stockade/stockadelaw06.FragApart", spec := "fragApart", unfollowed := true, recurses := true, plainKeys := false, apart := false }
def FragApartSaid : Prop := fragApartRow.holds Try.pinned (OpenSpec.ofChange fragApartSpec)

/-- ITS FALSE NEIGHBOUR: 'it returns false'. Refute it at one input. -/
def fragApartWrong : ChangeSpec := { name := "fragApart", fn := fun _ => fun
  | [d1, d2, d3] => { results := [.lit (.bool false)], args := [d1, d2, d3] }
  | _ => none }
def FragApartWrongFalsely : Prop := fragApartRow.holds Try.pinned (OpenSpec.ofChange fragApartWrong)

/-- 'stockadelaw06.FragNobody': WHATEVER THE INPUT: true; the input reads as it did. -/
def fragNobodySpec : ChangeSpec := { name := "fragNobody", fn := fun _ => fun
  | [d] => { results := [.lit (.bool true)], args := [d] }
  | _ => none }
def fragNobodyRow : OpenClaim := { program := "ytkeeidfpgfdldaa", sum := "b8c6b36aa3073f1c8c9d9054c706f5f3483e02155e9f9c20f7645592d77d9d0a", func := "stockade/stockadelaw06.FragNobody", spec := "fragNobody", unfollowed := true, recurses := true, plainKeys := false, apart := false }
def FragNobodySaid : Prop := fragNobodyRow.holds Try.pinned (OpenSpec.ofChange fragNobodySpec)

/-- ITS FALSE NEIGHBOUR: 'it returns false'. Refute it at one input. -/
def fragNobodyWrong : ChangeSpec := { name := "fragNobody", fn := fun _ => fun
  | [d] => { results := [.lit (.bool false)], args := [d] }
  | _ => none }
def FragNobodyWrongFalsely : Prop := fragNobodyRow.holds Try.pinned (OpenSpec.ofChange fragNobodyWrong)

/-- 'stockadelaw06.FragOwn': WHATEVER THE INPUT: true; the input reads as it did. -/
def fragOwnSpec : ChangeSpec := { name := "fragOwn", fn := fun _ => fun
  | [d1, d2, d3] => { results := [.lit (.bool true)], args := [d1, d2, d3] }
  | _ => none }
def fragOwnRow : OpenClaim := { program := "ytkeeidfpgfdldaa", sum := "b8c6b36aa3073f1c8c9d9054c706f5f3483e02155e9f9c20f7645592d77d9d0a", func := "stockade/stockadelaw06.FragOwn", spec := "fragOwn", unfollowed := true, recurses := true, plainKeys := false, apart := false }
def FragOwnSaid : Prop := fragOwnRow.holds Try.pinned (OpenSpec.ofChange fragOwnSpec)

/-- ITS FALSE NEIGHBOUR: 'it returns false'. Refute it at one input. -/
def fragOwnWrong : ChangeSpec := { name := "fragOwn", fn := fun _ => fun
  | [d1, d2, d3] => { results := [.lit (.bool false)], args := [d1, d2, d3] }
  | _ => none }
def FragOwnWrongFalsely : Prop := fragOwnRow.holds Try.pinned (OpenSpec.ofChange fragOwnWrong)

/-- 'stockadetop.TopWires': WHATEVER THE INPUT: true; the input reads as it did. -/
def topWiresSpec : ChangeSpec := { name := "topWires", fn := fun _ => fun
  | [d1, d2, d3] => { results := [.lit (.bool true)], args := [d1, d2, d3] }
  | _ => none }
def topWiresRow : OpenClaim := { program := "ytkeeidfpgfdldaa", sum := "b8c6b36aa3073f1c8c9d9054c706f5f3483e02155e9f9c20f7645592d77d9d0a", func := "stockade/stockadetop.TopWires", spec := "topWires", unfollowed := true, recurses := true, plainKeys := false, apart := false }
def TopWiresSaid : Prop := topWiresRow.holds Try.pinned (OpenSpec.ofChange topWiresSpec)

/-- ITS FALSE NEIGHBOUR: 'it returns false'. Refute it at one input. -/
def topWiresWrong : ChangeSpec := { name := "topWires", fn := fun _ => fun
  | [d1, d2, d3] => { results := [.lit (.bool false)], args := [d1, d2, d3] }
  | _ => none }
def TopWiresWrongFalsely : Prop := topWiresRow.holds Try.pinned (OpenSpec.ofChange topWiresWrong)

/- THE SECOND FORM. 'bulk': how many values and letters a reading holds, each counted each time it is reached (what is shared counts as often as it is met; a slice's spare places count too). A statement '..UptoSaid' is the law's where the arguments, and the package variables that the reading takes, are together of bulk at most 1048576: NARROWER than '..Said'. Prove '..Said' where nothing that the law and all that it calls make is longer than what came in: it says more and counts as full. Else prove '..UptoSaid'. A law counts once. -/
mutual
def uptoBulk {H : Type} : DataW H → Nat
  | .lit (.string bytes) => bytes.length + 1
  | .lit _ => 1
  | .nil => 1
  | .ptr d => uptoBulk d + 1
  | .slice elems spare => uptoBulkAll elems + uptoBulkAll spare + 1
  | .agg parts => uptoBulkAll parts + 1
  | .iface _ d => uptoBulk d + 1
  | .map entries => uptoBulkEntries entries + 1
  | .held _ => 1
def uptoBulkAll {H : Type} : List (DataW H) → Nat
  | [] => 0
  | d :: r => uptoBulk d + uptoBulkAll r
def uptoBulkEntries {H : Type} : List (Lit × DataW H) → Nat
  | [] => 0
  | x :: r => uptoBulkEntry x + uptoBulkEntries r
def uptoBulkEntry {H : Type} : Lit × DataW H → Nat
  | (.string bytes, d) => bytes.length + uptoBulk d + 1
  | (_, d) => uptoBulk d + 1
 end
def uptoSmall : (H : Type) → List (DataW H) → Bool := fun _ ds => decide (uptoBulkAll ds ≤ 1048576)
def OpenSpec.upto (s : _root_.Go.ChangeSpec) : _root_.Go.OpenSpec := { _root_.Go.OpenSpec.ofChange s with cond := some uptoSmall }

/-- 'stockadelaw06.FragPlays', WHERE WHAT IT READS IS OF BULK AT MOST 1048576: true; the input reads as it did. -/
def fragPlaysUptoRow : OpenClaim := { program := "ytkeeidfpgfdldaa", sum := "b8c6b36aa3073f1c8c9d9054c706f5f3483e02155e9f9c20f7645592d77d9d0a", func := "stockade/stockadelaw06.FragPlays", spec := "fragPlays", unfollowed := true, recurses := true, plainKeys := false, apart := false, narrowed := true }
def FragPlaysUptoSaid : Prop := fragPlaysUptoRow.holds Try.pinned (OpenSpec.upto fragPlaysSpec)

/-- 'stockadelaw06.FragBounds', WHERE WHAT IT READS IS OF BULK AT MOST 1048576: true; the input reads as it did. -/
def fragBoundsUptoRow : OpenClaim := { program := "ytkeeidfpgfdldaa", sum := "b8c6b36aa3073f1c8c9d9054c706f5f3483e02155e9f9c20f7645592d77d9d0a", func := "stockade/stockadelaw06.FragBounds", spec := "fragBounds", unfollowed := true, recurses := true, plainKeys := false, apart := false, narrowed := true }
def FragBoundsUptoSaid : Prop := fragBoundsUptoRow.holds Try.pinned (OpenSpec.upto fragBoundsSpec)

/-- 'stockadelaw06.FragOrder', WHERE WHAT IT READS IS OF BULK AT MOST 1048576: true; the input reads as it did. -/
def fragOrderUptoRow : OpenClaim := { program := "ytkeeidfpgfdldaa", sum := "b8c6b36aa3073f1c8c9d9054c706f5f3483e02155e9f9c20f7645592d77d9d0a", func := "stockade/stockadelaw06.FragOrder", spec := "fragOrder", unfollowed := true, recurses := true, plainKeys := false, apart := false, narrowed := true }
def FragOrderUptoSaid : Prop := fragOrderUptoRow.holds Try.pinned (OpenSpec.upto fragOrderSpec)

/-- 'stockadelaw06.FragOver', WHERE WHAT IT READS IS OF BULK AT MOST 1048576: true; the input reads as it did. -/
def fragOverUptoRow : OpenClaim := { program := "ytkeeidfpgfdldaa", sum := "b8c6b36aa3073f1c8c9d9054c706f5f3483e02155e9f9c20f7645592d77d9d0a", func := "stockade/stockadelaw06.FragOver", spec := "fragOver", unfollowed := true, recurses := true, plainKeys := false, apart := false, narrowed := true }
def FragOverUptoSaid : Prop := fragOverUptoRow.holds Try.pinned (OpenSpec.upto fragOverSpec)

/-- 'stockadelaw06.FragGone', WHERE WHAT IT READS IS OF BULK AT MOST 1048576: true; the input reads as it did. -/
def fragGoneUptoRow : OpenClaim := { program := "ytkeeidfpgfdldaa", sum := "b8c6b36aa3073f1c8c9d9054c706f5f3483e02155e9f9c20f7645592d77d9d0a", func := "stockade/stockadelaw06.FragGone", spec := "fragGone", unfollowed := true, recurses := true, plainKeys := false, apart := false, narrowed := true }
def FragGoneUptoSaid : Prop := fragGoneUptoRow.holds Try.pinned (OpenSpec.upto fragGoneSpec)

/-- 'stockadelaw06.FragApart', WHERE WHAT IT READS IS OF BULK AT MOST 1048576: true; the input reads as it did. -/
def fragApartUptoRow : OpenClaim := { program := "ytkeeidfpgfdldaa", sum := "b8c6b36aa3073f1c8c9d9054c706f5f3483e02155e9f9c20f7645592d77d9d0a", func := "stockade/stockadelaw06.FragApart", spec := "fragApart", unfollowed := true, recurses := true, plainKeys := false, apart := false, narrowed := true }
def FragApartUptoSaid : Prop := fragApartUptoRow.holds Try.pinned (OpenSpec.upto fragApartSpec)

/-- 'stockadelaw06.FragNobody', WHERE WHAT IT READS IS OF BULK AT MOST 1048576: true; the input reads as it did. -/
def fragNobodyUptoRow : OpenClaim := { program := "ytkeeidfpgfdldaa", sum := "b8c6b36aa3073f1c8c9d9054c706f5f3483e02155e9f9c20f7645592d77d9d0a", func := "stockade/stockadelaw06.FragNobody", spec := "fragNobody", unfollowed := true, recurses := true, plainKeys := false, apart := false, narrowed := true }
def FragNobodyUptoSaid : Prop := fragNobodyUptoRow.holds Try.pinned (OpenSpec.upto fragNobodySpec)

/-- 'stockadelaw06.FragOwn', WHERE WHAT IT READS IS OF BULK AT MOST 1048576: true; the input reads as it did. -/
def fragOwnUptoRow : OpenClaim := { program := "ytkeeidfpgfdldaa", sum := "b8c6b36aa3073f1c8c9d9054c706f5f3483e02155e9f9c20f7645592d77d9d0a", func := "stockade/stockadelaw06.FragOwn", spec := "fragOwn", unfollowed := true, recurses := true, plainKeys := false, apart := false, narrowed := true }
def FragOwnUptoSaid : Prop := fragOwnUptoRow.holds Try.pinned (OpenSpec.upto fragOwnSpec)

/-- 'stockadetop.TopWires', WHERE WHAT IT READS IS OF BULK AT MOST 1048576: true; the input reads as it did. -/
def topWiresUptoRow : OpenClaim := { program := "ytkeeidfpgfdldaa", sum := "b8c6b36aa3073f1c8c9d9054c706f5f3483e02155e9f9c20f7645592d77d9d0a", func := "stockade/stockadetop.TopWires", spec := "topWires", unfollowed := true, recurses := true, plainKeys := false, apart := false, narrowed := true }
def TopWiresUptoSaid : Prop := topWiresUptoRow.holds Try.pinned (OpenSpec.upto topWiresSpec)

end Rows
end Go.Proofs.Ytkeeidfpgfdldaa
