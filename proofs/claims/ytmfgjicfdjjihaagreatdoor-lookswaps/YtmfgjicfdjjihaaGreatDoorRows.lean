/-
  NARROWER THAN 'FOR EVERY INPUT', by the rows' own cells (each row's printed sentence says how): LookChecks: laid · LookFinds: laid · LookFirst: laid · LookSwaps: laid · LookApart: laid · LookNobody: laid.
  DERIVED. THE GIVEN ROWS OF THIS SEAT. 6 by the template 'for every input the law returns true; each argument reads behind the call as it read before'; 0 by the template 'total and deterministic' (their statements: YtmfgjicfdjjihaaGreatDoorTotals.lean).
  GIVEN WITH THE SEED: the statements are not yours to turn. If you find one false, say at which input.
  Laid BY PROGRAM, IN A SANDBOX (cutbox-rows.mjs): the forced cells as the released guide's own fill.sh prints them over the translation dc62be13a314412d… (all of the seat's roots in one cut). By AI agents, Wed Nov 11 2026. No macro, syntax, notation, axiom, sorry.
-/
import Derived.Test.YtmfgjicfdjjihaaGreatDoorChecked
import GoSem.Claim
import GoSem.ClaimJoined
import GoSem.ClaimMapViews
import Derived.JoinedTies
import Derived.KernelRfl
namespace Go.Proofs.YtmfgjicfdjjihaaGreatDoor
/- THE CELL 'sum', in the pinned program and in every row, IS THE sha256 OF THE DUMP (.gsa) THAT YtmfgjicfdjjihaaGreatDoorProg.lean LOADS. Nothing in Lean hashes anything: it is a label: what it is worth is what the hold of that sum in a sandbox is worth. -/
noncomputable def Tryz.pinned : Pinned := { name := "ytmfgjicfdjjihaagreatdoor", sum := "dc62be13a314412db9f815faa2bc5b8092b89bee32b45c8bbf33d4078c021316", checked := Tryz.checked }
namespace Rows
def none {H : Type} : Left H := { results := [], args := [] }

/- WHAT THE LISTED PACKAGE-LEVEL VARIABLES READ AS WHEN THE CALL BEGINS. Each datum BY PROGRAM (the guide's laid-datum.mjs) off the statement by which the dump's own 'gosem.cut.vars' lays the variable. In a bare row this is a premise. The card (YtmfgjicfdjjihaaGreatDoorCards.lean) ties it to the program's text. -/
def laid_math_bits_deBruijn64tab {H : Type} : DataW H := .agg [.lit (.int .u8 0), .lit (.int .u8 1), .lit (.int .u8 56), .lit (.int .u8 2), .lit (.int .u8 57), .lit (.int .u8 49), .lit (.int .u8 28), .lit (.int .u8 3), .lit (.int .u8 61), .lit (.int .u8 58), .lit (.int .u8 42), .lit (.int .u8 50), .lit (.int .u8 38), .lit (.int .u8 29), .lit (.int .u8 17), .lit (.int .u8 4), .lit (.int .u8 62), .lit (.int .u8 47), .lit (.int .u8 59), .lit (.int .u8 36), .lit (.int .u8 45), .lit (.int .u8 43), .lit (.int .u8 51), .lit (.int .u8 22), .lit (.int .u8 53), .lit (.int .u8 39), .lit (.int .u8 33), .lit (.int .u8 30), .lit (.int .u8 24), .lit (.int .u8 18), .lit (.int .u8 12), .lit (.int .u8 5), .lit (.int .u8 63), .lit (.int .u8 55), .lit (.int .u8 48), .lit (.int .u8 27), .lit (.int .u8 60), .lit (.int .u8 41), .lit (.int .u8 37), .lit (.int .u8 16), .lit (.int .u8 46), .lit (.int .u8 35), .lit (.int .u8 44), .lit (.int .u8 21), .lit (.int .u8 52), .lit (.int .u8 32), .lit (.int .u8 23), .lit (.int .u8 11), .lit (.int .u8 54), .lit (.int .u8 26), .lit (.int .u8 40), .lit (.int .u8 15), .lit (.int .u8 34), .lit (.int .u8 20), .lit (.int .u8 31), .lit (.int .u8 10), .lit (.int .u8 25), .lit (.int .u8 14), .lit (.int .u8 19), .lit (.int .u8 9), .lit (.int .u8 13), .lit (.int .u8 8), .lit (.int .u8 7), .lit (.int .u8 6)]
def laid_stockade_chunk_greatest {H : Type} : DataW H := .agg [.lit (.int .u64 18446744073709551615), .lit (.int .u64 18446744073709551615), .lit (.int .u64 18446744073709551615)]
def laid_stockade_rfc_sides {H : Type} : DataW H := .agg [.agg [.lit (.int .i64 0), .lit (.int .i64 1)], .agg [.lit (.int .i64 2), .lit (.int .i64 3)], .agg [.lit (.int .i64 5), .lit (.int .i64 6)], .agg [.lit (.int .i64 8), .lit (.int .i64 9)], .agg [.lit (.int .i64 10), .lit (.int .i64 4)], .agg [.lit (.int .i64 11), .lit (.int .i64 7)]]
def laid_stockade_look_sides {H : Type} : DataW H := .agg [.agg [.lit (.int .i64 0), .lit (.int .i64 1)], .agg [.lit (.int .i64 2), .lit (.int .i64 3)], .agg [.lit (.int .i64 5), .lit (.int .i64 6)], .agg [.lit (.int .i64 8), .lit (.int .i64 9)], .agg [.lit (.int .i64 10), .lit (.int .i64 4)], .agg [.lit (.int .i64 11), .lit (.int .i64 7)]]

/-- 'stockadelaw13.LookChecks': WHATEVER THE INPUT: true; the input reads as it did. -/
def lookChecksSpec : ChangeSpec := { name := "lookChecks", fn := fun _ => fun
  | [d] => { results := [.lit (.bool true)], args := [d] }
  | _ => none }
def lookChecksRow : OpenClaim := { program := "ytmfgjicfdjjihaagreatdoor", sum := "dc62be13a314412db9f815faa2bc5b8092b89bee32b45c8bbf33d4078c021316", func := "stockade/stockadelaw13.LookChecks", spec := "lookChecks", unfollowed := true, recurses := true, named := ["stockade/look.sides", "stockade/rfc.sides", "stockade/chunk.greatest", "math/bits.deBruijn64tab"], apart := false, laid := [("math/bits.deBruijn64tab", laid_math_bits_deBruijn64tab), ("stockade/chunk.greatest", laid_stockade_chunk_greatest), ("stockade/rfc.sides", laid_stockade_rfc_sides), ("stockade/look.sides", laid_stockade_look_sides)] }
def LookChecksSaid : Prop := lookChecksRow.holds Tryz.pinned (OpenSpec.ofChange lookChecksSpec)

/-- ITS FALSE NEIGHBOUR: 'it returns false'. Refute it at one input. -/
def lookChecksWrong : ChangeSpec := { name := "lookChecks", fn := fun _ => fun
  | [d] => { results := [.lit (.bool false)], args := [d] }
  | _ => none }
def LookChecksWrongFalsely : Prop := lookChecksRow.holds Tryz.pinned (OpenSpec.ofChange lookChecksWrong)

/-- 'stockadelaw13.LookFinds': WHATEVER THE INPUT: true; the input reads as it did. -/
def lookFindsSpec : ChangeSpec := { name := "lookFinds", fn := fun _ => fun
  | [d1, d2] => { results := [.lit (.bool true)], args := [d1, d2] }
  | _ => none }
def lookFindsRow : OpenClaim := { program := "ytmfgjicfdjjihaagreatdoor", sum := "dc62be13a314412db9f815faa2bc5b8092b89bee32b45c8bbf33d4078c021316", func := "stockade/stockadelaw13.LookFinds", spec := "lookFinds", unfollowed := true, recurses := true, named := ["stockade/look.sides", "stockade/rfc.sides", "stockade/chunk.greatest", "math/bits.deBruijn64tab"], apart := false, laid := [("math/bits.deBruijn64tab", laid_math_bits_deBruijn64tab), ("stockade/chunk.greatest", laid_stockade_chunk_greatest), ("stockade/rfc.sides", laid_stockade_rfc_sides), ("stockade/look.sides", laid_stockade_look_sides)] }
def LookFindsSaid : Prop := lookFindsRow.holds Tryz.pinned (OpenSpec.ofChange lookFindsSpec)

/-- ITS FALSE NEIGHBOUR: 'it returns false'. Refute it at one input. -/
def lookFindsWrong : ChangeSpec := { name := "lookFinds", fn := fun _ => fun
  | [d1, d2] => { results := [.lit (.bool false)], args := [d1, d2] }
  | _ => none }
def LookFindsWrongFalsely : Prop := lookFindsRow.holds Tryz.pinned (OpenSpec.ofChange lookFindsWrong)

/-- 'stockadelaw13.LookFirst': WHATEVER THE INPUT: true; the input reads as it did. -/
def lookFirstSpec : ChangeSpec := { name := "lookFirst", fn := fun _ => fun
  | [d1, d2] => { results := [.lit (.bool true)], args := [d1, d2] }
  | _ => none }
def lookFirstRow : OpenClaim := { program := "ytmfgjicfdjjihaagreatdoor", sum := "dc62be13a314412db9f815faa2bc5b8092b89bee32b45c8bbf33d4078c021316", func := "stockade/stockadelaw13.LookFirst", spec := "lookFirst", unfollowed := true, recurses := true, named := ["stockade/rfc.sides", "stockade/chunk.greatest", "math/bits.deBruijn64tab", "stockade/look.sides"], apart := false, laid := [("math/bits.deBruijn64tab", laid_math_bits_deBruijn64tab), ("stockade/chunk.greatest", laid_stockade_chunk_greatest), ("stockade/rfc.sides", laid_stockade_rfc_sides), ("stockade/look.sides", laid_stockade_look_sides)] }
def LookFirstSaid : Prop := lookFirstRow.holds Tryz.pinned (OpenSpec.ofChange lookFirstSpec)

/-- ITS FALSE NEIGHBOUR: 'it returns false'. Refute it at one input. -/
def lookFirstWrong : ChangeSpec := { name := "lookFirst", fn := fun _ => fun
  | [d1, d2] => { results := [.lit (.bool false)], args := [d1, d2] }
  | _ => none }
def LookFirstWrongFalsely : Prop := lookFirstRow.holds Tryz.pinned (OpenSpec.ofChange lookFirstWrong)

/-- 'stockadelaw13.LookSwaps': WHATEVER THE INPUT: true; the input reads as it did. -/
def lookSwapsSpec : ChangeSpec := { name := "lookSwaps", fn := fun _ => fun
  | [d] => { results := [.lit (.bool true)], args := [d] }
  | _ => none }
def lookSwapsRow : OpenClaim := { program := "ytmfgjicfdjjihaagreatdoor", sum := "dc62be13a314412db9f815faa2bc5b8092b89bee32b45c8bbf33d4078c021316", func := "stockade/stockadelaw13.LookSwaps", spec := "lookSwaps", unfollowed := true, recurses := true, named := ["stockade/rfc.sides", "stockade/chunk.greatest", "math/bits.deBruijn64tab", "stockade/look.sides"], apart := false, laid := [("math/bits.deBruijn64tab", laid_math_bits_deBruijn64tab), ("stockade/chunk.greatest", laid_stockade_chunk_greatest), ("stockade/rfc.sides", laid_stockade_rfc_sides), ("stockade/look.sides", laid_stockade_look_sides)] }
def LookSwapsSaid : Prop := lookSwapsRow.holds Tryz.pinned (OpenSpec.ofChange lookSwapsSpec)

/-- ITS FALSE NEIGHBOUR: 'it returns false'. Refute it at one input. -/
def lookSwapsWrong : ChangeSpec := { name := "lookSwaps", fn := fun _ => fun
  | [d] => { results := [.lit (.bool false)], args := [d] }
  | _ => none }
def LookSwapsWrongFalsely : Prop := lookSwapsRow.holds Tryz.pinned (OpenSpec.ofChange lookSwapsWrong)

/-- 'stockadelaw13.LookApart': WHATEVER THE INPUT: true; the input reads as it did. -/
def lookApartSpec : ChangeSpec := { name := "lookApart", fn := fun _ => fun
  | [d1, d2, d3] => { results := [.lit (.bool true)], args := [d1, d2, d3] }
  | _ => none }
def lookApartRow : OpenClaim := { program := "ytmfgjicfdjjihaagreatdoor", sum := "dc62be13a314412db9f815faa2bc5b8092b89bee32b45c8bbf33d4078c021316", func := "stockade/stockadelaw13.LookApart", spec := "lookApart", unfollowed := true, recurses := true, named := ["stockade/rfc.sides", "stockade/chunk.greatest", "math/bits.deBruijn64tab", "stockade/look.sides"], apart := false, laid := [("math/bits.deBruijn64tab", laid_math_bits_deBruijn64tab), ("stockade/chunk.greatest", laid_stockade_chunk_greatest), ("stockade/rfc.sides", laid_stockade_rfc_sides), ("stockade/look.sides", laid_stockade_look_sides)] }
def LookApartSaid : Prop := lookApartRow.holds Tryz.pinned (OpenSpec.ofChange lookApartSpec)

/-- ITS FALSE NEIGHBOUR: 'it returns false'. Refute it at one input. -/
def lookApartWrong : ChangeSpec := { name := "lookApart", fn := fun _ => fun
  | [d1, d2, d3] => { results := [.lit (.bool false)], args := [d1, d2, d3] }
  | _ => none }
def LookApartWrongFalsely : Prop := lookApartRow.holds Tryz.pinned (OpenSpec.ofChange lookApartWrong)

/-- 'stockadelaw13.LookNobody': WHATEVER THE INPUT: true; the input reads as it did. -/
def lookNobodySpec : ChangeSpec := { name := "lookNobody", fn := fun _ => fun
  | [d] => { results := [.lit (.bool true)], args := [d] }
  | _ => none }
def lookNobodyRow : OpenClaim := { program := "ytmfgjicfdjjihaagreatdoor", sum := "dc62be13a314412db9f815faa2bc5b8092b89bee32b45c8bbf33d4078c021316", func := "stockade/stockadelaw13.LookNobody", spec := "lookNobody", unfollowed := true, recurses := true, named := ["stockade/look.sides", "stockade/rfc.sides", "stockade/chunk.greatest", "math/bits.deBruijn64tab"], apart := false, laid := [("math/bits.deBruijn64tab", laid_math_bits_deBruijn64tab), ("stockade/chunk.greatest", laid_stockade_chunk_greatest), ("stockade/rfc.sides", laid_stockade_rfc_sides), ("stockade/look.sides", laid_stockade_look_sides)] }
def LookNobodySaid : Prop := lookNobodyRow.holds Tryz.pinned (OpenSpec.ofChange lookNobodySpec)

/-- ITS FALSE NEIGHBOUR: 'it returns false'. Refute it at one input. -/
def lookNobodyWrong : ChangeSpec := { name := "lookNobody", fn := fun _ => fun
  | [d] => { results := [.lit (.bool false)], args := [d] }
  | _ => none }
def LookNobodyWrongFalsely : Prop := lookNobodyRow.holds Tryz.pinned (OpenSpec.ofChange lookNobodyWrong)

/- THE SECOND FORM. 'bulk': how many values and letters a reading holds, each counted each time it is reached (what is shared counts as often as it is met; a slice's spare places count too). A statement '..UptoSaid' is the law's where the arguments, and the package variables that the reading takes, are together of bulk at most 1048576: NARROWER than '..Said'. Prove '..Said' where nothing that the law and all that it calls make is longer than what came in: it says more and counts as full. Else prove '..UptoSaid'. A law counts once. -/
mutual
def uptoBulk {H : Type} : DataW H → Nat
  | .lit (.string bytes) => bytes.length + 1
  | .lit _ => 1
  | .nil => 1
  | .ptr d => uptoBulk d + 1
  | .slice elems spare => uptoBulkAll elems + uptoBulkAll spare + 1
  | .agg parts => uptoBulkAll parts + 1
  | .iface _ d => uptoBulk d + 1
  | .map entries => uptoBulkEntries entries + 1
  | .held _ => 1
def uptoBulkAll {H : Type} : List (DataW H) → Nat
  | [] => 0
  | d :: r => uptoBulk d + uptoBulkAll r
def uptoBulkEntries {H : Type} : List (Lit × DataW H) → Nat
  | [] => 0
  | x :: r => uptoBulkEntry x + uptoBulkEntries r
def uptoBulkEntry {H : Type} : Lit × DataW H → Nat
  | (.string bytes, d) => bytes.length + uptoBulk d + 1
  | (_, d) => uptoBulk d + 1
 end
def uptoSmall : (H : Type) → List (DataW H) → Bool := fun _ ds => decide (uptoBulkAll ds ≤ 1048576)
def OpenSpec.upto (s : _root_.Go.ChangeSpec) : _root_.Go.OpenSpec := { _root_.Go.OpenSpec.ofChange s with cond := some uptoSmall }

/-- 'stockadelaw13.LookChecks', WHERE WHAT IT READS IS OF BULK AT MOST 1048576: true; the input reads as it did. -/
def lookChecksUptoRow : OpenClaim := { program := "ytmfgjicfdjjihaagreatdoor", sum := "dc62be13a314412db9f815faa2bc5b8092b89bee32b45c8bbf33d4078c021316", func := "stockade/stockadelaw13.LookChecks", spec := "lookChecks", unfollowed := true, recurses := true, named := ["stockade/look.sides", "stockade/rfc.sides", "stockade/chunk.greatest", "math/bits.deBruijn64tab"], apart := false, laid := [("math/bits.deBruijn64tab", laid_math_bits_deBruijn64tab), ("stockade/chunk.greatest", laid_stockade_chunk_greatest), ("stockade/rfc.sides", laid_stockade_rfc_sides), ("stockade/look.sides", laid_stockade_look_sides)], narrowed := true }
def LookChecksUptoSaid : Prop := lookChecksUptoRow.holds Tryz.pinned (OpenSpec.upto lookChecksSpec)

/-- 'stockadelaw13.LookFinds', WHERE WHAT IT READS IS OF BULK AT MOST 1048576: true; the input reads as it did. -/
def lookFindsUptoRow : OpenClaim := { program := "ytmfgjicfdjjihaagreatdoor", sum := "dc62be13a314412db9f815faa2bc5b8092b89bee32b45c8bbf33d4078c021316", func := "stockade/stockadelaw13.LookFinds", spec := "lookFinds", unfollowed := true, recurses := true, named := ["stockade/look.sides", "stockade/rfc.sides", "stockade/chunk.greatest", "math/bits.deBruijn64tab"], apart := false, laid := [("math/bits.deBruijn64tab", laid_math_bits_deBruijn64tab), ("stockade/chunk.greatest", laid_stockade_chunk_greatest), ("stockade/rfc.sides", laid_stockade_rfc_sides), ("stockade/look.sides", laid_stockade_look_sides)], narrowed := true }
def LookFindsUptoSaid : Prop := lookFindsUptoRow.holds Tryz.pinned (OpenSpec.upto lookFindsSpec)

/-- 'stockadelaw13.LookFirst', WHERE WHAT IT READS IS OF BULK AT MOST 1048576: true; the input reads as it did. -/
def lookFirstUptoRow : OpenClaim := { program := "ytmfgjicfdjjihaagreatdoor", sum := "dc62be13a314412db9f815faa2bc5b8092b89bee32b45c8bbf33d4078c021316", func := "stockade/stockadelaw13.LookFirst", spec := "lookFirst", unfollowed := true, recurses := true, named := ["stockade/rfc.sides", "stockade/chunk.greatest", "math/bits.deBruijn64tab", "stockade/look.sides"], apart := false, laid := [("math/bits.deBruijn64tab", laid_math_bits_deBruijn64tab), ("stockade/chunk.greatest", laid_stockade_chunk_greatest), ("stockade/rfc.sides", laid_stockade_rfc_sides), ("stockade/look.sides", laid_stockade_look_sides)], narrowed := true }
def LookFirstUptoSaid : Prop := lookFirstUptoRow.holds Tryz.pinned (OpenSpec.upto lookFirstSpec)

/-- 'stockadelaw13.LookSwaps', WHERE WHAT IT READS IS OF BULK AT MOST 1048576: true; the input reads as it did. -/
def lookSwapsUptoRow : OpenClaim := { program := "ytmfgjicfdjjihaagreatdoor", sum := "dc62be13a314412db9f815faa2bc5b8092b89bee32b45c8bbf33d4078c021316", func := "stockade/stockadelaw13.LookSwaps", spec := "lookSwaps", unfollowed := true, recurses := true, named := ["stockade/rfc.sides", "stockade/chunk.greatest", "math/bits.deBruijn64tab", "stockade/look.sides"], apart := false, laid := [("math/bits.deBruijn64tab", laid_math_bits_deBruijn64tab), ("stockade/chunk.greatest", laid_stockade_chunk_greatest), ("stockade/rfc.sides", laid_stockade_rfc_sides), ("stockade/look.sides", laid_stockade_look_sides)], narrowed := true }
def LookSwapsUptoSaid : Prop := lookSwapsUptoRow.holds Tryz.pinned (OpenSpec.upto lookSwapsSpec)

/-- 'stockadelaw13.LookApart', WHERE WHAT IT READS IS OF BULK AT MOST 1048576: true; the input reads as it did. -/
def lookApartUptoRow : OpenClaim := { program := "ytmfgjicfdjjihaagreatdoor", sum := "dc62be13a314412db9f815faa2bc5b8092b89bee32b45c8bbf33d4078c021316", func := "stockade/stockadelaw13.LookApart", spec := "lookApart", unfollowed := true, recurses := true, named := ["stockade/rfc.sides", "stockade/chunk.greatest", "math/bits.deBruijn64tab", "stockade/look.sides"], apart := false, laid := [("math/bits.deBruijn64tab", laid_math_bits_deBruijn64tab), ("stockade/chunk.greatest", laid_stockade_chunk_greatest), ("stockade/rfc.sides", laid_stockade_rfc_sides), ("stockade/look.sides", laid_stockade_look_sides)], narrowed := true }
def LookApartUptoSaid : Prop := lookApartUptoRow.holds Tryz.pinned (OpenSpec.upto lookApartSpec)

/-- 'stockadelaw13.LookNobody', WHERE WHAT IT READS IS OF BULK AT MOST 1048576: true; the input reads as it did. -/
def lookNobodyUptoRow : OpenClaim := { program := "ytmfgjicfdjjihaagreatdoor", sum := "dc62be13a314412db9f815faa2bc5b8092b89bee32b45c8bbf33d4078c021316", func := "stockade/stockadelaw13.LookNobody", spec := "lookNobody", unfollowed := true, recurses := true, named := ["stockade/look.sides", "stockade/rfc.sides", "stockade/chunk.greatest", "math/bits.deBruijn64tab"], apart := false, laid := [("math/bits.deBruijn64tab", laid_math_bits_deBruijn64tab), ("stockade/chunk.greatest", laid_stockade_chunk_greatest), ("stockade/rfc.sides", laid_stockade_rfc_sides), ("stockade/look.sides", laid_stockade_look_sides)], narrowed := true }
def LookNobodyUptoSaid : Prop := lookNobodyUptoRow.holds Tryz.pinned (OpenSpec.upto lookNobodySpec)

end Rows
end Go.Proofs.YtmfgjicfdjjihaaGreatDoor
