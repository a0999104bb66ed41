/-
  NARROWER THAN 'FOR EVERY INPUT', by the rows' own cells (each row's printed sentence says how): FtpLines: laid · FtpPlaces: laid · FtpAsks: laid · FtpCuts: laid · FtpSizes: laid · FtpSides: laid · FtpOwn: laid.
  DERIVED. THE GIVEN ROWS OF THIS SEAT. 7 by the template 'for every input the law returns true; each argument reads behind the call as it read before'; 0 by the template 'total and deterministic' (their statements: YtnadfacbfcdkgaaDoorTotals.lean).
  GIVEN WITH THE SEED: the statements are not yours to turn. If you find one false, say at which input.
  Laid BY PROGRAM, IN A SANDBOX (cutbox-rows.mjs): the forced cells as the released guide's own fill.sh prints them over the translation a05a9a2f1dd95fe4… (all of the seat's roots in one cut). By AI agents, Wed Nov 11 2026. No macro, syntax, notation, axiom, sorry.
-/
import Derived.Test.YtnadfacbfcdkgaaDoorChecked
import GoSem.PinnedTables
import GoSem.Claim
import GoSem.ClaimJoined
import GoSem.ClaimMapViews
import Derived.JoinedTies
import Derived.KernelRfl
namespace Go.Proofs.YtnadfacbfcdkgaaDoor
/- THE CELL 'sum', in the pinned program and in every row, IS THE sha256 OF THE DUMP (.gsa) THAT YtnadfacbfcdkgaaDoorProg.lean LOADS. Nothing in Lean hashes anything: it is a label: what it is worth is what the hold of that sum in a sandbox is worth. -/
noncomputable def Tryd.pinned : Pinned := { name := "ytnadfacbfcdkgaadoor", sum := "a05a9a2f1dd95fe407649c6fda4d892e4344b83e364326748b807df0825744b4", checked := Tryd.checked }
namespace Rows
def none {H : Type} : Left H := { results := [], args := [] }

/- WHAT THE LISTED PACKAGE-LEVEL VARIABLES READ AS WHEN THE CALL BEGINS. Each datum BY PROGRAM (the guide's laid-datum.mjs) off the statement by which the dump's own 'gosem.cut.vars' lays the variable. In a bare row this is a premise. The card (YtnadfacbfcdkgaaDoorCards.lean) ties it to the program's text. -/
def laid_unicode_utf8_acceptRanges {H : Type} : DataW H := .agg [.agg [.lit (.int .u8 128), .lit (.int .u8 191)], .agg [.lit (.int .u8 160), .lit (.int .u8 191)], .agg [.lit (.int .u8 128), .lit (.int .u8 159)], .agg [.lit (.int .u8 144), .lit (.int .u8 191)], .agg [.lit (.int .u8 128), .lit (.int .u8 143)], .agg [.lit (.int .u8 0), .lit (.int .u8 0)], .agg [.lit (.int .u8 0), .lit (.int .u8 0)], .agg [.lit (.int .u8 0), .lit (.int .u8 0)], .agg [.lit (.int .u8 0), .lit (.int .u8 0)], .agg [.lit (.int .u8 0), .lit (.int .u8 0)], .agg [.lit (.int .u8 0), .lit (.int .u8 0)], .agg [.lit (.int .u8 0), .lit (.int .u8 0)], .agg [.lit (.int .u8 0), .lit (.int .u8 0)], .agg [.lit (.int .u8 0), .lit (.int .u8 0)], .agg [.lit (.int .u8 0), .lit (.int .u8 0)], .agg [.lit (.int .u8 0), .lit (.int .u8 0)]]
/-- One of Go's own tables, pinned by name: the form's constant. -/
def laid_unicode_utf8_first : DataW Unit := Go.Pinned.utf8First

/-- 'stockadelaw18.FtpLines': WHATEVER THE INPUT: true; the input reads as it did. -/
def ftpLinesSpec : ChangeSpec := { name := "ftpLines", fn := fun _ => fun
  | [d] => { results := [.lit (.bool true)], args := [d] }
  | _ => none }
def ftpLinesRow : OpenClaim := { program := "ytnadfacbfcdkgaadoor", sum := "a05a9a2f1dd95fe407649c6fda4d892e4344b83e364326748b807df0825744b4", func := "stockade/stockadelaw18.FtpLines", spec := "ftpLines", inPlace := ["internal/bytealg.CountString", "internal/bytealg.IndexByteString", "internal/bytealg.IndexString"], named := ["unicode/utf8.first", "unicode/utf8.acceptRanges", "internal/bytealg.MaxLen"], apart := false, laid := [("unicode/utf8.acceptRanges", laid_unicode_utf8_acceptRanges), ("unicode/utf8.first", laid_unicode_utf8_first)] }
def FtpLinesSaid : Prop := ftpLinesRow.holds Tryd.pinned (OpenSpec.ofChange ftpLinesSpec)

/-- ITS FALSE NEIGHBOUR: 'it returns false'. Refute it at one input. -/
def ftpLinesWrong : ChangeSpec := { name := "ftpLines", fn := fun _ => fun
  | [d] => { results := [.lit (.bool false)], args := [d] }
  | _ => none }
def FtpLinesWrongFalsely : Prop := ftpLinesRow.holds Tryd.pinned (OpenSpec.ofChange ftpLinesWrong)

/-- 'stockadelaw18.FtpPlaces': WHATEVER THE INPUT: true; the input reads as it did. -/
def ftpPlacesSpec : ChangeSpec := { name := "ftpPlaces", fn := fun _ => fun
  | [d1, d2, d3] => { results := [.lit (.bool true)], args := [d1, d2, d3] }
  | _ => none }
def ftpPlacesRow : OpenClaim := { program := "ytnadfacbfcdkgaadoor", sum := "a05a9a2f1dd95fe407649c6fda4d892e4344b83e364326748b807df0825744b4", func := "stockade/stockadelaw18.FtpPlaces", spec := "ftpPlaces", inPlace := ["internal/bytealg.CountString", "internal/bytealg.IndexByteString", "internal/bytealg.IndexString"], named := ["unicode/utf8.first", "unicode/utf8.acceptRanges", "internal/bytealg.MaxLen"], apart := false, laid := [("unicode/utf8.acceptRanges", laid_unicode_utf8_acceptRanges), ("unicode/utf8.first", laid_unicode_utf8_first)] }
def FtpPlacesSaid : Prop := ftpPlacesRow.holds Tryd.pinned (OpenSpec.ofChange ftpPlacesSpec)

/-- ITS FALSE NEIGHBOUR: 'it returns false'. Refute it at one input. -/
def ftpPlacesWrong : ChangeSpec := { name := "ftpPlaces", fn := fun _ => fun
  | [d1, d2, d3] => { results := [.lit (.bool false)], args := [d1, d2, d3] }
  | _ => none }
def FtpPlacesWrongFalsely : Prop := ftpPlacesRow.holds Tryd.pinned (OpenSpec.ofChange ftpPlacesWrong)

/-- 'stockadelaw18.FtpAsks': WHATEVER THE INPUT: true; the input reads as it did. -/
def ftpAsksSpec : ChangeSpec := { name := "ftpAsks", fn := fun _ => fun
  | [d1, d2, d3] => { results := [.lit (.bool true)], args := [d1, d2, d3] }
  | _ => none }
def ftpAsksRow : OpenClaim := { program := "ytnadfacbfcdkgaadoor", sum := "a05a9a2f1dd95fe407649c6fda4d892e4344b83e364326748b807df0825744b4", func := "stockade/stockadelaw18.FtpAsks", spec := "ftpAsks", inPlace := ["internal/bytealg.CountString", "internal/bytealg.IndexByteString", "internal/bytealg.IndexString"], named := ["unicode/utf8.first", "unicode/utf8.acceptRanges", "internal/bytealg.MaxLen"], apart := false, laid := [("unicode/utf8.acceptRanges", laid_unicode_utf8_acceptRanges), ("unicode/utf8.first", laid_unicode_utf8_first)] }
def FtpAsksSaid : Prop := ftpAsksRow.holds Tryd.pinned (OpenSpec.ofChange ftpAsksSpec)

/-- ITS FALSE NEIGHBOUR: 'it returns false'. Refute it at one input. -/
def ftpAsksWrong : ChangeSpec := { name := "ftpAsks", fn := fun _ => fun
  | [d1, d2, d3] => { results := [.lit (.bool false)], args := [d1, d2, d3] }
  | _ => none }
def FtpAsksWrongFalsely : Prop := ftpAsksRow.holds Tryd.pinned (OpenSpec.ofChange ftpAsksWrong)

/-- 'stockadelaw18.FtpCuts': WHATEVER THE INPUT: true; the input reads as it did. -/
def ftpCutsSpec : ChangeSpec := { name := "ftpCuts", fn := fun _ => fun
  | [d1, d2, d3] => { results := [.lit (.bool true)], args := [d1, d2, d3] }
  | _ => none }
def ftpCutsRow : OpenClaim := { program := "ytnadfacbfcdkgaadoor", sum := "a05a9a2f1dd95fe407649c6fda4d892e4344b83e364326748b807df0825744b4", func := "stockade/stockadelaw18.FtpCuts", spec := "ftpCuts", inPlace := ["internal/bytealg.CountString", "internal/bytealg.IndexByteString", "internal/bytealg.IndexString"], named := ["unicode/utf8.first", "unicode/utf8.acceptRanges", "internal/bytealg.MaxLen"], apart := false, laid := [("unicode/utf8.acceptRanges", laid_unicode_utf8_acceptRanges), ("unicode/utf8.first", laid_unicode_utf8_first)] }
def FtpCutsSaid : Prop := ftpCutsRow.holds Tryd.pinned (OpenSpec.ofChange ftpCutsSpec)

/-- ITS FALSE NEIGHBOUR: 'it returns false'. Refute it at one input. -/
def ftpCutsWrong : ChangeSpec := { name := "ftpCuts", fn := fun _ => fun
  | [d1, d2, d3] => { results := [.lit (.bool false)], args := [d1, d2, d3] }
  | _ => none }
def FtpCutsWrongFalsely : Prop := ftpCutsRow.holds Tryd.pinned (OpenSpec.ofChange ftpCutsWrong)

/-- 'stockadelaw18.FtpSizes': WHATEVER THE INPUT: true; the input reads as it did. -/
def ftpSizesSpec : ChangeSpec := { name := "ftpSizes", fn := fun _ => fun
  | [d1, d2, d3] => { results := [.lit (.bool true)], args := [d1, d2, d3] }
  | _ => none }
def ftpSizesRow : OpenClaim := { program := "ytnadfacbfcdkgaadoor", sum := "a05a9a2f1dd95fe407649c6fda4d892e4344b83e364326748b807df0825744b4", func := "stockade/stockadelaw18.FtpSizes", spec := "ftpSizes", inPlace := ["internal/bytealg.CountString", "internal/bytealg.IndexByteString", "internal/bytealg.IndexString"], named := ["unicode/utf8.first", "unicode/utf8.acceptRanges", "internal/bytealg.MaxLen"], apart := false, laid := [("unicode/utf8.acceptRanges", laid_unicode_utf8_acceptRanges), ("unicode/utf8.first", laid_unicode_utf8_first)] }
def FtpSizesSaid : Prop := ftpSizesRow.holds Tryd.pinned (OpenSpec.ofChange ftpSizesSpec)

/-- ITS FALSE NEIGHBOUR: 'it returns false'. Refute it at one input. -/
def ftpSizesWrong : ChangeSpec := { name := "ftpSizes", fn := fun _ => fun
  | [d1, d2, d3] => { results := [.lit (.bool false)], args := [d1, d2, d3] }
  | _ => none }
def FtpSizesWrongFalsely : Prop := ftpSizesRow.holds Tryd.pinned (OpenSpec.ofChange ftpSizesWrong)

/-- 'stockadelaw18.FtpSides': WHATEVER THE INPUT: true; the input reads as it did. -/
def ftpSidesSpec : ChangeSpec := { name := "ftpSides", fn := fun _ => fun
  | [d1, d2] => { results := [.lit (.bool true)], args := [d1, d2] }
  | _ => none }
def ftpSidesRow : OpenClaim := { program := "ytnadfacbfcdkgaadoor", sum := "a05a9a2f1dd95fe407649c6fda4d892e4344b83e364326748b807df0825744b4", func := "stockade/stockadelaw18.FtpSides", spec := "ftpSides", inPlace := ["internal/bytealg.CountString", "internal/bytealg.IndexByteString", "internal/bytealg.IndexString"], named := ["unicode/utf8.first", "unicode/utf8.acceptRanges", "internal/bytealg.MaxLen"], apart := false, laid := [("unicode/utf8.acceptRanges", laid_unicode_utf8_acceptRanges), ("unicode/utf8.first", laid_unicode_utf8_first)] }
def FtpSidesSaid : Prop := ftpSidesRow.holds Tryd.pinned (OpenSpec.ofChange ftpSidesSpec)

/-- ITS FALSE NEIGHBOUR: 'it returns false'. Refute it at one input. -/
def ftpSidesWrong : ChangeSpec := { name := "ftpSides", fn := fun _ => fun
  | [d1, d2] => { results := [.lit (.bool false)], args := [d1, d2] }
  | _ => none }
def FtpSidesWrongFalsely : Prop := ftpSidesRow.holds Tryd.pinned (OpenSpec.ofChange ftpSidesWrong)

/-- 'stockadelaw18.FtpOwn': WHATEVER THE INPUT: true; the input reads as it did. -/
def ftpOwnSpec : ChangeSpec := { name := "ftpOwn", fn := fun _ => fun
  | [d] => { results := [.lit (.bool true)], args := [d] }
  | _ => none }
def ftpOwnRow : OpenClaim := { program := "ytnadfacbfcdkgaadoor", sum := "a05a9a2f1dd95fe407649c6fda4d892e4344b83e364326748b807df0825744b4", func := "stockade/stockadelaw18.FtpOwn", spec := "ftpOwn", inPlace := ["internal/bytealg.CountString", "internal/bytealg.IndexByteString", "internal/bytealg.IndexString"], named := ["unicode/utf8.first", "unicode/utf8.acceptRanges", "internal/bytealg.MaxLen"], apart := false, laid := [("unicode/utf8.acceptRanges", laid_unicode_utf8_acceptRanges), ("unicode/utf8.first", laid_unicode_utf8_first)] }
def FtpOwnSaid : Prop := ftpOwnRow.holds Tryd.pinned (OpenSpec.ofChange ftpOwnSpec)

/-- ITS FALSE NEIGHBOUR: 'it returns false'. Refute it at one input. -/
def ftpOwnWrong : ChangeSpec := { name := "ftpOwn", fn := fun _ => fun
  | [d] => { results := [.lit (.bool false)], args := [d] }
  | _ => none }
def FtpOwnWrongFalsely : Prop := ftpOwnRow.holds Tryd.pinned (OpenSpec.ofChange ftpOwnWrong)

/- THE SECOND FORM. 'bulk': how many values and letters a reading holds, each counted each time it is reached (what is shared counts as often as it is met; a slice's spare places count too). A statement '..UptoSaid' is the law's where the arguments, and the package variables that the reading takes, are together of bulk at most 1048576: NARROWER than '..Said'. Prove '..Said' where nothing that the law and all that it calls make is longer than what came in: it says more and counts as full. Else prove '..UptoSaid'. A law counts once. -/
mutual
def uptoBulk {H : Type} : DataW H → Nat
  | .lit (.string bytes) => bytes.length + 1
  | .lit _ => 1
  | .nil => 1
  | .ptr d => uptoBulk d + 1
  | .slice elems spare => uptoBulkAll elems + uptoBulkAll spare + 1
  | .agg parts => uptoBulkAll parts + 1
  | .iface _ d => uptoBulk d + 1
  | .map entries => uptoBulkEntries entries + 1
  | .held _ => 1
def uptoBulkAll {H : Type} : List (DataW H) → Nat
  | [] => 0
  | d :: r => uptoBulk d + uptoBulkAll r
def uptoBulkEntries {H : Type} : List (Lit × DataW H) → Nat
  | [] => 0
  | x :: r => uptoBulkEntry x + uptoBulkEntries r
def uptoBulkEntry {H : Type} : Lit × DataW H → Nat
  | (.string bytes, d) => bytes.length + uptoBulk d + 1
  | (_, d) => uptoBulk d + 1
 end
def uptoSmall : (H : Type) → List (DataW H) → Bool := fun _ ds => decide (uptoBulkAll ds ≤ 1048576)
def OpenSpec.upto (s : _root_.Go.ChangeSpec) : _root_.Go.OpenSpec := { _root_.Go.OpenSpec.ofChange s with cond := some uptoSmall }

/-- 'stockadelaw18.FtpLines', WHERE WHAT IT READS IS OF BULK AT MOST 1048576: true; the input reads as it did. -/
def ftpLinesUptoRow : OpenClaim := { program := "ytnadfacbfcdkgaadoor", sum := "a05a9a2f1dd95fe407649c6fda4d892e4344b83e364326748b807df0825744b4", func := "stockade/stockadelaw18.FtpLines", spec := "ftpLines", inPlace := ["internal/bytealg.CountString", "internal/bytealg.IndexByteString", "internal/bytealg.IndexString"], named := ["unicode/utf8.first", "unicode/utf8.acceptRanges", "internal/bytealg.MaxLen"], apart := false, laid := [("unicode/utf8.acceptRanges", laid_unicode_utf8_acceptRanges), ("unicode/utf8.first", laid_unicode_utf8_first)], narrowed := true }
def FtpLinesUptoSaid : Prop := ftpLinesUptoRow.holds Tryd.pinned (OpenSpec.upto ftpLinesSpec)

/-- 'stockadelaw18.FtpPlaces', WHERE WHAT IT READS IS OF BULK AT MOST 1048576: true; the input reads as it did. -/
def ftpPlacesUptoRow : OpenClaim := { program := "ytnadfacbfcdkgaadoor", sum := "a05a9a2f1dd95fe407649c6fda4d892e4344b83e364326748b807df0825744b4", func := "stockade/stockadelaw18.FtpPlaces", spec := "ftpPlaces", inPlace := ["internal/bytealg.CountString", "internal/bytealg.IndexByteString", "internal/bytealg.IndexString"], named := ["unicode/utf8.first", "unicode/utf8.acceptRanges", "internal/bytealg.MaxLen"], apart := false, laid := [("unicode/utf8.acceptRanges", laid_unicode_utf8_acceptRanges), ("unicode/utf8.first", laid_unicode_utf8_first)], narrowed := true }
def FtpPlacesUptoSaid : Prop := ftpPlacesUptoRow.holds Tryd.pinned (OpenSpec.upto ftpPlacesSpec)

/-- 'stockadelaw18.FtpAsks', WHERE WHAT IT READS IS OF BULK AT MOST 1048576: true; the input reads as it did. -/
def ftpAsksUptoRow : OpenClaim := { program := "ytnadfacbfcdkgaadoor", sum := "a05a9a2f1dd95fe407649c6fda4d892e4344b83e364326748b807df0825744b4", func := "stockade/stockadelaw18.FtpAsks", spec := "ftpAsks", inPlace := ["internal/bytealg.CountString", "internal/bytealg.IndexByteString", "internal/bytealg.IndexString"], named := ["unicode/utf8.first", "unicode/utf8.acceptRanges", "internal/bytealg.MaxLen"], apart := false, laid := [("unicode/utf8.acceptRanges", laid_unicode_utf8_acceptRanges), ("unicode/utf8.first", laid_unicode_utf8_first)], narrowed := true }
def FtpAsksUptoSaid : Prop := ftpAsksUptoRow.holds Tryd.pinned (OpenSpec.upto ftpAsksSpec)

/-- 'stockadelaw18.FtpCuts', WHERE WHAT IT READS IS OF BULK AT MOST 1048576: true; the input reads as it did. -/
def ftpCutsUptoRow : OpenClaim := { program := "ytnadfacbfcdkgaadoor", sum := "a05a9a2f1dd95fe407649c6fda4d892e4344b83e364326748b807df0825744b4", func := "stockade/stockadelaw18.FtpCuts", spec := "ftpCuts", inPlace := ["internal/bytealg.CountString", "internal/bytealg.IndexByteString", "internal/bytealg.IndexString"], named := ["unicode/utf8.first", "unicode/utf8.acceptRanges", "internal/bytealg.MaxLen"], apart := false, laid := [("unicode/utf8.acceptRanges", laid_unicode_utf8_acceptRanges), ("unicode/utf8.first", laid_unicode_utf8_first)], narrowed := true }
def FtpCutsUptoSaid : Prop := ftpCutsUptoRow.holds Tryd.pinned (OpenSpec.upto ftpCutsSpec)

/-- 'stockadelaw18.FtpSizes', WHERE WHAT IT READS IS OF BULK AT MOST 1048576: true; the input reads as it did. -/
def ftpSizesUptoRow : OpenClaim := { program := "ytnadfacbfcdkgaadoor", sum := "a05a9a2f1dd95fe407649c6fda4d892e4344b83e364326748b807df0825744b4", func := "stockade/stockadelaw18.FtpSizes", spec := "ftpSizes", inPlace := ["internal/bytealg.CountString", "internal/bytealg.IndexByteString", "internal/bytealg.IndexString"], named := ["unicode/utf8.first", "unicode/utf8.acceptRanges", "internal/bytealg.MaxLen"], apart := false, laid := [("unicode/utf8.acceptRanges", laid_unicode_utf8_acceptRanges), ("unicode/utf8.first", laid_unicode_utf8_first)], narrowed := true }
def FtpSizesUptoSaid : Prop := ftpSizesUptoRow.holds Tryd.pinned (OpenSpec.upto ftpSizesSpec)

/-- 'stockadelaw18.FtpSides', WHERE WHAT IT READS IS OF BULK AT MOST 1048576: true; the input reads as it did. -/
def ftpSidesUptoRow : OpenClaim := { program := "ytnadfacbfcdkgaadoor", sum := "a05a9a2f1dd95fe407649c6fda4d892e4344b83e364326748b807df0825744b4", func := "stockade/stockadelaw18.FtpSides", spec := "ftpSides", inPlace := ["internal/bytealg.CountString", "internal/bytealg.IndexByteString", "internal/bytealg.IndexString"], named := ["unicode/utf8.first", "unicode/utf8.acceptRanges", "internal/bytealg.MaxLen"], apart := false, laid := [("unicode/utf8.acceptRanges", laid_unicode_utf8_acceptRanges), ("unicode/utf8.first", laid_unicode_utf8_first)], narrowed := true }
def FtpSidesUptoSaid : Prop := ftpSidesUptoRow.holds Tryd.pinned (OpenSpec.upto ftpSidesSpec)

/-- 'stockadelaw18.FtpOwn', WHERE WHAT IT READS IS OF BULK AT MOST 1048576: true; the input reads as it did. -/
def ftpOwnUptoRow : OpenClaim := { program := "ytnadfacbfcdkgaadoor", sum := "a05a9a2f1dd95fe407649c6fda4d892e4344b83e364326748b807df0825744b4", func := "stockade/stockadelaw18.FtpOwn", spec := "ftpOwn", inPlace := ["internal/bytealg.CountString", "internal/bytealg.IndexByteString", "internal/bytealg.IndexString"], named := ["unicode/utf8.first", "unicode/utf8.acceptRanges", "internal/bytealg.MaxLen"], apart := false, laid := [("unicode/utf8.acceptRanges", laid_unicode_utf8_acceptRanges), ("unicode/utf8.first", laid_unicode_utf8_first)], narrowed := true }
def FtpOwnUptoSaid : Prop := ftpOwnUptoRow.holds Tryd.pinned (OpenSpec.upto ftpOwnSpec)

end Rows
end Go.Proofs.YtnadfacbfcdkgaaDoor
