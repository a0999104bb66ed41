/-
  NARROWER THAN 'FOR EVERY INPUT', by the rows' own cells (each row's printed sentence says how): RfcCompiles: laid · RfcCosts: laid · RfcTakes: laid · RfcBudget: laid · RfcHidden: laid · RfcOwn: laid.
  DERIVED. THE GIVEN ROWS OF THIS SEAT. 6 by the template 'for every input the law returns true; each argument reads behind the call as it read before'; 0 by the template 'total and deterministic' (their statements: YtcoldgpnkdallaaDoorTotals.lean).
  GIVEN WITH THE SEED: the statements are not yours to turn. If you find one false, say at which input.
  Laid BY PROGRAM, IN A SANDBOX (cutbox-rows.mjs): the forced cells as the released guide's own fill.sh prints them over the translation 9832a6ea62071f53… (all of the seat's roots in one cut). By AI agents, Wed Nov 11 2026. No macro, syntax, notation, axiom, sorry.
-/
import Derived.Test.YtcoldgpnkdallaaDoorChecked
import GoSem.Claim
import GoSem.ClaimJoined
import GoSem.ClaimMapViews
import Derived.JoinedTies
import Derived.KernelRfl
namespace Go.Proofs.YtcoldgpnkdallaaDoor
/- THE CELL 'sum', in the pinned program and in every row, IS THE sha256 OF THE DUMP (.gsa) THAT YtcoldgpnkdallaaDoorProg.lean LOADS. Nothing in Lean hashes anything: it is a label: what it is worth is what the hold of that sum in a sandbox is worth. -/
noncomputable def Tryd.pinned : Pinned := { name := "ytcoldgpnkdallaadoor", sum := "9832a6ea62071f533c95d8e90f9650f7057f2b5077ea302f746ca9d8311b3bda", checked := Tryd.checked }
namespace Rows
def none {H : Type} : Left H := { results := [], args := [] }

/- WHAT THE LISTED PACKAGE-LEVEL VARIABLES READ AS WHEN THE CALL BEGINS. Each datum BY PROGRAM (the guide's laid-datum.mjs) off the statement by which the dump's own 'gosem.cut.vars' lays the variable. In a bare row this is a premise. The card (YtcoldgpnkdallaaDoorCards.lean) ties it to the program's text. -/
def laid_math_bits_deBruijn64tab {H : Type} : DataW H := .agg [.lit (.int .u8 0), .lit (.int .u8 1), .lit (.int .u8 56), .lit (.int .u8 2), .lit (.int .u8 57), .lit (.int .u8 49), .lit (.int .u8 28), .lit (.int .u8 3), .lit (.int .u8 61), .lit (.int .u8 58), .lit (.int .u8 42), .lit (.int .u8 50), .lit (.int .u8 38), .lit (.int .u8 29), .lit (.int .u8 17), .lit (.int .u8 4), .lit (.int .u8 62), .lit (.int .u8 47), .lit (.int .u8 59), .lit (.int .u8 36), .lit (.int .u8 45), .lit (.int .u8 43), .lit (.int .u8 51), .lit (.int .u8 22), .lit (.int .u8 53), .lit (.int .u8 39), .lit (.int .u8 33), .lit (.int .u8 30), .lit (.int .u8 24), .lit (.int .u8 18), .lit (.int .u8 12), .lit (.int .u8 5), .lit (.int .u8 63), .lit (.int .u8 55), .lit (.int .u8 48), .lit (.int .u8 27), .lit (.int .u8 60), .lit (.int .u8 41), .lit (.int .u8 37), .lit (.int .u8 16), .lit (.int .u8 46), .lit (.int .u8 35), .lit (.int .u8 44), .lit (.int .u8 21), .lit (.int .u8 52), .lit (.int .u8 32), .lit (.int .u8 23), .lit (.int .u8 11), .lit (.int .u8 54), .lit (.int .u8 26), .lit (.int .u8 40), .lit (.int .u8 15), .lit (.int .u8 34), .lit (.int .u8 20), .lit (.int .u8 31), .lit (.int .u8 10), .lit (.int .u8 25), .lit (.int .u8 14), .lit (.int .u8 19), .lit (.int .u8 9), .lit (.int .u8 13), .lit (.int .u8 8), .lit (.int .u8 7), .lit (.int .u8 6)]
def laid_stockade_chunk_greatest {H : Type} : DataW H := .agg [.lit (.int .u64 18446744073709551615), .lit (.int .u64 18446744073709551615), .lit (.int .u64 18446744073709551615)]
def laid_stockade_rfc_sides {H : Type} : DataW H := .agg [.agg [.lit (.int .i64 0), .lit (.int .i64 1)], .agg [.lit (.int .i64 2), .lit (.int .i64 3)], .agg [.lit (.int .i64 5), .lit (.int .i64 6)], .agg [.lit (.int .i64 8), .lit (.int .i64 9)], .agg [.lit (.int .i64 10), .lit (.int .i64 4)], .agg [.lit (.int .i64 11), .lit (.int .i64 7)]]

/-- 'stockadelaw12.RfcCompiles': WHATEVER THE INPUT: true; the input reads as it did. -/
def rfcCompilesSpec : ChangeSpec := { name := "rfcCompiles", fn := fun _ => fun
  | [d1, d2] => { results := [.lit (.bool true)], args := [d1, d2] }
  | _ => none }
def rfcCompilesRow : OpenClaim := { program := "ytcoldgpnkdallaadoor", sum := "9832a6ea62071f533c95d8e90f9650f7057f2b5077ea302f746ca9d8311b3bda", func := "stockade/stockadelaw12.RfcCompiles", spec := "rfcCompiles", unfollowed := true, recurses := true, named := ["stockade/rfc.sides", "stockade/chunk.greatest", "math/bits.deBruijn64tab"], apart := false, laid := [("math/bits.deBruijn64tab", laid_math_bits_deBruijn64tab), ("stockade/chunk.greatest", laid_stockade_chunk_greatest), ("stockade/rfc.sides", laid_stockade_rfc_sides)] }
def RfcCompilesSaid : Prop := rfcCompilesRow.holds Tryd.pinned (OpenSpec.ofChange rfcCompilesSpec)

/-- ITS FALSE NEIGHBOUR: 'it returns false'. Refute it at one input. -/
def rfcCompilesWrong : ChangeSpec := { name := "rfcCompiles", fn := fun _ => fun
  | [d1, d2] => { results := [.lit (.bool false)], args := [d1, d2] }
  | _ => none }
def RfcCompilesWrongFalsely : Prop := rfcCompilesRow.holds Tryd.pinned (OpenSpec.ofChange rfcCompilesWrong)

/-- 'stockadelaw12.RfcCosts': WHATEVER THE INPUT: true; the input reads as it did. -/
def rfcCostsSpec : ChangeSpec := { name := "rfcCosts", fn := fun _ => fun
  | [d1, d2] => { results := [.lit (.bool true)], args := [d1, d2] }
  | _ => none }
def rfcCostsRow : OpenClaim := { program := "ytcoldgpnkdallaadoor", sum := "9832a6ea62071f533c95d8e90f9650f7057f2b5077ea302f746ca9d8311b3bda", func := "stockade/stockadelaw12.RfcCosts", spec := "rfcCosts", unfollowed := true, recurses := true, named := ["stockade/rfc.sides", "stockade/chunk.greatest", "math/bits.deBruijn64tab"], apart := false, laid := [("math/bits.deBruijn64tab", laid_math_bits_deBruijn64tab), ("stockade/chunk.greatest", laid_stockade_chunk_greatest), ("stockade/rfc.sides", laid_stockade_rfc_sides)] }
def RfcCostsSaid : Prop := rfcCostsRow.holds Tryd.pinned (OpenSpec.ofChange rfcCostsSpec)

/-- ITS FALSE NEIGHBOUR: 'it returns false'. Refute it at one input. -/
def rfcCostsWrong : ChangeSpec := { name := "rfcCosts", fn := fun _ => fun
  | [d1, d2] => { results := [.lit (.bool false)], args := [d1, d2] }
  | _ => none }
def RfcCostsWrongFalsely : Prop := rfcCostsRow.holds Tryd.pinned (OpenSpec.ofChange rfcCostsWrong)

/-- 'stockadelaw12.RfcTakes': WHATEVER THE INPUT: true; the input reads as it did. -/
def rfcTakesSpec : ChangeSpec := { name := "rfcTakes", fn := fun _ => fun
  | [d1, d2] => { results := [.lit (.bool true)], args := [d1, d2] }
  | _ => none }
def rfcTakesRow : OpenClaim := { program := "ytcoldgpnkdallaadoor", sum := "9832a6ea62071f533c95d8e90f9650f7057f2b5077ea302f746ca9d8311b3bda", func := "stockade/stockadelaw12.RfcTakes", spec := "rfcTakes", unfollowed := true, recurses := true, named := ["stockade/rfc.sides", "stockade/chunk.greatest", "math/bits.deBruijn64tab"], apart := false, laid := [("math/bits.deBruijn64tab", laid_math_bits_deBruijn64tab), ("stockade/chunk.greatest", laid_stockade_chunk_greatest), ("stockade/rfc.sides", laid_stockade_rfc_sides)] }
def RfcTakesSaid : Prop := rfcTakesRow.holds Tryd.pinned (OpenSpec.ofChange rfcTakesSpec)

/-- ITS FALSE NEIGHBOUR: 'it returns false'. Refute it at one input. -/
def rfcTakesWrong : ChangeSpec := { name := "rfcTakes", fn := fun _ => fun
  | [d1, d2] => { results := [.lit (.bool false)], args := [d1, d2] }
  | _ => none }
def RfcTakesWrongFalsely : Prop := rfcTakesRow.holds Tryd.pinned (OpenSpec.ofChange rfcTakesWrong)

/-- 'stockadelaw12.RfcBudget': WHATEVER THE INPUT: true; the input reads as it did. -/
def rfcBudgetSpec : ChangeSpec := { name := "rfcBudget", fn := fun _ => fun
  | [d] => { results := [.lit (.bool true)], args := [d] }
  | _ => none }
def rfcBudgetRow : OpenClaim := { program := "ytcoldgpnkdallaadoor", sum := "9832a6ea62071f533c95d8e90f9650f7057f2b5077ea302f746ca9d8311b3bda", func := "stockade/stockadelaw12.RfcBudget", spec := "rfcBudget", unfollowed := true, recurses := true, named := ["stockade/rfc.sides", "stockade/chunk.greatest", "math/bits.deBruijn64tab"], apart := false, laid := [("math/bits.deBruijn64tab", laid_math_bits_deBruijn64tab), ("stockade/chunk.greatest", laid_stockade_chunk_greatest), ("stockade/rfc.sides", laid_stockade_rfc_sides)] }
def RfcBudgetSaid : Prop := rfcBudgetRow.holds Tryd.pinned (OpenSpec.ofChange rfcBudgetSpec)

/-- ITS FALSE NEIGHBOUR: 'it returns false'. Refute it at one input. -/
def rfcBudgetWrong : ChangeSpec := { name := "rfcBudget", fn := fun _ => fun
  | [d] => { results := [.lit (.bool false)], args := [d] }
  | _ => none }
def RfcBudgetWrongFalsely : Prop := rfcBudgetRow.holds Tryd.pinned (OpenSpec.ofChange rfcBudgetWrong)

/-- 'stockadelaw12.RfcHidden': WHATEVER THE INPUT: true; the input reads as it did. -/
def rfcHiddenSpec : ChangeSpec := { name := "rfcHidden", fn := fun _ => fun
  | [d1, d2] => { results := [.lit (.bool true)], args := [d1, d2] }
  | _ => none }
def rfcHiddenRow : OpenClaim := { program := "ytcoldgpnkdallaadoor", sum := "9832a6ea62071f533c95d8e90f9650f7057f2b5077ea302f746ca9d8311b3bda", func := "stockade/stockadelaw12.RfcHidden", spec := "rfcHidden", unfollowed := true, recurses := true, named := ["stockade/rfc.sides", "stockade/chunk.greatest", "math/bits.deBruijn64tab"], apart := false, laid := [("math/bits.deBruijn64tab", laid_math_bits_deBruijn64tab), ("stockade/chunk.greatest", laid_stockade_chunk_greatest), ("stockade/rfc.sides", laid_stockade_rfc_sides)] }
def RfcHiddenSaid : Prop := rfcHiddenRow.holds Tryd.pinned (OpenSpec.ofChange rfcHiddenSpec)

/-- ITS FALSE NEIGHBOUR: 'it returns false'. Refute it at one input. -/
def rfcHiddenWrong : ChangeSpec := { name := "rfcHidden", fn := fun _ => fun
  | [d1, d2] => { results := [.lit (.bool false)], args := [d1, d2] }
  | _ => none }
def RfcHiddenWrongFalsely : Prop := rfcHiddenRow.holds Tryd.pinned (OpenSpec.ofChange rfcHiddenWrong)

/-- 'stockadelaw12.RfcOwn': WHATEVER THE INPUT: true; the input reads as it did. -/
def rfcOwnSpec : ChangeSpec := { name := "rfcOwn", fn := fun _ => fun
  | [d] => { results := [.lit (.bool true)], args := [d] }
  | _ => none }
def rfcOwnRow : OpenClaim := { program := "ytcoldgpnkdallaadoor", sum := "9832a6ea62071f533c95d8e90f9650f7057f2b5077ea302f746ca9d8311b3bda", func := "stockade/stockadelaw12.RfcOwn", spec := "rfcOwn", unfollowed := true, recurses := true, named := ["stockade/rfc.sides", "stockade/chunk.greatest", "math/bits.deBruijn64tab"], apart := false, laid := [("math/bits.deBruijn64tab", laid_math_bits_deBruijn64tab), ("stockade/chunk.greatest", laid_stockade_chunk_greatest), ("stockade/rfc.sides", laid_stockade_rfc_sides)] }
def RfcOwnSaid : Prop := rfcOwnRow.holds Tryd.pinned (OpenSpec.ofChange rfcOwnSpec)

/-- ITS FALSE NEIGHBOUR: 'it returns false'. Refute it at one input. -/
def rfcOwnWrong : ChangeSpec := { name := "rfcOwn", fn := fun _ => fun
  | [d] => { results := [.lit (.bool false)], args := [d] }
  | _ => none }
def RfcOwnWrongFalsely : Prop := rfcOwnRow.holds Tryd.pinned (OpenSpec.ofChange rfcOwnWrong)

/- THE SECOND FORM. 'bulk': how many values and letters a reading holds, each counted each time it is reached (what is shared counts as often as it is met; a slice's spare places count too). A statement '..UptoSaid' is the law's where the arguments, and the package variables that the reading takes, are together of bulk at most 1048576: NARROWER than '..Said'. Prove '..Said' where nothing that the law and all that it calls make is longer than what came in: it says more and counts as full. Else prove '..UptoSaid'. A law counts once. -/
mutual
def uptoBulk {H : Type} : DataW H → Nat
  | .lit (.string bytes) => bytes.length + 1
  | .lit _ => 1
  | .nil => 1
  | .ptr d => uptoBulk d + 1
  | .slice elems spare => uptoBulkAll elems + uptoBulkAll spare + 1
  | .agg parts => uptoBulkAll parts + 1
  | .iface _ d => uptoBulk d + 1
  | .map entries => uptoBulkEntries entries + 1
  | .held _ => 1
def uptoBulkAll {H : Type} : List (DataW H) → Nat
  | [] => 0
  | d :: r => uptoBulk d + uptoBulkAll r
def uptoBulkEntries {H : Type} : List (Lit × DataW H) → Nat
  | [] => 0
  | x :: r => uptoBulkEntry x + uptoBulkEntries r
def uptoBulkEntry {H : Type} : Lit × DataW H → Nat
  | (.string bytes, d) => bytes.length + uptoBulk d + 1
  | (_, d) => uptoBulk d + 1
 end
def uptoSmall : (H : Type) → List (DataW H) → Bool := fun _ ds => decide (uptoBulkAll ds ≤ 1048576)
def OpenSpec.upto (s : _root_.Go.ChangeSpec) : _root_.Go.OpenSpec := { _root_.Go.OpenSpec.ofChange s with cond := some uptoSmall }

/-- 'stockadelaw12.RfcCompiles', WHERE WHAT IT READS IS OF BULK AT MOST 1048576: true; the input reads as it did. -/
def rfcCompilesUptoRow : OpenClaim := { program := "ytcoldgpnkdallaadoor", sum := "9832a6ea62071f533c95d8e90f9650f7057f2b5077ea302f746ca9d8311b3bda", func := "stockade/stockadelaw12.RfcCompiles", spec := "rfcCompiles", unfollowed := true, recurses := true, named := ["stockade/rfc.sides", "stockade/chunk.greatest", "math/bits.deBruijn64tab"], apart := false, laid := [("math/bits.deBruijn64tab", laid_math_bits_deBruijn64tab), ("stockade/chunk.greatest", laid_stockade_chunk_greatest), ("stockade/rfc.sides", laid_stockade_rfc_sides)], narrowed := true }
def RfcCompilesUptoSaid : Prop := rfcCompilesUptoRow.holds Tryd.pinned (OpenSpec.upto rfcCompilesSpec)

/-- 'stockadelaw12.RfcCosts', WHERE WHAT IT READS IS OF BULK AT MOST 1048576: true; the input reads as it did. -/
def rfcCostsUptoRow : OpenClaim := { program := "ytcoldgpnkdallaadoor", sum := "9832a6ea62071f533c95d8e90f9650f7057f2b5077ea302f746ca9d8311b3bda", func := "stockade/stockadelaw12.RfcCosts", spec := "rfcCosts", unfollowed := true, recurses := true, named := ["stockade/rfc.sides", "stockade/chunk.greatest", "math/bits.deBruijn64tab"], apart := false, laid := [("math/bits.deBruijn64tab", laid_math_bits_deBruijn64tab), ("stockade/chunk.greatest", laid_stockade_chunk_greatest), ("stockade/rfc.sides", laid_stockade_rfc_sides)], narrowed := true }
def RfcCostsUptoSaid : Prop := rfcCostsUptoRow.holds Tryd.pinned (OpenSpec.upto rfcCostsSpec)

/-- 'stockadelaw12.RfcTakes', WHERE WHAT IT READS IS OF BULK AT MOST 1048576: true; the input reads as it did. -/
def rfcTakesUptoRow : OpenClaim := { program := "ytcoldgpnkdallaadoor", sum := "9832a6ea62071f533c95d8e90f9650f7057f2b5077ea302f746ca9d8311b3bda", func := "stockade/stockadelaw12.RfcTakes", spec := "rfcTakes", unfollowed := true, recurses := true, named := ["stockade/rfc.sides", "stockade/chunk.greatest", "math/bits.deBruijn64tab"], apart := false, laid := [("math/bits.deBruijn64tab", laid_math_bits_deBruijn64tab), ("stockade/chunk.greatest", laid_stockade_chunk_greatest), ("stockade/rfc.sides", laid_stockade_rfc_sides)], narrowed := true }
def RfcTakesUptoSaid : Prop := rfcTakesUptoRow.holds Tryd.pinned (OpenSpec.upto rfcTakesSpec)

/-- 'stockadelaw12.RfcBudget', WHERE WHAT IT READS IS OF BULK AT MOST 1048576: true; the input reads as it did. -/
def rfcBudgetUptoRow : OpenClaim := { program := "ytcoldgpnkdallaadoor", sum := "9832a6ea62071f533c95d8e90f9650f7057f2b5077ea302f746ca9d8311b3bda", func := "stockade/stockadelaw12.RfcBudget", spec := "rfcBudget", unfollowed := true, recurses := true, named := ["stockade/rfc.sides", "stockade/chunk.greatest", "math/bits.deBruijn64tab"], apart := false, laid := [("math/bits.deBruijn64tab", laid_math_bits_deBruijn64tab), ("stockade/chunk.greatest", laid_stockade_chunk_greatest), ("stockade/rfc.sides", laid_stockade_rfc_sides)], narrowed := true }
def RfcBudgetUptoSaid : Prop := rfcBudgetUptoRow.holds Tryd.pinned (OpenSpec.upto rfcBudgetSpec)

/-- 'stockadelaw12.RfcHidden', WHERE WHAT IT READS IS OF BULK AT MOST 1048576: true; the input reads as it did. -/
def rfcHiddenUptoRow : OpenClaim := { program := "ytcoldgpnkdallaadoor", sum := "9832a6ea62071f533c95d8e90f9650f7057f2b5077ea302f746ca9d8311b3bda", func := "stockade/stockadelaw12.RfcHidden", spec := "rfcHidden", unfollowed := true, recurses := true, named := ["stockade/rfc.sides", "stockade/chunk.greatest", "math/bits.deBruijn64tab"], apart := false, laid := [("math/bits.deBruijn64tab", laid_math_bits_deBruijn64tab), ("stockade/chunk.greatest", laid_stockade_chunk_greatest), ("stockade/rfc.sides", laid_stockade_rfc_sides)], narrowed := true }
def RfcHiddenUptoSaid : Prop := rfcHiddenUptoRow.holds Tryd.pinned (OpenSpec.upto rfcHiddenSpec)

/-- 'stockadelaw12.RfcOwn', WHERE WHAT IT READS IS OF BULK AT MOST 1048576: true; the input reads as it did. -/
def rfcOwnUptoRow : OpenClaim := { program := "ytcoldgpnkdallaadoor", sum := "9832a6ea62071f533c95d8e90f9650f7057f2b5077ea302f746ca9d8311b3bda", func := "stockade/stockadelaw12.RfcOwn", spec := "rfcOwn", unfollowed := true, recurses := true, named := ["stockade/rfc.sides", "stockade/chunk.greatest", "math/bits.deBruijn64tab"], apart := false, laid := [("math/bits.deBruijn64tab", laid_math_bits_deBruijn64tab), ("stockade/chunk.greatest", laid_stockade_chunk_greatest), ("stockade/rfc.sides", laid_stockade_rfc_sides)], narrowed := true }
def RfcOwnUptoSaid : Prop := rfcOwnUptoRow.holds Tryd.pinned (OpenSpec.upto rfcOwnSpec)

end Rows
end Go.Proofs.YtcoldgpnkdallaaDoor
