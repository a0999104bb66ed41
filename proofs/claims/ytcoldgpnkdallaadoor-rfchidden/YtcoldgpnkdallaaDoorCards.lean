/-
  DERIVED. GIVEN WITH THE SEED: THE CARDS: each row of YtcoldgpnkdallaaDoorRows.lean that lists a variable, with what it lists TIED to the program's text (the seventh form; the later family's looks); each row that meets fmt, with fmt's text TOLD by the authors' own Lean function (tested against real Go, not proved from fmt's source: count such statements apart). THE CARD IS WHAT COUNTS. Prove the row's statement (the work); the ties are given (YtcoldgpnkdallaaDoorTie.lean); close each card by the builder's one call (the guide's Derived/Test/ToyasCard.lean, 'card_holds'). Laid BY PROGRAM, IN A SANDBOX (cutbox-door.mjs). By AI agents, Wed Nov 11 2026. No macro, syntax, notation, axiom, sorry.
-/
import Derived.Test.YtcoldgpnkdallaaDoorRows
import GoSem.ClaimSeven
namespace Go.Proofs.YtcoldgpnkdallaaDoor
namespace Rows

/-- THE TIED CARD OF 'stockadelaw12.RfcCompiles'. -/
def rfcCompilesCard : Claim7 := { stood := { row := rfcCompilesRow, standIns := [], harness := (true, "e6046f1293a609db51a9aa2cafcb80583ce5a0280aedd27023a69d4a49316ffd"), looks := false }, kinds := [], alts := [], laidByText := true, laidKinds := [.data, .data, .data], laidTests := true, laidLooks := .later }
def RfcCompilesCardSaid : Prop := Claim7.holds Tryd.pinned (.plain (OpenSpec.ofChange rfcCompilesSpec)) rfcCompilesCard

/-- THE TIED CARD OF 'stockadelaw12.RfcCosts'. -/
def rfcCostsCard : Claim7 := { stood := { row := rfcCostsRow, standIns := [], harness := (true, "e6046f1293a609db51a9aa2cafcb80583ce5a0280aedd27023a69d4a49316ffd"), looks := false }, kinds := [], alts := [], laidByText := true, laidKinds := [.data, .data, .data], laidTests := true, laidLooks := .later }
def RfcCostsCardSaid : Prop := Claim7.holds Tryd.pinned (.plain (OpenSpec.ofChange rfcCostsSpec)) rfcCostsCard

/-- THE TIED CARD OF 'stockadelaw12.RfcTakes'. -/
def rfcTakesCard : Claim7 := { stood := { row := rfcTakesRow, standIns := [], harness := (true, "e6046f1293a609db51a9aa2cafcb80583ce5a0280aedd27023a69d4a49316ffd"), looks := false }, kinds := [], alts := [], laidByText := true, laidKinds := [.data, .data, .data], laidTests := true, laidLooks := .later }
def RfcTakesCardSaid : Prop := Claim7.holds Tryd.pinned (.plain (OpenSpec.ofChange rfcTakesSpec)) rfcTakesCard

/-- THE TIED CARD OF 'stockadelaw12.RfcBudget'. -/
def rfcBudgetCard : Claim7 := { stood := { row := rfcBudgetRow, standIns := [], harness := (true, "e6046f1293a609db51a9aa2cafcb80583ce5a0280aedd27023a69d4a49316ffd"), looks := false }, kinds := [], alts := [], laidByText := true, laidKinds := [.data, .data, .data], laidTests := true, laidLooks := .later }
def RfcBudgetCardSaid : Prop := Claim7.holds Tryd.pinned (.plain (OpenSpec.ofChange rfcBudgetSpec)) rfcBudgetCard

/-- THE TIED CARD OF 'stockadelaw12.RfcHidden'. -/
def rfcHiddenCard : Claim7 := { stood := { row := rfcHiddenRow, standIns := [], harness := (true, "e6046f1293a609db51a9aa2cafcb80583ce5a0280aedd27023a69d4a49316ffd"), looks := false }, kinds := [], alts := [], laidByText := true, laidKinds := [.data, .data, .data], laidTests := true, laidLooks := .later }
def RfcHiddenCardSaid : Prop := Claim7.holds Tryd.pinned (.plain (OpenSpec.ofChange rfcHiddenSpec)) rfcHiddenCard

/-- THE TIED CARD OF 'stockadelaw12.RfcOwn'. -/
def rfcOwnCard : Claim7 := { stood := { row := rfcOwnRow, standIns := [], harness := (true, "e6046f1293a609db51a9aa2cafcb80583ce5a0280aedd27023a69d4a49316ffd"), looks := false }, kinds := [], alts := [], laidByText := true, laidKinds := [.data, .data, .data], laidTests := true, laidLooks := .later }
def RfcOwnCardSaid : Prop := Claim7.holds Tryd.pinned (.plain (OpenSpec.ofChange rfcOwnSpec)) rfcOwnCard

/-- THE SECOND FORM's CARD OF 'stockadelaw12.RfcCompiles'. -/
def rfcCompilesUptoCard : Claim7 := { stood := { row := rfcCompilesUptoRow, standIns := [], harness := (true, "e6046f1293a609db51a9aa2cafcb80583ce5a0280aedd27023a69d4a49316ffd"), looks := false }, kinds := [], alts := [], laidByText := true, laidKinds := [.data, .data, .data], laidTests := true, laidLooks := .later }
def RfcCompilesUptoCardSaid : Prop := Claim7.holds Tryd.pinned (.plain (OpenSpec.upto rfcCompilesSpec)) rfcCompilesUptoCard

/-- THE SECOND FORM's CARD OF 'stockadelaw12.RfcCosts'. -/
def rfcCostsUptoCard : Claim7 := { stood := { row := rfcCostsUptoRow, standIns := [], harness := (true, "e6046f1293a609db51a9aa2cafcb80583ce5a0280aedd27023a69d4a49316ffd"), looks := false }, kinds := [], alts := [], laidByText := true, laidKinds := [.data, .data, .data], laidTests := true, laidLooks := .later }
def RfcCostsUptoCardSaid : Prop := Claim7.holds Tryd.pinned (.plain (OpenSpec.upto rfcCostsSpec)) rfcCostsUptoCard

/-- THE SECOND FORM's CARD OF 'stockadelaw12.RfcTakes'. -/
def rfcTakesUptoCard : Claim7 := { stood := { row := rfcTakesUptoRow, standIns := [], harness := (true, "e6046f1293a609db51a9aa2cafcb80583ce5a0280aedd27023a69d4a49316ffd"), looks := false }, kinds := [], alts := [], laidByText := true, laidKinds := [.data, .data, .data], laidTests := true, laidLooks := .later }
def RfcTakesUptoCardSaid : Prop := Claim7.holds Tryd.pinned (.plain (OpenSpec.upto rfcTakesSpec)) rfcTakesUptoCard

/-- THE SECOND FORM's CARD OF 'stockadelaw12.RfcBudget'. -/
def rfcBudgetUptoCard : Claim7 := { stood := { row := rfcBudgetUptoRow, standIns := [], harness := (true, "e6046f1293a609db51a9aa2cafcb80583ce5a0280aedd27023a69d4a49316ffd"), looks := false }, kinds := [], alts := [], laidByText := true, laidKinds := [.data, .data, .data], laidTests := true, laidLooks := .later }
def RfcBudgetUptoCardSaid : Prop := Claim7.holds Tryd.pinned (.plain (OpenSpec.upto rfcBudgetSpec)) rfcBudgetUptoCard

/-- THE SECOND FORM's CARD OF 'stockadelaw12.RfcHidden'. -/
def rfcHiddenUptoCard : Claim7 := { stood := { row := rfcHiddenUptoRow, standIns := [], harness := (true, "e6046f1293a609db51a9aa2cafcb80583ce5a0280aedd27023a69d4a49316ffd"), looks := false }, kinds := [], alts := [], laidByText := true, laidKinds := [.data, .data, .data], laidTests := true, laidLooks := .later }
def RfcHiddenUptoCardSaid : Prop := Claim7.holds Tryd.pinned (.plain (OpenSpec.upto rfcHiddenSpec)) rfcHiddenUptoCard

/-- THE SECOND FORM's CARD OF 'stockadelaw12.RfcOwn'. -/
def rfcOwnUptoCard : Claim7 := { stood := { row := rfcOwnUptoRow, standIns := [], harness := (true, "e6046f1293a609db51a9aa2cafcb80583ce5a0280aedd27023a69d4a49316ffd"), looks := false }, kinds := [], alts := [], laidByText := true, laidKinds := [.data, .data, .data], laidTests := true, laidLooks := .later }
def RfcOwnUptoCardSaid : Prop := Claim7.holds Tryd.pinned (.plain (OpenSpec.upto rfcOwnSpec)) rfcOwnUptoCard
end Rows
end Go.Proofs.YtcoldgpnkdallaaDoor
