/-
  DERIVED. GIVEN WITH THE SEED: THE CARDS: each row of YtmfgjicfdjjihaaGreatDoorRows.lean that lists a variable, with what it lists TIED to the program's text (the seventh form; the later family's looks); each row that meets fmt, with fmt's text TOLD by the authors' own Lean function (tested against real Go, not proved from fmt's source: count such statements apart). THE CARD IS WHAT COUNTS. Prove the row's statement (the work); the ties are given (YtmfgjicfdjjihaaGreatDoorTie.lean); close each card by the builder's one call (the guide's Derived/Test/ToyasCard.lean, 'card_holds'). Laid BY PROGRAM, IN A SANDBOX (cutbox-door.mjs). By AI agents, Wed Nov 11 2026. No macro, syntax, notation, axiom, sorry.
-/
import Derived.Test.YtmfgjicfdjjihaaGreatDoorRows
import GoSem.ClaimSeven
namespace Go.Proofs.YtmfgjicfdjjihaaGreatDoor
namespace Rows

/-- THE TIED CARD OF 'stockadelaw13.LookChecks'. -/
def lookChecksCard : Claim7 := { stood := { row := lookChecksRow, standIns := [], harness := (true, "0543dc805679d9da44ba4bcde5a3cc0542273c7d2bc9ad109a5473a66901caaa"), looks := false }, kinds := [], alts := [], laidByText := true, laidKinds := [.data, .data, .data, .data], laidTests := true, laidLooks := .later }
def LookChecksCardSaid : Prop := Claim7.holds Tryz.pinned (.plain (OpenSpec.ofChange lookChecksSpec)) lookChecksCard

/-- THE TIED CARD OF 'stockadelaw13.LookFinds'. -/
def lookFindsCard : Claim7 := { stood := { row := lookFindsRow, standIns := [], harness := (true, "0543dc805679d9da44ba4bcde5a3cc0542273c7d2bc9ad109a5473a66901caaa"), looks := false }, kinds := [], alts := [], laidByText := true, laidKinds := [.data, .data, .data, .data], laidTests := true, laidLooks := .later }
def LookFindsCardSaid : Prop := Claim7.holds Tryz.pinned (.plain (OpenSpec.ofChange lookFindsSpec)) lookFindsCard

/-- THE TIED CARD OF 'stockadelaw13.LookFirst'. -/
def lookFirstCard : Claim7 := { stood := { row := lookFirstRow, standIns := [], harness := (true, "0543dc805679d9da44ba4bcde5a3cc0542273c7d2bc9ad109a5473a66901caaa"), looks := false }, kinds := [], alts := [], laidByText := true, laidKinds := [.data, .data, .data, .data], laidTests := true, laidLooks := .later }
def LookFirstCardSaid : Prop := Claim7.holds Tryz.pinned (.plain (OpenSpec.ofChange lookFirstSpec)) lookFirstCard

/-- THE TIED CARD OF 'stockadelaw13.LookSwaps'. -/
def lookSwapsCard : Claim7 := { stood := { row := lookSwapsRow, standIns := [], harness := (true, "0543dc805679d9da44ba4bcde5a3cc0542273c7d2bc9ad109a5473a66901caaa"), looks := false }, kinds := [], alts := [], laidByText := true, laidKinds := [.data, .data, .data, .data], laidTests := true, laidLooks := .later }
def LookSwapsCardSaid : Prop := Claim7.holds Tryz.pinned (.plain (OpenSpec.ofChange lookSwapsSpec)) lookSwapsCard

/-- THE TIED CARD OF 'stockadelaw13.LookApart'. -/
def lookApartCard : Claim7 := { stood := { row := lookApartRow, standIns := [], harness := (true, "0543dc805679d9da44ba4bcde5a3cc0542273c7d2bc9ad109a5473a66901caaa"), looks := false }, kinds := [], alts := [], laidByText := true, laidKinds := [.data, .data, .data, .data], laidTests := true, laidLooks := .later }
def LookApartCardSaid : Prop := Claim7.holds Tryz.pinned (.plain (OpenSpec.ofChange lookApartSpec)) lookApartCard

/-- THE TIED CARD OF 'stockadelaw13.LookNobody'. -/
def lookNobodyCard : Claim7 := { stood := { row := lookNobodyRow, standIns := [], harness := (true, "0543dc805679d9da44ba4bcde5a3cc0542273c7d2bc9ad109a5473a66901caaa"), looks := false }, kinds := [], alts := [], laidByText := true, laidKinds := [.data, .data, .data, .data], laidTests := true, laidLooks := .later }
def LookNobodyCardSaid : Prop := Claim7.holds Tryz.pinned (.plain (OpenSpec.ofChange lookNobodySpec)) lookNobodyCard

/-- THE SECOND FORM's CARD OF 'stockadelaw13.LookChecks'. -/
def lookChecksUptoCard : Claim7 := { stood := { row := lookChecksUptoRow, standIns := [], harness := (true, "0543dc805679d9da44ba4bcde5a3cc0542273c7d2bc9ad109a5473a66901caaa"), looks := false }, kinds := [], alts := [], laidByText := true, laidKinds := [.data, .data, .data, .data], laidTests := true, laidLooks := .later }
def LookChecksUptoCardSaid : Prop := Claim7.holds Tryz.pinned (.plain (OpenSpec.upto lookChecksSpec)) lookChecksUptoCard

/-- THE SECOND FORM's CARD OF 'stockadelaw13.LookFinds'. -/
def lookFindsUptoCard : Claim7 := { stood := { row := lookFindsUptoRow, standIns := [], harness := (true, "0543dc805679d9da44ba4bcde5a3cc0542273c7d2bc9ad109a5473a66901caaa"), looks := false }, kinds := [], alts := [], laidByText := true, laidKinds := [.data, .data, .data, .data], laidTests := true, laidLooks := .later }
def LookFindsUptoCardSaid : Prop := Claim7.holds Tryz.pinned (.plain (OpenSpec.upto lookFindsSpec)) lookFindsUptoCard

/-- THE SECOND FORM's CARD OF 'stockadelaw13.LookFirst'. -/
def lookFirstUptoCard : Claim7 := { stood := { row := lookFirstUptoRow, standIns := [], harness := (true, "0543dc805679d9da44ba4bcde5a3cc0542273c7d2bc9ad109a5473a66901caaa"), looks := false }, kinds := [], alts := [], laidByText := true, laidKinds := [.data, .data, .data, .data], laidTests := true, laidLooks := .later }
def LookFirstUptoCardSaid : Prop := Claim7.holds Tryz.pinned (.plain (OpenSpec.upto lookFirstSpec)) lookFirstUptoCard

/-- THE SECOND FORM's CARD OF 'stockadelaw13.LookSwaps'. -/
def lookSwapsUptoCard : Claim7 := { stood := { row := lookSwapsUptoRow, standIns := [], harness := (true, "0543dc805679d9da44ba4bcde5a3cc0542273c7d2bc9ad109a5473a66901caaa"), looks := false }, kinds := [], alts := [], laidByText := true, laidKinds := [.data, .data, .data, .data], laidTests := true, laidLooks := .later }
def LookSwapsUptoCardSaid : Prop := Claim7.holds Tryz.pinned (.plain (OpenSpec.upto lookSwapsSpec)) lookSwapsUptoCard

/-- THE SECOND FORM's CARD OF 'stockadelaw13.LookApart'. -/
def lookApartUptoCard : Claim7 := { stood := { row := lookApartUptoRow, standIns := [], harness := (true, "0543dc805679d9da44ba4bcde5a3cc0542273c7d2bc9ad109a5473a66901caaa"), looks := false }, kinds := [], alts := [], laidByText := true, laidKinds := [.data, .data, .data, .data], laidTests := true, laidLooks := .later }
def LookApartUptoCardSaid : Prop := Claim7.holds Tryz.pinned (.plain (OpenSpec.upto lookApartSpec)) lookApartUptoCard

/-- THE SECOND FORM's CARD OF 'stockadelaw13.LookNobody'. -/
def lookNobodyUptoCard : Claim7 := { stood := { row := lookNobodyUptoRow, standIns := [], harness := (true, "0543dc805679d9da44ba4bcde5a3cc0542273c7d2bc9ad109a5473a66901caaa"), looks := false }, kinds := [], alts := [], laidByText := true, laidKinds := [.data, .data, .data, .data], laidTests := true, laidLooks := .later }
def LookNobodyUptoCardSaid : Prop := Claim7.holds Tryz.pinned (.plain (OpenSpec.upto lookNobodySpec)) lookNobodyUptoCard
end Rows
end Go.Proofs.YtmfgjicfdjjihaaGreatDoor
