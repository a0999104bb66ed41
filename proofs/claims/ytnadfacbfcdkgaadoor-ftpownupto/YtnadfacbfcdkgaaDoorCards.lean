/-
  DERIVED. GIVEN WITH THE SEED: THE CARDS: each row of YtnadfacbfcdkgaaDoorRows.lean that lists a variable, with what it lists TIED to the program's text (the seventh form; the later family's looks); each row that meets fmt, with fmt's text TOLD by the authors' own Lean function (tested against real Go, not proved from fmt's source: count such statements apart). THE CARD IS WHAT COUNTS. Prove the row's statement (the work); the ties are given (YtnadfacbfcdkgaaDoorTie.lean); close each card by the builder's one call (the guide's Derived/Test/ToyasCard.lean, 'card_holds'). Laid BY PROGRAM, IN A SANDBOX (cutbox-door.mjs). By AI agents, Wed Nov 11 2026. No macro, syntax, notation, axiom, sorry.
-/
import Derived.Test.YtnadfacbfcdkgaaDoorRows
import GoSem.ClaimSeven
namespace Go.Proofs.YtnadfacbfcdkgaaDoor
namespace Rows

/-- THE TIED CARD OF 'stockadelaw18.FtpLines'. -/
def ftpLinesCard : Claim7 := { stood := { row := ftpLinesRow, standIns := [], harness := (true, "bbab44b76c6afa82bcf1e5a14a562ce6af9cb60b803bbdbae6544f0c4ef68784"), looks := false }, kinds := [], alts := [], laidByText := true, laidKinds := [.data, .pinned], laidTests := true, laidLooks := .later }
def FtpLinesCardSaid : Prop := Claim7.holds Tryd.pinned (.plain (OpenSpec.ofChange ftpLinesSpec)) ftpLinesCard

/-- THE TIED CARD OF 'stockadelaw18.FtpPlaces'. -/
def ftpPlacesCard : Claim7 := { stood := { row := ftpPlacesRow, standIns := [], harness := (true, "bbab44b76c6afa82bcf1e5a14a562ce6af9cb60b803bbdbae6544f0c4ef68784"), looks := false }, kinds := [], alts := [], laidByText := true, laidKinds := [.data, .pinned], laidTests := true, laidLooks := .later }
def FtpPlacesCardSaid : Prop := Claim7.holds Tryd.pinned (.plain (OpenSpec.ofChange ftpPlacesSpec)) ftpPlacesCard

/-- THE TIED CARD OF 'stockadelaw18.FtpAsks'. -/
def ftpAsksCard : Claim7 := { stood := { row := ftpAsksRow, standIns := [], harness := (true, "bbab44b76c6afa82bcf1e5a14a562ce6af9cb60b803bbdbae6544f0c4ef68784"), looks := false }, kinds := [], alts := [], laidByText := true, laidKinds := [.data, .pinned], laidTests := true, laidLooks := .later }
def FtpAsksCardSaid : Prop := Claim7.holds Tryd.pinned (.plain (OpenSpec.ofChange ftpAsksSpec)) ftpAsksCard

/-- THE TIED CARD OF 'stockadelaw18.FtpCuts'. -/
def ftpCutsCard : Claim7 := { stood := { row := ftpCutsRow, standIns := [], harness := (true, "bbab44b76c6afa82bcf1e5a14a562ce6af9cb60b803bbdbae6544f0c4ef68784"), looks := false }, kinds := [], alts := [], laidByText := true, laidKinds := [.data, .pinned], laidTests := true, laidLooks := .later }
def FtpCutsCardSaid : Prop := Claim7.holds Tryd.pinned (.plain (OpenSpec.ofChange ftpCutsSpec)) ftpCutsCard

/-- THE TIED CARD OF 'stockadelaw18.FtpSizes'. -/
def ftpSizesCard : Claim7 := { stood := { row := ftpSizesRow, standIns := [], harness := (true, "bbab44b76c6afa82bcf1e5a14a562ce6af9cb60b803bbdbae6544f0c4ef68784"), looks := false }, kinds := [], alts := [], laidByText := true, laidKinds := [.data, .pinned], laidTests := true, laidLooks := .later }
def FtpSizesCardSaid : Prop := Claim7.holds Tryd.pinned (.plain (OpenSpec.ofChange ftpSizesSpec)) ftpSizesCard

/-- THE TIED CARD OF 'stockadelaw18.FtpSides'. -/
def ftpSidesCard : Claim7 := { stood := { row := ftpSidesRow, standIns := [], harness := (true, "bbab44b76c6afa82bcf1e5a14a562ce6af9cb60b803bbdbae6544f0c4ef68784"), looks := false }, kinds := [], alts := [], laidByText := true, laidKinds := [.data, .pinned], laidTests := true, laidLooks := .later }
def FtpSidesCardSaid : Prop := Claim7.holds Tryd.pinned (.plain (OpenSpec.ofChange ftpSidesSpec)) ftpSidesCard

/-- THE TIED CARD OF 'stockadelaw18.FtpOwn'. -/
def ftpOwnCard : Claim7 := { stood := { row := ftpOwnRow, standIns := [], harness := (true, "bbab44b76c6afa82bcf1e5a14a562ce6af9cb60b803bbdbae6544f0c4ef68784"), looks := false }, kinds := [], alts := [], laidByText := true, laidKinds := [.data, .pinned], laidTests := true, laidLooks := .later }
def FtpOwnCardSaid : Prop := Claim7.holds Tryd.pinned (.plain (OpenSpec.ofChange ftpOwnSpec)) ftpOwnCard

/-- THE SECOND FORM's CARD OF 'stockadelaw18.FtpLines'. -/
def ftpLinesUptoCard : Claim7 := { stood := { row := ftpLinesUptoRow, standIns := [], harness := (true, "bbab44b76c6afa82bcf1e5a14a562ce6af9cb60b803bbdbae6544f0c4ef68784"), looks := false }, kinds := [], alts := [], laidByText := true, laidKinds := [.data, .pinned], laidTests := true, laidLooks := .later }
def FtpLinesUptoCardSaid : Prop := Claim7.holds Tryd.pinned (.plain (OpenSpec.upto ftpLinesSpec)) ftpLinesUptoCard

/-- THE SECOND FORM's CARD OF 'stockadelaw18.FtpPlaces'. -/
def ftpPlacesUptoCard : Claim7 := { stood := { row := ftpPlacesUptoRow, standIns := [], harness := (true, "bbab44b76c6afa82bcf1e5a14a562ce6af9cb60b803bbdbae6544f0c4ef68784"), looks := false }, kinds := [], alts := [], laidByText := true, laidKinds := [.data, .pinned], laidTests := true, laidLooks := .later }
def FtpPlacesUptoCardSaid : Prop := Claim7.holds Tryd.pinned (.plain (OpenSpec.upto ftpPlacesSpec)) ftpPlacesUptoCard

/-- THE SECOND FORM's CARD OF 'stockadelaw18.FtpAsks'. -/
def ftpAsksUptoCard : Claim7 := { stood := { row := ftpAsksUptoRow, standIns := [], harness := (true, "bbab44b76c6afa82bcf1e5a14a562ce6af9cb60b803bbdbae6544f0c4ef68784"), looks := false }, kinds := [], alts := [], laidByText := true, laidKinds := [.data, .pinned], laidTests := true, laidLooks := .later }
def FtpAsksUptoCardSaid : Prop := Claim7.holds Tryd.pinned (.plain (OpenSpec.upto ftpAsksSpec)) ftpAsksUptoCard

/-- THE SECOND FORM's CARD OF 'stockadelaw18.FtpCuts'. -/
def ftpCutsUptoCard : Claim7 := { stood := { row := ftpCutsUptoRow, standIns := [], harness := (true, "bbab44b76c6afa82bcf1e5a14a562ce6af9cb60b803bbdbae6544f0c4ef68784"), looks := false }, kinds := [], alts := [], laidByText := true, laidKinds := [.data, .pinned], laidTests := true, laidLooks := .later }
def FtpCutsUptoCardSaid : Prop := Claim7.holds Tryd.pinned (.plain (OpenSpec.upto ftpCutsSpec)) ftpCutsUptoCard

/-- THE SECOND FORM's CARD OF 'stockadelaw18.FtpSizes'. -/
def ftpSizesUptoCard : Claim7 := { stood := { row := ftpSizesUptoRow, standIns := [], harness := (true, "bbab44b76c6afa82bcf1e5a14a562ce6af9cb60b803bbdbae6544f0c4ef68784"), looks := false }, kinds := [], alts := [], laidByText := true, laidKinds := [.data, .pinned], laidTests := true, laidLooks := .later }
def FtpSizesUptoCardSaid : Prop := Claim7.holds Tryd.pinned (.plain (OpenSpec.upto ftpSizesSpec)) ftpSizesUptoCard

/-- THE SECOND FORM's CARD OF 'stockadelaw18.FtpSides'. -/
def ftpSidesUptoCard : Claim7 := { stood := { row := ftpSidesUptoRow, standIns := [], harness := (true, "bbab44b76c6afa82bcf1e5a14a562ce6af9cb60b803bbdbae6544f0c4ef68784"), looks := false }, kinds := [], alts := [], laidByText := true, laidKinds := [.data, .pinned], laidTests := true, laidLooks := .later }
def FtpSidesUptoCardSaid : Prop := Claim7.holds Tryd.pinned (.plain (OpenSpec.upto ftpSidesSpec)) ftpSidesUptoCard

/-- THE SECOND FORM's CARD OF 'stockadelaw18.FtpOwn'. -/
def ftpOwnUptoCard : Claim7 := { stood := { row := ftpOwnUptoRow, standIns := [], harness := (true, "bbab44b76c6afa82bcf1e5a14a562ce6af9cb60b803bbdbae6544f0c4ef68784"), looks := false }, kinds := [], alts := [], laidByText := true, laidKinds := [.data, .pinned], laidTests := true, laidLooks := .later }
def FtpOwnUptoCardSaid : Prop := Claim7.holds Tryd.pinned (.plain (OpenSpec.upto ftpOwnSpec)) ftpOwnUptoCard
end Rows
end Go.Proofs.YtnadfacbfcdkgaaDoor
