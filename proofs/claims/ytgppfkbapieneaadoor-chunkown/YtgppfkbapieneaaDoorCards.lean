/-
  DERIVED. GIVEN WITH THE SEED: THE CARDS: each row of YtgppfkbapieneaaDoorRows.lean that lists a variable, with what it lists TIED to the program's text (the seventh form; the later family's looks); each row that meets fmt, with fmt's text TOLD by the authors' own Lean function (tested against real Go, not proved from fmt's source: count such statements apart). THE CARD IS WHAT COUNTS. Prove the row's statement (the work); the ties are given (YtgppfkbapieneaaDoorTie.lean); close each card by the builder's one call (the guide's Derived/Test/ToyasCard.lean, 'card_holds'). Laid BY PROGRAM, IN A SANDBOX (cutbox-door.mjs). By AI agents, Wed Nov 11 2026. No macro, syntax, notation, axiom, sorry.
-/
import Derived.Test.YtgppfkbapieneaaDoorRows
import GoSem.ClaimSeven
namespace Go.Proofs.YtgppfkbapieneaaDoor
namespace Rows

/-- THE TIED CARD OF 'stockadelaw11.ChunkCuts'. -/
def chunkCutsCard : Claim7 := { stood := { row := chunkCutsRow, standIns := [], harness := (true, "70db644d9817dd429d95d00bc2f8ecefa1a54a115a4640ea3727c8c6d32df908"), looks := false }, kinds := [], alts := [], laidByText := true, laidKinds := [.data], laidTests := true, laidLooks := .later }
def ChunkCutsCardSaid : Prop := Claim7.holds Tryd.pinned (.plain (OpenSpec.ofChange chunkCutsSpec)) chunkCutsCard

/-- THE TIED CARD OF 'stockadelaw11.ChunkSpots'. -/
def chunkSpotsCard : Claim7 := { stood := { row := chunkSpotsRow, standIns := [], harness := (true, "70db644d9817dd429d95d00bc2f8ecefa1a54a115a4640ea3727c8c6d32df908"), looks := false }, kinds := [], alts := [], laidByText := true, laidKinds := [.data], laidTests := true, laidLooks := .later }
def ChunkSpotsCardSaid : Prop := Claim7.holds Tryd.pinned (.plain (OpenSpec.ofChange chunkSpotsSpec)) chunkSpotsCard

/-- THE TIED CARD OF 'stockadelaw11.ChunkFinds'. -/
def chunkFindsCard : Claim7 := { stood := { row := chunkFindsRow, standIns := [], harness := (true, "70db644d9817dd429d95d00bc2f8ecefa1a54a115a4640ea3727c8c6d32df908"), looks := false }, kinds := [], alts := [], laidByText := true, laidKinds := [.data], laidTests := true, laidLooks := .later }
def ChunkFindsCardSaid : Prop := Claim7.holds Tryd.pinned (.plain (OpenSpec.ofChange chunkFindsSpec)) chunkFindsCard

/-- THE TIED CARD OF 'stockadelaw11.ChunkHolds'. -/
def chunkHoldsCard : Claim7 := { stood := { row := chunkHoldsRow, standIns := [], harness := (true, "70db644d9817dd429d95d00bc2f8ecefa1a54a115a4640ea3727c8c6d32df908"), looks := false }, kinds := [], alts := [], laidByText := true, laidKinds := [.data], laidTests := true, laidLooks := .later }
def ChunkHoldsCardSaid : Prop := Claim7.holds Tryd.pinned (.plain (OpenSpec.ofChange chunkHoldsSpec)) chunkHoldsCard

/-- THE TIED CARD OF 'stockadelaw11.ChunkFew'. -/
def chunkFewCard : Claim7 := { stood := { row := chunkFewRow, standIns := [], harness := (true, "70db644d9817dd429d95d00bc2f8ecefa1a54a115a4640ea3727c8c6d32df908"), looks := false }, kinds := [], alts := [], laidByText := true, laidKinds := [.data], laidTests := true, laidLooks := .later }
def ChunkFewCardSaid : Prop := Claim7.holds Tryd.pinned (.plain (OpenSpec.ofChange chunkFewSpec)) chunkFewCard

/-- THE TIED CARD OF 'stockadelaw11.ChunkMore'. -/
def chunkMoreCard : Claim7 := { stood := { row := chunkMoreRow, standIns := [], harness := (true, "70db644d9817dd429d95d00bc2f8ecefa1a54a115a4640ea3727c8c6d32df908"), looks := false }, kinds := [], alts := [], laidByText := true, laidKinds := [.data], laidTests := true, laidLooks := .later }
def ChunkMoreCardSaid : Prop := Claim7.holds Tryd.pinned (.plain (OpenSpec.ofChange chunkMoreSpec)) chunkMoreCard

/-- THE TIED CARD OF 'stockadelaw11.ChunkOwn'. -/
def chunkOwnCard : Claim7 := { stood := { row := chunkOwnRow, standIns := [], harness := (true, "70db644d9817dd429d95d00bc2f8ecefa1a54a115a4640ea3727c8c6d32df908"), looks := false }, kinds := [], alts := [], laidByText := true, laidKinds := [.data], laidTests := true, laidLooks := .later }
def ChunkOwnCardSaid : Prop := Claim7.holds Tryd.pinned (.plain (OpenSpec.ofChange chunkOwnSpec)) chunkOwnCard

/-- THE SECOND FORM's CARD OF 'stockadelaw11.ChunkCuts'. -/
def chunkCutsUptoCard : Claim7 := { stood := { row := chunkCutsUptoRow, standIns := [], harness := (true, "70db644d9817dd429d95d00bc2f8ecefa1a54a115a4640ea3727c8c6d32df908"), looks := false }, kinds := [], alts := [], laidByText := true, laidKinds := [.data], laidTests := true, laidLooks := .later }
def ChunkCutsUptoCardSaid : Prop := Claim7.holds Tryd.pinned (.plain (OpenSpec.upto chunkCutsSpec)) chunkCutsUptoCard

/-- THE SECOND FORM's CARD OF 'stockadelaw11.ChunkSpots'. -/
def chunkSpotsUptoCard : Claim7 := { stood := { row := chunkSpotsUptoRow, standIns := [], harness := (true, "70db644d9817dd429d95d00bc2f8ecefa1a54a115a4640ea3727c8c6d32df908"), looks := false }, kinds := [], alts := [], laidByText := true, laidKinds := [.data], laidTests := true, laidLooks := .later }
def ChunkSpotsUptoCardSaid : Prop := Claim7.holds Tryd.pinned (.plain (OpenSpec.upto chunkSpotsSpec)) chunkSpotsUptoCard

/-- THE SECOND FORM's CARD OF 'stockadelaw11.ChunkFinds'. -/
def chunkFindsUptoCard : Claim7 := { stood := { row := chunkFindsUptoRow, standIns := [], harness := (true, "70db644d9817dd429d95d00bc2f8ecefa1a54a115a4640ea3727c8c6d32df908"), looks := false }, kinds := [], alts := [], laidByText := true, laidKinds := [.data], laidTests := true, laidLooks := .later }
def ChunkFindsUptoCardSaid : Prop := Claim7.holds Tryd.pinned (.plain (OpenSpec.upto chunkFindsSpec)) chunkFindsUptoCard

/-- THE SECOND FORM's CARD OF 'stockadelaw11.ChunkHolds'. -/
def chunkHoldsUptoCard : Claim7 := { stood := { row := chunkHoldsUptoRow, standIns := [], harness := (true, "70db644d9817dd429d95d00bc2f8ecefa1a54a115a4640ea3727c8c6d32df908"), looks := false }, kinds := [], alts := [], laidByText := true, laidKinds := [.data], laidTests := true, laidLooks := .later }
def ChunkHoldsUptoCardSaid : Prop := Claim7.holds Tryd.pinned (.plain (OpenSpec.upto chunkHoldsSpec)) chunkHoldsUptoCard

/-- THE SECOND FORM's CARD OF 'stockadelaw11.ChunkFew'. -/
def chunkFewUptoCard : Claim7 := { stood := { row := chunkFewUptoRow, standIns := [], harness := (true, "70db644d9817dd429d95d00bc2f8ecefa1a54a115a4640ea3727c8c6d32df908"), looks := false }, kinds := [], alts := [], laidByText := true, laidKinds := [.data], laidTests := true, laidLooks := .later }
def ChunkFewUptoCardSaid : Prop := Claim7.holds Tryd.pinned (.plain (OpenSpec.upto chunkFewSpec)) chunkFewUptoCard

/-- THE SECOND FORM's CARD OF 'stockadelaw11.ChunkMore'. -/
def chunkMoreUptoCard : Claim7 := { stood := { row := chunkMoreUptoRow, standIns := [], harness := (true, "70db644d9817dd429d95d00bc2f8ecefa1a54a115a4640ea3727c8c6d32df908"), looks := false }, kinds := [], alts := [], laidByText := true, laidKinds := [.data], laidTests := true, laidLooks := .later }
def ChunkMoreUptoCardSaid : Prop := Claim7.holds Tryd.pinned (.plain (OpenSpec.upto chunkMoreSpec)) chunkMoreUptoCard

/-- THE SECOND FORM's CARD OF 'stockadelaw11.ChunkOwn'. -/
def chunkOwnUptoCard : Claim7 := { stood := { row := chunkOwnUptoRow, standIns := [], harness := (true, "70db644d9817dd429d95d00bc2f8ecefa1a54a115a4640ea3727c8c6d32df908"), looks := false }, kinds := [], alts := [], laidByText := true, laidKinds := [.data], laidTests := true, laidLooks := .later }
def ChunkOwnUptoCardSaid : Prop := Claim7.holds Tryd.pinned (.plain (OpenSpec.upto chunkOwnSpec)) chunkOwnUptoCard
end Rows
end Go.Proofs.YtgppfkbapieneaaDoor
