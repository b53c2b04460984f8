/-
  DERIVED. GIVEN WITH THE SEED: THE CARDS: each row of YtlgejmcihchngaaGreatDoorRows.lean that lists a variable, with what it lists TIED to the program's text (the seventh form; the later family's looks); each row that meets fmt, with fmt's text TOLD by the authors' own Lean function (tested against real Go, not proved from fmt's source: count such statements apart). THE CARD IS WHAT COUNTS. Prove the row's statement (the work); the ties are given (YtlgejmcihchngaaGreatDoorTie.lean); close each card by the builder's one call (the guide's Derived/Test/ToyasCard.lean, 'card_holds'). Laid BY PROGRAM, IN A SANDBOX (cutbox-door.mjs). By AI agents, Wed Nov 11 2026. No macro, syntax, notation, axiom, sorry.
-/
import Derived.Test.YtlgejmcihchngaaGreatDoorRows
import GoSem.ClaimSeven
namespace Go.Proofs.YtlgejmcihchngaaGreatDoor
namespace Rows

/-- THE TIED CARD OF 'styluslaw12.ChunkPieces'. -/
def chunkPiecesCard : Claim7 := { stood := { row := chunkPiecesRow, standIns := [], harness := (true, "80e13c9a4f2c49c5a1350f9749313f6ed0633de8f55093202136c28019aec16c"), looks := false }, kinds := [], alts := [], laidByText := true, laidKinds := [.data, .data, .listed, .data, .pinned], laidTests := true, laidLooks := .later }
def ChunkPiecesCardSaid : Prop := Claim7.holds Tryz.pinned (.plain (OpenSpec.ofChange chunkPiecesSpec)) chunkPiecesCard

/-- THE TIED CARD OF 'styluslaw12.ChunkCells'. -/
def chunkCellsCard : Claim7 := { stood := { row := chunkCellsRow, standIns := [], harness := (true, "80e13c9a4f2c49c5a1350f9749313f6ed0633de8f55093202136c28019aec16c"), looks := false }, kinds := [], alts := [], laidByText := true, laidKinds := [.data, .data, .listed, .data, .pinned], laidTests := true, laidLooks := .later }
def ChunkCellsCardSaid : Prop := Claim7.holds Tryz.pinned (.plain (OpenSpec.ofChange chunkCellsSpec)) chunkCellsCard

/-- THE TIED CARD OF 'styluslaw12.ChunkOnce'. -/
def chunkOnceCard : Claim7 := { stood := { row := chunkOnceRow, standIns := [], harness := (true, "80e13c9a4f2c49c5a1350f9749313f6ed0633de8f55093202136c28019aec16c"), looks := false }, kinds := [], alts := [], laidByText := true, laidKinds := [.data, .data, .listed, .data, .pinned], laidTests := true, laidLooks := .later }
def ChunkOnceCardSaid : Prop := Claim7.holds Tryz.pinned (.plain (OpenSpec.ofChange chunkOnceSpec)) chunkOnceCard

/-- THE TIED CARD OF 'styluslaw12.ChunkApart'. -/
def chunkApartCard : Claim7 := { stood := { row := chunkApartRow, standIns := [], harness := (true, "80e13c9a4f2c49c5a1350f9749313f6ed0633de8f55093202136c28019aec16c"), looks := false }, kinds := [], alts := [], laidByText := true, laidKinds := [.data, .data, .listed, .data, .pinned], laidTests := true, laidLooks := .later }
def ChunkApartCardSaid : Prop := Claim7.holds Tryz.pinned (.plain (OpenSpec.ofChange chunkApartSpec)) chunkApartCard

/-- THE SECOND FORM's CARD OF 'styluslaw12.ChunkPieces'. -/
def chunkPiecesUptoCard : Claim7 := { stood := { row := chunkPiecesUptoRow, standIns := [], harness := (true, "80e13c9a4f2c49c5a1350f9749313f6ed0633de8f55093202136c28019aec16c"), looks := false }, kinds := [], alts := [], laidByText := true, laidKinds := [.data, .data, .listed, .data, .pinned], laidTests := true, laidLooks := .later }
def ChunkPiecesUptoCardSaid : Prop := Claim7.holds Tryz.pinned (.plain (OpenSpec.upto chunkPiecesSpec)) chunkPiecesUptoCard

/-- THE SECOND FORM's CARD OF 'styluslaw12.ChunkCells'. -/
def chunkCellsUptoCard : Claim7 := { stood := { row := chunkCellsUptoRow, standIns := [], harness := (true, "80e13c9a4f2c49c5a1350f9749313f6ed0633de8f55093202136c28019aec16c"), looks := false }, kinds := [], alts := [], laidByText := true, laidKinds := [.data, .data, .listed, .data, .pinned], laidTests := true, laidLooks := .later }
def ChunkCellsUptoCardSaid : Prop := Claim7.holds Tryz.pinned (.plain (OpenSpec.upto chunkCellsSpec)) chunkCellsUptoCard

/-- THE SECOND FORM's CARD OF 'styluslaw12.ChunkOnce'. -/
def chunkOnceUptoCard : Claim7 := { stood := { row := chunkOnceUptoRow, standIns := [], harness := (true, "80e13c9a4f2c49c5a1350f9749313f6ed0633de8f55093202136c28019aec16c"), looks := false }, kinds := [], alts := [], laidByText := true, laidKinds := [.data, .data, .listed, .data, .pinned], laidTests := true, laidLooks := .later }
def ChunkOnceUptoCardSaid : Prop := Claim7.holds Tryz.pinned (.plain (OpenSpec.upto chunkOnceSpec)) chunkOnceUptoCard

/-- THE SECOND FORM's CARD OF 'styluslaw12.ChunkApart'. -/
def chunkApartUptoCard : Claim7 := { stood := { row := chunkApartUptoRow, standIns := [], harness := (true, "80e13c9a4f2c49c5a1350f9749313f6ed0633de8f55093202136c28019aec16c"), looks := false }, kinds := [], alts := [], laidByText := true, laidKinds := [.data, .data, .listed, .data, .pinned], laidTests := true, laidLooks := .later }
def ChunkApartUptoCardSaid : Prop := Claim7.holds Tryz.pinned (.plain (OpenSpec.upto chunkApartSpec)) chunkApartUptoCard
end Rows
end Go.Proofs.YtlgejmcihchngaaGreatDoor
