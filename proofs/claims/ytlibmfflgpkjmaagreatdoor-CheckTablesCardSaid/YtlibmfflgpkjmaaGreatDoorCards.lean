/-
  DERIVED. GIVEN WITH THE SEED: THE CARDS: each row of YtlibmfflgpkjmaaGreatDoorRows.lean that lists a variable, with what it lists TIED to the program's text (the seventh form; the later family's looks); each row that meets fmt, with fmt's text TOLD by the authors' own Lean function (tested against real Go, not proved from fmt's source: count such statements apart). THE CARD IS WHAT COUNTS. Prove the row's statement (the work); the ties are given (YtlibmfflgpkjmaaGreatDoorTie.lean); close each card by the builder's one call (the guide's Derived/Test/ToyasCard.lean, 'card_holds'). Laid BY PROGRAM, IN A SANDBOX (cutbox-door.mjs). By AI agents, Wed Nov 11 2026. No macro, syntax, notation, axiom, sorry.
-/
import Derived.Test.YtlibmfflgpkjmaaGreatDoorRows
import GoSem.ClaimSeven
namespace Go.Proofs.YtlibmfflgpkjmaaGreatDoor
namespace Rows

/-- THE TIED CARD OF 'styluslaw09.CheckClashes'. -/
def checkClashesCard : Claim7 := { stood := { row := checkClashesRow, standIns := [], harness := (true, "747bd3c896eb8d843e6cf7dc6a03ab020f42c289c15db83ce1ecf51e80dd98f9"), looks := false }, kinds := [], alts := [], laidByText := true, laidKinds := [.data, .data, .listed, .data, .pinned], laidTests := true, laidLooks := .later }
def CheckClashesCardSaid : Prop := Claim7.holds Tryz.pinned (.plain (OpenSpec.ofChange checkClashesSpec)) checkClashesCard

/-- THE TIED CARD OF 'styluslaw09.CheckTables'. -/
def checkTablesCard : Claim7 := { stood := { row := checkTablesRow, standIns := [], harness := (true, "747bd3c896eb8d843e6cf7dc6a03ab020f42c289c15db83ce1ecf51e80dd98f9"), looks := false }, kinds := [], alts := [], laidByText := true, laidKinds := [.data, .data, .listed, .data, .pinned], laidTests := true, laidLooks := .later }
def CheckTablesCardSaid : Prop := Claim7.holds Tryz.pinned (.plain (OpenSpec.ofChange checkTablesSpec)) checkTablesCard

/-- THE SECOND FORM's CARD OF 'styluslaw09.CheckClashes'. -/
def checkClashesUptoCard : Claim7 := { stood := { row := checkClashesUptoRow, standIns := [], harness := (true, "747bd3c896eb8d843e6cf7dc6a03ab020f42c289c15db83ce1ecf51e80dd98f9"), looks := false }, kinds := [], alts := [], laidByText := true, laidKinds := [.data, .data, .listed, .data, .pinned], laidTests := true, laidLooks := .later }
def CheckClashesUptoCardSaid : Prop := Claim7.holds Tryz.pinned (.plain (OpenSpec.upto checkClashesSpec)) checkClashesUptoCard

/-- THE SECOND FORM's CARD OF 'styluslaw09.CheckTables'. -/
def checkTablesUptoCard : Claim7 := { stood := { row := checkTablesUptoRow, standIns := [], harness := (true, "747bd3c896eb8d843e6cf7dc6a03ab020f42c289c15db83ce1ecf51e80dd98f9"), looks := false }, kinds := [], alts := [], laidByText := true, laidKinds := [.data, .data, .listed, .data, .pinned], laidTests := true, laidLooks := .later }
def CheckTablesUptoCardSaid : Prop := Claim7.holds Tryz.pinned (.plain (OpenSpec.upto checkTablesSpec)) checkTablesUptoCard
end Rows
end Go.Proofs.YtlibmfflgpkjmaaGreatDoor
