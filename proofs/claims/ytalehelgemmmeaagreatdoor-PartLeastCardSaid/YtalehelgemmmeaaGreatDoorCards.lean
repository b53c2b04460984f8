/-
  DERIVED. GIVEN WITH THE SEED: THE CARDS: each row of YtalehelgemmmeaaGreatDoorRows.lean that lists a variable, with what it lists TIED to the program's text (the seventh form; the later family's looks); each row that meets fmt, with fmt's text TOLD by the authors' own Lean function (tested against real Go, not proved from fmt's source: count such statements apart). THE CARD IS WHAT COUNTS. Prove the row's statement (the work); the ties are given (YtalehelgemmmeaaGreatDoorTie.lean); close each card by the builder's one call (the guide's Derived/Test/ToyasCard.lean, 'card_holds'). Laid BY PROGRAM, IN A SANDBOX (cutbox-door.mjs). By AI agents, Wed Nov 11 2026. No macro, syntax, notation, axiom, sorry.
-/
import Derived.Test.YtalehelgemmmeaaGreatDoorRows
import GoSem.ClaimSeven
namespace Go.Proofs.YtalehelgemmmeaaGreatDoor
namespace Rows

/-- THE TIED CARD OF 'styluslaw11.PartTaken'. -/
def partTakenCard : Claim7 := { stood := { row := partTakenRow, standIns := [], harness := (true, "1055775dce41e6dc961077e954e0d20cee2109a220c86145103a7d0e9ecdc3b8"), looks := false }, kinds := [], alts := [], laidByText := true, laidKinds := [.data, .data, .listed, .data, .pinned], laidTests := true, laidLooks := .later }
def PartTakenCardSaid : Prop := Claim7.holds Tryz.pinned (.plain (OpenSpec.ofChange partTakenSpec)) partTakenCard

/-- THE TIED CARD OF 'styluslaw11.PartLeast'. -/
def partLeastCard : Claim7 := { stood := { row := partLeastRow, standIns := [], harness := (true, "1055775dce41e6dc961077e954e0d20cee2109a220c86145103a7d0e9ecdc3b8"), looks := false }, kinds := [], alts := [], laidByText := true, laidKinds := [.data, .data, .listed, .data, .pinned], laidTests := true, laidLooks := .later }
def PartLeastCardSaid : Prop := Claim7.holds Tryz.pinned (.plain (OpenSpec.ofChange partLeastSpec)) partLeastCard

/-- THE SECOND FORM's CARD OF 'styluslaw11.PartTaken'. -/
def partTakenUptoCard : Claim7 := { stood := { row := partTakenUptoRow, standIns := [], harness := (true, "1055775dce41e6dc961077e954e0d20cee2109a220c86145103a7d0e9ecdc3b8"), looks := false }, kinds := [], alts := [], laidByText := true, laidKinds := [.data, .data, .listed, .data, .pinned], laidTests := true, laidLooks := .later }
def PartTakenUptoCardSaid : Prop := Claim7.holds Tryz.pinned (.plain (OpenSpec.upto partTakenSpec)) partTakenUptoCard

/-- THE SECOND FORM's CARD OF 'styluslaw11.PartLeast'. -/
def partLeastUptoCard : Claim7 := { stood := { row := partLeastUptoRow, standIns := [], harness := (true, "1055775dce41e6dc961077e954e0d20cee2109a220c86145103a7d0e9ecdc3b8"), looks := false }, kinds := [], alts := [], laidByText := true, laidKinds := [.data, .data, .listed, .data, .pinned], laidTests := true, laidLooks := .later }
def PartLeastUptoCardSaid : Prop := Claim7.holds Tryz.pinned (.plain (OpenSpec.upto partLeastSpec)) partLeastUptoCard
end Rows
end Go.Proofs.YtalehelgemmmeaaGreatDoor
