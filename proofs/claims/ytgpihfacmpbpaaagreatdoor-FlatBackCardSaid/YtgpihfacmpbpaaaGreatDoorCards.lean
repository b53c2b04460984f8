/-
  DERIVED. GIVEN WITH THE SEED: THE CARDS: each row of YtgpihfacmpbpaaaGreatDoorRows.lean that lists a variable, with what it lists TIED to the program's text (the seventh form; the later family's looks); each row that meets fmt, with fmt's text TOLD by the authors' own Lean function (tested against real Go, not proved from fmt's source: count such statements apart). THE CARD IS WHAT COUNTS. Prove the row's statement (the work); the ties are given (YtgpihfacmpbpaaaGreatDoorTie.lean); close each card by the builder's one call (the guide's Derived/Test/ToyasCard.lean, 'card_holds'). Laid BY PROGRAM, IN A SANDBOX (cutbox-door.mjs). By AI agents, Wed Nov 11 2026. No macro, syntax, notation, axiom, sorry.
-/
import Derived.Test.YtgpihfacmpbpaaaGreatDoorRows
import GoSem.ClaimSeven
namespace Go.Proofs.YtgpihfacmpbpaaaGreatDoor
namespace Rows

/-- THE TIED CARD OF 'styluslaw07.FlatTells'. -/
def flatTellsCard : Claim7 := { stood := { row := flatTellsRow, standIns := [], harness := (true, "557823ebdd68458311fe3e69947c6ce406ec4d4e055e4011e13a3d3e87557bb6"), looks := false }, kinds := [], alts := [], laidByText := true, laidKinds := [.data, .data, .pinned], laidTests := true, laidLooks := .later }
def FlatTellsCardSaid : Prop := Claim7.holds Tryz.pinned (.plain (OpenSpec.ofChange flatTellsSpec)) flatTellsCard

/-- THE TIED CARD OF 'styluslaw07.FlatBack'. -/
def flatBackCard : Claim7 := { stood := { row := flatBackRow, standIns := [], harness := (true, "557823ebdd68458311fe3e69947c6ce406ec4d4e055e4011e13a3d3e87557bb6"), looks := false }, kinds := [], alts := [], laidByText := true, laidKinds := [.data, .data, .pinned], laidTests := true, laidLooks := .later }
def FlatBackCardSaid : Prop := Claim7.holds Tryz.pinned (.plain (OpenSpec.ofChange flatBackSpec)) flatBackCard

/-- THE TIED CARD OF 'styluslaw07.FlatPaired'. -/
def flatPairedCard : Claim7 := { stood := { row := flatPairedRow, standIns := [], harness := (true, "557823ebdd68458311fe3e69947c6ce406ec4d4e055e4011e13a3d3e87557bb6"), looks := false }, kinds := [], alts := [], laidByText := true, laidKinds := [.data, .data, .pinned], laidTests := true, laidLooks := .later }
def FlatPairedCardSaid : Prop := Claim7.holds Tryz.pinned (.plain (OpenSpec.ofChange flatPairedSpec)) flatPairedCard

/-- THE SECOND FORM's CARD OF 'styluslaw07.FlatTells'. -/
def flatTellsUptoCard : Claim7 := { stood := { row := flatTellsUptoRow, standIns := [], harness := (true, "557823ebdd68458311fe3e69947c6ce406ec4d4e055e4011e13a3d3e87557bb6"), looks := false }, kinds := [], alts := [], laidByText := true, laidKinds := [.data, .data, .pinned], laidTests := true, laidLooks := .later }
def FlatTellsUptoCardSaid : Prop := Claim7.holds Tryz.pinned (.plain (OpenSpec.upto flatTellsSpec)) flatTellsUptoCard

/-- THE SECOND FORM's CARD OF 'styluslaw07.FlatBack'. -/
def flatBackUptoCard : Claim7 := { stood := { row := flatBackUptoRow, standIns := [], harness := (true, "557823ebdd68458311fe3e69947c6ce406ec4d4e055e4011e13a3d3e87557bb6"), looks := false }, kinds := [], alts := [], laidByText := true, laidKinds := [.data, .data, .pinned], laidTests := true, laidLooks := .later }
def FlatBackUptoCardSaid : Prop := Claim7.holds Tryz.pinned (.plain (OpenSpec.upto flatBackSpec)) flatBackUptoCard

/-- THE SECOND FORM's CARD OF 'styluslaw07.FlatPaired'. -/
def flatPairedUptoCard : Claim7 := { stood := { row := flatPairedUptoRow, standIns := [], harness := (true, "557823ebdd68458311fe3e69947c6ce406ec4d4e055e4011e13a3d3e87557bb6"), looks := false }, kinds := [], alts := [], laidByText := true, laidKinds := [.data, .data, .pinned], laidTests := true, laidLooks := .later }
def FlatPairedUptoCardSaid : Prop := Claim7.holds Tryz.pinned (.plain (OpenSpec.upto flatPairedSpec)) flatPairedUptoCard
end Rows
end Go.Proofs.YtgpihfacmpbpaaaGreatDoor
