/-
  DERIVED. GIVEN WITH THE SEED: THE CARDS: each row of YtmldpkigfhoalaaGreatDoorRows.lean that lists a variable, with what it lists TIED to the program's text (the seventh form; the later family's looks); each row that meets fmt, with fmt's text TOLD by the authors' own Lean function (tested against real Go, not proved from fmt's source: count such statements apart). THE CARD IS WHAT COUNTS. Prove the row's statement (the work); the ties are given (YtmldpkigfhoalaaGreatDoorTie.lean); close each card by the builder's one call (the guide's Derived/Test/ToyasCard.lean, 'card_holds'). Laid BY PROGRAM, IN A SANDBOX (cutbox-door.mjs). By AI agents, Wed Nov 11 2026. No macro, syntax, notation, axiom, sorry.
-/
import Derived.Test.YtmldpkigfhoalaaGreatDoorRows
import GoSem.ClaimSeven
namespace Go.Proofs.YtmldpkigfhoalaaGreatDoor
namespace Rows

/-- THE TIED CARD OF 'styluslaw06.CanonWrites'. -/
def canonWritesCard : Claim7 := { stood := { row := canonWritesRow, standIns := [], harness := (true, "dff2efc8e00a6d2da9a59f7d69d89a8a3b5f8e218a89704c74b838d7e4ead104"), looks := false }, kinds := [], alts := [], laidByText := true, laidKinds := [.data, .data, .pinned], laidTests := true, laidLooks := .later }
def CanonWritesCardSaid : Prop := Claim7.holds Tryz.pinned (.plain (OpenSpec.ofChange canonWritesSpec)) canonWritesCard

/-- THE TIED CARD OF 'styluslaw06.CanonOf'. -/
def canonOfCard : Claim7 := { stood := { row := canonOfRow, standIns := [], harness := (true, "dff2efc8e00a6d2da9a59f7d69d89a8a3b5f8e218a89704c74b838d7e4ead104"), looks := false }, kinds := [], alts := [], laidByText := true, laidKinds := [.data, .data, .pinned], laidTests := true, laidLooks := .later }
def CanonOfCardSaid : Prop := Claim7.holds Tryz.pinned (.plain (OpenSpec.ofChange canonOfSpec)) canonOfCard

/-- THE SECOND FORM's CARD OF 'styluslaw06.CanonWrites'. -/
def canonWritesUptoCard : Claim7 := { stood := { row := canonWritesUptoRow, standIns := [], harness := (true, "dff2efc8e00a6d2da9a59f7d69d89a8a3b5f8e218a89704c74b838d7e4ead104"), looks := false }, kinds := [], alts := [], laidByText := true, laidKinds := [.data, .data, .pinned], laidTests := true, laidLooks := .later }
def CanonWritesUptoCardSaid : Prop := Claim7.holds Tryz.pinned (.plain (OpenSpec.upto canonWritesSpec)) canonWritesUptoCard

/-- THE SECOND FORM's CARD OF 'styluslaw06.CanonOf'. -/
def canonOfUptoCard : Claim7 := { stood := { row := canonOfUptoRow, standIns := [], harness := (true, "dff2efc8e00a6d2da9a59f7d69d89a8a3b5f8e218a89704c74b838d7e4ead104"), looks := false }, kinds := [], alts := [], laidByText := true, laidKinds := [.data, .data, .pinned], laidTests := true, laidLooks := .later }
def CanonOfUptoCardSaid : Prop := Claim7.holds Tryz.pinned (.plain (OpenSpec.upto canonOfSpec)) canonOfUptoCard
end Rows
end Go.Proofs.YtmldpkigfhoalaaGreatDoor
