/-
  DERIVED. GIVEN WITH THE SEED: THE CARDS: each row of YthbigkoihpgcfaaGreatDoorRows.lean that lists a variable, with what it lists TIED to the program's text (the seventh form; the later family's looks); each row that meets fmt, with fmt's text TOLD by the authors' own Lean function (tested against real Go, not proved from fmt's source: count such statements apart). THE CARD IS WHAT COUNTS. Prove the row's statement (the work); the ties are given (YthbigkoihpgcfaaGreatDoorTie.lean); close each card by the builder's one call (the guide's Derived/Test/ToyasCard.lean, 'card_holds'). Laid BY PROGRAM, IN A SANDBOX (cutbox-door.mjs). By AI agents, Wed Nov 11 2026. No macro, syntax, notation, axiom, sorry.
-/
import Derived.Test.YthbigkoihpgcfaaGreatDoorRows
import GoSem.ClaimSeven
namespace Go.Proofs.YthbigkoihpgcfaaGreatDoor
namespace Rows

/-- THE TIED CARD OF 'styluslaw13.ForeTexts'. -/
def foreTextsCard : Claim7 := { stood := { row := foreTextsRow, standIns := [], harness := (true, "96ced6942397edbe9bf051d513111b92fa72c08936c4e550503762cb1578e550"), looks := false }, kinds := [], alts := [], laidByText := true, laidKinds := [.data, .data, .listed, .data, .pinned], laidTests := true, laidLooks := .later }
def ForeTextsCardSaid : Prop := Claim7.holds Tryz.pinned (.plain (OpenSpec.ofChange foreTextsSpec)) foreTextsCard

/-- THE TIED CARD OF 'styluslaw13.ForeOrder'. -/
def foreOrderCard : Claim7 := { stood := { row := foreOrderRow, standIns := [], harness := (true, "96ced6942397edbe9bf051d513111b92fa72c08936c4e550503762cb1578e550"), looks := false }, kinds := [], alts := [], laidByText := true, laidKinds := [.data, .data, .listed, .data, .pinned], laidTests := true, laidLooks := .later }
def ForeOrderCardSaid : Prop := Claim7.holds Tryz.pinned (.plain (OpenSpec.ofChange foreOrderSpec)) foreOrderCard

/-- THE TIED CARD OF 'styluslaw13.ForeApart'. -/
def foreApartCard : Claim7 := { stood := { row := foreApartRow, standIns := [], harness := (true, "96ced6942397edbe9bf051d513111b92fa72c08936c4e550503762cb1578e550"), looks := false }, kinds := [], alts := [], laidByText := true, laidKinds := [.data, .data, .listed, .data, .pinned], laidTests := true, laidLooks := .later }
def ForeApartCardSaid : Prop := Claim7.holds Tryz.pinned (.plain (OpenSpec.ofChange foreApartSpec)) foreApartCard

/-- THE SECOND FORM's CARD OF 'styluslaw13.ForeTexts'. -/
def foreTextsUptoCard : Claim7 := { stood := { row := foreTextsUptoRow, standIns := [], harness := (true, "96ced6942397edbe9bf051d513111b92fa72c08936c4e550503762cb1578e550"), looks := false }, kinds := [], alts := [], laidByText := true, laidKinds := [.data, .data, .listed, .data, .pinned], laidTests := true, laidLooks := .later }
def ForeTextsUptoCardSaid : Prop := Claim7.holds Tryz.pinned (.plain (OpenSpec.upto foreTextsSpec)) foreTextsUptoCard

/-- THE SECOND FORM's CARD OF 'styluslaw13.ForeOrder'. -/
def foreOrderUptoCard : Claim7 := { stood := { row := foreOrderUptoRow, standIns := [], harness := (true, "96ced6942397edbe9bf051d513111b92fa72c08936c4e550503762cb1578e550"), looks := false }, kinds := [], alts := [], laidByText := true, laidKinds := [.data, .data, .listed, .data, .pinned], laidTests := true, laidLooks := .later }
def ForeOrderUptoCardSaid : Prop := Claim7.holds Tryz.pinned (.plain (OpenSpec.upto foreOrderSpec)) foreOrderUptoCard

/-- THE SECOND FORM's CARD OF 'styluslaw13.ForeApart'. -/
def foreApartUptoCard : Claim7 := { stood := { row := foreApartUptoRow, standIns := [], harness := (true, "96ced6942397edbe9bf051d513111b92fa72c08936c4e550503762cb1578e550"), looks := false }, kinds := [], alts := [], laidByText := true, laidKinds := [.data, .data, .listed, .data, .pinned], laidTests := true, laidLooks := .later }
def ForeApartUptoCardSaid : Prop := Claim7.holds Tryz.pinned (.plain (OpenSpec.upto foreApartSpec)) foreApartUptoCard
end Rows
end Go.Proofs.YthbigkoihpgcfaaGreatDoor
