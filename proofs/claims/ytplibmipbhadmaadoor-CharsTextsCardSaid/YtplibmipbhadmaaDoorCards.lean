/-
  DERIVED. GIVEN WITH THE SEED: THE CARDS: each row of YtplibmipbhadmaaDoorRows.lean that lists a variable, with what it lists TIED to the program's text (the seventh form; the later family's looks); each row that meets fmt, with fmt's text TOLD by the authors' own Lean function (tested against real Go, not proved from fmt's source: count such statements apart). THE CARD IS WHAT COUNTS. Prove the row's statement (the work); the ties are given (YtplibmipbhadmaaDoorTie.lean); close each card by the builder's one call (the guide's Derived/Test/ToyasCard.lean, 'card_holds'). Laid BY PROGRAM, IN A SANDBOX (cutbox-door.mjs). By AI agents, Wed Nov 11 2026. No macro, syntax, notation, axiom, sorry.
-/
import Derived.Test.YtplibmipbhadmaaDoorRows
import GoSem.ClaimSeven
namespace Go.Proofs.YtplibmipbhadmaaDoor
namespace Rows

/-- THE TIED CARD OF 'styluslaw01.CharsOf'. -/
def charsOfCard : Claim7 := { stood := { row := charsOfRow, standIns := [], harness := (true, "9978f9091b7cda6531920258f5fed1ff99ddc9f08403b02521341e092226f146"), looks := false }, kinds := [], alts := [], laidByText := true, laidKinds := [.data], laidTests := true, laidLooks := .later }
def CharsOfCardSaid : Prop := Claim7.holds Tryd.pinned (.plain (OpenSpec.ofChange charsOfSpec)) charsOfCard

/-- THE TIED CARD OF 'styluslaw01.CharsTexts'. -/
def charsTextsCard : Claim7 := { stood := { row := charsTextsRow, standIns := [], harness := (true, "9978f9091b7cda6531920258f5fed1ff99ddc9f08403b02521341e092226f146"), looks := false }, kinds := [], alts := [], laidByText := true, laidKinds := [.data], laidTests := true, laidLooks := .later }
def CharsTextsCardSaid : Prop := Claim7.holds Tryd.pinned (.plain (OpenSpec.ofChange charsTextsSpec)) charsTextsCard

/-- THE TIED CARD OF 'styluslaw01.CharsParted'. -/
def charsPartedCard : Claim7 := { stood := { row := charsPartedRow, standIns := [], harness := (true, "9978f9091b7cda6531920258f5fed1ff99ddc9f08403b02521341e092226f146"), looks := false }, kinds := [], alts := [], laidByText := true, laidKinds := [.data], laidTests := true, laidLooks := .later }
def CharsPartedCardSaid : Prop := Claim7.holds Tryd.pinned (.plain (OpenSpec.ofChange charsPartedSpec)) charsPartedCard

/-- THE TIED CARD OF 'styluslaw01.CharsCased'. -/
def charsCasedCard : Claim7 := { stood := { row := charsCasedRow, standIns := [], harness := (true, "9978f9091b7cda6531920258f5fed1ff99ddc9f08403b02521341e092226f146"), looks := false }, kinds := [], alts := [], laidByText := true, laidKinds := [.data], laidTests := true, laidLooks := .later }
def CharsCasedCardSaid : Prop := Claim7.holds Tryd.pinned (.plain (OpenSpec.ofChange charsCasedSpec)) charsCasedCard

/-- THE SECOND FORM's CARD OF 'styluslaw01.CharsOf'. -/
def charsOfUptoCard : Claim7 := { stood := { row := charsOfUptoRow, standIns := [], harness := (true, "9978f9091b7cda6531920258f5fed1ff99ddc9f08403b02521341e092226f146"), looks := false }, kinds := [], alts := [], laidByText := true, laidKinds := [.data], laidTests := true, laidLooks := .later }
def CharsOfUptoCardSaid : Prop := Claim7.holds Tryd.pinned (.plain (OpenSpec.upto charsOfSpec)) charsOfUptoCard

/-- THE SECOND FORM's CARD OF 'styluslaw01.CharsTexts'. -/
def charsTextsUptoCard : Claim7 := { stood := { row := charsTextsUptoRow, standIns := [], harness := (true, "9978f9091b7cda6531920258f5fed1ff99ddc9f08403b02521341e092226f146"), looks := false }, kinds := [], alts := [], laidByText := true, laidKinds := [.data], laidTests := true, laidLooks := .later }
def CharsTextsUptoCardSaid : Prop := Claim7.holds Tryd.pinned (.plain (OpenSpec.upto charsTextsSpec)) charsTextsUptoCard

/-- THE SECOND FORM's CARD OF 'styluslaw01.CharsParted'. -/
def charsPartedUptoCard : Claim7 := { stood := { row := charsPartedUptoRow, standIns := [], harness := (true, "9978f9091b7cda6531920258f5fed1ff99ddc9f08403b02521341e092226f146"), looks := false }, kinds := [], alts := [], laidByText := true, laidKinds := [.data], laidTests := true, laidLooks := .later }
def CharsPartedUptoCardSaid : Prop := Claim7.holds Tryd.pinned (.plain (OpenSpec.upto charsPartedSpec)) charsPartedUptoCard

/-- THE SECOND FORM's CARD OF 'styluslaw01.CharsCased'. -/
def charsCasedUptoCard : Claim7 := { stood := { row := charsCasedUptoRow, standIns := [], harness := (true, "9978f9091b7cda6531920258f5fed1ff99ddc9f08403b02521341e092226f146"), looks := false }, kinds := [], alts := [], laidByText := true, laidKinds := [.data], laidTests := true, laidLooks := .later }
def CharsCasedUptoCardSaid : Prop := Claim7.holds Tryd.pinned (.plain (OpenSpec.upto charsCasedSpec)) charsCasedUptoCard
end Rows
end Go.Proofs.YtplibmipbhadmaaDoor
