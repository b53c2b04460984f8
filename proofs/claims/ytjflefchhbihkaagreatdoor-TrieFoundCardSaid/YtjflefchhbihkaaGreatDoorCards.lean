/-
  DERIVED. GIVEN WITH THE SEED: THE CARDS: each row of YtjflefchhbihkaaGreatDoorRows.lean that lists a variable, with what it lists TIED to the program's text (the seventh form; the later family's looks); each row that meets fmt, with fmt's text TOLD by the authors' own Lean function (tested against real Go, not proved from fmt's source: count such statements apart). THE CARD IS WHAT COUNTS. Prove the row's statement (the work); the ties are given (YtjflefchhbihkaaGreatDoorTie.lean); close each card by the builder's one call (the guide's Derived/Test/ToyasCard.lean, 'card_holds'). Laid BY PROGRAM, IN A SANDBOX (cutbox-door.mjs). By AI agents, Wed Nov 11 2026. No macro, syntax, notation, axiom, sorry.
-/
import Derived.Test.YtjflefchhbihkaaGreatDoorRows
import GoSem.ClaimSeven
namespace Go.Proofs.YtjflefchhbihkaaGreatDoor
namespace Rows

/-- THE TIED CARD OF 'styluslaw10.TrieFinds'. -/
def trieFindsCard : Claim7 := { stood := { row := trieFindsRow, standIns := [], harness := (true, "592b24e74c4ca75b809886ddd70b042ed04da0da9d92ab6e6e77500d068f91c3"), looks := false }, kinds := [], alts := [], laidByText := true, laidKinds := [.data, .data, .listed, .data, .pinned], laidTests := true, laidLooks := .later }
def TrieFindsCardSaid : Prop := Claim7.holds Tryz.pinned (.plain (OpenSpec.ofChange trieFindsSpec)) trieFindsCard

/-- THE TIED CARD OF 'styluslaw10.TrieNobody'. -/
def trieNobodyCard : Claim7 := { stood := { row := trieNobodyRow, standIns := [], harness := (true, "592b24e74c4ca75b809886ddd70b042ed04da0da9d92ab6e6e77500d068f91c3"), looks := false }, kinds := [], alts := [], laidByText := true, laidKinds := [.data, .data, .listed, .data, .pinned], laidTests := true, laidLooks := .later }
def TrieNobodyCardSaid : Prop := Claim7.holds Tryz.pinned (.plain (OpenSpec.ofChange trieNobodySpec)) trieNobodyCard

/-- THE TIED CARD OF 'styluslaw10.TrieBack'. -/
def trieBackCard : Claim7 := { stood := { row := trieBackRow, standIns := [], harness := (true, "592b24e74c4ca75b809886ddd70b042ed04da0da9d92ab6e6e77500d068f91c3"), looks := false }, kinds := [], alts := [], laidByText := true, laidKinds := [.data, .data, .listed, .data, .pinned], laidTests := true, laidLooks := .later }
def TrieBackCardSaid : Prop := Claim7.holds Tryz.pinned (.plain (OpenSpec.ofChange trieBackSpec)) trieBackCard

/-- THE TIED CARD OF 'styluslaw10.TrieFound'. -/
def trieFoundCard : Claim7 := { stood := { row := trieFoundRow, standIns := [], harness := (true, "592b24e74c4ca75b809886ddd70b042ed04da0da9d92ab6e6e77500d068f91c3"), looks := false }, kinds := [], alts := [], laidByText := true, laidKinds := [.data, .data, .listed, .data, .pinned], laidTests := true, laidLooks := .later }
def TrieFoundCardSaid : Prop := Claim7.holds Tryz.pinned (.plain (OpenSpec.ofChange trieFoundSpec)) trieFoundCard

/-- THE SECOND FORM's CARD OF 'styluslaw10.TrieFinds'. -/
def trieFindsUptoCard : Claim7 := { stood := { row := trieFindsUptoRow, standIns := [], harness := (true, "592b24e74c4ca75b809886ddd70b042ed04da0da9d92ab6e6e77500d068f91c3"), looks := false }, kinds := [], alts := [], laidByText := true, laidKinds := [.data, .data, .listed, .data, .pinned], laidTests := true, laidLooks := .later }
def TrieFindsUptoCardSaid : Prop := Claim7.holds Tryz.pinned (.plain (OpenSpec.upto trieFindsSpec)) trieFindsUptoCard

/-- THE SECOND FORM's CARD OF 'styluslaw10.TrieNobody'. -/
def trieNobodyUptoCard : Claim7 := { stood := { row := trieNobodyUptoRow, standIns := [], harness := (true, "592b24e74c4ca75b809886ddd70b042ed04da0da9d92ab6e6e77500d068f91c3"), looks := false }, kinds := [], alts := [], laidByText := true, laidKinds := [.data, .data, .listed, .data, .pinned], laidTests := true, laidLooks := .later }
def TrieNobodyUptoCardSaid : Prop := Claim7.holds Tryz.pinned (.plain (OpenSpec.upto trieNobodySpec)) trieNobodyUptoCard

/-- THE SECOND FORM's CARD OF 'styluslaw10.TrieBack'. -/
def trieBackUptoCard : Claim7 := { stood := { row := trieBackUptoRow, standIns := [], harness := (true, "592b24e74c4ca75b809886ddd70b042ed04da0da9d92ab6e6e77500d068f91c3"), looks := false }, kinds := [], alts := [], laidByText := true, laidKinds := [.data, .data, .listed, .data, .pinned], laidTests := true, laidLooks := .later }
def TrieBackUptoCardSaid : Prop := Claim7.holds Tryz.pinned (.plain (OpenSpec.upto trieBackSpec)) trieBackUptoCard

/-- THE SECOND FORM's CARD OF 'styluslaw10.TrieFound'. -/
def trieFoundUptoCard : Claim7 := { stood := { row := trieFoundUptoRow, standIns := [], harness := (true, "592b24e74c4ca75b809886ddd70b042ed04da0da9d92ab6e6e77500d068f91c3"), looks := false }, kinds := [], alts := [], laidByText := true, laidKinds := [.data, .data, .listed, .data, .pinned], laidTests := true, laidLooks := .later }
def TrieFoundUptoCardSaid : Prop := Claim7.holds Tryz.pinned (.plain (OpenSpec.upto trieFoundSpec)) trieFoundUptoCard
end Rows
end Go.Proofs.YtjflefchhbihkaaGreatDoor
