/-
  DERIVED. GIVEN WITH THE SEED: THE CARDS: each row of YtbldloniijmchaaDoorRows.lean that lists a variable, with what it lists TIED to the program's text (the seventh form; the later family's looks); each row that meets fmt, with fmt's text TOLD by the authors' own Lean function (tested against real Go, not proved from fmt's source: count such statements apart). THE CARD IS WHAT COUNTS. Prove the row's statement (the work); the ties are given (YtbldloniijmchaaDoorTie.lean); close each card by the builder's one call (the guide's Derived/Test/ToyasCard.lean, 'card_holds'). Laid BY PROGRAM, IN A SANDBOX (cutbox-door.mjs). By AI agents, Wed Nov 11 2026. No macro, syntax, notation, axiom, sorry.
-/
import Derived.Test.YtbldloniijmchaaDoorRows
import GoSem.ClaimSeven
namespace Go.Proofs.YtbldloniijmchaaDoor
namespace Rows

/-- THE TIED CARD OF 'styluslaw05.NormWhite'. -/
def normWhiteCard : Claim7 := { stood := { row := normWhiteRow, standIns := [], harness := (true, "028fa2721eb55948244bbcc4b489f67cb6ea31ff3ddd77f69bbdbc1f00f56737"), looks := false }, kinds := [], alts := [], laidByText := true, laidKinds := [.data, .data, .pinned], laidTests := true, laidLooks := .later }
def NormWhiteCardSaid : Prop := Claim7.holds Tryd.pinned (.plain (OpenSpec.ofChange normWhiteSpec)) normWhiteCard

/-- THE SECOND FORM's CARD OF 'styluslaw05.NormWhite'. -/
def normWhiteUptoCard : Claim7 := { stood := { row := normWhiteUptoRow, standIns := [], harness := (true, "028fa2721eb55948244bbcc4b489f67cb6ea31ff3ddd77f69bbdbc1f00f56737"), looks := false }, kinds := [], alts := [], laidByText := true, laidKinds := [.data, .data, .pinned], laidTests := true, laidLooks := .later }
def NormWhiteUptoCardSaid : Prop := Claim7.holds Tryd.pinned (.plain (OpenSpec.upto normWhiteSpec)) normWhiteUptoCard
end Rows
end Go.Proofs.YtbldloniijmchaaDoor
