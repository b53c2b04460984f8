/-
  DERIVED. GIVEN WITH THE SEED: THE CARDS: each row of YtkhfingenjlpfaaDoorRows.lean that lists a variable, with what it lists TIED to the program's text (the seventh form; the later family's looks); each row that meets fmt, with fmt's text TOLD by the authors' own Lean function (tested against real Go, not proved from fmt's source: count such statements apart). THE CARD IS WHAT COUNTS. Prove the row's statement (the work); the ties are given (YtkhfingenjlpfaaDoorTie.lean); close each card by the builder's one call (the guide's Derived/Test/ToyasCard.lean, 'card_holds'). Laid BY PROGRAM, IN A SANDBOX (cutbox-door.mjs). By AI agents, Wed Nov 11 2026. No macro, syntax, notation, axiom, sorry.
-/
import Derived.Test.YtkhfingenjlpfaaDoorRows
import GoSem.ClaimSeven
namespace Go.Proofs.YtkhfingenjlpfaaDoor
namespace Rows

/-- THE TIED CARD OF 'styluslaw08.RulesNothing'. -/
def rulesNothingCard : Claim7 := { stood := { row := rulesNothingRow, standIns := [], harness := (true, "c00dae0f4fa3dcc64ea7006490a4bcefe9b82c75c7a5f159a1acb554bcace331"), looks := true }, kinds := [], alts := [], laidByText := true, laidKinds := [.data, .data, .data, .data, .sentinel, .sentinel, .data, .listed, .data, .data, .pinned], laidTests := true, laidLooks := .later }
def RulesNothingCardSaid : Prop := Claim7.holds Tryd.pinned (.plain (OpenSpec.ofChange rulesNothingSpec)) rulesNothingCard

/-- THE SECOND FORM's CARD OF 'styluslaw08.RulesNothing'. -/
def rulesNothingUptoCard : Claim7 := { stood := { row := rulesNothingUptoRow, standIns := [], harness := (true, "c00dae0f4fa3dcc64ea7006490a4bcefe9b82c75c7a5f159a1acb554bcace331"), looks := true }, kinds := [], alts := [], laidByText := true, laidKinds := [.data, .data, .data, .data, .sentinel, .sentinel, .data, .listed, .data, .data, .pinned], laidTests := true, laidLooks := .later }
def RulesNothingUptoCardSaid : Prop := Claim7.holds Tryd.pinned (.plain (OpenSpec.upto rulesNothingSpec)) rulesNothingUptoCard
end Rows
end Go.Proofs.YtkhfingenjlpfaaDoor
