/-
  What the rows' proofs over this program share: the class table as the program's text lays it.
-/
import Derived.Test.YtplibmipbhadmaaDoorChA
import Derived.Test.YtplibmipbhadmaaDoorTie
import Derived.ProofKit
import Derived.LaidMore
import Derived.OpenShut
import Derived.Stop.Joined
import Derived.Lib.LaidTab
namespace Go.Proofs.YtplibmipbhadmaaDoor
open Go.ChangeShapes Go.WideShapes Go.ChangeAt Go.RowKit

theorem own : ownKnob Tryd.prog.godebug = none := by kernel_rfl
theorem gTab : Tryd.prog.globalNamed "stylus/chars.classes" = some 0 := by kernel_rfl
theorem tTab : (Tryd.prog.globals[0]?).map (·.type) = some 43 := by kernel_rfl
def laidV {H : Type} : List (String × DataW H) := [("stylus/chars.classes", Rows.laid_stylus_chars_classes)]
def tabL : List Int := [6597069766656, 0, 4919056986126943301, 4611761005120402227, 2459565876494606880, 2345624805922, 1229782938247303440, 1172812402961, 0, 0, 0, 0, 0, 0, 0, 0]

/-- The door's own heap meets the condition. -/
theorem door_met (os : Os) (args : Array Value) : laidMetH Tryd.prog laidV ((World.doorLaid Tryd.prog 400 os).forCall (fun _ _ => 0) ⟨#[], args, []⟩).memory :=
  laidMetH_of_parts3 (fuel := 8) (laidMet_of_run' 8 (by kernel_rfl) (by kernel_rfl)) (by kernel_rfl) (by kernel_rfl)

theorem laid_of {W : World} (h : laidMetH Tryd.prog laidV W) : Laid W := by
  rw [MakeChecks.laidMetH_plain _ _ _ (by kernel_rfl)] at h
  have h' : laidMet Tryd.prog (("stylus/chars.classes", Lib.tabData .u64 tabL) :: []) W := h
  have hT := Lib.tabIs_of_head gTab tTab Tryd.underlying43 Tryd.underlying42 (by kernel_rfl) (by kernel_rfl) h'
  have hc : ∀ i : Nat, i < 16 → W.cell? ⟨0, i, none⟩ = some (.int .u64 (tabN i : Int)) := fun i hi => by
    have := hT.cell gTab i hi
    rw [this]
    have e : ∀ i : Fin 16, tabL.getD i.val 0 = ((tabN i.val : Nat) : Int) := by decide +kernel
    exact congrArg (fun z => some (Value.int .u64 z)) (e ⟨i, hi⟩)
  refine ⟨?_, hc⟩
  have h0 := hc 0 (by omega)
  rcases Nat.eq_zero_or_pos W.heap.size with hz | hz
  · rw [World.cell?, Array.getElem?_eq_none (by omega)] at h0
    simp at h0
  · exact hz
end Go.Proofs.YtplibmipbhadmaaDoor
