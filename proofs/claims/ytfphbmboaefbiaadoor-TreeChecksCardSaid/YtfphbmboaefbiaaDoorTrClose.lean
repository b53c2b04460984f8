/-
  What the rows' proofs over this program share: the class table as the program's text lays it.
-/
import Derived.Test.YtfphbmboaefbiaaDoorTtC
import Derived.Test.YtfphbmboaefbiaaDoorTie
import Derived.ProofKit
import Derived.LaidMore
import Derived.OpenShut
import Derived.Lay
import Derived.SevenTiedAt
import Derived.Stop.Joined
import Derived.Stop.LaidErr
import Derived.Lib.LaidTab
namespace Go.Proofs.YtfphbmboaefbiaaDoor.Tr
open Go.ChangeShapes Go.WideShapes Go.ChangeAt Go.RowKit

theorem own : ownKnob Tryd.prog.godebug = none := by kernel_rfl
theorem gTab : Tryd.prog.globalNamed "stylus/chars.classes" = some 0 := by kernel_rfl
theorem tTab : (Tryd.prog.globals[0]?).map (·.type) = some 103 := by kernel_rfl
def laidV : List (String × DataW Unit) := [("unicode/utf8.acceptRanges", Rows.laid_unicode_utf8_acceptRanges), ("stylus/chars.classes", Rows.laid_stylus_chars_classes), ("unicode/utf8.first", Rows.laid_unicode_utf8_first)]
def tabL : List Int := [6597069766656, 0, 4919056986126943301, 4611761005120402227, 2459565876494606880, 2345624805922, 1229782938247303440, 1172812402961, 0, 0, 0, 0, 0, 0, 0, 0]
theorem laid_of {W : World} (h : laidMetH Tryd.prog laidV W) : Ka.Laid W := by
  rw [MakeChecks.laidMetH_plain _ _ _ (by kernel_rfl)] at h
  have h' : laidMet Tryd.prog (("stylus/chars.classes", Lib.tabData .u64 tabL) :: [("unicode/utf8.first", Rows.laid_unicode_utf8_first)]) W := laidMet.tail h
  have hT := Lib.tabIs_of_head gTab tTab Tryd.underlying103 Tryd.underlying102 (by kernel_rfl) (by kernel_rfl) h'
  have hc : ∀ i : Nat, i < 16 → W.cell? ⟨0, i, none⟩ = some (.int .u64 (Ka.tabN i : Int)) := fun i hi => by
    have := hT.cell gTab i hi
    rw [this]
    have e : ∀ i : Fin 16, tabL.getD i.val 0 = ((Ka.tabN i.val : Nat) : Int) := by decide +kernel
    exact congrArg (fun z => some (Value.int .u64 z)) (e ⟨i, hi⟩)
  refine ⟨?_, hc⟩
  have h0 := hc 0 (by omega)
  rcases Nat.lt_or_ge 0 W.heap.size with hz | hz
  · exact hz
  · rw [World.cell?, Array.getElem?_eq_none (by exact hz)] at h0
    simp at h0
end Go.Proofs.YtfphbmboaefbiaaDoor.Tr
