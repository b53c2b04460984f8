/-
  styluslaw09's rule, long, awake.
-/
import Derived.Test.YtalehelgemmmeaaGreatDoorCmG
import Derived.Test.YtalehelgemmmeaaGreatDoorQi
namespace Go.Proofs.YtalehelgemmmeaaGreatDoor.Ck
open Go.RowKit Ba Ru

def long9 (l : List Rl) : Bool := decide (450 < l.length) || l.any longX
theorem not_long9 {l : List Rl} (h : long9 l = false) : l.length ≤ 450 ∧ ∀ x ∈ l, x.left.length ≤ 50 ∧ x.cells.length ≤ 50 := by
  unfold long9 at h
  rw [Bool.or_eq_false_iff, decide_eq_false_iff_not, List.any_eq_false] at h
  refine ⟨by omega, fun x hx => ?_⟩
  have := h.2 x hx
  unfold longX at this
  rw [Bool.or_eq_true, decide_eq_true_eq, decide_eq_true_eq] at this
  omega
theorem none_reads (w : World) : ReadsR 0 w w.heap.size (.slice none 0 0) [] := Reads.nil _ _ _
theorem none_caps : CapsR (.slice none 0 0) := fun A n c e => by
  injection e with _ e1 e2
  subst e1; subst e2
  exact ⟨Nat.le_refl _, by decide⟩
/-- What a law of stage 9 leans on. -/
def Laid9 (w : World) : Prop := LaidR w ∧ LaidM w
theorem Laid9.below {w w' : World} {B : Nat} (h : Laid9 w) (hb : Below B w w') (hB : w.heap.size ≤ B) : Laid9 w' := ⟨h.1.below hb (Nat.lt_of_lt_of_le h.1.1 hB), h.2.below hb (Nat.lt_of_lt_of_le h.2.1 hB)⟩
theorem Laid9.kept {w w' : World} (h : Laid9 w) (hb : Below w.heap.size w w') : Laid9 w' := h.below hb (Nat.le_refl _)
end Go.Proofs.YtalehelgemmmeaaGreatDoor.Ck
