/-
  styluslaw09's rule, long, awake.
-/
import Derived.Test.YtlgejmcihchngaaGreatDoorUn
import Derived.Test.YtlgejmcihchngaaGreatDoorQi
namespace Go.Proofs.YtlgejmcihchngaaGreatDoor.Ck
open Go.RowKit Ba Ru
def long9 (l:List Rl):Bool:=decide (450<l.length) || l.any longX
theorem not_long9 {l:List Rl} (h:long9 l=false):l.length≤450∧∀ x ∈ l,x.left.length≤50∧x.cells.length≤50:=by
 unfold long9 at h
 rw[Bool.or_eq_false_iff,decide_eq_false_iff_not,List.any_eq_false]at h
 refine⟨by omega,fun x hx=>?_⟩
 have:=h.2 x hx
 unfold longX at this
 rw[Bool.or_eq_true,decide_eq_true_eq,decide_eq_true_eq]at this
 omega
def Laid9 (w:World):Prop:=LaidR w∧LaidM w
theorem Laid9.below {w w':World} {B:Nat} (h:Laid9 w) (hb:Below B w w') (hB:w.heap.size≤B):Laid9 w':=⟨h.1.below hb (Nat.lt_of_lt_of_le h.1.1 hB),h.2.below hb (Nat.lt_of_lt_of_le h.2.1 hB)⟩
theorem Laid9.kept {w w':World} (h:Laid9 w) (hb:Below w.heap.size w w'):Laid9 w':=h.below hb (Nat.le_refl _)
end Go.Proofs.YtlgejmcihchngaaGreatDoor.Ck
