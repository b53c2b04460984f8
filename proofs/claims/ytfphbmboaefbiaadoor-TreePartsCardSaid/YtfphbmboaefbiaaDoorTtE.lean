/-
  TreeParts in the row's order.
-/
import Derived.Test.YtfphbmboaefbiaaDoorTtD
import Derived.Test.YtfphbmboaefbiaaDoorTrX
namespace Go.Proofs.YtfphbmboaefbiaaDoor.Tr
open Go.RowKit
theorem parts_row (L : Lands) (t : List Nd) (A : Option Addr) (a c : Nat) (s : List Nd) (B : Option Addr) (b d : Nat) (w : World) (hL : Ka.Laid w) (hc : t.length ≤ c) (hcm : c ≤ maxLen) (ft : Fit t) (hu : ReadsN a w w.heap.size (.slice A t.length c) t)
    (hd : s.length ≤ d) (hdm : d ≤ maxLen) (fs : Fit s) (hv : ReadsN b w w.heap.size (.slice B s.length d) s) :
    Calls Tryd.prog 7 #[.slice A t.length c, .slice B s.length d] w fun e w' => e = .returned (.bool true) ∧ Below w.heap.size w w' :=
  parts_any L t s a b A B c d hc hcm (Nat.le_trans hd hdm) ft fs w hL hu hv
end Go.Proofs.YtfphbmboaefbiaaDoor.Tr
