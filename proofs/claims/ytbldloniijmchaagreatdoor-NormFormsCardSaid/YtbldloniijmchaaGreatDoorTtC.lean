/-
  What the landed package answers.
-/
import Derived.Test.YtbldloniijmchaaGreatDoorTtB
import Derived.Test.YtbldloniijmchaaGreatDoorTsW
import Derived.Test.YtbldloniijmchaaGreatDoorTrV
namespace Go.Proofs.YtbldloniijmchaaGreatDoor.Tr
open Go.RowKit

theorem lands : Lands := ⟨parse_all, check_all, fun t s a b u v ht hs _ _ w hu hv => same_all a b u v t s ht hs w hu hv⟩
end Go.Proofs.YtbldloniijmchaaGreatDoor.Tr
