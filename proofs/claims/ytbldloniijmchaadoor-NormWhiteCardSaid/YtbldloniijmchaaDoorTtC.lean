/-
  What the landed package answers.
-/
import Derived.Test.YtbldloniijmchaaDoorTtB
import Derived.Test.YtbldloniijmchaaDoorTsW
import Derived.Test.YtbldloniijmchaaDoorTrV
namespace Go.Proofs.YtbldloniijmchaaDoor.Tr
open Go.RowKit

theorem lands : Lands := ⟨parse_all, check_all, fun t s a b u v ht hs _ _ w hu hv => same_all a b u v t s ht hs w hu hv⟩
end Go.Proofs.YtbldloniijmchaaDoor.Tr
