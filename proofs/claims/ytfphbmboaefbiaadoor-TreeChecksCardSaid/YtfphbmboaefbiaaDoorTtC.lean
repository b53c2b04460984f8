/-
  What the landed package answers.
-/
import Derived.Test.YtfphbmboaefbiaaDoorTtB
import Derived.Test.YtfphbmboaefbiaaDoorTsW
import Derived.Test.YtfphbmboaefbiaaDoorTrV
namespace Go.Proofs.YtfphbmboaefbiaaDoor.Tr
open Go.RowKit

theorem lands : Lands := ⟨parse_all, check_all, fun t s a b u v ht hs _ _ w hu hv => same_all a b u v t s ht hs w hu hv⟩
end Go.Proofs.YtfphbmboaefbiaaDoor.Tr
