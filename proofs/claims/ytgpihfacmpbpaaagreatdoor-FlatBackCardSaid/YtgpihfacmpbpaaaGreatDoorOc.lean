/-
  styluslaw06's vast, is and awake, over what the landed package answers.
-/
import Derived.Test.YtgpihfacmpbpaaaGreatDoorOb
import Derived.Test.YtgpihfacmpbpaaaGreatDoorNh
import Derived.Test.YtgpihfacmpbpaaaGreatDoorTrJ
namespace Go.Proofs.YtgpihfacmpbpaaaGreatDoor.Cn
open Go.RowKit Tr Nu Nl
def AQ (v:Value):Prop:=∀ A n c,v=.slice A n c→n≤c∧c≤maxLen
theorem OL {A:Option Addr} {n c:Nat} (h1:n≤c) (h2:c≤maxLen):AQ (.slice A n c):=fun _ _ _ e=>by
 injection e with _ e1 e2
 subst e1 e2
 exact⟨h1,h2⟩
theorem rJ {w:World} {base e size n:Nat} {v:Value} {xs:List Value} (h:w.ownsRow base e size v n xs):AQ v:=by
 rcases h.2 with⟨rfl,_⟩ | ⟨g,cap,cur,rfl,_,_,h1,h2,_⟩
 ·exact OL (Nat.le_refl _) (by unfold maxLen;omega)
 ·exact OL h1 h2
end Go.Proofs.YtgpihfacmpbpaaaGreatDoor.Cn
