/-
  What the landed tree answers (a premise here: Lands), and styluslaw04's kinds, wrong, vast over it.
-/
import Derived.Test.YtgpihfacmpbpaaaGreatDoorTrD
import Derived.Test.YtgpihfacmpbpaaaGreatDoorVa
namespace Go.Proofs.YtgpihfacmpbpaaaGreatDoor.Tr
open Go.RowKit
def Fit (t:List Nd):Prop:=∀ x ∈ t,x.kind<256∧x.text.size≤maxLen∧(-9223372036854775808≤x.place∧x.place≤9223372036854775807)∧(-9223372036854775808≤x.size∧x.size≤9223372036854775807)
structure lJ:Prop where
 parse:∀ s:ByteArray,s.size≤maxLen→∀ w:World,Ka.Laid w→Calls Tryz.prog 16 #[.string s] w fun e w' =>
  ∃ v,e=.returned (.tuple #[v,.int .i64 (((bH s).2.1:Nat):Int),.int .i64 (((bH s).2.2:Nat):Int)])∧aS 0 w' w'.heap.size v (bH s).1∧Below w.heap.size w w'
 check:∀ (t:List Nd) (off:Nat) (v:Value),t.length≤9000→Fit t→(∀ x ∈ t,x.text.size≤9000)→∀ w:World,Ka.Laid w→aS off w w.heap.size v t→Calls Tryz.prog 20 #[v] w fun e w' =>
  e=.returned (.int .i64 ((aL t:Nat):Int))∧Below w.heap.size w w'
 same:∀ (t s:List Nd) (a b:Nat) (u v:Value),t.length≤9000→s.length≤9000→Fit t→Fit s→∀ w:World,aS a w w.heap.size u t→aS b w w.heap.size v s→Calls Tryz.prog 13 #[u,v] w fun e w' =>
  e=.returned (.bool (gU t s))∧Below w.heap.size w w'
theorem lJ.at (L:lJ) (s:ByteArray) (hs:s.size≤maxLen) (t:List Nd) (p q:Int) (ht:(bH s).1=t) (hp:(((bH s).2.1:Nat):Int)=p) (hq:(((bH s).2.2:Nat):Int)=q) (w:World) (hL:Ka.Laid w) :
  Calls Tryz.prog 16 #[.string s] w fun e w'=>∃ v,e=.returned (.tuple #[v,.int .i64 p,.int .i64 q])∧aS 0 w' w'.heap.size v t∧Below w.heap.size w w':=by
 subst ht;subst hp;subst hq
 exact L.parse s hs w hL
end Go.Proofs.YtgpihfacmpbpaaaGreatDoor.Tr
