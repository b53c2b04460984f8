/-
  The document's Parse of layer 4.
-/
import Derived.Test.YtgpihfacmpbpaaaGreatDoorVp
import Derived.Test.YtgpihfacmpbpaaaGreatDoorTuC
import Derived.Test.YtgpihfacmpbpaaaGreatDoorTsV
namespace Go.Proofs.YtgpihfacmpbpaaaGreatDoor.Tr
open Go.RowKit
theorem aDU (x:Lx.Lx):(Lx.dJ x).length=4:=rfl
theorem aW {w:World} {base:Nat} {e:TypeId} {size:Nat} {v:Value} {n:Nat} {xs:List Value} (h:w.ownsRow base e size v n xs):∃ A c,v=.slice A n c∧n≤c:=by
 rcases h.2 with⟨h',h0⟩ | ⟨g',c',_,h',_,_,hc,_⟩
 ·exact⟨none,0,by rw[h',h0],by omega⟩
 ·exact⟨_,_,h',hc⟩
theorem aBO {l:List Lx.Lx} (hp:∀ x ∈ l,yI x) (k:Nat):k≤l.length→(∀ i x,i<k→l[i]?=some x→(aV (l.take i)).2.length=1→x.kind=1∨x.kind=2)→zN (l.take k):=by
 induction k using Nat.strongRecOn with
 | _ k ih =>
  intro hk hc
  refine⟨fun x hx=>hp x (List.mem_of_mem_take hx),fun i x hx=>?_⟩
  rw[List.getElem?_take]at hx
  split at hx
  ·next hi =>
   rw[List.take_take,Nat.min_eq_left (by omega)]
   have hs:=ih i hi (by omega) (fun j y hj=>hc j y (by omega))
   have hg:=hs.TQ i (by rw[List.length_take];omega)
   rw[List.take_take,Nat.min_self]at hg
   have hpos:=hg.pos
   by_cases h1:(aV (l.take i)).2.length=1
   ·rcases hc i x hi hx h1 with h | h
    ·exact .inl h
    ·exact .inr (.inl h)
   ·exact .inr (.inr (by omega))
  ·cases hx
theorem YH {w:World} {l:List Lx.Lx} {g c:Nat} (hg:g<w.heap.size) (h:∀ k x,l[k]?=some x→∀ j u,(Lx.dJ x)[j]?=some u→w.cell? ⟨g,0+(k * 4+j),none⟩=some u) (k:Nat) (hk:k≤l.length):Ba.Reads Lx.dJ 4 0 w w.heap.size (.slice (some ⟨g,0,none⟩) k c) (l.take k):=by
 refine⟨some ⟨g,0,none⟩,c,by rw[List.length_take,Nat.min_eq_left hk],fun _=>⟨g,rfl,hg,fun i x hx=>?_⟩⟩
 rw[List.getElem?_take]at hx
 split at hx
 ·exact h i x hx
 ·cases hx
end Go.Proofs.YtgpihfacmpbpaaaGreatDoor.Tr
