/-
  Put together: CnF, CnG, CnH.
-/
import Derived.Test.YtgpihfacmpbpaaaGreatDoorOa
import Derived.Test.YtgpihfacmpbpaaaGreatDoorVc
namespace Go.Proofs.YtgpihfacmpbpaaaGreatDoor.Cn
open Go.RowKit Tr Nu
theorem rD:Lx.iD 32=true:=by decide +kernel
end Go.Proofs.YtgpihfacmpbpaaaGreatDoor.Cn
namespace Go.Proofs.YtgpihfacmpbpaaaGreatDoor.Cn
open Go.RowKit Tr Nu
theorem kH {α:Type} {P:List α→Prop} (h0:P []) (h1:∀ l x,P l→P (l++[x])):∀ (n:Nat) (l:List α),l.length=n→P l
 | 0,l,h=>by rw[List.eq_nil_of_length_eq_zero h];exact h0
 | n+1,l,h=>by
  rcases List.eq_nil_or_concat l with rfl | ⟨l',x,rfl⟩
  ·exact h0
  ·rw[List.concat_eq_append]at h ⊢
   exact h1 l' x (kH h0 h1 n l' (by rw[List.length_append,List.length_singleton]at h;omega))
end Go.Proofs.YtgpihfacmpbpaaaGreatDoor.Cn
namespace Go.Proofs.YtgpihfacmpbpaaaGreatDoor.Cn
open Go.RowKit Tr Nu
theorem DI:∀ t u:List Nd,gU t u=true→t.map bare=u.map bare
 | [],[],_=>rfl
 | [],y::u,h=>by unfold gU at h;simp at h
 | x::t,[],h=>by unfold gU at h;simp at h
 | x::t,y::u,h=>by
  unfold gU at h
  rw[Bool.and_eq_true,decide_eq_true_eq,List.zip_cons_cons,List.all_cons,Bool.and_eq_true]at h
  obtain⟨h1,h2,h3⟩:=h
  unfold kI at h2
  rw[decide_eq_true_eq]at h2
  have ih:=DI t u (by unfold gU;rw[Bool.and_eq_true,decide_eq_true_eq];exact⟨by simpa using h1,h3⟩)
  rw[List.map_cons,List.map_cons,ih]
  obtain⟨a,b,c,d⟩:=x
  obtain⟨a',b',c',d'⟩:=y
  simp only[]at h2
  obtain⟨rfl,rfl,rfl⟩:=h2
  rfl
theorem rI {t:List Nd} (h:zP t=true):aL t=0:=by
 unfold zP at h
 rw[Bool.and_eq_true,decide_eq_true_eq]at h;exact h.1
theorem IG {s:ByteArray} (h:(bH s).2.2=0):aL (bH s).1=0:=by
 have hP:=sQ h
 rw[sR hP]
 exact(DJ s hP.1 hP.2.1 hP.2.2).1
end Go.Proofs.YtgpihfacmpbpaaaGreatDoor.Cn
