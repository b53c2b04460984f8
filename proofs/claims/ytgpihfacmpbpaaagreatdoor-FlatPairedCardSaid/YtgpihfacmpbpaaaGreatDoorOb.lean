/-
  Put together: CnF, CnG, CnH.
-/
import Derived.Test.YtgpihfacmpbpaaaGreatDoorOa
import Derived.Test.YtgpihfacmpbpaaaGreatDoorVc
namespace Go.Proofs.YtgpihfacmpbpaaaGreatDoor.Cn
open Go.RowKit Tr Nu
theorem rD:Lx.iD 32=true:=by decide +kernel
end Go.Proofs.YtgpihfacmpbpaaaGreatDoor.Cn
namespace Go.Proofs.YtgpihfacmpbpaaaGreatDoor.Cn
open Go.RowKit Tr Nu
theorem kH {α:Type} {P:List α→Prop} (h0:P []) (h1:∀ l x,P l→P (l++[x])):∀ (n:Nat) (l:List α),l.length=n→P l
 | 0,l,h=>by rw[List.eq_nil_of_length_eq_zero h];exact h0
 | n+1,l,h=>by
  rcases List.eq_nil_or_concat l with rfl | ⟨l',x,rfl⟩
  ·exact h0
  ·rw[List.concat_eq_append]at h ⊢
   exact h1 l' x (kH h0 h1 n l' (by rw[List.length_append,List.length_singleton]at h;omega))
def aGE (x:Lx.Lx):Ev:=⟨x.kind,x.name,x.text,0⟩
theorem aF3 {F:List Nd} {L:List Lx.Lx} (h:Wf F L) (K:Nat→ByteArray × Int) (O:Nat→Int):∀ p,(∀ j y,F[j]?=some y→y.kind=46→(K (p+j)).1=y.text)→(iV K O p L).map rG=L.map aGE:=by
 induction h with
 | nil=>intro p _;rfl
 | @text F L s pl hF ih =>
  intro p hK
  rw[eX,mD hF,List.map_append,List.map_append,ih p fun j y hj=>hK j y (by rw[List.getElem?_append_left (List.getElem?_eq_some_iff.1 hj).1];exact hj)]
  congr 1
  have:=hK F.length _ List.getElem?_concat_length rfl
  show [rG (jC (K (p+F.length)).1 (K (p+F.length)).2)]=[aGE (pB s)]
  unfold rG jC
  rw[this];rfl
 | @node F G L M k pl hF hG hk ih1 ih2 =>
  intro p hK
  rw[eX,kD,mD hF,List.map_append,List.map_append,List.map_cons,List.map_append,List.map_cons,
   ih1 p fun j y hj=>hK j y (by rw[List.getElem?_append_left (List.getElem?_eq_some_iff.1 hj).1];exact hj),
   ih2 _ fun j y hj=>by
    rw[show p+F.length+1+j=p+(F.length+(j+1)) by omega]
    exact hK (F.length+(j+1)) y (by rw[List.getElem?_append_right (by omega),show F.length+(j+1) - F.length=j+1 by omega];exact hj),
   List.map_cons,List.map_append]
  rfl
end Go.Proofs.YtgpihfacmpbpaaaGreatDoor.Cn
namespace Go.Proofs.YtgpihfacmpbpaaaGreatDoor.Tr
open Go.RowKit
theorem aES (t:List Nd):∀ n a e,uW (t.map bare) n a e=uW t n a e
 | 0,_,_=>rfl
 | n+1,a,e=>by
  unfold uW
  rw[List.getElem?_map]
  cases t[a]? with
  | none=>rfl
  | some x=>simp only[Option.map_some,bare,aES t n]
theorem aD6 (t:List Nd):aL (t.map bare)=aL t:=by
 unfold aL fJ
 rw[aES,List.length_map,List.all_map]
 rfl
end Go.Proofs.YtgpihfacmpbpaaaGreatDoor.Tr
namespace Go.Proofs.YtgpihfacmpbpaaaGreatDoor.Nu
open Go.RowKit Tr
theorem aGO (K K':Nat→ByteArray × Int) (O O':Nat→Int) (hK:∀ i,(K i).1=(K' i).1):∀ (L L':List Lx.Lx) (p:Nat),L.map k2=L'.map k2→(iV K O p L).map rG=(iV K' O' p L').map rG:=by
 intro L
 induction L with
 | nil =>
  intro L' p h
  cases L' with
  | nil=>rfl
  | cons x l=>cases h
 | cons x L ih =>
  intro L' p h
  cases L' with
  | nil=>cases h
  | cons x' L' =>
   rw[List.map_cons,List.map_cons]at h
   injection h with hx h
   have hk:x.kind=x'.kind:=congrArg Prod.fst hx
   have hn:x.name=x'.name:=congrArg Prod.snd hx
   by_cases h1:x.kind=1
   ·rw[nY h1,nY (by rw[← hk];exact h1),List.map_cons,List.map_cons,ih L' _ h]
    unfold jC rG
    rw[hK]
   ·by_cases h2:x.kind=2
    ·rw[uA h2,uA (by rw[← hk];exact h2),List.map_cons,List.map_cons,ih L' _ h,hn];rfl
    ·rw[wT h1 h2,wT (by rw[← hk];exact h1) (by rw[← hk];exact h2),List.map_cons,List.map_cons,ih L' _ h]
end Go.Proofs.YtgpihfacmpbpaaaGreatDoor.Nu
namespace Go.Proofs.YtgpihfacmpbpaaaGreatDoor.Cn
open Go.RowKit Tr Nu
theorem DI:∀ t u:List Nd,gU t u=true→t.map bare=u.map bare
 | [],[],_=>rfl
 | [],y::u,h=>by unfold gU at h;simp at h
 | x::t,[],h=>by unfold gU at h;simp at h
 | x::t,y::u,h=>by
  unfold gU at h
  rw[Bool.and_eq_true,decide_eq_true_eq,List.zip_cons_cons,List.all_cons,Bool.and_eq_true]at h
  obtain⟨h1,h2,h3⟩:=h
  unfold kI at h2
  rw[decide_eq_true_eq]at h2
  have ih:=DI t u (by unfold gU;rw[Bool.and_eq_true,decide_eq_true_eq];exact⟨by simpa using h1,h3⟩)
  rw[List.map_cons,List.map_cons,ih]
  obtain⟨a,b,c,d⟩:=x
  obtain⟨a',b',c',d'⟩:=y
  simp only[]at h2
  obtain⟨rfl,rfl,rfl⟩:=h2
  rfl
theorem aFH (t:List Nd) (a e:Nat):fJ (t.map bare) a e=fJ t a e:=aES t (e - a) a e
theorem aED {t u:List Nd} (h:t.map bare=u.map bare):fJ t 0 t.length=fJ u 0 u.length:=by
 have hl:t.length=u.length:=by have:=congrArg List.length h;simpa using this
 rw[← aFH t,← aFH u,h,hl]
theorem aD1 {t u:List Nd} (h:t.map bare=u.map bare):aL t=aL u:=by rw[← aD6 t,← aD6 u,h]
theorem aFS {t u:List Nd} (h:t.map bare=u.map bare) (i:Nat):(t[i]?).map bare=(u[i]?).map bare:=by rw[← List.getElem?_map,← List.getElem?_map,h]
theorem aD2 {t u:List Nd} (h:t.map bare=u.map bare):G7 t u:=fun i=>by
 have hi:=aFS h i
 cases h1:t[i]? with
 | none=>rw[h1,Option.map_none,eq_comm,Option.map_eq_none_iff]at hi;rw[hi]
 | some x =>
  rw[h1,Option.map_some,eq_comm,Option.map_eq_some_iff]at hi
  obtain⟨y,hy,e⟩:=hi
  rw[hy]
  unfold bare at e
  cases x;cases y
  simp at e
  simp[e]
theorem aEZ {t u:List Nd} (h:t.map bare=u.map bare) (f:Nat):∀ n,rA u f n=rA t f n
 | 0=>rfl
 | n+1=>by
  rw[iW,iW,aEZ h f n]
  congr 1
  have hi:=aFS h n
  unfold eY
  cases h1:t[n]? with
  | none=>rw[h1,Option.map_none,eq_comm,Option.map_eq_none_iff]at hi;rw[hi]
  | some x =>
   rw[h1,Option.map_some,eq_comm,Option.map_eq_some_iff]at hi
   obtain⟨y,hy,e⟩:=hi
   rw[hy]
   unfold bare at e
   have e1:=congrArg Nd.kind e
   have e2:=congrArg Nd.text e
   simp only[]at e1 e2
   simp only[e1,e2,lH (aD2 h)]
theorem aFE {t u:List Nd} (ht:YQ t) (hu:YQ u) (h:t.map bare=u.map bare) (i:Nat):newText u i=newText t i:=by
 have hl:u.length=t.length:=by have:=congrArg List.length h;simpa using this.symm
 unfold newText dP
 rw[lH (aD2 h)]
 by_cases h0:0≤bY t i
 ·rw[if_pos h0,if_pos h0]
  obtain⟨f,hf⟩:∃ f:Nat,bY t i=(f:Int):=⟨(bY t i).toNat,by omega⟩
  obtain⟨-,x,hx,-,-⟩:=eT hf
  obtain⟨-,y,hy,-,-⟩:=eT ((lH (aD2 h) i).trans hf)
  rw[hf,Int.toNat_natCast,sM ht hx,sM hu hy,aEZ h,hl]
 ·rw[if_neg h0,if_neg h0]
theorem aFW {t u:List Nd} (hc:aL t=0) (h:t.map bare=u.map bare):(gG t).map bare=(gG u).map bare:=by
 obtain⟨L,hW,hE⟩:=gT hc
 obtain⟨M,hW',hE'⟩:=gT ((aD1 h).symm.trans hc)
 have hLM:L=M:=by
  have:=aED h
  rw[hE,hE']at this
  exact Option.some.inj this
 subst hLM
 rw[iJ hW,iJ hW']
 have h1:=aBV (bM (iV (asNew t) (aU t) 0 L)) [] []
 have h2:=aBV (bM (iV (asNew u) (aU u) 0 L)) [] []
 have h3:=UA (iV (asNew t) (aU t) 0 L) []
 have h4:=UA (iV (asNew u) (aU u) 0 L) []
 have h5:=aGO (asNew u) (asNew t) (aU u) (aU t) (fun i=>aFE (LI hW) (LI hW') h i) L L 0 rfl
 rw[h5,← h3]at h4
 exact(h1.trans (congrArg (fun l:List Ev=>(l.foldl kB (([]:List Nd).map bare,[])).1) h4.symm)).trans h2.symm
theorem aF8 {t u:List Nd} (h:t.map bare=u.map bare):zP t=zP u:=by
 have key:∀ t u:List Nd,t.map bare=u.map bare→zP t=true→zP u=true:=fun t u h ht=>by
  unfold zP at ht ⊢
  rw[Bool.and_eq_true,decide_eq_true_eq]at ht ⊢
  refine⟨(aD1 h).symm.trans ht.1,wV _ _ ?_⟩
  rw[← h,DI _ _ ht.2,aFW ht.1 h]
 cases h1:zP t with
 | true=>exact(key t u h h1).symm
 | false =>
  cases h2:zP u with
  | false=>rfl
  | true=>rw[key u t h.symm h2]at h1;cases h1
theorem rI {t:List Nd} (h:zP t=true):aL t=0:=by
 unfold zP at h
 rw[Bool.and_eq_true,decide_eq_true_eq]at h;exact h.1
theorem IG {s:ByteArray} (h:(bH s).2.2=0):aL (bH s).1=0:=by
 have hP:=sQ h
 rw[sR hP]
 exact(DJ s hP.1 hP.2.1 hP.2.2).1
end Go.Proofs.YtgpihfacmpbpaaaGreatDoor.Cn
