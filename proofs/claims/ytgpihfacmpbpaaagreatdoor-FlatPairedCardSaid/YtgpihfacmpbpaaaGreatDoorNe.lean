/-
  Put together: NlE, NlF, NlG, NlH, NlI, NlJ, NlK.
-/
import Derived.Test.YtgpihfacmpbpaaaGreatDoorNd
import Derived.Test.YtgpihfacmpbpaaaGreatDoorVc
import Derived.Test.YtgpihfacmpbpaaaGreatDoorVd
import Derived.Test.YtgpihfacmpbpaaaGreatDoorVb
import Derived.Maps.RangeWalk
import Derived.Test.YtgpihfacmpbpaaaGreatDoorShelf
namespace Go.Proofs.YtgpihfacmpbpaaaGreatDoor.Nl
open Go.RowKit Tr Nu
def bZ (t:List Nd) (f:Nat):Bool:=match t[f]? with | some x=>aK x.kind | none=>false
def lL (t:List Nd) (f:Nat):Int:=match t[f]? with | some x=>(f:Int)+x.size | none=>0
def dZ (t:List Nd) (f:Nat):Nat→List (Nat × List Sp) × Nat
 | 0=>([],32)
 | i+1=>match t[i]? with
  | some x=>if x.kind=46∧bY t i=(f:Int) then
    ((dZ t f i).1++(if gD i x (dZ t f i).2 x.text.size=[] then [] else [(i,gD i x (dZ t f i).2 x.text.size)]),kR i x (dZ t f i).2 x.text.size)
   else dZ t f i
  | none=>dZ t f i
def Z9 (t:List Nd) (p:Nat × List Sp):Rs:=⟨p.1,oS ((t[p.1]?).getD ⟨0,aA,0,0⟩) p.2,p.2.map Sp.c⟩
def lM (t:List Nd) (f i:Nat):List Rs:=(dZ t f i).1.map (Z9 t)
def jG (t:List Nd) (f i:Nat):Nat:=(dZ t f i).2
theorem D9 {t:List Nd} {f i:Nat} {x:Nd} (hx:t[i]?=some x) (hk:x.kind=46) (hf:bY t i=(f:Int)):lM t f (i+1)=lM t f i++tO i x (jG t f i)∧jG t f (i+1)=kR i x (jG t f i) x.text.size:=by
 unfold lM jG
 rw[dZ,hx]
 simp only[]
 rw[if_pos ⟨hk,hf⟩]
 refine⟨?_,rfl⟩
 rw[List.map_append]
 congr 1
 unfold tO
 cases hl:gD i x (dZ t f i).2 x.text.size with
 | nil=>rw[if_pos rfl];rfl
 | cons s l =>
  rw[if_neg (by simp)]
  unfold Z9
  simp only[List.map_cons,List.map_nil,hx,Option.getD_some]
theorem oT {t:List Nd} {f i:Nat} (h:∀ x,t[i]?=some x→¬ (x.kind=46∧bY t i=(f:Int))):lM t f (i+1)=lM t f i∧jG t f (i+1)=jG t f i:=by
 unfold lM jG
 rw[dZ]
 cases hx:t[i]? with
 | none=>exact⟨rfl,rfl⟩
 | some x=>simp only[];rw[if_neg (h x hx)];exact⟨rfl,rfl⟩
theorem told_none {t:List Nd} {f:Nat}:∀ i,i≤f+1→lM t f i=[]∧jG t f i=32:=by
 intro i
 induction i with
 | zero=>intro _;exact⟨rfl,rfl⟩
 | succ i ih =>
  intro hi
  obtain⟨h1,h2⟩:=ih (by omega)
  obtain⟨h3,h4⟩:=oT (t:=t) (f:=f) (i:=i) (fun x hx h=>by
   have:=(eT h.2).1;omega)
  exact⟨h3.trans h1,h4.trans h2⟩
theorem VX (t:List Nd) (f:Nat):∀ i,jG t f i<256:=by
 intro i
 induction i with
 | zero=>show (32:Nat)<256;omega
 | succ i ih =>
  by_cases h:∃ x,t[i]?=some x∧x.kind=46∧bY t i=(f:Int)
  ·obtain⟨x,hx,hk,hf⟩:=h
   rw[(D9 hx hk hf).2]
   cases hs:x.text.size with
   | zero=>exact ih
   | succ k=>rw[uK];exact AD (Lx.eF _ _)
  ·rw[(oT (fun x hx h2=>h ⟨x,hx,h2⟩)).2];exact ih
theorem BO (t:List Nd) (f:Nat):∀ i,(lM t f i).length≤i:=by
 intro i
 unfold lM
 rw[List.length_map]
 induction i with
 | zero=>exact Nat.le_refl _
 | succ i ih =>
  rw[dZ]
  cases t[i]? with
  | none=>simp only[];omega
  | some x =>
   simp only[]
   split
   ·rw[List.length_append]
    split
    ·simp;omega
    ·simp;omega
   ·omega
theorem VY {i:Nat} {x:Nd} {a k:Nat} {s:Sp} (h:s ∈ gD i x a k):s.node=i∧s.c<256:=by
 unfold gD at h
 have h:=aAA a _ h
 unfold kF at h
 obtain⟨j,-,rfl⟩:=List.mem_map.1 h
 exact⟨rfl,AD (Lx.eF _ _)⟩
structure aCY (t:List Nd) (f i:Nat):Prop where
 all:((dZ t f i).1.flatMap Prod.snd)=eA 32 (rA t f i)
 last:(dZ t f i).2=dN 32 (rA t f i)
 node:∀ p ∈ (dZ t f i).1,p.2≠[]∧p.1<i∧(∀ s ∈ p.2,s.node=p.1∧s.c<256)∧bY t p.1=(f:Int)∧∃ x,t[p.1]?=some x∧x.kind=46∧p.2.length≤x.text.size
 vH:((dZ t f i).1.map Prod.fst).Pairwise (·<·)
theorem AE (t:List Nd) (f:Nat):∀ i,aCY t f i:=by
 intro i
 induction i with
 | zero=>exact⟨rfl,rfl,by simp[dZ],by simp[dZ]⟩
 | succ i ih =>
  obtain⟨h1,h2,h3,h4⟩:=ih
  by_cases h:∃ x,t[i]?=some x∧x.kind=46∧bY t i=(f:Int)
  ·obtain⟨x,hx,hk,hf⟩:=h
   have hfi:=(eT hf).1
   have hraw:eY t f i=kF i x.text x.text.size:=by
    unfold eY
    rw[hx]
    simp only[]
    rw[if_pos ⟨hfi,hk,hf⟩]
   have e:dZ t f (i+1)=((dZ t f i).1++(if gD i x (dZ t f i).2 x.text.size=[] then [] else [(i,gD i x (dZ t f i).2 x.text.size)]),kR i x (dZ t f i).2 x.text.size):=by
    rw[dZ,hx]
    simp only[]
    rw[if_pos ⟨hk,hf⟩]
   constructor
   ·rw[e,iW,vP,hraw,← h1,← h2]
    simp only[List.flatMap_append]
    congr 1
    by_cases h0:gD i x (dZ t f i).2 x.text.size=[]
    ·rw[if_pos h0];exact h0.symm
    ·rw[if_neg h0]
     simp only[List.flatMap_cons,List.flatMap_nil,List.append_nil]
     rfl
   ·rw[e,iW,jW,hraw,← h2];rfl
   ·intro p hp
    rw[e]at hp
    rcases List.mem_append.1 hp with h5 | h5
    ·obtain⟨a,b,c⟩:=h3 p h5
     exact⟨a,by omega,c⟩
    ·by_cases h0:gD i x (dZ t f i).2 x.text.size=[]
     ·rw[if_pos h0]at h5;cases h5
     ·rw[if_neg h0,List.mem_singleton]at h5
      subst h5
      exact⟨h0,Nat.lt_succ_self _,fun s hs=>VY hs,hf,x,hx,hk,D6 _ _ _ _⟩
   ·rw[e]
    simp only[List.map_append]
    rw[List.pairwise_append]
    refine⟨h4,?_,?_⟩
    ·split<;>simp
    ·intro a ha b hb
     obtain⟨p,hp,rfl⟩:=List.mem_map.1 ha
     have hpl:=(h3 p hp).2.1
     split at hb
     ·cases hb
     ·simp at hb;omega
  ·have e:dZ t f (i+1)=dZ t f i:=by
    rw[dZ]
    cases hx:t[i]? with
    | none=>rfl
    | some x=>simp only[];rw[if_neg (fun h2=>h ⟨x,hx,h2⟩)]
   have hraw:eY t f i=[]:=by
    unfold eY
    cases hx:t[i]? with
    | none=>rfl
    | some x=>simp only[];rw[if_neg (fun h2=>h ⟨x,hx,h2.2⟩)]
   constructor
   ·rw[e,iW,hraw,List.append_nil];exact h1
   ·rw[e,iW,hraw,List.append_nil];exact h2
   ·intro p hp
    rw[e]at hp
    obtain⟨a,b,c⟩:=h3 p hp
    exact⟨a,by omega,c⟩
   ·rw[e];exact h4
def mP (t:List Nd) (f:Nat):List Rs:=D8 (lM t f t.length)
theorem RV (l:List Rs):(D8 l).length=l.length:=by
 rcases List.eq_nil_or_concat l with rfl | ⟨l',r,rfl⟩
 ·rfl
 ·rw[List.concat_eq_append,pX];simp
theorem xO {l:List Sp} {s:Sp} (a:Nat):dN a (l++[s])=s.c:=by rw[jW];rfl
theorem RW {A l:List Sp} (h:l≠[]):eS (A++l)=A++eS l:=by
 rcases List.eq_nil_or_concat l with h0 | ⟨l',s,rfl⟩
 ·exact absurd h0 h
 ·rw[List.concat_eq_append]
  unfold eS
  rw[← List.append_assoc,xO,xO]
  by_cases h32:s.c=32
  ·rw[if_pos h32,if_pos h32,List.dropLast_concat,List.dropLast_concat]
  ·rw[if_neg h32,if_neg h32,List.append_assoc]
theorem VZ {l:List Sp} (h:l≠[]):D7 (l.map Sp.c)=(eS l).map Sp.c:=by
 rcases List.eq_nil_or_concat l with h0 | ⟨l',s,rfl⟩
 ·exact absurd h0 h
 ·rw[List.concat_eq_append]
  unfold D7 eS
  rw[xO,List.map_append]
  show (if ((l'.map Sp.c)++[s.c]).getLastD 0=32 then ((l'.map Sp.c)++[s.c]).dropLast else _)=_
  rw[List.getLastD_concat]
  by_cases h32:s.c=32
  ·rw[if_pos h32,if_pos h32,List.dropLast_concat,List.dropLast_concat]
  ·rw[if_neg h32,if_neg h32,List.map_append]
theorem RX (l:List Sp):∀ s ∈ eS l,s ∈ l:=by
 intro s hs
 unfold eS at hs
 split at hs
 ·exact(List.dropLast_sublist l).subset hs
 ·exact hs
theorem MW {l:List Sp} {s:Sp} {m:List Sp} (h:eS l=s::m):∃ m',l=s::m':=by
 unfold eS at h
 split at h
 ·cases l with
  | nil=>cases h
  | cons a l =>
   cases l with
   | nil=>cases h
   | cons b l=>rw[List.dropLast_cons_cons]at h;injection h with h1 h2;exact⟨_,by rw[h1]⟩
 ·exact⟨m,h⟩
def yX (l:List (Nat × List Sp)):List (Nat × List Sp):=match l.getLast? with | some p=>l.dropLast++[(p.1,eS p.2)] | none=>[]
theorem pY (l:List (Nat × List Sp)) (p:Nat × List Sp):yX (l++[p])=l++[(p.1,eS p.2)]:=by
 unfold yX
 rw[List.getLast?_concat]
 simp only[]
 rw[List.dropLast_concat]
theorem EA (l:List (Nat × List Sp)) (h:∀ p ∈ l,p.2≠[]):(yX l).flatMap Prod.snd=eS (l.flatMap Prod.snd):=by
 rcases List.eq_nil_or_concat l with rfl | ⟨l',p,rfl⟩
 ·rfl
 ·rw[List.concat_eq_append]at h ⊢
  rw[pY,List.flatMap_append,List.flatMap_append]
  simp only[List.flatMap_cons,List.flatMap_nil,List.append_nil]
  rw[RW (h p (by simp))]
theorem xP (l:List (Nat × List Sp)):(yX l).map Prod.fst=l.map Prod.fst:=by
 rcases List.eq_nil_or_concat l with rfl | ⟨l',p,rfl⟩
 ·rfl
 ·rw[List.concat_eq_append,pY];simp
theorem BP {l:List (Nat × List Sp)} {p:Nat × List Sp} (h:p ∈ yX l):∃ q ∈ l,q.1=p.1∧(∀ s ∈ p.2,s ∈ q.2)∧(p.2=q.2∨p.2=eS q.2):=by
 rcases List.eq_nil_or_concat l with rfl | ⟨l',q,rfl⟩
 ·cases h
 ·rw[List.concat_eq_append]at h ⊢
  rw[pY]at h
  rcases List.mem_append.1 h with h1 | h1
  ·exact⟨p,by simp[h1],rfl,fun s hs=>hs,.inl rfl⟩
  ·rw[List.mem_singleton]at h1
   subst h1
   exact⟨q,by simp,rfl,fun s hs=>RX _ s hs,.inr rfl⟩
theorem O5:∀ {l:List (Nat × List Sp)} (_:∀ p ∈ l,∀ s ∈ p.2,s.node=p.1) (_:(l.map Prod.fst).Pairwise (·<·)) (i:Nat),(l.flatMap Prod.snd).filter (fun s=>s.node==i)=match l.find? (fun p=>p.1==i)with | some p=>p.2 | none=>[]:=by
 intro l
 induction l with
 | nil=>intro _ _ i;rfl
 | cons p l ih =>
  intro h1 h2 i
  rw[List.map_cons,List.pairwise_cons]at h2
  rw[List.flatMap_cons,List.filter_append]
  by_cases hp:p.1=i
  ·rw[List.find?_cons_of_pos (by simpa using hp)]
   simp only[]
   have e1:p.2.filter (fun s=>s.node==i)=p.2:=List.filter_eq_self.2 (fun s hs=>by
    have:=h1 p (by simp) s hs
    simp;omega)
   have e2:(l.flatMap Prod.snd).filter (fun s=>s.node==i)=[]:=by
    rw[List.filter_eq_nil_iff]
    intro s hs hn
    obtain⟨q,hq,hsq⟩:=List.mem_flatMap.1 hs
    have a:=h1 q (by simp[hq]) s hsq
    have b:=h2.1 q.1 (List.mem_map.2 ⟨q,hq,rfl⟩)
    simp at hn
    omega
   rw[e1,e2,List.append_nil]
  ·rw[List.find?_cons_of_neg (by simpa using hp)]
   have e1:p.2.filter (fun s=>s.node==i)=[]:=by
    rw[List.filter_eq_nil_iff]
    intro s hs hn
    have:=h1 p (by simp) s hs
    simp at hn
    omega
   rw[e1,List.nil_append]
   exact ih (fun q hq=>h1 q (by simp[hq])) h2.2 i
theorem EB (t:List Nd) (f:Nat):(mP t f).map (fun r=>(r.node,r.kept))=(yX (dZ t f t.length).1).map (fun p=>(p.1,p.2.map Sp.c)):=by
 have hok:=AE t f t.length
 unfold mP lM
 rcases List.eq_nil_or_concat (dZ t f t.length).1 with h | ⟨l',p,h⟩
 ·rw[h];rfl
 ·rw[List.concat_eq_append]at h
  have hp:=(hok.node p (by rw[h];simp)).1
  rw[h,List.map_append,show List.map (Z9 t) [p]=[Z9 t p] from rfl,pX,pY,List.map_append,List.map_append]
  congr 1
  ·rw[List.map_map];rfl
  ·show [(p.1,D7 (p.2.map Sp.c))]=[(p.1,(eS p.2).map Sp.c)]
   rw[VZ hp]
theorem V0:∀ {l:List (Nat × List Sp)} (_:(l.map Prod.fst).Pairwise (·<·)) {q q':Nat × List Sp},q ∈ l→q' ∈ l→q.1=q'.1→q'=q:=by
 intro l
 induction l with
 | nil=>intro _ q q' hq;cases hq
 | cons a l ih =>
  intro hr q q' hq hq' he
  rw[List.map_cons,List.pairwise_cons]at hr
  rcases List.mem_cons.1 hq with h | h<;>rcases List.mem_cons.1 hq' with h2 | h2
  ·rw[h,h2]
  ·have:=hr.1 q'.1 (List.mem_map.2 ⟨q',h2,rfl⟩)
   rw[← h]at this;omega
  ·have:=hr.1 q.1 (List.mem_map.2 ⟨q,h,rfl⟩)
   rw[← h2]at this;omega
  ·exact ih hr.2 h h2 he
theorem V4:∀ {l:List (Nat × List Sp)} (_:(l.map Prod.fst).Pairwise (·<·)) {p:Nat × List Sp} {i:Nat},p ∈ l→p.1=i→l.find? (fun p=>p.1==i)=some p:=by
 intro l
 induction l with
 | nil=>intro _ p i hp;cases hp
 | cons a l ih =>
  intro hnd p i hp e1
  rw[List.map_cons,List.pairwise_cons]at hnd
  rcases List.mem_cons.1 hp with h | h
  ·subst h
   rw[List.find?_cons_of_pos (by simpa using e1)]
  ·have:=hnd.1 p.1 (List.mem_map.2 ⟨p,h,rfl⟩)
   rw[List.find?_cons_of_neg (by simp;omega)]
   exact ih hnd.2 h e1
theorem F3 {t:List Nd} (ht:lN t) {f:Nat} (hf:bZ t f=true) {r:Rs} (hr:r ∈ mP t f) :
  r.node<t.length∧bY t r.node=(f:Int)∧(∃ x,t[r.node]?=some x∧x.kind=46)∧r.kept=(dP t r.node).map Sp.c∧(dP t r.node≠[]→r.place=lO t r.node)∧r.kept.length≤9000∧∀ b ∈ r.kept,b<256:=by
 have hok:=AE t f t.length
 obtain⟨x0,hx0⟩:∃ x,t[f]?=some x:=by
  unfold bZ at hf
  cases hx:t[f]? with
  | none=>rw[hx]at hf;cases hf
  | some x=>exact⟨x,rfl⟩
 -- the part that it is of
 have hm:(r.node,r.kept) ∈ (yX (dZ t f t.length).1).map (fun p=>(p.1,p.2.map Sp.c)):=by
  rw[← EB];exact List.mem_map.2 ⟨r,hr,rfl⟩
 obtain⟨p,hp,he⟩:=List.mem_map.1 hm
 injection he with e1 e2
 obtain⟨q,hq,q1,q2,q3⟩:=BP hp
 obtain⟨n1,n2,n3,n4,x,hx,hk,hxl⟩:=hok.node q hq
 rw[q1,e1]at n2 n3 n4 hx
 have hkept:dP t r.node=p.2:=by
  unfold dP
  rw[n4,if_pos (by omega),Int.toNat_natCast,EC ht hx0,← hok.all,← EA _ (fun p hp=>(hok.node p hp).1)]
  rw[O5 (fun p' hp' s hs=>by
   obtain⟨q',hq',a,b,-⟩:=BP hp'
   rw[← a];exact((hok.node q' hq').2.2.1 s (b s hs)).1) (by rw[xP];exact hok.vH)]
  have:=V4 (by rw[xP];exact hok.vH) hp e1
  rw[this]
 refine⟨n2,n4,⟨x,hx,hk⟩,by rw[hkept];exact e2.symm,fun hne=>?_,?_,fun b hb=>?_⟩
 ·-- the place is the first spot's, trimmed or not
  rw[hkept]at hne
  unfold lO
  rw[hkept]
  have hpl:aU t r.node=x.place:=by unfold aU;rw[hx]
  -- r's place is that of its part
  have hrp:∃ q' ∈ (dZ t f t.length).1,q'.1=r.node∧r.place=oS x q'.2:=by
   unfold mP lM at hr
   rcases List.eq_nil_or_concat (dZ t f t.length).1 with h | ⟨l',z,h⟩
   ·rw[h]at hr;cases hr
   ·rw[List.concat_eq_append]at h
    rw[h,List.map_append,show List.map (Z9 t) [z]=[Z9 t z] from rfl,pX]at hr
    rw[h]
    rcases List.mem_append.1 hr with h1 | h1
    ·obtain⟨y,hy,rfl⟩:=List.mem_map.1 h1
     refine⟨y,by simp[hy],rfl,?_⟩
     have hx:t[y.1]?=some x:=hx
     unfold Z9
     rw[hx];rfl
    ·rw[List.mem_singleton]at h1
     subst h1
     refine⟨z,by simp,rfl,?_⟩
     have hx:t[z.1]?=some x:=hx
     unfold O4 Z9
     rw[hx];rfl
  obtain⟨q',hq',e3,e4⟩:=hrp
  have hqq:q'=q:=V0 hok.vH hq hq' (by omega)
  rw[e4,hqq]
  cases hpl2:p.2 with
  | nil=>exact absurd hpl2 hne
  | cons s m =>
   simp only[]
   rw[hpl]
   rcases q3 with h | h
   ·rw[← h,hpl2];rfl
   ·rw[hpl2]at h
    obtain⟨m',hm'⟩:=MW h.symm
    rw[hm'];rfl
 ·rw[← e2,List.length_map]
  have h1:p.2.length≤q.2.length:=by
   rcases q3 with h | h
   ·rw[h];exact Nat.le_refl _
   ·rw[h];unfold eS;split
    ·rw[List.length_dropLast];omega
    ·exact Nat.le_refl _
  have h2:=(ht _ _ hx).2.1
  omega
 ·rw[← e2]at hb
  obtain⟨s,hs,rfl⟩:=List.mem_map.1 hb
  exact(n3 s (q2 s hs)).2
theorem V5 {t:List Nd} (ht:lN t) {i f:Nat} (hi:bY t i=(f:Int)) (hk:dP t i≠[]):∃ r ∈ mP t f,r.node=i:=by
 obtain⟨-,x0,hx0,-⟩:=eT hi
 have hok:=AE t f t.length
 have h2:=hk
 unfold dP at h2
 rw[hi,if_pos (by omega),Int.toNat_natCast,EC ht hx0,← hok.all,← EA _ (fun p hp=>(hok.node p hp).1)]at h2
 rw[O5 (fun p' hp' s hs=>by
  obtain⟨q',hq',a,b,-⟩:=BP hp'
  rw[← a];exact((hok.node q' hq').2.2.1 s (b s hs)).1) (by rw[xP];exact hok.vH)]at h2
 cases hfind:(yX (dZ t f t.length).1).find? (fun p=>p.1==i) with
 | none=>rw[hfind]at h2;exact absurd rfl h2
 | some p =>
  have hp:=List.mem_of_find?_eq_some hfind
  have hpi:=List.find?_some hfind
  have:(p.1,p.2.map Sp.c) ∈ (mP t f).map (fun r=>(r.node,r.kept)):=by
   rw[EB];exact List.mem_map.2 ⟨p,hp,rfl⟩
  obtain⟨r,hr,he⟩:=List.mem_map.1 this
  injection he with e1 e2
  exact⟨r,hr,by rw[e1];simpa using hpi⟩
end Go.Proofs.YtgpihfacmpbpaaaGreatDoor.Nl
namespace Go.Proofs.YtgpihfacmpbpaaaGreatDoor.Nl
open Go.RowKit Tr Nu
def pC (t:List Nd) (i:Nat):List Nat:=(List.range i).filter fun f=>bZ t f && decide ((i:Int)≤lL t f)
def UQ (t:List Nd) (i n:Nat):List Nat:=(List.range n).filter fun f=>bZ t f && decide ((i:Int)<lL t f)
def OS (t:List Nd) (i:Nat):List Nat:=UQ t i i
theorem aCZ (t:List Nd) (i:Nat):OS t i=(pC t i).filter fun f=>decide ((i:Int)<lL t f):=by
 unfold OS UQ pC
 rw[List.filter_filter]
 congr 1
 funext f
 cases bZ t f
 ·simp
 ·simp only[Bool.true_and]
  by_cases h:(i:Int)<lL t f
  ·rw[decide_eq_true h,decide_eq_true (by omega)];rfl
  ·rw[decide_eq_false h];rfl
theorem mA {t:List Nd} {f:Nat} (h:bZ t f=true):∃ x,t[f]?=some x∧aK x.kind=true∧lL t f=(f:Int)+x.size:=by
 unfold bZ at h
 unfold lL
 cases hx:t[f]? with
 | none=>rw[hx]at h;cases h
 | some x=>rw[hx]at h;exact⟨x,rfl,h,rfl⟩
theorem V6 (t:List Nd) (a:Nat):∀ n,eD t a n=match (UQ t a n).getLast? with | some f=>(f:Int) | none=>-1:=by
 intro n
 induction n with
 | zero=>rfl
 | succ n ih =>
  have e:UQ t a (n+1)=UQ t a n++(if bZ t n && decide ((a:Int)<lL t n) then [n] else []):=by
   unfold UQ
   rw[List.range_succ,List.filter_append]
   congr 1
   simp only[List.filter_cons,List.filter_nil]
  rw[e]
  unfold eD
  cases hx:t[n]? with
  | none =>
   have:bZ t n=false:=by unfold bZ;rw[hx]
   rw[this]
   simp only[Bool.false_and,Bool.false_eq_true,if_false,List.append_nil]
   exact ih
  | some x =>
   simp only[]
   have h1:bZ t n=aK x.kind:=by unfold bZ;rw[hx]
   have h2:lL t n=(n:Int)+x.size:=by unfold lL;rw[hx]
   rw[h1,h2]
   by_cases h:aK x.kind=true∧(a:Int)<(n:Int)+x.size
   ·rw[if_pos h,if_pos (by rw[h.1,decide_eq_true h.2];rfl),List.getLast?_concat]
   ·rw[if_neg h,if_neg,List.append_nil]
    ·exact ih
    ·intro h3
     rw[Bool.and_eq_true,decide_eq_true_eq]at h3
     exact h h3
theorem pL (t:List Nd) (i:Nat):bY t i=match (OS t i).getLast? with | some f=>(f:Int) | none=>-1:=V6 t i i
theorem MX {t:List Nd} {i f:Nat} (h:f ∈ pC t i):f<i∧bZ t f=true∧(i:Int)≤lL t f:=by
 unfold pC at h
 rw[List.mem_filter,List.mem_range,Bool.and_eq_true,decide_eq_true_eq]at h
 exact⟨h.1,h.2.1,h.2.2⟩
theorem aCG {t:List Nd} {i f:Nat} (h:f ∈ OS t i):f<i∧bZ t f=true∧(i:Int)<lL t f:=by
 unfold OS UQ at h
 rw[List.mem_filter,List.mem_range,Bool.and_eq_true,decide_eq_true_eq]at h
 exact⟨h.1,h.2.1,h.2.2⟩
theorem V7 (t:List Nd) (i:Nat):(pC t i).Pairwise (·<·):=List.Pairwise.filter _ List.pairwise_lt_range
theorem r4 {t:List Nd} (ht:lN t) {i:Nat}:pC t (i+1)=OS t i++(if bZ t i then [i] else []):=by
 unfold pC OS UQ
 rw[List.range_succ,List.filter_append]
 have e1:(List.range i).filter (fun f=>bZ t f && decide (((i+1:Nat):Int)≤lL t f))=(List.range i).filter (fun f=>bZ t f && decide ((i:Int)<lL t f)):=List.filter_congr (fun f _=>by
  rw[show decide (((i+1:Nat):Int)≤lL t f)=decide ((i:Int)<lL t f) from decide_eq_decide.2 (by omega)])
 have e2:[i].filter (fun f=>bZ t f && decide (((i+1:Nat):Int)≤lL t f))=if bZ t i then [i] else []:=by
  simp only[List.filter_cons,List.filter_nil]
  by_cases h:bZ t i=true
  ·obtain⟨x,hx,-,he⟩:=mA h
   obtain⟨-,-,z,hz,hz1,-⟩:=ht i x hx
   rw[h,he,decide_eq_true (by omega)];rfl
  ·have:bZ t i=false:=by simpa using h
   rw[this];rfl
 rw[e1,e2]
theorem aAB {F:List Nd} {L:List Lx.Lx} (h:Wf F L):∀ (a b:Nat) (x y:Nd),F[a]?=some x→F[b]?=some y→a<b→(b:Int)<(a:Int)+x.size→(b:Int)+y.size≤(a:Int)+x.size:=by
 induction h with
 | nil=>intro a b x y hx;simp at hx
 | @text F L s pl hF ih =>
  intro a b x y hx hy hab hin
  rcases oU hy with⟨h1,h2⟩ | ⟨h1,rfl⟩
  ·rw[List.getElem?_append_left (by omega)]at hx
   exact ih a b x y hx h2 hab hin
  ·rw[List.getElem?_append_left (by omega)]at hx
   have:=(sL hF a x hx).2.1
   omega
 | @node F G L M k pl hF hG hk ih1 ih2 =>
  intro a b x y hx hy hab hin
  rcases Nat.lt_or_ge b F.length with hb | hb
  ·rw[List.getElem?_append_left (by omega)]at hx
   rw[List.getElem?_append_left hb]at hy
   exact ih1 a b x y hx hy hab hin
  ·rcases Nat.lt_or_ge a F.length with ha | ha
   ·rw[List.getElem?_append_left ha]at hx
    have:=(sL hF a x hx).2.1
    omega
   ·rw[List.getElem?_append_right ha]at hx
    rw[List.getElem?_append_right hb]at hy
    obtain⟨b',hb'⟩:∃ b',b - F.length=b'+1:=⟨b - F.length - 1,by omega⟩
    rw[hb',List.getElem?_cons_succ]at hy
    have h5:=(sL hG b' y hy).2.1
    cases ha':a - F.length with
    | zero =>
     rw[ha']at hx
     simp at hx
     subst hx
     simp only[]at hin ⊢
     omega
    | succ a' =>
     rw[ha',List.getElem?_cons_succ]at hx
     have:=ih2 a' b' x y hx hy (by omega) (by omega)
     omega
theorem aC0 {t:List Nd} {L:List Lx.Lx} (hW:Wf t L) {i m:Nat} (hm:m≤(pC t i).length) (hd:∀ j f,m≤j→(pC t i)[j]?=some f→lL t f=(i:Int)) (hl:∀ f,0<m→(pC t i)[m - 1]?=some f→lL t f≠(i:Int)):OS t i=(pC t i).take m:=by
 rw[aCZ]
 conv=>lhs;rw[← List.take_append_drop m (pC t i)]
 rw[List.filter_append]
 have e1:((pC t i).take m).filter (fun f=>decide ((i:Int)<lL t f))=(pC t i).take m:=List.filter_eq_self.2 (fun f hf=>by
  obtain⟨j,hj⟩:=List.mem_iff_getElem?.1 hf
  have hjm:j<m:=by have:=(List.getElem?_eq_some_iff.1 hj).1;rw[List.length_take]at this;omega
  rw[List.getElem?_take_of_lt hjm]at hj
  obtain⟨g,hg⟩:∃ g,(pC t i)[m - 1]?=some g:=⟨_,List.getElem?_eq_getElem (by omega)⟩
  have hge:=hl g (by omega) hg
  obtain⟨g1,g2,g3⟩:=MX (List.mem_of_getElem? hg)
  obtain⟨f1,f2,f3⟩:=MX (List.mem_of_getElem? hj)
  rw[decide_eq_true_eq]
  rcases Nat.eq_or_lt_of_le (show j≤m - 1 by omega)with e | e
  ·subst e
   rw[hj]at hg;cases hg
   omega
  ·have hlt:f<g:=by
    have hr:=V7 t i
    rw[List.pairwise_iff_getElem]at hr
    obtain⟨a1,a2⟩:=List.getElem?_eq_some_iff.1 hj
    obtain⟨b1,b2⟩:=List.getElem?_eq_some_iff.1 hg
    have:=hr j (m - 1) a1 b1 e
    rw[a2,b2]at this;exact this
   obtain⟨x,hx,-,hxe⟩:=mA f2
   obtain⟨y,hy,-,hye⟩:=mA g2
   have:=aAB hW f g x y hx hy hlt (by omega)
   omega)
 have e2:((pC t i).drop m).filter (fun f=>decide ((i:Int)<lL t f))=[]:=by
  rw[List.filter_eq_nil_iff]
  intro f hf hlt
  obtain⟨j,hj⟩:=List.mem_iff_getElem?.1 hf
  rw[List.getElem?_drop]at hj
  have:=hd (m+j) f (by omega) hj
  rw[decide_eq_true_eq]at hlt
  omega
 rw[e1,e2,List.append_nil]
def oC (p:List Tr.Op):List Nat:=p.map (·.kind)
theorem aAC (t:List Nd) (p:List Tr.Op) (x:Lx.Lx) (h:x.kind=1):oC (aE (t,p) x).2=oC p:=by
 unfold aE oC
 simp only[]
 rw[if_pos h]
 split
 ·simp only[]
  split
  ·rw[a8 _ _ (gI x.text) (fun _=>rfl),a8 _ _ (aG 46) (fun _=>rfl)]
  ·rw[a8 _ _ (aG 46) (fun _=>rfl)]
 ·rfl
theorem O6 (t:List Nd) (p:List Tr.Op) (x:Lx.Lx) (h:x.kind=2):oC (aE (t,p) x).2=oC p++[x.name]:=by
 unfold aE oC
 simp only[]
 rw[if_neg (by omega),if_pos h]
 simp only[List.map_append,List.map_cons,List.map_nil]
 split
 ·rw[a8 _ _ cU (fun _=>rfl),a8 _ _ (aG x.name) (fun _=>rfl)]
 ·rw[a8 _ _ (aG x.name) (fun _=>rfl)]
theorem V8 (t:List Nd) (p:List Tr.Op) (x:Lx.Lx) (h1:x.kind≠1) (h2:x.kind≠2):oC (aE (t,p) x).2=(oC p).take (p.length - 1):=by
 unfold aE oC
 simp only[]
 rw[if_neg h1,if_neg h2]
 simp only[]
 rw[List.map_take]
 split
 ·rw[a8 _ _ (bW (aZ p).kids.size) (fun _=>rfl)]
 ·rfl
theorem aB2 {F:List Nd} {L:List Lx.Lx} (h:Wf F L):∀ st:List Nd × List Tr.Op,oC (L.foldl aE st).2=oC st.2:=by
 induction h with
 | nil=>intro st;rfl
 | text s pl _ ih =>
  intro st
  rw[List.foldl_append]
  show oC (aE _ (pB s)).2=_
  rw[← ih st]
  exact aAC _ _ _ rfl
 | @node F G L M k pl _ _ hk ih1 ih2 =>
  intro st
  rw[List.foldl_append,List.foldl_cons,List.foldl_append]
  have e1:=O6 (L.foldl aE st).1 (L.foldl aE st).2 (jJ k) rfl
  have e2:=ih2 (aE (L.foldl aE st) (jJ k))
  have e3:=V8 (M.foldl aE (aE (L.foldl aE st) (jJ k))).1 (M.foldl aE (aE (L.foldl aE st) (jJ k))).2 nB (by decide) (by decide)
  show oC (aE (M.foldl aE (aE (L.foldl aE st) (jJ k))) nB).2=_
  have hl:(M.foldl aE (aE (L.foldl aE st) (jJ k))).2.length=(oC st.2).length+1:=by
   have:(oC (M.foldl aE (aE (L.foldl aE st) (jJ k))).2).length=_:=congrArg List.length (e2.trans e1)
   rw[List.length_append,ih1 st]at this
   simpa[oC] using this
  rw[e3,e2,hl]
  show (oC (aE (L.foldl aE st) (jJ k)).2).take _=_
  rw[e1,ih1 st,Nat.add_sub_cancel,List.take_append_of_le_length (Nat.le_refl _),List.take_length]
def MY (p:List Tr.Op):Prop:=∃ k ∈ oC p,aK k=true
def MZ (p:List Tr.Op):Prop:=∀ (j k:Nat),(oC p)[j]?=some k→k=101∨k=115→∃ i:Nat,i<j∧∃ c,(oC p)[i]?=some c∧aK c=true
theorem aAD {p:List Tr.Op} (h:0<p.length):(oC p)[p.length - 1]?=some (aZ p).kind:=by
 obtain⟨l,a,rfl⟩:=pM h
 unfold oC aZ
 rw[List.map_append,List.length_append]
 simp
theorem RY:∀ k:Fin 256,cM k.val fB=true→aK k.val=true∨k.val=101∨k.val=115:=by decide +kernel
theorem J0 {p:List Tr.Op} (h0:0<p.length) (hk:∀ o ∈ p,o.kind<256) (hE:MZ p) (h:aJ p=true):MY p:=by
 have ht:=aAD h0
 have hm:=List.mem_of_getElem? ht
 have hlt:(aZ p).kind<256:=by
  obtain⟨o,ho,he⟩:=List.mem_map.1 hm
  rw[← he];exact hk o ho
 unfold aJ at h
 rw[Bool.or_eq_true,Bool.and_eq_true]at h
 rcases h with h | h
 ·rcases RY ⟨(aZ p).kind,hlt⟩ h with h1 | h1
  ·exact⟨_,hm,h1⟩
  ·obtain⟨i,-,c,hc,hf⟩:=hE _ _ ht h1
   exact⟨c,List.mem_of_getElem? hc,hf⟩
 ·refine⟨_,hm,?_⟩
  have h1:(aZ p).kind=105:=by simpa using h.1
  rw[h1];decide
theorem MZ.J1 {p q:List Tr.Op} (h:MZ p) (e:oC q=oC p):MZ q:=by unfold MZ;rw[e];exact h
theorem J2 {p q:List Tr.Op} (h:∀ o ∈ p,o.kind<256) (e:oC q=oC p):∀ o ∈ q,o.kind<256:=fun o ho=>by
 have:o.kind ∈ oC q:=List.mem_map.2 ⟨o,ho,rfl⟩
 rw[e]at this
 obtain⟨o',ho',he⟩:=List.mem_map.1 this
 rw[← he];exact h o' ho'
theorem V9 {p q:List Tr.Op} (e:oC q=oC p):q.length=p.length:=by
 have:=congrArg List.length e
 simpa[oC] using this
theorem MY.J1 {p q:List Tr.Op} (h:MY q) (e:oC q=oC p):MY p:=by unfold MY at *;rw[← e];exact h
theorem M0 {p:List Tr.Op} {k:Nat} (hk:k=101∨k=115) (h:eH p k=true):aJ p=true:=by
 cases ht:aJ p
 ·exfalso
  unfold eH at h
  simp only[]at h
  split at h
  ·rcases hk with rfl | rfl<;>exact absurd h (by decide)
  ·split at h
   ·rename_i h2;omega
   ·split at h
    ·rw[decide_eq_true_eq]at h;omega
    ·rw[if_pos (.inl ht)]at h;cases h
 ·rfl
theorem aAE {F:List Nd} {L:List Lx.Lx} (h:Wf F L):∀ st:List Nd × List Tr.Op,(∀ x ∈ F,x.kind<256)→zW st L→0<st.2.length→(∀ o ∈ st.2,o.kind<256)→MZ st.2→∀ (i:Nat) (x:Nd),F[i]?=some x→x.kind=46 →
  (∃ f y,f<i∧F[f]?=some y∧aK y.kind=true∧(i:Int)<(f:Int)+y.size)∨MY st.2:=by
 induction h with
 | nil=>intro st _ _ _ _ _ i x hx;simp at hx
 | @text F L s pl hF ih =>
  intro st hk8 hok h0 hk hE i x hx hxk
  rw[BQ]at hok
  rcases oU hx with⟨h1,h2⟩ | ⟨h1,rfl⟩
  ·rcases ih st (fun x hx=>hk8 x (List.mem_append_left _ hx)) hok.1 h0 hk hE i x h2 hxk with⟨f,y,a,b,c⟩ | h3
   ·exact .inl ⟨f,y,a,by rw[List.getElem?_append_left (by omega)];exact b,c⟩
   ·exact .inr h3
  ·have e:=aB2 hF st
   have ht:aJ (L.foldl aE st).2=true:=by
    have:=hok.2.1
    cases htt:aJ (L.foldl aE st).2
    ·exact absurd ⟨rfl,htt⟩ this
    ·rfl
   exact .inr ((J0 (by rw[V9 e];exact h0) (J2 hk e) (hE.J1 e) ht).J1 e)
 | @node F G L M k pl hF hG hk46 ih1 ih2 =>
  intro st hk8 hok h0 hk hE i x hx hxk
  rw[uZ]at hok
  obtain⟨hok1,-,herr,hok2⟩:=hok
  rw[uZ]at hok2
  rcases Nat.lt_or_ge i F.length with hi | hi
  ·rw[List.getElem?_append_left hi]at hx
   rcases ih1 st (fun x hx=>hk8 x (List.mem_append_left _ hx)) hok1 h0 hk hE i x hx hxk with⟨f,y,a,b,c⟩ | h3
   ·exact .inl ⟨f,y,a,by rw[List.getElem?_append_left (by omega)];exact b,c⟩
   ·exact .inr h3
  ·rw[List.getElem?_append_right hi]at hx
   cases hj:i - F.length with
   | zero =>
    rw[hj]at hx
    simp at hx
    subst hx
    exact absurd hxk hk46
   | succ j =>
    rw[hj,List.getElem?_cons_succ]at hx
    have e:=aB2 hF st
    have e1:=O6 (L.foldl aE st).1 (L.foldl aE st).2 (jJ k) rfl
    have e2:oC (aE (L.foldl aE st) (jJ k)).2=oC st.2++[k]:=by
     rw[← e];exact e1
    have hkk:k<256:=hk8 ⟨k,aA,pl,(G.length:Int)+1⟩ (by simp)
    have hlen:(aE (L.foldl aE st) (jJ k)).2.length=st.2.length+1:=by
     have:=congrArg List.length e2
     simpa[oC] using this
    have hop:eH (L.foldl aE st).2 k=true:=by
     cases ho:eH (L.foldl aE st).2 k
     ·exfalso
      have h9:(if eH (L.foldl aE st).2 k=false then ((jJ k).place,2) else if 32<(L.foldl aE st).2.length∨(k=108∧8≤bG (L.foldl aE st).2 108) then ((jJ k).place,5) else if 2000≤(L.foldl aE st).1.length then ((jJ k).place,4) else (0,0)).2=0:=herr
      rw[if_pos ho]at h9;cases h9
     ·rfl
    have hE2:MZ (aE (L.foldl aE st) (jJ k)).2:=by
     intro j c hc hes
     rw[e2]at hc ⊢
     rcases Nat.lt_or_ge j (oC st.2).length with hjl | hjl
     ·rw[List.getElem?_append_left hjl]at hc
      obtain⟨i',hi',d,hd,hdf⟩:=hE j c hc hes
      exact⟨i',hi',d,by rw[List.getElem?_append_left (by omega)];exact hd,hdf⟩
     ·rw[List.getElem?_append_right hjl]at hc
      have hj0:j - (oC st.2).length=0:=by
       rcases Nat.eq_zero_or_pos (j - (oC st.2).length)with h | h
       ·exact h
       ·rw[List.getElem?_eq_none (by simp;omega)]at hc;cases hc
      rw[hj0]at hc
      simp at hc
      subst hc
      -- emphasis opens where a text may stand
      have htx:aJ (L.foldl aE st).2=true:=M0 hes hop
      obtain⟨c,hc,hcf⟩:=(J0 (by rw[V9 e];exact h0) (J2 hk e) (hE.J1 e) htx).J1 e
      obtain⟨i',hi'⟩:=List.mem_iff_getElem?.1 hc
      have hl':=(List.getElem?_eq_some_iff.1 hi').1
      exact⟨i',by omega,c,by rw[List.getElem?_append_left hl'];exact hi',hcf⟩
    rcases ih2 (aE (L.foldl aE st) (jJ k)) (fun x hx=>hk8 x (by simp[hx])) hok2.1 (by omega) (fun o ho=>by
      have:o.kind ∈ oC (aE (L.foldl aE st) (jJ k)).2:=List.mem_map.2 ⟨o,ho,rfl⟩
      rw[e2]at this
      rcases List.mem_append.1 this with h | h
      ·obtain⟨o',ho',he⟩:=List.mem_map.1 h
       rw[← he];exact hk o' ho'
      ·rw[List.mem_singleton]at h;omega) hE2 j x hx hxk with⟨f,y,a,b,c,d⟩ | ⟨c,hc,hcf⟩
    ·refine .inl ⟨F.length+1+f,y,by omega,?_,c,by omega⟩
     rw[List.getElem?_append_right (by omega),show F.length+1+f - F.length=f+1 by omega,List.getElem?_cons_succ];exact b
    ·rw[e2]at hc
     rcases List.mem_append.1 hc with h | h
     ·exact .inr ⟨c,h,hcf⟩
     ·rw[List.mem_singleton]at h
      subst h
      have hjl:=(List.getElem?_eq_some_iff.1 hx).1
      refine .inl ⟨F.length,_,by omega,by rw[List.getElem?_append_right (Nat.le_refl _),Nat.sub_self];rfl,hcf,?_⟩
      simp only[]
      omega
theorem wU {t:List Nd} (hc:aL t=0) (hk:∀ x ∈ t,x.kind<256) {i:Nat} {x:Nd} (hx:t[i]?=some x) (hxk:x.kind=46):∃ f:Nat,bY t i=(f:Int):=by
 obtain⟨h1,L,h2,h3⟩:=(gX t).1 hc
 obtain⟨L',hW,h4⟩:=gT hc
 rw[h2]at h4
 cases h4
 have hroot:¬ MY [root]:=by
  rintro⟨k,hk,hf⟩
  unfold oC at hk
  simp at hk
  subst hk
  exact absurd hf (by decide)
 rcases aAE hW ([],[root]) hk h3 (by decide) (by simp[root]) (fun j k hj hes=>by
  have hk:k ∈ oC [root]:=List.mem_of_getElem? hj
  unfold oC at hk
  simp at hk
  subst hk
  rcases hes with h | h<;>cases h) i x hx hxk with⟨f,y,a,b,c,d⟩ | h
 ·have hf:f ∈ OS t i:=by
   unfold OS UQ
   rw[List.mem_filter,List.mem_range,Bool.and_eq_true,decide_eq_true_eq]
   refine⟨a,?_,?_⟩
   ·unfold bZ;rw[b];exact c
   ·unfold lL;rw[b];exact d
  rw[pL]
  cases hl:(OS t i).getLast? with
  | none=>rw[List.getLast?_eq_none_iff]at hl;rw[hl]at hf;cases hf
  | some g=>exact⟨g,rfl⟩
 ·exact absurd h hroot
end Go.Proofs.YtgpihfacmpbpaaaGreatDoor.Nl
namespace Go.Proofs.YtgpihfacmpbpaaaGreatDoor.Nl
open Go.RowKit Tr Nu Go.Maps
def pR (v:Value):Option (DataW Unit × List MemPlace):=match v with
 | .pointer none=>some (.nil,[])
 | .pointer (some ⟨P,0,none⟩)=>some (.lit (.int .i64 (P:Int)),[])
 | _=>none
theorem WA {v:Value} {P:Nat} {ps:List MemPlace} (h:pR v=some (.lit (.int .i64 (P:Int)),ps)):v=.pointer (some ⟨P,0,none⟩):=by
 unfold pR at h
 split at h
 ·cases h
 ·simp only[Option.some.injEq,Prod.mk.injEq,DataW.lit.injEq,Lit.int.injEq,true_and]at h
  have:(_:Nat)=P:=Int.ofNat.inj h.1
  rw[this]
 ·cases h
theorem WB:Keyed Tryz.prog 3:=int_keyed Tryz.underlying3
theorem wfI {i:Nat} (hi:i≤100000):(Lit.int .i64 (i:Int)).wf=true:=WalkArith.wf_i64 (by omega)
theorem aC1 {i:Nat} (hi:i≤100000):keyOf Tryz.prog 3 (.int .i64 (i:Int))=some (.int .i64 (i:Int)):=keyOf_int_mk Tryz.underlying3 (wfI hi)
theorem O7 {i j:Nat} (h:i≠j):(Lit.int .i64 (i:Int))≠.int .i64 (j:Int):=fun e=>by
 injection e with _ e
 exact h (Int.ofNat.inj e)
def pZ (w:World) (M n:Nat) (f:Nat→Option Nat):Prop :=
 ∃ D:DataW Unit,w.ownsMap Tryz.prog 3 pR M n D∧(∀ i P,f i=some P→i≤100000∧∀ z,D.atKey (.int .i64 (i:Int)) z=.lit (.int .i64 (P:Int)))∧∀ kl,Maps.has D kl=true→∃ i P,kl=.int .i64 ((i:Nat):Int)∧f i=some P
theorem pZ.aX {w w':World} {M n:Nat} {f:Nat→Option Nat} (h:pZ w M n f) (hb:w'.heap[M]?=w.heap[M]?):pZ w' M n f:=by
 obtain⟨D,⟨es,clock,h1,h2⟩,h3⟩:=h
 exact⟨D,⟨es,clock,hb.trans h1,h2⟩,h3⟩
theorem pZ.congr {w:World} {M n n':Nat} {f g:Nat→Option Nat} (h:pZ w M n f) (hn:n≤n') (hf:∀ j,f j=g j):pZ w M n' g:=by
 obtain rfl:f=g:=funext hf
 obtain⟨D,h1,h2⟩:=h
 exact⟨D,h1.mono hn,h2⟩
theorem pZ.lt {w:World} {M n:Nat} {f:Nat→Option Nat} (h:pZ w M n f):M<w.heap.size:=by
 obtain⟨D,h1,_⟩:=h
 exact h1.lt
theorem pZ.new (w:World):pZ (w.alloc (.map #[] 0)) w.heap.size 0 fun _=>none :=
 ⟨_,World.ownsMap_made w _ _ _,(fun i P h=>by cases h),fun kl h=>by cases h⟩
theorem aD7 (w:World):(zeroValue 119).run Tryz.prog w=.ok (.pointer none) w:=by kernel_rfl
theorem pZ.look {w:World} {M n:Nat} {f:Nat→Option Nat} (h:pZ w M n f) {i P:Nat} (hi:f i=some P) :
  (Instr.lookup 117 (.map (some M)) (.int .i64 (i:Int)) false).run Tryz.prog w=.ok (.pointer (some ⟨P,0,none⟩)) w:=by
 obtain⟨D,h1,h2,-⟩:=h
 obtain⟨h4,h5⟩:=h2 i P hi
 obtain⟨v,ps,hr,hv⟩:=h1.lookup WB Tryz.underlying117 (aD7 w) (zd:=.nil) (zp:=[]) rfl (aC1 h4)
 rw[h5]at hv
 rw[WA hv]at hr
 exact hr
theorem pZ.put {w:World} {M n:Nat} {f:Nat→Option Nat} (h:pZ w M n f) (hn:n<100000) {i P:Nat} (hi:i≤100000) :
  ∃ w',(Instr.mapUpdate 117 (.map (some M)) (.int .i64 (i:Int)) (.pointer (some ⟨P,0,none⟩))).run Tryz.prog w=.ok () w'∧pZ w' M (n+1) (fun j=>if j=i then some P else f j)∧w.grownBy w' (some M):=by
 obtain⟨D,h1,h2,h3⟩:=h
 obtain⟨w',e1,e2,e3⟩:=h1.update WB Tryz.underlying117 (by unfold maxLen;omega) (aC1 hi) (val:=.pointer (some ⟨P,0,none⟩)) (d:=.lit (.int .i64 (P:Int))) (ps:=[]) rfl
 refine⟨w',e1,⟨_,e2,fun j Q hj=>?_,fun kl hkl=>?_⟩,e3⟩
 ·by_cases hji:j=i
  ·subst hji
   simp only[if_true,Option.some.injEq]at hj
   subst hj
   exact⟨hi,fun z=>Maps.atKey_put_same h1.isMap (WB.key (aC1 hi)) _ _⟩
  ·simp only[if_neg hji]at hj
   obtain⟨a,b⟩:=h2 j Q hj
   exact⟨a,fun z=>by rw[Maps.atKey_put_other (O7 hji)];exact b z⟩
 ·by_cases hk:kl=.int .i64 (i:Int)
  ·exact⟨i,P,hk,by simp⟩
  ·rw[Maps.has_put_other hk]at hkl
   obtain⟨j,Q,rfl,hf⟩:=h3 kl hkl
   refine⟨j,Q,rfl,?_⟩
   show (if j=i then some P else f j)=some Q
   rw[if_neg (fun e=>hk (by rw[e]))];exact hf
end Go.Proofs.YtgpihfacmpbpaaaGreatDoor.Nl
namespace Go.Proofs.YtgpihfacmpbpaaaGreatDoor.Nl
open Go.RowKit Tr Nu
def r5 (l:List Nat):List Value:=l.map fun(f:Nat)=>.int .i64 (f:Int)
theorem BR (l:List Nat) (f:Nat):r5 (l++[f])=r5 l++[.int .i64 (f:Int)]:=by simp[r5]
structure fF (w wr:World) (M:Nat) (t:List Nd) (i:Nat) (ar:List Nat) (P:Nat→Nat) (S:Nat→List Nat) (v:Value):Prop where
 map:pZ wr M i (fun f=>if bZ t f=true∧f<i then some (P f) else none)
 flow:∀ f,f<i→bZ t f=true→∃ R,dK wr w.heap.size (S f) (P f) R (jG t f i)∧R.map Prod.fst=lM t f i
 apart:∀ f g,f<i→g<i→bZ t f=true→bZ t g=true→f≠g→∀ s ∈ S f,s ∉ S g
 qY:∀ f,f<i→bZ t f=true→M ∉ S f
 row:wr.ownsRow w.heap.size 3 1 v ar.length (r5 ar)
 r6:∀ g,v.ownBlock=some g→g≠M∧∀ f,f<i→bZ t f=true→g ∉ S f
 below:Below w.heap.size w wr
 YU:w.heap.size≤M
section
variable {w wr wx:World} {M:Nat} {t:List Nd} {i:Nat} {ar:List Nat} {P:Nat→Nat} {S:Nat→List Nat} {v:Value}
theorem fF.on (h:fF w wr M t i ar P S v) (hb:Below wr.heap.size wr wx):fF w wx M t i ar P S v where
 map:=h.map.aX (hb.block M h.map.lt)
 flow f hf hfl:=by
  obtain⟨R,h1,h2⟩:=h.flow f hf hfl
  exact⟨R,h1.below hb,h2⟩
 apart:=h.apart
 qY:=h.qY
 row:=dY h.row (fun g hg=>hb.block g (cP h.row hg).2)
 r6:=h.r6
 below:=h.below.trans (hb.mono h.below.size)
 YU:=h.YU
theorem fF.take {A:Option Addr} {cap q:Nat} (h:fF w wr M t i ar P S (.slice A q cap)) (hq:ar.length=q) (hA:∀ a,A=some a→a.off=0∧a.spot=none) {m:Nat} (hm:m≤q):fF w wr M t i (ar.take m) P S (.slice A m cap) where
 map:=h.map
 flow:=h.flow
 apart:=h.apart
 qY:=h.qY
 row:=by
  have hrow:=h.row
  rw[hq]at hrow
  have hl:(ar.take m).length=m:=by rw[List.length_take];omega
  rw[hl]
  cases A with
  | none =>
   rcases hrow.2 with⟨hv,h0⟩ | ⟨g,c,cur,hv,-⟩
   ·have hm0:m=0:=by omega
    subst hm0
    simp only[Value.slice.injEq,true_and]at hv
    rw[hv.2,List.take_zero]
    exact World.ownsRow_nil _ _ _ _
   ·cases hv
  | some a =>
   obtain⟨g,o,sp⟩:=a
   obtain⟨rfl,rfl⟩:=hA _ rfl
   have:=Ba.oD (n:=1) hrow hm
   rw[Nat.mul_one]at this
   rw[show r5 (ar.take m)=(r5 ar).take m by unfold r5;rw[List.map_take]]
   exact this
 r6 g hg:=h.r6 g (by cases A<;>exact hg)
 below:=h.below
 YU:=h.YU
theorem fF.told (h:fF w wr M t i ar P S v) {x:Nd} (hx:t[i]?=some x) (hk:x.kind=46) {f:Nat} (hf:bY t i=(f:Int)) {R:List (Rs × Value)} (hF:dK wr w.heap.size (S f) (P f) R (jG t f i)) (hR:R.map Prod.fst=lM t f i)
  {e:Ending} (ht:BN wr w.heap.size (S f) (P f) R (tO i x (jG t f i)) (kR i x (jG t f i) x.text.size) e wx):e=.returned (.tuple #[])∧∃ S',fF w wx M t (i+1) ar P S' v:=by
 obtain⟨rfl,S',R',h1,h2,h3,h4⟩:=ht
 obtain⟨hfi,y,hy,hyf,-⟩:=eT hf
 have hfl:bZ t f=true:=by unfold bZ;rw[hy];exact hyf
 have hni:bZ t i=false:=by
  unfold bZ
  rw[hx]
  show aK x.kind=false
  rw[hk];decide
 have hlt:∀ g,g<i+1→bZ t g=true→g<i:=fun g hg hgl=>by
  rcases Nat.eq_or_lt_of_le (Nat.le_of_lt_succ hg)with e | e
  ·rw[e,hni]at hgl;cases hgl
  ·exact e
 obtain⟨t1,t2⟩:=D9 hx hk hf
 have hMs:M<wr.heap.size:=h.map.lt
 have hold:∀ g,g<i→bZ t g=true→∀ s ∈ S g,s<wr.heap.size:=fun g hg hgl s hs=>by
  obtain⟨R,hR,-⟩:=h.flow g hg hgl
  exact(hR.lt s hs).2
 refine⟨rfl,fun g=>if g=f then S' else S g,?_⟩
 have new:∀ g,g<i→bZ t g=true→g≠f→∀ s ∈ S',s ∉ S g:=fun g hg hgl hne s hs hs2=>by
  rcases h2 s hs with h5 | h5
  ·exact h.apart f g hfi hg hfl hgl (Ne.symm hne) s h5 hs2
  ·have:=hold g hg hgl s hs2;omega
 constructor
 ·have:=h.map.aX (w':=wx) (h3.block M hMs (h.qY f hfi hfl))
  refine this.congr (Nat.le_succ i) (fun j=>?_)
  by_cases hc:bZ t j=true∧j<i
  ·rw[if_pos hc,if_pos ⟨hc.1,by omega⟩]
  ·rw[if_neg hc,if_neg (fun hc2=>hc ⟨hc2.1,hlt j hc2.2 hc2.1⟩)]
 ·intro g hg hgl
  have hgi:=hlt g hg hgl
  by_cases hgf:g=f
  ·subst hgf
   refine⟨R',?_,?_⟩
   ·simp only[if_true]
    rw[t2];exact h1
   ·rw[h4,hR,t1]
  ·obtain⟨Rg,g1,g2⟩:=h.flow g hgi hgl
   obtain⟨t3,t4⟩:=oT (t:=t) (f:=g) (i:=i) (fun y hy hyk=>hgf (by have:=hyk.2;rw[hf]at this;omega))
   refine⟨Rg,?_,by rw[t3];exact g2⟩
   simp only[if_neg hgf]
   rw[t4]
   exact g1.off h3 (fun s hs hs2=>h.apart g f hgi hfi hgl hfl hgf s hs hs2)
 ·intro g g' hg hg' hgl hgl' hne s hs
  have hgi:=hlt g hg hgl
  have hgi':=hlt g' hg' hgl'
  by_cases e1:g=f
  ·subst e1
   simp only[if_true]at hs
   simp only[if_neg (Ne.symm hne)]
   exact new g' hgi' hgl' (Ne.symm hne) s hs
  ·simp only[if_neg e1]at hs
   by_cases e2:g'=f
   ·subst e2
    simp only[if_true]
    exact fun hs2=>new g hgi hgl hne s hs2 hs
   ·simp only[if_neg e2]
    exact h.apart g g' hgi hgi' hgl hgl' hne s hs
 ·intro g hg hgl
  have hgi:=hlt g hg hgl
  by_cases e1:g=f
  ·simp only[if_pos e1]
   intro hs
   rcases h2 M hs with h5 | h5
   ·exact h.qY f hfi hfl h5
   ·omega
  ·simp only[if_neg e1];exact h.qY g hgi hgl
 ·exact dY h.row (fun g hg=>h3.block g (cP h.row hg).2 ((h.r6 g hg).2 f hfi hfl))
 ·intro g hg
  refine⟨(h.r6 g hg).1,fun g' hg' hgl'=>?_⟩
  have hgi:=hlt g' hg' hgl'
  by_cases e1:g'=f
  ·simp only[if_pos e1]
   intro hs
   rcases h2 g hs with h5 | h5
   ·exact(h.r6 g hg).2 f hfi hfl h5
   ·have:=(cP h.row hg).2;omega
  ·simp only[if_neg e1];exact(h.r6 g hg).2 g' hgi hgl'
 ·exact h.below.trans (h3.below (fun s hs=>(hF.lt s hs).1) h.below.size)
 ·exact h.YU
theorem fF.skip (h:fF w wr M t i ar P S v) {x:Nd} (hx:t[i]?=some x) (hk:x.kind≠46) (hf:aK x.kind=false):fF w wr M t (i+1) ar P S v:=by
 have hni:bZ t i=false:=by unfold bZ;rw[hx];exact hf
 have hlt:∀ g,g<i+1→bZ t g=true→g<i:=fun g hg hgl=>by
  rcases Nat.eq_or_lt_of_le (Nat.le_of_lt_succ hg)with e | e
  ·rw[e,hni]at hgl;cases hgl
  ·exact e
 constructor
 ·refine h.map.congr (Nat.le_succ i) (fun j=>?_)
  by_cases hc:bZ t j=true∧j<i
  ·rw[if_pos hc,if_pos ⟨hc.1,by omega⟩]
  ·rw[if_neg hc,if_neg (fun hc2=>hc ⟨hc2.1,hlt j hc2.2 hc2.1⟩)]
 ·intro g hg hgl
  obtain⟨Rg,g1,g2⟩:=h.flow g (hlt g hg hgl) hgl
  obtain⟨t3,t4⟩:=oT (t:=t) (f:=g) (i:=i) (fun y hy hyk=>by rw[hx]at hy;cases hy;exact hk hyk.1)
  exact⟨Rg,by rw[t4];exact g1,by rw[t3];exact g2⟩
 ·exact fun f g hf hg hfl hgl=>h.apart f g (hlt f hf hfl) (hlt g hg hgl) hfl hgl
 ·exact fun f hf hfl=>h.qY f (hlt f hf hfl) hfl
 ·exact h.row
 ·exact fun g hg=>⟨(h.r6 g hg).1,fun f hf hfl=>(h.r6 g hg).2 f (hlt f hf hfl) hfl⟩
 ·exact h.below
 ·exact h.YU
theorem fF.more (h:fF w wr M t i ar P S v) {x:Nd} (hx:t[i]?=some x) (hf:aK x.kind=true) {w6 w7 w8:World} {P':Nat} {S':List Nat} (h6:dK w6 wr.heap.size S' P' [] 32) (hb6:Below wr.heap.size wr w6)
  (hm7:pZ w7 M (i+1) (fun j=>if j=i then some P' else (if bZ t j=true∧j<i then some (P j) else none))) (hg7:w6.grownBy w7 (some M)) {o:Obj} {gg cap:Nat} (hg8:(w7.alloc o).grownBy w8 v.ownBlock) (hat:v.ownBlock=some gg∨gg=w7.heap.size+1) (h8:w8.ownsRow w.heap.size 3 1 (.slice (some ⟨gg,0,none⟩) (ar.length+1) cap) (ar.length+1) (r5 (ar++[i]))) :
  fF w w8 M t (i+1) (ar++[i]) (fun j=>if j=i then P' else P j) (fun j=>if j=i then S' else S j) (.slice (some ⟨gg,0,none⟩) (ar.length+1) cap):=by
 have hfl:bZ t i=true:=by unfold bZ;rw[hx];exact hf
 have hMs:M<wr.heap.size:=h.map.lt
 have s6:=hb6.size
 have s7:w6.heap.size≤w7.heap.size:=hg7.size
 have s8:w7.heap.size+1≤w8.heap.size:=by have:=hg8.size;simpa using this
 have hvr:∀ g,v.ownBlock=some g→g<wr.heap.size:=fun g hg=>(cP h.row hg).2
 -- what lies as it did, from w6 on
 have vM:∀ b,b<w6.heap.size→b≠M→v.ownBlock≠some b→w8.heap[b]?=w6.heap[b]?:=fun b hb hM hv =>
  ((hg8.block b (by simp;omega) (Ne.symm hv)).trans (Below.heap_alloc w7 o b (by omega))).trans (hg7.block b hb (by simpa using hM))
 have hold:∀ g,g<i→bZ t g=true→∀ s ∈ S g,s<wr.heap.size:=fun g hg hgl s hs=>by
  obtain⟨R,hR,-⟩:=h.flow g hg hgl
  exact(hR.lt s hs).2
 have hlt:∀ g,g<i+1→g≠i→g<i:=fun g hg hne=>by omega
 constructor
 ·have:pZ w8 M (i+1) (fun j=>if j=i then some P' else (if bZ t j=true∧j<i then some (P j) else none)):=hm7.aX ((hg8.block M (by simp;have:=hm7.lt;omega) (fun e=>(h.r6 M e.symm).1 rfl)).trans (Below.heap_alloc w7 o M hm7.lt))
  have hfun:(fun j=>if j=i then some P' else (if bZ t j=true∧j<i then some (P j) else none))=(fun f=>if bZ t f=true∧f<i+1 then some (if f=i then P' else P f) else none):=by
   funext j
   by_cases e:j=i
   ·subst e
    rw[if_pos rfl,if_pos ⟨hfl,Nat.lt_succ_self _⟩,if_pos rfl]
   ·rw[if_neg e,if_neg e]
    by_cases hc:bZ t j=true∧j<i
    ·rw[if_pos hc,if_pos ⟨hc.1,by omega⟩]
    ·rw[if_neg hc,if_neg (fun hc2=>hc ⟨hc2.1,by omega⟩)]
  rw[← hfun]
  exact this
 ·intro g hg hgl
  by_cases e:g=i
  ·subst e
   obtain⟨n1,n2⟩:=told_none (t:=t) (f:=g) (g+1) (Nat.le_refl _)
   refine⟨[],?_,by rw[n1];rfl⟩
   simp only[if_true]
   rw[n2]
   have h9:dK w8 wr.heap.size S' P' [] 32:=h6.of (by omega) (fun s hs=>vM s (h6.lt s hs).2 (fun e=>by have:=(h6.lt s hs).1;omega) (fun e=>by have:=(h6.lt s hs).1;have:=hvr s e;omega))
   exact h9.base h.below.size
  ·have hgi:=hlt g hg e
   obtain⟨Rg,g1,g2⟩:=h.flow g hgi hgl
   obtain⟨t3,t4⟩:=oT (t:=t) (f:=g) (i:=i) (fun y hy hyk=>by
    rw[hx]at hy;cases hy
    have h9:=hyk.1
    rw[h9]at hf
    exact absurd hf (by decide))
   refine⟨Rg,?_,by rw[t3];exact g2⟩
   simp only[if_neg e]
   rw[t4]
   exact(g1.below hb6).of (by omega) (fun s hs=>vM s (by have:=(g1.lt s hs).2;omega) (fun e=>h.qY g hgi hgl (e▸hs)) (fun e=>(h.r6 s e).2 g hgi hgl hs))
 ·intro g g' hg hg' hgl hgl' hne s hs
  by_cases e1:g=i
  ·subst e1
   simp only[if_true]at hs
   simp only[if_neg (Ne.symm hne)]
   intro hs2
   have:=hold g' (hlt g' hg' (Ne.symm hne)) hgl' s hs2
   have:=(h6.lt s hs).1
   omega
  ·simp only[if_neg e1]at hs
   by_cases e2:g'=i
   ·subst e2
    simp only[if_true]
    intro hs2
    have:=hold g (hlt g hg hne) hgl s hs
    have:=(h6.lt s hs2).1
    omega
   ·simp only[if_neg e2]
    exact h.apart g g' (hlt g hg e1) (hlt g' hg' e2) hgl hgl' hne s hs
 ·intro g hg hgl
  by_cases e1:g=i
  ·simp only[if_pos e1]
   intro hs
   have:=(h6.lt M hs).1;omega
  ·simp only[if_neg e1];exact h.qY g (hlt g hg e1) hgl
 ·rw[show (ar++[i]).length=ar.length+1 by simp];exact h8
 ·intro g hg
  have hg:g=gg:=by
   have:some gg=some g:=hg
   injection this with this;exact this.symm
  subst hg
  refine⟨fun e=>?_,fun g' hg' hgl'=>?_⟩
  ·rcases hat with h9 | h9
   ·exact(h.r6 _ h9).1 e
   ·omega
  ·by_cases e1:g'=i
   ·simp only[if_pos e1]
    intro hs
    have:=h6.lt g hs
    rcases hat with h9 | h9
    ·have:=hvr g h9;omega
    ·omega
   ·simp only[if_neg e1]
    intro hs
    rcases hat with h9 | h9
    ·exact(h.r6 _ h9).2 g' (hlt g' hg' e1) hgl' hs
    ·have:=hold g' (hlt g' hg' e1) hgl' g hs;omega
 ·have b7:Below w.heap.size w6 w7:=⟨hg7.os,hg7.tape,hg7.output,hg7.size,fun b hb=>hg7.block b (by have:=h.below.size;omega) (fun e=>by have:=h.YU;injection e with e;omega)⟩
  have b8:Below w.heap.size w7 w8:=⟨hg8.os,hg8.tape,hg8.output,by omega,fun b hb=>(hg8.block b (by have:=h.below.size;simp;omega) (fun e=>by have:=(cP h.row e.symm).1;omega)).trans (Below.heap_alloc w7 o b (by have:=h.below.size;omega))⟩
  exact((h.below.trans (hb6.mono h.below.size)).trans b7).trans b8
 ·exact h.YU
end
end Go.Proofs.YtgpihfacmpbpaaaGreatDoor.Nl
namespace Go.Proofs.YtgpihfacmpbpaaaGreatDoor.Nl
open Go.RowKit Tr Nu
def pO:ByteArray:={ data:=#[49,50,51,112,105,99,110] }
theorem aC2:∀ k:Fin 256,decide (0≤Lib.indexByte pO.data.toList ((k.val:Nat):Int).toNat.toUInt8)=aK k.val:=by decide +kernel
theorem JH {k:Nat} (hk:k<256):decide (0≤Lib.indexByte pO.data.toList ((k:Nat):Int).toNat.toUInt8)=aK k:=aC2 ⟨k,hk⟩
theorem nM (k:Nat) (ix:Int) (h:Lib.indexByte pO.data.toList ((k:Nat):Int).toNat.toUInt8=ix) (w:World) :
  Calls Tryz.prog 61 #[.string { data:=#[49,50,51,112,105,99,110] },.int .u8 (k:Int)] w fun e w'=>e=.returned (.int .i64 ix)∧w=w' :=
 (Tryz.strings_IndexByte pO (k:Int) w).mono fun e w' he=>⟨by rw[he.1,h],he.2.symm⟩
theorem aC3 (f:Nat) (h:(-1:Int)=(f:Int)):False:=by omega
theorem aAF:(Tryz.prog.info? 3).map (fun i=>(i.zero,i.size,i.bytes))=some (some (.int .i64 0),1,8):=by kernel_rfl
theorem fF.start (w:World) (t:List Nd):fF w (w.alloc (.map #[] 0)) w.heap.size t 0 (pC t 0) (fun _=>0) (fun _=>[]) (.slice none 0 0) where
 map:=(pZ.new w).congr (Nat.le_refl _) (fun j=>by rw[if_neg (fun h=>by omega)])
 flow f hf:=by omega
 apart f g hf:=by omega
 qY f hf:=by omega
 row:=World.ownsRow_nil _ _ _ _
 r6 g hg:=by cases hg
 below:=(Below.refl _ w).alloc (Nat.le_refl _) _
 YU:=Nat.le_refl _
def O8 (w:World) (t:List Nd) (e:Ending) (w':World):Prop:=∃ M P S ar v,e=.returned (.map (some M))∧fF w w' M t t.length ar P S v
def FlR (w:World) (M:Nat) (t:List Nd) (u4 u10:Value) (wr:World):Prop:=∃ (i:Nat) (P:Nat→Nat) (S:Nat→List Nat),u10=.int .i64 (i:Int)∧i≤t.length∧fF w wr M t i (pC t i) P S u4
theorem WC {w:World} {B e size n:Nat} {A:Option Addr} {c:Nat} {xs:List Value} (h:w.ownsRow B e size (.slice A n c) n xs):∀ a,A=some a→a.off=0∧a.spot=none:=by
 intro a ha
 rcases h.2 with⟨hv,_⟩ | ⟨g,cap,cur,hv,_⟩
 ·simp only[Value.slice.injEq]at hv
  rw[hv.1]at ha;cases ha
 ·simp only[Value.slice.injEq]at hv
  rw[hv.1]at ha;cases ha
  exact⟨rfl,rfl⟩
set_option maxRecDepth 100000 in
set_option maxHeartbeats 8000000 in
theorem M3 (v0:Value) (t:List Nd) (off:Nat) (ht:t.length≤9000) (hs:lN t) (hc:aL t=0) (_hp:∀ x ∈ t,-9223372036854775808≤x.place∧x.place≤9223372036854775807) (w:World) (hL:Ka.Laid w) (hv:aS off w w.heap.size v0 t) :
  Calls Tryz.prog 73 #[v0] w (O8 w t):=by
 obtain⟨i0,hi0,hz0,hz1,hz2⟩:=info_parts aAF
 obtain⟨L,hW,-⟩:=gT hc
 have HW:=Lib.hid hW
 have HS:=Lib.hid hs
 have HV:=Lib.hid hv
 have HTF:=Lib.hid (fun i x (hx:t[i]?=some x) (hk:x.kind=46)=>wU hc (fun y hy=>by obtain⟨j,hj⟩:=List.mem_iff_getElem?.1 hy;exact(hs j y hj).1) hx hk)
 have HL:=Lib.hid hL
 have hLN:=hL.1
 clear hW hc hs
 obtain⟨A0,c0,rfl,hA0⟩:=hv
 have HA:=Lib.hid hA0
 clear hA0
 obtain⟨n,hn⟩:∃ n,t.length=n:=⟨_,rfl⟩
 have HN:=Lib.hid hn
 rw[hn]at ht HV HA ⊢
 have HST:=Lib.hid (fF.start w t)
 obtain⟨M,hM⟩:∃ M,w.heap.size=M:=⟨_,rfl⟩
 rw[show fF w (w.alloc (.map #[] 0)) w.heap.size t 0 (pC t 0) (fun _=>0) (fun _=>[]) (.slice none 0 0)=fF w (w.alloc (.map #[] 0)) M t 0 (pC t 0) (fun _=>0) (fun _=>[]) (.slice none 0 0) by rw[hM]]at HST
 have hmm:=@run_makeMap Tryz.prog
 clear hn
 go_enter Tryz.func73,Tryz.ntmps73
 go_wp2
 clear hmm hM
 go_loopw [4,10] (fun u4 u10 wr=>FlR w M t u4 u10 wr) (fun _ u10 _=>n - (intOf u10).toNat)
 case atStart=>exact⟨0,_,_,rfl,Nat.zero_le _,HST.out⟩
 case round =>
  clear HST
  obtain⟨i,P,S,rfl,hin,hI⟩:=hrel
  have HI:=Lib.hid hI
  rw[HN.out]at hin
  have hrow:=hI.row
  have hB:=hI.below
  have hsz:=hB.size
  obtain⟨A,cap,rfl,hcm,hnc,hAA⟩:=aW hrow
  have hAd:=WC hrow
  have k0:(0:Int)≤(i:Int):=by omega
  by_cases hlt:i<n
  ·obtain⟨g,rfl,hg,hcell⟩:=HA.out (by omega)
   obtain⟨x,hx⟩:=fV (l:=t) (i:=i) (by have:=HN.out;omega)
   obtain⟨d0,d1,d2,d3⟩:=cE hcell i _ hx
   have upr:=fun j=>World.cell?_of_block (w:=w) (w':=wr) (a:=⟨g,j,none⟩) (hB.block g hg)
   rw[← upr]at d0 d1 d2 d3
   have k1:(i:Int)<(n:Int):=by omega
   have HXI:=Lib.hid hx
   obtain⟨w1,hw1⟩:∃ w1,wr.alloc (.cells #[.int .u8 (x.kind:Int),.string x.text,.int .i64 x.place,.int .i64 x.size] 41)=w1:=⟨_,rfl⟩
   have hb1:Below wr.heap.size wr w1:=hw1▸(Below.refl _ wr).alloc (Nat.le_refl _) _
   have hx1:w1.heap[wr.heap.size]?=some (.cells #[.int .u8 (x.kind:Int),.string x.text,.int .i64 x.place,.int .i64 x.size] 41 (0,0)):=hw1▸heap_alloc_new wr _
   have hs1:w1.heap.size=wr.heap.size+1:=by subst hw1;simp
   have HI1:=Lib.hid (hI.on hb1)
   have HR1:=Lib.hid ((HV.out.below HI1.out.below).mono HI1.out.below.size)
   have x0:w1.cell? ⟨wr.heap.size,0,none⟩=some (.int .u8 (x.kind:Int)):=by rw[cell_of_row w1 _ 0 _ _ (0,0) hx1];rfl
   have x1:w1.cell? ⟨wr.heap.size,1,none⟩=some (.string x.text):=by rw[cell_of_row w1 _ 1 _ _ (0,0) hx1];rfl
   have x2:w1.cell? ⟨wr.heap.size,2,none⟩=some (.int .i64 x.place):=by rw[cell_of_row w1 _ 2 _ _ (0,0) hx1];rfl
   have x3:w1.cell? ⟨wr.heap.size,3,none⟩=some (.int .i64 x.size):=by rw[cell_of_row w1 _ 3 _ _ (0,0) hx1];rfl
   obtain⟨q,hq⟩:∃ q,(pC t i).length=q:=⟨_,rfl⟩
   rw[hq]at hnc hAA HI HI1 ⊢
   have HQ:=Lib.hid hq
   clear hI hrow hx hcell upr hb1 hq
   go_wp2_with fail
   clear hw1 d0 d1 d2 d3
   obtain⟨Xb,hXb⟩:∃ Xb,wr.heap.size=Xb:=⟨_,rfl⟩
   rw[hXb]at x0 x1 x2 x3 hs1 ⊢
   clear hXb
   go_loopw [4] (fun u4 wi=>∃ m,u4=.slice A m cap∧m≤q∧wi=w1∧∀ j f,m≤j→(pC t i)[j]?=some f→lL t f=(i:Int)) (fun u4 _=>r7 u4)
   case atStart=>exact⟨q,rfl,Nat.le_refl _,rfl,fun j f hj hf=>by have:=(List.getElem?_eq_some_iff.1 hf).1;have:=HQ.out;omega⟩
   case round =>
    obtain⟨m,rfl,hmq,hwi,hpop⟩:=hrel
    rw[hwi]
    clear hwi
    have HP:=Lib.hid hpop
    have HTK:=Lib.hid (fun(hl:∀ f,0<m→(pC t i)[m - 1]?=some f→lL t f≠(i:Int))=>aC0 HW.out (i:=i) (m:=m) (by have:=HQ.out;omega) HP.out hl)
    clear hpop
    have hq9:q≤9000:=by have h1:=HQ.out;have h2:=List.length_filter_le (fun f=>bZ t f && decide ((i:Int)≤lL t f)) (List.range i);rw[List.length_range]at h2;unfold pC at h1;omega
    rcases Nat.eq_zero_or_pos m with rfl | hm0
    ·have HAR:=Lib.hid (HTK.out (fun f h=>by omega))
     clear HTK HP
     go_upto_region 8 with fail
     have HT:=Lib.hid (HI1.out.take HQ.out hAd (m:=0) (by omega))
     have hkx:=(HS.out i x HXI.out).1
     by_cases hk:x.kind=46
     ·exfalso
      obtain⟨f,hf⟩:=HTF.out i x HXI.out hk
      rw[pL,HAR.out,List.take_zero]at hf
      exact aC3 f hf
     ·have t2:((x.kind:Int)==46)=false:=beq_eq_false_iff_ne.2 (by omega)
      have hix:=JH hkx
      obtain⟨ix,hixx⟩:∃ ix,Lib.indexByte pO.data.toList ((x.kind:Nat):Int).toNat.toUInt8=ix:=⟨_,rfl⟩
      have HIX:=Lib.hid hixx
      rw[hixx]at hix
      by_cases hfl:aK x.kind=true
      ·have t3:decide (0≤ix)=true:=hix.trans hfl
       have HAB:=Lib.hid (show pC t (i+1)=(pC t i).take 0++[i] by
        rw[r4 HS.out,HAR.out]
        have:bZ t i=true:=by unfold bZ;rw[HXI.out];exact hfl
        rw[this];simp)
       have HFL:=Lib.hid hfl
       have hlm:((pC t i).take 0).length=0:=by rw[List.length_take];have:=HQ.out;omega
       have HLM:=Lib.hid hlm
       clear hix hixx hfl hk hlm
       go_wp2_with fail
       refine(nM x.kind ix HIX.out _).mono ?_
       rintro e w' ⟨rfl,rfl⟩
       go_wp2_with fail
       refine(BM _).mono ?_
       rintro e w6 ⟨P',S',rfl,h6,hb6⟩
       have hI6:=HT.out.on hb6
       obtain⟨w7,hr7,hm7,hg7⟩:=hI6.map.put (by omega) (i:=i) (P:=P') (by omega)
       have hrow7:w7.ownsRow w.heap.size 3 1 (.slice A 0 cap) 0 (r5 ((pC t i).take 0)):=by
        have:=dY hI6.row (w':=w7) (fun b hb=>hg7.block b (cP hI6.row hb).2 (fun e=>(hI6.r6 b hb).1 (by injection e)))
        rw[HLM.out]at this;exact this
       have hs6:=hb6.size
       have hs7:=hg7.size
       have hs0:=HT.out.below.size
       have HR7:=Lib.hid hrow7
       have HMO:=Lib.hid (fun(o:Obj) (w8:World) (gg cap':Nat) hg8 hat h8=>HT.out.more HXI.out HFL.out h6 hb6 hm7 hg7 (o:=o) (w8:=w8) (gg:=gg) (cap:=cap') hg8 hat h8)
       clear h6 hb6 hI6 hm7 hg7 hrow7
       go_wp2_with (at_builtin;refine wpList_append_lies _ rfl _ _ _ rfl w.heap.size 3 i0 _ 1 8 Tryz.underlying155 hi0 hz0 hz1 hz2 rfl (by omega) (.slice A 0 cap) 0 _ rfl (HR7.out.alloc _) ⟨w7.heap.size,0,none⟩ 1 1 [.int .i64 (i:Int)] rfl rfl (World.news_of_block (cs:=#[.int .i64 (i:Int)]) (t:=3) (fr:=(0,0)) (heap_alloc_new w7 _)) (by simp[Value.oneCell']) (by omega) (by unfold maxLen;omega) (by omega) (by simp;omega) (w7.heap.size+1) (by simp) ?_;intro gg cap' w8 hown8 hgrow8 hat8 hlt8;have HF8:=Lib.hid (HMO.out _ w8 gg cap' hgrow8 hat8 (by rw[HLM.out,BR];exact hown8));clear hgrow8 hat8 hlt8 hown8)
       rw[HLM.out]at HF8
       go_roundw
       case rel=>exact⟨i+1,_,_,by go_num,by have:=HN.out;omega,by rw[HAB.out];exact HF8.out⟩
       case measure=>simp[intOf];omega
      ·have hfl:aK x.kind=false:=by simpa using hfl
       have t3:decide (0≤ix)=false:=hix.trans hfl
       have HNX:=Lib.hid (HT.out.skip HXI.out hk hfl)
       have HAB:=Lib.hid (show pC t (i+1)=(pC t i).take 0 by
        rw[r4 HS.out,HAR.out]
        have:bZ t i=false:=by unfold bZ;rw[HXI.out];exact hfl
        rw[this];simp)
       clear hix hixx hfl hk HT
       go_wp2_with (go_at_call 61;refine(nM x.kind ix HIX.out _).mono ?_;rintro e w' ⟨rfl,rfl⟩)
       go_roundw
       case rel=>exact⟨i+1,P,S,by go_num,by have:=HN.out;omega,by rw[HAB.out];exact HNX.out⟩
       case measure=>simp[intOf];omega
    ·obtain⟨ga,rfl,hga1,hga2⟩:=hAA (by omega)
     obtain⟨mm,rfl⟩:∃ mm,m=mm+1:=⟨m - 1,by omega⟩
     obtain⟨f,hf⟩:=fV (l:=pC t i) (i:=mm) (by have:=HQ.out;omega)
     obtain⟨f1,f2,f3⟩:=MX (List.mem_of_getElem? hf)
     obtain⟨y,hy,-,hye⟩:=mA f2
     have hrow1:=HI1.out.row
     rw[HQ.out]at hrow1
     have hcf:w1.cell? ⟨ga,mm,none⟩=some (.int .i64 (f:Int)):=by
      rw[hrow1.cellAt mm (by omega)]
      unfold r5
      rw[List.getElem?_map,hf];rfl
     obtain⟨z,hz⟩:∃ z,lL t f=z:=⟨_,rfl⟩
     obtain⟨-,-,zz,hzz,hzz1,hzz2⟩:=HS.out f y hy
     have hz1:(f:Int)+y.size=z:=by rw[← hz,hye]
     have HEN:=Lib.hid (fun(W:World) hW=>BK (.slice (some ⟨g,off,none⟩) n c0) t off (by have:=HN.out;omega) f y hy z hz1 (by omega) (by have:=HN.out;omega) w.heap.size W hW)
     have HVW:=Lib.hid (show aS off w1 w.heap.size (.slice (some ⟨g,off,none⟩) n c0) t from HV.out.below HI1.out.below)
     by_cases he:(i:Int)=z
     ·have t1:((i:Int)==z)=true:=beq_iff_eq.2 he
      have HPN:=Lib.hid (show ∀ j f,mm≤j→(pC t i)[j]?=some f→lL t f=(i:Int) from fun j f' hj hf'=>by
       rcases Nat.eq_or_lt_of_le hj with e | e
       ·subst e;rw[hf]at hf';cases hf';omega
       ·exact HP.out j f' e hf')
      clear hf hy hrow1 hz hz1 hzz hzz2 hye he f3
      go_wp2_with fail
      refine(BL ga mm cap (by omega) (f:Int) _ hcf).mono ?_
      rintro e w' ⟨rfl,rfl⟩
      go_wp2_with fail
      refine(HEN.out _ HVW.out).mono ?_
      rintro e w' ⟨rfl,rfl⟩
      go_wp2
      go_roundw
      case rel=>exact⟨mm,rfl,by omega,by simp,HPN.out⟩
      case measure=>simp[r7]
     ·have t1:((i:Int)==z)=false:=beq_eq_false_iff_ne.2 he
      have HAR:=Lib.hid (HTK.out (fun f' _ hf'=>by rw[Nat.add_sub_cancel,hf]at hf';cases hf';omega))
      have HFF:=Lib.hid hf
      clear hf hy hrow1 hz hz1 hzz hzz2 hye he f3
      go_wp2_with fail
      refine(BL ga mm cap (by omega) (f:Int) _ hcf).mono ?_
      rintro e w' ⟨rfl,rfl⟩
      go_wp2_with fail
      refine(HEN.out _ HVW.out).mono ?_
      rintro e w' ⟨rfl,rfl⟩
      go_upto_region 8 with fail
      have HT:=Lib.hid (HI1.out.take HQ.out hAd (m:=mm+1) (by omega))
      have hkx:=(HS.out i x HXI.out).1
      by_cases hk:x.kind=46
      ·have t2:((x.kind:Int)==46)=true:=beq_iff_eq.2 (by omega)
       have HFV:=Lib.hid (show bY t i=(f:Int) by
        rw[pL,HAR.out,List.getLast?_eq_getElem?,List.length_take,Nat.min_eq_left (by have:=HQ.out;omega),Nat.add_sub_cancel,List.getElem?_take_of_lt (Nat.lt_succ_self _),HFF.out])
       have HAB:=Lib.hid (show pC t (i+1)=(pC t i).take (mm+1) by
        rw[r4 HS.out,HAR.out]
        have:bZ t i=false:=by unfold bZ;rw[HXI.out];show aK x.kind=false;rw[hk];decide
        rw[this];simp)
       have HI2:=Lib.hid (HT.out.on (wx:=w1.drew) ⟨rfl,rfl,rfl,Nat.le_refl _,fun _ _=>rfl⟩)
       obtain⟨R,hF,hR⟩:=HI2.out.flow f f1 f2
       have hlk:=HI2.out.map.look (i:=f) (P:=P f) (by rw[if_pos ⟨f2,f1⟩])
       have HTO:=Lib.hid (fun e w' (h:BN w1.drew w.heap.size (S f) (P f) R (tO i x (jG t f i)) (kR i x (jG t f i) x.text.size) e w')=>HI2.out.told HXI.out hk HFV.out hF hR h)
       have hRl:R.length≤9000:=by
        have h1:=congrArg List.length hR
        rw[List.length_map]at h1
        have h2:=BO t f i
        omega
       have HTL:=Lib.hid (Z8 (w:=w1.drew) hF (VX t f i) hRl i (by omega) x hkx (HS.out i x HXI.out).2.1 (HL.out.below HI2.out.below hLN) hLN HI2.out.below.size)
       have HCF:=Lib.hid (show (w1.drew).cell? ⟨ga,mm,none⟩=some (.int .i64 (f:Int)) from hcf)
       clear hk HT hF hR hRl
       go_upto_region 9 with fail
       go_region_with (first
        |(go_at_call 102;refine(BL ga mm cap (by omega) (f:Int) w1.drew HCF.out).mono ?_;rintro e w' ⟨rfl,rfl⟩)
        |(go_at_call 103;refine HTL.out.mono ?_;intro e w' hT;obtain⟨rfl,hT2⟩:=HTO.out e w' hT;have HT3:=Lib.hid hT2;clear hT hT2))
       all_goals
        obtain⟨S2,hF2⟩:=HT3.out
        have HF2:=Lib.hid hF2
        clear hF2 hlk HT3
        go_wp2
        go_roundw
        case rel=>exact⟨i+1,P,S2,by go_num,by have:=HN.out;omega,by rw[HAB.out];exact HF2.out⟩
        case measure=>simp[intOf];omega
      ·have t2:((x.kind:Int)==46)=false:=beq_eq_false_iff_ne.2 (by omega)
       have hix:=JH hkx
       obtain⟨ix,hixx⟩:∃ ix,Lib.indexByte pO.data.toList ((x.kind:Nat):Int).toNat.toUInt8=ix:=⟨_,rfl⟩
       have HIX:=Lib.hid hixx
       rw[hixx]at hix
       by_cases hfl:aK x.kind=true
       ·have t3:decide (0≤ix)=true:=hix.trans hfl
        have HAB:=Lib.hid (show pC t (i+1)=(pC t i).take (mm+1)++[i] by
         rw[r4 HS.out,HAR.out]
         have:bZ t i=true:=by unfold bZ;rw[HXI.out];exact hfl
         rw[this];simp)
        have HFL:=Lib.hid hfl
        have hlm:((pC t i).take (mm+1)).length=(mm+1):=by rw[List.length_take];have:=HQ.out;omega
        have HLM:=Lib.hid hlm
        clear hix hixx hfl hk hlm
        go_wp2_with fail
        refine(nM x.kind ix HIX.out _).mono ?_
        rintro e w' ⟨rfl,rfl⟩
        go_wp2_with fail
        refine(BM _).mono ?_
        rintro e w6 ⟨P',S',rfl,h6,hb6⟩
        have hI6:=HT.out.on hb6
        obtain⟨w7,hr7,hm7,hg7⟩:=hI6.map.put (by omega) (i:=i) (P:=P') (by omega)
        have hrow7:w7.ownsRow w.heap.size 3 1 (.slice (some ⟨ga,0,none⟩) (mm+1) cap) (mm+1) (r5 ((pC t i).take (mm+1))):=by
         have:=dY hI6.row (w':=w7) (fun b hb=>hg7.block b (cP hI6.row hb).2 (fun e=>(hI6.r6 b hb).1 (by injection e)))
         rw[HLM.out]at this;exact this
        have hs6:=hb6.size
        have hs7:=hg7.size
        have hs0:=HT.out.below.size
        have HR7:=Lib.hid hrow7
        have HMO:=Lib.hid (fun(o:Obj) (w8:World) (gg cap':Nat) hg8 hat h8=>HT.out.more HXI.out HFL.out h6 hb6 hm7 hg7 (o:=o) (w8:=w8) (gg:=gg) (cap:=cap') hg8 hat h8)
        clear h6 hb6 hI6 hm7 hg7 hrow7
        go_wp2_with (at_builtin;refine wpList_append_lies _ rfl _ _ _ rfl w.heap.size 3 i0 _ 1 8 Tryz.underlying155 hi0 hz0 hz1 hz2 rfl (by omega) (.slice (some ⟨ga,0,none⟩) (mm+1) cap) (mm+1) _ rfl (HR7.out.alloc _) ⟨w7.heap.size,0,none⟩ 1 1 [.int .i64 (i:Int)] rfl rfl (World.news_of_block (cs:=#[.int .i64 (i:Int)]) (t:=3) (fr:=(0,0)) (heap_alloc_new w7 _)) (by simp[Value.oneCell']) (by omega) (by unfold maxLen;omega) (by omega) (by simp;omega) (w7.heap.size+1) (by simp) ?_;intro gg cap' w8 hown8 hgrow8 hat8 hlt8;have HF8:=Lib.hid (HMO.out _ w8 gg cap' hgrow8 hat8 (by rw[HLM.out,BR];exact hown8));clear hgrow8 hat8 hlt8 hown8)
        rw[HLM.out]at HF8
        go_roundw
        case rel=>exact⟨i+1,_,_,by go_num,by have:=HN.out;omega,by rw[HAB.out];exact HF8.out⟩
        case measure=>simp[intOf];omega
       ·have hfl:aK x.kind=false:=by simpa using hfl
        have t3:decide (0≤ix)=false:=hix.trans hfl
        have HNX:=Lib.hid (HT.out.skip HXI.out hk hfl)
        have HAB:=Lib.hid (show pC t (i+1)=(pC t i).take (mm+1) by
         rw[r4 HS.out,HAR.out]
         have:bZ t i=false:=by unfold bZ;rw[HXI.out];exact hfl
         rw[this];simp)
        clear hix hixx hfl hk HT
        go_wp2_with (go_at_call 61;refine(nM x.kind ix HIX.out _).mono ?_;rintro e w' ⟨rfl,rfl⟩)
        go_roundw
        case rel=>exact⟨i+1,P,S,by go_num,by have:=HN.out;omega,by rw[HAB.out];exact HNX.out⟩
        case measure=>simp[intOf];omega
  ·obtain rfl:i=n:=by omega
   have HR:=Lib.hid (show O8 w t (.returned (.map (some M))) wr from ⟨M,P,S,_,_,rfl,by rw[HN.out];exact hI⟩)
   clear hI HI hrow hAA hAd hnc hcm hB
   go_wp2
   go_ret
   exact HR.out
end Go.Proofs.YtgpihfacmpbpaaaGreatDoor.Nl
namespace Go.Proofs.YtgpihfacmpbpaaaGreatDoor.Nl
open Go.RowKit Tr Nu
def zR:Rs × Value:=(⟨0,0,[]⟩,.slice none 0 0)
def aD8 (t:List Nd) (N:Nat) (S:Nat→List Nat) (done:Nat→Bool) (wr:World) (i:Nat) (p:Rs × Value):Prop :=
 (∃ f,f<t.length∧bZ t f=true∧done f=true∧p.1 ∈ mP t f∧p.1.node=i∧wr.ownsRow N 5 1 p.2 p.1.kept.length (aQ p.1.kept)∧∀ g,p.2.ownBlock=some g→g ∈ S f) ∨
 ((∀ f,f<t.length→bZ t f=true→done f=true→∀ r ∈ mP t f,r.node≠i)∧p=zR)
structure nN (w wr:World) (N M:Nat) (t:List Nd) (P:Nat→Nat) (S:Nat→List Nat) (va:Value) (A:List (Rs × Value)) (done:Nat→Bool):Prop where
 row:wr.ownsRow w.heap.size 126 3 va t.length (Ba.rows cR A)
 len:A.length=t.length
 bJ:∀ g,va.ownBlock=some g→g<N
 flow:∀ f,f<t.length→bZ t f=true→done f=false→∃ R,dK wr N (S f) (P f) R (jG t f t.length)∧R.map Prod.fst=lM t f t.length
 blocks:∀ f,f<t.length→bZ t f=true→∀ s ∈ S f,N≤s∧s<wr.heap.size
 apart:∀ f g,f<t.length→g<t.length→bZ t f=true→bZ t g=true→f≠g→∀ s ∈ S f,s ∉ S g
 qY:∀ f,f<t.length→bZ t f=true→M ∉ S f
 ent:∀ i,i<t.length→∃ p,A[i]?=some p∧aD8 t N S done wr i p
 below:Below w.heap.size w wr
 wN:w.heap.size≤N
 NM:N≤M
section
variable {w wr wx:World} {N M:Nat} {t:List Nd} {P:Nat→Nat} {S:Nat→List Nat} {va:Value} {A:List (Rs × Value)} {done:Nat→Bool}
theorem nN.on {T:List Nat} (h:nN w wr N M t P S va A done) (hw:fA T wr wx) (hT:∀ b ∈ T,N≤b∧∀ f,f<t.length→bZ t f=true→b ∉ S f) (hva:∀ g,va.ownBlock=some g→g ∉ T):nN w wx N M t P S va A done where
 row:=dY h.row (fun g hg=>hw.block g (cP h.row hg).2 (hva g hg))
 len:=h.len
 bJ:=h.bJ
 flow f hf hfl hd:=by
  obtain⟨R,h1,h2⟩:=h.flow f hf hfl hd
  exact⟨R,h1.off hw (fun s hs hm=>(hT s hm).2 f hf hfl hs),h2⟩
 blocks f hf hfl s hs:=⟨(h.blocks f hf hfl s hs).1,Nat.lt_of_lt_of_le (h.blocks f hf hfl s hs).2 hw.size⟩
 apart:=h.apart
 qY:=h.qY
 ent i hi:=by
  obtain⟨p,hp,h1⟩:=h.ent i hi
  refine⟨p,hp,?_⟩
  rcases h1 with⟨f,a1,a2,a3,a4,a5,a6,a7⟩ | h1
  ·exact .inl ⟨f,a1,a2,a3,a4,a5,dY a6 (fun g hg=>hw.block g (cP a6 hg).2 (fun hm=>(hT g hm).2 f a1 a2 (a7 g hg))),a7⟩
  ·exact .inr h1
 below:=h.below.trans (hw.below (fun b hb=>by have:=(hT b hb).1;have:=h.wN;omega) h.below.size)
 wN:=h.wN
 NM:=h.NM
end
def iB (Q:List (Rs × Value)) (A:List (Rs × Value)):List (Rs × Value):=Q.foldl (fun A p=>A.set p.1.node p) A
theorem BS:∀ (Q A:List (Rs × Value)),(iB Q A).length=A.length:=by
 intro Q
 induction Q with
 | nil=>intro A;rfl
 | cons x Q ih=>intro A;show (iB Q (A.set x.1.node x)).length=_;rw[ih,List.length_set]
theorem J3 (Q A:List (Rs × Value)) (p:Rs × Value):iB (Q++[p]) A=(iB Q A).set p.1.node p:=by unfold iB;rw[List.foldl_append];rfl
theorem RZ:∀ (Q A:List (Rs × Value)) (i:Nat),i<A.length→(∃ p ∈ Q,p.1.node=i∧(iB Q A)[i]?=some p)∨((∀ p ∈ Q,p.1.node≠i)∧(iB Q A)[i]?=A[i]?):=by
 intro Q
 induction Q with
 | nil=>intro A i _;exact .inr ⟨by simp,rfl⟩
 | cons x Q ih =>
  intro A i hi
  rcases ih (A.set x.1.node x) i (by rw[List.length_set];exact hi) with⟨p,hp,h1,h2⟩ | ⟨h1,h2⟩
  ·exact .inl ⟨p,by simp[hp],h1,h2⟩
  ·have h2:(iB (x::Q) A)[i]?=(A.set x.1.node x)[i]?:=h2
   rw[List.getElem?_set]at h2
   by_cases hx:x.1.node=i
   ·rw[if_pos hx,if_pos (by omega)]at h2
    exact .inl ⟨x,by simp,hx,h2⟩
   ·rw[if_neg hx]at h2
    refine .inr ⟨fun p hp=>?_,h2⟩
    rcases List.mem_cons.1 hp with rfl | h
    ·exact hx
    ·exact h1 p h
theorem R4 {t:List Nd} (ht:lN t) {f i:Nat} {r:Rs} (hr:r ∈ lM t f i):0<r.kept.length∧r.kept.length≤9000∧∀ b ∈ r.kept,b<256:=by
 unfold lM at hr
 obtain⟨p,hp,rfl⟩:=List.mem_map.1 hr
 obtain⟨h1,-,h2,-,x,hx,-,h3⟩:=(AE t f i).node p hp
 have:=(ht _ _ hx).2.1
 unfold Z9
 simp only[List.length_map]
 refine⟨?_,by omega,fun b hb=>?_⟩
 ·cases hl:p.2 with
  | nil=>exact absurd hl h1
  | cons s l=>simp
 ·obtain⟨s,hs,rfl⟩:=List.mem_map.1 hb
  exact(h2 s hs).2
section
variable {w w4 w5 w6:World} {N M:Nat} {t:List Nd} {P:Nat→Nat} {S:Nat→List Nat} {va:Value} {A:List (Rs × Value)} {done:Nat→Bool}
theorem nN.WD (h:nN w w4 N M t P S va A done) {f:Nat} (hf:f<t.length) (hfl:bZ t f=true) (hd:done f=false) {R':List (Rs × Value)} {a Ab c:Nat} (hF:dK w5 N (S f) (P f) R' a) (hR:R'.map Prod.fst=mP t f) (h45:fA (S f) w4 w5) (h56:fA [Ab] w5 w6) (hva:va=.slice (some ⟨Ab,0,none⟩) t.length c)
  (row6:w6.ownsRow w.heap.size 126 3 va t.length (Ba.rows cR (iB R' A))) (hAw:w.heap.size≤Ab):nN w w6 N M t P S va (iB R' A) (fun g=>done g || g==f):=by
 have hAb:Ab<N:=h.bJ Ab (by rw[hva];rfl)
 have hS:∀ g,g<t.length→bZ t g=true→Ab ∉ S g:=fun g hg hgl hm=>by have:=(h.blocks g hg hgl Ab hm).1;omega
 have hAf:=fun g hg hgl s (hs:s ∈ S g)=>show s ∉ [Ab] from by simp;exact fun e=>hS g hg hgl (e▸hs)
 constructor
 ·exact row6
 ·rw[BS];exact h.len
 ·exact h.bJ
 ·intro g hg hgl hdg
  rw[Bool.or_eq_false_iff]at hdg
  have hgf:g≠f:=by simpa using hdg.2
  obtain⟨R,h1,h2⟩:=h.flow g hg hgl hdg.1
  refine⟨R,(h1.off h45 (fun s hs hm=>h.apart g f hg hf hgl hfl hgf s hs hm)).off h56 (hAf g hg hgl),h2⟩
 ·intro g hg hgl s hs
  have:=h.blocks g hg hgl s hs
  exact⟨this.1,by have:=h45.size;have:=h56.size;omega⟩
 ·exact h.apart
 ·exact h.qY
 ·intro i hi
  have hkeep:∀ g,g<t.length→bZ t g=true→done g=true→∀ s ∈ S g,s ∉ S f:=fun g hg hgl hdg s hs hm=>h.apart g f hg hf hgl hfl (fun e=>by rw[e,hd]at hdg;cases hdg) s hs hm
  rcases RZ R' A i (by rw[h.len];exact hi) with⟨p,hp,h1,h2⟩ | ⟨h1,h2⟩
  ·refine⟨p,h2,.inl ⟨f,hf,hfl,by simp,?_,h1,?_⟩⟩
   ·rw[← hR];exact List.mem_map.2 ⟨p,hp,rfl⟩
   ·obtain⟨v,Bx,-,-,-,-,-,-,-,-,hk⟩:=hF.mem
    obtain⟨k1,k2⟩:=hk p hp
    exact⟨dY k1 (fun g hg=>h56.block g (cP k1 hg).2 (hAf f hf hfl g (k2 g hg).1)),fun g hg=>(k2 g hg).1⟩
  ·obtain⟨p,hp,h3⟩:=h.ent i hi
   refine⟨p,h2.trans hp,?_⟩
   rcases h3 with⟨g,a1,a2,a3,a4,a5,a6,a7⟩ | ⟨h4,h5⟩
   ·exact .inl ⟨g,a1,a2,by show (done g || g==f)=true;rw[a3];rfl,a4,a5,dY a6 (fun b hb=>(h56.block b (by have:=(cP a6 hb).2;have:=h45.size;omega) (hAf g a1 a2 b (a7 b hb))).trans (h45.block b (cP a6 hb).2 (hkeep g a1 a2 a3 b (a7 b hb)))),a7⟩
   ·refine .inr ⟨fun g hg hgl hdg r hr=>?_,h5⟩
    have hdg:(done g || g==f)=true:=hdg
    rcases Bool.or_eq_true_iff.1 hdg with h6 | h6
    ·exact h4 g hg hgl h6 r hr
    ·have:g=f:=by simpa using h6
     subst this
     rw[← hR]at hr
     obtain⟨p,hp,rfl⟩:=List.mem_map.1 hr
     exact h1 p hp
 ·exact(h.below.trans (h45.below (fun s hs=>by have:=(h.blocks f hf hfl s hs).1;have:=h.wN;omega) h.below.size)).trans (h56.below (by simp;exact hAw) (by have:=h.below.size;have:=h45.size;omega))
 ·exact h.wN
 ·exact h.NM
end
end Go.Proofs.YtgpihfacmpbpaaaGreatDoor.Nl
namespace Go.Proofs.YtgpihfacmpbpaaaGreatDoor.Nl
open Go.RowKit Tr Nu Go.Maps
theorem R5 (n:Nat):(madeCells (Value.cells (.agg #[.int .i64 0,.int .i64 0,.slice none 0 0])) (n * 3)).toList=Ba.rows cR (List.replicate n zR):=by
 apply List.ext_getElem?
 intro j
 rcases Nat.lt_or_ge j (n * 3)with hj | hj
 ·have e:=Ba.cB cR jF (List.replicate n zR) (j / 3) zR (by rw[List.getElem?_replicate,if_pos (by omega)]) (j % 3) (Nat.mod_lt _ (by omega))
  rw[show j / 3 * 3+j % 3=j by omega]at e
  rw[e]
  unfold madeCells
  simp only[Array.toList_map,Array.toList_range,List.getElem?_map,List.getElem?_range hj,Option.map_some]
  have h3:j % 3=0∨j % 3=1∨j % 3=2:=by omega
  show some ((#[Value.int .i64 0,Value.int .i64 0,Value.slice none 0 0])[j % 3]!)=_
  rcases h3 with h | h | h<;>rw[h]<;>rfl
 ·rw[List.getElem?_eq_none (by rw[Array.length_toList,size_madeCells];exact hj),List.getElem?_eq_none (by rw[Ba.cK cR jF,List.length_replicate];exact hj)]
theorem R6 {w w':World} {b r n:Nat} {D:DataW Unit} {left:Lit→Bool} {cnt:Nat} (h:w.ranges Tryz.prog 3 pR b r n D left cnt) (hb:w'.heap[b]?=w.heap[b]?) (hr:w'.heap[r]?=w.heap[r]?):w'.ranges Tryz.prog 3 pR b r n D left cnt:=by
 obtain⟨es,clock,since,seen,c0,h1,F,hs,hD,h2,rest⟩:=h
 exact⟨es,clock,since,seen,c0,hb.trans h1,F,hs,hD,hr.trans h2,rest⟩
def mkP:Option Nat→Value
 | none=>.pointer none
 | some P=>.pointer (some ⟨P,0,none⟩)
theorem aD9 {v:Value} {y:DataW Unit × List MemPlace} (h:pR v=some y):∃ c,v=mkP c:=by
 unfold pR at h
 split at h
 ·exact⟨none,rfl⟩
 ·exact⟨some _,rfl⟩
 ·cases h
theorem WE {W:World} {B g k c i:Nat} {X:List (Rs × Value)} (own:W.ownsRow B 126 3 (.slice (some ⟨g,0,none⟩) k c) k (Ba.rows cR X)) {p0 p:Rs × Value} (hi:X[i]?=some p0) :
  (((W.setCell ⟨g,i * 3,none⟩ (.int .i64 (p.1.node:Int))).setCell ⟨g,i * 3+1,none⟩ (.int .i64 p.1.place)).setCell ⟨g,i * 3+2,none⟩ p.2).ownsRow B 126 3 (.slice (some ⟨g,0,none⟩) k c) k (Ba.rows cR (X.set i p)) ∧
  fA [g] W (((W.setCell ⟨g,i * 3,none⟩ (.int .i64 (p.1.node:Int))).setCell ⟨g,i * 3+1,none⟩ (.int .i64 p.1.place)).setCell ⟨g,i * 3+2,none⟩ p.2):=by
 obtain⟨r0,v0⟩:=p0
 obtain⟨r,v⟩:=p
 have hl:=(List.getElem?_eq_some_iff.1 hi).1
 have s1:=(own.stored (i * 3+0) (.int .i64 (r.node:Int))).1
 rw[Ba.gS cR jF X i (r0,v0) (⟨r.node,r0.place,r0.kept⟩,v0) hi 0 _ (by omega) rfl]at s1
 have s2:=(s1.stored (i * 3+1) (.int .i64 r.place)).1
 rw[Ba.gS cR jF _ i (⟨r.node,r0.place,r0.kept⟩,v0) (⟨r.node,r.place,r0.kept⟩,v0) (by rw[List.getElem?_set];simp[hl]) 1 _ (by omega) rfl,List.set_set]at s2
 have s3:=(s2.stored (i * 3+2) v).1
 rw[Ba.gS cR jF _ i (⟨r.node,r.place,r0.kept⟩,v0) (r,v) (by rw[List.getElem?_set];simp[hl]) 2 _ (by omega) rfl,List.set_set]at s3
 exact⟨s3,((fA.set (S:=[g]) _ (.inl (by simp))).trans (fA.set (S:=[g]) _ (.inl (by simp))) (fun s hs=>.inl hs)).trans (fA.set (S:=[g]) _ (.inl (by simp))) (fun s hs=>.inl hs)⟩
def O9 (w:World) (t:List Nd) (e:Ending) (w':World):Prop:=∃ N M P S va A,e=.returned va∧nN w w' N M t P S va A (fun _=>true)
def RsR (w:World) (N M Rb n:Nat) (D:DataW Unit) (t:List Nd) (P:Nat→Nat) (S:Nat→List Nat) (va:Value) (wr:World):Prop :=
 ∃ (left:Lit→Bool) (cnt:Nat) (A:List (Rs × Value)),wr.ranges Tryz.prog 3 pR M Rb n D left cnt∧(∀ kl,left kl=true→Maps.has D kl=true)∧nN w wr N M t P S va A (fun f=>!left (.int .i64 (f:Int)))∧Rb<wr.heap.size
set_option maxRecDepth 100000 in
set_option maxHeartbeats 8000000 in
theorem M4 (v0:Value) (t:List Nd) (off:Nat) (ht:t.length≤9000) (hs:lN t) (hc:aL t=0) (hp:∀ x ∈ t,-9223372036854775808≤x.place∧x.place≤9223372036854775807) (w:World) (hL:Ka.Laid w) (hv:aS off w w.heap.size v0 t) :
  Calls Tryz.prog 41 #[v0] w (O9 w t):=by
 obtain⟨j0,hj0,gz0,gz1,gz2⟩:=info_parts JZ
 have HS:=Lib.hid hs
 have HV:=Lib.hid hv
 have HFO:=Lib.hid (fun W (hL:Ka.Laid W) (hv:aS off W W.heap.size v0 t)=>M3 v0 t off ht hs hc hp W hL hv)
 have HL:=Lib.hid hL
 have hLN:=hL.1
 clear hs hc hp
 obtain⟨A0,c0,rfl,-⟩:=hv
 obtain⟨n,hn⟩:∃ n,t.length=n:=⟨_,rfl⟩
 have HN:=Lib.hid hn
 rw[hn]at ht HV HFO ⊢
 clear hn
 go_enter Tryz.func41,Tryz.ntmps41
 go_wp2_with (at_make;refine wpList_make_full _ rfl _ _ 73 rfl w.heap.size 126 j0 _ 3 Tryz.underlying73 hj0 gz0 gz1 .i64 .i64 (n:Int) (n:Int) n rfl rfl rfl rfl (by rw[gz2];omega) (by unfold maxLen;omega) (Nat.le_refl _) ?_;intro w1 hown1 hgrow1)
 have hB1:Below w.heap.size w w1:=(Below.refl _ w).grown hgrow1 (Nat.le_refl _) (by simp)
 rw[R5]at hown1
 have HO1:=Lib.hid hown1
 have HB1:=Lib.hid hB1
 have HV1:=Lib.hid ((HV.out.below hB1).mono hB1.size)
 have HL1:=Lib.hid (HL.out.below hB1 hLN)
 clear hown1 hgrow1 hB1
 go_wp2_with fail
 refine(HFO.out w1 HL1.out HV1.out).mono ?_
 rintro e w2 ⟨M,P,S,ar,vv,rfl,hI⟩
 obtain⟨D,hown,hD1,hD2⟩:=id hI.map
 have hAb:w.heap.size<w1.heap.size:=(cP HO1.out rfl).2
 have HIF:=Lib.hid hI
 obtain⟨Rb,hRb⟩:∃ Rb,w2.heap.size=Rb:=⟨_,rfl⟩
 have HOW:=Lib.hid hown
 have HD1:=Lib.hid hD1
 have HD2:=Lib.hid hD2
 have hMlt:=hI.map.lt
 have hMge:=hI.YU
 have HB2:=Lib.hid hI.below
 rw[HN.out]at HOW
 clear hI hown hD1 hD2
 go_wp2_with (first
  |(at_range;refine wpList_range_own _ rfl _ 117 rfl 3 119 WB Tryz.underlying117 pR M n D rfl HOW.out ?_;intro w3 hrg3 hg3 hs3)
  | go_in)
 go_frame
 rw[hRb]at hrg3 hs3 ⊢
 have HSB:=Lib.hid (show ∀ f,f<t.length→bZ t f=true→∀ s ∈ S f,w1.heap.size≤s∧s<Rb from fun f hf hfl s hs=>by
  obtain⟨R,hR,-⟩:=HIF.out.flow f hf hfl
  have:=hR.lt s hs
  rw[hRb]at this;exact this)
 have HST:=Lib.hid (show RsR w w1.heap.size M Rb n D t P S (.slice (some ⟨w.heap.size,0,none⟩) n n) w3 from by
  have hb3:Below w2.heap.size w2 w3:=⟨hg3.os,hg3.tape,hg3.output,hg3.size,fun b hb=>hg3.block b hb (by simp)⟩
  have hI3:=HIF.out.on hb3
  refine⟨_,_,List.replicate n zR,hrg3,fun kl h=>h,?_,by rw[hs3];omega⟩
  have hdone:∀ f,f<t.length→bZ t f=true→Maps.has D (.int .i64 (f:Int))=true:=fun f hf hfl=>by
   obtain⟨-,hk⟩:=HD1.out f (P f) (by rw[if_pos ⟨hfl,hf⟩])
   exact Maps.has_true_of_atKey hk
  refine { row:=?_,len:=by rw[List.length_replicate,HN.out],bJ:=fun g hg=>?_,flow:=fun f hf hfl _=>?_,blocks:=fun f hf hfl s hs=>?_,apart:=HIF.out.apart,qY:=HIF.out.qY,ent:=fun i hi=>?_,below:=(HB1.out.trans (HB2.out.mono HB1.out.size)).trans (hb3.mono (by have:=HB1.out.size;have:=HB2.out.size;omega)),wN:=HB1.out.size,NM:=hMge }
  ·rw[HN.out]
   exact dY HO1.out (fun g hg=>by
    have:=(cP HO1.out hg).2
    exact(hb3.block g (by have:=HB2.out.size;omega)).trans (HB2.out.block g this))
  ·have:g=w.heap.size:=by
    have:some w.heap.size=some g:=hg
    injection this with this;exact this.symm
   omega
  ·obtain⟨R,h1,h2⟩:=hI3.flow f hf hfl
   exact⟨R,h1,h2⟩
  ·have:=HSB.out f hf hfl s hs
   exact⟨this.1,by rw[hs3];omega⟩
  ·refine⟨zR,by rw[List.getElem?_replicate,if_pos (by rw[← HN.out];exact hi)],.inr ⟨fun f hf hfl hd=>?_,rfl⟩⟩
   have hd:(!Maps.has D (.int .i64 (f:Int)))=true:=hd
   rw[hdone f hf hfl]at hd
   cases hd)
 clear hrg3 hg3 hs3 HIF
 go_loopw [5] (fun _ wr=>RsR w w1.heap.size M Rb n D t P S (.slice (some ⟨w.heap.size,0,none⟩) n n) wr) (fun _ wr=>wr.rangeLeft M Rb)
 case atStart=>exact HST.out
 case round =>
  clear HST
  obtain⟨left,cnt,A,hrg,hld,hRI,hRbs⟩:=hrel
  have HRI:=Lib.hid hRI
  have HLD:=Lib.hid hld
  clear hRI hld
  go_wp2_with (first
   |(at_next;refine wpList_next_ranges _ rfl _ rfl 3 WB pR (Value.int .i64) mkP (fun key kl hkey=>by obtain⟨x,rfl,_⟩:=Maps.keyOf_int_inv Tryz.underlying3 hkey;exact⟨x,rfl⟩) (fun v y hv=>aD9 hv) M Rb n D left cnt rfl hrg ?_ ?_)
   | go_in)
  ·intro hc0 hl0
   have HR:=Lib.hid (show O9 w t (.returned (.slice (some ⟨w.heap.size,0,none⟩) n n)) wr from ⟨_,_,_,_,_,_,rfl,by
    have:=HRI.out
    rw[show (fun f:Nat=>!left (.int .i64 (f:Int)))=fun _=>true from funext fun f=>by rw[hl0];rfl]at this
    exact this⟩)
   clear HRI HLD hrg hl0
   go_wp2
   go_ret
   exact HR.out
  ·intro x c kl yd ys w4 cnt4 hkey hlk hv hat hrg4 hlt4 hg4 hs4 hen
   obtain⟨x',hx',rfl,-⟩:=Maps.keyOf_int_inv Tryz.underlying3 hkey
   obtain⟨f,Q,hf1,hf2⟩:=HD2.out _ (HLD.out _ hlk)
   obtain rfl:x=x':=by injection hx'
   obtain rfl:x=(f:Int):=by injection hf1
   obtain⟨⟨hfl,hf⟩,hQ⟩:(bZ t f=true∧f<t.length)∧P f=Q:=by
    by_cases h:bZ t f=true∧f<t.length
    ·rw[if_pos h]at hf2;injection hf2 with hf2;exact⟨h,hf2⟩
    ·rw[if_neg h]at hf2;cases hf2
   obtain⟨-,hk⟩:=HD1.out f Q hf2
   have hy:DataW.lit (.int .i64 (Q:Int))=yd:=(hk .nil).symm.trans (hat .nil)
   subst hy
   have hc:=WA hv
   subst hQ
   obtain rfl:c=some (P f):=by
    cases c with
    | none=>cases hc
    | some z=>unfold mkP at hc;injection hc with hc;injection hc with hc;injection hc with hc;rw[hc]
   have hRb2:=hrg4.lt
   have hRI4:nN w w4 w1.heap.size M t P S (.slice (some ⟨w.heap.size,0,none⟩) n n) A (fun f=>!left (.int .i64 (f:Int))):=HRI.out.on (T:=[Rb]) (fA.grown hg4 (fun j ej=>.inl (by injection ej with ej;simp[ej]))) (fun b hb=>by
    simp at hb
    subst hb
    exact⟨by have:=HB2.out.size;omega,fun f' hf' hfl' hm=>by have:=(HSB.out f' hf' hfl' b hm).2;omega⟩) (fun g hg=>by
    have:w.heap.size=g:=by
     have:some w.heap.size=some g:=hg
     injection this
    have:=HB2.out.size
    simp;omega)
   have hdf:(!left (.int .i64 (f:Int)))=false:=by rw[hlk];rfl
   obtain⟨R,hF,hR⟩:=hRI4.flow f hf hfl hdf
   have HEND:=Lib.hid (lU hF (by have h1:=congrArg List.length hR;rw[List.length_map]at h1;have:=BO t f t.length;have:=HN.out;omega) (fun p hp=>R4 HS.out (f:=f) (i:=t.length) (by rw[← hR];exact List.mem_map.2 ⟨p,hp,rfl⟩)))
   have HR:=Lib.hid hR
   have HRI4:=Lib.hid hRI4
   have HRG4:=Lib.hid hrg4
   have HLT4:=Lib.hid (show w4.rangeLeft M Rb<wr.rangeLeft M Rb by rw[hrg4.left_eq,hrg.left_eq];exact hlt4)
   have HDF:=Lib.hid hdf
   have HLK:=Lib.hid hlk
   have HFF:=Lib.hid (⟨hf,hfl⟩:f<t.length∧bZ t f=true)
   dsimp only[mkP]at hen ⊢
   clear hkey hlk hv hat hrg hrg4 hlt4 hg4 hs4 hf1 hf2 hk hc hF hR hRI4 hdf hx' hf hfl
   go_wp2_with (go_at_call 74;refine HEND.out.mono ?_;rintro e w5 ⟨rfl,R',hF5,ho5,hR5⟩;have HF5:=Lib.hid hF5;have HO5:=Lib.hid ho5;have HR5:=Lib.hid hR5;clear hF5 ho5 hR5;obtain⟨vf,Bx,e0,-,-,-,-,-,eown,ehv,-⟩:=HF5.out.mem;obtain⟨Af,cf,rfl,ecm,enc,eAf⟩:=aW eown;have EOW:=Lib.hid eown;have EHV:=Lib.hid ehv;clear eown ehv)
   have ROW5:=Lib.hid (show w5.ownsRow w.heap.size 126 3 (.slice (some ⟨w.heap.size,0,none⟩) n n) n (Ba.rows cR (iB (R'.take 0) A)) from by
    have:=HRI4.out.row
    rw[HN.out]at this
    exact dY this (fun g hg=>by
     have hg:w.heap.size=g:=by
      have:some w.heap.size=some g:=hg
      injection this
     refine HO5.out.block g (cP this (by rw[← hg];rfl)).2 (fun hm=>?_)
     have:=(HSB.out f HFF.out.1 HFF.out.2 g hm).1
     omega))
   obtain⟨q,hq⟩:∃ q,R'.length=q:=⟨_,rfl⟩
   have HQ:=Lib.hid hq
   have hq9:q≤9000:=by
    have h1:=congrArg List.length HR5.out
    rw[List.length_map,HR.out,RV]at h1
    have:=BO t f t.length
    have:=HN.out
    omega
   have HRF:=Lib.hid (show R'.map Prod.fst=mP t f from HR5.out.trans (by rw[HR.out];rfl))
   rw[hq]at EOW enc eAf ⊢
   clear hq HR5
   go_loopw [28] (fun u28 wi=>∃ k:Nat,u28=.int .i64 (k:Int)∧k≤q∧fA [w.heap.size] w5 wi∧wi.ownsRow w.heap.size 126 3 (.slice (some ⟨w.heap.size,0,none⟩) n n) n (Ba.rows cR (iB (R'.take k) A))) (fun u28 _=>q - (intOf u28).toNat)
   case atStart=>exact⟨0,rfl,Nat.zero_le _,fA.refl _ _,ROW5.out⟩
   case round =>
    clear ROW5
    obtain⟨k,rfl,hkq,hof,hrw⟩:=hrel
    have HOF:=Lib.hid hof
    have HRW:=Lib.hid hrw
    have k0:(0:Int)≤(k:Int):=by omega
    by_cases hlt:k<q
    ·obtain⟨gf,rfl,hgf1,hgf2⟩:=eAf (by omega)
     obtain⟨⟨r,vk⟩,hr⟩:=fV (l:=R') (i:=k) (by have:=HQ.out;omega)
     have hri:r ∈ mP t f:=by rw[← HRF.out];exact List.mem_map.2 ⟨_,List.mem_of_getElem? hr,rfl⟩
     have hrn:=(F3 HS.out HFF.out.2 hri).1
     rw[HN.out]at hrn
     have hne:gf≠w.heap.size:=by omega
     have upr:∀ j,wr.cell? ⟨gf,j,none⟩=w5.cell? ⟨gf,j,none⟩:=fun j=>World.cell?_of_block (a:=⟨gf,j,none⟩) (hof.block gf hgf2 (by simp;exact hne))
     have y0:wr.cell? ⟨gf,k * 3,none⟩=some (.int .i64 (r.node:Int)):=by
      rw[upr]
      have:=EOW.out.cellAt (k * 3+0) (by omega)
      rw[Ba.cB cR jF _ _ _ hr 0 (by omega)]at this
      exact this
     have y1:wr.cell? ⟨gf,k * 3+1,none⟩=some (.int .i64 r.place):=by
      rw[upr,EOW.out.cellAt (k * 3+1) (by omega),Ba.cB cR jF _ _ _ hr 1 (by omega)];rfl
     have y2:wr.cell? ⟨gf,k * 3+2,none⟩=some vk:=by
      rw[upr,EOW.out.cellAt (k * 3+2) (by omega),Ba.cB cR jF _ _ _ hr 2 (by omega)];rfl
     have k1:(k:Int)<(q:Int):=by omega
     have n0:(0:Int)≤(r.node:Int):=by omega
     have n1:(r.node:Int)<(n:Int):=by omega
     obtain⟨Av,cv,rfl⟩:∃ Av cv,vk=.slice Av r.kept.length cv:=by
      obtain⟨_,_,-,-,-,-,-,-,-,-,hk⟩:=HF5.out.mem
      obtain⟨A',c',e,-⟩:=aW (hk (r,vk) (List.mem_of_getElem? hr)).1
      exact⟨A',c',e⟩
     obtain⟨m,hm⟩:∃ m,r.kept.length=m:=⟨_,rfl⟩
     rw[hm]at y2 hr
     have hAl:(iB (R'.take k) A).length=n:=by rw[BS,HRI4.out.len];exact HN.out
     obtain⟨⟨r0,v0⟩,hr0⟩:=fV (l:=iB (R'.take k) A) (i:=r.node) (by omega)
     have u0:wr.cell? ⟨w.heap.size,r.node * 3,none⟩=some (.int .i64 (r0.node:Int)):=by
      have:=hrw.cellAt (r.node * 3+0) (by omega)
      rw[Ba.cB cR jF _ _ _ hr0 0 (by omega)]at this
      exact this
     have u1:wr.cell? ⟨w.heap.size,r.node * 3+1,none⟩=some (.int .i64 r0.place):=by
      rw[hrw.cellAt (r.node * 3+1) (by omega),Ba.cB cR jF _ _ _ hr0 1 (by omega)];rfl
     have u2:wr.cell? ⟨w.heap.size,r.node * 3+2,none⟩=some v0:=by
      rw[hrw.cellAt (r.node * 3+2) (by omega),Ba.cB cR jF _ _ _ hr0 2 (by omega)];rfl
     have fz:∀ j,wr.frozen? ⟨w.heap.size,j,none⟩=false:=fun j=>hrw.frozenAt j
     have fz0:=fz (r.node * 3)
     have fz1:=fz (r.node * 3+1)
     have fz2:=fz (r.node * 3+2)
     have hAw:w.heap.size<wr.heap.size:=(cP hrw rfl).2
     have HFN:=Lib.hid (WE hrw (p:=(r,.slice Av m cv)) hr0)
     have HSN:=Lib.hid (show iB (R'.take (k+1)) A=(iB (R'.take k) A).set r.node (r,.slice Av m cv) by
      rw[List.take_add_one,hr]
      exact J3 _ _ _)
     have HFX:=Lib.hid (fun(o:Obj)=>(⟨(HOF.out.trans HFN.out.2 (fun s hs=>.inl hs)).trans (fA.gC (S:=[w.heap.size]) ((Below.refl _ _).alloc (Nat.le_refl _) o)) (fun s hs=>.inl hs),by
      rw[HSN.out]
      exact HFN.out.1.alloc o⟩:fA [w.heap.size] w5 ((((wr.setCell ⟨w.heap.size,r.node * 3,none⟩ (.int .i64 (r.node:Int))).setCell ⟨w.heap.size,r.node * 3+1,none⟩ (.int .i64 r.place)).setCell ⟨w.heap.size,r.node * 3+2,none⟩ (.slice Av m cv)).alloc o) ∧
       ((((wr.setCell ⟨w.heap.size,r.node * 3,none⟩ (.int .i64 (r.node:Int))).setCell ⟨w.heap.size,r.node * 3+1,none⟩ (.int .i64 r.place)).setCell ⟨w.heap.size,r.node * 3+2,none⟩ (.slice Av m cv)).alloc o).ownsRow w.heap.size 126 3 (.slice (some ⟨w.heap.size,0,none⟩) n n) n (Ba.rows cR (iB (R'.take (k+1)) A))))
     clear hr hri upr hof hrw hm hr0 hAl fz
     go_wp2
     go_roundw
     case rel=>exact⟨k+1,by go_num,by omega,(HFX.out _).1,(HFX.out _).2⟩
     case measure=>simp[intOf];omega
    ·obtain rfl:k=q:=by omega
     have hS0:=fun g hg hgl s hs=>HSB.out g hg hgl s hs
     have hfd:=HRI4.out.WD HFF.out.1 HFF.out.2 HDF.out HF5.out HRF.out HO5.out hof (Ab:=w.heap.size) (c:=n) (by rw[HN.out]) (by
      rw[← HQ.out,List.take_length]at hrw
      rw[HN.out];exact hrw) (Nat.le_refl _)
     have hRG6:wr.ranges Tryz.prog 3 pR M Rb n D (fun z=>left z && !z.sameKey (.int .i64 (f:Int))) cnt4:=by
      have hb4:∀ b,b ∉ S f→b≠w.heap.size→b<w4.heap.size→wr.heap[b]?=w4.heap[b]?:=fun b hb1 hb2 hb3 =>
       (hof.block b (by have:=HO5.out.size;omega) (by simpa using hb2)).trans (HO5.out.block b hb3 hb1)
      have hM4:=HRG4.out.owns.lt
      exact R6 HRG4.out (hb4 M (HRI4.out.qY f HFF.out.1 HFF.out.2) (by omega) hM4) (hb4 Rb (fun hm=>by have:=(hS0 f HFF.out.1 HFF.out.2 Rb hm).2;omega) (by have:=HB2.out.size;omega) hRb2)
     have HLT6:=Lib.hid (show wr.rangeLeft M Rb<_ from by
      rw[hRG6.left_eq,← HRG4.out.left_eq]
      exact HLT4.out)
     have HNX:=Lib.hid (show RsR w w1.heap.size M Rb n D t P S (.slice (some ⟨w.heap.size,0,none⟩) n n) wr from by
      refine⟨_,cnt4,iB R' A,hRG6,fun kl hkl=>HLD.out kl (by
       have:(left kl && !kl.sameKey (.int .i64 (f:Int)))=true:=hkl
       rw[Bool.and_eq_true]at this;exact this.1),?_,by have:=HO5.out.size;have:=hof.size;omega⟩
      have hfun:(fun g:Nat=>!(left (.int .i64 (g:Int)) && !(Lit.int .i64 (g:Int)).sameKey (.int .i64 (f:Int))))=fun g:Nat=>!left (.int .i64 (g:Int)) || g==f:=by
       funext g
       have hsk:(Lit.int .i64 (g:Int)).sameKey (.int .i64 (f:Int))=(g==f):=by
        by_cases e:g=f
        ·subst e
         rw[WideAt.sameKey_self (show WideAt.IsKeyLit (Lit.int .i64 (g:Int)) from trivial)];simp
        ·rw[Maps.sameKey_ne (O7 e)]
         exact(beq_eq_false_iff_ne.2 e).symm
       rw[hsk]
       cases left (.int .i64 (g:Int))<;>cases (g==f)<;>rfl
      show nN w wr w1.heap.size M t P S _ _ (fun g:Nat=>!(left (.int .i64 (g:Int)) && !(Lit.int .i64 (g:Int)).sameKey (.int .i64 (f:Int))))
      rw[hfun]
      exact hfd)
     clear hRG6
     clear hfd hof hrw
     go_wp2
     go_roundw
     case rel=>exact HNX.out
     case measure=>exact HLT6.out
end Go.Proofs.YtgpihfacmpbpaaaGreatDoor.Nl
