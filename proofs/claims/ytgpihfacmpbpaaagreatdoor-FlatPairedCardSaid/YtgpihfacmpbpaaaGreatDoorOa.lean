/-
  Put together: CnA, CnB, CnC, CnD, CnE.
-/
import Derived.Test.YtgpihfacmpbpaaaGreatDoorNb
import Derived.Test.YtgpihfacmpbpaaaGreatDoorVc
import Derived.Test.YtgpihfacmpbpaaaGreatDoorNi
import Derived.Test.YtgpihfacmpbpaaaGreatDoorNe
namespace Go.Proofs.YtgpihfacmpbpaaaGreatDoor.Cn
open Go.RowKit Tr Nu
theorem uX (p:List Tr.Op) (n i:Nat) (f:Tr.Op→Tr.Op):(p.modify n f).getD i root=if n=i∧n<p.length then f (p.getD i root) else p.getD i root:=by
 rw[List.getD_eq_getElem?_getD,List.getD_eq_getElem?_getD,gH]
 by_cases h:n=i
 ·subst h
  by_cases hl:n<p.length
  ·rw[if_pos ⟨rfl,hl⟩,List.getElem?_eq_getElem hl];simp
  ·rw[if_neg (by omega),List.getElem?_eq_none (by omega)];rfl
 ·rw[if_neg (by omega)]
  cases p[i]? with
  | none=>rfl
  | some a=>simp[h]
theorem eL (p:List Tr.Op) (o:Tr.Op) (i:Nat):(p++[o]).getD i root=if i=p.length then o else p.getD i root:=by
 rw[List.getD_eq_getElem?_getD,List.getD_eq_getElem?_getD]
 by_cases h:i=p.length
 ·subst h;rw[if_pos rfl,List.getElem?_concat_length];rfl
 ·rw[if_neg h]
  rcases Nat.lt_or_ge i p.length with h1 | h1
  ·rw[List.getElem?_append_left h1]
  ·rw[List.getElem?_eq_none (by simp;omega),List.getElem?_eq_none (by omega)]
theorem getD_take (p:List Tr.Op) (n i:Nat):(p.take n).getD i root=if i<n then p.getD i root else root:=by
 rw[List.getD_eq_getElem?_getD,List.getD_eq_getElem?_getD,List.getElem?_take]
 split<;>rfl
theorem gW (p:List Tr.Op):aZ p=p.getD (p.length - 1) root:=by
 unfold aZ
 rw[List.getLastD_eq_getLast?,List.getLast?_eq_getElem?,List.getD_eq_getElem?_getD]
structure Oz (o o':Tr.Op):Prop where
 kind:o'.kind=o.kind
 notes:o'.notes=o.notes
 first:o'.first=o.first
 kids:cM o.kind q7=true→o'.kids=o.kids
 list:cM 108 o'.kids=cM 108 o.kids
 text:o'.text.size≤o.text.size
theorem Oz.refl (o:Tr.Op):Oz o o:=⟨rfl,rfl,rfl,fun _=>rfl,rfl,Nat.le_refl _⟩
def Pz (p p':List Tr.Op):Prop:=p'.length=p.length∧∀ i,Oz (p.getD i root) (p'.getD i root)
theorem Pz.refl (p:List Tr.Op):Pz p p:=⟨rfl,fun _=>Oz.refl _⟩
section
variable {p p':List Tr.Op} (h:Pz p p')
include h
theorem Pz.top:Oz (aZ p) (aZ p'):=by rw[gW,gW,h.1];exact h.2 _
theorem Pz.texts:aJ p'=aJ p:=by unfold aJ;rw[h.top.kind,h.top.list]
theorem Pz.iC (ks:ByteArray):∀ n,iC p' ks n=iC p ks n
 | 0=>rfl
 | n+1=>by unfold Tr.iC;rw[(h.2 n).kind,Pz.iC ks n]
theorem Pz.last (ks:ByteArray):aN p' ks=aN p ks:=by unfold aN;rw[h.iC,h.1]
theorem Pz.kinds:p'.map Tr.Op.kind=p.map Tr.Op.kind:=by
 apply List.ext_getElem?
 intro i
 rw[List.getElem?_map,List.getElem?_map]
 rcases Nat.lt_or_ge i p.length with h1 | h1
 ·have:=(h.2 i).kind
  rw[List.getD_eq_getElem?_getD,List.getD_eq_getElem?_getD,List.getElem?_eq_getElem h1,List.getElem?_eq_getElem (by rw[h.1];exact h1)]at this
  rw[List.getElem?_eq_getElem h1,List.getElem?_eq_getElem (by rw[h.1];exact h1)]
  exact congrArg some this
 ·rw[List.getElem?_eq_none h1,List.getElem?_eq_none (by rw[h.1];exact h1)]
end
theorem AJ (p:List Tr.Op) (k:Nat):bG p k=(((p.map Tr.Op.kind).drop 1).filter fun c=>c==k).length:=by
 unfold bG
 rw[← List.map_drop,List.filter_map,List.length_map];rfl
section
variable {p p':List Tr.Op} (h:Pz p p')
include h
theorem Pz.many (k:Nat):bG p' k=bG p k:=by rw[AJ,AJ,h.kinds]
theorem Pz.opens (k:Nat):eH p' k=eH p k:=by
 have t:=h.top
 unfold eH
 by_cases hk:(aZ p).kind=114
 ·simp only[h.1,t.kind,t.kids (by rw[hk];rfl),h.texts,h.many,h.last,(h.2 _).notes]
 ·simp only[h.1,t.kind,h.texts,h.many,h.last,(h.2 _).notes,if_neg hk]
end
theorem YX {k:Nat} (h:cM k fB=true∨k=105):cM k q7=false:=by
 have e1:cM k fB=[49,50,51,112,99,110,101,115].contains k:=rfl
 have e2:cM k q7=[108,116,114].contains k:=rfl
 rw[e1]at h
 rw[e2]
 simp at h ⊢
 omega
theorem QC {p:List Tr.Op} (h:aJ p=true):cM (aZ p).kind q7=false:=by
 unfold aJ at h
 rw[Bool.or_eq_true,Bool.and_eq_true,beq_iff_eq]at h
 exact YX (h.imp id And.left)
theorem QD {p:List Tr.Op} (h:aJ p=true):0<p.length:=by
 cases p with
 | nil=>cases h
 | cons _ _=>exact Nat.succ_pos _
structure Tzo (o o':Tr.Op) (m:Nat):Prop where
 kind:o'.kind=o.kind
 notes:o'.notes=o.notes
 first:o'.first=o.first
 kids:cM o.kind q7=true→o'.kids=o.kids
 list:cM 108 o'.kids=cM 108 o.kids
 text:o'.text.size=o.text.size+m
def Tz (p q:List Tr.Op) (n:Nat):Prop:=q.length=p.length∧∀ i,Tzo (p.getD i root) (q.getD i root) (if i=aN p bU∧0<i then n else 0)
theorem Tz.pz {p q:List Tr.Op} {n:Nat} (h:Tz p q n):Pz q p:=⟨h.1.symm,fun i=>⟨(h.2 i).kind.symm,(h.2 i).notes.symm,(h.2 i).first.symm,fun hk=>((h.2 i).kids (by rw[← (h.2 i).kind];exact hk)).symm,(h.2 i).list.symm,by have:=(h.2 i).text;omega⟩⟩
theorem FC (k:Nat) (a b:ByteArray):cM k (a++b)=(cM k a || cM k b):=by
 unfold cM
 rw[Lx.eJ,Bool.eq_iff_iff]
 simp
theorem G0 (o:Tr.Op):cM 108 (aG 46 o).kids=cM 108 o.kids:=by
 show cM 108 (o.kids++dS 46)=_
 rw[FC,show cM 108 (dS 46)=false from rfl,Bool.or_false]
theorem kS {t:List Nd} {p:List Tr.Op} {x:Lx.Lx} (hx:x.kind=1) (ht:aJ p=true) :
  (aE (t,p) x).1.length=t.length+1∧Tz p (aE (t,p) x).2 x.text.size:=by
 have hp:=QD ht
 have hl:=QC ht
 rw[gW]at hl
 have h1:Tz p (p.modify (p.length - 1) (aG 46)) 0:=by
  refine⟨by simp,fun i=>?_⟩
  rw[uX,show (if i=aN p bU∧0<i then 0 else 0)=0 by split<;>rfl]
  by_cases h:p.length - 1=i∧p.length - 1<p.length
  ·rw[if_pos h]
   exact⟨rfl,rfl,rfl,fun hk=>(by rw[← h.1,hl]at hk;cases hk),G0 _,rfl⟩
  ·rw[if_neg h];exact⟨rfl,rfl,rfl,fun _=>rfl,rfl,rfl⟩
 have hlast:aN (p.modify (p.length - 1) (aG 46)) bU=aN p bU:=(h1.pz.last bU).symm
 have e:aE (t,p) x=(t++[⟨46,x.text,(x.place:Int),1⟩],if 0<aN p bU then (p.modify (p.length - 1) (aG 46)).modify (aN p bU) (gI x.text) else p.modify (p.length - 1) (aG 46)):=by
  unfold aE
  simp only[hx,if_true,ht,hlast]
 rw[e]
 refine⟨by simp,?_⟩
 simp only[]
 have hlt:=oF bU hp
 by_cases h0:0<aN p bU
 ·rw[if_pos h0]
  refine⟨by simp,fun i=>?_⟩
  have g:=h1.2 i
  rw[show (if i=aN p bU∧0<i then 0 else 0)=0 by split<;>rfl]at g
  rw[uX]
  by_cases h:i=aN p bU
  ·rw[if_pos ⟨h.symm,by rw[h1.1];exact hlt⟩,if_pos ⟨h,by omega⟩]
   exact⟨g.kind,g.notes,g.first,g.kids,g.list,by show (_++_:ByteArray).size=_;rw[ByteArray.size_append,g.text,Nat.add_zero]⟩
  ·rw[if_neg (fun hh=>h hh.1.symm),if_neg (fun hh=>h hh.1)];exact g
 ·rw[if_neg h0]
  refine⟨h1.1,fun i=>?_⟩
  have g:=h1.2 i
  rw[show (if i=aN p bU∧0<i then 0 else 0)=0 by split<;>rfl]at g
  rw[if_neg (by omega)];exact g
theorem oG {t:List Nd} {p:List Tr.Op} {x:Lx.Lx} (hx:x.kind=1) (ht:aJ p=true) :
  (aD t p x).2=0↔¬ (2000≤t.length∨(0<aN p bU∧60<(p.getD (aN p bU) root).text.size+x.text.size)):=by
 unfold aD
 rw[if_pos hx,if_neg (by rw[ht];exact fun h=>Bool.noConfusion h)]
 split
 ·rename_i h;exact⟨fun e=>(by cases e),fun e=>absurd h e⟩
 ·rename_i h;exact⟨fun _=>h,fun _=>rfl⟩
def Rz (s s':List Nd × List Tr.Op):Prop:=s'.1.length≤s.1.length∧Pz s.2 s'.2
theorem Rz.refl (s:List Nd × List Tr.Op):Rz s s:=⟨Nat.le_refl _,Pz.refl _⟩
theorem Tz.less {p q p' q':List Tr.Op} {n n':Nat} (h:Pz p p') (hq:Tz p q n) (hq':Tz p' q' n') (hn:n'≤n):Pz q q':=by
 refine⟨by rw[hq.1,hq'.1,h.1],fun i=>?_⟩
 have a:=hq.2 i
 have b:=hq'.2 i
 have c:=h.2 i
 rw[h.last]at b
 refine⟨by rw[a.kind,b.kind,c.kind],by rw[a.notes,b.notes,c.notes],by rw[a.first,b.first,c.first],fun hk=>?_,by rw[a.list,b.list,c.list],?_⟩
 ·rw[a.kind]at hk
  rw[a.kids hk,b.kids (by rw[c.kind];exact hk),c.kids hk]
 ·rw[a.text,b.text]
  have:=c.text
  split<;>omega
theorem Tz.two {p q r p' r':List Tr.Op} {n m k:Nat} (h:Pz p p') (hq:Tz p q n) (hr:Tz q r m) (hr':Tz p' r' k) (hk:k≤n+m):Pz r r':=by
 refine⟨by rw[hr.1,hq.1,hr'.1,h.1],fun i=>?_⟩
 have a:=hq.2 i
 have a2:=hr.2 i
 have b:=hr'.2 i
 have c:=h.2 i
 rw[h.last]at b
 rw[← hq.pz.last]at a2
 refine⟨by rw[a2.kind,a.kind,b.kind,c.kind],by rw[a2.notes,a.notes,b.notes,c.notes],by rw[a2.first,a.first,b.first,c.first],fun hk=>?_,by rw[a2.list,a.list,b.list,c.list],?_⟩
 ·rw[a2.kind,a.kind]at hk
  rw[a2.kids (by rw[a.kind];exact hk),a.kids hk,b.kids (by rw[c.kind];exact hk),c.kids hk]
 ·rw[a2.text,a.text,b.text]
  have:=c.text
  split<;>omega
def G2 (x x':Lx.Lx):Prop:=(x.kind=1∧x'.kind=1∧x'.text.size≤x.text.size)∨(x.kind≠1∧x'.kind=x.kind∧x'.name=x.name)
theorem Pz.mod {p p':List Tr.Op} (h:Pz p p') (n:Nat) (f:Tr.Op→Tr.Op) (hf:∀ o o',Oz o o'→Oz (f o) (f o')):Pz (p.modify n f) (p'.modify n f):=by
 refine⟨by simp[h.1],fun i=>?_⟩
 rw[uX,uX,h.1]
 split
 ·exact hf _ _ (h.2 i)
 ·exact h.2 i
theorem Pz.snoc {p p':List Tr.Op} (h:Pz p p') {o o':Tr.Op} (ho:Oz o o'):Pz (p++[o]) (p'++[o']):=by
 refine⟨by simp[h.1],fun i=>?_⟩
 rw[eL,eL,h.1]
 split
 ·exact ho
 ·exact h.2 i
theorem Pz.take {p p':List Tr.Op} (h:Pz p p') (n:Nat):Pz (p.take n) (p'.take n):=by
 refine⟨by simp[h.1],fun i=>?_⟩
 rw[getD_take,getD_take]
 split
 ·exact h.2 i
 ·exact Oz.refl _
theorem Oz.aG {o o':Tr.Op} (h:Oz o o') (k:Nat):Oz (Tr.aG k o) (Tr.aG k o') :=
 ⟨h.kind,h.notes,h.first,fun hk=>by show o'.kids++_=o.kids++_;rw[h.kids hk],by show cM 108 (_++_)=cM 108 (_++_);rw[FC,FC,h.list],h.text⟩
theorem Oz.cU {o o':Tr.Op} (h:Oz o o'):Oz (Tr.cU o) (Tr.cU o') :=
 ⟨h.kind,by show o'.notes+1=o.notes+1;rw[h.notes],h.first,h.kids,h.list,h.text⟩
theorem Oz.bW {o o':Tr.Op} (h:Oz o o') (n:Nat):Oz (Tr.bW n o) (Tr.bW n o'):=⟨h.kind,h.notes,rfl,h.kids,h.list,h.text⟩
theorem Rz.step {s s':List Nd × List Tr.Op} (h:Rz s s') {x x':Lx.Lx} (hx:G2 x x') (h1:¬ (x.kind=1∧aJ s.2=false)) (h2:(aD s.1 s.2 x).2=0) :
  ¬ (x'.kind=1∧aJ s'.2=false)∧(aD s'.1 s'.2 x').2=0∧Rz (aE s x) (aE s' x'):=by
 obtain⟨t,p⟩:=s
 obtain⟨t',p'⟩:=s'
 obtain⟨hl,hp⟩:=h
 simp only[]at h1 h2 hl hp ⊢
 have hT:=hp.top
 rcases hx with⟨a,b,c⟩ | ⟨a,b,c⟩
 ·have ht:aJ p=true:=by
   cases e:aJ p with
   | true=>rfl
   | false=>exact absurd ⟨a,e⟩ h1
  have ht':aJ p'=true:=by rw[hp.texts];exact ht
  rw[oG a ht]at h2
  obtain⟨d1,d2⟩:=kS (t:=t) a ht
  obtain⟨e1,e2⟩:=kS (t:=t') b ht'
  refine⟨by rw[ht'];exact fun hh=>Bool.noConfusion hh.2,?_,by omega,Tz.less hp d2 e2 c⟩
  rw[oG b ht',hp.last]
  have:=(hp.2 (aN p bU)).text
  omega
 ·refine⟨fun hh=>a (b▸hh.1),?_,?_⟩
  ·unfold aD at h2 ⊢
   rw[if_neg a]at h2
   rw[if_neg (by rw[b];exact a),b,c,hp.opens,hp.1,hp.many]
   by_cases k2:x.kind=2
   ·rw[if_pos k2]at h2 ⊢
    by_cases g1:eH p x.name=false
    ·rw[if_pos g1]at h2;cases h2
    ·rw[if_neg g1]at h2 ⊢
     by_cases g2:32<p.length∨(x.name=108∧8≤bG p 108)
     ·rw[if_pos g2]at h2;cases h2
     ·rw[if_neg g2]at h2 ⊢
      by_cases g3:2000≤t.length
      ·rw[if_pos g3]at h2;cases h2
      ·rw[if_neg (by omega)]
   ·rw[if_neg k2]at h2 ⊢
    simp only[hT.kind]at h2 ⊢
    by_cases g1:p.length=1∨(cM (aZ p).kind q7=true∧(aZ p).kids.size=0)
    ·rw[if_pos g1]at h2;cases h2
    ·have g1':¬ (p.length=1∨(cM (aZ p).kind q7=true∧(aZ p').kids.size=0)):=fun hh=>g1 (hh.imp id fun hh=>⟨hh.1,by rw[← hT.kids hh.1];exact hh.2⟩)
     rw[if_neg g1]at h2
     rw[if_neg g1']
     by_cases k4:(aZ p).kind=114
     ·rw[hT.kids (by rw[k4];rfl),(hp.2 _).first]
      split at h2
      ·cases h2
      ·rename_i hc;rw[if_neg hc]
     ·rw[if_neg (fun hh=>k4 hh.1)]
  ·by_cases k2:x.kind=2
   ·have e:∀ (T:List Nd) (P:List Tr.Op) (y:Lx.Lx),y.kind=2→y.name=x.name→aE (T,P) y=(T++[⟨x.name,aA,(y.place:Int),1⟩],(if x.name=110 then (P.modify (P.length - 1) (Tr.aG x.name)).modify (aN (P.modify (P.length - 1) (Tr.aG x.name)) bN) Tr.cU else P.modify (P.length - 1) (Tr.aG x.name))++[⟨x.name,aA,T.length,0,0,aA⟩]):=by
     intro T P y hy hn
     unfold aE
     simp only[hy,hn,if_true]
     rw[if_neg (by decide)]
    rw[e t p x k2 rfl,e t' p' x' (b.trans k2) c]
    refine⟨by simp;omega,?_⟩
    have hm:=hp.mod (p.length - 1) (Tr.aG x.name) (fun _ _ hh=>hh.aG _)
    rw[hp.1]
    simp only[]
    refine Pz.snoc ?_ ⟨rfl,rfl,rfl,fun _=>rfl,rfl,Nat.le_refl _⟩
    rw[hm.last]
    split
    ·exact hm.mod _ _ (fun _ _ hh=>hh.cU)
    ·exact hm
   ·have e:∀ (T:List Nd) (P:List Tr.Op) (y:Lx.Lx),y.kind=x.kind→aE (T,P) y=(T.modify (aZ P).spot (aF ((T.length:Int) - ((aZ P).spot:Int))),(if (aZ P).kind=114∧(P.getD (P.length - 1 - 1) root).first=0 then P.modify (P.length - 1 - 1) (Tr.bW (aZ P).kids.size) else P).take (P.length - 1)):=by
     intro T P y hy
     unfold aE
     simp only[hy,if_neg a,if_neg k2]
    rw[e t p x rfl,e t' p' x' b]
    refine⟨by simp;omega,?_⟩
    simp only[]
    rw[hp.1,hT.kind,(hp.2 _).first]
    refine Pz.take ?_ _
    split
    ·rename_i hc
     rw[hT.kids (by rw[hc.1];rfl)]
     exact hp.mod _ _ (fun _ _ hh=>hh.bW _)
    ·exact hp
inductive uY:List Lx.Lx→List Lx.Lx→Prop where
 | nil:uY [] []
 | cons {x x':Lx.Lx} {l l':List Lx.Lx}:G2 x x'→uY l l'→uY (x::l) (x'::l')
theorem G2.refl (x:Lx.Lx):G2 x x:=by
 by_cases h:x.kind=1
 ·exact .inl ⟨h,h,Nat.le_refl _⟩
 ·exact .inr ⟨h,rfl,rfl⟩
theorem uY.refl:∀ l:List Lx.Lx,uY l l
 | []=>.nil
 | x::l=>.cons (G2.refl x) (uY.refl l)
theorem AK {l l':List Lx.Lx} (h:uY l l'):∀ {s s':List Nd × List Tr.Op},Rz s s'→zW s l→zW s' l':=by
 induction h with
 | nil=>intro s s' _ _;trivial
 | cons hx _ ih =>
  intro s s' hz hr
  obtain⟨h1,h2,h3⟩:=hr
  obtain⟨a,b,c⟩:=hz.step hx h1 h2
  exact⟨a,b,ih c h3⟩
def wL (x:Ev):Lx.Lx:=⟨x.kind,x.name,x.text,0⟩
theorem QE {acc L:List Ev} {x:Ev} (h:zW ([],[root]) ((acc++x::L).map wL)):zW ([],[root]) ((cD acc x++L).map wL):=by
 by_cases hk:x.kind=1
 ·by_cases h0:x.text.size=0
  ·rw[cI hk h0]
   rw[List.map_append,uZ]at h ⊢
   obtain⟨h1,h2,-,h4⟩:=h
   refine⟨h1,?_⟩
   generalize (acc.map wL).foldl aE ([],[root])=S at h2 h4 ⊢
   obtain⟨t,p⟩:=S
   simp only[]at h2
   have ht:aJ p=true:=by
    cases e:aJ p with
    | true=>rfl
    | false=>exact absurd ⟨hk,e⟩ h2
   obtain⟨d1,d2⟩:=kS (t:=t) (x:=wL x) hk ht
   exact AK (uY.refl _) ⟨by simp only[];omega,d2.pz⟩ h4
  ·rcases List.eq_nil_or_concat acc with rfl | ⟨acc',y,rfl⟩
   ·rw[aI hk h0 cC];simpa using h
   ·rw[List.concat_eq_append]at h ⊢
    by_cases hy:y.kind=1
    ·rw[bX hk h0 hy]
     rw[List.append_assoc,List.map_append,uZ]at h ⊢
     obtain⟨h1,h2,h3,h4,h5,h6⟩:=h
     refine⟨h1,?_⟩
     generalize (acc'.map wL).foldl aE ([],[root])=S at h2 h3 h4 h5 h6 ⊢
     obtain⟨t,p⟩:=S
     simp only[]at h2 h3 h4 h5
     have ht:aJ p=true:=by
      cases e:aJ p with
      | true=>rfl
      | false=>exact absurd ⟨hy,e⟩ h2
     obtain⟨d1,d2⟩:=kS (t:=t) (x:=wL y) hy ht
     have ht2:aJ (aE (t,p) (wL y)).2=true:=by rw[← d2.pz.texts];exact ht
     have hyx:({ y with text:=y.text++x.text }:Ev).kind=1:=hy
     obtain⟨c1,c2⟩:=kS (t:=(aE (t,p) (wL y)).1) (x:=wL x) hk ht2
     obtain⟨e1,e2⟩:=kS (t:=t) (x:=wL { y with text:=y.text++x.text }) hyx ht
     have hsz:(wL { y with text:=y.text++x.text }).text.size=y.text.size+x.text.size:=ByteArray.size_append
     rw[oG (x:=wL x) hk ht2,← d2.pz.last]at h5
     rw[oG (x:=wL y) hy ht]at h3
     have hg:=(d2.2 (aN p bU)).text
     refine⟨by rw[ht];exact fun hh=>Bool.noConfusion hh.2,?_,?_⟩
     ·rw[oG hyx ht,hsz]
      have q1:(wL y).text.size=y.text.size:=rfl
      have q2:(wL x).text.size=x.text.size:=rfl
      rw[q2]at h5
      simp only[]at h3 h5 ⊢
      by_cases h00:0<aN p bU
      ·rw[if_pos ⟨rfl,h00⟩,q1]at hg;omega
      ·omega
     ·refine AK (uY.refl _) ?_ h6
      refine⟨?_,Tz.two (Pz.refl p) d2 c2 e2 (by rw[hsz];exact Nat.le_refl _)⟩
      show (aE (t,p) _).1.length≤(aE (aE (t,p) (wL y)) (wL x)).1.length
      rw[e1,c1,d1];omega
    ·rw[aI hk h0 (bK hy)];simpa using h
 ·rw[bQ hk];simpa using h
theorem T5:∀ (L acc:List Ev),zW ([],[root]) ((acc++L).map wL)→zW ([],[root]) ((L.foldl cD acc).map wL):=by
 intro L
 induction L with
 | nil=>intro acc h;rw[List.append_nil]at h;exact h
 | cons x L ih=>intro acc h;rw[List.foldl_cons];exact ih _ (QE h)
def tI (x:Ev):Prop:=(∃ s pl,x=jC s pl)∨(∃ k pl,k≠46∧x=mC k pl)∨x=lT
theorem LH {F:List Nd} {L:List Lx.Lx} (h:Wf F L) (K:Nat→ByteArray × Int) (O:Nat→Int):∀ p,∀ x ∈ iV K O p L,tI x:=by
 induction h with
 | nil=>intro p x hx;cases hx
 | text s pl _ ih =>
  intro p x hx
  rw[eX]at hx
  rcases List.mem_append.1 hx with h | h
  ·exact ih p x h
  ·rw[show iV K O (p+_) [pB s]=[jC _ _] from rfl,List.mem_singleton]at h
   exact .inl ⟨_,_,h⟩
 | node k pl _ _ hk ih1 ih2 =>
  intro p x hx
  rw[eX,kD]at hx
  rcases List.mem_append.1 hx with h | h
  ·exact ih1 p x h
  ·rcases List.mem_cons.1 h with rfl | h
   ·exact .inr (.inl ⟨_,_,hk,rfl⟩)
   ·rcases List.mem_append.1 h with h | h
    ·exact ih2 _ x h
    ·rw[List.mem_singleton]at h;exact .inr (.inr h)
theorem T6 {acc:List Ev} {x:Ev} (ha:∀ y ∈ acc,tI y) (hx:tI x):∀ y ∈ cD acc x,tI y:=by
 intro z hz
 by_cases hk:x.kind=1
 ·by_cases h0:x.text.size=0
  ·rw[cI hk h0]at hz;exact ha z hz
  ·rcases List.eq_nil_or_concat acc with rfl | ⟨acc',y,rfl⟩
   ·rw[aI hk h0 cC]at hz
    rw[List.nil_append,List.mem_singleton]at hz;subst hz;exact hx
   ·rw[List.concat_eq_append]at hz ha
    by_cases hy:y.kind=1
    ·rw[bX hk h0 hy]at hz
     rcases List.mem_append.1 hz with h | h
     ·exact ha z (List.mem_append_left _ h)
     ·rw[List.mem_singleton]at h
      rcases ha y (by simp) with⟨s,pl,rfl⟩ | ⟨k,pl,_,rfl⟩ | rfl
      ·exact .inl ⟨_,_,h⟩
      ·cases hy
      ·cases hy
    ·rw[aI hk h0 (bK hy)]at hz
     rcases List.mem_append.1 hz with h | h
     ·exact ha z h
     ·rw[List.mem_singleton]at h;subst h;exact hx
 ·rw[bQ hk]at hz
  rcases List.mem_append.1 hz with h | h
  ·exact ha z h
  ·rw[List.mem_singleton]at h;subst h;exact hx
theorem AL:∀ (L acc:List Ev),(∀ y ∈ acc,tI y)→(∀ y ∈ L,tI y)→∀ y ∈ L.foldl cD acc,tI y:=by
 intro L
 induction L with
 | nil=>intro acc h _;exact h
 | cons x L ih=>intro acc h h2;rw[List.foldl_cons];exact ih _ (T6 h (h2 x (List.mem_cons_self ..))) (fun y hy=>h2 y (List.mem_cons_of_mem _ hy))
theorem sK:∀ (L:List Ev) (n:Nat),dep (n+1) L=some 0→(∀ x ∈ L,tI x)→∃ M R,L=M++lT::R∧eR M∧dep n R=some 0
 | [],n,h,_=>by cases h
 | x::L,n,h,ho=>by
  have hoL:∀ y ∈ L,tI y:=fun y hy=>ho y (List.mem_cons_of_mem _ hy)
  rcases ho x (List.mem_cons_self ..) with⟨s,pl,rfl⟩ | ⟨k,pl,_,rfl⟩ | rfl
  ·rw[kE rfl]at h
   obtain⟨M,R,rfl,h1,h2⟩:=sK L n h hoL
   exact⟨jC s pl::M,R,rfl,by unfold eR;rw[kE rfl];exact h1,h2⟩
  ·rw[tV rfl]at h
   obtain⟨M,R,rfl,h1,h2⟩:=sK L (n+1) h hoL
   obtain⟨M2,R2,e,h3,h4⟩:=sK R n h2 (fun y hy=>hoL y (by simp[hy]))
   refine⟨(mC k pl::(M++[lT]))++M2,R2,by rw[e];simp,(h1.node k pl).app h3,h4⟩
  ·rw[tW (by decide) (by decide)]at h
   exact⟨[],L,rfl,rfl,h⟩
 termination_by L _ _ _=>L.length
 decreasing_by all_goals (subst_vars;simp;try omega)
theorem wM:∀ (L:List Ev),eR L→(∀ x ∈ L,tI x)→Wf (aP L) (L.map wL)
 | [],_,_=>.nil
 | x::L,h,ho=>by
  have hoL:∀ y ∈ L,tI y:=fun y hy=>ho y (List.mem_cons_of_mem _ hy)
  rcases ho x (List.mem_cons_self ..) with⟨s,pl,rfl⟩ | ⟨k,pl,hk,rfl⟩ | rfl
  ·have hb:eR L:=by unfold eR at h;rw[kE rfl]at h;exact h
   have:=(Wf.text s pl Wf.nil).app (wM L hb hoL)
   rw[show jC s pl::L=[jC s pl]++L from rfl,oH (eR.text s pl) hb,FD]
   exact this
  ·have h2:dep 1 L=some 0:=by unfold eR at h;rw[tV rfl]at h;exact h
   obtain⟨M,R,rfl,h3,h4⟩:=sK L 0 h2 hoL
   have w1:=wM M h3 (fun y hy=>hoL y (by simp[hy]))
   have w2:=wM R h4 (fun y hy=>hoL y (by simp[hy]))
   have:=(Wf.node k pl Wf.nil w1 hk).app w2
   rw[show mC k pl::(M++lT::R)=(mC k pl::(M++[lT]))++R by simp,oH (h3.node k pl) h4,wO h3,List.map_append,List.map_cons,List.map_append]
   exact this
  ·unfold eR at h;rw[pE (by decide) (by decide)]at h;cases h
 termination_by L _ _=>L.length
 decreasing_by all_goals (subst_vars;simp;try omega)
end Go.Proofs.YtgpihfacmpbpaaaGreatDoor.Cn
namespace Go.Proofs.YtgpihfacmpbpaaaGreatDoor.Cn
open Go.RowKit Tr Nu
theorem vA:∀ (l:List Sp) (a:Nat),(eA a l).Sublist l
 | [],_=>List.Sublist.slnil
 | x::l,a=>by
  unfold eA
  split
  ·exact(vA l a).cons x
  ·exact(vA l x.c).cons_cons x
theorem G3 (l:List Sp):(eS l).Sublist l:=by
 unfold eS
 split
 ·exact List.dropLast_sublist l
 ·exact List.Sublist.refl l
theorem kT {t:List Nd} {f i:Nat} {s:Sp} (h:s ∈ eY t f i):s.node=i:=by
 unfold eY at h
 split at h
 ·split at h
  ·unfold kF at h
   obtain⟨k,-,rfl⟩:=List.mem_map.1 h
   rfl
  ·cases h
 ·cases h
theorem q8 (t:List Nd) (f i:Nat):∀ n,(rA t f n).filter (fun s=>s.node==i)=if i<n then eY t f i else []
 | 0=>rfl
 | n+1=>by
  rw[iW,List.filter_append,q8 t f i n]
  by_cases h:i=n
  ·subst h
   rw[if_neg (Nat.lt_irrefl _),if_pos (Nat.lt_succ_self _),List.nil_append]
   refine List.filter_eq_self.2 (fun s hs=>?_)
   rw[kT hs];exact beq_self_eq_true _
  ·rw[show (eY t f n).filter (fun s=>s.node==i)=[] from List.filter_eq_nil_iff.2 (fun s hs=>by rw[kT hs,beq_iff_eq];exact fun e=>h e.symm),List.append_nil]
   by_cases h2:i<n
   ·rw[if_pos h2,if_pos (by omega)]
   ·rw[if_neg h2,if_neg (by omega)]
def YQ (t:List Nd):Prop:=∀ (i:Nat) (x:Nd),t[i]?=some x→∃ z:Nat,x.size=(z:Int)∧1≤z∧i+z≤t.length
theorem LI {t:List Nd} {L:List Lx.Lx} (h:Wf t L):YQ t:=fun i x hx=>by
 obtain⟨a,b,-⟩:=sL h i x hx
 have hi:=(List.getElem?_eq_some_iff.1 hx).1
 exact⟨x.size.toNat,by omega,by omega,by omega⟩
theorem sM {t:List Nd} (ht:YQ t) {f:Nat} {x:Nd} (hx:t[f]?=some x):gJ t f=eS (eA 32 (rA t f t.length)):=by
 obtain⟨z,hz,-,hfz⟩:=ht f x hx
 unfold gJ
 rw[G4]
 congr 1
 unfold iI
 rw[hx]
 simp only[]
 rw[(DB t f _).1,wP hx (e:=f+x.size.toNat) (by omega) t.length (by omega)]
theorem AM {t:List Nd} (ht:YQ t) {i:Nat} {x:Nd} (hx:t[i]?=some x):(dP t i).Sublist (if x.kind=46 then kF i x.text x.text.size else []):=by
 unfold dP
 by_cases h0:0≤bY t i
 ·rw[if_pos h0]
  obtain⟨f,hf⟩:∃ f:Nat,bY t i=(f:Int):=⟨(bY t i).toNat,by omega⟩
  have e:(bY t i).toNat=f:=by omega
  rw[e]
  obtain⟨hfi,y,hy,-,-⟩:=eT hf
  have hi:=(List.getElem?_eq_some_iff.1 hx).1
  have h1:=((G3 (eA 32 (rA t f t.length))).trans (vA _ _)).filter (fun s=>s.node==i)
  rw[sM ht hy]
  rw[q8,if_pos hi]at h1
  refine h1.trans ?_
  unfold eY
  rw[hx]
  simp only[]
  by_cases hk:x.kind=46
  ·rw[if_pos ⟨hfi,hk,hf⟩,if_pos hk];exact List.Sublist.refl _
  ·rw[if_neg (fun h=>hk h.2.1),if_neg hk];exact List.Sublist.refl _
 ·rw[if_neg h0];exact List.nil_sublist _
theorem LJ {t:List Nd} (ht:YQ t) {i:Nat} {x:Nd} (hx:t[i]?=some x):(newText t i).size≤x.text.size:=by
 unfold newText
 rw[Lx.c9,List.length_map]
 refine Nat.le_trans (AM ht hx).length_le ?_
 split
 ·rw[DC];exact Nat.le_refl _
 ·exact Nat.zero_le _
theorem YY {b:Nat} (h:Lx.jD b=true):Lx.jD (eE b)=true:=by
 unfold eE
 split
 ·decide +kernel
 ·exact h
theorem YZ {s:ByteArray} {k:Nat} (h:k<s.size):Lx.bT s k ∈ Lx.aH s:=by
 unfold Lx.bT
 rw[List.getD_eq_getElem?_getD,List.getElem?_eq_getElem (by rw[Lx.bL];exact h)]
 exact List.getElem_mem _
theorem G5 {t:List Nd} (ht:YQ t) {i:Nat} {s:Sp} (hs:s ∈ dP t i):∃ x k,t[i]?=some x∧x.kind=46∧k<x.text.size∧s=rB i x.text k:=by
 obtain⟨-,-,x,hx,-,-⟩:=wQ hs
 have h:=(AM ht hx).subset hs
 split at h
 ·rename_i hk
  unfold kF at h
  obtain⟨k,hk2,rfl⟩:=List.mem_map.1 h
  exact⟨x,k,hx,hk,List.mem_range.1 hk2,rfl⟩
 ·cases h
theorem Y0 {t:List Nd} {i:Nat}:∀ c ∈ (dP t i).map Sp.c,c<256:=fun c hc=>by
 obtain⟨s,hs,rfl⟩:=List.mem_map.1 hc
 exact(wQ hs).2.1
theorem nW (t:List Nd) (i:Nat):Lx.aH (newText t i)=(dP t i).map Sp.c:=Lx.eU _ Y0
theorem LK {t:List Nd} (ht:YQ t) (hn:∀ x ∈ t,bO x=true) (i:Nat):(Lx.aH (newText t i)).all Lx.jD=true:=by
 rw[nW,List.all_eq_true]
 intro c hc
 obtain⟨s,hs,rfl⟩:=List.mem_map.1 hc
 obtain⟨x,k,hx,-,hk,rfl⟩:=G5 ht hs
 have h:=hn x (List.mem_of_getElem? hx)
 unfold bO at h
 rw[Bool.and_eq_true,List.all_eq_true]at h
 exact YY (h.2 _ (YZ hk))
theorem OF {F:List Nd} {L:List Lx.Lx} (h:Wf F L) (K:Nat→ByteArray × Int) (O:Nat→Int):∀ p,∀ e ∈ iV K O p L,
  (∃ j y,F[j]?=some y∧((y.kind=46∧e=jC (K (p+j)).1 (K (p+j)).2)∨(y.kind≠46∧e=mC y.kind (O (p+j)))))∨e=lT:=by
 induction h with
 | nil=>intro p x hx;cases hx
 | @text F L s pl hF ih =>
  intro p x hx
  rw[eX,mD hF]at hx
  rcases List.mem_append.1 hx with h | h
  ·rcases ih p x h with⟨j,y,hj,h⟩ | h
   ·exact .inl ⟨j,y,by rw[List.getElem?_append_left (List.getElem?_eq_some_iff.1 hj).1];exact hj,h⟩
   ·exact .inr h
  ·rw[show iV K O (p+_) [pB s]=[jC _ _] from rfl,List.mem_singleton]at h
   exact .inl ⟨F.length,_,List.getElem?_concat_length,.inl ⟨rfl,h⟩⟩
 | @node F G L M k pl hF hG hk ih1 ih2 =>
  intro p x hx
  rw[eX,kD,mD hF]at hx
  rcases List.mem_append.1 hx with h | h
  ·rcases ih1 p x h with⟨j,y,hj,h⟩ | h
   ·exact .inl ⟨j,y,by rw[List.getElem?_append_left (List.getElem?_eq_some_iff.1 hj).1];exact hj,h⟩
   ·exact .inr h
  ·rcases List.mem_cons.1 h with rfl | h
   ·exact .inl ⟨F.length,_,by rw[List.getElem?_append_right (Nat.le_refl _),Nat.sub_self];rfl,.inr ⟨hk,rfl⟩⟩
   ·rcases List.mem_append.1 h with h | h
    ·rcases ih2 _ x h with⟨j,y,hj,h⟩ | h
     ·refine .inl ⟨F.length+(j+1),y,by rw[List.getElem?_append_right (by omega),show F.length+(j+1) - F.length=j+1 by omega];exact hj,?_⟩
      rw[show p+(F.length+(j+1))=p+F.length+1+j by omega];exact h
     ·exact .inr h
    ·rw[List.mem_singleton]at h;exact .inr h
theorem AN {l l' m m':List Lx.Lx} (h:uY l l') (h2:uY m m'):uY (l++m) (l'++m'):=by
 induction h with
 | nil=>exact h2
 | cons hx _ ih=>exact .cons hx ih
theorem T7 {F:List Nd} {L:List Lx.Lx} (h:Wf F L) (K:Nat→ByteArray × Int) (O:Nat→Int):∀ p,(∀ j y,F[j]?=some y→(K (p+j)).1.size≤y.text.size)→uY L ((iV K O p L).map wL):=by
 induction h with
 | nil=>intro p _;exact .nil
 | @text F L s pl hF ih =>
  intro p hK
  rw[eX,mD hF,List.map_append]
  refine AN (ih p fun j y hj=>hK j y (by rw[List.getElem?_append_left (List.getElem?_eq_some_iff.1 hj).1];exact hj)) (.cons (.inl ⟨rfl,rfl,?_⟩) .nil)
  exact hK F.length _ List.getElem?_concat_length
 | @node F G L M k pl hF hG hk ih1 ih2 =>
  intro p hK
  rw[eX,kD,mD hF,List.map_append,List.map_cons,List.map_append]
  refine AN (ih1 p fun j y hj=>hK j y (by rw[List.getElem?_append_left (List.getElem?_eq_some_iff.1 hj).1];exact hj)) (.cons (.inr ⟨(by decide:(2:Nat)≠1),rfl,rfl⟩) (AN (ih2 _ fun j y hj=>?_) (uY.refl _)))
  rw[show p+F.length+1+j=p+(F.length+(j+1)) by omega]
  exact hK (F.length+(j+1)) y (by rw[List.getElem?_append_right (by omega),show F.length+(j+1) - F.length=j+1 by omega];exact hj)
def aB7 (x:Ev):Prop:=x.kind=1→(Lx.aH x.text).all Lx.jD=true
theorem Y1:∀ (L acc:List Ev),(∀ y ∈ acc,aB7 y∧(y.kind=1→y.text.size≠0))→(∀ y ∈ L,aB7 y)→∀ y ∈ L.foldl cD acc,aB7 y∧(y.kind=1→y.text.size≠0):=by
 intro L
 induction L with
 | nil=>intro acc h _;exact h
 | cons x L ih =>
  intro acc h h2
  rw[List.foldl_cons]
  refine ih _ ?_ (fun y hy=>h2 y (List.mem_cons_of_mem _ hy))
  have hx:=h2 x (List.mem_cons_self ..)
  intro z hz
  by_cases hk:x.kind=1
  ·by_cases h0:x.text.size=0
   ·rw[cI hk h0]at hz;exact h z hz
   ·rcases List.eq_nil_or_concat acc with rfl | ⟨acc',y,rfl⟩
    ·rw[aI hk h0 cC]at hz
     rw[List.nil_append,List.mem_singleton]at hz;subst hz;exact⟨hx,fun _=>h0⟩
    ·rw[List.concat_eq_append]at hz h
     by_cases hy:y.kind=1
     ·rw[bX hk h0 hy]at hz
      rcases List.mem_append.1 hz with h3 | h3
      ·exact h z (List.mem_append_left _ h3)
      ·rw[List.mem_singleton]at h3
       subst h3
       refine⟨fun _=>?_,fun _=>?_⟩
       ·show (Lx.aH (y.text++x.text)).all Lx.jD=true
        rw[Lx.eJ,List.all_append,(h y (by simp)).1 hy,hx hk];rfl
       ·show (y.text++x.text).size≠0
        rw[ByteArray.size_append];omega
     ·rw[aI hk h0 (bK hy)]at hz
      rcases List.mem_append.1 hz with h3 | h3
      ·exact h z h3
      ·rw[List.mem_singleton]at h3;subst h3;exact⟨hx,fun _=>h0⟩
  ·rw[bQ hk]at hz
   rcases List.mem_append.1 hz with h3 | h3
   ·exact h z h3
   ·rw[List.mem_singleton]at h3;subst h3;exact⟨hx,fun e=>absurd e hk⟩
theorem OG {Q:Nd→Prop} (hQ:∀ z x,Q x→Q (aF z x)):∀ (L:List Ev) (T:List Nd) (S:List Nat),(∀ x ∈ T,Q x)→(∀ e ∈ L,e.kind=1∨e.kind=2→Q (fP e))→∀ x ∈ (L.foldl kB (T,S)).1,Q x:=by
 intro L
 induction L with
 | nil=>intro T S h _;exact h
 | cons e L ih =>
  intro T S h h2
  have h2L:=fun y hy=>h2 y (List.mem_cons_of_mem e hy)
  have he:=h2 e (List.mem_cons_self ..)
  rw[List.foldl_cons]
  by_cases h1:e.kind=1
  ·rw[gK h1]
   refine ih _ _ (fun x hx=>?_) h2L
   rcases List.mem_append.1 hx with g | g
   ·exact h x g
   ·rw[List.mem_singleton]at g;subst g;exact he (.inl h1)
  ·by_cases h3:e.kind=2
   ·rw[jL h3]
    refine ih _ _ (fun x hx=>?_) h2L
    rcases List.mem_append.1 hx with g | g
    ·exact h x g
    ·rw[List.mem_singleton]at g;subst g;exact he (.inr h3)
   ·unfold kB
    rw[if_neg h1,if_neg h3]
    refine ih _ _ (fun x hx=>?_) h2L
    obtain⟨j,hj⟩:=List.mem_iff_getElem?.1 hx
    rw[gH]at hj
    cases hy:T[j]? with
    | none=>rw[hy]at hj;cases hj
    | some y =>
     rw[hy]at hj
     simp only[Option.map_some,Option.some.injEq]at hj
     have hq:=h y (List.mem_of_getElem? hy)
     rw[← hj]
     split
     ·exact hQ _ _ hq
     ·exact hq
def evN (t:List Nd) (L:List Lx.Lx):List Ev:=iV (asNew t) (aU t) 0 L
theorem Y2 {t:List Nd} {L:List Lx.Lx} (hW:Wf t L):Wf (gG t) ((bM (evN t L)).map wL):=by
 rw[iJ hW]
 exact wM _ (nX hW _ _ 0).join (AL _ [] (fun y hy=>by cases hy) (LH hW _ _ 0))
theorem tX {t:List Nd} (hc:aL t=0):aL (gG t)=0:=by
 obtain⟨hn,L,hE,hok⟩:=(gX t).1 hc
 obtain⟨L',hW,hE'⟩:=gT hc
 rw[hE']at hE
 cases hE
 have hS:=LI hW
 refine(gX _).2 ⟨?_,(bM (evN t L)).map wL,FE (Y2 hW),?_⟩
 ·rw[iJ hW]
  refine OG (Q:=fun x=>bO x=true) (fun z x h=>h) _ [] [] (fun x hx=>by cases hx) (fun e he hk=>?_)
  have hall:=OF hW (asNew t) (aU t) 0
  obtain⟨h1,h2⟩:=Y1 (evN t L) [] (fun y hy=>by cases hy) (fun y hy=>by
   rcases hall y hy with⟨j,x,hx,⟨-,rfl⟩ | ⟨-,rfl⟩⟩ | rfl
   ·exact fun _=>LK hS hn _
   ·exact fun e=>by cases e
   ·exact fun e=>by cases e) e he
  have hek:=AL (evN t L) [] (fun y hy=>by cases hy) (LH hW _ _ 0) e he
  rcases hek with⟨s,pl,rfl⟩ | ⟨k,pl,hk46,rfl⟩ | rfl
  ·show bO ⟨46,s,pl,1⟩=true
   have g1:(Lx.aH s).all Lx.jD=true:=h1 rfl
   have g2:s.size≠0:=h2 rfl
   unfold bO
   rw[if_pos rfl,g1,decide_eq_true g2];rfl
  ·show bO ⟨k,aA,pl,1⟩=true
   have hmem:∀ (L acc:List Ev),(∃ q,mC k q ∈ L.foldl cD acc)→(∃ q,mC k q ∈ acc)∨∃ q,mC k q ∈ L:=by
    intro L
    induction L with
    | nil=>intro acc h;exact .inl h
    | cons x L ih =>
     intro acc h
     rw[List.foldl_cons]at h
     rcases ih _ h with⟨q,h⟩ | ⟨q,h⟩
     ·by_cases hk1:x.kind=1
      ·by_cases h0:x.text.size=0
       ·rw[cI hk1 h0]at h;exact .inl ⟨q,h⟩
       ·rcases List.eq_nil_or_concat acc with rfl | ⟨acc',y,rfl⟩
        ·rw[aI hk1 h0 cC,List.nil_append,List.mem_singleton]at h
         rw[← h]at hk1;cases hk1
        ·rw[List.concat_eq_append]at h ⊢
         by_cases hy:y.kind=1
         ·rw[bX hk1 h0 hy]at h
          rcases List.mem_append.1 h with h | h
          ·exact .inl ⟨q,List.mem_append_left _ h⟩
          ·rw[List.mem_singleton]at h
           have:(mC k q).kind=y.kind:=by rw[h]
           rw[hy]at this;cases this
         ·rw[aI hk1 h0 (bK hy)]at h
          rcases List.mem_append.1 h with h | h
          ·exact .inl ⟨q,h⟩
          ·rw[List.mem_singleton]at h;rw[← h]at hk1;cases hk1
      ·rw[bQ hk1]at h
       rcases List.mem_append.1 h with h | h
       ·exact .inl ⟨q,h⟩
       ·rw[List.mem_singleton]at h;exact .inr ⟨q,by rw[h];exact List.mem_cons_self ..⟩
     ·exact .inr ⟨q,List.mem_cons_of_mem _ h⟩
   rcases hmem (evN t L) [] ⟨pl,he⟩ with⟨q,h⟩ | ⟨q,h⟩
   ·cases h
   ·rcases hall _ h with⟨j,x,hx,⟨-,e⟩ | ⟨hx46,e⟩⟩ | e
    ·cases e
    ·have hxk:k=x.kind:=by injection e
     have:=hn x (List.mem_of_getElem? hx)
     unfold bO at this ⊢
     rw[if_neg hx46,Bool.and_eq_true,decide_eq_true_eq]at this
     rw[if_neg hk46,hxk,decide_eq_true ⟨rfl,this.1.2⟩];rfl
    ·cases e
  ·rcases hk with h | h<;>cases h
 ·refine T5 _ [] ?_
  rw[List.nil_append]
  exact AK (T7 hW (asNew t) (aU t) 0 fun j y hj=>by rw[Nat.zero_add];exact LJ hS hj) (Rz.refl _) hok
end Go.Proofs.YtgpihfacmpbpaaaGreatDoor.Cn
namespace Go.Proofs.YtgpihfacmpbpaaaGreatDoor.Cn
open Go.RowKit Tr Nu
def kU:Nat→List Nat→Prop
 | _,[]=>True
 | a,c::l=>¬ (c=32∧a=32)∧kU c l
def kG (a:Nat) (l:List Nat):Nat:=(l.getLast?).getD a
def OH (Q:List Nat):Prop:=kU 32 Q∧(Q=[]∨kG 32 Q≠32)
theorem G6:OH []:=⟨trivial,.inl rfl⟩
theorem OJ:∀ (l:List Sp) (a:Nat),kU a (l.map Sp.c)→eA a l=l
 | [],_,_=>rfl
 | x::l,a,h=>by
  obtain⟨h1,h2⟩:=h
  rw[sN h1,OJ l x.c h2]
theorem wR (a:Nat) (l:List Sp):dN a l=kG a (l.map Sp.c):=by
 rw[AO];unfold kG;rw[List.getLast?_map]
theorem kV (a c:Nat) (l:List Nat):kG a (l++[c])=c:=by unfold kG;rw[List.getLast?_concat];rfl
theorem DD (a c:Nat) (l:List Nat):kG a (c::l)=kG c l:=by
 unfold kG
 rcases List.eq_nil_or_concat l with rfl | ⟨l',d,rfl⟩
 ·rfl
 ·rw[List.concat_eq_append,← List.cons_append,List.getLast?_concat,List.getLast?_concat];rfl
theorem oI:∀ (l m:List Nat) (a:Nat),kU a (l++m)↔kU a l∧kU (kG a l) m
 | [],m,a=>by show kU a m↔True∧kU a m;simp
 | c::l,m,a=>by
  show (_∧kU c (l++m))↔(_∧kU c l)∧_
  rw[oI l m c,DD,and_assoc]
theorem tY:∀ (l:List Sp) (a:Nat),kU a ((eA a l).map Sp.c)
 | [],_=>trivial
 | x::l,a=>by
  by_cases h:x.c=32∧a=32
  ·rw[wS h];exact tY l a
  ·rw[sN h];exact⟨h,tY l x.c⟩
theorem QF (l:List Sp):OH ((eS (eA 32 l)).map Sp.c):=by
 have ht:=tY l 32
 unfold eS
 by_cases h:dN 32 (eA 32 l)=32
 ·rw[if_pos h]
  rcases List.eq_nil_or_concat (eA 32 l)with h0 | ⟨K,s,h0⟩
  ·rw[h0];exact G6
  ·rw[List.concat_eq_append]at h0
   rw[h0]at ht h ⊢
   rw[List.dropLast_concat]
   rw[wR,List.map_append,List.map_cons,List.map_nil,kV]at h
   rw[List.map_append,List.map_cons,List.map_nil,oI]at ht
   exact⟨ht.1,.inr fun e=>ht.2.1 ⟨h,e⟩⟩
 ·rw[if_neg h]
  rw[wR]at h
  exact⟨ht,.inr h⟩
theorem Y3 {l:List Sp} (h:OH (l.map Sp.c)):eS (eA 32 l)=l:=by
 rw[OJ l 32 h.1]
 unfold eS
 rw[wR]
 rcases h.2 with h0 | h0
 ·obtain rfl:l=[]:=List.map_eq_nil_iff.1 h0
  split<;>rfl
 ·rw[if_neg h0]
theorem QG (s:ByteArray):Lx.aH s=(List.range s.size).map (Lx.bT s):=by
 apply List.ext_getElem?
 intro i
 rw[List.getElem?_map]
 rcases Nat.lt_or_ge i s.size with h | h
 ·rw[List.getElem?_range h]
  show _=some (Lx.bT s i)
  unfold Lx.bT
  rw[List.getD_eq_getElem?_getD,List.getElem?_eq_getElem (by rw[Lx.bL];exact h)];rfl
 ·rw[List.getElem?_eq_none (by rw[Lx.bL];exact h),List.getElem?_eq_none (by rw[List.length_range];exact h)];rfl
theorem Y4 (i:Nat) (s:ByteArray):(kF i s s.size).map Sp.c=(Lx.aH s).map eE:=by
 unfold kF
 rw[QG,List.map_map,List.map_map];rfl
def lG (t:List Nd) (f i:Nat):List Nat:=(eY t f i).map Sp.c
def cA (t:List Nd) (f n:Nat):List Nat:=(rA t f n).map Sp.c
theorem bR (t:List Nd) (f n:Nat):cA t f (n+1)=cA t f n++lG t f n:=by unfold cA lG;rw[iW,List.map_append]
theorem dU (t:List Nd) (f i:Nat):lG t f i=match t[i]? with | some x=>if f<i∧x.kind=46∧bY t i=(f:Int) then (Lx.aH x.text).map eE else [] | none=>[]:=by
 unfold lG eY
 cases t[i]? with
 | none=>rfl
 | some x =>
  simp only[]
  split
  ·exact Y4 _ _
  ·rfl
structure Clean (t:List Nd):Prop where
 flow:∀ f,OH (cA t f t.length)
 byte:∀ x ∈ t,∀ b ∈ Lx.aH x.text,eE b=b
def G7 (t t':List Nd):Prop:=∀ i:Nat,(t'[i]?).map (fun(x:Nd)=>(x.kind,x.size))=(t[i]?).map (fun(x:Nd)=>(x.kind,x.size))
theorem rC {t t':List Nd} (h:G7 t t') (a:Nat):∀ n,eD t' a n=eD t a n
 | 0=>rfl
 | n+1=>by
  have hn:=h n
  unfold eD
  cases h1:t[n]? with
  | none =>
   rw[h1,Option.map_none,Option.map_eq_none_iff]at hn
   rw[hn];exact rC h a n
  | some x =>
   rw[h1,Option.map_some,Option.map_eq_some_iff]at hn
   obtain⟨y,hy,e⟩:=hn
   simp only[Prod.mk.injEq]at e
   rw[hy]
   simp only[]
   rw[e.1,e.2,rC h a n]
theorem lH {t t':List Nd} (h:G7 t t') (a:Nat):bY t' a=bY t a:=rC h a a
theorem G8 (t:List Nd):G7 t (jM t):=fun i=>by
 cases hx:t[i]? with
 | none=>rw[List.getElem?_eq_none (by rw[mE];exact List.getElem?_eq_none_iff.1 hx)]
 | some x =>
  rw[sO hx]
  unfold vB
  split<;>rfl
theorem QH (b:Nat):eE (eE b)=eE b:=by
 by_cases h:Lx.iD b=true
 ·have:eE b=32:=by unfold eE;rw[if_pos h]
  rw[this];unfold eE;rw[if_pos rD]
 ·have:eE b=b:=by unfold eE;rw[if_neg h]
  rw[this,this]
theorem DE {t:List Nd} (ht:YQ t) (i:Nat):∀ b ∈ Lx.aH (newText t i),eE b=b:=by
 rw[nW]
 intro b hb
 obtain⟨s,hs,rfl⟩:=List.mem_map.1 hb
 obtain⟨x,k,-,-,-,rfl⟩:=G5 ht hs
 exact QH _
theorem sP {l:List Nat} (h:∀ b ∈ l,eE b=b):l.map eE=l:=by
 conv=>rhs;rw[← List.map_id l]
 exact List.map_congr_left h
theorem rE (n:Nat):∀ (l:List Sp),l.Pairwise (fun a b=>a.node≤b.node)→l.filter (fun s=>decide (s.node<n+1))=l.filter (fun s=>decide (s.node<n))++l.filter (fun s=>s.node==n)
 | [],_=>rfl
 | x::l,h=>by
  rw[List.pairwise_cons]at h
  have ih:=rE n l h.2
  rcases Nat.lt_trichotomy x.node n with h1 | h1 | h1
  ·rw[List.filter_cons_of_pos (by simp;omega),List.filter_cons_of_pos (by simp;omega),List.filter_cons_of_neg (by simp;omega),ih];rfl
  ·have h0:l.filter (fun s=>decide (s.node<n))=[]:=List.filter_eq_nil_iff.2 (fun s hs=>by have:=h.1 s hs;simp;omega)
   rw[List.filter_cons_of_pos (by simp;omega),List.filter_cons_of_neg (by simp;omega),List.filter_cons_of_pos (by simp;omega),ih,h0];rfl
  ·rw[List.filter_cons_of_neg (by simp;omega),List.filter_cons_of_neg (by simp;omega),List.filter_cons_of_neg (by simp;omega),ih]
theorem yJ (t:List Nd) (f:Nat):∀ n,(rA t f n).Pairwise (fun a b=>a.node≤b.node)∧∀ s ∈ rA t f n,s.node<n
 | 0=>⟨List.Pairwise.nil,fun s hs=>by cases hs⟩
 | n+1=>by
  obtain⟨h1,h2⟩:=yJ t f n
  rw[iW]
  refine⟨List.pairwise_append.2 ⟨h1,?_,fun a ha b hb=>by have:=h2 a ha;have:=kT hb;omega⟩,fun s hs=>?_⟩
  ·exact List.Pairwise.imp_of_mem (fun {a b} ha hb _=>by rw[kT ha,kT hb];exact Nat.le_refl _) (List.pairwise_of_forall (R:=fun _ _=>True) (fun _ _=>trivial))
  ·rcases List.mem_append.1 hs with h | h
   ·have:=h2 s h;omega
   ·have:=kT h;omega
theorem LL {t:List Nd} (ht:YQ t) (f:Nat):cA (jM t) f t.length=(gJ t f).map Sp.c:=by
 have hone:∀ i,i<t.length→lG (jM t) f i=((gJ t f).filter (fun s=>s.node==i)).map Sp.c:=by
  intro i hi
  rw[dU,sO (List.getElem?_eq_getElem hi)]
  simp only[]
  rw[lH (G8 t)]
  have hk:(vB t i t[i]).kind=t[i].kind:=by unfold vB;split<;>rfl
  rw[hk]
  by_cases hc:f<i∧t[i].kind=46∧bY t i=(f:Int)
  ·rw[if_pos hc]
   have htx:(vB t i t[i]).text=newText t i:=by unfold vB;rw[if_pos hc.2.1]
   rw[htx,sP (DE ht i),nW]
   unfold dP
   rw[if_pos (by rw[hc.2.2];omega),hc.2.2,Int.toNat_natCast]
  ·rw[if_neg hc]
   rw[List.filter_eq_nil_iff.2,List.map_nil]
   intro s hs hn
   rw[beq_iff_eq]at hn
   subst hn
   obtain⟨h1,y,hy,h2⟩:=mF hs
   rw[List.getElem?_eq_getElem hi]at hy
   cases hy
   exact hc ⟨(eT h1).1,h2,h1⟩
 by_cases he:gJ t f=[]
 ·rw[he]
  have:∀ n,n≤t.length→cA (jM t) f n=[]:=by
   intro n
   induction n with
   | zero=>intro _;rfl
   | succ n ih=>intro hn;rw[bR,ih (by omega),hone n (by omega),he];rfl
  exact this _ (Nat.le_refl _)
 ·obtain⟨x,hx⟩:=List.exists_mem_of_ne_nil _ he
  obtain⟨h1,-⟩:=mF hx
  obtain⟨-,y,hy,-⟩:=eT h1
  have hsub:(gJ t f).Sublist (rA t f t.length):=by rw[sM ht hy];exact(G3 _).trans (vA _ _)
  obtain⟨r1,r2⟩:=yJ t f t.length
  have hs:=r1.sublist hsub
  have:∀ n,n≤t.length→cA (jM t) f n=((gJ t f).filter (fun s=>decide (s.node<n))).map Sp.c:=by
   intro n
   induction n with
   | zero=>intro _;rw[List.filter_eq_nil_iff.2 (fun s _=>by simp)];rfl
   | succ n ih=>intro hn;rw[bR,ih (by omega),hone n (by omega),rE n _ hs,List.map_append]
  rw[this _ (Nat.le_refl _),List.filter_eq_self.2 (fun s hs=>by rw[decide_eq_true_eq];exact r2 s (hsub.subset hs))]
theorem G9 {t:List Nd} (ht:YQ t) (hp:∀ x ∈ t,gM x):Clean (jM t):=by
 refine⟨fun f=>?_,fun x hx b hb=>?_⟩
 ·rw[mE,LL ht]
  by_cases he:gJ t f=[]
  ·rw[he];exact G6
  ·obtain⟨x,hx⟩:=List.exists_mem_of_ne_nil _ he
   obtain⟨h1,-⟩:=mF hx
   obtain⟨-,y,hy,-⟩:=eT h1
   rw[sM ht hy];exact QF _
 ·obtain⟨i,hi⟩:=List.mem_iff_getElem?.1 hx
  cases hy:t[i]? with
  | none=>rw[List.getElem?_eq_none (by rw[mE];exact List.getElem?_eq_none_iff.1 hy)]at hi;cases hi
  | some y =>
   rw[sO hy]at hi
   cases hi
   unfold vB at hb
   split at hb
   ·exact DE ht i b hb
   ·rename_i hk
    rw[hp y (List.mem_of_getElem? hy) hk]at hb
    cases hb
end Go.Proofs.YtgpihfacmpbpaaaGreatDoor.Cn
namespace Go.Proofs.YtgpihfacmpbpaaaGreatDoor.Cn
open Go.RowKit Tr Nu
def yK (a j:Nat):Nat:=if j<a then j else j+1
def shZ (a:Nat) (z:Int):Int:=if z<(a:Int) then z else z - 1
theorem pF {a j:Nat} (h:j<a):yK a j=j:=if_pos h
theorem kW {a j:Nat} (h:a≤j):yK a j=j+1:=if_neg (by omega)
theorem tZ {t:List Nd} {a:Nat} {x:Nd} (hx:t[a]?=some x) (hk:x.kind=46) (b:Nat):eD t b (a+1)=eD t b a:=by
 rw[iK hx,if_neg]
 rw[hk]
 exact fun h=>by cases h.1
theorem DF {t:List Nd} {a:Nat} {x:Nd} (hx:t[a]?=some x) (hk:x.kind=46) (j:Nat):∀ n,n≤j→eD (bA t a) j n=shZ a (eD t (yK a j) (yK a n))
 | 0,_=>by
  rcases Nat.eq_zero_or_pos a with rfl | h
  ·rw[kW (Nat.le_refl _),tZ hx hk];rfl
  ·rw[pF h]
   show -1=shZ a (-1)
   unfold shZ;rw[if_pos (by omega)]
 | n+1,hn=>by
  have ha:=(List.getElem?_eq_some_iff.1 hx).1
  have ih:=DF hx hk j n (by omega)
  rcases Nat.lt_or_ge n a with h | h
  ·rw[pF h]at ih
   have e:eD t (yK a j) (yK a (n+1))=eD t (yK a j) (n+1):=by
    rcases Nat.lt_or_ge (n+1) a with h2 | h2
    ·rw[pF h2]
    ·obtain rfl:n+1=a:=by omega
     rw[kW (Nat.le_refl _),tZ hx hk]
   rw[e]
   obtain⟨y,hy⟩:=fV (l:=t) (i:=n) (by omega)
   have hw:=fI ha n
   rw[if_pos h,hy,Option.map_some]at hw
   rw[iK hy,iK hw,ih]
   have hkd:(if (a:Int)<(n:Int)+y.size then FF y else y).kind=y.kind:=by split<;>rfl
   have hsz:(j:Int)<(n:Int)+(if (a:Int)<(n:Int)+y.size then FF y else y).size↔((yK a j:Nat):Int)<(n:Int)+y.size:=by
    by_cases hc:(a:Int)<(n:Int)+y.size
    ·rw[if_pos hc]
     show (j:Int)<(n:Int)+(y.size - 1)↔_
     rcases Nat.lt_or_ge j a with h3 | h3
     ·rw[pF h3];omega
     ·rw[kW h3];omega
    ·rw[if_neg hc]
     rcases Nat.lt_or_ge j a with h3 | h3
     ·rw[pF h3]
     ·rw[kW h3];omega
   rw[hkd]
   by_cases hc:aK y.kind=true∧((yK a j:Nat):Int)<(n:Int)+y.size
   ·rw[if_pos hc,if_pos ⟨hc.1,hsz.2 hc.2⟩]
    unfold shZ;rw[if_pos (by omega)]
   ·rw[if_neg hc,if_neg (fun hh=>hc ⟨hh.1,hsz.1 hh.2⟩)]
  ·rw[kW h]at ih
   rw[kW (show a≤n+1 by omega),kW (show a≤j by omega)]at *
   have hw:=fI ha n
   rw[if_neg (by omega)]at hw
   cases hy:t[n+1]? with
   | none =>
    rw[hy]at hw
    conv=>lhs;unfold eD
    conv=>rhs;unfold eD
    rw[hw,hy]
    simp only[]
    exact ih
   | some y =>
    rw[hy]at hw
    rw[iK hy,iK hw,ih]
    by_cases hc:aK y.kind=true∧(j:Int)<(n:Int)+y.size
    ·rw[if_pos hc,if_pos ⟨hc.1,by omega⟩]
     unfold shZ;rw[if_neg (by omega)];omega
    ·rw[if_neg hc,if_neg (fun hh=>hc ⟨hh.1,by omega⟩)]
theorem QI {t:List Nd} {a:Nat} {x:Nd} (hx:t[a]?=some x) (hk:x.kind=46) (f i:Nat):lG (bA t a) f i=lG t (yK a f) (yK a i):=by
 have ha:=(List.getElem?_eq_some_iff.1 hx).1
 have hfl:bY (bA t a) i=(f:Int)↔bY t (yK a i)=((yK a f:Nat):Int):=by
  unfold bY
  rw[DF hx hk i i (Nat.le_refl _)]
  have hne:eD t (yK a i) (yK a i)≠(a:Int):=fun e=>by
   obtain⟨-,y,hy,h2,-⟩:=IA t _ a _ e
   rw[hx]at hy
   cases hy
   rw[hk]at h2;cases h2
  generalize eD t (yK a i) (yK a i)=z at hne ⊢
  unfold shZ yK
  split<;>split<;>omega
 have hlt:f<i↔yK a f<yK a i:=by unfold yK;split<;>split<;>omega
 rw[dU,dU,fI ha i]
 rcases Nat.lt_or_ge i a with h | h
 ·rw[if_pos h]
  rw[pF h]at hfl hlt ⊢
  cases hy:t[i]? with
  | none=>rfl
  | some y =>
   simp only[Option.map_some]
   have e:∀ z:Nd,(if (a:Int)<(i:Int)+y.size then FF y else y)=z→z.kind=y.kind∧z.text=y.text:=by
    intro z hz;subst hz;split<;>exact⟨rfl,rfl⟩
   obtain⟨e1,e2⟩:=e _ rfl
   rw[e1,e2]
   simp only[hfl,hlt]
 ·rw[if_neg (by omega)]
  rw[kW h]at hfl hlt ⊢
  cases hy:t[i+1]? with
  | none=>rfl
  | some y=>simp only[hfl,hlt]
theorem T8 {t:List Nd} {a:Nat} {x:Nd} (hx:t[a]?=some x) (hk:x.kind=46) (h0:x.text.size=0) (f:Nat):∀ n,cA (bA t a) f n=cA t (yK a f) (yK a n):=by
 have hgone:∀ g,cA t g (a+1)=cA t g a:=fun g=>by
  have hz:Lx.aH x.text=[]:=List.eq_nil_of_length_eq_zero (by rw[Lx.bL];exact h0)
  rw[bR,dU,hx]
  simp only[hz,List.map_nil,ite_self,List.append_nil]
 intro n
 induction n with
 | zero =>
  rcases Nat.eq_zero_or_pos a with rfl | h
  ·rw[kW (Nat.le_refl _),hgone];rfl
  ·rw[pF h];rfl
 | succ n ih =>
  rw[bR,ih,QI hx hk,← bR]
  rcases Nat.lt_or_ge n a with h | h
  ·rw[pF h]
   rcases Nat.lt_or_ge (n+1) a with h2 | h2
   ·rw[pF h2]
   ·obtain rfl:n+1=a:=by omega
    rw[kW (Nat.le_refl _),hgone]
  ·rw[kW h,kW (show a≤n+1 by omega)]
theorem Clean.cut {t:List Nd} {a:Nat} {x:Nd} (h:Clean t) (hx:t[a]?=some x) (hk:x.kind=46) (h0:x.text.size=0):Clean (bA t a):=by
 have ha:=(List.getElem?_eq_some_iff.1 hx).1
 have hl:=iX ha
 refine⟨fun f=>?_,fun y hy=>?_⟩
 ·rw[T8 hx hk h0]
  have:cA t (yK a f) (yK a (bA t a).length)=cA t (yK a f) t.length:=by
   rw[kW (show a≤(bA t a).length by omega),hl]
  rw[this];exact h.flow _
 ·obtain⟨i,hi⟩:=List.mem_iff_getElem?.1 hy
  rw[fI ha]at hi
  split at hi
  ·cases hz:t[i]? with
   | none=>rw[hz]at hi;cases hi
   | some z =>
    rw[hz,Option.map_some,Option.some.injEq]at hi
    have:y.text=z.text:=by rw[← hi];split<;>rfl
    rw[this];exact h.byte z (List.mem_of_getElem? hz)
  ·exact h.byte y (List.mem_of_getElem? hi)
theorem Clean.move {t t':List Nd} {a:Nat} (h:Clean t) (hb:G7 t t') (hl:t'.length=t.length) {x y x' y':Nd} (hy:t[a]?=some y) (hx:t[a+1]?=some x) (hy':t'[a]?=some y') (hx':t'[a+1]?=some x')
  (ky:y.kind=46) (kx:x.kind=46) (hne:∀ i,i≠a→i≠a+1→t'[i]?=t[i]?) (htx:Lx.aH y'.text++Lx.aH x'.text=Lx.aH y.text++Lx.aH x.text) (hfl:bY t a=bY t (a+1)):Clean t':=by
 have hk':y'.kind=46∧x'.kind=46:=by
  have h1:=hb a
  have h2:=hb (a+1)
  rw[hy,hy',Option.map_some,Option.map_some,Option.some.injEq,Prod.mk.injEq]at h1
  rw[hx,hx',Option.map_some,Option.map_some,Option.some.injEq,Prod.mk.injEq]at h2
  exact⟨h1.1.trans ky,h2.1.trans kx⟩
 have hnode:∀ f i,i≠a→i≠a+1→lG t' f i=lG t f i:=fun f i h1 h2=>by
  rw[dU,dU,hne i h1 h2,lH hb]
 have htwo:∀ f,lG t' f a++lG t' f (a+1)=lG t f a++lG t f (a+1):=fun f=>by
  rw[dU,dU,dU,dU,hy,hx,hy',hx',lH hb,lH hb]
  simp only[ky,kx,hk'.1,hk'.2,← hfl,true_and]
  by_cases hc:bY t a=(f:Int)
  ·have hfa:=(eT hc).1
   rw[if_pos ⟨hfa,hc⟩,if_pos ⟨by omega,hc⟩,if_pos ⟨hfa,hc⟩,if_pos ⟨by omega,hc⟩,← List.map_append,htx,List.map_append]
  ·rw[if_neg (fun hh=>hc hh.2),if_neg (fun hh=>hc hh.2),if_neg (fun hh=>hc hh.2),if_neg (fun hh=>hc hh.2)]
 have hlow:∀ f n,n≤a→cA t' f n=cA t f n:=fun f n=>by
  induction n with
  | zero=>intro _;rfl
  | succ n ih=>intro hn;rw[bR,bR,ih (by omega),hnode f n (by omega) (by omega)]
 have hall:∀ f m,cA t' f (a+2+m)=cA t f (a+2+m):=fun f m=>by
  induction m with
  | zero =>
   show cA t' f (a+1+1)=cA t f (a+1+1)
   rw[bR,bR,bR,bR,hlow f a (Nat.le_refl _),List.append_assoc,List.append_assoc,htwo]
  | succ m ih =>
   rw[show a+2+(m+1)=(a+2+m)+1 by omega,bR,bR,ih,hnode f _ (by omega) (by omega)]
 have ha:=(List.getElem?_eq_some_iff.1 hx).1
 refine⟨fun f=>?_,fun z hz=>?_⟩
 ·rw[hl]
  obtain⟨m,hm⟩:∃ m,t.length=a+2+m:=⟨t.length - (a+2),by omega⟩
  rw[hm,hall,← hm];exact h.flow f
 ·obtain⟨i,hi⟩:=List.mem_iff_getElem?.1 hz
  have hin:∀ b ∈ Lx.aH y.text++Lx.aH x.text,eE b=b:=fun b hb=>by
   rcases List.mem_append.1 hb with g | g
   ·exact h.byte y (List.mem_of_getElem? hy) b g
   ·exact h.byte x (List.mem_of_getElem? hx) b g
  rw[← htx]at hin
  by_cases h1:i=a
  ·subst h1
   rw[hy']at hi;cases hi
   exact fun b hb=>hin b (List.mem_append_left _ hb)
  ·by_cases h2:i=a+1
   ·subst h2
    rw[hx']at hi;cases hi
    exact fun b hb=>hin b (List.mem_append_right _ hb)
   ·rw[hne i h1 h2]at hi
    exact h.byte z (List.mem_of_getElem? hi)
theorem T9 {A B:List Ev} {y x:Ev} (hb:eR (A++y::x::B)) (hy:y.kind=1) (hx:x.kind=1):bY (aP (A++y::x::B)) (bI A)=bY (aP (A++y::x::B)) (bI A+1):=by
 have ht:=jI hb hy
 have hk:(fP y).kind=46:=by unfold fP;rw[if_pos hy]
 have hn:bI (A++[y])=bI A+1:=by rw[bC,dA (.inl hy)]
 have e1:A++y::x::B=(A++[y])++x::B:=by simp
 have hs:(bJ (A++[y])).2=(bJ A).2:=by
  rw[show bJ (A++[y])=kB (bJ A) y by unfold bJ;rw[List.foldl_append];rfl]
  unfold kB;rw[if_pos hy]
 unfold bY
 rw[tZ ht hk]
 have key:∀ n,n≤bI A→eD (aP (A++y::x::B)) (bI A) n=eD (aP (A++y::x::B)) (bI A+1) n:=by
  intro n
  induction n with
  | zero=>intro _;rfl
  | succ n ih =>
   intro hle
   have ih:=ih (by omega)
   cases hz:(aP (A++y::x::B))[n]? with
   | none=>unfold eD;rw[hz];exact ih
   | some z =>
    rw[iK hz,iK hz,ih]
    have h1:=rF hb (.inl hy) (j:=n) (by omega) hz
    have h2:=rF (A:=A++[y]) (B:=B) (x:=x) (by rw[← e1];exact hb) (.inl hx) (j:=n) (by omega) (by rw[← e1];exact hz)
    rw[hs,hn]at h2
    have:((bI A:Nat):Int)<(n:Int)+z.size↔((bI A+1:Nat):Int)<(n:Int)+z.size:=h1.trans h2.symm
    simp only[this]
 exact key _ (Nat.le_refl _)
theorem DG {A B:List Ev} {x x':Ev} (h:eR (A++x::B)) (hx:x.kind=1) (hx':x'.kind=1) (i:Nat) (hi:i≠bI A):(aP (A++x'::B))[i]?=(aP (A++x::B))[i]?:=by
 rw[← OK h hx hx',List.getElem?_set,if_neg (fun e=>hi e.symm)]
theorem Clean.step {acc L:List Ev} {x:Ev} (hb:eR (acc++x::L)) (h:Clean (aP (acc++x::L))):Clean (aP (cD acc x++L)):=by
 by_cases hk:x.kind=1
 ·have hxk:(fP x).kind=46:=by unfold fP;rw[if_pos hk]
  have hxt:(fP x).text=x.text:=by unfold fP;rw[if_pos hk]
  by_cases h0:x.text.size=0
  ·rw[cI hk h0,← zX hb hk]
   exact h.cut (jI hb hk) hxk (by rw[hxt];exact h0)
  ·rcases List.eq_nil_or_concat acc with rfl | ⟨A,y,rfl⟩
   ·rw[aI hk h0 cC];simpa using h
   ·rw[List.concat_eq_append]at h hb ⊢
    by_cases hy:y.kind=1
    ·rw[bX hk h0 hy]
     rw[List.append_assoc]at h hb ⊢
     have h:Clean (aP (A++y::x::L)):=h
     have hb:eR (A++y::x::L):=hb
     show Clean (aP (A++{ y with text:=y.text++x.text }::L))
     have hy1:({ y with text:=y.text++x.text }:Ev).kind=1:=hy
     have hx0:({ x with text:=aA }:Ev).kind=1:=hk
     have hn:bI (A++[{ y with text:=y.text++x.text }])=bI A+1:=by rw[bC,dA (.inl hy1)]
     have hnY:bI (A++[y])=bI A+1:=by rw[bC,dA (.inl hy)]
     have hb1:eR (A++{ y with text:=y.text++x.text }::x::L):=hb.put hy hy1
     have hb1':eR ((A++[{ y with text:=y.text++x.text }])++x::L):=by rw[List.append_assoc];exact hb1
     have hb2':eR ((A++[{ y with text:=y.text++x.text }])++{ x with text:=aA }::L):=hb1'.put hk hx0
     have hb2:eR (A++{ y with text:=y.text++x.text }::{ x with text:=aA }::L):=by rw[List.append_assoc]at hb2';exact hb2'
     have hbY:eR ((A++[y])++x::L):=by rw[List.append_assoc];exact hb
     have g1:=jI hb hy
     have g2:=jI hbY hk
     rw[hnY,List.append_assoc]at g2
     have g2:(aP (A++y::x::L))[bI A+1]?=some (fP x):=g2
     have g3:=jI hb2 hy1
     have g4:=jI hb2' hx0
     rw[hn,List.append_assoc]at g4
     have g4:(aP (A++{ y with text:=y.text++x.text }::{ x with text:=aA }::L))[bI A+1]?=some (fP { x with text:=aA }):=g4
     have hother:∀ i,i≠bI A→i≠bI A+1→(aP (A++{ y with text:=y.text++x.text }::{ x with text:=aA }::L))[i]?=(aP (A++y::x::L))[i]?:=fun i i1 i2=>by
      rw[← DG hb hy hy1 i i1]
      have:=DG hb1' hk hx0 i (by rw[hn];exact i2)
      rw[List.append_assoc,List.append_assoc]at this
      exact this
     have hM:Clean (aP (A++{ y with text:=y.text++x.text }::{ x with text:=aA }::L)):=by
      refine Clean.move (a:=bI A) (t:=aP (A++y::x::L)) h (fun i=>?_) ?_ g1 g2 g3 g4 ?_ ?_ hother ?_ (T9 hb hy hk)
      ·by_cases i1:i=bI A
       ·subst i1
        rw[g1,g3]
        unfold fP;rw[if_pos hy,if_pos hy1];rfl
       ·by_cases i2:i=bI A+1
        ·subst i2
         rw[g2,g4]
         unfold fP;rw[if_pos hk,if_pos hx0];rfl
        ·rw[hother i i1 i2]
      ·have two:∀ p q:Ev,p.kind=1→q.kind=1→bI (p::q::L)=1+(1+bI L):=fun p q hp hq=>by rw[mG p,mG q,dA (.inl hp),dA (.inl hq)]
       rw[dV,dV,bC,bC,two _ _ hy1 hx0,two _ _ hy hk]
      ·unfold fP;rw[if_pos hy]
      ·exact hxk
      ·unfold fP
       rw[if_pos hy,if_pos hy1,if_pos hk,if_pos hx0]
       show Lx.aH (y.text++x.text)++Lx.aH aA=Lx.aH y.text++Lx.aH x.text
       rw[Lx.eJ]
       exact List.append_nil _
     have hc:=zX hb2' hx0
     rw[hn,List.append_assoc,List.append_assoc]at hc
     have hc2:bA (aP (A++{ y with text:=y.text++x.text }::{ x with text:=aA }::L)) (bI A+1)=aP (A++{ y with text:=y.text++x.text }::L):=hc
     rw[← hc2]
     exact hM.cut g4 (by unfold fP;rw[if_pos hx0]) (by unfold fP;rw[if_pos hx0];rfl)
    ·rw[aI hk h0 (bK hy)];simpa using h
 ·rw[bQ hk];simpa using h
theorem LM:∀ (L acc:List Ev),eR (acc++L)→Clean (aP (acc++L))→Clean (aP (L.foldl cD acc)):=by
 intro L
 induction L with
 | nil=>intro acc _ h;rw[List.append_nil]at h;exact h
 | cons x L ih =>
  intro acc hb h
  rw[List.foldl_cons]
  refine ih _ ?_ (Clean.step hb h)
  unfold eR at hb ⊢
  rw[DH];exact hb
theorem AP {t:List Nd} {L:List Lx.Lx} (hW:Wf t L) (hp:∀ x ∈ t,gM x):Clean (gG t):=by
 rw[iJ hW]
 refine LM _ [] ?_ ?_
 ·rw[List.nil_append];exact nX hW _ _ 0
 ·rw[List.nil_append,IB hW];exact G9 (LI hW) hp
end Go.Proofs.YtgpihfacmpbpaaaGreatDoor.Cn
namespace Go.Proofs.YtgpihfacmpbpaaaGreatDoor.Cn
open Go.RowKit Tr Nu
inductive Rd:List Ev→Prop where
 | nil:Rd []
 | node {A:List Ev} {x:Ev}:Rd A→x.kind≠1→Rd (A++[x])
 | text {A:List Ev} {x:Ev}:Rd A→qO A→x.kind=1→x.text.size≠0→Rd (A++[x])
theorem Rd.join {J:List Ev} (h:Rd J):bM J=J:=by
 induction h with
 | nil=>rfl
 | node _ hk ih=>rw[fQ,ih,bQ hk]
 | text _ he hk h0 ih=>rw[fQ,ih,aI hk h0 he]
theorem Rd.last {A:List Ev} {y:Ev} (h:Rd (A++[y])) (hy:y.kind=1):Rd A∧qO A∧y.text.size≠0:=by
 generalize hJ:A++[y]=J at h
 cases h with
 | nil=>simp at hJ
 | node h1 h2 =>
  obtain⟨rfl,e⟩:=List.append_inj' hJ rfl
  cases e
  exact absurd hy h2
 | text h1 h2 h3 h4 =>
  obtain⟨rfl,e⟩:=List.append_inj' hJ rfl
  cases e
  exact⟨h1,h2,h4⟩
theorem Rd.step {acc:List Ev} (h:Rd acc) (x:Ev):Rd (cD acc x):=by
 by_cases hk:x.kind=1
 ·by_cases h0:x.text.size=0
  ·rw[cI hk h0];exact h
  ·rcases List.eq_nil_or_concat acc with rfl | ⟨A,y,rfl⟩
   ·rw[aI hk h0 cC];exact .text .nil cC hk h0
   ·rw[List.concat_eq_append]at h ⊢
    by_cases hy:y.kind=1
    ·obtain⟨h1,h2,h3⟩:=h.last hy
     rw[bX hk h0 hy]
     exact .text h1 h2 hy (by show (y.text++x.text).size≠0;rw[ByteArray.size_append];omega)
    ·rw[aI hk h0 (bK hy)];exact .text h (bK hy) hk h0
 ·rw[bQ hk];exact .node h hk
theorem Y5:∀ (L acc:List Ev),Rd acc→Rd (L.foldl cD acc):=by
 intro L
 induction L with
 | nil=>intro acc h;exact h
 | cons x L ih=>intro acc h;rw[List.foldl_cons];exact ih _ (h.step x)
theorem Y6 (L:List Ev):Rd (bM L):=Y5 L [] .nil
theorem IC (K:Nat→ByteArray × Int) (O:Nat→Int):∀ (J A:List Ev),(∀ x ∈ J,tI x)→(∀ B y C,J=B++y::C→y.kind=1→(K (bI (A++B))).1=y.text)→(iV K O (bI A) (J.map wL)).map rG=J.map rG
 | [],_,_,_=>rfl
 | x::J,A,ho,hK=>by
  have ih:=IC K O J (A++[x]) (fun y hy=>ho y (List.mem_cons_of_mem _ hy)) (fun B y C e hy=>by
   rw[List.append_assoc];exact hK (x::B) y C (by rw[e];rfl) hy)
  rw[List.map_cons,List.map_cons]
  rcases ho x (List.mem_cons_self ..) with⟨s,pl,rfl⟩ | ⟨k,pl,hk,rfl⟩ | rfl
  ·rw[nY rfl,List.map_cons]
   rw[bC,dA (.inl rfl)]at ih
   rw[ih]
   have:=hK [] _ J rfl rfl
   rw[List.append_nil]at this
   rw[show rG (jC (K (bI A)).1 (K (bI A)).2)=rG (jC s pl) by unfold rG jC;rw[this];rfl]
  ·rw[uA rfl,List.map_cons]
   rw[bC,dA (.inr rfl)]at ih
   rw[ih];rfl
  ·rw[wT (by decide) (by decide),List.map_cons]
   rw[bC,show bI [lT]=0 from rfl,Nat.add_zero]at ih
   rw[ih]
theorem FG {s:ByteArray} (h:∀ b ∈ Lx.aH s,eE b=b):Lx.bytesOf ((Lx.aH s).map eE)=s:=by rw[sP h,Lx.mH]
theorem QJ {u:List Nd} (hS:YQ u) (hC:Clean u) {i:Nat} {x:Nd} (hx:u[i]?=some x) (hk:x.kind=46) {f:Nat} (hf:bY u i=(f:Int)):newText u i=x.text:=by
 obtain⟨hfi,y,hy,-,-⟩:=eT hf
 have hi:=(List.getElem?_eq_some_iff.1 hx).1
 unfold newText dP
 rw[if_pos (by omega),hf,Int.toNat_natCast,sM hS hy,Y3 (hC.flow f),q8,if_pos hi]
 have:(eY u f i).map Sp.c=(Lx.aH x.text).map eE:=by
  have:=dU u f i
  rw[hx]at this
  simp only[]at this
  rw[if_pos ⟨hfi,hk,hf⟩]at this
  exact this
 rw[this];exact FG (hC.byte x (List.mem_of_getElem? hx))
theorem ID {k:Nat} (h:Lx.nF k≠[]):k<256:=by
 unfold Lx.nF at h
 split at h
 ·omega
 ·split at h
  ·rename_i h2
   unfold Lx.lI at h2
   simp at h2
   omega
  ·exact absurd rfl h
theorem IE {x:Nd} (h:bO x=true):x.kind<256:=by
 unfold bO at h
 rw[Bool.and_eq_true]at h
 by_cases hk:x.kind=46
 ·omega
 ·have h1:=h.1
  rw[if_neg hk,decide_eq_true_eq]at h1
  exact ID (fun e=>h1.2 (by unfold Lx.bE;rw[e];rfl))
theorem yL {t:List Nd} (hc:aL t=0):∀ x ∈ t,x.kind<256:=fun x hx=>IE (((gX t).1 hc).1 x hx)
theorem rH {t:List Nd} (hc:aL t=0):∀ x ∈ t,gM x:=fun x hx=>IF (((gX t).1 hc).1 x hx)
theorem tM {J:List Ev} (hb:eR J) (ho:∀ x ∈ J,tI x) (hJ:Rd J) (hc:aL (aP J)=0) (hC:Clean (aP J)):(gG (aP J)).map bare=(aP J).map bare:=by
 have hW:=wM J hb ho
 have hS:=LI hW
 rw[iJ hW]
 have hsame:(iV (asNew (aP J)) (aU (aP J)) 0 (J.map wL)).map rG=J.map rG:=IC _ _ J [] ho (fun B y C e hy=>by
  rw[List.nil_append]
  have hx:(aP J)[bI B]?=some (fP y):=by rw[e];exact jI (by rw[← e];exact hb) hy
  have hk:(fP y).kind=46:=by unfold fP;rw[if_pos hy]
  obtain⟨f,hf⟩:=Nl.wU hc (yL hc) hx hk
  show newText (aP J) (bI B)=_
  rw[QJ hS hC hx hk hf]
  unfold fP;rw[if_pos hy])
 have h1:=aBV (bM (iV (asNew (aP J)) (aU (aP J)) 0 (J.map wL))) [] []
 have h2:=aBV J [] []
 have h3:=UA (iV (asNew (aP J)) (aU (aP J)) 0 (J.map wL)) []
 have h4:=UA J []
 rw[hsame,← h4,show J.foldl cD []=J from hJ.join]at h3
 exact(h1.trans (congrArg (fun l:List Ev=>(l.foldl kB (([]:List Nd).map bare,[])).1) h3)).trans h2.symm
theorem QK {t:List Nd} (hc:aL t=0):(gG (gG t)).map bare=(gG t).map bare:=by
 obtain⟨L,hW,-⟩:=gT hc
 have hn:=tX hc
 have hC:=AP hW (rH hc)
 rw[iJ hW]at hn hC ⊢
 exact tM (nX hW _ _ 0).join (AL _ [] (fun y hy=>by cases hy) (LH hW _ _ 0)) (Y6 _) hn hC
theorem Y7 {t:List Nd} (hc:aL t=0):zP (gG t)=true:=by
 unfold zP
 rw[tX hc,wV _ _ (QK hc).symm];rfl
end Go.Proofs.YtgpihfacmpbpaaaGreatDoor.Cn
