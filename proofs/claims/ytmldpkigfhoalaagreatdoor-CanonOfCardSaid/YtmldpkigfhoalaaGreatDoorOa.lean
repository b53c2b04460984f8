/-
  Put together: CnA, CnB, CnC, CnD, CnE.
-/
import Derived.Test.YtmldpkigfhoalaaGreatDoorNb
import Derived.Test.YtmldpkigfhoalaaGreatDoorVc
import Derived.Test.YtmldpkigfhoalaaGreatDoorNi
import Derived.Test.YtmldpkigfhoalaaGreatDoorNe
namespace Go.Proofs.YtmldpkigfhoalaaGreatDoor.Cn
open Go.RowKit Tr Nu
theorem getD_mod (p:List Tr.Op) (n i:Nat) (f:Tr.Op→Tr.Op):(p.modify n f).getD i root=if n=i∧n<p.length then f (p.getD i root) else p.getD i root:=by
 rw [List.getD_eq_getElem?_getD,List.getD_eq_getElem?_getD,mod_at]
 by_cases h:n=i
 ·subst h
  by_cases hl:n<p.length
  ·rw [if_pos ⟨rfl,hl⟩,List.getElem?_eq_getElem hl];simp
  ·rw [if_neg (by omega),List.getElem?_eq_none (by omega)];rfl
 ·rw [if_neg (by omega)]
  cases p[i]? with
  | none=>rfl
  | some a=>simp [h]
theorem getD_snoc (p:List Tr.Op) (o:Tr.Op) (i:Nat):(p++[o]).getD i root=if i=p.length then o else p.getD i root:=by
 rw [List.getD_eq_getElem?_getD,List.getD_eq_getElem?_getD]
 by_cases h:i=p.length
 ·subst h;rw [if_pos rfl,List.getElem?_concat_length];rfl
 ·rw [if_neg h]
  rcases Nat.lt_or_ge i p.length with h1 | h1
  ·rw [List.getElem?_append_left h1]
  ·rw [List.getElem?_eq_none (by simp;omega),List.getElem?_eq_none (by omega)]
theorem getD_take (p:List Tr.Op) (n i:Nat):(p.take n).getD i root=if i<n then p.getD i root else root:=by
 rw [List.getD_eq_getElem?_getD,List.getD_eq_getElem?_getD,List.getElem?_take]
 split<;>rfl
theorem topP_getD (p:List Tr.Op):topP p=p.getD (p.length - 1) root:=by
 unfold topP
 rw [List.getLastD_eq_getLast?,List.getLast?_eq_getElem?,List.getD_eq_getElem?_getD]
structure Oz (o o':Tr.Op):Prop where
 kind:o'.kind=o.kind
 notes:o'.notes=o.notes
 first:o'.first=o.first
 kids:inK o.kind ltrS=true→o'.kids=o.kids
 list:inK 108 o'.kids=inK 108 o.kids
 text:o'.text.size≤o.text.size
theorem Oz.refl (o:Tr.Op):Oz o o:=⟨rfl,rfl,rfl,fun _=>rfl,rfl,Nat.le_refl _⟩
def Pz (p p':List Tr.Op):Prop:=p'.length=p.length∧∀ i,Oz (p.getD i root) (p'.getD i root)
theorem Pz.refl (p:List Tr.Op):Pz p p:=⟨rfl,fun _=>Oz.refl _⟩
section
variable {p p':List Tr.Op} (h:Pz p p')
include h
theorem Pz.top:Oz (topP p) (topP p'):=by rw [topP_getD,topP_getD,h.1];exact h.2 _
theorem Pz.texts:textsP p'=textsP p:=by unfold textsP;rw [h.top.kind,h.top.list]
theorem Pz.lastF (ks:ByteArray):∀ n,lastF p' ks n=lastF p ks n
 | 0=>rfl
 | n+1=>by unfold Tr.lastF;rw [(h.2 n).kind,Pz.lastF ks n]
theorem Pz.last (ks:ByteArray):lastP p' ks=lastP p ks:=by unfold lastP;rw [h.lastF,h.1]
theorem Pz.kinds:p'.map Tr.Op.kind=p.map Tr.Op.kind:=by
 apply List.ext_getElem?
 intro i
 rw [List.getElem?_map,List.getElem?_map]
 rcases Nat.lt_or_ge i p.length with h1 | h1
 ·have:=(h.2 i).kind
  rw [List.getD_eq_getElem?_getD,List.getD_eq_getElem?_getD,List.getElem?_eq_getElem h1,List.getElem?_eq_getElem (by rw [h.1];exact h1)] at this
  rw [List.getElem?_eq_getElem h1,List.getElem?_eq_getElem (by rw [h.1];exact h1)]
  exact congrArg some this
 ·rw [List.getElem?_eq_none h1,List.getElem?_eq_none (by rw [h.1];exact h1)]
end
theorem many_kinds (p:List Tr.Op) (k:Nat):manyP p k=(((p.map Tr.Op.kind).drop 1).filter fun c=>c==k).length:=by
 unfold manyP
 rw [← List.map_drop,List.filter_map,List.length_map];rfl
section
variable {p p':List Tr.Op} (h:Pz p p')
include h
theorem Pz.many (k:Nat):manyP p' k=manyP p k:=by rw [many_kinds,many_kinds,h.kinds]
theorem Pz.opens (k:Nat):opensP p' k=opensP p k:=by
 have t:=h.top
 unfold opensP
 by_cases hk:(topP p).kind=114
 ·simp only [h.1,t.kind,t.kids (by rw [hk];rfl),h.texts,h.many,h.last,(h.2 _).notes]
 ·simp only [h.1,t.kind,h.texts,h.many,h.last,(h.2 _).notes,if_neg hk]
end
theorem not_ltr {k:Nat} (h:inK k flowS=true∨k=105):inK k ltrS=false:=by
 have e1:inK k flowS=[49,50,51,112,99,110,101,115].contains k:=rfl
 have e2:inK k ltrS=[108,116,114].contains k:=rfl
 rw [e1] at h
 rw [e2]
 simp at h ⊢
 omega
theorem texts_ltr {p:List Tr.Op} (h:textsP p=true):inK (topP p).kind ltrS=false:=by
 unfold textsP at h
 rw [Bool.or_eq_true,Bool.and_eq_true,beq_iff_eq] at h
 exact not_ltr (h.imp id And.left)
theorem texts_len {p:List Tr.Op} (h:textsP p=true):0<p.length:=by
 cases p with
 | nil=>cases h
 | cons _ _=>exact Nat.succ_pos _
structure Tzo (o o':Tr.Op) (m:Nat):Prop where
 kind:o'.kind=o.kind
 notes:o'.notes=o.notes
 first:o'.first=o.first
 kids:inK o.kind ltrS=true→o'.kids=o.kids
 list:inK 108 o'.kids=inK 108 o.kids
 text:o'.text.size=o.text.size+m
def Tz (p q:List Tr.Op) (n:Nat):Prop:=q.length=p.length∧∀ i,Tzo (p.getD i root) (q.getD i root) (if i=lastP p noteS∧0<i then n else 0)
theorem Tz.pz {p q:List Tr.Op} {n:Nat} (h:Tz p q n):Pz q p:=⟨h.1.symm,fun i=>⟨(h.2 i).kind.symm,(h.2 i).notes.symm,(h.2 i).first.symm,fun hk=>((h.2 i).kids (by rw [← (h.2 i).kind];exact hk)).symm,(h.2 i).list.symm,by have:=(h.2 i).text;omega⟩⟩
theorem inK_app (k:Nat) (a b:ByteArray):inK k (a++b)=(inK k a || inK k b):=by
 unfold inK
 rw [Lx.bytesN_append,Bool.eq_iff_iff]
 simp
theorem addKid_list (o:Tr.Op):inK 108 (addKid 46 o).kids=inK 108 o.kids:=by
 show inK 108 (o.kids++oneS 46)=_
 rw [inK_app,show inK 108 (oneS 46)=false from rfl,Bool.or_false]
theorem step_textZ {t:List Nd} {p:List Tr.Op} {x:Lx.Lx} (hx:x.kind=1) (ht:textsP p=true) :
  (stepR (t,p) x).1.length=t.length+1∧Tz p (stepR (t,p) x).2 x.text.size:=by
 have hp:=texts_len ht
 have hl:=texts_ltr ht
 rw [topP_getD] at hl
 have h1:Tz p (p.modify (p.length - 1) (addKid 46)) 0:=by
  refine ⟨by simp,fun i=>?_⟩
  rw [getD_mod,show (if i=lastP p noteS∧0<i then 0 else 0)=0 by split<;>rfl]
  by_cases h:p.length - 1=i∧p.length - 1<p.length
  ·rw [if_pos h]
   exact ⟨rfl,rfl,rfl,fun hk=>(by rw [← h.1,hl] at hk;cases hk),addKid_list _,rfl⟩
  ·rw [if_neg h];exact ⟨rfl,rfl,rfl,fun _=>rfl,rfl,rfl⟩
 have hlast:lastP (p.modify (p.length - 1) (addKid 46)) noteS=lastP p noteS:=(h1.pz.last noteS).symm
 have e:stepR (t,p) x=(t++[⟨46,x.text,(x.place:Int),1⟩],if 0<lastP p noteS then (p.modify (p.length - 1) (addKid 46)).modify (lastP p noteS) (addText x.text) else p.modify (p.length - 1) (addKid 46)):=by
  unfold stepR
  simp only [hx,if_true,ht,hlast]
 rw [e]
 refine ⟨by simp,?_⟩
 simp only []
 have hlt:=lastP_lt noteS hp
 by_cases h0:0<lastP p noteS
 ·rw [if_pos h0]
  refine ⟨by simp,fun i=>?_⟩
  have g:=h1.2 i
  rw [show (if i=lastP p noteS∧0<i then 0 else 0)=0 by split<;>rfl] at g
  rw [getD_mod]
  by_cases h:i=lastP p noteS
  ·rw [if_pos ⟨h.symm,by rw [h1.1];exact hlt⟩,if_pos ⟨h,by omega⟩]
   exact ⟨g.kind,g.notes,g.first,g.kids,g.list,by show (_++_:ByteArray).size=_;rw [ByteArray.size_append,g.text,Nat.add_zero]⟩
  ·rw [if_neg (fun hh=>h hh.1.symm),if_neg (fun hh=>h hh.1)];exact g
 ·rw [if_neg h0]
  refine ⟨h1.1,fun i=>?_⟩
  have g:=h1.2 i
  rw [show (if i=lastP p noteS∧0<i then 0 else 0)=0 by split<;>rfl] at g
  rw [if_neg (by omega)];exact g
theorem err_textZ {t:List Nd} {p:List Tr.Op} {x:Lx.Lx} (hx:x.kind=1) (ht:textsP p=true) :
  (errStep t p x).2=0↔¬ (2000≤t.length∨(0<lastP p noteS∧60<(p.getD (lastP p noteS) root).text.size+x.text.size)):=by
 unfold errStep
 rw [if_pos hx,if_neg (by rw [ht];exact fun h=>Bool.noConfusion h)]
 split
 ·rename_i h;exact ⟨fun e=>(by cases e),fun e=>absurd h e⟩
 ·rename_i h;exact ⟨fun _=>h,fun _=>rfl⟩
def Rz (s s':List Nd × List Tr.Op):Prop:=s'.1.length≤s.1.length∧Pz s.2 s'.2
theorem Rz.refl (s:List Nd × List Tr.Op):Rz s s:=⟨Nat.le_refl _,Pz.refl _⟩
theorem Tz.less {p q p' q':List Tr.Op} {n n':Nat} (h:Pz p p') (hq:Tz p q n) (hq':Tz p' q' n') (hn:n'≤n):Pz q q':=by
 refine ⟨by rw [hq.1,hq'.1,h.1],fun i=>?_⟩
 have a:=hq.2 i
 have b:=hq'.2 i
 have c:=h.2 i
 rw [h.last] at b
 refine ⟨by rw [a.kind,b.kind,c.kind],by rw [a.notes,b.notes,c.notes],by rw [a.first,b.first,c.first],fun hk=>?_,by rw [a.list,b.list,c.list],?_⟩
 ·rw [a.kind] at hk
  rw [a.kids hk,b.kids (by rw [c.kind];exact hk),c.kids hk]
 ·rw [a.text,b.text]
  have:=c.text
  split<;>omega
theorem Tz.two {p q r p' r':List Tr.Op} {n m k:Nat} (h:Pz p p') (hq:Tz p q n) (hr:Tz q r m) (hr':Tz p' r' k) (hk:k≤n+m):Pz r r':=by
 refine ⟨by rw [hr.1,hq.1,hr'.1,h.1],fun i=>?_⟩
 have a:=hq.2 i
 have a2:=hr.2 i
 have b:=hr'.2 i
 have c:=h.2 i
 rw [h.last] at b
 rw [← hq.pz.last] at a2
 refine ⟨by rw [a2.kind,a.kind,b.kind,c.kind],by rw [a2.notes,a.notes,b.notes,c.notes],by rw [a2.first,a.first,b.first,c.first],fun hk=>?_,by rw [a2.list,a.list,b.list,c.list],?_⟩
 ·rw [a2.kind,a.kind] at hk
  rw [a2.kids (by rw [a.kind];exact hk),a.kids hk,b.kids (by rw [c.kind];exact hk),c.kids hk]
 ·rw [a2.text,a.text,b.text]
  have:=c.text
  split<;>omega
def lessX (x x':Lx.Lx):Prop:=(x.kind=1∧x'.kind=1∧x'.text.size≤x.text.size)∨(x.kind≠1∧x'.kind=x.kind∧x'.name=x.name)
theorem Pz.mod {p p':List Tr.Op} (h:Pz p p') (n:Nat) (f:Tr.Op→Tr.Op) (hf:∀ o o',Oz o o'→Oz (f o) (f o')):Pz (p.modify n f) (p'.modify n f):=by
 refine ⟨by simp [h.1],fun i=>?_⟩
 rw [getD_mod,getD_mod,h.1]
 split
 ·exact hf _ _ (h.2 i)
 ·exact h.2 i
theorem Pz.snoc {p p':List Tr.Op} (h:Pz p p') {o o':Tr.Op} (ho:Oz o o'):Pz (p++[o]) (p'++[o']):=by
 refine ⟨by simp [h.1],fun i=>?_⟩
 rw [getD_snoc,getD_snoc,h.1]
 split
 ·exact ho
 ·exact h.2 i
theorem Pz.take {p p':List Tr.Op} (h:Pz p p') (n:Nat):Pz (p.take n) (p'.take n):=by
 refine ⟨by simp [h.1],fun i=>?_⟩
 rw [getD_take,getD_take]
 split
 ·exact h.2 i
 ·exact Oz.refl _
theorem Oz.addKid {o o':Tr.Op} (h:Oz o o') (k:Nat):Oz (Tr.addKid k o) (Tr.addKid k o') :=
 ⟨h.kind,h.notes,h.first,fun hk=>by show o'.kids++_=o.kids++_;rw [h.kids hk],by show inK 108 (_++_)=inK 108 (_++_);rw [inK_app,inK_app,h.list],h.text⟩
theorem Oz.addNote {o o':Tr.Op} (h:Oz o o'):Oz (Tr.addNote o) (Tr.addNote o') :=
 ⟨h.kind,by show o'.notes+1=o.notes+1;rw [h.notes],h.first,h.kids,h.list,h.text⟩
theorem Oz.setFirst {o o':Tr.Op} (h:Oz o o') (n:Nat):Oz (Tr.setFirst n o) (Tr.setFirst n o'):=⟨h.kind,h.notes,rfl,h.kids,h.list,h.text⟩
theorem Rz.step {s s':List Nd × List Tr.Op} (h:Rz s s') {x x':Lx.Lx} (hx:lessX x x') (h1:¬ (x.kind=1∧textsP s.2=false)) (h2:(errStep s.1 s.2 x).2=0) :
  ¬ (x'.kind=1∧textsP s'.2=false)∧(errStep s'.1 s'.2 x').2=0∧Rz (stepR s x) (stepR s' x'):=by
 obtain ⟨t,p⟩:=s
 obtain ⟨t',p'⟩:=s'
 obtain ⟨hl,hp⟩:=h
 simp only [] at h1 h2 hl hp ⊢
 have hT:=hp.top
 rcases hx with ⟨a,b,c⟩ | ⟨a,b,c⟩
 ·have ht:textsP p=true:=by
   cases e:textsP p with
   | true=>rfl
   | false=>exact absurd ⟨a,e⟩ h1
  have ht':textsP p'=true:=by rw [hp.texts];exact ht
  rw [err_textZ a ht] at h2
  obtain ⟨d1,d2⟩:=step_textZ (t:=t) a ht
  obtain ⟨e1,e2⟩:=step_textZ (t:=t') b ht'
  refine ⟨by rw [ht'];exact fun hh=>Bool.noConfusion hh.2,?_,by omega,Tz.less hp d2 e2 c⟩
  rw [err_textZ b ht',hp.last]
  have:=(hp.2 (lastP p noteS)).text
  omega
 ·refine ⟨fun hh=>a (b▸hh.1),?_,?_⟩
  ·unfold errStep at h2 ⊢
   rw [if_neg a] at h2
   rw [if_neg (by rw [b];exact a),b,c,hp.opens,hp.1,hp.many]
   by_cases k2:x.kind=2
   ·rw [if_pos k2] at h2 ⊢
    by_cases g1:opensP p x.name=false
    ·rw [if_pos g1] at h2;cases h2
    ·rw [if_neg g1] at h2 ⊢
     by_cases g2:32<p.length∨(x.name=108∧8≤manyP p 108)
     ·rw [if_pos g2] at h2;cases h2
     ·rw [if_neg g2] at h2 ⊢
      by_cases g3:2000≤t.length
      ·rw [if_pos g3] at h2;cases h2
      ·rw [if_neg (by omega)]
   ·rw [if_neg k2] at h2 ⊢
    simp only [hT.kind] at h2 ⊢
    by_cases g1:p.length=1∨(inK (topP p).kind ltrS=true∧(topP p).kids.size=0)
    ·rw [if_pos g1] at h2;cases h2
    ·have g1':¬ (p.length=1∨(inK (topP p).kind ltrS=true∧(topP p').kids.size=0)):=fun hh=>g1 (hh.imp id fun hh=>⟨hh.1,by rw [← hT.kids hh.1];exact hh.2⟩)
     rw [if_neg g1] at h2
     rw [if_neg g1']
     by_cases k4:(topP p).kind=114
     ·rw [hT.kids (by rw [k4];rfl),(hp.2 _).first]
      split at h2
      ·cases h2
      ·rename_i hc;rw [if_neg hc]
     ·rw [if_neg (fun hh=>k4 hh.1)]
  ·by_cases k2:x.kind=2
   ·have e:∀ (T:List Nd) (P:List Tr.Op) (y:Lx.Lx),y.kind=2→y.name=x.name→stepR (T,P) y=(T++[⟨x.name,emptyS,(y.place:Int),1⟩],(if x.name=110 then (P.modify (P.length - 1) (Tr.addKid x.name)).modify (lastP (P.modify (P.length - 1) (Tr.addKid x.name)) aroundS) Tr.addNote else P.modify (P.length - 1) (Tr.addKid x.name))++[⟨x.name,emptyS,T.length,0,0,emptyS⟩]):=by
     intro T P y hy hn
     unfold stepR
     simp only [hy,hn,if_true]
     rw [if_neg (by decide)]
    rw [e t p x k2 rfl,e t' p' x' (b.trans k2) c]
    refine ⟨by simp;omega,?_⟩
    have hm:=hp.mod (p.length - 1) (Tr.addKid x.name) (fun _ _ hh=>hh.addKid _)
    rw [hp.1]
    simp only []
    refine Pz.snoc ?_ ⟨rfl,rfl,rfl,fun _=>rfl,rfl,Nat.le_refl _⟩
    rw [hm.last]
    split
    ·exact hm.mod _ _ (fun _ _ hh=>hh.addNote)
    ·exact hm
   ·have e:∀ (T:List Nd) (P:List Tr.Op) (y:Lx.Lx),y.kind=x.kind→stepR (T,P) y=(T.modify (topP P).spot (setSize ((T.length:Int) - ((topP P).spot:Int))),(if (topP P).kind=114∧(P.getD (P.length - 1 - 1) root).first=0 then P.modify (P.length - 1 - 1) (Tr.setFirst (topP P).kids.size) else P).take (P.length - 1)):=by
     intro T P y hy
     unfold stepR
     simp only [hy,if_neg a,if_neg k2]
    rw [e t p x rfl,e t' p' x' b]
    refine ⟨by simp;omega,?_⟩
    simp only []
    rw [hp.1,hT.kind,(hp.2 _).first]
    refine Pz.take ?_ _
    split
    ·rename_i hc
     rw [hT.kids (by rw [hc.1];rfl)]
     exact hp.mod _ _ (fun _ _ hh=>hh.setFirst _)
    ·exact hp
inductive Less:List Lx.Lx→List Lx.Lx→Prop where
 | nil:Less [] []
 | cons {x x':Lx.Lx} {l l':List Lx.Lx}:lessX x x'→Less l l'→Less (x::l) (x'::l')
theorem lessX.refl (x:Lx.Lx):lessX x x:=by
 by_cases h:x.kind=1
 ·exact .inl ⟨h,h,Nat.le_refl _⟩
 ·exact .inr ⟨h,rfl,rfl⟩
theorem Less.refl:∀ l:List Lx.Lx,Less l l
 | []=>.nil
 | x::l=>.cons (lessX.refl x) (Less.refl l)
theorem okR_less {l l':List Lx.Lx} (h:Less l l'):∀ {s s':List Nd × List Tr.Op},Rz s s'→okR s l→okR s' l':=by
 induction h with
 | nil=>intro s s' _ _;trivial
 | cons hx _ ih =>
  intro s s' hz hr
  obtain ⟨h1,h2,h3⟩:=hr
  obtain ⟨a,b,c⟩:=hz.step hx h1 h2
  exact ⟨a,b,ih c h3⟩
def e2l (x:Ev):Lx.Lx:=⟨x.kind,x.name,x.text,0⟩
theorem okR_join1 {acc L:List Ev} {x:Ev} (h:okR ([],[root]) ((acc++x::L).map e2l)):okR ([],[root]) ((stepJ acc x++L).map e2l):=by
 by_cases hk:x.kind=1
 ·by_cases h0:x.text.size=0
  ·rw [stepJ_gone hk h0]
   rw [List.map_append,okR_app] at h ⊢
   obtain ⟨h1,h2,-,h4⟩:=h
   refine ⟨h1,?_⟩
   generalize (acc.map e2l).foldl stepR ([],[root])=S at h2 h4 ⊢
   obtain ⟨t,p⟩:=S
   simp only [] at h2
   have ht:textsP p=true:=by
    cases e:textsP p with
    | true=>rfl
    | false=>exact absurd ⟨hk,e⟩ h2
   obtain ⟨d1,d2⟩:=step_textZ (t:=t) (x:=e2l x) hk ht
   exact okR_less (Less.refl _) ⟨by simp only [];omega,d2.pz⟩ h4
  ·rcases List.eq_nil_or_concat acc with rfl | ⟨acc',y,rfl⟩
   ·rw [stepJ_first hk h0 endsE_nil];simpa using h
   ·rw [List.concat_eq_append] at h ⊢
    by_cases hy:y.kind=1
    ·rw [stepJ_more hk h0 hy]
     rw [List.append_assoc,List.map_append,okR_app] at h ⊢
     obtain ⟨h1,h2,h3,h4,h5,h6⟩:=h
     refine ⟨h1,?_⟩
     generalize (acc'.map e2l).foldl stepR ([],[root])=S at h2 h3 h4 h5 h6 ⊢
     obtain ⟨t,p⟩:=S
     simp only [] at h2 h3 h4 h5
     have ht:textsP p=true:=by
      cases e:textsP p with
      | true=>rfl
      | false=>exact absurd ⟨hy,e⟩ h2
     obtain ⟨d1,d2⟩:=step_textZ (t:=t) (x:=e2l y) hy ht
     have ht2:textsP (stepR (t,p) (e2l y)).2=true:=by rw [← d2.pz.texts];exact ht
     have hyx:({ y with text:=y.text++x.text }:Ev).kind=1:=hy
     obtain ⟨c1,c2⟩:=step_textZ (t:=(stepR (t,p) (e2l y)).1) (x:=e2l x) hk ht2
     obtain ⟨e1,e2⟩:=step_textZ (t:=t) (x:=e2l { y with text:=y.text++x.text }) hyx ht
     have hsz:(e2l { y with text:=y.text++x.text }).text.size=y.text.size+x.text.size:=ByteArray.size_append
     rw [err_textZ (x:=e2l x) hk ht2,← d2.pz.last] at h5
     rw [err_textZ (x:=e2l y) hy ht] at h3
     have hg:=(d2.2 (lastP p noteS)).text
     refine ⟨by rw [ht];exact fun hh=>Bool.noConfusion hh.2,?_,?_⟩
     ·rw [err_textZ hyx ht,hsz]
      have q1:(e2l y).text.size=y.text.size:=rfl
      have q2:(e2l x).text.size=x.text.size:=rfl
      rw [q2] at h5
      simp only [] at h3 h5 ⊢
      by_cases h00:0<lastP p noteS
      ·rw [if_pos ⟨rfl,h00⟩,q1] at hg;omega
      ·omega
     ·refine okR_less (Less.refl _) ?_ h6
      refine ⟨?_,Tz.two (Pz.refl p) d2 c2 e2 (by rw [hsz];exact Nat.le_refl _)⟩
      show (stepR (t,p) _).1.length≤(stepR (stepR (t,p) (e2l y)) (e2l x)).1.length
      rw [e1,c1,d1];omega
    ·rw [stepJ_first hk h0 (endsE_snoc hy)];simpa using h
 ·rw [stepJ_node hk];simpa using h
theorem okR_join:∀ (L acc:List Ev),okR ([],[root]) ((acc++L).map e2l)→okR ([],[root]) ((L.foldl stepJ acc).map e2l):=by
 intro L
 induction L with
 | nil=>intro acc h;rw [List.append_nil] at h;exact h
 | cons x L ih=>intro acc h;rw [List.foldl_cons];exact ih _ (okR_join1 h)
def EvOk (x:Ev):Prop:=(∃ s pl,x=txE s pl)∨(∃ k pl,k≠46∧x=opE k pl)∨x=clE
theorem evE_ok {F:List Nd} {L:List Lx.Lx} (h:Wf F L) (K:Nat→ByteArray × Int) (O:Nat→Int):∀ p,∀ x ∈ evE K O p L,EvOk x:=by
 induction h with
 | nil=>intro p x hx;cases hx
 | text s pl _ ih =>
  intro p x hx
  rw [evE_app] at hx
  rcases List.mem_append.1 hx with h | h
  ·exact ih p x h
  ·rw [show evE K O (p+_) [txL s]=[txE _ _] from rfl,List.mem_singleton] at h
   exact .inl ⟨_,_,h⟩
 | node k pl _ _ hk ih1 ih2 =>
  intro p x hx
  rw [evE_app,evE_node] at hx
  rcases List.mem_append.1 hx with h | h
  ·exact ih1 p x h
  ·rcases List.mem_cons.1 h with rfl | h
   ·exact .inr (.inl ⟨_,_,hk,rfl⟩)
   ·rcases List.mem_append.1 h with h | h
    ·exact ih2 _ x h
    ·rw [List.mem_singleton] at h;exact .inr (.inr h)
theorem stepJ_ok {acc:List Ev} {x:Ev} (ha:∀ y ∈ acc,EvOk y) (hx:EvOk x):∀ y ∈ stepJ acc x,EvOk y:=by
 intro z hz
 by_cases hk:x.kind=1
 ·by_cases h0:x.text.size=0
  ·rw [stepJ_gone hk h0] at hz;exact ha z hz
  ·rcases List.eq_nil_or_concat acc with rfl | ⟨acc',y,rfl⟩
   ·rw [stepJ_first hk h0 endsE_nil] at hz
    rw [List.nil_append,List.mem_singleton] at hz;subst hz;exact hx
   ·rw [List.concat_eq_append] at hz ha
    by_cases hy:y.kind=1
    ·rw [stepJ_more hk h0 hy] at hz
     rcases List.mem_append.1 hz with h | h
     ·exact ha z (List.mem_append_left _ h)
     ·rw [List.mem_singleton] at h
      rcases ha y (by simp) with ⟨s,pl,rfl⟩ | ⟨k,pl,_,rfl⟩ | rfl
      ·exact .inl ⟨_,_,h⟩
      ·cases hy
      ·cases hy
    ·rw [stepJ_first hk h0 (endsE_snoc hy)] at hz
     rcases List.mem_append.1 hz with h | h
     ·exact ha z h
     ·rw [List.mem_singleton] at h;subst h;exact hx
 ·rw [stepJ_node hk] at hz
  rcases List.mem_append.1 hz with h | h
  ·exact ha z h
  ·rw [List.mem_singleton] at h;subst h;exact hx
theorem foldJ_ok:∀ (L acc:List Ev),(∀ y ∈ acc,EvOk y)→(∀ y ∈ L,EvOk y)→∀ y ∈ L.foldl stepJ acc,EvOk y:=by
 intro L
 induction L with
 | nil=>intro acc h _;exact h
 | cons x L ih=>intro acc h h2;rw [List.foldl_cons];exact ih _ (stepJ_ok h (h2 x (List.mem_cons_self ..))) (fun y hy=>h2 y (List.mem_cons_of_mem _ hy))
theorem bal_split:∀ (L:List Ev) (n:Nat),dep (n+1) L=some 0→(∀ x ∈ L,EvOk x)→∃ M R,L=M++clE::R∧Bal M∧dep n R=some 0
 | [],n,h,_=>by cases h
 | x::L,n,h,ho=>by
  have hoL:∀ y ∈ L,EvOk y:=fun y hy=>ho y (List.mem_cons_of_mem _ hy)
  rcases ho x (List.mem_cons_self ..) with ⟨s,pl,rfl⟩ | ⟨k,pl,_,rfl⟩ | rfl
  ·rw [dep_k1 rfl] at h
   obtain ⟨M,R,rfl,h1,h2⟩:=bal_split L n h hoL
   exact ⟨txE s pl::M,R,rfl,by unfold Bal;rw [dep_k1 rfl];exact h1,h2⟩
  ·rw [dep_k2 rfl] at h
   obtain ⟨M,R,rfl,h1,h2⟩:=bal_split L (n+1) h hoL
   obtain ⟨M2,R2,e,h3,h4⟩:=bal_split R n h2 (fun y hy=>hoL y (by simp [hy]))
   refine ⟨(opE k pl::(M++[clE]))++M2,R2,by rw [e];simp,(h1.node k pl).app h3,h4⟩
  ·rw [dep_k3 (by decide) (by decide)] at h
   exact ⟨[],L,rfl,rfl,h⟩
 termination_by L _ _ _=>L.length
 decreasing_by all_goals (subst_vars;simp;try omega)
theorem bal_wf:∀ (L:List Ev),Bal L→(∀ x ∈ L,EvOk x)→Wf (rowE L) (L.map e2l)
 | [],_,_=>.nil
 | x::L,h,ho=>by
  have hoL:∀ y ∈ L,EvOk y:=fun y hy=>ho y (List.mem_cons_of_mem _ hy)
  rcases ho x (List.mem_cons_self ..) with ⟨s,pl,rfl⟩ | ⟨k,pl,hk,rfl⟩ | rfl
  ·have hb:Bal L:=by unfold Bal at h;rw [dep_k1 rfl] at h;exact h
   have:=(Wf.text s pl Wf.nil).app (bal_wf L hb hoL)
   rw [show txE s pl::L=[txE s pl]++L from rfl,rowE_app (Bal.text s pl) hb,rowE_tx]
   exact this
  ·have h2:dep 1 L=some 0:=by unfold Bal at h;rw [dep_k2 rfl] at h;exact h
   obtain ⟨M,R,rfl,h3,h4⟩:=bal_split L 0 h2 hoL
   have w1:=bal_wf M h3 (fun y hy=>hoL y (by simp [hy]))
   have w2:=bal_wf R h4 (fun y hy=>hoL y (by simp [hy]))
   have:=(Wf.node k pl Wf.nil w1 hk).app w2
   rw [show opE k pl::(M++clE::R)=(opE k pl::(M++[clE]))++R by simp,rowE_app (h3.node k pl) h4,rowE_node h3,List.map_append,List.map_cons,List.map_append]
   exact this
  ·unfold Bal at h;rw [dep_k0 (by decide) (by decide)] at h;cases h
 termination_by L _ _=>L.length
 decreasing_by all_goals (subst_vars;simp;try omega)
end Go.Proofs.YtmldpkigfhoalaaGreatDoor.Cn
namespace Go.Proofs.YtmldpkigfhoalaaGreatDoor.Cn
open Go.RowKit Tr Nu
theorem colE_sub:∀ (l:List Sp) (a:Nat),(colE a l).Sublist l
 | [],_=>List.Sublist.slnil
 | x::l,a=>by
  unfold colE
  split
  ·exact (colE_sub l a).cons x
  ·exact (colE_sub l x.c).cons_cons x
theorem trimE_sl (l:List Sp):(trimE l).Sublist l:=by
 unfold trimE
 split
 ·exact List.dropLast_sublist l
 ·exact List.Sublist.refl l
theorem nodeRaw_in {t:List Nd} {f i:Nat} {s:Sp} (h:s ∈ nodeRaw t f i):s.node=i:=by
 unfold nodeRaw at h
 split at h
 ·split at h
  ·unfold rawSp at h
   obtain ⟨k,-,rfl⟩:=List.mem_map.1 h
   rfl
  ·cases h
 ·cases h
theorem rawF_filter (t:List Nd) (f i:Nat):∀ n,(rawF t f n).filter (fun s=>s.node==i)=if i<n then nodeRaw t f i else []
 | 0=>rfl
 | n+1=>by
  rw [rawF_succ,List.filter_append,rawF_filter t f i n]
  by_cases h:i=n
  ·subst h
   rw [if_neg (Nat.lt_irrefl _),if_pos (Nat.lt_succ_self _),List.nil_append]
   refine List.filter_eq_self.2 (fun s hs=>?_)
   rw [nodeRaw_in hs];exact beq_self_eq_true _
  ·rw [show (nodeRaw t f n).filter (fun s=>s.node==i)=[] from List.filter_eq_nil_iff.2 (fun s hs=>by rw [nodeRaw_in hs,beq_iff_eq];exact fun e=>h e.symm),List.append_nil]
   by_cases h2:i<n
   ·rw [if_pos h2,if_pos (by omega)]
   ·rw [if_neg h2,if_neg (by omega)]
def Szs (t:List Nd):Prop:=∀ (i:Nat) (x:Nd),t[i]?=some x→∃ z:Nat,x.size=(z:Int)∧1≤z∧i+z≤t.length
theorem wf_szs {t:List Nd} {L:List Lx.Lx} (h:Wf t L):Szs t:=fun i x hx=>by
 obtain ⟨a,b,-⟩:=wf_size h i x hx
 have hi:=(List.getElem?_eq_some_iff.1 hx).1
 exact ⟨x.size.toNat,by omega,by omega,by omega⟩
theorem flowSp_sz {t:List Nd} (ht:Szs t) {f:Nat} {x:Nd} (hx:t[f]?=some x):flowSp t f=trimE (colE 32 (rawF t f t.length)):=by
 obtain ⟨z,hz,-,hfz⟩:=ht f x hx
 unfold flowSp
 rw [keptV_is]
 congr 1
 unfold spotsV
 rw [hx]
 simp only []
 rw [(spotsF_is t f _).1,rawF_more hx (e:=f+x.size.toNat) (by omega) t.length (by omega)]
theorem keptAt_sub {t:List Nd} (ht:Szs t) {i:Nat} {x:Nd} (hx:t[i]?=some x):(keptAt t i).Sublist (if x.kind=46 then rawSp i x.text x.text.size else []):=by
 unfold keptAt
 by_cases h0:0≤flowV t i
 ·rw [if_pos h0]
  obtain ⟨f,hf⟩:∃ f:Nat,flowV t i=(f:Int):=⟨(flowV t i).toNat,by omega⟩
  have e:(flowV t i).toNat=f:=by omega
  rw [e]
  obtain ⟨hfi,y,hy,-,-⟩:=flowV_in hf
  have hi:=(List.getElem?_eq_some_iff.1 hx).1
  have h1:=((trimE_sl (colE 32 (rawF t f t.length))).trans (colE_sub _ _)).filter (fun s=>s.node==i)
  rw [flowSp_sz ht hy]
  rw [rawF_filter,if_pos hi] at h1
  refine h1.trans ?_
  unfold nodeRaw
  rw [hx]
  simp only []
  by_cases hk:x.kind=46
  ·rw [if_pos ⟨hfi,hk,hf⟩,if_pos hk];exact List.Sublist.refl _
  ·rw [if_neg (fun h=>hk h.2.1),if_neg hk];exact List.Sublist.refl _
 ·rw [if_neg h0];exact List.nil_sublist _
theorem newText_le {t:List Nd} (ht:Szs t) {i:Nat} {x:Nd} (hx:t[i]?=some x):(newText t i).size≤x.text.size:=by
 unfold newText
 rw [Lx.bytesOf_size,List.length_map]
 refine Nat.le_trans (keptAt_sub ht hx).length_le ?_
 split
 ·rw [rawSp_len];exact Nat.le_refl _
 ·exact Nat.zero_le _
theorem rawB_ok {b:Nat} (h:Lx.okT b=true):Lx.okT (rawB b)=true:=by
 unfold rawB
 split
 ·decide +kernel
 ·exact h
theorem bAt_mem {s:ByteArray} {k:Nat} (h:k<s.size):Lx.bAt s k ∈ Lx.bytesN s:=by
 unfold Lx.bAt
 rw [List.getD_eq_getElem?_getD,List.getElem?_eq_getElem (by rw [Lx.bytesN_len];exact h)]
 exact List.getElem_mem _
theorem kept_raw {t:List Nd} (ht:Szs t) {i:Nat} {s:Sp} (hs:s ∈ keptAt t i):∃ x k,t[i]?=some x∧x.kind=46∧k<x.text.size∧s=rawAt i x.text k:=by
 obtain ⟨-,-,x,hx,-,-⟩:=keptAt_in hs
 have h:=(keptAt_sub ht hx).subset hs
 split at h
 ·rename_i hk
  unfold rawSp at h
  obtain ⟨k,hk2,rfl⟩:=List.mem_map.1 h
  exact ⟨x,k,hx,hk,List.mem_range.1 hk2,rfl⟩
 ·cases h
theorem kept_lt {t:List Nd} {i:Nat}:∀ c ∈ (keptAt t i).map Sp.c,c<256:=fun c hc=>by
 obtain ⟨s,hs,rfl⟩:=List.mem_map.1 hc
 exact (keptAt_in hs).2.1
theorem newText_bytes (t:List Nd) (i:Nat):Lx.bytesN (newText t i)=(keptAt t i).map Sp.c:=Lx.bytesN_bytesOf _ kept_lt
theorem newText_ok {t:List Nd} (ht:Szs t) (hn:∀ x ∈ t,nodeOk x=true) (i:Nat):(Lx.bytesN (newText t i)).all Lx.okT=true:=by
 rw [newText_bytes,List.all_eq_true]
 intro c hc
 obtain ⟨s,hs,rfl⟩:=List.mem_map.1 hc
 obtain ⟨x,k,hx,-,hk,rfl⟩:=kept_raw ht hs
 have h:=hn x (List.mem_of_getElem? hx)
 unfold nodeOk at h
 rw [Bool.and_eq_true,List.all_eq_true] at h
 exact rawB_ok (h.2 _ (bAt_mem hk))
theorem evE_all {F:List Nd} {L:List Lx.Lx} (h:Wf F L) (K:Nat→ByteArray × Int) (O:Nat→Int):∀ p,∀ e ∈ evE K O p L,
  (∃ j y,F[j]?=some y∧((y.kind=46∧e=txE (K (p+j)).1 (K (p+j)).2)∨(y.kind≠46∧e=opE y.kind (O (p+j)))))∨e=clE:=by
 induction h with
 | nil=>intro p x hx;cases hx
 | @text F L s pl hF ih =>
  intro p x hx
  rw [evE_app,wf_nod hF] at hx
  rcases List.mem_append.1 hx with h | h
  ·rcases ih p x h with ⟨j,y,hj,h⟩ | h
   ·exact .inl ⟨j,y,by rw [List.getElem?_append_left (List.getElem?_eq_some_iff.1 hj).1];exact hj,h⟩
   ·exact .inr h
  ·rw [show evE K O (p+_) [txL s]=[txE _ _] from rfl,List.mem_singleton] at h
   exact .inl ⟨F.length,_,List.getElem?_concat_length,.inl ⟨rfl,h⟩⟩
 | @node F G L M k pl hF hG hk ih1 ih2 =>
  intro p x hx
  rw [evE_app,evE_node,wf_nod hF] at hx
  rcases List.mem_append.1 hx with h | h
  ·rcases ih1 p x h with ⟨j,y,hj,h⟩ | h
   ·exact .inl ⟨j,y,by rw [List.getElem?_append_left (List.getElem?_eq_some_iff.1 hj).1];exact hj,h⟩
   ·exact .inr h
  ·rcases List.mem_cons.1 h with rfl | h
   ·exact .inl ⟨F.length,_,by rw [List.getElem?_append_right (Nat.le_refl _),Nat.sub_self];rfl,.inr ⟨hk,rfl⟩⟩
   ·rcases List.mem_append.1 h with h | h
    ·rcases ih2 _ x h with ⟨j,y,hj,h⟩ | h
     ·refine .inl ⟨F.length+(j+1),y,by rw [List.getElem?_append_right (by omega),show F.length+(j+1) - F.length=j+1 by omega];exact hj,?_⟩
      rw [show p+(F.length+(j+1))=p+F.length+1+j by omega];exact h
     ·exact .inr h
    ·rw [List.mem_singleton] at h;exact .inr h
theorem less_app {l l' m m':List Lx.Lx} (h:Less l l') (h2:Less m m'):Less (l++m) (l'++m'):=by
 induction h with
 | nil=>exact h2
 | cons hx _ ih=>exact .cons hx ih
theorem evE_less {F:List Nd} {L:List Lx.Lx} (h:Wf F L) (K:Nat→ByteArray × Int) (O:Nat→Int):∀ p,(∀ j y,F[j]?=some y→(K (p+j)).1.size≤y.text.size)→Less L ((evE K O p L).map e2l):=by
 induction h with
 | nil=>intro p _;exact .nil
 | @text F L s pl hF ih =>
  intro p hK
  rw [evE_app,wf_nod hF,List.map_append]
  refine less_app (ih p fun j y hj=>hK j y (by rw [List.getElem?_append_left (List.getElem?_eq_some_iff.1 hj).1];exact hj)) (.cons (.inl ⟨rfl,rfl,?_⟩) .nil)
  exact hK F.length _ List.getElem?_concat_length
 | @node F G L M k pl hF hG hk ih1 ih2 =>
  intro p hK
  rw [evE_app,evE_node,wf_nod hF,List.map_append,List.map_cons,List.map_append]
  refine less_app (ih1 p fun j y hj=>hK j y (by rw [List.getElem?_append_left (List.getElem?_eq_some_iff.1 hj).1];exact hj)) (.cons (.inr ⟨(by decide:(2:Nat)≠1),rfl,rfl⟩) (less_app (ih2 _ fun j y hj=>?_) (Less.refl _)))
  rw [show p+F.length+1+j=p+(F.length+(j+1)) by omega]
  exact hK (F.length+(j+1)) y (by rw [List.getElem?_append_right (by omega),show F.length+(j+1) - F.length=j+1 by omega];exact hj)
def TxOk (x:Ev):Prop:=x.kind=1→(Lx.bytesN x.text).all Lx.okT=true
theorem join_tx:∀ (L acc:List Ev),(∀ y ∈ acc,TxOk y∧(y.kind=1→y.text.size≠0))→(∀ y ∈ L,TxOk y)→∀ y ∈ L.foldl stepJ acc,TxOk y∧(y.kind=1→y.text.size≠0):=by
 intro L
 induction L with
 | nil=>intro acc h _;exact h
 | cons x L ih =>
  intro acc h h2
  rw [List.foldl_cons]
  refine ih _ ?_ (fun y hy=>h2 y (List.mem_cons_of_mem _ hy))
  have hx:=h2 x (List.mem_cons_self ..)
  intro z hz
  by_cases hk:x.kind=1
  ·by_cases h0:x.text.size=0
   ·rw [stepJ_gone hk h0] at hz;exact h z hz
   ·rcases List.eq_nil_or_concat acc with rfl | ⟨acc',y,rfl⟩
    ·rw [stepJ_first hk h0 endsE_nil] at hz
     rw [List.nil_append,List.mem_singleton] at hz;subst hz;exact ⟨hx,fun _=>h0⟩
    ·rw [List.concat_eq_append] at hz h
     by_cases hy:y.kind=1
     ·rw [stepJ_more hk h0 hy] at hz
      rcases List.mem_append.1 hz with h3 | h3
      ·exact h z (List.mem_append_left _ h3)
      ·rw [List.mem_singleton] at h3
       subst h3
       refine ⟨fun _=>?_,fun _=>?_⟩
       ·show (Lx.bytesN (y.text++x.text)).all Lx.okT=true
        rw [Lx.bytesN_append,List.all_append,(h y (by simp)).1 hy,hx hk];rfl
       ·show (y.text++x.text).size≠0
        rw [ByteArray.size_append];omega
     ·rw [stepJ_first hk h0 (endsE_snoc hy)] at hz
      rcases List.mem_append.1 hz with h3 | h3
      ·exact h z h3
      ·rw [List.mem_singleton] at h3;subst h3;exact ⟨hx,fun _=>h0⟩
  ·rw [stepJ_node hk] at hz
   rcases List.mem_append.1 hz with h3 | h3
   ·exact h z h3
   ·rw [List.mem_singleton] at h3;subst h3;exact ⟨hx,fun e=>absurd e hk⟩
theorem row_all {Q:Nd→Prop} (hQ:∀ z x,Q x→Q (setSize z x)):∀ (L:List Ev) (T:List Nd) (S:List Nat),(∀ x ∈ T,Q x)→(∀ e ∈ L,e.kind=1∨e.kind=2→Q (ndE e))→∀ x ∈ (L.foldl bld (T,S)).1,Q x:=by
 intro L
 induction L with
 | nil=>intro T S h _;exact h
 | cons e L ih =>
  intro T S h h2
  have h2L:=fun y hy=>h2 y (List.mem_cons_of_mem e hy)
  have he:=h2 e (List.mem_cons_self ..)
  rw [List.foldl_cons]
  by_cases h1:e.kind=1
  ·rw [bld_tx h1]
   refine ih _ _ (fun x hx=>?_) h2L
   rcases List.mem_append.1 hx with g | g
   ·exact h x g
   ·rw [List.mem_singleton] at g;subst g;exact he (.inl h1)
  ·by_cases h3:e.kind=2
   ·rw [bld_op h3]
    refine ih _ _ (fun x hx=>?_) h2L
    rcases List.mem_append.1 hx with g | g
    ·exact h x g
    ·rw [List.mem_singleton] at g;subst g;exact he (.inr h3)
   ·unfold bld
    rw [if_neg h1,if_neg h3]
    refine ih _ _ (fun x hx=>?_) h2L
    obtain ⟨j,hj⟩:=List.mem_iff_getElem?.1 hx
    rw [mod_at] at hj
    cases hy:T[j]? with
    | none=>rw [hy] at hj;cases hj
    | some y =>
     rw [hy] at hj
     simp only [Option.map_some,Option.some.injEq] at hj
     have hq:=h y (List.mem_of_getElem? hy)
     rw [← hj]
     split
     ·exact hQ _ _ hq
     ·exact hq
def evN (t:List Nd) (L:List Lx.Lx):List Ev:=evE (asNew t) (placeAt t) 0 L
theorem norm_wf {t:List Nd} {L:List Lx.Lx} (hW:Wf t L):Wf (normV t) ((joinE (evN t L)).map e2l):=by
 rw [normV_is hW]
 exact bal_wf _ (wf_bal hW _ _ 0).join (foldJ_ok _ [] (fun y hy=>by cases hy) (evE_ok hW _ _ 0))
theorem check_norm {t:List Nd} (hc:checkV t=0):checkV (normV t)=0:=by
 obtain ⟨hn,L,hE,hok⟩:=(checkV_ok t).1 hc
 obtain ⟨L',hW,hE'⟩:=check_wf hc
 rw [hE'] at hE
 cases hE
 have hS:=wf_szs hW
 refine (checkV_ok _).2 ⟨?_,(joinE (evN t L)).map e2l,wf_ev0 (norm_wf hW),?_⟩
 ·rw [normV_is hW]
  refine row_all (Q:=fun x=>nodeOk x=true) (fun z x h=>h) _ [] [] (fun x hx=>by cases hx) (fun e he hk=>?_)
  have hall:=evE_all hW (asNew t) (placeAt t) 0
  obtain ⟨h1,h2⟩:=join_tx (evN t L) [] (fun y hy=>by cases hy) (fun y hy=>by
   rcases hall y hy with ⟨j,x,hx,⟨-,rfl⟩ | ⟨-,rfl⟩⟩ | rfl
   ·exact fun _=>newText_ok hS hn _
   ·exact fun e=>by cases e
   ·exact fun e=>by cases e) e he
  have hek:=foldJ_ok (evN t L) [] (fun y hy=>by cases hy) (evE_ok hW _ _ 0) e he
  rcases hek with ⟨s,pl,rfl⟩ | ⟨k,pl,hk46,rfl⟩ | rfl
  ·show nodeOk ⟨46,s,pl,1⟩=true
   have g1:(Lx.bytesN s).all Lx.okT=true:=h1 rfl
   have g2:s.size≠0:=h2 rfl
   unfold nodeOk
   rw [if_pos rfl,g1,decide_eq_true g2];rfl
  ·show nodeOk ⟨k,emptyS,pl,1⟩=true
   have hmem:∀ (L acc:List Ev),(∃ q,opE k q ∈ L.foldl stepJ acc)→(∃ q,opE k q ∈ acc)∨∃ q,opE k q ∈ L:=by
    intro L
    induction L with
    | nil=>intro acc h;exact .inl h
    | cons x L ih =>
     intro acc h
     rw [List.foldl_cons] at h
     rcases ih _ h with ⟨q,h⟩ | ⟨q,h⟩
     ·by_cases hk1:x.kind=1
      ·by_cases h0:x.text.size=0
       ·rw [stepJ_gone hk1 h0] at h;exact .inl ⟨q,h⟩
       ·rcases List.eq_nil_or_concat acc with rfl | ⟨acc',y,rfl⟩
        ·rw [stepJ_first hk1 h0 endsE_nil,List.nil_append,List.mem_singleton] at h
         rw [← h] at hk1;cases hk1
        ·rw [List.concat_eq_append] at h ⊢
         by_cases hy:y.kind=1
         ·rw [stepJ_more hk1 h0 hy] at h
          rcases List.mem_append.1 h with h | h
          ·exact .inl ⟨q,List.mem_append_left _ h⟩
          ·rw [List.mem_singleton] at h
           have:(opE k q).kind=y.kind:=by rw [h]
           rw [hy] at this;cases this
         ·rw [stepJ_first hk1 h0 (endsE_snoc hy)] at h
          rcases List.mem_append.1 h with h | h
          ·exact .inl ⟨q,h⟩
          ·rw [List.mem_singleton] at h;rw [← h] at hk1;cases hk1
      ·rw [stepJ_node hk1] at h
       rcases List.mem_append.1 h with h | h
       ·exact .inl ⟨q,h⟩
       ·rw [List.mem_singleton] at h;exact .inr ⟨q,by rw [h];exact List.mem_cons_self ..⟩
     ·exact .inr ⟨q,List.mem_cons_of_mem _ h⟩
   rcases hmem (evN t L) [] ⟨pl,he⟩ with ⟨q,h⟩ | ⟨q,h⟩
   ·cases h
   ·rcases hall _ h with ⟨j,x,hx,⟨-,e⟩ | ⟨hx46,e⟩⟩ | e
    ·cases e
    ·have hxk:k=x.kind:=by injection e
     have:=hn x (List.mem_of_getElem? hx)
     unfold nodeOk at this ⊢
     rw [if_neg hx46,Bool.and_eq_true,decide_eq_true_eq] at this
     rw [if_neg hk46,hxk,decide_eq_true ⟨rfl,this.1.2⟩];rfl
    ·cases e
  ·rcases hk with h | h<;>cases h
 ·refine okR_join _ [] ?_
  rw [List.nil_append]
  exact okR_less (evE_less hW (asNew t) (placeAt t) 0 fun j y hj=>by rw [Nat.zero_add];exact newText_le hS hj) (Rz.refl _) hok
end Go.Proofs.YtmldpkigfhoalaaGreatDoor.Cn
namespace Go.Proofs.YtmldpkigfhoalaaGreatDoor.Cn
open Go.RowKit Tr Nu
def tightC:Nat→List Nat→Prop
 | _,[]=>True
 | a,c::l=>¬ (c=32∧a=32)∧tightC c l
def lasC (a:Nat) (l:List Nat):Nat:=(l.getLast?).getD a
def fineC (Q:List Nat):Prop:=tightC 32 Q∧(Q=[]∨lasC 32 Q≠32)
theorem fine_nil:fineC []:=⟨trivial,.inl rfl⟩
theorem colE_id:∀ (l:List Sp) (a:Nat),tightC a (l.map Sp.c)→colE a l=l
 | [],_,_=>rfl
 | x::l,a,h=>by
  obtain ⟨h1,h2⟩:=h
  rw [colE_keep h1,colE_id l x.c h2]
theorem lastA_las (a:Nat) (l:List Sp):lastA a l=lasC a (l.map Sp.c):=by
 rw [lastA_last];unfold lasC;rw [List.getLast?_map]
theorem lasC_snoc (a c:Nat) (l:List Nat):lasC a (l++[c])=c:=by unfold lasC;rw [List.getLast?_concat];rfl
theorem lasC_cons (a c:Nat) (l:List Nat):lasC a (c::l)=lasC c l:=by
 unfold lasC
 rcases List.eq_nil_or_concat l with rfl | ⟨l',d,rfl⟩
 ·rfl
 ·rw [List.concat_eq_append,← List.cons_append,List.getLast?_concat,List.getLast?_concat];rfl
theorem tight_app:∀ (l m:List Nat) (a:Nat),tightC a (l++m)↔tightC a l∧tightC (lasC a l) m
 | [],m,a=>by show tightC a m↔True∧tightC a m;simp
 | c::l,m,a=>by
  show (_∧tightC c (l++m))↔(_∧tightC c l)∧_
  rw [tight_app l m c,lasC_cons,and_assoc]
theorem tight_colE:∀ (l:List Sp) (a:Nat),tightC a ((colE a l).map Sp.c)
 | [],_=>trivial
 | x::l,a=>by
  by_cases h:x.c=32∧a=32
  ·rw [colE_skip h];exact tight_colE l a
  ·rw [colE_keep h];exact ⟨h,tight_colE l x.c⟩
theorem fine_kept (l:List Sp):fineC ((trimE (colE 32 l)).map Sp.c):=by
 have ht:=tight_colE l 32
 unfold trimE
 by_cases h:lastA 32 (colE 32 l)=32
 ·rw [if_pos h]
  rcases List.eq_nil_or_concat (colE 32 l) with h0 | ⟨K,s,h0⟩
  ·rw [h0];exact fine_nil
  ·rw [List.concat_eq_append] at h0
   rw [h0] at ht h ⊢
   rw [List.dropLast_concat]
   rw [lastA_las,List.map_append,List.map_cons,List.map_nil,lasC_snoc] at h
   rw [List.map_append,List.map_cons,List.map_nil,tight_app] at ht
   exact ⟨ht.1,.inr fun e=>ht.2.1 ⟨h,e⟩⟩
 ·rw [if_neg h]
  rw [lastA_las] at h
  exact ⟨ht,.inr h⟩
theorem fine_id {l:List Sp} (h:fineC (l.map Sp.c)):trimE (colE 32 l)=l:=by
 rw [colE_id l 32 h.1]
 unfold trimE
 rw [lastA_las]
 rcases h.2 with h0 | h0
 ·obtain rfl:l=[]:=List.map_eq_nil_iff.1 h0
  split<;>rfl
 ·rw [if_neg h0]
theorem bytesN_at (s:ByteArray):Lx.bytesN s=(List.range s.size).map (Lx.bAt s):=by
 apply List.ext_getElem?
 intro i
 rw [List.getElem?_map]
 rcases Nat.lt_or_ge i s.size with h | h
 ·rw [List.getElem?_range h]
  show _=some (Lx.bAt s i)
  unfold Lx.bAt
  rw [List.getD_eq_getElem?_getD,List.getElem?_eq_getElem (by rw [Lx.bytesN_len];exact h)];rfl
 ·rw [List.getElem?_eq_none (by rw [Lx.bytesN_len];exact h),List.getElem?_eq_none (by rw [List.length_range];exact h)];rfl
theorem rawSp_c (i:Nat) (s:ByteArray):(rawSp i s s.size).map Sp.c=(Lx.bytesN s).map rawB:=by
 unfold rawSp
 rw [bytesN_at,List.map_map,List.map_map];rfl
def nodeC (t:List Nd) (f i:Nat):List Nat:=(nodeRaw t f i).map Sp.c
def contC (t:List Nd) (f n:Nat):List Nat:=(rawF t f n).map Sp.c
theorem contC_succ (t:List Nd) (f n:Nat):contC t f (n+1)=contC t f n++nodeC t f n:=by unfold contC nodeC;rw [rawF_succ,List.map_append]
theorem nodeC_is (t:List Nd) (f i:Nat):nodeC t f i=match t[i]? with | some x=>if f<i∧x.kind=46∧flowV t i=(f:Int) then (Lx.bytesN x.text).map rawB else [] | none=>[]:=by
 unfold nodeC nodeRaw
 cases t[i]? with
 | none=>rfl
 | some x =>
  simp only []
  split
  ·exact rawSp_c _ _
  ·rfl
structure Clean (t:List Nd):Prop where
 flow:∀ f,fineC (contC t f t.length)
 byte:∀ x ∈ t,∀ b ∈ Lx.bytesN x.text,rawB b=b
def Bones (t t':List Nd):Prop:=∀ i:Nat,(t'[i]?).map (fun (x:Nd)=>(x.kind,x.size))=(t[i]?).map (fun (x:Nd)=>(x.kind,x.size))
theorem flowF_bones {t t':List Nd} (h:Bones t t') (a:Nat):∀ n,flowF t' a n=flowF t a n
 | 0=>rfl
 | n+1=>by
  have hn:=h n
  unfold flowF
  cases h1:t[n]? with
  | none =>
   rw [h1,Option.map_none,Option.map_eq_none_iff] at hn
   rw [hn];exact flowF_bones h a n
  | some x =>
   rw [h1,Option.map_some,Option.map_eq_some_iff] at hn
   obtain ⟨y,hy,e⟩:=hn
   simp only [Prod.mk.injEq] at e
   rw [hy]
   simp only []
   rw [e.1,e.2,flowF_bones h a n]
theorem flowV_bones {t t':List Nd} (h:Bones t t') (a:Nat):flowV t' a=flowV t a:=flowF_bones h a a
theorem texts_bones (t:List Nd):Bones t (textsV t):=fun i=>by
 cases hx:t[i]? with
 | none=>rw [List.getElem?_eq_none (by rw [textsV_len];exact List.getElem?_eq_none_iff.1 hx)]
 | some x =>
  rw [textsV_at hx]
  unfold newNd
  split<;>rfl
theorem rawB_rawB (b:Nat):rawB (rawB b)=rawB b:=by
 by_cases h:Lx.white b=true
 ·have:rawB b=32:=by unfold rawB;rw [if_pos h]
  rw [this];unfold rawB;rw [if_pos white_32]
 ·have:rawB b=b:=by unfold rawB;rw [if_neg h]
  rw [this,this]
theorem kept_byte {t:List Nd} (ht:Szs t) (i:Nat):∀ b ∈ Lx.bytesN (newText t i),rawB b=b:=by
 rw [newText_bytes]
 intro b hb
 obtain ⟨s,hs,rfl⟩:=List.mem_map.1 hb
 obtain ⟨x,k,-,-,-,rfl⟩:=kept_raw ht hs
 exact rawB_rawB _
theorem map_id_of {l:List Nat} (h:∀ b ∈ l,rawB b=b):l.map rawB=l:=by
 conv=>rhs;rw [← List.map_id l]
 exact List.map_congr_left h
theorem filter_lt_succ (n:Nat):∀ (l:List Sp),l.Pairwise (fun a b=>a.node≤b.node)→l.filter (fun s=>decide (s.node<n+1))=l.filter (fun s=>decide (s.node<n))++l.filter (fun s=>s.node==n)
 | [],_=>rfl
 | x::l,h=>by
  rw [List.pairwise_cons] at h
  have ih:=filter_lt_succ n l h.2
  rcases Nat.lt_trichotomy x.node n with h1 | h1 | h1
  ·rw [List.filter_cons_of_pos (by simp;omega),List.filter_cons_of_pos (by simp;omega),List.filter_cons_of_neg (by simp;omega),ih];rfl
  ·have h0:l.filter (fun s=>decide (s.node<n))=[]:=List.filter_eq_nil_iff.2 (fun s hs=>by have:=h.1 s hs;simp;omega)
   rw [List.filter_cons_of_pos (by simp;omega),List.filter_cons_of_neg (by simp;omega),List.filter_cons_of_pos (by simp;omega),ih,h0];rfl
  ·rw [List.filter_cons_of_neg (by simp;omega),List.filter_cons_of_neg (by simp;omega),List.filter_cons_of_neg (by simp;omega),ih]
theorem rawF_sorted (t:List Nd) (f:Nat):∀ n,(rawF t f n).Pairwise (fun a b=>a.node≤b.node)∧∀ s ∈ rawF t f n,s.node<n
 | 0=>⟨List.Pairwise.nil,fun s hs=>by cases hs⟩
 | n+1=>by
  obtain ⟨h1,h2⟩:=rawF_sorted t f n
  rw [rawF_succ]
  refine ⟨List.pairwise_append.2 ⟨h1,?_,fun a ha b hb=>by have:=h2 a ha;have:=nodeRaw_in hb;omega⟩,fun s hs=>?_⟩
  ·exact List.Pairwise.imp_of_mem (fun {a b} ha hb _=>by rw [nodeRaw_in ha,nodeRaw_in hb];exact Nat.le_refl _) (List.pairwise_of_forall (R:=fun _ _=>True) (fun _ _=>trivial))
  ·rcases List.mem_append.1 hs with h | h
   ·have:=h2 s h;omega
   ·have:=nodeRaw_in h;omega
theorem texts_cont {t:List Nd} (ht:Szs t) (f:Nat):contC (textsV t) f t.length=(flowSp t f).map Sp.c:=by
 have hone:∀ i,i<t.length→nodeC (textsV t) f i=((flowSp t f).filter (fun s=>s.node==i)).map Sp.c:=by
  intro i hi
  rw [nodeC_is,textsV_at (List.getElem?_eq_getElem hi)]
  simp only []
  rw [flowV_bones (texts_bones t)]
  have hk:(newNd t i t[i]).kind=t[i].kind:=by unfold newNd;split<;>rfl
  rw [hk]
  by_cases hc:f<i∧t[i].kind=46∧flowV t i=(f:Int)
  ·rw [if_pos hc]
   have htx:(newNd t i t[i]).text=newText t i:=by unfold newNd;rw [if_pos hc.2.1]
   rw [htx,map_id_of (kept_byte ht i),newText_bytes]
   unfold keptAt
   rw [if_pos (by rw [hc.2.2];omega),hc.2.2,Int.toNat_natCast]
  ·rw [if_neg hc]
   rw [List.filter_eq_nil_iff.2,List.map_nil]
   intro s hs hn
   rw [beq_iff_eq] at hn
   subst hn
   obtain ⟨h1,y,hy,h2⟩:=flowSp_in2 hs
   rw [List.getElem?_eq_getElem hi] at hy
   cases hy
   exact hc ⟨(flowV_in h1).1,h2,h1⟩
 by_cases he:flowSp t f=[]
 ·rw [he]
  have:∀ n,n≤t.length→contC (textsV t) f n=[]:=by
   intro n
   induction n with
   | zero=>intro _;rfl
   | succ n ih=>intro hn;rw [contC_succ,ih (by omega),hone n (by omega),he];rfl
  exact this _ (Nat.le_refl _)
 ·obtain ⟨x,hx⟩:=List.exists_mem_of_ne_nil _ he
  obtain ⟨h1,-⟩:=flowSp_in2 hx
  obtain ⟨-,y,hy,-⟩:=flowV_in h1
  have hsub:(flowSp t f).Sublist (rawF t f t.length):=by rw [flowSp_sz ht hy];exact (trimE_sl _).trans (colE_sub _ _)
  obtain ⟨r1,r2⟩:=rawF_sorted t f t.length
  have hs:=r1.sublist hsub
  have:∀ n,n≤t.length→contC (textsV t) f n=((flowSp t f).filter (fun s=>decide (s.node<n))).map Sp.c:=by
   intro n
   induction n with
   | zero=>intro _;rw [List.filter_eq_nil_iff.2 (fun s _=>by simp)];rfl
   | succ n ih=>intro hn;rw [contC_succ,ih (by omega),hone n (by omega),filter_lt_succ n _ hs,List.map_append]
  rw [this _ (Nat.le_refl _),List.filter_eq_self.2 (fun s hs=>by rw [decide_eq_true_eq];exact r2 s (hsub.subset hs))]
theorem clean_texts {t:List Nd} (ht:Szs t) (hp:∀ x ∈ t,plainNd x):Clean (textsV t):=by
 refine ⟨fun f=>?_,fun x hx b hb=>?_⟩
 ·rw [textsV_len,texts_cont ht]
  by_cases he:flowSp t f=[]
  ·rw [he];exact fine_nil
  ·obtain ⟨x,hx⟩:=List.exists_mem_of_ne_nil _ he
   obtain ⟨h1,-⟩:=flowSp_in2 hx
   obtain ⟨-,y,hy,-⟩:=flowV_in h1
   rw [flowSp_sz ht hy];exact fine_kept _
 ·obtain ⟨i,hi⟩:=List.mem_iff_getElem?.1 hx
  cases hy:t[i]? with
  | none=>rw [List.getElem?_eq_none (by rw [textsV_len];exact List.getElem?_eq_none_iff.1 hy)] at hi;cases hi
  | some y =>
   rw [textsV_at hy] at hi
   cases hi
   unfold newNd at hb
   split at hb
   ·exact kept_byte ht i b hb
   ·rename_i hk
    rw [hp y (List.mem_of_getElem? hy) hk] at hb
    cases hb
end Go.Proofs.YtmldpkigfhoalaaGreatDoor.Cn
namespace Go.Proofs.YtmldpkigfhoalaaGreatDoor.Cn
open Go.RowKit Tr Nu
def unA (a j:Nat):Nat:=if j<a then j else j+1
def shZ (a:Nat) (z:Int):Int:=if z<(a:Int) then z else z - 1
theorem unA_lt {a j:Nat} (h:j<a):unA a j=j:=if_pos h
theorem unA_ge {a j:Nat} (h:a≤j):unA a j=j+1:=if_neg (by omega)
theorem flowF_skip {t:List Nd} {a:Nat} {x:Nd} (hx:t[a]?=some x) (hk:x.kind=46) (b:Nat):flowF t b (a+1)=flowF t b a:=by
 rw [flowF_succ hx,if_neg]
 rw [hk]
 exact fun h=>by cases h.1
theorem flowF_cut {t:List Nd} {a:Nat} {x:Nd} (hx:t[a]?=some x) (hk:x.kind=46) (j:Nat):∀ n,n≤j→flowF (withoutV t a) j n=shZ a (flowF t (unA a j) (unA a n))
 | 0,_=>by
  rcases Nat.eq_zero_or_pos a with rfl | h
  ·rw [unA_ge (Nat.le_refl _),flowF_skip hx hk];rfl
  ·rw [unA_lt h]
   show -1=shZ a (-1)
   unfold shZ;rw [if_pos (by omega)]
 | n+1,hn=>by
  have ha:=(List.getElem?_eq_some_iff.1 hx).1
  have ih:=flowF_cut hx hk j n (by omega)
  rcases Nat.lt_or_ge n a with h | h
  ·rw [unA_lt h] at ih
   have e:flowF t (unA a j) (unA a (n+1))=flowF t (unA a j) (n+1):=by
    rcases Nat.lt_or_ge (n+1) a with h2 | h2
    ·rw [unA_lt h2]
    ·obtain rfl:n+1=a:=by omega
     rw [unA_ge (Nat.le_refl _),flowF_skip hx hk]
   rw [e]
   obtain ⟨y,hy⟩:=nu_some (l:=t) (i:=n) (by omega)
   have hw:=withoutV_at ha n
   rw [if_pos h,hy,Option.map_some] at hw
   rw [flowF_succ hy,flowF_succ hw,ih]
   have hkd:(if (a:Int)<(n:Int)+y.size then decS y else y).kind=y.kind:=by split<;>rfl
   have hsz:(j:Int)<(n:Int)+(if (a:Int)<(n:Int)+y.size then decS y else y).size↔((unA a j:Nat):Int)<(n:Int)+y.size:=by
    by_cases hc:(a:Int)<(n:Int)+y.size
    ·rw [if_pos hc]
     show (j:Int)<(n:Int)+(y.size - 1)↔_
     rcases Nat.lt_or_ge j a with h3 | h3
     ·rw [unA_lt h3];omega
     ·rw [unA_ge h3];omega
    ·rw [if_neg hc]
     rcases Nat.lt_or_ge j a with h3 | h3
     ·rw [unA_lt h3]
     ·rw [unA_ge h3];omega
   rw [hkd]
   by_cases hc:flowedK y.kind=true∧((unA a j:Nat):Int)<(n:Int)+y.size
   ·rw [if_pos hc,if_pos ⟨hc.1,hsz.2 hc.2⟩]
    unfold shZ;rw [if_pos (by omega)]
   ·rw [if_neg hc,if_neg (fun hh=>hc ⟨hh.1,hsz.1 hh.2⟩)]
  ·rw [unA_ge h] at ih
   rw [unA_ge (show a≤n+1 by omega),unA_ge (show a≤j by omega)] at *
   have hw:=withoutV_at ha n
   rw [if_neg (by omega)] at hw
   cases hy:t[n+1]? with
   | none =>
    rw [hy] at hw
    conv=>lhs;unfold flowF
    conv=>rhs;unfold flowF
    rw [hw,hy]
    simp only []
    exact ih
   | some y =>
    rw [hy] at hw
    rw [flowF_succ hy,flowF_succ hw,ih]
    by_cases hc:flowedK y.kind=true∧(j:Int)<(n:Int)+y.size
    ·rw [if_pos hc,if_pos ⟨hc.1,by omega⟩]
     unfold shZ;rw [if_neg (by omega)];omega
    ·rw [if_neg hc,if_neg (fun hh=>hc ⟨hh.1,by omega⟩)]
theorem nodeC_cut {t:List Nd} {a:Nat} {x:Nd} (hx:t[a]?=some x) (hk:x.kind=46) (f i:Nat):nodeC (withoutV t a) f i=nodeC t (unA a f) (unA a i):=by
 have ha:=(List.getElem?_eq_some_iff.1 hx).1
 have hfl:flowV (withoutV t a) i=(f:Int)↔flowV t (unA a i)=((unA a f:Nat):Int):=by
  unfold flowV
  rw [flowF_cut hx hk i i (Nat.le_refl _)]
  have hne:flowF t (unA a i) (unA a i)≠(a:Int):=fun e=>by
   obtain ⟨-,y,hy,h2,-⟩:=flowF_in t _ a _ e
   rw [hx] at hy
   cases hy
   rw [hk] at h2;cases h2
  generalize flowF t (unA a i) (unA a i)=z at hne ⊢
  unfold shZ unA
  split<;>split<;>omega
 have hlt:f<i↔unA a f<unA a i:=by unfold unA;split<;>split<;>omega
 rw [nodeC_is,nodeC_is,withoutV_at ha i]
 rcases Nat.lt_or_ge i a with h | h
 ·rw [if_pos h]
  rw [unA_lt h] at hfl hlt ⊢
  cases hy:t[i]? with
  | none=>rfl
  | some y =>
   simp only [Option.map_some]
   have e:∀ z:Nd,(if (a:Int)<(i:Int)+y.size then decS y else y)=z→z.kind=y.kind∧z.text=y.text:=by
    intro z hz;subst hz;split<;>exact ⟨rfl,rfl⟩
   obtain ⟨e1,e2⟩:=e _ rfl
   rw [e1,e2]
   simp only [hfl,hlt]
 ·rw [if_neg (by omega)]
  rw [unA_ge h] at hfl hlt ⊢
  cases hy:t[i+1]? with
  | none=>rfl
  | some y=>simp only [hfl,hlt]
theorem cont_cut {t:List Nd} {a:Nat} {x:Nd} (hx:t[a]?=some x) (hk:x.kind=46) (h0:x.text.size=0) (f:Nat):∀ n,contC (withoutV t a) f n=contC t (unA a f) (unA a n):=by
 have hgone:∀ g,contC t g (a+1)=contC t g a:=fun g=>by
  have hz:Lx.bytesN x.text=[]:=List.eq_nil_of_length_eq_zero (by rw [Lx.bytesN_len];exact h0)
  rw [contC_succ,nodeC_is,hx]
  simp only [hz,List.map_nil,ite_self,List.append_nil]
 intro n
 induction n with
 | zero =>
  rcases Nat.eq_zero_or_pos a with rfl | h
  ·rw [unA_ge (Nat.le_refl _),hgone];rfl
  ·rw [unA_lt h];rfl
 | succ n ih =>
  rw [contC_succ,ih,nodeC_cut hx hk,← contC_succ]
  rcases Nat.lt_or_ge n a with h | h
  ·rw [unA_lt h]
   rcases Nat.lt_or_ge (n+1) a with h2 | h2
   ·rw [unA_lt h2]
   ·obtain rfl:n+1=a:=by omega
    rw [unA_ge (Nat.le_refl _),hgone]
  ·rw [unA_ge h,unA_ge (show a≤n+1 by omega)]
theorem Clean.cut {t:List Nd} {a:Nat} {x:Nd} (h:Clean t) (hx:t[a]?=some x) (hk:x.kind=46) (h0:x.text.size=0):Clean (withoutV t a):=by
 have ha:=(List.getElem?_eq_some_iff.1 hx).1
 have hl:=withoutV_len ha
 refine ⟨fun f=>?_,fun y hy=>?_⟩
 ·rw [cont_cut hx hk h0]
  have:contC t (unA a f) (unA a (withoutV t a).length)=contC t (unA a f) t.length:=by
   rw [unA_ge (show a≤(withoutV t a).length by omega),hl]
  rw [this];exact h.flow _
 ·obtain ⟨i,hi⟩:=List.mem_iff_getElem?.1 hy
  rw [withoutV_at ha] at hi
  split at hi
  ·cases hz:t[i]? with
   | none=>rw [hz] at hi;cases hi
   | some z =>
    rw [hz,Option.map_some,Option.some.injEq] at hi
    have:y.text=z.text:=by rw [← hi];split<;>rfl
    rw [this];exact h.byte z (List.mem_of_getElem? hz)
  ·exact h.byte y (List.mem_of_getElem? hi)
theorem Clean.move {t t':List Nd} {a:Nat} (h:Clean t) (hb:Bones t t') (hl:t'.length=t.length) {x y x' y':Nd} (hy:t[a]?=some y) (hx:t[a+1]?=some x) (hy':t'[a]?=some y') (hx':t'[a+1]?=some x')
  (ky:y.kind=46) (kx:x.kind=46) (hne:∀ i,i≠a→i≠a+1→t'[i]?=t[i]?) (htx:Lx.bytesN y'.text++Lx.bytesN x'.text=Lx.bytesN y.text++Lx.bytesN x.text) (hfl:flowV t a=flowV t (a+1)):Clean t':=by
 have hk':y'.kind=46∧x'.kind=46:=by
  have h1:=hb a
  have h2:=hb (a+1)
  rw [hy,hy',Option.map_some,Option.map_some,Option.some.injEq,Prod.mk.injEq] at h1
  rw [hx,hx',Option.map_some,Option.map_some,Option.some.injEq,Prod.mk.injEq] at h2
  exact ⟨h1.1.trans ky,h2.1.trans kx⟩
 have hnode:∀ f i,i≠a→i≠a+1→nodeC t' f i=nodeC t f i:=fun f i h1 h2=>by
  rw [nodeC_is,nodeC_is,hne i h1 h2,flowV_bones hb]
 have htwo:∀ f,nodeC t' f a++nodeC t' f (a+1)=nodeC t f a++nodeC t f (a+1):=fun f=>by
  rw [nodeC_is,nodeC_is,nodeC_is,nodeC_is,hy,hx,hy',hx',flowV_bones hb,flowV_bones hb]
  simp only [ky,kx,hk'.1,hk'.2,← hfl,true_and]
  by_cases hc:flowV t a=(f:Int)
  ·have hfa:=(flowV_in hc).1
   rw [if_pos ⟨hfa,hc⟩,if_pos ⟨by omega,hc⟩,if_pos ⟨hfa,hc⟩,if_pos ⟨by omega,hc⟩,← List.map_append,htx,List.map_append]
  ·rw [if_neg (fun hh=>hc hh.2),if_neg (fun hh=>hc hh.2),if_neg (fun hh=>hc hh.2),if_neg (fun hh=>hc hh.2)]
 have hlow:∀ f n,n≤a→contC t' f n=contC t f n:=fun f n=>by
  induction n with
  | zero=>intro _;rfl
  | succ n ih=>intro hn;rw [contC_succ,contC_succ,ih (by omega),hnode f n (by omega) (by omega)]
 have hall:∀ f m,contC t' f (a+2+m)=contC t f (a+2+m):=fun f m=>by
  induction m with
  | zero =>
   show contC t' f (a+1+1)=contC t f (a+1+1)
   rw [contC_succ,contC_succ,contC_succ,contC_succ,hlow f a (Nat.le_refl _),List.append_assoc,List.append_assoc,htwo]
  | succ m ih =>
   rw [show a+2+(m+1)=(a+2+m)+1 by omega,contC_succ,contC_succ,ih,hnode f _ (by omega) (by omega)]
 have ha:=(List.getElem?_eq_some_iff.1 hx).1
 refine ⟨fun f=>?_,fun z hz=>?_⟩
 ·rw [hl]
  obtain ⟨m,hm⟩:∃ m,t.length=a+2+m:=⟨t.length - (a+2),by omega⟩
  rw [hm,hall,← hm];exact h.flow f
 ·obtain ⟨i,hi⟩:=List.mem_iff_getElem?.1 hz
  have hin:∀ b ∈ Lx.bytesN y.text++Lx.bytesN x.text,rawB b=b:=fun b hb=>by
   rcases List.mem_append.1 hb with g | g
   ·exact h.byte y (List.mem_of_getElem? hy) b g
   ·exact h.byte x (List.mem_of_getElem? hx) b g
  rw [← htx] at hin
  by_cases h1:i=a
  ·subst h1
   rw [hy'] at hi;cases hi
   exact fun b hb=>hin b (List.mem_append_left _ hb)
  ·by_cases h2:i=a+1
   ·subst h2
    rw [hx'] at hi;cases hi
    exact fun b hb=>hin b (List.mem_append_right _ hb)
   ·rw [hne i h1 h2] at hi
    exact h.byte z (List.mem_of_getElem? hi)
theorem row_flow {A B:List Ev} {y x:Ev} (hb:Bal (A++y::x::B)) (hy:y.kind=1) (hx:x.kind=1):flowV (rowE (A++y::x::B)) (nod A)=flowV (rowE (A++y::x::B)) (nod A+1):=by
 have ht:=row_text hb hy
 have hk:(ndE y).kind=46:=by unfold ndE;rw [if_pos hy]
 have hn:nod (A++[y])=nod A+1:=by rw [nod_app,nod_one (.inl hy)]
 have e1:A++y::x::B=(A++[y])++x::B:=by simp
 have hs:(rowS (A++[y])).2=(rowS A).2:=by
  rw [show rowS (A++[y])=bld (rowS A) y by unfold rowS;rw [List.foldl_append];rfl]
  unfold bld;rw [if_pos hy]
 unfold flowV
 rw [flowF_skip ht hk]
 have key:∀ n,n≤nod A→flowF (rowE (A++y::x::B)) (nod A) n=flowF (rowE (A++y::x::B)) (nod A+1) n:=by
  intro n
  induction n with
  | zero=>intro _;rfl
  | succ n ih =>
   intro hle
   have ih:=ih (by omega)
   cases hz:(rowE (A++y::x::B))[n]? with
   | none=>unfold flowF;rw [hz];exact ih
   | some z =>
    rw [flowF_succ hz,flowF_succ hz,ih]
    have h1:=row_open hb (.inl hy) (j:=n) (by omega) hz
    have h2:=row_open (A:=A++[y]) (B:=B) (x:=x) (by rw [← e1];exact hb) (.inl hx) (j:=n) (by omega) (by rw [← e1];exact hz)
    rw [hs,hn] at h2
    have:((nod A:Nat):Int)<(n:Int)+z.size↔((nod A+1:Nat):Int)<(n:Int)+z.size:=h1.trans h2.symm
    simp only [this]
 exact key _ (Nat.le_refl _)
theorem row_other {A B:List Ev} {x x':Ev} (h:Bal (A++x::B)) (hx:x.kind=1) (hx':x'.kind=1) (i:Nat) (hi:i≠nod A):(rowE (A++x'::B))[i]?=(rowE (A++x::B))[i]?:=by
 rw [← row_put h hx hx',List.getElem?_set,if_neg (fun e=>hi e.symm)]
theorem Clean.step {acc L:List Ev} {x:Ev} (hb:Bal (acc++x::L)) (h:Clean (rowE (acc++x::L))):Clean (rowE (stepJ acc x++L)):=by
 by_cases hk:x.kind=1
 ·have hxk:(ndE x).kind=46:=by unfold ndE;rw [if_pos hk]
  have hxt:(ndE x).text=x.text:=by unfold ndE;rw [if_pos hk]
  by_cases h0:x.text.size=0
  ·rw [stepJ_gone hk h0,← row_cut hb hk]
   exact h.cut (row_text hb hk) hxk (by rw [hxt];exact h0)
  ·rcases List.eq_nil_or_concat acc with rfl | ⟨A,y,rfl⟩
   ·rw [stepJ_first hk h0 endsE_nil];simpa using h
   ·rw [List.concat_eq_append] at h hb ⊢
    by_cases hy:y.kind=1
    ·rw [stepJ_more hk h0 hy]
     rw [List.append_assoc] at h hb ⊢
     have h:Clean (rowE (A++y::x::L)):=h
     have hb:Bal (A++y::x::L):=hb
     show Clean (rowE (A++{ y with text:=y.text++x.text }::L))
     have hy1:({ y with text:=y.text++x.text }:Ev).kind=1:=hy
     have hx0:({ x with text:=emptyS }:Ev).kind=1:=hk
     have hn:nod (A++[{ y with text:=y.text++x.text }])=nod A+1:=by rw [nod_app,nod_one (.inl hy1)]
     have hnY:nod (A++[y])=nod A+1:=by rw [nod_app,nod_one (.inl hy)]
     have hb1:Bal (A++{ y with text:=y.text++x.text }::x::L):=hb.put hy hy1
     have hb1':Bal ((A++[{ y with text:=y.text++x.text }])++x::L):=by rw [List.append_assoc];exact hb1
     have hb2':Bal ((A++[{ y with text:=y.text++x.text }])++{ x with text:=emptyS }::L):=hb1'.put hk hx0
     have hb2:Bal (A++{ y with text:=y.text++x.text }::{ x with text:=emptyS }::L):=by rw [List.append_assoc] at hb2';exact hb2'
     have hbY:Bal ((A++[y])++x::L):=by rw [List.append_assoc];exact hb
     have g1:=row_text hb hy
     have g2:=row_text hbY hk
     rw [hnY,List.append_assoc] at g2
     have g2:(rowE (A++y::x::L))[nod A+1]?=some (ndE x):=g2
     have g3:=row_text hb2 hy1
     have g4:=row_text hb2' hx0
     rw [hn,List.append_assoc] at g4
     have g4:(rowE (A++{ y with text:=y.text++x.text }::{ x with text:=emptyS }::L))[nod A+1]?=some (ndE { x with text:=emptyS }):=g4
     have hother:∀ i,i≠nod A→i≠nod A+1→(rowE (A++{ y with text:=y.text++x.text }::{ x with text:=emptyS }::L))[i]?=(rowE (A++y::x::L))[i]?:=fun i i1 i2=>by
      rw [← row_other hb hy hy1 i i1]
      have:=row_other hb1' hk hx0 i (by rw [hn];exact i2)
      rw [List.append_assoc,List.append_assoc] at this
      exact this
     have hM:Clean (rowE (A++{ y with text:=y.text++x.text }::{ x with text:=emptyS }::L)):=by
      refine Clean.move (a:=nod A) (t:=rowE (A++y::x::L)) h (fun i=>?_) ?_ g1 g2 g3 g4 ?_ ?_ hother ?_ (row_flow hb hy hk)
      ·by_cases i1:i=nod A
       ·subst i1
        rw [g1,g3]
        unfold ndE;rw [if_pos hy,if_pos hy1];rfl
       ·by_cases i2:i=nod A+1
        ·subst i2
         rw [g2,g4]
         unfold ndE;rw [if_pos hk,if_pos hx0];rfl
        ·rw [hother i i1 i2]
      ·have two:∀ p q:Ev,p.kind=1→q.kind=1→nod (p::q::L)=1+(1+nod L):=fun p q hp hq=>by rw [nod_cons p,nod_cons q,nod_one (.inl hp),nod_one (.inl hq)]
       rw [rowE_len,rowE_len,nod_app,nod_app,two _ _ hy1 hx0,two _ _ hy hk]
      ·unfold ndE;rw [if_pos hy]
      ·exact hxk
      ·unfold ndE
       rw [if_pos hy,if_pos hy1,if_pos hk,if_pos hx0]
       show Lx.bytesN (y.text++x.text)++Lx.bytesN emptyS=Lx.bytesN y.text++Lx.bytesN x.text
       rw [Lx.bytesN_append]
       exact List.append_nil _
     have hc:=row_cut hb2' hx0
     rw [hn,List.append_assoc,List.append_assoc] at hc
     have hc2:withoutV (rowE (A++{ y with text:=y.text++x.text }::{ x with text:=emptyS }::L)) (nod A+1)=rowE (A++{ y with text:=y.text++x.text }::L):=hc
     rw [← hc2]
     exact hM.cut g4 (by unfold ndE;rw [if_pos hx0]) (by unfold ndE;rw [if_pos hx0];rfl)
    ·rw [stepJ_first hk h0 (endsE_snoc hy)];simpa using h
 ·rw [stepJ_node hk];simpa using h
theorem clean_join:∀ (L acc:List Ev),Bal (acc++L)→Clean (rowE (acc++L))→Clean (rowE (L.foldl stepJ acc)):=by
 intro L
 induction L with
 | nil=>intro acc _ h;rw [List.append_nil] at h;exact h
 | cons x L ih =>
  intro acc hb h
  rw [List.foldl_cons]
  refine ih _ ?_ (Clean.step hb h)
  unfold Bal at hb ⊢
  rw [dep_stepJ];exact hb
theorem clean_norm {t:List Nd} {L:List Lx.Lx} (hW:Wf t L) (hp:∀ x ∈ t,plainNd x):Clean (normV t):=by
 rw [normV_is hW]
 refine clean_join _ [] ?_ ?_
 ·rw [List.nil_append];exact wf_bal hW _ _ 0
 ·rw [List.nil_append,wf_asNew hW];exact clean_texts (wf_szs hW) hp
end Go.Proofs.YtmldpkigfhoalaaGreatDoor.Cn
namespace Go.Proofs.YtmldpkigfhoalaaGreatDoor.Cn
open Go.RowKit Tr Nu
inductive Rd:List Ev→Prop where
 | nil:Rd []
 | node {A:List Ev} {x:Ev}:Rd A→x.kind≠1→Rd (A++[x])
 | text {A:List Ev} {x:Ev}:Rd A→endsE A→x.kind=1→x.text.size≠0→Rd (A++[x])
theorem Rd.join {J:List Ev} (h:Rd J):joinE J=J:=by
 induction h with
 | nil=>rfl
 | node _ hk ih=>rw [joinE_snoc,ih,stepJ_node hk]
 | text _ he hk h0 ih=>rw [joinE_snoc,ih,stepJ_first hk h0 he]
theorem Rd.last {A:List Ev} {y:Ev} (h:Rd (A++[y])) (hy:y.kind=1):Rd A∧endsE A∧y.text.size≠0:=by
 generalize hJ:A++[y]=J at h
 cases h with
 | nil=>simp at hJ
 | node h1 h2 =>
  obtain ⟨rfl,e⟩:=List.append_inj' hJ rfl
  cases e
  exact absurd hy h2
 | text h1 h2 h3 h4 =>
  obtain ⟨rfl,e⟩:=List.append_inj' hJ rfl
  cases e
  exact ⟨h1,h2,h4⟩
theorem Rd.step {acc:List Ev} (h:Rd acc) (x:Ev):Rd (stepJ acc x):=by
 by_cases hk:x.kind=1
 ·by_cases h0:x.text.size=0
  ·rw [stepJ_gone hk h0];exact h
  ·rcases List.eq_nil_or_concat acc with rfl | ⟨A,y,rfl⟩
   ·rw [stepJ_first hk h0 endsE_nil];exact .text .nil endsE_nil hk h0
   ·rw [List.concat_eq_append] at h ⊢
    by_cases hy:y.kind=1
    ·obtain ⟨h1,h2,h3⟩:=h.last hy
     rw [stepJ_more hk h0 hy]
     exact .text h1 h2 hy (by show (y.text++x.text).size≠0;rw [ByteArray.size_append];omega)
    ·rw [stepJ_first hk h0 (endsE_snoc hy)];exact .text h (endsE_snoc hy) hk h0
 ·rw [stepJ_node hk];exact .node h hk
theorem rd_fold:∀ (L acc:List Ev),Rd acc→Rd (L.foldl stepJ acc):=by
 intro L
 induction L with
 | nil=>intro acc h;exact h
 | cons x L ih=>intro acc h;rw [List.foldl_cons];exact ih _ (h.step x)
theorem rd_join (L:List Ev):Rd (joinE L):=rd_fold L [] .nil
theorem evE_same (K:Nat→ByteArray × Int) (O:Nat→Int):∀ (J A:List Ev),(∀ x ∈ J,EvOk x)→(∀ B y C,J=B++y::C→y.kind=1→(K (nod (A++B))).1=y.text)→(evE K O (nod A) (J.map e2l)).map ev0=J.map ev0
 | [],_,_,_=>rfl
 | x::J,A,ho,hK=>by
  have ih:=evE_same K O J (A++[x]) (fun y hy=>ho y (List.mem_cons_of_mem _ hy)) (fun B y C e hy=>by
   rw [List.append_assoc];exact hK (x::B) y C (by rw [e];rfl) hy)
  rw [List.map_cons,List.map_cons]
  rcases ho x (List.mem_cons_self ..) with ⟨s,pl,rfl⟩ | ⟨k,pl,hk,rfl⟩ | rfl
  ·rw [evE_k1 rfl,List.map_cons]
   rw [nod_app,nod_one (.inl rfl)] at ih
   rw [ih]
   have:=hK [] _ J rfl rfl
   rw [List.append_nil] at this
   rw [show ev0 (txE (K (nod A)).1 (K (nod A)).2)=ev0 (txE s pl) by unfold ev0 txE;rw [this];rfl]
  ·rw [evE_k2 rfl,List.map_cons]
   rw [nod_app,nod_one (.inr rfl)] at ih
   rw [ih];rfl
  ·rw [evE_k3 (by decide) (by decide),List.map_cons]
   rw [nod_app,show nod [clE]=0 from rfl,Nat.add_zero] at ih
   rw [ih]
theorem ofBytes_self {s:ByteArray} (h:∀ b ∈ Lx.bytesN s,rawB b=b):Lx.bytesOf ((Lx.bytesN s).map rawB)=s:=by rw [map_id_of h,Lx.bytesOf_bytesN]
theorem clean_new {u:List Nd} (hS:Szs u) (hC:Clean u) {i:Nat} {x:Nd} (hx:u[i]?=some x) (hk:x.kind=46) {f:Nat} (hf:flowV u i=(f:Int)):newText u i=x.text:=by
 obtain ⟨hfi,y,hy,-,-⟩:=flowV_in hf
 have hi:=(List.getElem?_eq_some_iff.1 hx).1
 unfold newText keptAt
 rw [if_pos (by omega),hf,Int.toNat_natCast,flowSp_sz hS hy,fine_id (hC.flow f),rawF_filter,if_pos hi]
 have:(nodeRaw u f i).map Sp.c=(Lx.bytesN x.text).map rawB:=by
  have:=nodeC_is u f i
  rw [hx] at this
  simp only [] at this
  rw [if_pos ⟨hfi,hk,hf⟩] at this
  exact this
 rw [this];exact ofBytes_self (hC.byte x (List.mem_of_getElem? hx))
theorem nameL_small {k:Nat} (h:Lx.nameL k≠[]):k<256:=by
 unfold Lx.nameL at h
 split at h
 ·omega
 ·split at h
  ·rename_i h2
   unfold Lx.lettersL at h2
   simp at h2
   omega
  ·exact absurd rfl h
theorem nodeOk_kind {x:Nd} (h:nodeOk x=true):x.kind<256:=by
 unfold nodeOk at h
 rw [Bool.and_eq_true] at h
 by_cases hk:x.kind=46
 ·omega
 ·have h1:=h.1
  rw [if_neg hk,decide_eq_true_eq] at h1
  exact nameL_small (fun e=>h1.2 (by unfold Lx.nameS;rw [e];rfl))
theorem check_kinds {t:List Nd} (hc:checkV t=0):∀ x ∈ t,x.kind<256:=fun x hx=>nodeOk_kind (((checkV_ok t).1 hc).1 x hx)
theorem check_plain {t:List Nd} (hc:checkV t=0):∀ x ∈ t,plainNd x:=fun x hx=>plain_ok (((checkV_ok t).1 hc).1 x hx)
theorem norm_of_clean {J:List Ev} (hb:Bal J) (ho:∀ x ∈ J,EvOk x) (hJ:Rd J) (hc:checkV (rowE J)=0) (hC:Clean (rowE J)):(normV (rowE J)).map bare=(rowE J).map bare:=by
 have hW:=bal_wf J hb ho
 have hS:=wf_szs hW
 rw [normV_is hW]
 have hsame:(evE (asNew (rowE J)) (placeAt (rowE J)) 0 (J.map e2l)).map ev0=J.map ev0:=evE_same _ _ J [] ho (fun B y C e hy=>by
  rw [List.nil_append]
  have hx:(rowE J)[nod B]?=some (ndE y):=by rw [e];exact row_text (by rw [← e];exact hb) hy
  have hk:(ndE y).kind=46:=by unfold ndE;rw [if_pos hy]
  obtain ⟨f,hf⟩:=Nl.text_flow hc (check_kinds hc) hx hk
  show newText (rowE J) (nod B)=_
  rw [clean_new hS hC hx hk hf]
  unfold ndE;rw [if_pos hy])
 have h1:=row_0 (joinE (evE (asNew (rowE J)) (placeAt (rowE J)) 0 (J.map e2l))) [] []
 have h2:=row_0 J [] []
 have h3:=join_0 (evE (asNew (rowE J)) (placeAt (rowE J)) 0 (J.map e2l)) []
 have h4:=join_0 J []
 rw [hsame,← h4,show J.foldl stepJ []=J from hJ.join] at h3
 exact (h1.trans (congrArg (fun l:List Ev=>(l.foldl bld (([]:List Nd).map bare,[])).1) h3)).trans h2.symm
theorem norm_norm {t:List Nd} (hc:checkV t=0):(normV (normV t)).map bare=(normV t).map bare:=by
 obtain ⟨L,hW,-⟩:=check_wf hc
 have hn:=check_norm hc
 have hC:=clean_norm hW (check_plain hc)
 rw [normV_is hW] at hn hC ⊢
 exact norm_of_clean (wf_bal hW _ _ 0).join (foldJ_ok _ [] (fun y hy=>by cases hy) (evE_ok hW _ _ 0)) (rd_join _) hn hC
theorem is_norm {t:List Nd} (hc:checkV t=0):isV (normV t)=true:=by
 unfold isV
 rw [check_norm hc,bare_same _ _ (norm_norm hc).symm];rfl
end Go.Proofs.YtmldpkigfhoalaaGreatDoor.Cn
