/-
  Put together.
-/
import Derived.Test.YthbigkoihpgcfaaGreatDoorUh
namespace Go.Proofs.YthbigkoihpgcfaaGreatDoor.Ti
open Go.RowKit Ba Ru Ck
def iZ (l:List Rl) (cells:List Nat) (at' row:Int):Option Nat :=
 if 0≤at'∧at'<cells.length then l.findIdx? fun x=>iL x row && x.cells.isPrefixOf (cells.drop at'.toNat) else none
def cZ (l:List Rl) (cells:List Nat):Option Nat:=l.findIdx? fun x=>decide (x.aE=5∧x.cells=cells)
def cI (l:List Rl) (aE:Int) (left:List Nat):Option Nat:=l.findIdx? fun x=>decide (x.aE=aE∧x.left=left)
def fN (l:List Rl) (name:List Nat):List Nat:=match cI l 8 name with | some k=>(l[k]?.map (·.cells)).getD [] | none=>[]
theorem AM {l:List Rl} (A:j5 l) {p:Rl→Bool} {k:Nat} {x:Rl} (hk:l[k]?=some x) (hp:p x=true) (hc:∀ y,p y=true→bQ x y=true):l.findIdx? p=some k:=by
 obtain⟨hl,rfl⟩:=List.getElem?_eq_some_iff.1 hk
 have A:=List.pairwise_iff_getElem.1 A
 rw[List.findIdx?_eq_some_iff_getElem]
 refine⟨hl,hp,fun j hj=>?_⟩
 intro h
 have h1:=A j k (by omega) hl hj
 rw[nN,hc _ h]at h1
 cases h1
theorem YS {l:List Rl} (A:j5 l) {row:Int} {k:Nat} {x:Rl} (hk:l[k]?=some x) (hr:iL x row=true) {s:List Nat} {p:Nat} {r:List Nat} (hs:s.drop p=x.cells++r) (hc:x.cells≠[]):iZ l s (p:Int) row=some k:=by
 have hp:p<s.length:=by
  refine Classical.byContradiction fun h=>hc ?_
  rw[List.drop_of_length_le (by omega)]at hs
  exact(List.append_eq_nil_iff.1 hs.symm).1
 unfold iZ
 rw[if_pos ⟨by omega,by omega⟩]
 refine AM A hk ?_ fun y hy=>?_
 ·rw[Int.toNat_natCast,hs,hr,Bool.true_and,List.isPrefixOf_iff_prefix]
  exact List.prefix_append _ _
 ·rw[Int.toNat_natCast,hs,Bool.and_eq_true,List.isPrefixOf_iff_prefix]at hy
  obtain⟨h1,r',h2⟩:=hy
  have ho:oX x.cells y.cells=true:=xO (b:=r) (d:=r') (by rw[h2];exact List.prefix_rfl)
  unfold bQ
  rw[xN hr h1,ho]
  simp
theorem aAT {l:List Rl} (A:j5 l) {k:Nat} {x:Rl} (hk:l[k]?=some x) (hw:x.aE=5):cZ l x.cells=some k:=by
 refine AM A hk (decide_eq_true ⟨hw,rfl⟩) fun y hy=>?_
 obtain⟨h1,h2⟩:=of_decide_eq_true hy
 unfold bQ
 rw[decide_eq_true (p:=x.aE=5∧y.aE=5∧x.cells=y.cells) ⟨hw,h1,h2.symm⟩]
 simp
theorem O8 {l:List Rl} (A:j5 l) {k:Nat} {x:Rl} (hk:l[k]?=some x):cI l x.aE x.left=some k:=by
 refine AM A hk (decide_eq_true ⟨rfl,rfl⟩) fun y hy=>?_
 obtain⟨h1,h2⟩:=of_decide_eq_true hy
 unfold bQ
 rw[decide_eq_true (p:=x.aE=y.aE∧x.left=y.left) ⟨h1.symm,h2.symm⟩]
 simp
theorem aAS {l:List Rl} (A:j5 l) {k:Nat} {x:Rl} (hk:l[k]?=some x) (hw:x.aE=8):fN l x.left=x.cells:=by
 have h:=O8 A hk
 rw[hw]at h
 unfold fN
 rw[h]
 show (l[k]?.map (·.cells)).getD []=_
 rw[hk];rfl
end Go.Proofs.YthbigkoihpgcfaaGreatDoor.Ti
namespace Go.Proofs.YthbigkoihpgcfaaGreatDoor.Ti
open Go.RowKit Ba Ru Ck
def eJ (f:Nat × Nat→Option Nat):Nat→List Nat→Option Nat
 | p,[]=>some p
 | p,c::s=>match f (p,c)with | some q=>eJ f q s | none=>none
theorem xD (f:Nat × Nat→Option Nat):∀ (s t:List Nat) (p:Nat),eJ f p (s++t)=(eJ f p s).bind fun q=>eJ f q t
 | [],t,p=>rfl
 | c::s,t,p=>by
  show (match f (p,c)with | some q=>eJ f q (s++t) | none=>none)=(match f (p,c)with | some q=>eJ f q s | none=>none).bind _
  cases f (p,c) with
  | none=>rfl
  | some q=>exact xD f s t q
theorem DL (f:Nat × Nat→Option Nat) (s:List Nat) (c p:Nat):eJ f p (s++[c])=(eJ f p s).bind fun q=>f (q,c):=by
 rw[xD]
 congr 1
 funext q
 show (match f (q,c)with | some r=>some r | none=>none)=_
 cases f (q,c)<;>rfl
structure Tree (f:Nat × Nat→Option Nat) (n:Nat):Prop where
 up:∀ {p c q:Nat},f (p,c)=some q→p≤n∧1≤q∧q≤n
 one:∀ {p c p' c' q:Nat},f (p,c)=some q→f (p',c')=some q→p=p'∧c=c'
theorem Tree.le {f:Nat × Nat→Option Nat} {n:Nat} (h:Tree f n):∀ (s:List Nat) (p q:Nat),p≤n→eJ f p s=some q→q≤n
 | [],p,q,hp,e=>by
  have:p=q:=Option.some.inj e
  omega
 | c::s,p,q,hp,e=>by
  have e:(match f (p,c)with | some q=>eJ f q s | none=>none)=some q:=e
  cases hf:f (p,c) with
  | none=>rw[hf]at e;cases e
  | some r=>rw[hf]at e;exact h.le s r q (h.up hf).2.2 e
theorem Tree.inj {f:Nat × Nat→Option Nat} {n:Nat} (h:Tree f n):∀ (k:Nat) (s s':List Nat) (q:Nat),s.length=k→eJ f 0 s=some q→eJ f 0 s'=some q→s=s':=by
 have snoc:∀ s:List Nat,s=[]∨∃ t c,s=t++[c]:=fun s=>by
  rcases List.eq_nil_or_concat s with h | ⟨t,c,h⟩
  ·exact .inl h
  ·exact .inr ⟨t,c,by rw[h,List.concat_eq_append]⟩
 have pos:∀ (t:List Nat) (c q:Nat),eJ f 0 (t++[c])=some q→∃ p,eJ f 0 t=some p∧f (p,c)=some q:=fun t c q e=>by
  rw[DL]at e
  cases ht:eJ f 0 t with
  | none=>rw[ht]at e;cases e
  | some p=>rw[ht]at e;exact⟨p,rfl,e⟩
 intro k
 induction k with
 | zero =>
  intro s s' q hs e e'
  have:s=[]:=List.length_eq_zero_iff.1 hs
  subst this
  have e:(0:Nat)=q:=Option.some.inj e
  rcases snoc s' with rfl | ⟨t,c,rfl⟩
  ·rfl
  ·obtain⟨p,-,hf⟩:=pos t c q e'
   have:=(h.up hf).2.1
   omega
 | succ k ih =>
  intro s s' q hs e e'
  rcases snoc s with rfl | ⟨t,c,rfl⟩
  ·simp at hs
  obtain⟨p,hp,hf⟩:=pos t c q e
  rcases snoc s' with rfl | ⟨t',c',rfl⟩
  ·have e':(0:Nat)=q:=Option.some.inj e'
   have:=(h.up hf).2.1
   omega
  obtain⟨p',hp',hf'⟩:=pos t' c' q e'
  obtain⟨rfl,rfl⟩:=h.one hf hf'
  rw[ih t t' p (by simpa using hs) hp hp']
def KQ (f:Nat × Nat→Option Nat) (x:Nat × Nat) (q:Nat):Nat × Nat→Option Nat:=fun y=>if y=x then some q else f y
theorem Tree.set {f:Nat × Nat→Option Nat} {n p c:Nat} (h:Tree f n) (hp:p≤n):Tree (KQ f (p,c) (n+1)) (n+1) where
 up:=fun {a d q} e=>by
  unfold KQ at e
  by_cases hx:(a,d)=(p,c)
  ·rw[if_pos hx]at e
   have:n+1=q:=Option.some.inj e
   obtain⟨rfl,-⟩:=Prod.mk.inj hx
   omega
  ·rw[if_neg hx]at e
   have:=h.up e
   omega
 one:=fun {a d a' d' q} e e'=>by
  unfold KQ at e e'
  by_cases hx:(a,d)=(p,c)
  ·rw[if_pos hx]at e
   have hq:n+1=q:=Option.some.inj e
   by_cases hy:(a',d')=(p,c)
   ·exact Prod.mk.inj (hx.trans hy.symm)
   ·rw[if_neg hy]at e'
    have:=h.up e'
    omega
  ·rw[if_neg hx]at e
   by_cases hy:(a',d')=(p,c)
   ·rw[if_pos hy]at e'
    have hq:n+1=q:=Option.some.inj e'
    have:=h.up e
    omega
   ·rw[if_neg hy]at e'
    exact h.one e e'
def kB (f g:Nat × Nat→Option Nat):Prop:=∀ x q,f x=some q→g x=some q
theorem kB.refl (f:Nat × Nat→Option Nat):kB f f:=fun _ _ h=>h
theorem kB.trans {f g h:Nat × Nat→Option Nat} (a:kB f g) (b:kB g h):kB f h:=fun x q e=>b x q (a x q e)
theorem kB.set {f:Nat × Nat→Option Nat} {x:Nat × Nat} (hx:f x=none) (q:Nat):kB f (KQ f x q):=fun y r e=>by
 unfold KQ
 rw[if_neg (fun h=>by rw[h,hx]at e;cases e)]
 exact e
theorem kB.walk {f g:Nat × Nat→Option Nat} (h:kB f g):∀ (s:List Nat) (p q:Nat),eJ f p s=some q→eJ g p s=some q
 | [],_,_,e=>e
 | c::s,p,q,e=>by
  have e:(match f (p,c)with | some q=>eJ f q s | none=>none)=some q:=e
  show (match g (p,c)with | some q=>eJ g q s | none=>none)=some q
  cases hf:f (p,c) with
  | none=>rw[hf]at e;cases e
  | some r =>
   rw[hf]at e
   rw[h _ _ hf]
   exact h.walk s r q e
theorem aEF (f:Nat × Nat→Option Nat) (x:Nat × Nat) (q:Nat):KQ f x q x=some q:=by unfold KQ;rw[if_pos rfl]
theorem FK {f:Nat × Nat→Option Nat} {s:List Nat} {i c p q:Nat} (hw:eJ f 0 (s.take i)=some p) (hc:s[i]?=some c) (hf:f (p,c)=some q):eJ f 0 (s.take (i+1))=some q:=by
 rw[List.take_add_one,hc,Option.toList_some,DL,hw]
 exact hf
structure qW (M:List Nat→Nat→Prop) (f:Nat × Nat→Option Nat) (e:Nat→Option Nat) (n:Nat):Prop where
 tree:Tree f n
 there:∀ s r,M s r→∃ q,eJ f 0 s=some q∧e q=some r
 back:∀ q r,e q=some r→∃ s,M s r∧eJ f 0 s=some q
theorem qW.congr {M M':List Nat→Nat→Prop} {f:Nat × Nat→Option Nat} {e:Nat→Option Nat} {n:Nat} (h:qW M f e n) (hM:∀ s r,M s r↔M' s r):qW M' f e n :=
 ⟨h.tree,fun s r k=>h.there s r ((hM s r).2 k),fun q r k=>by obtain⟨s,h1,h2⟩:=h.back q r k;exact⟨s,(hM s r).1 h1,h2⟩⟩
theorem qW.nothing:qW (fun _ _=>False) (fun _=>none) (fun _=>none) 0 :=
 ⟨⟨fun h=>(by cases h),fun h=>(by cases h)⟩,fun _ _ h=>h.elim,fun _ _ h=>(by cases h)⟩
section
variable {M:List Nat→Nat→Prop} {f g:Nat × Nat→Option Nat} {e:Nat→Option Nat} {n m p:Nat} {s:List Nat}
theorem qW.free (h:qW M f e n) (hg:Tree g m) (hk:kB f g) (hw:eJ g 0 s=some p) (hs:∀ r,¬ M s r):e p=none:=by
 cases he:e p with
 | none=>rfl
 | some r =>
  obtain⟨t,h1,h2⟩:=h.back p r he
  have:=hg.inj _ _ _ _ rfl (hk.walk t 0 p h2) hw
  subst this
  exact absurd h1 (hs r)
theorem qW.add (h:qW M f e n) (hg:Tree g m) (hk:kB f g) (hw:eJ g 0 s=some p) (hs:∀ r,¬ M s r) (k:Nat):qW (fun t r=>M t r∨t=s∧r=k) g (fun q=>if q=p then some k else e q) m where
 tree:=hg
 there:=fun t r ht=>by
  rcases ht with ht | ⟨rfl,rfl⟩
  ·obtain⟨q,h1,h2⟩:=h.there t r ht
   refine⟨q,hk.walk t 0 q h1,?_⟩
   rw[if_neg fun hq=>?_]
   ·exact h2
   ·rw[hq,h.free hg hk hw hs]at h2
    cases h2
  ·exact⟨p,hw,if_pos rfl⟩
 back:=fun q r hq=>by
  by_cases hp:q=p
  ·rw[if_pos hp]at hq
   exact⟨s,.inr ⟨rfl,(Option.some.inj hq).symm⟩,by rw[hp];exact hw⟩
  ·rw[if_neg hp]at hq
   obtain⟨t,h1,h2⟩:=h.back q r hq
   exact⟨t,.inl h1,hk.walk t 0 q h2⟩
structure aDC (M:List Nat→Nat→Prop) (cs:List Nat) (o:Option Nat):Prop where
 yes:∀ i r,0<i→i≤cs.length→M (cs.take i) r→o=some r
 no:(∀ i r,0<i→i≤cs.length→¬ M (cs.take i) r)→o=none
variable {cs:List Nat} {o:Option Nat} {i c q:Nat}
end
def AN (l:List Rl) (row:Int) (k:Nat) (s:List Nat) (r:Nat):Prop:=r<k∧∃ x,l[r]?=some x∧iL x row=true∧x.cells=s
theorem YT (l:List Rl) (row:Int) (s:List Nat) (r:Nat):False↔AN l row 0 s r:=⟨fun h=>h.elim,fun h=>by have:=h.1;omega⟩
theorem YU {l:List Rl} {row:Int} {k:Nat} {x:Rl} (hx:l[k]?=some x) (hr:iL x row=true) (s:List Nat) (r:Nat):(AN l row k s r∨s=x.cells∧r=k)↔AN l row (k+1) s r:=by
 constructor
 ·rintro(⟨h1,h2⟩ | ⟨rfl,rfl⟩)
  ·exact⟨by omega,h2⟩
  ·exact⟨by omega,x,hx,hr,rfl⟩
 ·rintro⟨h1,y,h2,h3,rfl⟩
  by_cases hk:r=k
  ·subst hk
   rw[hx]at h2
   cases h2
   exact .inr ⟨rfl,rfl⟩
  ·exact .inl ⟨by omega,y,h2,h3,rfl⟩
theorem YV {l:List Rl} {row:Int} {k:Nat} {x:Rl} (hx:l[k]?=some x) (hr:iL x row=false) (s:List Nat) (r:Nat):AN l row k s r↔AN l row (k+1) s r:=by
 constructor
 ·rintro⟨h1,h2⟩
  exact⟨by omega,h2⟩
 ·rintro⟨h1,y,h2,h3,rfl⟩
  by_cases hk:r=k
  ·subst hk
   rw[hx]at h2
   cases h2
   rw[hr]at h3
   cases h3
  ·exact⟨by omega,y,h2,h3,rfl⟩
theorem AO {l:List Rl} (A:j5 l) {r k:Nat} {y x:Rl} (hr:l[r]?=some y) (hk:l[k]?=some x) (h:r<k):bQ y x=false:=by
 obtain⟨h1,rfl⟩:=List.getElem?_eq_some_iff.1 hr
 obtain⟨h2,rfl⟩:=List.getElem?_eq_some_iff.1 hk
 exact List.pairwise_iff_getElem.1 A r k h1 h2 h
theorem over_self (a:List Nat):oX a a=true:=by
 unfold oX
 rw[List.isPrefixOf_iff_prefix.2 (List.prefix_refl a)]
 rfl
theorem YW {l:List Rl} (A:j5 l) {row:Int} {k:Nat} {x:Rl} (hx:l[k]?=some x) (hr:iL x row=true) (r:Nat):¬ AN l row k x.cells r:=by
 rintro⟨h1,y,h2,h3,h4⟩
 have:=AO A h2 hx h1
 unfold bQ at this
 rw[xN h3 hr,h4,over_self]at this
 simp at this
theorem TR {l:List Rl} (A:j5 l) (hc:∀ x ∈ l,x.cells≠[]) (row:Int) (S:List Nat) (p:Nat) (hp:p<S.length):aDC (AN l row l.length) (S.drop p) (iZ l S (p:Int) row) where
 yes:=fun i r h0 hi h=>by
  obtain⟨-,x,h2,h3,h4⟩:=h
  have e:S.drop p=x.cells++(S.drop p).drop i:=by rw[h4,List.take_append_drop]
  exact YS A h2 h3 e (hc x (List.mem_of_getElem? h2))
 no:=fun h=>by
  unfold iZ
  rw[if_pos ⟨by omega,by omega⟩,List.findIdx?_eq_none_iff]
  intro x hx
  refine Bool.eq_false_iff.2 fun hb=>?_
  rw[Bool.and_eq_true,List.isPrefixOf_iff_prefix,Int.toNat_natCast]at hb
  obtain⟨hr,hpre⟩:=hb
  obtain⟨r,hl,hr2⟩:=List.getElem_of_mem hx
  have hn:0<x.cells.length:=List.length_pos_iff.2 (hc x hx)
  refine h x.cells.length r hn hpre.length_le ⟨hl,x,?_,hr,?_⟩
  ·rw[← hr2];exact List.getElem?_eq_getElem hl
  ·exact List.prefix_iff_eq_take.1 hpre
theorem TS {l:List Rl} {S:List Nat} {p row:Int} (h:¬ (0≤p∧p<S.length∧1≤row∧row≤3)):iZ l S p row=none:=by
 unfold iZ
 by_cases hp:0≤p∧p<S.length
 ·rw[if_pos hp,List.findIdx?_eq_none_iff]
  intro x _
  have:iL x row=false:=by
   unfold iL
   rw[decide_eq_false (p:=1≤row∧row≤3) (fun k=>h ⟨hp.1,hp.2,k⟩)]
   rfl
  rw[this,Bool.false_and]
 ·rw[if_neg hp]
theorem TT {l:List Rl} (A:j5 l) {k:Nat} {x:Rl} (hx:l[k]?=some x) (q:Int) (s:List Nat) :
  cI (l.take k) x.aE x.left=none∧cI (l.take (k+1)) q s=if (q,s)=(x.aE,x.left) then some k else cI (l.take k) q s:=by
 have hk:k<l.length:=(List.getElem?_eq_some_iff.1 hx).1
 have hnone:cI (l.take k) x.aE x.left=none:=by
  unfold cI
  rw[List.findIdx?_eq_none_iff]
  intro y hy
  obtain⟨j,hj,hy2⟩:=List.getElem_of_mem hy
  rw[List.length_take]at hj
  refine decide_eq_false fun h=>?_
  have hj2:l[j]?=some y:=by
   rw[← hy2,List.getElem_take]
   exact List.getElem?_eq_getElem (by omega)
  have:=AO A hj2 hx (by omega)
  unfold bQ at this
  rw[decide_eq_true (p:=y.aE=x.aE∧y.left=x.left) h]at this
  simp at this
 refine⟨hnone,?_⟩
 have ht:l.take (k+1)=l.take k++[x]:=by rw[List.take_add_one,hx];rfl
 have hl:(l.take k).length=k:=by rw[List.length_take];omega
 by_cases h:(q,s)=(x.aE,x.left)
 ·rw[if_pos h]
  obtain⟨rfl,rfl⟩:=Prod.mk.inj h
  unfold cI at hnone ⊢
  rw[ht,List.findIdx?_append,hnone,hl]
  simp
 ·rw[if_neg h]
  unfold cI
  rw[ht,List.findIdx?_append]
  have:List.findIdx? (fun x=>decide (x.aE=q∧x.left=s)) [x]=none:=by
   rw[List.findIdx?_eq_none_iff]
   intro y hy
   rw[List.mem_singleton.1 hy]
   exact decide_eq_false fun k=>h (by rw[k.1,k.2])
  rw[this]
  simp
theorem TU {l:List Rl} (A:j5 l) {k:Nat} {x:Rl} (hx:l[k]?=some x) (hw:x.aE=5) (s:List Nat) :
  cZ (l.take k) x.cells=none∧cZ (l.take (k+1)) s=if s=x.cells then some k else cZ (l.take k) s:=by
 have hk:k<l.length:=(List.getElem?_eq_some_iff.1 hx).1
 have hnone:cZ (l.take k) x.cells=none:=by
  unfold cZ
  rw[List.findIdx?_eq_none_iff]
  intro y hy
  obtain⟨j,hj,hy2⟩:=List.getElem_of_mem hy
  rw[List.length_take]at hj
  refine decide_eq_false fun h=>?_
  have hj2:l[j]?=some y:=by
   rw[← hy2,List.getElem_take]
   exact List.getElem?_eq_getElem (by omega)
  have:=AO A hj2 hx (by omega)
  unfold bQ at this
  rw[decide_eq_true (p:=y.aE=5∧x.aE=5∧y.cells=x.cells) ⟨h.1,hw,h.2⟩]at this
  simp at this
 refine⟨hnone,?_⟩
 have ht:l.take (k+1)=l.take k++[x]:=by rw[List.take_add_one,hx];rfl
 have hl:(l.take k).length=k:=by rw[List.length_take];omega
 by_cases h:s=x.cells
 ·rw[if_pos h]
  subst h
  unfold cZ at hnone ⊢
  rw[ht,List.findIdx?_append,hnone,hl]
  simp[hw]
 ·rw[if_neg h]
  unfold cZ
  rw[ht,List.findIdx?_append]
  have:List.findIdx? (fun x=>decide (x.aE=5∧x.cells=s)) [x]=none:=by
   rw[List.findIdx?_eq_none_iff]
   intro y hy
   rw[List.mem_singleton.1 hy]
   exact decide_eq_false fun k=>h k.2.symm
  rw[this]
  simp
theorem TV {l:List Rl} {k:Nat} {x:Rl} (hx:l[k]?=some x) (hw:x.aE≠5) (s:List Nat):cZ (l.take (k+1)) s=cZ (l.take k) s:=by
 have ht:l.take (k+1)=l.take k++[x]:=by rw[List.take_add_one,hx];rfl
 unfold cZ
 rw[ht,List.findIdx?_append]
 have:List.findIdx? (fun x=>decide (x.aE=5∧x.cells=s)) [x]=none:=by
  rw[List.findIdx?_eq_none_iff]
  intro y hy
  rw[List.mem_singleton.1 hy]
  exact decide_eq_false fun k=>hw k.1
 rw[this]
 simp
end Go.Proofs.YthbigkoihpgcfaaGreatDoor.Ti
