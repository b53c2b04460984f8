/-
  Put together: TsP, TsQ, TsR, TsS, TsT.
-/
import Derived.Test.YtgpihfacmpbpaaaGreatDoorVb
import Derived.Test.YtgpihfacmpbpaaaGreatDoorVc
namespace Go.Proofs.YtgpihfacmpbpaaaGreatDoor.Tr
open Go.RowKit
theorem lF {k:Nat} {s:ByteArray}:cM k s=true↔k ∈ Lx.aH s:=by unfold cM;rw[List.contains_iff_mem]
theorem PV:∀ k ∈ Lx.aH fB,k≠95∧k≠105∧k≠108∧k≠116∧k≠114∧k≠0∧k≠46:=by decide +kernel
theorem wB {a:Nat} (b:Nat) (h:cM a fB=true):rk a b=if cM b jQ then 1 else 0:=by
 have:=PV a (lF.1 h)
 unfold rk
 rw[if_neg this.1,if_pos h]
theorem X0 (b:Nat):rk 105 b=if cM b jQ then 1 else if b=108 then 2 else 0:=by
 unfold rk;rw[if_neg (by decide),if_neg (by decide +kernel),if_neg (by decide),if_pos rfl]
theorem aBD (b:Nat):rk 108 b=if b=105 then 1 else 0:=by
 unfold rk;rw[if_neg (by decide),if_neg (by decide +kernel),if_pos rfl]
theorem aBE (b:Nat):rk 116 b=if b=114 then 1 else 0:=by
 unfold rk;rw[if_neg (by decide),if_neg (by decide +kernel),if_neg (by decide),if_neg (by decide),if_pos rfl]
theorem aBF (b:Nat):rk 114 b=if b=99 then 1 else 0:=by
 unfold rk;rw[if_neg (by decide),if_neg (by decide +kernel),if_neg (by decide),if_neg (by decide),if_neg (by decide),if_pos rfl]
theorem wC (b:Nat):rk 95 b=if cM b kX then 1 else 0:=by unfold rk;rw[if_pos rfl]
theorem X1 {a:Nat} (b:Nat) (h0:a≠95) (h1:cM a fB=false) (h2:a≠105) (h3:a≠108) (h4:a≠116) (h5:a≠114):rk a b=0:=by
 unfold rk;rw[if_neg h0,if_neg (by rw[h1];simp),if_neg h3,if_neg h2,if_neg h4,if_neg h5]
theorem jS {b:Nat}:cM b jQ=true↔b=46∨b=101∨b=115∨b=110:=by
 rw[lF]
 show b ∈ [46,101,115,110]↔_
 simp
theorem tF {b:Nat}:cM b xT=true↔b=101∨b=115∨b=110:=by
 rw[lF]
 show b ∈ [101,115,110]↔_
 simp
theorem qF {b:Nat}:tJ b=true↔b=101∨b=115∨b=110:=by
 unfold tJ;simp[or_assoc]
theorem uR {b:Nat}:cM b bN=true↔b=49∨b=50∨b=51∨b=112∨b=105:=by
 rw[lF]
 show b ∈ [49,50,51,112,105]↔_
 simp
theorem KU {b:Nat}:cM b fB=true↔b=49∨b=50∨b=51∨b=112∨b=99∨b=110∨b=101∨b=115:=by
 rw[lF]
 show b ∈ [49,50,51,112,99,110,101,115]↔_
 simp
theorem yC {b:Nat}:cM b kX=true↔b=49∨b=50∨b=51∨b=112∨b=108∨b=116∨b=107:=by
 rw[lF]
 show b ∈ [49,50,51,112,108,116,107]↔_
 simp
theorem GK {b:Nat}:cM b q7=true↔b=108∨b=116∨b=114:=by
 rw[lF]
 show b ∈ [108,116,114]↔_
 simp
theorem KV {b:Nat}:cM b bU=true↔b=110:=by
 rw[lF]
 show b ∈ [110]↔_
 simp
theorem aDQ {a b:Nat} (ha:tJ a=true) (h:rk a b≠0) (hb:b≠46):tJ b=true:=by
 have hf:cM a fB=true:=by rw[KU];rw[qF]at ha;omega
 rw[wB b hf]at h
 have h1:cM b jQ=true:=by
  cases hx:cM b jQ
  ·rw[hx]at h;exact absurd rfl h
  ·rfl
 rw[jS]at h1
 rw[qF];omega
theorem aE8 {b:Nat} (h:rk 99 b≠0) (hb:b≠46):tJ b=true:=by
 have hf:cM 99 fB=true:=by decide +kernel
 rw[wB b hf]at h
 have h1:cM b jQ=true:=by
  cases hx:cM b jQ
  ·rw[hx]at h;exact absurd rfl h
  ·rfl
 rw[jS]at h1
 rw[qF];omega
theorem aBG {a b:Nat} (hb:tJ b=true) (h:rk a b≠0):cM a fB=true∨a=105:=by
 rw[qF]at hb
 by_cases h1:cM a fB=true
 ·exact .inl h1
 ·by_cases h2:a=105
  ·exact .inr h2
  ·exfalso
   by_cases h0:a=95
   ·subst h0;rw[wC]at h
    have:cM b kX=false:=by rw[← Bool.not_eq_true,yC];omega
    rw[this]at h;exact h rfl
   by_cases h3:a=108
   ·subst h3;rw[aBD,if_neg (by omega)]at h;exact h rfl
   by_cases h4:a=116
   ·subst h4;rw[aBE,if_neg (by omega)]at h;exact h rfl
   by_cases h5:a=114
   ·subst h5;rw[aBF,if_neg (by omega)]at h;exact h rfl
   exact h (X1 b h0 (by simpa using h1) h2 h3 h4 h5)
section
variable {p:List Op} {l:List Lv}
theorem Rel.o5 (h:Rel p l) {i:Nat} (hi:i<p.length) (h0:i≠0):(l.getD i fN).kind=(p.getD i root).kind:=by
 have:=(h.one i hi).kind
 rw[if_neg h0]at this;exact this
theorem Rel.ET (h:Rel p l):(l.getD 0 fN).kind=95:=by
 have:=(h.one 0 h.pos).kind
 rw[if_pos rfl]at this;exact this
theorem Rel.aEO (h:Rel p l) {i:Nat} (hi:i+1<p.length) (ht:tJ (l.getD i fN).kind=true):tJ (l.getD (i+1) fN).kind=true:=by
 obtain⟨h1,_,h3⟩:=h.CI i hi
 exact aDQ ht h3 (by rw[h.o5 hi (by omega)];exact h1)
theorem Rel.aB5 (h:Rel p l) {i:Nat} (ht:tJ (l.getD i fN).kind=true):∀ d,i+d<p.length→tJ (l.getD (i+d) fN).kind=true
 | 0,_=>ht
 | d+1,hd=>h.aEO (i:=i+d) hd (h.aB5 ht d (by omega))
theorem Rel.upT (h:Rel p l) {i j:Nat} (hij:i≤j) (hj:j<p.length) (ht:tJ (l.getD i fN).kind=true):tJ (l.getD j fN).kind=true:=by
 have:=h.aB5 ht (j - i) (by omega)
 rwa [show i+(j - i)=j from by omega]at this
theorem CP {k:Nat}:∀ n i,gR l k n=some i↔i<n∧(l.getD i fN).kind=k∧(∀ j,i≤j→j<n→tJ (l.getD j fN).kind=true)∧∀ j,i<j→j<n→(l.getD j fN).kind≠k
 | 0,i=>by unfold gR;simp
 | n+1,i=>by
  unfold gR
  by_cases ht:tJ (l.getD n fN).kind=true
  ·rw[if_pos ht]
   by_cases hk:(l.getD n fN).kind=k
   ·rw[if_pos hk]
    constructor
    ·intro e;cases e
     exact⟨by omega,hk,fun j h1 h2=>by rw[show j=n from by omega];exact ht,fun j h1 h2=>by omega⟩
    ·rintro⟨h1,h2,h3,h4⟩
     rcases Nat.lt_or_ge i n with h5 | h5
     ·exact absurd hk (h4 n h5 (by omega))
     ·rw[show i=n from by omega]
   ·rw[if_neg hk,CP n i]
    constructor
    ·rintro⟨h1,h2,h3,h4⟩
     exact⟨by omega,h2,fun j a b=>by rcases Nat.lt_or_ge j n with c | c;exact h3 j a c;rw[show j=n from by omega];exact ht,fun j a b=>by rcases Nat.lt_or_ge j n with c | c;exact h4 j a c;rw[show j=n from by omega];exact hk⟩
    ·rintro⟨h1,h2,h3,h4⟩
     have:i≠n:=fun e=>hk (by rw[← e];exact h2)
     exact⟨by omega,h2,fun j a b=>h3 j a (by omega),fun j a b=>h4 j a (by omega)⟩
  ·rw[if_neg ht]
   constructor
   ·intro e;cases e
   ·rintro⟨h1,h2,h3,h4⟩
    exact absurd (h3 n (by omega) (by omega)) ht
theorem Rel.nR (h:Rel p l) {k i:Nat} (hk:tJ k=true):cX l k=some i↔i<p.length∧(l.getD i fN).kind=k∧∀ j,i<j→j<p.length→(l.getD j fN).kind≠k:=by
 unfold cX
 rw[CP,← h.len]
 constructor
 ·rintro⟨h1,h2,_,h4⟩;exact⟨h1,h2,h4⟩
 ·rintro⟨h1,h2,h4⟩;exact⟨h1,h2,fun j a b=>h.upT a b (by rw[h2];exact hk),h4⟩
theorem NZ {P:Nat→Prop}:∀ n,(∃ i,i<n∧P i)→∃ i,i<n∧P i∧∀ j,i<j→j<n→¬ P j
 | 0,⟨i,h,_⟩=>absurd h (by omega)
 | n+1,h=>by
  by_cases hn:P n
  ·exact⟨n,by omega,hn,fun j a b=>by omega⟩
  ·obtain⟨i,h1,h2⟩:=h
   have h3:i≠n:=fun e=>hn (by rw[← e];exact h2)
   obtain⟨m,a,b,c⟩:=NZ n ⟨i,by omega,h2⟩
   exact⟨m,by omega,b,fun j x y=>by rcases Nat.lt_or_ge j n with d | d;exact c j x d;rw[show j=n from by omega];exact hn⟩
theorem Rel.zF (h:Rel p l) {k:Nat} (hk:tJ k=true):cX l k=none↔∀ i,i<p.length→(l.getD i fN).kind≠k:=by
 constructor
 ·intro hn i hi hc
  obtain⟨m,a,b,c⟩:=NZ (P:=fun i=>(l.getD i fN).kind=k) p.length ⟨i,hi,hc⟩
  rw[(h.nR hk).2 ⟨a,b,c⟩]at hn
  cases hn
 ·intro hn
  cases hw:cX l k with
  | none=>rfl
  | some i =>
   obtain⟨a,b,_⟩:=(h.nR hk).1 hw
   exact absurd b (hn i a)
theorem o7 (p:List Op) (ks:ByteArray):∀ n i,0<i→(iC p ks n=i↔i<n∧cM (p.getD i root).kind ks=true∧∀ j,i<j→j<n→cM (p.getD j root).kind ks=false)
 | 0,i,hi=>by unfold iC;constructor;intro e;omega;rintro⟨a,_⟩;omega
 | n+1,i,hi=>by
  unfold iC
  by_cases h0:n=0
  ·rw[if_pos h0];constructor;intro e;omega;rintro⟨a,_⟩;omega
  ·rw[if_neg h0]
   by_cases hk:cM (p.getD n root).kind ks=true
   ·rw[if_pos hk]
    constructor
    ·intro e;subst e;exact⟨by omega,hk,fun j a b=>by omega⟩
    ·rintro⟨a,b,c⟩
     rcases Nat.lt_or_ge i n with d | d
     ·have:=c n d (by omega);rw[hk]at this;cases this
     ·omega
   ·rw[if_neg hk,o7 p ks n i hi]
    constructor
    ·rintro⟨a,b,c⟩
     exact⟨by omega,b,fun j x y=>by rcases Nat.lt_or_ge j n with d | d;exact c j x d;rw[show j=n from by omega];simpa using hk⟩
    ·rintro⟨a,b,c⟩
     have:i≠n:=fun e=>hk (by rw[← e];exact b)
     exact⟨by omega,b,fun j x y=>c j x (by omega)⟩
theorem N0 (p:List Op) (ks:ByteArray) (n:Nat):iC p ks n=0↔∀ i,0<i→i<n→cM (p.getD i root).kind ks=false:=by
 constructor
 ·intro h i h0 hi
  cases hk:cM (p.getD i root).kind ks
  ·rfl
  ·obtain⟨m,a,⟨b,b'⟩,c⟩:=NZ (P:=fun i=>0<i∧cM (p.getD i root).kind ks=true) n ⟨i,hi,h0,hk⟩
   rw[(o7 p ks n m b).2 ⟨a,b',fun j x y=>by
    cases hj:cM (p.getD j root).kind ks
    ·rfl
    ·exact absurd ⟨by omega,hj⟩ (c j x y)⟩]at h
   omega
 ·intro h
  rcases Nat.eq_zero_or_pos (iC p ks n)with e | e
  ·exact e
  ·obtain⟨a,b,_⟩:=(o7 p ks n _ e).1 rfl
   rw[h _ e a]at b;cases b
theorem Rel.note (h:Rel p l):cX l 110=if aN p bU=0 then none else some (aN p bU):=by
 by_cases h0:aN p bU=0
 ·rw[if_pos h0,h.zF (by rfl)]
  intro i hi hc
  rcases Nat.eq_zero_or_pos i with e | e
  ·subst e;rw[h.ET]at hc;omega
  ·have:=(N0 p bU p.length).1 h0 i e hi
   rw[h.o5 hi (by omega)]at hc
   rw[hc]at this
   revert this;decide +kernel
 ·rw[if_neg h0,h.nR (by rfl)]
  obtain⟨a,b,c⟩:=(o7 p bU p.length _ (Nat.pos_of_ne_zero h0)).1 rfl
  refine⟨a,?_,fun j x y=>?_⟩
  ·rw[h.o5 a h0];exact KV.1 b
  ·rw[h.o5 y (by omega)]
   intro e
   have:=c j x y
   rw[KV.2 e]at this;cases this
theorem Rel.many (h:Rel p l) {k:Nat} (hk:tJ k=true):(cX l k).isNone=decide (bG p k=0):=by
 have key:bG p k=0↔∀ i,0<i→i<p.length→(p.getD i root).kind≠k:=by
  unfold bG
  rw[List.length_eq_zero_iff,List.filter_eq_nil_iff]
  constructor
  ·intro hh i h0 hi e
   have hm:p.getD i root ∈ p.drop 1:=by
    rw[List.mem_iff_getElem?]
    refine⟨i - 1,?_⟩
    rw[List.getElem?_drop,show 1+(i - 1)=i from by omega,List.getD_eq_getElem?_getD,List.getElem?_eq_getElem hi];rfl
   exact hh _ hm (by rw[e];simp)
  ·intro hh o ho hc
   obtain⟨j,hj⟩:=List.mem_iff_getElem?.1 ho
   rw[List.getElem?_drop]at hj
   have hlt:=(List.getElem?_eq_some_iff.1 hj).1
   refine hh (1+j) (by omega) hlt ?_
   rw[List.getD_eq_getElem?_getD,hj]
   simpa using hc
 have k95:k≠95:=fun e=>by subst e;cases hk
 cases hw:cX l k with
 | none =>
  have:=(h.zF hk).1 hw
  have h2:bG p k=0:=key.2 fun i h0 hi=>by rw[← h.o5 hi (by omega)];exact this i hi
  rw[h2];rfl
 | some i =>
  obtain⟨a,b,_⟩:=(h.nR hk).1 hw
  have h2:¬ bG p k=0:=fun e=>by
   rcases Nat.eq_zero_or_pos i with z | z
   ·subst z;rw[h.ET]at b;exact k95 b.symm
   ·exact key.1 e i z a (by rw[← h.o5 a (by omega)];exact b)
  rw[decide_eq_false h2];rfl
theorem tG:∀ n,0<n→tJ (l.getD 0 fN).kind=false→dF l n<n∧tJ (l.getD (dF l n) fN).kind=false∧∀ j,dF l n<j→j<n→tJ (l.getD j fN).kind=true
 | 0,h,_=>absurd h (by omega)
 | n+1,_,h0=>by
  unfold dF
  by_cases ht:tJ (l.getD n fN).kind=true
  ·rw[if_pos ht]
   have hn:0<n:=by
    rcases Nat.eq_zero_or_pos n with e | e
    ·subst e;rw[h0]at ht;cases ht
    ·exact e
   obtain⟨a,b,c⟩:=tG n hn h0
   exact⟨by omega,b,fun j x y=>by rcases Nat.lt_or_ge j n with d | d;exact c j x d;rw[show j=n from by omega];exact ht⟩
  ·rw[if_neg ht]
   exact⟨by omega,by simpa using ht,fun j x y=>by omega⟩
theorem Rel.block (h:Rel p l):aR l<p.length∧tJ (l.getD (aR l) fN).kind=false∧∀ j,aR l<j→j<p.length→tJ (l.getD j fN).kind=true:=by
 have:=tG (l:=l) l.length (by rw[← h.len];exact h.pos) (by rw[h.ET];rfl)
 rw[← h.len]at this
 unfold aR
 rw[← h.len]
 exact this
end
end Go.Proofs.YtgpihfacmpbpaaaGreatDoor.Tr
namespace Go.Proofs.YtgpihfacmpbpaaaGreatDoor.Tr
open Go.RowKit
section
variable {p:List Op} {l:List Lv}
theorem Rel.top (h:Rel p l):KJ (p.length - 1) (aZ p) (aT l):=by
 rw[gW p h.pos]
 unfold aT
 rw[← h.len]
 exact h.one _ (by have:=h.pos;omega)
theorem CQ (a:Op) (h:a.kind≠105):qT a≤1:=by
 unfold qT
 split
 ·omega
 ·rw[if_neg (fun e=>h e.1)];omega
theorem GL {a:Op} (h:a.kind=105):qT a=2↔cM 108 a.kids=true:=by
 unfold qT
 by_cases h0:a.kids.size=0
 ·rw[if_pos h0]
  constructor
  ·intro e;omega
  ·intro e
   rw[lF]at e
   have:=List.length_pos_of_mem e
   rw[Lx.bL]at this;omega
 ·rw[if_neg h0]
  by_cases h1:cM 108 a.kids=true
  ·rw[if_pos ⟨h,h1⟩];simp[h1]
  ·rw[if_neg (fun e=>h1 e.2)];simp[h1]
theorem EU (a:Op):qT a≤2:=by
 unfold qT
 split
 ·omega
 ·split<;>omega
theorem jB {l:List Lv} {k:Nat} (h1:rk (aT l).kind k≠0) (h2:(aT l).rank≤rk (aT l).kind k):fR l k =
  if k=99 then decide ((aT l).parts<8) else if k=101∨k=115 then (cX l k).isNone else if k=110 then decide ((l.getD (aR l) fN).kind≠99) && !(l.getD (aR l) fN).iO else true:=by
 unfold fR
 rw[if_neg (by omega)]
theorem iF {l:List Lv} {k:Nat} (h:rk (aT l).kind k=0∨rk (aT l).kind k<(aT l).rank):fR l k=false:=by
 unfold fR
 rw[if_pos h]
theorem Rel.wD (h:Rel p l) (h1:p.length≠1):(aT l).kind=(aZ p).kind∧(aZ p).kind≠95∧(aZ p).kind≠46:=by
 have h0:=h.pos
 have ht:=h.top
 have hk:=ht.kind
 rw[if_neg (by omega)]at hk
 obtain⟨a,b,_⟩:=h.CI (p.length - 2) (by omega)
 rw[show p.length - 2+1=p.length - 1 from by omega,← gW p h0]at a b
 exact⟨hk,b,a⟩
theorem Rel.CR (h:Rel p l) (h1:p.length=1):(aT l).kind=95∧(aZ p).kind=0:=by
 have hk:=h.top.kind
 rw[if_pos (by omega)]at hk
 refine⟨hk,?_⟩
 rw[gW p h.pos,h1];exact h.KK
theorem lR (p:List Op):aJ p=(cM (aZ p).kind fB || ((aZ p).kind==105 && !cM 108 (aZ p).kids)):=rfl
theorem CS:cM 0 fB=false∧cM 95 fB=false∧cM 108 fB=false∧cM 116 fB=false:=by decide +kernel
theorem wE {p:List Op} {q:Nat} (hq:(aZ p).kind=q) (hf:cM q fB=false) (hi:q≠105):aJ p=false:=by
 rw[lR,hq,hf,show (q==105)=false from beq_eq_false_iff_ne.2 hi];rfl
theorem Rel.texts (h:Rel p l):fR l 46=aJ p:=by
 rw[lR]
 have hf46:cM 46 jQ=true:=by decide +kernel
 by_cases h1:p.length=1
 ·obtain⟨a,b⟩:=h.CR h1
  rw[iF (.inl (by rw[a,wC];decide +kernel)),← lR]
  exact(wE b CS.1 (by decide)).symm
 ·obtain⟨a,b,c⟩:=h.wD h1
  have hr:=h.top.rank
  by_cases hf:cM (aZ p).kind fB=true
  ·have hq:=PV _ (lF.1 hf)
   have hrk:rk (aT l).kind 46=1:=by rw[a,wB 46 hf,if_pos hf46]
   rw[jB (by omega) (by rw[hrk,hr];exact CQ _ hq.2.1),hf]
   rfl
  ·rw[Bool.not_eq_true]at hf
   rw[hf,Bool.false_or]
   by_cases hi:(aZ p).kind=105
   ·have hrk:rk (aT l).kind 46=1:=by rw[a,hi,X0,if_pos hf46]
    have h2:=GL hi
    have hle:=EU (aZ p)
    rw[hi]
    by_cases h108:cM 108 (aZ p).kids=true
    ·rw[iF (.inr (by rw[hrk,hr,h2.2 h108];omega)),h108];rfl
    ·rw[jB (by omega) (by rw[hrk,hr];have:qT (aZ p)≠2:=fun e=>h108 (h2.1 e);omega)]
     rw[Bool.not_eq_true]at h108
     rw[h108];rfl
   ·rw[show ((aZ p).kind==105)=false from beq_eq_false_iff_ne.2 hi,Bool.false_and]
    refine iF (.inl ?_)
    rw[a]
    by_cases q3:(aZ p).kind=108
    ·rw[q3,aBD,if_neg (by omega)]
    by_cases q4:(aZ p).kind=116
    ·rw[q4,aBE,if_neg (by omega)]
    by_cases q5:(aZ p).kind=114
    ·rw[q5,aBF,if_neg (by omega)]
    exact X1 46 b hf hi q3 q4 q5
theorem Rel.X2 (h:Rel p l) (ht:aJ p=true):0<aR l∧(cM (p.getD (aR l) root).kind bN=true∨(p.getD (aR l) root).kind=99):=by
 obtain⟨a,b,c⟩:=h.block
 have key:cM (l.getD (aR l) fN).kind fB=true∨(l.getD (aR l) fN).kind=105:=by
  by_cases he:aR l+1<p.length
  ·obtain⟨h1,h2,h3⟩:=h.CI _ he
   exact aBG (c _ (by omega) he) h3
  ·have h4:aR l=p.length - 1:=by omega
   by_cases h1:p.length=1
   ·rw[wE (h.CR h1).2 CS.1 (by decide)]at ht
    cases ht
   ·have hk:=(h.wD h1).1
    unfold aT at hk
    rw[← h.len]at hk
    rw[h4,hk]
    rw[lR,Bool.or_eq_true,Bool.and_eq_true,beq_iff_eq]at ht
    exact ht.imp id (fun e=>e.1)
 have h0:0<aR l:=by
  rcases Nat.eq_zero_or_pos (aR l)with e | e
  ·rw[e,h.ET]at key
   rcases key with k | k
   ·rw[CS.2.1]at k;cases k
   ·omega
  ·exact e
 refine⟨h0,?_⟩
 rw[h.o5 a (by omega)]at key b
 rw[uR]
 rw[KU]at key
 have hb:¬ ((p.getD (aR l) root).kind=101∨(p.getD (aR l) root).kind=115∨(p.getD (aR l) root).kind=110):=fun e=>by rw[qF.2 e]at b;cases b
 omega
theorem Rel.CT (h:Rel p l) (hc:cM (p.getD (aR l) root).kind bN=true) (h0:0<aR l):aN p bN=aR l:=by
 obtain⟨a,b,c⟩:=h.block
 refine(o7 p bN p.length _ h0).2 ⟨a,hc,fun j x y=>?_⟩
 have:=c j x y
 rw[h.o5 y (by omega),qF]at this
 rw[← Bool.not_eq_true,uR]
 omega
theorem X3 {p:List Op} {k i:Nat} (h0:0<i) (hi:i<p.length) (hk:(p.getD i root).kind=k):0<bG p k:=by
 unfold bG
 rw[List.length_pos_iff_exists_mem]
 refine⟨p.getD i root,List.mem_filter.2 ⟨?_,by rw[hk];simp⟩⟩
 rw[List.mem_iff_getElem?]
 refine⟨i - 1,?_⟩
 rw[List.getElem?_drop,show 1+(i - 1)=i from by omega,List.getD_eq_getElem?_getD,List.getElem?_eq_getElem hi];rfl
theorem EV {p:List Op} {k:Nat} (h:∀ i,0<i→i<p.length→(p.getD i root).kind≠k):bG p k=0:=by
 unfold bG
 rw[List.length_eq_zero_iff,List.filter_eq_nil_iff]
 intro o ho hc
 obtain⟨j,hj⟩:=List.mem_iff_getElem?.1 ho
 rw[List.getElem?_drop]at hj
 have hlt:=(List.getElem?_eq_some_iff.1 hj).1
 refine h (1+j) (by omega) hlt ?_
 rw[List.getD_eq_getElem?_getD,hj]
 simpa using hc
theorem Rel.noCell (h:Rel p l) (hb:(l.getD (aR l) fN).kind≠99):bG p 99=0:=by
 refine EV fun i h0 hi hk=>?_
 obtain⟨a,b,c⟩:=h.block
 have hkl:(l.getD i fN).kind=99:=by rw[h.o5 hi (by omega)];exact hk
 have hle:i≤aR l:=by
  rcases Nat.lt_or_ge (aR l) i with e | e
  ·have:=c i e hi
   rw[hkl]at this;cases this
  ·exact e
 have hlt:i<aR l:=by
  rcases Nat.lt_or_ge i (aR l)with e | e
  ·exact e
  ·exact absurd (by rw[show aR l=i from by omega];exact hkl) hb
 obtain⟨h1,_,h3⟩:=h.CI i (by omega)
 rw[hkl]at h3
 have hT:=aE8 h3 (by rw[h.o5 (by omega) (by omega)];exact h1)
 have:=h.upT (show i+1≤aR l from hlt) a hT
 rw[b]at this;cases this
theorem zG {l:List Lv} {B:Nat} (hB:tJ (l.getD B fN).kind=false):∀ n,B<n→(∀ j,B<j→j<n→tJ (l.getD j fN).kind=true)→dF l n=B
 | 0,h,_=>absurd h (by omega)
 | n+1,h,hT=>by
  unfold dF
  by_cases e:n=B
  ·subst e;rw[if_neg (by rw[hB];simp)]
  ·rw[if_pos (hT n (by omega) (by omega))]
   exact zG hB n (by omega) (fun j a b=>hT j a (by omega))
theorem Rel.aBH (h:Rel p l) (ht:aJ p=true):(decide ((l.getD (aR l) fN).kind≠99) && !(l.getD (aR l) fN).iO) =
  (decide (bG p 110=0) && decide (bG p 99=0∧0<aN p bN∧(p.getD (aN p bN) root).notes=0)):=by
 obtain⟨a,b,c⟩:=h.block
 obtain⟨h0,hk⟩:=h.X2 ht
 have hkl:=h.o5 a (by omega)
 have hnt:=(h.one _ a).iO
 rcases hk with hk | hk
 ·have hla:=h.CT hk h0
  have hne:(l.getD (aR l) fN).kind≠99:=by rw[hkl];rw[uR]at hk;omega
  rw[decide_eq_true hne,Bool.true_and,h.noCell hne,hla,hnt]
  by_cases hn:(p.getD (aR l) root).notes=0
  ·rw[hn]
   have hm:bG p 110=0:=by
    refine EV fun i x y z=>?_
    have hzl:(l.getD i fN).kind=110:=by rw[h.o5 y (by omega)];exact z
    have h3:=h.notes i y hzl
    have hlt:aR l<i:=by
     rcases Nat.lt_or_ge (aR l) i with e | e
     ·exact e
     ·have:=h.upT e a (by rw[hzl];rfl)
      rw[b]at this;cases this
    rw[zG b i hlt (fun j x' y'=>c j x' (by omega)),hnt,hn]at h3
    cases h3
   rw[hm]
   simp[h0]
  ·rw[decide_eq_true (show 0<(p.getD (aR l) root).notes by omega),decide_eq_false (p:=0=0∧0<aR l∧(p.getD (aR l) root).notes=0) (fun e=>hn e.2.2),Bool.and_false];rfl
 ·have h99:(l.getD (aR l) fN).kind=99:=by rw[hkl];exact hk
  have hm:=X3 h0 a hk
  rw[h99]
  simp
  intro _ hc
  omega
theorem Rel.opens (h:Rel p l) {k:Nat} (hk:k≠46):fR l k=eH p k:=by
 unfold eH
 dsimp only
 by_cases h1:p.length=1
 ·rw[if_pos h1]
  obtain⟨a,b⟩:=h.CR h1
  cases hb:cM k kX
  ·exact iF (.inl (by rw[a,wC,hb];rfl))
  ·have hr:=h.top.rank
   have hle:=CQ (aZ p) (by rw[b];decide)
   have hb':=yC.1 hb
   rw[jB (by rw[a,wC,hb];simp) (by rw[a,wC,hb,hr];exact hle),if_neg (by omega),if_neg (by omega),if_neg (by omega)]
 ·rw[if_neg h1]
  obtain⟨a,b,c⟩:=h.wD h1
  have hr:=h.top.rank
  have hpt:=h.top.parts
  have hle2:=EU (aZ p)
  have htx:=h.texts
  -- where a text may stand, e, s or n
  have esn:aJ p=true→cM k xT=true→rk (aT l).kind k=1→(aT l).rank≤1 →
    fR l k=if aJ p=false∨cM k xT=false∨0<bG p k then false else if k≠110 then true else decide (bG p 99=0∧0<aN p bN∧(p.getD (aN p bN) root).notes=0):=by
   intro t1 t2 t3 t4
   have hT:tJ k=true:=qF.2 (tF.1 t2)
   have he:=tF.1 t2
   rw[jB (by omega) (by omega),if_neg (by omega)]
   by_cases h110:k=110
   ·subst h110
    rw[if_neg (by omega),if_pos rfl,h.aBH t1]
    by_cases hm:0<bG p 110
    ·rw[if_pos (.inr (.inr hm)),decide_eq_false (by omega)];rfl
    ·rw[if_neg (by rw[t1,t2];simpa using hm),if_neg (by simp),decide_eq_true (by omega),Bool.true_and]
   ·rw[if_pos (by omega),h.many hT]
    by_cases hm:0<bG p k
    ·rw[if_pos (.inr (.inr hm)),decide_eq_false (by omega)]
    ·rw[if_neg (by rw[t1,t2];simpa using hm),if_pos h110,decide_eq_true (by omega)]
  by_cases hi:(aZ p).kind=105
  ·have h2:=GL hi
   by_cases h108:k=108
   ·rw[if_pos (.inl ⟨hi,h108⟩)]
    have hrk:rk (aT l).kind k=2:=by rw[a,hi,X0,h108,if_neg (by decide +kernel),if_pos rfl]
    rw[jB (by omega) (by omega),if_neg (by omega),if_neg (by omega),if_neg (by omega)]
   ·rw[if_neg (by omega),if_neg (by omega)]
    by_cases he:cM k xT=true
    ·have hrk:rk (aT l).kind k=1:=by rw[a,hi,X0,if_pos (jS.2 (.inr (tF.1 he)))]
     by_cases ht:aJ p=true
     ·refine esn ht he hrk ?_
      rw[lR,hi]at ht
      have:cM 108 (aZ p).kids=false:=by
       have:cM 105 fB=false:=by decide +kernel
       rw[this]at ht
       simpa using ht
      have h3:qT (aZ p)≠2:=fun e=>by rw[h2.1 e]at this;cases this
      omega
     ·rw[Bool.not_eq_true]at ht
      rw[if_pos (.inl ht)]
      refine iF (.inr ?_)
      rw[lR,hi]at ht
      have h3:qT (aZ p)=2:=h2.2 (by
       have:cM 105 fB=false:=by decide +kernel
       rw[this]at ht
       simpa using ht)
      omega
    ·rw[Bool.not_eq_true]at he
     rw[if_pos (.inr (.inl he))]
     refine iF (.inl ?_)
     rw[a,hi,X0,if_neg (fun e=>by
      have:=jS.1 e
      have h3:=tF.2 (this.resolve_left hk)
      rw[he]at h3;cases h3),if_neg h108]
  ·have hle:=CQ (aZ p) hi
   by_cases q3:(aZ p).kind=108
   ·by_cases hk1:k=105
    ·rw[if_pos (.inr (.inl ⟨q3,hk1⟩))]
     have hrk:rk (aT l).kind k=1:=by rw[a,q3,aBD,if_pos hk1]
     rw[jB (by omega) (by omega),if_neg (by omega),if_neg (by omega),if_neg (by omega)]
    ·rw[if_neg (by omega),if_neg (by omega),if_pos (.inl (wE q3 CS.2.2.1 (by decide)))]
     exact iF (.inl (by rw[a,q3,aBD,if_neg hk1]))
   by_cases q4:(aZ p).kind=116
   ·by_cases hk1:k=114
    ·rw[if_pos (.inr (.inr ⟨q4,hk1⟩))]
     have hrk:rk (aT l).kind k=1:=by rw[a,q4,aBE,if_pos hk1]
     rw[jB (by omega) (by omega),if_neg (by omega),if_neg (by omega),if_neg (by omega)]
    ·rw[if_neg (by omega),if_neg (by omega),if_pos (.inl (wE q4 CS.2.2.2 (by decide)))]
     exact iF (.inl (by rw[a,q4,aBE,if_neg hk1]))
   by_cases q5:(aZ p).kind=114
   ·rw[if_neg (by omega),if_pos q5]
    by_cases hk1:k=99
    ·have hrk:rk (aT l).kind k=1:=by rw[a,q5,aBF,if_pos hk1]
     rw[jB (by omega) (by omega),if_pos hk1,hpt]
     simp[hk1]
    ·rw[iF (.inl (by rw[a,q5,aBF,if_neg hk1]))]
     simp[hk1]
   rw[if_neg (by omega),if_neg q5]
   by_cases hf:cM (aZ p).kind fB=true
   ·have ht:aJ p=true:=by rw[lR,hf];rfl
    by_cases he:cM k xT=true
    ·exact esn ht he (by rw[a,wB k hf,if_pos (jS.2 (.inr (tF.1 he)))]) (by omega)
    ·rw[Bool.not_eq_true]at he
     rw[if_pos (.inr (.inl he))]
     refine iF (.inl ?_)
     rw[a,wB k hf,if_neg (fun e=>by
      have:=jS.1 e
      have h3:=tF.2 (this.resolve_left hk)
      rw[he]at h3;cases h3)]
   ·rw[Bool.not_eq_true]at hf
    have ht:aJ p=false:=by rw[lR,hf,show ((aZ p).kind==105)=false from beq_eq_false_iff_ne.2 hi];rfl
    rw[if_pos (.inl ht)]
    exact iF (.inl (by rw[a];exact X1 k b hf hi q3 q4 q5))
end
end Go.Proofs.YtgpihfacmpbpaaaGreatDoor.Tr
namespace Go.Proofs.YtgpihfacmpbpaaaGreatDoor.Tr
open Go.RowKit
theorem GM (p:List Op) (j:Nat) (f:Op→Op) (hf:∀ a,(f a).kind=a.kind) (i:Nat):((p.modify j f).getD i root).kind=(p.getD i root).kind:=by
 rw[getD_modify];split<;>simp[hf]
theorem qG (l:List Lv) (j:Nat) (f:Lv→Lv) (hf:∀ b,(f b).kind=b.kind) (i:Nat):((l.modify j f).getD i fN).kind=(l.getD i fN).kind:=by
 rw[getD_modify];split<;>simp[hf]
theorem a8 (p:List Op) (j:Nat) (f:Op→Op) (hf:∀ a,(f a).kind=a.kind):(p.modify j f).map (·.kind)=p.map (·.kind):=by
 apply List.ext_getElem?
 intro i
 rw[List.getElem?_map,List.getElem?_map,List.getElem?_modify]
 by_cases e:j=i
 ·subst e;cases p[j]?<;>simp[hf]
 ·cases p[i]?<;>simp[e]
theorem zH (p:List Op) (n:Nat):((p.take n).drop 1).countP (fun o=>o.kind==108)=(((p.map (·.kind)).take n).drop 1).countP (·==108):=by
 rw[← List.map_take,← List.map_drop,List.countP_map];rfl
theorem qH {l l':List Lv} (h:∀ i,(l'.getD i fN).kind=(l.getD i fN).kind):∀ n,dF l' n=dF l n
 | 0=>rfl
 | n+1=>by unfold dF;rw[h n,qH h n]
section
variable {p:List Op} {l:List Lv}
theorem Rel.modify (h:Rel p l) (i:Nat) (f:Op→Op) (g:Lv→Lv) (hf:∀ a,(f a).kind=a.kind) (hg:∀ b,(g b).kind=b.kind∧(g b).lists=b.lists∧(b.iO=true→(g b).iO=true))
  (hr:i<p.length→KJ i (p.getD i root) (l.getD i fN)→KJ i (f (p.getD i root)) (g (l.getD i fN))):Rel (p.modify i f) (l.modify i g):=by
 have hkO:=GM p i f hf
 have hkL:=qG l i g (fun b=>(hg b).1)
 refine⟨by simp[h.len],by simpa using h.pos,fun j hj=>?_,fun j hj=>?_,by rw[hkO];exact h.KK,fun j hj=>?_,fun j hj hk=>?_⟩
 ·rw[List.length_modify]at hj
  rw[getD_modify,getD_modify]
  by_cases e:i=j
  ·subst e
   rw[if_pos ⟨rfl,hj⟩,if_pos ⟨rfl,by rw[← h.len];exact hj⟩]
   exact hr hj (h.one i hj)
  ·rw[if_neg (fun x=>e x.1),if_neg (fun x=>e x.1)]
   exact h.one j hj
 ·rw[List.length_modify]at hj
  rw[zH,a8 p i f hf,← zH,← h.lists j hj,getD_modify]
  split
  ·exact(hg _).2.1
  ·rfl
 ·rw[List.length_modify]at hj
  rw[hkO,hkL,hkL]
  exact h.CI j hj
 ·rw[List.length_modify]at hj
  rw[hkL]at hk
  have:=h.notes j hj hk
  rw[qH hkL,getD_modify]
  split
  ·exact(hg _).2.2 this
  ·exact this
theorem wF (k:Nat):(dS k).size=1:=by unfold dS;rw[Lx.c9];rfl
theorem X4 (c k:Nat) (hk:k<256) (s:ByteArray):cM c (s++dS k)=(cM c s || c==k):=by
 unfold cM dS
 rw[Lx.eJ,Lx.eU [k] (fun x hx=>by rw[List.mem_singleton]at hx;subst hx;exact hk)]
 rw[List.contains_eq_mem,List.contains_eq_mem]
 by_cases h1:c ∈ Lx.aH s
 ·simp[h1]
 ·by_cases h2:c=k
  ·simp[h2]
  ·simp[h1,h2]
theorem aEP {a:Nat} (b:Nat) (h:a≠105):rk a b≤1:=by
 unfold rk
 repeat' split
 all_goals first | omega | (exact absurd ‹_› h)
theorem TB {i:Nat} {a:Op} {b:Lv} (h:KJ i a b) (hi:i=0→a.kind=0) {k:Nat} (hk:k<256) (h0:rk b.kind k≠0) (h1:b.rank≤rk b.kind k):rk b.kind k=qT (aG k a):=by
 have hs:(aG k a).kids.size≠0:=by
  show (a.kids++dS k).size≠0
  rw[ByteArray.size_append,wF];omega
 have hkd:=h.kind
 unfold qT
 rw[if_neg hs]
 show _=if a.kind=105∧cM 108 (a.kids++dS k)=true then 2 else 1
 rw[X4 108 k hk]
 by_cases hi5:a.kind=105
 ·have hi0:i≠0:=fun e=>by have:=hi e;omega
  rw[if_neg hi0,hi5]at hkd
  rw[hkd,X0]at h0 h1 ⊢
  by_cases h8:k=108
  ·subst h8
   have hf8:cM 108 jQ=false:=by decide +kernel
   rw[hf8,if_neg (by simp),if_pos rfl,if_pos ⟨hi5,by simp⟩]
  ·by_cases hf:cM k jQ=true
   ·rw[if_pos hf]at h1 ⊢
    have h2:¬ cM 108 a.kids=true:=fun e=>by
     have:=(GL hi5).2 e
     have:=h.rank
     omega
    rw[Bool.not_eq_true]at h2
    rw[h2,show ((108:Nat)==k)=false from beq_eq_false_iff_ne.2 (fun e=>h8 e.symm)]
    simp
   ·rw[if_neg hf,if_neg h8]at h0
    exact absurd rfl h0
 ·rw[if_neg (fun e=>hi5 e.1)]
  have hb:b.kind≠105:=by
   rw[hkd];split
   ·omega
   ·exact hi5
  have:=aEP k hb
  omega
theorem Rel.count (h:Rel p l) {k:Nat} (hk:k<256) (hm:fR l k=true):Rel (p.modify (p.length - 1) (aG k)) (l.modify (l.length - 1) (fY k)):=by
 rw[← h.len]
 have h0:rk (aT l).kind k≠0∧(aT l).rank≤rk (aT l).kind k:=by
  by_cases e:rk (aT l).kind k=0∨rk (aT l).kind k<(aT l).rank
  ·rw[iF e]at hm;cases hm
  ·exact⟨fun x=>e (.inl x),by omega⟩
 have ht:aT l=l.getD (p.length - 1) fN:=by unfold aT;rw[h.len]
 rw[ht]at h0
 refine h.modify _ _ _ (fun _=>rfl) (fun b=>⟨rfl,rfl,fun e=>e⟩) fun hi hr=>?_
 refine⟨hr.kind,hr.start,?_,?_,hr.lW,hr.iO,hr.bytes⟩
 ·show _+1=(_++dS k).size
  rw[ByteArray.size_append,wF,hr.parts]
 ·exact TB hr (fun e=>by have:=h.KK;rwa [e]) hk h0.1 h0.2
theorem Rel.X5 (h:Rel p l) (B:Nat):Rel (p.modify B cU) (l.modify B iP) :=
 h.modify _ _ _ (fun _=>rfl) (fun b=>⟨rfl,rfl,fun _=>rfl⟩) fun _ hr=>⟨hr.kind,hr.start,hr.parts,hr.rank,hr.lW,by show true=decide (0<_+1);simp,hr.bytes⟩
theorem Rel.X6 (h:Rel p l) (i:Nat) (s:ByteArray):Rel (p.modify i (gI s)) (l.modify i (lB s.size)) :=
 h.modify _ _ _ (fun _=>rfl) (fun b=>⟨rfl,rfl,fun e=>e⟩) fun _ hr=>⟨hr.kind,hr.start,hr.parts,hr.rank,hr.lW,hr.iO,by show _+s.size=(_++s).size;rw[ByteArray.size_append,hr.bytes]⟩
theorem Rel.first (h:Rel p l) (i n:Nat):Rel (p.modify i (bW n)) (l.modify i (oZ n)) :=
 h.modify _ _ _ (fun _=>rfl) (fun _=>⟨rfl,rfl,fun e=>e⟩) fun _ hr=>⟨hr.kind,hr.start,hr.parts,hr.rank,rfl,hr.iO,hr.bytes⟩
theorem zI {l:List Lv} (x:Lv):∀ n,n≤l.length→dF (l++[x]) n=dF l n
 | 0,_=>rfl
 | n+1,h=>by
  have e:(l++[x]).getD n fN=l.getD n fN:=by rw[eL,if_pos (by omega)]
  unfold dF;rw[e,zI x n (by omega)]
theorem Rel.push (h:Rel p l) (k s:Nat) (hk:k≠46∧k≠95) (h0:rk (aT l).kind k≠0) (hn:k=110→(l.getD (aR l) fN).iO=true) :
  Rel (p++[⟨k,aA,s,0,0,aA⟩]) (l++[⟨k,s,(aT l).lists+(if k=108 then 1 else 0),0,0,0,false,0⟩]):=by
 have hpos:=h.pos
 have hlen:=h.len
 have ht:aT l=l.getD (p.length - 1) fN:=by unfold aT;rw[h.len]
 refine⟨by simp[h.len],by simp,fun i hi=>?_,fun i hi=>?_,by rw[eL,if_pos hpos];exact h.KK,fun i hi=>?_,fun i hi hk1=>?_⟩
 ·rw[List.length_append]at hi
  rw[eL,eL]
  by_cases e:i<p.length
  ·rw[if_pos e,if_pos (by omega)];exact h.one i e
  ·have e1:i=p.length:=by simp at hi;omega
   rw[if_neg e,if_pos e1,if_neg (by omega),if_pos (by omega)]
   exact⟨by show k=if i=0 then 95 else k;rw[if_neg (by omega)],rfl,rfl,rfl,rfl,rfl,rfl⟩
 ·rw[List.length_append]at hi
  rw[eL]
  by_cases e:i<p.length
  ·rw[if_pos (by omega),List.take_append_of_le_length (by omega)];exact h.lists i e
  ·have e1:i=p.length:=by simp at hi;omega
   rw[if_neg (by omega),if_pos (by omega),List.take_of_length_le (by simp;omega),List.drop_append_of_le_length (by omega),List.countP_append]
   have:=h.lists (p.length - 1) (by omega)
   rw[show p.length - 1+1=p.length from by omega,List.take_length]at this
   rw[ht,← this]
   by_cases e8:k=108<;>simp[e8]
 ·rw[List.length_append]at hi
  simp only[eL]
  by_cases e:i+1<p.length
  ·rw[if_pos e,if_pos (by omega),if_pos (by omega)];exact h.CI i e
  ·have e1:i+1=p.length:=by simp at hi;omega
   rw[if_neg e,if_pos e1,if_pos (by omega),if_neg (by omega),if_pos (by omega)]
   rw[ht,show p.length - 1=i from by omega]at h0
   exact⟨hk.1,hk.2,h0⟩
 ·rw[List.length_append]at hi
  rw[zI _ _ (by simp at hi;omega)]
  rw[eL]at hk1
  have key:dF l i<l.length:=by
   rcases Nat.eq_zero_or_pos i with e | e
   ·subst e;unfold dF;omega
   ·have:=(tG (l:=l) i e (by rw[h.ET];rfl)).1
    simp at hi;omega
  rw[eL,if_pos key]
  by_cases e:i<p.length
  ·rw[if_pos (by omega)]at hk1;exact h.notes i e hk1
  ·have e1:i=p.length:=by simp at hi;omega
   rw[if_neg (by omega),if_pos (by omega)]at hk1
   have:=hn hk1
   unfold aR at this
   rw[e1,hlen];exact this
theorem Rel.take (h:Rel p l) {m:Nat} (h1:1≤m) (h2:m≤p.length):Rel (p.take m) (l.take m):=by
 have hlen:=h.len
 have hl:(p.take m).length=m:=by rw[List.length_take];omega
 refine⟨by rw[hl,List.length_take];omega,by omega,fun i hi=>?_,fun i hi=>?_,by rw[getD_take _ _ _ _ (by omega)];exact h.KK,fun i hi=>?_,fun i hi hk1=>?_⟩
 ·rw[hl]at hi
  rw[getD_take _ _ _ _ hi,getD_take _ _ _ _ hi];exact h.one i (by omega)
 ·rw[hl]at hi
  rw[getD_take _ _ _ _ hi,List.take_take,Nat.min_eq_left (by omega)];exact h.lists i (by omega)
 ·rw[hl]at hi
  rw[getD_take _ _ _ _ hi,getD_take _ _ _ _ (by omega),getD_take _ _ _ _ hi];exact h.CI i (by omega)
 ·rw[hl]at hi
  rw[getD_take _ _ _ _ hi]at hk1
  have e:∀ n,n≤m→dF (l.take m) n=dF l n:=by
   intro n
   induction n with
   | zero=>intro _;rfl
   | succ n ih=>intro hn;unfold dF;rw[getD_take _ _ _ _ (by omega),ih (by omega)]
  have key:dF l i<m:=by
   rcases Nat.eq_zero_or_pos i with e | e
   ·subst e;unfold dF;omega
   ·have:=(tG (l:=l) i e (by rw[h.ET];rfl)).1
    omega
  rw[e i (by omega),getD_take _ _ _ _ key]
  exact h.notes i (by omega) hk1
end
end Go.Proofs.YtgpihfacmpbpaaaGreatDoor.Tr
namespace Go.Proofs.YtgpihfacmpbpaaaGreatDoor.Tr
open Go.RowKit
structure sG (t:List Nd) (p:List Op) (o:St):Prop where
 rel:Rel p o.lv
 nodes:o.nodes=t.length
 lists:o.deep=false→bG p 108≤8
theorem sG.start:sG [] [root] KI:=by
 refine⟨⟨rfl,by decide,fun i hi=>?_,fun i hi=>?_,rfl,fun i hi=>?_,fun i hi hk=>?_⟩,rfl,fun _=>by decide⟩
 ·obtain rfl:i=0:=by simp at hi;exact hi
  exact⟨rfl,rfl,rfl,rfl,rfl,rfl,rfl⟩
 ·obtain rfl:i=0:=by simp at hi;exact hi
  rfl
 ·simp at hi
 ·obtain rfl:i=0:=by simp at hi;exact hi
  revert hk;decide
theorem Rel.KW {p:List Op} {l:List Lv} (h:Rel p l):(aT l).lists=bG p 108:=by
 have hpos:=h.pos
 have:=h.lists (p.length - 1) (by omega)
 unfold aT bG
 rw[← h.len,this,show p.length - 1+1=p.length from by omega,List.take_length,List.countP_eq_length_filter]
theorem qI {p q:List Op} (h:p.map (·.kind)=q.map (·.kind)) (k:Nat):bG p k=bG q k:=by
 have e:∀ r:List Op,bG r k=(((r.map (·.kind)).drop 1).filter (·==k)).length:=fun r=>by
  unfold bG
  rw[← List.map_drop,List.filter_map,List.length_map];rfl
 rw[e,e,h]
theorem CU {p q:List Op} (h:p.map (·.kind)=q.map (·.kind)) (ks:ByteArray):aN p ks=aN q ks:=by
 have hl:p.length=q.length:=by have:=congrArg List.length h;simpa using this
 have hk:∀ i,i<p.length→(p.getD i root).kind=(q.getD i root).kind:=fun i hi=>by
  have:=congrArg (fun l:List Nat=>l[i]?) h
  simp only[List.getElem?_map]at this
  rw[List.getD_eq_getElem?_getD,List.getD_eq_getElem?_getD,List.getElem?_eq_getElem hi,List.getElem?_eq_getElem (by omega)]at *
  simpa using this
 unfold aN
 rw[hl]
 have:∀ n,n≤p.length→iC p ks n=iC q ks n:=by
  intro n
  induction n with
  | zero=>intro _;rfl
  | succ n ih=>intro hn;unfold iC;rw[hk n (by omega),ih (by omega)]
 exact this _ (by omega)
theorem iZ (t:List Nd) (p:List Op) (nm:Nat) (tx:ByteArray) (pl:Nat) (h:aJ p=true):aE (t,p) ⟨1,nm,tx,pl⟩ =
  (t++[⟨46,tx,(pl:Int),1⟩],if 0<aN p bU then (p.modify (p.length - 1) (aG 46)).modify (aN p bU) (gI tx) else p.modify (p.length - 1) (aG 46)):=by
 have e:aN (p.modify (p.length - 1) (aG 46)) bU=aN p bU:=CU (a8 p _ (aG 46) (fun _=>rfl)) _
 unfold aE
 simp only[h,if_true,e]
theorem zJ (t:List Nd) (p:List Op) (nm:Nat) (tx:ByteArray) (pl:Nat) (h:aJ p=true):aD t p ⟨1,nm,tx,pl⟩ =
  if 2000≤t.length∨(0<aN p bU∧60<(p.getD (aN p bU) root).text.size+tx.size) then (pl,4) else (0,0):=by
 unfold aD
 simp only[h,if_true]
 rw[if_neg (by simp)]
theorem sG.text {t:List Nd} {p:List Op} {o:St} (h:sG t p o) (nm:Nat) (tx:ByteArray) (pl:Nat) (ht:aJ p=true) :
  sG (aE (t,p) ⟨1,nm,tx,pl⟩).1 (aE (t,p) ⟨1,nm,tx,pl⟩).2 (kP o tx.size)∧(kP o tx.size).deep=o.deep∧(kP o tx.size).fM=(o.fM || decide ((aD t p ⟨1,nm,tx,pl⟩).2=4)) ∧
   ((aD t p ⟨1,nm,tx,pl⟩).2=0∨(aD t p ⟨1,nm,tx,pl⟩).2=4):=by
 have hm:fR o.lv 46=true:=by rw[h.rel.texts];exact ht
 have hc:=h.rel.count (k:=46) (by decide) hm
 rw[iZ t p nm tx pl ht,zJ t p nm tx pl ht]
 have hn:=h.rel.note
 have hk1:(p.modify (p.length - 1) (aG 46)).map (·.kind)=p.map (·.kind):=a8 p _ _ (fun _=>rfl)
 by_cases h0:aN p bU=0
 ·rw[if_pos h0]at hn
  have hs:kP o tx.size=bB o 46:=by unfold kP;rw[hn]
  rw[hs,h0]
  rw[if_neg (Nat.lt_irrefl 0)]
  refine⟨⟨hc,by simp[bB,h.nodes],fun hd=>?_⟩,rfl,?_,?_⟩
  ·show bG (p.modify (p.length - 1) (aG 46)) 108≤8
   rw[qI hk1];exact h.lists hd
  ·show (o.fM || decide (2000<o.nodes+1))=_
   rw[h.nodes]
   by_cases e:2000≤t.length
   ·rw[if_pos (.inl e),decide_eq_true (show 2000<t.length+1 by omega)];rfl
   ·rw[if_neg (by omega),decide_eq_false (show ¬ 2000<t.length+1 by omega)];rfl
  ·split<;>simp
 ·rw[if_neg h0]at hn
  have h0':0<aN p bU:=Nat.pos_of_ne_zero h0
  have hlt:aN p bU<p.length:=oF bU h.rel.pos
  have hb:=(h.rel.one _ hlt).bytes
  have hs:kP o tx.size={ bB o 46 with lv:=(bB o 46).lv.modify (aN p bU) (lB tx.size),fM:=(bB o 46).fM || decide (60<(o.lv.getD (aN p bU) fN).bytes+tx.size) }:=by
   unfold kP;rw[hn]
  rw[hs,if_pos h0']
  refine⟨⟨hc.X6 _ tx,by simp[bB,h.nodes],fun hd=>?_⟩,rfl,?_,?_⟩
  ·show bG ((p.modify (p.length - 1) (aG 46)).modify (aN p bU) (gI tx)) 108≤8
   rw[qI ((a8 _ _ (gI tx) (fun _=>rfl)).trans hk1)];exact h.lists hd
  ·show ((o.fM || decide (2000<o.nodes+1)) || decide (60<(o.lv.getD (aN p bU) fN).bytes+tx.size))=_
   rw[h.nodes,hb]
   by_cases e:2000≤t.length
   ·rw[if_pos (.inl e),decide_eq_true (show 2000<t.length+1 by omega)];simp
   ·rw[decide_eq_false (show ¬ 2000<t.length+1 by omega),Bool.or_false]
    by_cases e2:60<(p.getD (aN p bU) root).text.size+tx.size
    ·rw[if_pos (.inr ⟨h0',e2⟩),decide_eq_true e2];rfl
    ·rw[if_neg (fun x=>x.elim e (fun y=>e2 y.2)),decide_eq_false e2];rfl
  ·split<;>simp
theorem aEQ (a:Nat):rk a 95=0:=by
 have h1:cM 95 kX=false:=by decide +kernel
 have h2:cM 95 jQ=false:=by decide +kernel
 unfold rk
 rw[h1,h2]
 simp
theorem PW {l:List Lv} {k:Nat} (h:fR l k=true):rk (aT l).kind k≠0∧k≠95:=by
 have h0:rk (aT l).kind k≠0:=fun e=>by rw[iF (.inl e)]at h;cases h
 exact⟨h0,fun e=>by subst e;exact h0 (aEQ _)⟩
theorem KX {α:Type} (l:List α) (i j:Nat) (f g:α→α) (hc:∀ a,f (g a)=g (f a)):(l.modify i f).modify j g=(l.modify j g).modify i f:=by
 apply List.ext_getElem?
 intro n
 simp only[List.getElem?_modify]
 cases l[n]? with
 | none=>rfl
 | some x =>
  simp only[Option.map_eq_map,Option.map_some]
  by_cases h1:i=n<;>by_cases h2:j=n<;>simp[h1,h2,hc]
theorem lD (l:List Lv) (j:Nat) (f:Lv→Lv) (hf:∀ b,(f b).kind=b.kind∧(f b).lists=b.lists):(aT (l.modify j f)).kind=(aT l).kind∧(aT (l.modify j f)).lists=(aT l).lists:=by
 unfold aT
 rw[List.length_modify,getD_modify]
 split
 ·exact hf _
 ·exact⟨rfl,rfl⟩
theorem jV (t:List Nd) (p:List Op) (k:Nat) (tx:ByteArray) (pl:Nat):aE (t,p) ⟨2,k,tx,pl⟩ =
  (t++[⟨k,aA,(pl:Int),1⟩],(if k=110 then (p.modify (p.length - 1) (aG k)).modify (aN p bN) cU else p.modify (p.length - 1) (aG k))++[⟨k,aA,t.length,0,0,aA⟩]):=by
 have e:aN (p.modify (p.length - 1) (aG k)) bN=aN p bN:=CU (a8 p _ (aG k) (fun _=>rfl)) _
 unfold aE
 simp only[e]
 rw[if_neg (by decide),if_pos trivial]
theorem zK (t:List Nd) (p:List Op) (k:Nat) (tx:ByteArray) (pl:Nat) (h:eH p k=true):aD t p ⟨2,k,tx,pl⟩ =
  if 32<p.length∨(k=108∧8≤bG p 108) then (pl,5) else if 2000≤t.length then (pl,4) else (0,0):=by
 unfold aD
 simp only[h]
 rw[if_neg (by decide),if_pos trivial,if_neg (by simp)]
theorem TC (p:List Op) (x:Op) (k:Nat) (h:0<p.length):bG (p++[x]) k=bG p k+if x.kind=k then 1 else 0:=by
 unfold bG
 rw[List.drop_append_of_le_length (by omega),List.filter_append,List.length_append]
 congr 1
 by_cases e:x.kind=k<;>simp[e]
theorem sG.open {t:List Nd} {p:List Op} {o:St} (h:sG t p o) {k:Nat} (tx:ByteArray) (pl:Nat) (hk:k<256) (h46:k≠46) (hop:eH p k=true) :
  sG (aE (t,p) ⟨2,k,tx,pl⟩).1 (aE (t,p) ⟨2,k,tx,pl⟩).2 (cQ o k)∧(cQ o k).deep=(o.deep || decide ((aD t p ⟨2,k,tx,pl⟩).2=5)) ∧
   ((cQ o k).deep=false→(cQ o k).fM=(o.fM || decide ((aD t p ⟨2,k,tx,pl⟩).2=4)))∧((aD t p ⟨2,k,tx,pl⟩).2=0∨(aD t p ⟨2,k,tx,pl⟩).2=4∨(aD t p ⟨2,k,tx,pl⟩).2=5):=by
 have hm:fR o.lv k=true:=by rw[h.rel.opens h46];exact hop
 obtain⟨hrk,h95⟩:=PW hm
 have hc:=h.rel.count hk hm
 have hlen:=h.rel.len
 have hpos:=h.rel.pos
 have hlt:=h.rel.KW
 rw[jV,zK t p k tx pl hop]
 have hnl:(kA o k).lists=bG p 108+if k=108 then 1 else 0:=by unfold kA;simp only[hlt]
 have hdeep:(cQ o k).deep=(o.deep || decide (32<p.length) || decide (8<bG p 108+if k=108 then 1 else 0)):=by
  show (o.deep || decide (32<o.lv.length) || decide (8<(kA o k).lists))=_
  rw[hnl,hlen]
 have hmuch:(cQ o k).fM=(o.fM || decide (2000<t.length+1)):=by
  show (bB (bD o k) k).fM=_
  unfold bB bD
  split<;>(show (o.fM || decide (2000<o.nodes+1))=_;rw[h.nodes])
 have hd:(cQ o k).deep=(o.deep || decide ((if 32<p.length∨(k=108∧8≤bG p 108) then (pl,5) else if 2000≤t.length then (pl,4) else ((0,0):Nat × Nat)).2=5)):=by
  rw[hdeep]
  cases hd:o.deep
  ·have h8:=h.lists hd
   rw[Bool.false_or,Bool.false_or]
   by_cases e1:32<p.length
   ·rw[decide_eq_true e1,Bool.true_or,if_pos (show 32<p.length∨(k=108∧8≤bG p 108) from .inl e1)];rfl
   ·rw[decide_eq_false e1,Bool.false_or]
    by_cases e2:k=108∧8≤bG p 108
    ·rw[if_pos (show 32<p.length∨(k=108∧8≤bG p 108) from .inr e2),if_pos e2.1,decide_eq_true (by omega)];rfl
    ·rw[if_neg (show ¬ (32<p.length∨(k=108∧8≤bG p 108)) from fun x=>x.elim e1 e2)]
     have e3:¬ 8<bG p 108+if k=108 then 1 else 0:=by
      by_cases e4:k=108
      ·rw[if_pos e4];omega
      ·rw[if_neg e4];omega
     rw[decide_eq_false e3]
     split<;>rfl
  ·simp
 refine⟨⟨?_,?_,fun hdf=>?_⟩,hd,fun hdf=>?_,?_⟩
 ·show Rel _ ((bB (bD o k) k).lv++[kA o k])
  by_cases h110:k=110
  ·subst h110
   rw[if_pos rfl]
   have htx:aJ p=true:=by
    unfold eH at hop
    dsimp only at hop
    by_cases e1:p.length=1
    ·rw[if_pos e1,show cM 110 kX=false from by decide +kernel]at hop;cases hop
    ·rw[if_neg e1,if_neg (by omega)]at hop
     by_cases e2:(aZ p).kind=114
     ·rw[if_pos e2]at hop;simp at hop
     ·rw[if_neg e2]at hop
      cases ht:aJ p
      ·rw[if_pos (.inl ht)]at hop;cases hop
      ·rfl
   have hla:aN p bN=aR o.lv:=by
    obtain⟨h0,hb⟩:=h.rel.X2 htx
    rcases hb with hb | hb
    ·exact h.rel.CT hb h0
    ·exfalso
     have h99:(o.lv.getD (aR o.lv) fN).kind=99:=by rw[h.rel.o5 h.rel.block.1 (by omega)];exact hb
     have hle:(aT o.lv).rank≤rk (aT o.lv).kind 110:=by
      rcases Nat.lt_or_ge (rk (aT o.lv).kind 110) (aT o.lv).rank with e | e
      ·rw[iF (.inr e)]at hm;cases hm
      ·exact e
     rw[jB hrk hle,if_neg (by decide),if_neg (by decide),if_pos rfl,h99]at hm
     simp at hm
   rw[hla]
   have hcn:=hc.X5 (aR o.lv)
   have hlv:(bB (bD o 110) 110).lv=(o.lv.modify (o.lv.length - 1) (fY 110)).modify (aR o.lv) iP:=by
    show ((o.lv.modify (aR o.lv) iP).modify ((o.lv.modify (aR o.lv) iP).length - 1) (fY 110))=_
    rw[List.length_modify]
    exact KX _ _ _ _ _ (fun _=>rfl)
   rw[hlv]
   have hbl:aR ((o.lv.modify (o.lv.length - 1) (fY 110)).modify (aR o.lv) iP)=aR o.lv:=by
    unfold aR
    rw[List.length_modify,List.length_modify]
    exact qH (fun i=>(qG _ _ iP (fun _=>rfl) i).trans (qG _ _ (fY 110) (fun _=>rfl) i)) _
   have htk:=lD (o.lv.modify (o.lv.length - 1) (fY 110)) (aR o.lv) iP (fun _=>⟨rfl,rfl⟩)
   have htk2:=lD o.lv (o.lv.length - 1) (fY 110) (fun _=>⟨rfl,rfl⟩)
   have hp:=hcn.push 110 t.length ⟨by decide,by decide⟩ (by rw[htk.1,htk2.1];exact hrk) (fun _=>by
    rw[hbl,getD_modify,if_pos ⟨rfl,by rw[List.length_modify];exact h.rel.len▸h.rel.block.1⟩];rfl)
   rw[htk.2,htk2.2]at hp
   unfold kA
   rw[h.nodes]
   exact hp
  ·rw[if_neg h110]
   have hns:bD o k=o:=by unfold bD;rw[if_neg h110]
   rw[hns]
   have htk2:=lD o.lv (o.lv.length - 1) (fY k) (fun _=>⟨rfl,rfl⟩)
   have hp:=hc.push k t.length ⟨h46,h95⟩ (by rw[htk2.1];exact hrk) (fun e=>absurd e h110)
   rw[htk2.2]at hp
   unfold kA
   rw[h.nodes]
   exact hp
 ·show (bB (bD o k) k).nodes=_
  rw[List.length_append,← h.nodes]
  unfold bB bD
  split<;>rfl
 ·rw[hdeep]at hdf
  simp only[Bool.or_eq_false_iff,decide_eq_false_iff_not]at hdf
  have hq:(if k=110 then (p.modify (p.length - 1) (aG k)).modify (aN p bN) cU else p.modify (p.length - 1) (aG k)).map (·.kind)=p.map (·.kind):=by
   split
   ·exact(a8 _ _ cU (fun _=>rfl)).trans (a8 _ _ (aG k) (fun _=>rfl))
   ·exact a8 _ _ (aG k) (fun _=>rfl)
  rw[TC _ _ _ (by split<;>simp[hpos]),qI hq]
  show bG p 108+(if k=108 then 1 else 0)≤8
  omega
 ·rw[hmuch]
  rw[hd]at hdf
  simp only[Bool.or_eq_false_iff,decide_eq_false_iff_not]at hdf
  have e1:¬ (32<p.length∨(k=108∧8≤bG p 108)):=fun e=>hdf.2 (by rw[if_pos e])
  rw[if_neg e1]
  by_cases e:2000≤t.length
  ·rw[if_pos e,decide_eq_true (show 2000<t.length+1 by omega)];rfl
  ·rw[if_neg e,decide_eq_false (show ¬ 2000<t.length+1 by omega)];rfl
 ·split
  ·simp
  ·split<;>simp
theorem sG.close {t:List Nd} {p:List Op} {o:St} (h:sG t p o) (nm:Nat) (tx:ByteArray) (pl:Nat) :
  (dG o=true↔(aD t p ⟨3,nm,tx,pl⟩).2=0)∧((aD t p ⟨3,nm,tx,pl⟩).2=0∨aD t p ⟨3,nm,tx,pl⟩=(pl,2)) ∧
   (dG o=true→sG (aE (t,p) ⟨3,nm,tx,pl⟩).1 (aE (t,p) ⟨3,nm,tx,pl⟩).2 (cY o)):=by
 have hlen:=h.rel.len
 have hpos:=h.rel.pos
 have ht:=h.rel.top
 have he:aD t p ⟨3,nm,tx,pl⟩=if p.length=1∨(cM (aZ p).kind q7=true∧(aZ p).kids.size=0) then (pl,2)
   else if (aZ p).kind=114∧0<(p.getD (p.length - 2) root).first∧(p.getD (p.length - 2) root).first≠(aZ p).kids.size then (pl,2) else (0,0):=by
  unfold aD
  simp only[]
  rw[if_neg (by decide),if_neg (by decide)]
 have key:dG o=true↔(aD t p ⟨3,nm,tx,pl⟩).2=0:=by
  rw[he]
  unfold dG
  rw[← hlen]
  by_cases h1:p.length=1
  ·rw[if_pos (by omega),if_pos (.inl h1)];simp
  ·obtain⟨a,_,_⟩:=h.rel.wD h1
   rw[if_neg (by omega),a,ht.parts]
   by_cases hl:(aZ p).kind=108∨(aZ p).kind=116
   ·rw[if_pos hl]
    have h2:cM (aZ p).kind q7=true:=GK.2 (by omega)
    by_cases h0:(aZ p).kids.size=0
    ·rw[if_pos (.inr ⟨h2,h0⟩),h0];simp
    ·rw[if_neg (by omega),if_neg (by omega),decide_eq_true (by omega)]
     simp
   ·rw[if_neg hl]
    by_cases hr:(aZ p).kind=114
    ·rw[if_pos hr]
     have h2:cM (aZ p).kind q7=true:=GK.2 (by omega)
     have hco:=(h.rel.one (p.length - 2) (by omega)).lW
     rw[hco]
     by_cases h0:(aZ p).kids.size=0
     ·rw[if_pos (.inr ⟨h2,h0⟩),h0];simp
     ·rw[if_neg (by omega),decide_eq_true (by omega),Bool.true_and,Bool.or_eq_true,beq_iff_eq,beq_iff_eq]
      by_cases hf:(p.getD (p.length - 2) root).first=0∨(p.getD (p.length - 2) root).first=(aZ p).kids.size
      ·rw[if_neg (by omega)];exact⟨fun _=>rfl,fun _=>hf⟩
      ·rw[if_pos (by omega)];exact⟨fun x=>absurd x hf,fun x=>by cases x⟩
    ·rw[if_neg hr,if_neg (fun e=>e.elim h1 (fun x=>by have:=GK.1 x.1;omega)),if_neg (fun e=>hr e.1)]
     simp
 refine⟨key,?_,fun hb=>?_⟩
 ·rw[he];split
  ·exact .inr rfl
  ·split
   ·exact .inr rfl
   ·exact .inl rfl
 ·have h1:p.length≠1:=fun e=>by
   unfold dG at hb
   rw[← hlen,e]at hb;simp at hb
  obtain⟨a,_,_⟩:=h.rel.wD h1
  have hco:=(h.rel.one (p.length - 2) (by omega)).lW
  have hs:aE (t,p) ⟨3,nm,tx,pl⟩=(t.modify (aZ p).spot (aF ((t.length:Int) - ((aZ p).spot:Int))),(if (aZ p).kind=114∧(p.getD (p.length - 1 - 1) root).first=0 then p.modify (p.length - 1 - 1) (bW (aZ p).kids.size) else p).take (p.length - 1)):=by
   unfold aE
   simp only[]
   rw[if_neg (by decide),if_neg (by decide)]
  rw[hs]
  have htm:∀ {α:Type} (l:List α) (i m:Nat) (f:α→α),(l.take m).modify i f=(l.modify i f).take m:=fun l i m f=>by
   apply List.ext_getElem?
   intro n
   rw[List.getElem?_modify,List.getElem?_take,List.getElem?_take,List.getElem?_modify]
   by_cases q1:n<m<;>by_cases q2:i=n<;>simp[q1,q2]
  refine⟨?_,by simp only[List.length_modify];exact h.nodes,fun hd=>?_⟩
  ·show Rel _ (cY o).lv
   unfold cY
   simp only[]
   rw[a,← hlen,hco,show p.length - 1 - 1=p.length - 2 from by omega,ht.parts]
   by_cases hc:(aZ p).kind=114∧(p.getD (p.length - 2) root).first=0
   ·rw[if_pos hc,if_pos hc,htm]
    exact(h.rel.first _ _).take (by omega) (by simp)
   ·rw[if_neg hc,if_neg hc]
    exact h.rel.take (by omega) (by omega)
  ·have h8:=h.lists hd
   refine Nat.le_trans ?_ h8
   have hq:(if (aZ p).kind=114∧(p.getD (p.length - 1 - 1) root).first=0 then p.modify (p.length - 1 - 1) (bW (aZ p).kids.size) else p).map (·.kind)=p.map (·.kind):=by
    split
    ·exact a8 _ _ (bW _) (fun _=>rfl)
    ·rfl
   rw[← qI hq 108]
   generalize (if (aZ p).kind=114∧(p.getD (p.length - 1 - 1) root).first=0 then p.modify (p.length - 1 - 1) (bW (aZ p).kids.size) else p)=q
   unfold bG
   rw[List.drop_take]
   exact((List.take_sublist _ _).filter _).length_le
end Go.Proofs.YtgpihfacmpbpaaaGreatDoor.Tr
namespace Go.Proofs.YtgpihfacmpbpaaaGreatDoor.Tr
open Go.RowKit
def sp (p:List Op):List Nat:=(p.drop 1).map (·.spot)
structure tL (t tl:List Nd) (p:List Op):Prop where
 len:tl.length=t.length
 same:∀ i x,t[i]?=some x→tl[i]?=some (if i ∈ sp p then aF 0 x else x)
 aDR:(sp p).Pairwise (·<·)
 lt:∀ s ∈ sp p,s<t.length
theorem tL.start:tL [] [] [root]:=⟨rfl,fun i x h=>by simp at h,List.Pairwise.nil,fun s hs=>by cases hs⟩
theorem lE (p:List Op) (j:Nat) (f:Op→Op) (hf:∀ a,(f a).spot=a.spot):sp (p.modify j f)=sp p:=by
 have h:(p.modify j f).map (·.spot)=p.map (·.spot):=by
  apply List.ext_getElem?
  intro i
  rw[List.getElem?_map,List.getElem?_map,List.getElem?_modify]
  by_cases e:j=i
  ·subst e;cases p[j]?<;>simp[hf]
  ·cases p[i]?<;>simp[e]
 unfold sp
 rw[List.map_drop,List.map_drop,h]
theorem PY (p:List Op) (x:Op) (h:0<p.length):sp (p++[x])=sp p++[x.spot]:=by
 unfold sp
 rw[List.drop_append_of_le_length (by omega),List.map_append];rfl
theorem aDS {p:List Op} (h:p.length≠1) (h0:0<p.length):sp p=sp (p.take (p.length - 1))++[(aZ p).spot]:=by
 have hg:p.getD (p.length - 1) root=p[p.length - 1]'(by omega):=by
  rw[List.getD_eq_getElem?_getD,List.getElem?_eq_getElem (by omega)];rfl
 have:p=p.take (p.length - 1)++[aZ p]:=by
  rw[gW p h0,hg]
  have:=List.take_append_drop (p.length - 1) p
  rw[List.drop_eq_getElem_cons (by omega),List.drop_of_length_le (by omega)]at this
  exact this.symm
 conv=>lhs;rw[this]
 rw[PY _ _ (by rw[List.length_take];omega)]
theorem tL.text {t tl:List Nd} {p q:List Op} (h:tL t tl p) (x:Nd) (hq:sp q=sp p):tL (t++[x]) (tl++[x]) q:=by
 refine⟨by simp[h.len],fun i y hy=>?_,by rw[hq];exact h.aDR,fun s hs=>by rw[hq]at hs;have:=h.lt s hs;simp;omega⟩
 rw[hq]
 rcases Nat.lt_or_ge i t.length with e | e
 ·rw[List.getElem?_append_left e]at hy
  rw[List.getElem?_append_left (by rw[h.len];exact e)]
  exact h.same i y hy
 ·have hi:=(List.getElem?_eq_some_iff.1 hy).1
  have e1:i=t.length:=by simp at hi;omega
  subst e1
  rw[List.getElem?_append_right (Nat.le_refl _)]at hy
  simp at hy
  subst hy
  rw[if_neg (fun hm=>by have:=h.lt _ hm;omega),← h.len,List.getElem?_append_right (Nat.le_refl _)]
  simp
theorem tL.open {t tl:List Nd} {p q:List Op} (h:tL t tl p) (x:Nd) (hq:sp q=sp p++[t.length]):tL (t++[x]) (tl++[aF 0 x]) q:=by
 refine⟨by simp[h.len],fun i y hy=>?_,?_,fun s hs=>?_⟩
 ·rw[hq]
  rcases Nat.lt_or_ge i t.length with e | e
  ·rw[List.getElem?_append_left e]at hy
   rw[List.getElem?_append_left (by rw[h.len];exact e),h.same i y hy]
   have:i ∈ sp p++[t.length]↔i ∈ sp p:=by rw[List.mem_append,List.mem_singleton];exact⟨fun z=>z.elim id (fun e'=>by omega),.inl⟩
   by_cases hm:i ∈ sp p
   ·rw[if_pos hm,if_pos (this.2 hm)]
   ·rw[if_neg hm,if_neg (fun z=>hm (this.1 z))]
  ·have hi:=(List.getElem?_eq_some_iff.1 hy).1
   have e1:i=t.length:=by simp at hi;omega
   subst e1
   rw[List.getElem?_append_right (Nat.le_refl _)]at hy
   simp at hy
   subst hy
   rw[if_pos (by simp),← h.len,List.getElem?_append_right (Nat.le_refl _)]
   simp
 ·rw[hq,List.pairwise_append]
  exact⟨h.aDR,List.pairwise_singleton _ _,fun a ha b hb=>by rw[List.mem_singleton]at hb;subst hb;exact h.lt a ha⟩
 ·rw[hq,List.mem_append,List.mem_singleton]at hs
  rw[List.length_append]
  rcases hs with hs | hs
  ·have:=h.lt s hs;simp;omega
  ·simp;omega
theorem tL.close {t tl:List Nd} {p q:List Op} (h:tL t tl p) {s:Nat} (hq:sp p=sp q++[s]) (v:Int):tL (t.modify s (aF v)) (tl.modify s (aF v)) q:=by
 have hin:=h.aDR
 rw[hq,List.pairwise_append]at hin
 have hns:s ∉ sp q:=fun hm=>by have:=hin.2.2 s hm s (by simp);omega
 refine⟨by simp[h.len],fun i y hy=>?_,hin.1,fun z hz=>by rw[List.length_modify];exact h.lt z (by rw[hq];simp[hz])⟩
 rw[List.getElem?_modify]at hy ⊢
 by_cases e:s=i
 ·subst e
  cases ht:t[s]? with
  | none=>rw[ht]at hy;cases hy
  | some x =>
   rw[ht]at hy
   rw[h.same s x ht,if_neg hns,if_pos (by rw[hq];simp)]
   simp at hy ⊢
   rw[← hy];rfl
 ·cases ht:t[i]? with
  | none=>rw[ht]at hy;cases hy
  | some x =>
   rw[ht]at hy
   rw[h.same i x ht]
   simp[e]at hy ⊢
   subst hy
   have:i ∈ sp p↔i ∈ sp q:=by rw[hq,List.mem_append,List.mem_singleton];exact⟨fun z=>z.elim id (fun e'=>absurd e'.symm e),.inl⟩
   by_cases hm:i ∈ sp q
   ·rw[if_pos hm,if_pos (this.2 hm)]
   ·rw[if_neg hm,if_neg (fun z=>hm (this.1 z))]
theorem tL.all {t tl:List Nd} {p:List Op} (h:tL t tl p) (h1:p.length≤1):tl=t:=by
 have:sp p=[]:=by unfold sp;rw[List.drop_of_length_le h1];rfl
 apply List.ext_getElem?
 intro i
 rcases Nat.lt_or_ge i t.length with e | e
 ·rw[h.same i t[i] (List.getElem?_eq_getElem e),this,List.getElem?_eq_getElem e];simp
 ·rw[List.getElem?_eq_none e,List.getElem?_eq_none (by rw[h.len];exact e)]
structure C9 (k M:Nat) (t:List Nd) (p:List Op):Prop where
 nodes:t.length≤k
 depth:p.length≤k+1
 one:∀ i,i<p.length→(p.getD i root).kids.size≤k∧(p.getD i root).text.size≤M∧(p.getD i root).first≤k
theorem C9.start:C9 0 0 [] [root]:=⟨by simp,by simp,fun i hi=>by
 obtain rfl:i=0:=by simp at hi;exact hi
 exact⟨Nat.le_refl _,Nat.le_refl _,Nat.le_refl _⟩⟩
theorem C9.modify {k M k' M':Nat} {t:List Nd} {p:List Op} (h:C9 k M t p) (hk:k≤k') (hM:M≤M') (j:Nat) (f:Op→Op) (hf:∀ a,a.kids.size≤k∧a.text.size≤M∧a.first≤k→(f a).kids.size≤k'∧(f a).text.size≤M'∧(f a).first≤k'):C9 k' M' t (p.modify j f):=by
 refine⟨Nat.le_trans h.nodes hk,by rw[List.length_modify];have:=h.depth;omega,fun i hi=>?_⟩
 rw[List.length_modify]at hi
 have:=h.one i hi
 rw[getD_modify]
 split
 ·exact hf _ this
 ·omega
theorem C9.step {k M:Nat} {t:List Nd} {p:List Op} (h:C9 k M t p) (h0:0<p.length) (x:Lx.Lx):C9 (k+1) (M+x.text.size) (aE (t,p) x).1 (aE (t,p) x).2:=by
 have hd:=h.depth
 have hn:=h.nodes
 have mono:∀ {q:List Op},C9 k M t q→∀ n,n≤k+1→∀ u:List Nd,u.length=n→C9 (k+1) (M+x.text.size) u q:=fun hq n hn' u hu =>
  ⟨by omega,by have:=hq.depth;omega,fun i hi=>by have:=hq.one i hi;omega⟩
 unfold aE
 dsimp only
 by_cases h1:x.kind=1
 ·rw[if_pos h1]
  by_cases ht:aJ p=true
  ·rw[if_pos ht]
   have hA:C9 (k+1) M t (p.modify (p.length - 1) (aG 46)):=h.modify (by omega) (Nat.le_refl _) _ _ (fun a ha=>by
    show (a.kids++dS 46).size≤_∧_
    rw[ByteArray.size_append,wF];exact⟨by omega,ha.2.1,by show a.first≤_;omega⟩)
   have hnn:(t++[(⟨46,x.text,(x.place:Int),1⟩:Nd)]).length≤k+1:=by simp;omega
   split
   ·have hB:C9 (k+1) (M+x.text.size) t ((p.modify (p.length - 1) (aG 46)).modify (aN (p.modify (p.length - 1) (aG 46)) bU) (gI x.text)):=hA.modify (Nat.le_refl _) (by omega) _ _ (fun a ha=>by
     refine⟨ha.1,?_,ha.2.2⟩
     show (a.text++x.text).size≤_
     rw[ByteArray.size_append];omega)
    exact⟨hnn,hB.depth,hB.one⟩
   ·exact⟨hnn,hA.depth,fun i hi=>by
     obtain⟨u1,u2,u3⟩:=hA.one i hi
     exact⟨u1,Nat.le_trans u2 (Nat.le_add_right _ _),u3⟩⟩
  ·rw[if_neg ht]
   exact mono h t.length (by omega) t rfl
 ·rw[if_neg h1]
  by_cases h2:x.kind=2
  ·rw[if_pos h2]
   have hA:C9 (k+1) M t (p.modify (p.length - 1) (aG x.name)):=h.modify (by omega) (Nat.le_refl _) _ _ (fun a ha=>by
    show (a.kids++dS x.name).size≤_∧_
    rw[ByteArray.size_append,wF];exact⟨by omega,ha.2.1,by show a.first≤_;omega⟩)
   have hB:C9 (k+1) M t (if x.name=110 then (p.modify (p.length - 1) (aG x.name)).modify (aN (p.modify (p.length - 1) (aG x.name)) bN) cU else p.modify (p.length - 1) (aG x.name)):=by
    split
    ·exact hA.modify (Nat.le_refl _) (Nat.le_refl _) _ _ (fun a ha=>ha)
    ·exact hA
   have hl:(if x.name=110 then (p.modify (p.length - 1) (aG x.name)).modify (aN (p.modify (p.length - 1) (aG x.name)) bN) cU else p.modify (p.length - 1) (aG x.name)).length=p.length:=by split<;>simp
   generalize (if x.name=110 then (p.modify (p.length - 1) (aG x.name)).modify (aN (p.modify (p.length - 1) (aG x.name)) bN) cU else p.modify (p.length - 1) (aG x.name))=q at hB hl ⊢
   refine⟨by simp;omega,by rw[List.length_append,hl];simp;omega,fun i hi=>?_⟩
   simp only[eL]
   by_cases e1:i<q.length
   ·rw[if_pos e1]
    obtain⟨u1,u2,u3⟩:=hB.one i e1
    exact⟨u1,Nat.le_trans u2 (Nat.le_add_right _ _),u3⟩
   ·rw[if_neg e1]
    by_cases e2:i=q.length
    ·rw[if_pos e2];exact⟨Nat.zero_le _,Nat.zero_le _,Nat.zero_le _⟩
    ·rw[if_neg e2];exact⟨Nat.zero_le _,Nat.zero_le _,Nat.zero_le _⟩
  ·rw[if_neg h2]
   have htop:=h.one (p.length - 1) (by omega)
   have hA:C9 k M t (if (aZ p).kind=114∧(p.getD (p.length - 1 - 1) root).first=0 then p.modify (p.length - 1 - 1) (bW (aZ p).kids.size) else p):=by
    split
    ·exact h.modify (Nat.le_refl _) (Nat.le_refl _) _ _ (fun a ha=>⟨ha.1,ha.2.1,by show (aZ p).kids.size≤k;rw[gW p h0];exact htop.1⟩)
    ·exact h
   generalize (if (aZ p).kind=114∧(p.getD (p.length - 1 - 1) root).first=0 then p.modify (p.length - 1 - 1) (bW (aZ p).kids.size) else p)=q at hA ⊢
   refine⟨by simp;omega,by rw[List.length_take];have:=hA.depth;omega,fun i hi=>?_⟩
   rw[List.length_take]at hi
   rw[getD_take _ _ _ _ (by omega)]
   have:=hA.one i (by omega)
   omega
theorem bounds {k M:Nat} {t:List Nd} {p:List Op} {o:St} (h:sG t p o) (hB:C9 k M t p):o.nodes≤k∧(aT o.lv).parts≤k∧(∀ c,(aT (bD o c).lv).parts≤k)∧(aT o.lv).lists≤k+1∧o.lv.length≤k+1∧∀ b ∈ o.lv,b.bytes≤M:=by
 have hpos:=h.rel.pos
 have htop:=hB.one (p.length - 1) (by omega)
 have h1:(aT o.lv).parts≤k:=by rw[h.rel.top.parts,gW p hpos];exact htop.1
 refine⟨by rw[h.nodes];exact hB.nodes,h1,fun c=>?_,?_,by rw[← h.rel.len];exact hB.depth,fun b hb=>?_⟩
 ·unfold bD
  split
  ·have:(aT (o.lv.modify (aR o.lv) iP)).parts=(aT o.lv).parts:=by
    unfold aT
    rw[List.length_modify,getD_modify]
    split<;>rfl
   show (aT (o.lv.modify (aR o.lv) iP)).parts≤k
   rw[this];exact h1
  ·exact h1
 ·rw[h.rel.KW]
  unfold bG
  refine Nat.le_trans (List.length_filter_le _ _) ?_
  rw[List.length_drop];have:=hB.depth;omega
 ·obtain⟨i,hi⟩:=List.mem_iff_getElem?.1 hb
  have hlt:=(List.getElem?_eq_some_iff.1 hi).1
  have:=(h.rel.one i (by rw[h.rel.len];exact hlt)).bytes
  rw[List.getD_eq_getElem?_getD,hi]at this
  have e:b.bytes=(p.getD i root).text.size:=by simpa using this
  rw[e]
  exact(hB.one i (by rw[h.rel.len];exact hlt)).2.1
end Go.Proofs.YtgpihfacmpbpaaaGreatDoor.Tr
