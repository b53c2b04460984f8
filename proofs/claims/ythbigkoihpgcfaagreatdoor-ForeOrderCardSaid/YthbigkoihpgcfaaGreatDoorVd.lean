/-
  Put together.
-/
import Derived.Test.YthbigkoihpgcfaaGreatDoorTsC
import Derived.Test.YthbigkoihpgcfaaGreatDoorVb
namespace Go.Proofs.YthbigkoihpgcfaaGreatDoor.Tr
open Go.RowKit
theorem aCX {k:Nat} {s:ByteArray}:EC k s=true↔k ∈ Lx.aA s:=by unfold EC;rw[List.contains_iff_mem]
theorem aJ2:∀ k ∈ Lx.aA P8,k≠95∧k≠105∧k≠108∧k≠116∧k≠114∧k≠0∧k≠46:=by decide +kernel
theorem aG3 {a:Nat} (b:Nat) (h:EC a P8=true):rk a b=if EC b ZK then 1 else 0:=by
 have:=aJ2 a (aCX.1 h)
 unfold rk
 rw[if_neg this.1,if_pos h]
theorem aLA (b:Nat):rk 105 b=if EC b ZK then 1 else if b=108 then 2 else 0:=by
 unfold rk;rw[if_neg (by decide),if_neg (by decide +kernel),if_neg (by decide),if_pos rfl]
theorem aL0 (b:Nat):rk 108 b=if b=105 then 1 else 0:=by
 unfold rk;rw[if_neg (by decide),if_neg (by decide +kernel),if_pos rfl]
theorem aL1 (b:Nat):rk 116 b=if b=114 then 1 else 0:=by
 unfold rk;rw[if_neg (by decide),if_neg (by decide +kernel),if_neg (by decide),if_neg (by decide),if_pos rfl]
theorem aL2 (b:Nat):rk 114 b=if b=99 then 1 else 0:=by
 unfold rk;rw[if_neg (by decide),if_neg (by decide +kernel),if_neg (by decide),if_neg (by decide),if_neg (by decide),if_pos rfl]
theorem aG4 (b:Nat):rk 95 b=if EC b ZF then 1 else 0:=by unfold rk;rw[if_pos rfl]
theorem aLB {a:Nat} (b:Nat) (h0:a≠95) (h1:EC a P8=false) (h2:a≠105) (h3:a≠108) (h4:a≠116) (h5:a≠114):rk a b=0:=by
 unfold rk;rw[if_neg h0,if_neg (by rw[h1];simp),if_neg h3,if_neg h2,if_neg h4,if_neg h5]
theorem aCI {b:Nat}:EC b ZK=true↔b=46∨b=101∨b=115∨b=110:=by
 rw[aCX]
 show b ∈ [46,101,115,110]↔_
 simp
theorem aBI {b:Nat}:EC b aDQ=true↔b=101∨b=115∨b=110:=by
 rw[aCX]
 show b ∈ [101,115,110]↔_
 simp
theorem aF6 {b:Nat}:inT b=true↔b=101∨b=115∨b=110:=by
 unfold inT;simp[or_assoc]
theorem aGU {b:Nat}:EC b FR=true↔b=49∨b=50∨b=51∨b=112∨b=105:=by
 rw[aCX]
 show b ∈ [49,50,51,112,105]↔_
 simp
theorem aGX {b:Nat}:EC b P8=true↔b=49∨b=50∨b=51∨b=112∨b=99∨b=110∨b=101∨b=115:=by
 rw[aCX]
 show b ∈ [49,50,51,112,99,110,101,115]↔_
 simp
theorem aA5 {b:Nat}:EC b ZF=true↔b=49∨b=50∨b=51∨b=112∨b=108∨b=116∨b=107:=by
 rw[aCX]
 show b ∈ [49,50,51,112,108,116,107]↔_
 simp
theorem aIM {b:Nat}:EC b aE0=true↔b=108∨b=116∨b=114:=by
 rw[aCX]
 show b ∈ [108,116,114]↔_
 simp
theorem aI6 {b:Nat}:EC b ZG=true↔b=110:=by
 rw[aCX]
 show b ∈ [110]↔_
 simp
theorem aMM {a b:Nat} (ha:inT a=true) (h:rk a b≠0) (hb:b≠46):inT b=true:=by
 have hf:EC a P8=true:=by rw[aGX];rw[aF6]at ha;omega
 rw[aG3 b hf]at h
 have h1:EC b ZK=true:=by
  cases hx:EC b ZK
  ·rw[hx]at h;exact absurd rfl h
  ·rfl
 rw[aCI]at h1
 rw[aF6];omega
theorem aM6 {b:Nat} (h:rk 99 b≠0) (hb:b≠46):inT b=true:=by
 have hf:EC 99 P8=true:=by decide +kernel
 rw[aG3 b hf]at h
 have h1:EC b ZK=true:=by
  cases hx:EC b ZK
  ·rw[hx]at h;exact absurd rfl h
  ·rfl
 rw[aCI]at h1
 rw[aF6];omega
theorem aL3 {a b:Nat} (hb:inT b=true) (h:rk a b≠0):EC a P8=true∨a=105:=by
 rw[aF6]at hb
 by_cases h1:EC a P8=true
 ·exact .inl h1
 ·by_cases h2:a=105
  ·exact .inr h2
  ·exfalso
   by_cases h0:a=95
   ·subst h0;rw[aG4]at h
    have:EC b ZF=false:=by rw[← Bool.not_eq_true,aA5];omega
    rw[this]at h;exact h rfl
   by_cases h3:a=108
   ·subst h3;rw[aL0,if_neg (by omega)]at h;exact h rfl
   by_cases h4:a=116
   ·subst h4;rw[aL1,if_neg (by omega)]at h;exact h rfl
   by_cases h5:a=114
   ·subst h5;rw[aL2,if_neg (by omega)]at h;exact h rfl
   exact h (aLB b h0 (by simpa using h1) h2 h3 h4 h5)
section
variable {p:List Op} {l:List Lv}
theorem Rel.aFU (h:Rel p l) {i:Nat} (hi:i<p.length) (h0:i≠0):(l.getD i sD).kind=(p.getD i root).kind:=by
 have:=(h.one i hi).kind
 rw[if_neg h0]at this;exact this
theorem Rel.aIB (h:Rel p l):(l.getD 0 sD).kind=95:=by
 have:=(h.one 0 h.pos).kind
 rw[if_pos rfl]at this;exact this
theorem Rel.aMV (h:Rel p l) {i:Nat} (hi:i+1<p.length) (ht:inT (l.getD i sD).kind=true):inT (l.getD (i+1) sD).kind=true:=by
 obtain⟨h1,_,h3⟩:=h.aHT i hi
 exact aMM ht h3 (by rw[h.aFU hi (by omega)];exact h1)
theorem Rel.aMB (h:Rel p l) {i:Nat} (ht:inT (l.getD i sD).kind=true):∀ d,i+d<p.length→inT (l.getD (i+d) sD).kind=true
 | 0,_=>ht
 | d+1,hd=>h.aMV (i:=i+d) hd (h.aMB ht d (by omega))
theorem Rel.upT (h:Rel p l) {i j:Nat} (hij:i≤j) (hj:j<p.length) (ht:inT (l.getD i sD).kind=true):inT (l.getD j sD).kind=true:=by
 have:=h.aMB ht (j - i) (by omega)
 rwa [show i+(j - i)=j from by omega]at this
theorem aHU {k:Nat}:∀ n i,gJ l k n=some i↔i<n∧(l.getD i sD).kind=k∧(∀ j,i≤j→j<n→inT (l.getD j sD).kind=true)∧∀ j,i<j→j<n→(l.getD j sD).kind≠k
 | 0,i=>by unfold gJ;simp
 | n+1,i=>by
  unfold gJ
  by_cases ht:inT (l.getD n sD).kind=true
  ·rw[if_pos ht]
   by_cases hk:(l.getD n sD).kind=k
   ·rw[if_pos hk]
    constructor
    ·intro e;cases e
     exact⟨by omega,hk,fun j h1 h2=>by rw[show j=n from by omega];exact ht,fun j h1 h2=>by omega⟩
    ·rintro⟨h1,h2,h3,h4⟩
     rcases Nat.lt_or_ge i n with h5 | h5
     ·exact absurd hk (h4 n h5 (by omega))
     ·rw[show i=n from by omega]
   ·rw[if_neg hk,aHU n i]
    constructor
    ·rintro⟨h1,h2,h3,h4⟩
     exact⟨by omega,h2,fun j a b=>by rcases Nat.lt_or_ge j n with c | c;exact h3 j a c;rw[show j=n from by omega];exact ht,fun j a b=>by rcases Nat.lt_or_ge j n with c | c;exact h4 j a c;rw[show j=n from by omega];exact hk⟩
    ·rintro⟨h1,h2,h3,h4⟩
     have:i≠n:=fun e=>hk (by rw[← e];exact h2)
     exact⟨by omega,h2,fun j a b=>h3 j a (by omega),fun j a b=>h4 j a (by omega)⟩
  ·rw[if_neg ht]
   constructor
   ·intro e;cases e
   ·rintro⟨h1,h2,h3,h4⟩
    exact absurd (h3 n (by omega) (by omega)) ht
theorem Rel.aE3 (h:Rel p l) {k i:Nat} (hk:inT k=true):eC l k=some i↔i<p.length∧(l.getD i sD).kind=k∧∀ j,i<j→j<p.length→(l.getD j sD).kind≠k:=by
 unfold eC
 rw[aHU,← h.len]
 constructor
 ·rintro⟨h1,h2,_,h4⟩;exact⟨h1,h2,h4⟩
 ·rintro⟨h1,h2,h4⟩;exact⟨h1,h2,fun j a b=>h.upT a b (by rw[h2];exact hk),h4⟩
theorem aJL {P:Nat→Prop}:∀ n,(∃ i,i<n∧P i)→∃ i,i<n∧P i∧∀ j,i<j→j<n→¬ P j
 | 0,⟨i,h,_⟩=>absurd h (by omega)
 | n+1,h=>by
  by_cases hn:P n
  ·exact⟨n,by omega,hn,fun j a b=>by omega⟩
  ·obtain⟨i,h1,h2⟩:=h
   have h3:i≠n:=fun e=>hn (by rw[← e];exact h2)
   obtain⟨m,a,b,c⟩:=aJL n ⟨i,by omega,h2⟩
   exact⟨m,by omega,b,fun j x y=>by rcases Nat.lt_or_ge j n with d | d;exact c j x d;rw[show j=n from by omega];exact hn⟩
theorem Rel.aHF (h:Rel p l) {k:Nat} (hk:inT k=true):eC l k=none↔∀ i,i<p.length→(l.getD i sD).kind≠k:=by
 constructor
 ·intro hn i hi hc
  obtain⟨m,a,b,c⟩:=aJL (P:=fun i=>(l.getD i sD).kind=k) p.length ⟨i,hi,hc⟩
  rw[(h.aE3 hk).2 ⟨a,b,c⟩]at hn
  cases hn
 ·intro hn
  cases hw:eC l k with
  | none=>rfl
  | some i =>
   obtain⟨a,b,_⟩:=(h.aE3 hk).1 hw
   exact absurd b (hn i a)
theorem aFW (p:List Op) (ks:ByteArray):∀ n i,0<i→(aDE p ks n=i↔i<n∧EC (p.getD i root).kind ks=true∧∀ j,i<j→j<n→EC (p.getD j root).kind ks=false)
 | 0,i,hi=>by unfold aDE;constructor;intro e;omega;rintro⟨a,_⟩;omega
 | n+1,i,hi=>by
  unfold aDE
  by_cases h0:n=0
  ·rw[if_pos h0];constructor;intro e;omega;rintro⟨a,_⟩;omega
  ·rw[if_neg h0]
   by_cases hk:EC (p.getD n root).kind ks=true
   ·rw[if_pos hk]
    constructor
    ·intro e;subst e;exact⟨by omega,hk,fun j a b=>by omega⟩
    ·rintro⟨a,b,c⟩
     rcases Nat.lt_or_ge i n with d | d
     ·have:=c n d (by omega);rw[hk]at this;cases this
     ·omega
   ·rw[if_neg hk,aFW p ks n i hi]
    constructor
    ·rintro⟨a,b,c⟩
     exact⟨by omega,b,fun j x y=>by rcases Nat.lt_or_ge j n with d | d;exact c j x d;rw[show j=n from by omega];simpa using hk⟩
    ·rintro⟨a,b,c⟩
     have:i≠n:=fun e=>hk (by rw[← e];exact b)
     exact⟨by omega,b,fun j x y=>c j x (by omega)⟩
theorem aJM (p:List Op) (ks:ByteArray) (n:Nat):aDE p ks n=0↔∀ i,0<i→i<n→EC (p.getD i root).kind ks=false:=by
 constructor
 ·intro h i h0 hi
  cases hk:EC (p.getD i root).kind ks
  ·rfl
  ·obtain⟨m,a,⟨b,b'⟩,c⟩:=aJL (P:=fun i=>0<i∧EC (p.getD i root).kind ks=true) n ⟨i,hi,h0,hk⟩
   rw[(aFW p ks n m b).2 ⟨a,b',fun j x y=>by
    cases hj:EC (p.getD j root).kind ks
    ·rfl
    ·exact absurd ⟨by omega,hj⟩ (c j x y)⟩]at h
   omega
 ·intro h
  rcases Nat.eq_zero_or_pos (aDE p ks n)with e | e
  ·exact e
  ·obtain⟨a,b,_⟩:=(aFW p ks n _ e).1 rfl
   rw[h _ e a]at b;cases b
theorem Rel.note (h:Rel p l):eC l 110=if DN p ZG=0 then none else some (DN p ZG):=by
 by_cases h0:DN p ZG=0
 ·rw[if_pos h0,h.aHF (by rfl)]
  intro i hi hc
  rcases Nat.eq_zero_or_pos i with e | e
  ·subst e;rw[h.aIB]at hc;omega
  ·have:=(aJM p ZG p.length).1 h0 i e hi
   rw[h.aFU hi (by omega)]at hc
   rw[hc]at this
   revert this;decide +kernel
 ·rw[if_neg h0,h.aE3 (by rfl)]
  obtain⟨a,b,c⟩:=(aFW p ZG p.length _ (Nat.pos_of_ne_zero h0)).1 rfl
  refine⟨a,?_,fun j x y=>?_⟩
  ·rw[h.aFU a h0];exact aI6.1 b
  ·rw[h.aFU y (by omega)]
   intro e
   have:=c j x y
   rw[aI6.2 e]at this;cases this
theorem Rel.many (h:Rel p l) {k:Nat} (hk:inT k=true):(eC l k).isNone=decide (ZH p k=0):=by
 have key:ZH p k=0↔∀ i,0<i→i<p.length→(p.getD i root).kind≠k:=by
  unfold ZH
  rw[List.length_eq_zero_iff,List.filter_eq_nil_iff]
  constructor
  ·intro hh i h0 hi e
   have hm:p.getD i root ∈ p.drop 1:=by
    rw[List.mem_iff_getElem?]
    refine⟨i - 1,?_⟩
    rw[List.getElem?_drop,show 1+(i - 1)=i from by omega,List.getD_eq_getElem?_getD,List.getElem?_eq_getElem hi];rfl
   exact hh _ hm (by rw[e];simp)
  ·intro hh o ho hc
   obtain⟨j,hj⟩:=List.mem_iff_getElem?.1 ho
   rw[List.getElem?_drop]at hj
   have hlt:=(List.getElem?_eq_some_iff.1 hj).1
   refine hh (1+j) (by omega) hlt ?_
   rw[List.getD_eq_getElem?_getD,hj]
   simpa using hc
 have k95:k≠95:=fun e=>by subst e;cases hk
 cases hw:eC l k with
 | none =>
  have:=(h.aHF hk).1 hw
  have h2:ZH p k=0:=key.2 fun i h0 hi=>by rw[← h.aFU hi (by omega)];exact this i hi
  rw[h2];rfl
 | some i =>
  obtain⟨a,b,_⟩:=(h.aE3 hk).1 hw
  have h2:¬ ZH p k=0:=fun e=>by
   rcases Nat.eq_zero_or_pos i with z | z
   ·subst z;rw[h.aIB]at b;exact k95 b.symm
   ·exact key.1 e i z a (by rw[← h.aFU a (by omega)];exact b)
  rw[decide_eq_false h2];rfl
theorem aGP:∀ n,0<n→inT (l.getD 0 sD).kind=false→oD l n<n∧inT (l.getD (oD l n) sD).kind=false∧∀ j,oD l n<j→j<n→inT (l.getD j sD).kind=true
 | 0,h,_=>absurd h (by omega)
 | n+1,_,h0=>by
  unfold oD
  by_cases ht:inT (l.getD n sD).kind=true
  ·rw[if_pos ht]
   have hn:0<n:=by
    rcases Nat.eq_zero_or_pos n with e | e
    ·subst e;rw[h0]at ht;cases ht
    ·exact e
   obtain⟨a,b,c⟩:=aGP n hn h0
   exact⟨by omega,b,fun j x y=>by rcases Nat.lt_or_ge j n with d | d;exact c j x d;rw[show j=n from by omega];exact ht⟩
  ·rw[if_neg ht]
   exact⟨by omega,by simpa using ht,fun j x y=>by omega⟩
theorem Rel.block (h:Rel p l):lJ l<p.length∧inT (l.getD (lJ l) sD).kind=false∧∀ j,lJ l<j→j<p.length→inT (l.getD j sD).kind=true:=by
 have:=aGP (l:=l) l.length (by rw[← h.len];exact h.pos) (by rw[h.aIB];rfl)
 rw[← h.len]at this
 unfold lJ
 rw[← h.len]
 exact this
end
section
variable {p:List Op} {l:List Lv}
theorem Rel.top (h:Rel p l):aI4 (p.length - 1) (T4 p) (cH l):=by
 rw[aE5 p h.pos]
 unfold cH
 rw[← h.len]
 exact h.one _ (by have:=h.pos;omega)
theorem aHV (a:Op) (h:a.kind≠105):aGD a≤1:=by
 unfold aGD
 split
 ·omega
 ·rw[if_neg (fun e=>h e.1)];omega
theorem aIN {a:Op} (h:a.kind=105):aGD a=2↔EC 108 a.kids=true:=by
 unfold aGD
 by_cases h0:a.kids.size=0
 ·rw[if_pos h0]
  constructor
  ·intro e;omega
  ·intro e
   rw[aCX]at e
   have:=List.length_pos_of_mem e
   rw[Lx.aD]at this;omega
 ·rw[if_neg h0]
  by_cases h1:EC 108 a.kids=true
  ·rw[if_pos ⟨h,h1⟩];simp[h1]
  ·rw[if_neg (fun e=>h1 e.2)];simp[h1]
theorem aIC (a:Op):aGD a≤2:=by
 unfold aGD
 split
 ·omega
 ·split<;>omega
theorem aBJ {l:List Lv} {k:Nat} (h1:rk (cH l).kind k≠0) (h2:(cH l).rank≤rk (cH l).kind k):pU l k =
  if k=99 then decide ((cH l).parts<8) else if k=101∨k=115 then (eC l k).isNone else if k=110 then decide ((l.getD (lJ l) sD).kind≠99) && !(l.getD (lJ l) sD).tQ else true:=by
 unfold pU
 rw[if_neg (by omega)]
theorem aAQ {l:List Lv} {k:Nat} (h:rk (cH l).kind k=0∨rk (cH l).kind k<(cH l).rank):pU l k=false:=by
 unfold pU
 rw[if_pos h]
theorem Rel.aG5 (h:Rel p l) (h1:p.length≠1):(cH l).kind=(T4 p).kind∧(T4 p).kind≠95∧(T4 p).kind≠46:=by
 have h0:=h.pos
 have ht:=h.top
 have hk:=ht.kind
 rw[if_neg (by omega)]at hk
 obtain⟨a,b,_⟩:=h.aHT (p.length - 2) (by omega)
 rw[show p.length - 2+1=p.length - 1 from by omega,← aE5 p h0]at a b
 exact⟨hk,b,a⟩
theorem Rel.aHW (h:Rel p l) (h1:p.length=1):(cH l).kind=95∧(T4 p).kind=0:=by
 have hk:=h.top.kind
 rw[if_pos (by omega)]at hk
 refine⟨hk,?_⟩
 rw[aE5 p h.pos,h1];exact h.aI5
theorem aEU (p:List Op):FQ p=(EC (T4 p).kind P8 || ((T4 p).kind==105 && !EC 108 (T4 p).kids)):=rfl
theorem aHX:EC 0 P8=false∧EC 95 P8=false∧EC 108 P8=false∧EC 116 P8=false:=by decide +kernel
theorem aG6 {p:List Op} {q:Nat} (hq:(T4 p).kind=q) (hf:EC q P8=false) (hi:q≠105):FQ p=false:=by
 rw[aEU,hq,hf,show (q==105)=false from beq_eq_false_iff_ne.2 hi];rfl
theorem Rel.texts (h:Rel p l):pU l 46=FQ p:=by
 rw[aEU]
 have hf46:EC 46 ZK=true:=by decide +kernel
 by_cases h1:p.length=1
 ·obtain⟨a,b⟩:=h.aHW h1
  rw[aAQ (.inl (by rw[a,aG4];decide +kernel)),← aEU]
  exact(aG6 b aHX.1 (by decide)).symm
 ·obtain⟨a,b,c⟩:=h.aG5 h1
  have hr:=h.top.rank
  by_cases hf:EC (T4 p).kind P8=true
  ·have hq:=aJ2 _ (aCX.1 hf)
   have hrk:rk (cH l).kind 46=1:=by rw[a,aG3 46 hf,if_pos hf46]
   rw[aBJ (by omega) (by rw[hrk,hr];exact aHV _ hq.2.1),hf]
   rfl
  ·rw[Bool.not_eq_true]at hf
   rw[hf,Bool.false_or]
   by_cases hi:(T4 p).kind=105
   ·have hrk:rk (cH l).kind 46=1:=by rw[a,hi,aLA,if_pos hf46]
    have h2:=aIN hi
    have hle:=aIC (T4 p)
    rw[hi]
    by_cases h108:EC 108 (T4 p).kids=true
    ·rw[aAQ (.inr (by rw[hrk,hr,h2.2 h108];omega)),h108];rfl
    ·rw[aBJ (by omega) (by rw[hrk,hr];have:aGD (T4 p)≠2:=fun e=>h108 (h2.1 e);omega)]
     rw[Bool.not_eq_true]at h108
     rw[h108];rfl
   ·rw[show ((T4 p).kind==105)=false from beq_eq_false_iff_ne.2 hi,Bool.false_and]
    refine aAQ (.inl ?_)
    rw[a]
    by_cases q3:(T4 p).kind=108
    ·rw[q3,aL0,if_neg (by omega)]
    by_cases q4:(T4 p).kind=116
    ·rw[q4,aL1,if_neg (by omega)]
    by_cases q5:(T4 p).kind=114
    ·rw[q5,aL2,if_neg (by omega)]
    exact aLB 46 b hf hi q3 q4 q5
theorem Rel.aLC (h:Rel p l) (ht:FQ p=true):0<lJ l∧(EC (p.getD (lJ l) root).kind FR=true∨(p.getD (lJ l) root).kind=99):=by
 obtain⟨a,b,c⟩:=h.block
 have key:EC (l.getD (lJ l) sD).kind P8=true∨(l.getD (lJ l) sD).kind=105:=by
  by_cases he:lJ l+1<p.length
  ·obtain⟨h1,h2,h3⟩:=h.aHT _ he
   exact aL3 (c _ (by omega) he) h3
  ·have h4:lJ l=p.length - 1:=by omega
   by_cases h1:p.length=1
   ·rw[aG6 (h.aHW h1).2 aHX.1 (by decide)]at ht
    cases ht
   ·have hk:=(h.aG5 h1).1
    unfold cH at hk
    rw[← h.len]at hk
    rw[h4,hk]
    rw[aEU,Bool.or_eq_true,Bool.and_eq_true,beq_iff_eq]at ht
    exact ht.imp id (fun e=>e.1)
 have h0:0<lJ l:=by
  rcases Nat.eq_zero_or_pos (lJ l)with e | e
  ·rw[e,h.aIB]at key
   rcases key with k | k
   ·rw[aHX.2.1]at k;cases k
   ·omega
  ·exact e
 refine⟨h0,?_⟩
 rw[h.aFU a (by omega)]at key b
 rw[aGU]
 rw[aGX]at key
 have hb:¬ ((p.getD (lJ l) root).kind=101∨(p.getD (lJ l) root).kind=115∨(p.getD (lJ l) root).kind=110):=fun e=>by rw[aF6.2 e]at b;cases b
 omega
theorem Rel.aHY (h:Rel p l) (hc:EC (p.getD (lJ l) root).kind FR=true) (h0:0<lJ l):DN p FR=lJ l:=by
 obtain⟨a,b,c⟩:=h.block
 refine(aFW p FR p.length _ h0).2 ⟨a,hc,fun j x y=>?_⟩
 have:=c j x y
 rw[h.aFU y (by omega),aF6]at this
 rw[← Bool.not_eq_true,aGU]
 omega
theorem aLD {p:List Op} {k i:Nat} (h0:0<i) (hi:i<p.length) (hk:(p.getD i root).kind=k):0<ZH p k:=by
 unfold ZH
 rw[List.length_pos_iff_exists_mem]
 refine⟨p.getD i root,List.mem_filter.2 ⟨?_,by rw[hk];simp⟩⟩
 rw[List.mem_iff_getElem?]
 refine⟨i - 1,?_⟩
 rw[List.getElem?_drop,show 1+(i - 1)=i from by omega,List.getD_eq_getElem?_getD,List.getElem?_eq_getElem hi];rfl
theorem aID {p:List Op} {k:Nat} (h:∀ i,0<i→i<p.length→(p.getD i root).kind≠k):ZH p k=0:=by
 unfold ZH
 rw[List.length_eq_zero_iff,List.filter_eq_nil_iff]
 intro o ho hc
 obtain⟨j,hj⟩:=List.mem_iff_getElem?.1 ho
 rw[List.getElem?_drop]at hj
 have hlt:=(List.getElem?_eq_some_iff.1 hj).1
 refine h (1+j) (by omega) hlt ?_
 rw[List.getD_eq_getElem?_getD,hj]
 simpa using hc
theorem Rel.noCell (h:Rel p l) (hb:(l.getD (lJ l) sD).kind≠99):ZH p 99=0:=by
 refine aID fun i h0 hi hk=>?_
 obtain⟨a,b,c⟩:=h.block
 have hkl:(l.getD i sD).kind=99:=by rw[h.aFU hi (by omega)];exact hk
 have hle:i≤lJ l:=by
  rcases Nat.lt_or_ge (lJ l) i with e | e
  ·have:=c i e hi
   rw[hkl]at this;cases this
  ·exact e
 have hlt:i<lJ l:=by
  rcases Nat.lt_or_ge i (lJ l)with e | e
  ·exact e
  ·exact absurd (by rw[show lJ l=i from by omega];exact hkl) hb
 obtain⟨h1,_,h3⟩:=h.aHT i (by omega)
 rw[hkl]at h3
 have hT:=aM6 h3 (by rw[h.aFU (by omega) (by omega)];exact h1)
 have:=h.upT (show i+1≤lJ l from hlt) a hT
 rw[b]at this;cases this
theorem aHG {l:List Lv} {B:Nat} (hB:inT (l.getD B sD).kind=false):∀ n,B<n→(∀ j,B<j→j<n→inT (l.getD j sD).kind=true)→oD l n=B
 | 0,h,_=>absurd h (by omega)
 | n+1,h,hT=>by
  unfold oD
  by_cases e:n=B
  ·subst e;rw[if_neg (by rw[hB];simp)]
  ·rw[if_pos (hT n (by omega) (by omega))]
   exact aHG hB n (by omega) (fun j a b=>hT j a (by omega))
theorem Rel.aL4 (h:Rel p l) (ht:FQ p=true):(decide ((l.getD (lJ l) sD).kind≠99) && !(l.getD (lJ l) sD).tQ) =
  (decide (ZH p 110=0) && decide (ZH p 99=0∧0<DN p FR∧(p.getD (DN p FR) root).notes=0)):=by
 obtain⟨a,b,c⟩:=h.block
 obtain⟨h0,hk⟩:=h.aLC ht
 have hkl:=h.aFU a (by omega)
 have hnt:=(h.one _ a).tQ
 rcases hk with hk | hk
 ·have hla:=h.aHY hk h0
  have hne:(l.getD (lJ l) sD).kind≠99:=by rw[hkl];rw[aGU]at hk;omega
  rw[decide_eq_true hne,Bool.true_and,h.noCell hne,hla,hnt]
  by_cases hn:(p.getD (lJ l) root).notes=0
  ·rw[hn]
   have hm:ZH p 110=0:=by
    refine aID fun i x y z=>?_
    have hzl:(l.getD i sD).kind=110:=by rw[h.aFU y (by omega)];exact z
    have h3:=h.notes i y hzl
    have hlt:lJ l<i:=by
     rcases Nat.lt_or_ge (lJ l) i with e | e
     ·exact e
     ·have:=h.upT e a (by rw[hzl];rfl)
      rw[b]at this;cases this
    rw[aHG b i hlt (fun j x' y'=>c j x' (by omega)),hnt,hn]at h3
    cases h3
   rw[hm]
   simp[h0]
  ·rw[decide_eq_true (show 0<(p.getD (lJ l) root).notes by omega),decide_eq_false (p:=0=0∧0<lJ l∧(p.getD (lJ l) root).notes=0) (fun e=>hn e.2.2),Bool.and_false];rfl
 ·have h99:(l.getD (lJ l) sD).kind=99:=by rw[hkl];exact hk
  have hm:=aLD h0 a hk
  rw[h99]
  simp
  intro _ hc
  omega
theorem Rel.opens (h:Rel p l) {k:Nat} (hk:k≠46):pU l k=aEJ p k:=by
 unfold aEJ
 dsimp only
 by_cases h1:p.length=1
 ·rw[if_pos h1]
  obtain⟨a,b⟩:=h.aHW h1
  cases hb:EC k ZF
  ·exact aAQ (.inl (by rw[a,aG4,hb];rfl))
  ·have hr:=h.top.rank
   have hle:=aHV (T4 p) (by rw[b];decide)
   have hb':=aA5.1 hb
   rw[aBJ (by rw[a,aG4,hb];simp) (by rw[a,aG4,hb,hr];exact hle),if_neg (by omega),if_neg (by omega),if_neg (by omega)]
 ·rw[if_neg h1]
  obtain⟨a,b,c⟩:=h.aG5 h1
  have hr:=h.top.rank
  have hpt:=h.top.parts
  have hle2:=aIC (T4 p)
  have htx:=h.texts
  -- where a text may stand, e, s or n
  have esn:FQ p=true→EC k aDQ=true→rk (cH l).kind k=1→(cH l).rank≤1 →
    pU l k=if FQ p=false∨EC k aDQ=false∨0<ZH p k then false else if k≠110 then true else decide (ZH p 99=0∧0<DN p FR∧(p.getD (DN p FR) root).notes=0):=by
   intro t1 t2 t3 t4
   have hT:inT k=true:=aF6.2 (aBI.1 t2)
   have he:=aBI.1 t2
   rw[aBJ (by omega) (by omega),if_neg (by omega)]
   by_cases h110:k=110
   ·subst h110
    rw[if_neg (by omega),if_pos rfl,h.aL4 t1]
    by_cases hm:0<ZH p 110
    ·rw[if_pos (.inr (.inr hm)),decide_eq_false (by omega)];rfl
    ·rw[if_neg (by rw[t1,t2];simpa using hm),if_neg (by simp),decide_eq_true (by omega),Bool.true_and]
   ·rw[if_pos (by omega),h.many hT]
    by_cases hm:0<ZH p k
    ·rw[if_pos (.inr (.inr hm)),decide_eq_false (by omega)]
    ·rw[if_neg (by rw[t1,t2];simpa using hm),if_pos h110,decide_eq_true (by omega)]
  by_cases hi:(T4 p).kind=105
  ·have h2:=aIN hi
   by_cases h108:k=108
   ·rw[if_pos (.inl ⟨hi,h108⟩)]
    have hrk:rk (cH l).kind k=2:=by rw[a,hi,aLA,h108,if_neg (by decide +kernel),if_pos rfl]
    rw[aBJ (by omega) (by omega),if_neg (by omega),if_neg (by omega),if_neg (by omega)]
   ·rw[if_neg (by omega),if_neg (by omega)]
    by_cases he:EC k aDQ=true
    ·have hrk:rk (cH l).kind k=1:=by rw[a,hi,aLA,if_pos (aCI.2 (.inr (aBI.1 he)))]
     by_cases ht:FQ p=true
     ·refine esn ht he hrk ?_
      rw[aEU,hi]at ht
      have:EC 108 (T4 p).kids=false:=by
       have:EC 105 P8=false:=by decide +kernel
       rw[this]at ht
       simpa using ht
      have h3:aGD (T4 p)≠2:=fun e=>by rw[h2.1 e]at this;cases this
      omega
     ·rw[Bool.not_eq_true]at ht
      rw[if_pos (.inl ht)]
      refine aAQ (.inr ?_)
      rw[aEU,hi]at ht
      have h3:aGD (T4 p)=2:=h2.2 (by
       have:EC 105 P8=false:=by decide +kernel
       rw[this]at ht
       simpa using ht)
      omega
    ·rw[Bool.not_eq_true]at he
     rw[if_pos (.inr (.inl he))]
     refine aAQ (.inl ?_)
     rw[a,hi,aLA,if_neg (fun e=>by
      have:=aCI.1 e
      have h3:=aBI.2 (this.resolve_left hk)
      rw[he]at h3;cases h3),if_neg h108]
  ·have hle:=aHV (T4 p) hi
   by_cases q3:(T4 p).kind=108
   ·by_cases hk1:k=105
    ·rw[if_pos (.inr (.inl ⟨q3,hk1⟩))]
     have hrk:rk (cH l).kind k=1:=by rw[a,q3,aL0,if_pos hk1]
     rw[aBJ (by omega) (by omega),if_neg (by omega),if_neg (by omega),if_neg (by omega)]
    ·rw[if_neg (by omega),if_neg (by omega),if_pos (.inl (aG6 q3 aHX.2.2.1 (by decide)))]
     exact aAQ (.inl (by rw[a,q3,aL0,if_neg hk1]))
   by_cases q4:(T4 p).kind=116
   ·by_cases hk1:k=114
    ·rw[if_pos (.inr (.inr ⟨q4,hk1⟩))]
     have hrk:rk (cH l).kind k=1:=by rw[a,q4,aL1,if_pos hk1]
     rw[aBJ (by omega) (by omega),if_neg (by omega),if_neg (by omega),if_neg (by omega)]
    ·rw[if_neg (by omega),if_neg (by omega),if_pos (.inl (aG6 q4 aHX.2.2.2 (by decide)))]
     exact aAQ (.inl (by rw[a,q4,aL1,if_neg hk1]))
   by_cases q5:(T4 p).kind=114
   ·rw[if_neg (by omega),if_pos q5]
    by_cases hk1:k=99
    ·have hrk:rk (cH l).kind k=1:=by rw[a,q5,aL2,if_pos hk1]
     rw[aBJ (by omega) (by omega),if_pos hk1,hpt]
     simp[hk1]
    ·rw[aAQ (.inl (by rw[a,q5,aL2,if_neg hk1]))]
     simp[hk1]
   rw[if_neg (by omega),if_neg q5]
   by_cases hf:EC (T4 p).kind P8=true
   ·have ht:FQ p=true:=by rw[aEU,hf];rfl
    by_cases he:EC k aDQ=true
    ·exact esn ht he (by rw[a,aG3 k hf,if_pos (aCI.2 (.inr (aBI.1 he)))]) (by omega)
    ·rw[Bool.not_eq_true]at he
     rw[if_pos (.inr (.inl he))]
     refine aAQ (.inl ?_)
     rw[a,aG3 k hf,if_neg (fun e=>by
      have:=aCI.1 e
      have h3:=aBI.2 (this.resolve_left hk)
      rw[he]at h3;cases h3)]
   ·rw[Bool.not_eq_true]at hf
    have ht:FQ p=false:=by rw[aEU,hf,show ((T4 p).kind==105)=false from beq_eq_false_iff_ne.2 hi];rfl
    rw[if_pos (.inl ht)]
    exact aAQ (.inl (by rw[a];exact aLB k b hf hi q3 q4 q5))
end
theorem aIO (p:List Op) (j:Nat) (f:Op→Op) (hf:∀ a,(f a).kind=a.kind) (i:Nat):((p.modify j f).getD i root).kind=(p.getD i root).kind:=by
 rw[getD_modify];split<;>simp[hf]
theorem aF7 (l:List Lv) (j:Nat) (f:Lv→Lv) (hf:∀ b,(f b).kind=b.kind) (i:Nat):((l.modify j f).getD i sD).kind=(l.getD i sD).kind:=by
 rw[getD_modify];split<;>simp[hf]
theorem y6 (p:List Op) (j:Nat) (f:Op→Op) (hf:∀ a,(f a).kind=a.kind):(p.modify j f).map (·.kind)=p.map (·.kind):=by
 apply List.ext_getElem?
 intro i
 rw[List.getElem?_map,List.getElem?_map,List.getElem?_modify]
 by_cases e:j=i
 ·subst e;cases p[j]?<;>simp[hf]
 ·cases p[i]?<;>simp[e]
theorem aHH (p:List Op) (n:Nat):((p.take n).drop 1).countP (fun o=>o.kind==108)=(((p.map (·.kind)).take n).drop 1).countP (·==108):=by
 rw[← List.map_take,← List.map_drop,List.countP_map];rfl
theorem aF8 {l l':List Lv} (h:∀ i,(l'.getD i sD).kind=(l.getD i sD).kind):∀ n,oD l' n=oD l n
 | 0=>rfl
 | n+1=>by unfold oD;rw[h n,aF8 h n]
section
variable {p:List Op} {l:List Lv}
theorem Rel.modify (h:Rel p l) (i:Nat) (f:Op→Op) (g:Lv→Lv) (hf:∀ a,(f a).kind=a.kind) (hg:∀ b,(g b).kind=b.kind∧(g b).lists=b.lists∧(b.tQ=true→(g b).tQ=true))
  (hr:i<p.length→aI4 i (p.getD i root) (l.getD i sD)→aI4 i (f (p.getD i root)) (g (l.getD i sD))):Rel (p.modify i f) (l.modify i g):=by
 have hkO:=aIO p i f hf
 have hkL:=aF7 l i g (fun b=>(hg b).1)
 refine⟨by simp[h.len],by simpa using h.pos,fun j hj=>?_,fun j hj=>?_,by rw[hkO];exact h.aI5,fun j hj=>?_,fun j hj hk=>?_⟩
 ·rw[List.length_modify]at hj
  rw[getD_modify,getD_modify]
  by_cases e:i=j
  ·subst e
   rw[if_pos ⟨rfl,hj⟩,if_pos ⟨rfl,by rw[← h.len];exact hj⟩]
   exact hr hj (h.one i hj)
  ·rw[if_neg (fun x=>e x.1),if_neg (fun x=>e x.1)]
   exact h.one j hj
 ·rw[List.length_modify]at hj
  rw[aHH,y6 p i f hf,← aHH,← h.lists j hj,getD_modify]
  split
  ·exact(hg _).2.1
  ·rfl
 ·rw[List.length_modify]at hj
  rw[hkO,hkL,hkL]
  exact h.aHT j hj
 ·rw[List.length_modify]at hj
  rw[hkL]at hk
  have:=h.notes j hj hk
  rw[aF8 hkL,getD_modify]
  split
  ·exact(hg _).2.2 this
  ·exact this
theorem aI7 (k:Nat):(jZ k).size=1:=by unfold jZ;rw[Lx.aF];rfl
theorem aLE (c k:Nat) (hk:k<256) (s:ByteArray):EC c (s++jZ k)=(EC c s || c==k):=by
 unfold EC jZ
 rw[Lx.rD,Lx.aB [k] (fun x hx=>by rw[List.mem_singleton]at hx;subst hx;exact hk)]
 rw[List.contains_eq_mem,List.contains_eq_mem]
 by_cases h1:c ∈ Lx.aA s
 ·simp[h1]
 ·by_cases h2:c=k
  ·simp[h2]
  ·simp[h1,h2]
theorem aMW {a:Nat} (b:Nat) (h:a≠105):rk a b≤1:=by
 unfold rk
 repeat' split
 all_goals first | omega | (exact absurd ‹_› h)
theorem aKI {i:Nat} {a:Op} {b:Lv} (h:aI4 i a b) (hi:i=0→a.kind=0) {k:Nat} (hk:k<256) (h0:rk b.kind k≠0) (h1:b.rank≤rk b.kind k):rk b.kind k=aGD (ZI k a):=by
 have hs:(ZI k a).kids.size≠0:=by
  show (a.kids++jZ k).size≠0
  rw[ByteArray.size_append,aI7];omega
 have hkd:=h.kind
 unfold aGD
 rw[if_neg hs]
 show _=if a.kind=105∧EC 108 (a.kids++jZ k)=true then 2 else 1
 rw[aLE 108 k hk]
 by_cases hi5:a.kind=105
 ·have hi0:i≠0:=fun e=>by have:=hi e;omega
  rw[if_neg hi0,hi5]at hkd
  rw[hkd,aLA]at h0 h1 ⊢
  by_cases h8:k=108
  ·subst h8
   have hf8:EC 108 ZK=false:=by decide +kernel
   rw[hf8,if_neg (by simp),if_pos rfl,if_pos ⟨hi5,by simp⟩]
  ·by_cases hf:EC k ZK=true
   ·rw[if_pos hf]at h1 ⊢
    have h2:¬ EC 108 a.kids=true:=fun e=>by
     have:=(aIN hi5).2 e
     have:=h.rank
     omega
    rw[Bool.not_eq_true]at h2
    rw[h2,show ((108:Nat)==k)=false from beq_eq_false_iff_ne.2 (fun e=>h8 e.symm)]
    simp
   ·rw[if_neg hf,if_neg h8]at h0
    exact absurd rfl h0
 ·rw[if_neg (fun e=>hi5 e.1)]
  have hb:b.kind≠105:=by
   rw[hkd];split
   ·omega
   ·exact hi5
  have:=aMW k hb
  omega
theorem Rel.count (h:Rel p l) {k:Nat} (hk:k<256) (hm:pU l k=true):Rel (p.modify (p.length - 1) (ZI k)) (l.modify (l.length - 1) (l5 k)):=by
 rw[← h.len]
 have h0:rk (cH l).kind k≠0∧(cH l).rank≤rk (cH l).kind k:=by
  by_cases e:rk (cH l).kind k=0∨rk (cH l).kind k<(cH l).rank
  ·rw[aAQ e]at hm;cases hm
  ·exact⟨fun x=>e (.inl x),by omega⟩
 have ht:cH l=l.getD (p.length - 1) sD:=by unfold cH;rw[h.len]
 rw[ht]at h0
 refine h.modify _ _ _ (fun _=>rfl) (fun b=>⟨rfl,rfl,fun e=>e⟩) fun hi hr=>?_
 refine⟨hr.kind,hr.start,?_,?_,hr.oQ,hr.tQ,hr.bytes⟩
 ·show _+1=(_++jZ k).size
  rw[ByteArray.size_append,aI7,hr.parts]
 ·exact aKI hr (fun e=>by have:=h.aI5;rwa [e]) hk h0.1 h0.2
theorem Rel.aLF (h:Rel p l) (B:Nat):Rel (p.modify B aCH) (l.modify B K3) :=
 h.modify _ _ _ (fun _=>rfl) (fun b=>⟨rfl,rfl,fun _=>rfl⟩) fun _ hr=>⟨hr.kind,hr.start,hr.parts,hr.rank,hr.oQ,by show true=decide (0<_+1);simp,hr.bytes⟩
theorem Rel.aLG (h:Rel p l) (i:Nat) (s:ByteArray):Rel (p.modify i (aCG s)) (l.modify i (nL s.size)) :=
 h.modify _ _ _ (fun _=>rfl) (fun b=>⟨rfl,rfl,fun e=>e⟩) fun _ hr=>⟨hr.kind,hr.start,hr.parts,hr.rank,hr.oQ,hr.tQ,by show _+s.size=(_++s).size;rw[ByteArray.size_append,hr.bytes]⟩
theorem Rel.first (h:Rel p l) (i n:Nat):Rel (p.modify i (ZJ n)) (l.modify i (tS n)) :=
 h.modify _ _ _ (fun _=>rfl) (fun _=>⟨rfl,rfl,fun e=>e⟩) fun _ hr=>⟨hr.kind,hr.start,hr.parts,hr.rank,rfl,hr.tQ,hr.bytes⟩
theorem aHI {l:List Lv} (x:Lv):∀ n,n≤l.length→oD (l++[x]) n=oD l n
 | 0,_=>rfl
 | n+1,h=>by
  have e:(l++[x]).getD n sD=l.getD n sD:=by rw[T5,if_pos (by omega)]
  unfold oD;rw[e,aHI x n (by omega)]
theorem Rel.push (h:Rel p l) (k s:Nat) (hk:k≠46∧k≠95) (h0:rk (cH l).kind k≠0) (hn:k=110→(l.getD (lJ l) sD).tQ=true) :
  Rel (p++[⟨k,cJ,s,0,0,cJ⟩]) (l++[⟨k,s,(cH l).lists+(if k=108 then 1 else 0),0,0,0,false,0⟩]):=by
 have hpos:=h.pos
 have hlen:=h.len
 have ht:cH l=l.getD (p.length - 1) sD:=by unfold cH;rw[h.len]
 refine⟨by simp[h.len],by simp,fun i hi=>?_,fun i hi=>?_,by rw[T5,if_pos hpos];exact h.aI5,fun i hi=>?_,fun i hi hk1=>?_⟩
 ·rw[List.length_append]at hi
  rw[T5,T5]
  by_cases e:i<p.length
  ·rw[if_pos e,if_pos (by omega)];exact h.one i e
  ·have e1:i=p.length:=by simp at hi;omega
   rw[if_neg e,if_pos e1,if_neg (by omega),if_pos (by omega)]
   exact⟨by show k=if i=0 then 95 else k;rw[if_neg (by omega)],rfl,rfl,rfl,rfl,rfl,rfl⟩
 ·rw[List.length_append]at hi
  rw[T5]
  by_cases e:i<p.length
  ·rw[if_pos (by omega),List.take_append_of_le_length (by omega)];exact h.lists i e
  ·have e1:i=p.length:=by simp at hi;omega
   rw[if_neg (by omega),if_pos (by omega),List.take_of_length_le (by simp;omega),List.drop_append_of_le_length (by omega),List.countP_append]
   have:=h.lists (p.length - 1) (by omega)
   rw[show p.length - 1+1=p.length from by omega,List.take_length]at this
   rw[ht,← this]
   by_cases e8:k=108<;>simp[e8]
 ·rw[List.length_append]at hi
  simp only[T5]
  by_cases e:i+1<p.length
  ·rw[if_pos e,if_pos (by omega),if_pos (by omega)];exact h.aHT i e
  ·have e1:i+1=p.length:=by simp at hi;omega
   rw[if_neg e,if_pos e1,if_pos (by omega),if_neg (by omega),if_pos (by omega)]
   rw[ht,show p.length - 1=i from by omega]at h0
   exact⟨hk.1,hk.2,h0⟩
 ·rw[List.length_append]at hi
  rw[aHI _ _ (by simp at hi;omega)]
  rw[T5]at hk1
  have key:oD l i<l.length:=by
   rcases Nat.eq_zero_or_pos i with e | e
   ·subst e;unfold oD;omega
   ·have:=(aGP (l:=l) i e (by rw[h.aIB];rfl)).1
    simp at hi;omega
  rw[T5,if_pos key]
  by_cases e:i<p.length
  ·rw[if_pos (by omega)]at hk1;exact h.notes i e hk1
  ·have e1:i=p.length:=by simp at hi;omega
   rw[if_neg (by omega),if_pos (by omega)]at hk1
   have:=hn hk1
   unfold lJ at this
   rw[e1,hlen];exact this
theorem Rel.take (h:Rel p l) {m:Nat} (h1:1≤m) (h2:m≤p.length):Rel (p.take m) (l.take m):=by
 have hlen:=h.len
 have hl:(p.take m).length=m:=by rw[List.length_take];omega
 refine⟨by rw[hl,List.length_take];omega,by omega,fun i hi=>?_,fun i hi=>?_,by rw[getD_take _ _ _ _ (by omega)];exact h.aI5,fun i hi=>?_,fun i hi hk1=>?_⟩
 ·rw[hl]at hi
  rw[getD_take _ _ _ _ hi,getD_take _ _ _ _ hi];exact h.one i (by omega)
 ·rw[hl]at hi
  rw[getD_take _ _ _ _ hi,List.take_take,Nat.min_eq_left (by omega)];exact h.lists i (by omega)
 ·rw[hl]at hi
  rw[getD_take _ _ _ _ hi,getD_take _ _ _ _ (by omega),getD_take _ _ _ _ hi];exact h.aHT i (by omega)
 ·rw[hl]at hi
  rw[getD_take _ _ _ _ hi]at hk1
  have e:∀ n,n≤m→oD (l.take m) n=oD l n:=by
   intro n
   induction n with
   | zero=>intro _;rfl
   | succ n ih=>intro hn;unfold oD;rw[getD_take _ _ _ _ (by omega),ih (by omega)]
  have key:oD l i<m:=by
   rcases Nat.eq_zero_or_pos i with e | e
   ·subst e;unfold oD;omega
   ·have:=(aGP (l:=l) i e (by rw[h.aIB];rfl)).1
    omega
  rw[e i (by omega),getD_take _ _ _ _ key]
  exact h.notes i (by omega) hk1
end
structure aHA (t:List Nd) (p:List Op) (o:St):Prop where
 rel:Rel p o.lv
 nodes:o.nodes=t.length
 lists:o.deep=false→ZH p 108≤8
theorem aHA.start:aHA [] [root] st0:=by
 refine⟨⟨rfl,by decide,fun i hi=>?_,fun i hi=>?_,rfl,fun i hi=>?_,fun i hi hk=>?_⟩,rfl,fun _=>by decide⟩
 ·obtain rfl:i=0:=by simp at hi;exact hi
  exact⟨rfl,rfl,rfl,rfl,rfl,rfl,rfl⟩
 ·obtain rfl:i=0:=by simp at hi;exact hi
  rfl
 ·simp at hi
 ·obtain rfl:i=0:=by simp at hi;exact hi
  revert hk;decide
theorem Rel.aLH {p:List Op} {l:List Lv} (h:Rel p l):(cH l).lists=ZH p 108:=by
 have hpos:=h.pos
 have:=h.lists (p.length - 1) (by omega)
 unfold cH ZH
 rw[← h.len,this,show p.length - 1+1=p.length from by omega,List.take_length,List.countP_eq_length_filter]
theorem aGB {p q:List Op} (h:p.map (·.kind)=q.map (·.kind)) (k:Nat):ZH p k=ZH q k:=by
 have e:∀ r:List Op,ZH r k=(((r.map (·.kind)).drop 1).filter (·==k)).length:=fun r=>by
  unfold ZH
  rw[← List.map_drop,List.filter_map,List.length_map];rfl
 rw[e,e,h]
theorem aHZ {p q:List Op} (h:p.map (·.kind)=q.map (·.kind)) (ks:ByteArray):DN p ks=DN q ks:=by
 have hl:p.length=q.length:=by have:=congrArg List.length h;simpa using this
 have hk:∀ i,i<p.length→(p.getD i root).kind=(q.getD i root).kind:=fun i hi=>by
  have:=congrArg (fun l:List Nat=>l[i]?) h
  simp only[List.getElem?_map]at this
  rw[List.getD_eq_getElem?_getD,List.getD_eq_getElem?_getD,List.getElem?_eq_getElem hi,List.getElem?_eq_getElem (by omega)]at *
  simpa using this
 unfold DN
 rw[hl]
 have:∀ n,n≤p.length→aDE p ks n=aDE q ks n:=by
  intro n
  induction n with
  | zero=>intro _;rfl
  | succ n ih=>intro hn;unfold aDE;rw[hk n (by omega),ih (by omega)]
 exact this _ (by omega)
theorem aKJ (t:List Nd) (p:List Op) (nm:Nat) (tx:ByteArray) (pl:Nat) (h:FQ p=true):ZE (t,p) ⟨1,nm,tx,pl⟩ =
  (t++[⟨46,tx,(pl:Int),1⟩],if 0<DN p ZG then (p.modify (p.length - 1) (ZI 46)).modify (DN p ZG) (aCG tx) else p.modify (p.length - 1) (ZI 46)):=by
 have e:DN (p.modify (p.length - 1) (ZI 46)) ZG=DN p ZG:=aHZ (y6 p _ (ZI 46) (fun _=>rfl)) _
 unfold ZE
 simp only[h,if_true,e]
theorem aI8 (t:List Nd) (p:List Op) (nm:Nat) (tx:ByteArray) (pl:Nat) (h:FQ p=true):tO t p ⟨1,nm,tx,pl⟩ =
  if 2000≤t.length∨(0<DN p ZG∧60<(p.getD (DN p ZG) root).text.size+tx.size) then (pl,4) else (0,0):=by
 unfold tO
 simp only[h,if_true]
 rw[if_neg (by simp)]
theorem aHA.text {t:List Nd} {p:List Op} {o:St} (h:aHA t p o) (nm:Nat) (tx:ByteArray) (pl:Nat) (ht:FQ p=true) :
  aHA (ZE (t,p) ⟨1,nm,tx,pl⟩).1 (ZE (t,p) ⟨1,nm,tx,pl⟩).2 (vS o tx.size)∧(vS o tx.size).deep=o.deep∧(vS o tx.size).tR=(o.tR || decide ((tO t p ⟨1,nm,tx,pl⟩).2=4)) ∧
   ((tO t p ⟨1,nm,tx,pl⟩).2=0∨(tO t p ⟨1,nm,tx,pl⟩).2=4):=by
 have hm:pU o.lv 46=true:=by rw[h.rel.texts];exact ht
 have hc:=h.rel.count (k:=46) (by decide) hm
 rw[aKJ t p nm tx pl ht,aI8 t p nm tx pl ht]
 have hn:=h.rel.note
 have hk1:(p.modify (p.length - 1) (ZI 46)).map (·.kind)=p.map (·.kind):=y6 p _ _ (fun _=>rfl)
 by_cases h0:DN p ZG=0
 ·rw[if_pos h0]at hn
  have hs:vS o tx.size=bE o 46:=by unfold vS;rw[hn]
  rw[hs,h0]
  rw[if_neg (Nat.lt_irrefl 0)]
  refine⟨⟨hc,by simp[bE,h.nodes],fun hd=>?_⟩,rfl,?_,?_⟩
  ·show ZH (p.modify (p.length - 1) (ZI 46)) 108≤8
   rw[aGB hk1];exact h.lists hd
  ·show (o.tR || decide (2000<o.nodes+1))=_
   rw[h.nodes]
   by_cases e:2000≤t.length
   ·rw[if_pos (.inl e),decide_eq_true (show 2000<t.length+1 by omega)];rfl
   ·rw[if_neg (by omega),decide_eq_false (show ¬ 2000<t.length+1 by omega)];rfl
  ·split<;>simp
 ·rw[if_neg h0]at hn
  have h0':0<DN p ZG:=Nat.pos_of_ne_zero h0
  have hlt:DN p ZG<p.length:=aIS ZG h.rel.pos
  have hb:=(h.rel.one _ hlt).bytes
  have hs:vS o tx.size={ bE o 46 with lv:=(bE o 46).lv.modify (DN p ZG) (nL tx.size),tR:=(bE o 46).tR || decide (60<(o.lv.getD (DN p ZG) sD).bytes+tx.size) }:=by
   unfold vS;rw[hn]
  rw[hs,if_pos h0']
  refine⟨⟨hc.aLG _ tx,by simp[bE,h.nodes],fun hd=>?_⟩,rfl,?_,?_⟩
  ·show ZH ((p.modify (p.length - 1) (ZI 46)).modify (DN p ZG) (aCG tx)) 108≤8
   rw[aGB ((y6 _ _ (aCG tx) (fun _=>rfl)).trans hk1)];exact h.lists hd
  ·show ((o.tR || decide (2000<o.nodes+1)) || decide (60<(o.lv.getD (DN p ZG) sD).bytes+tx.size))=_
   rw[h.nodes,hb]
   by_cases e:2000≤t.length
   ·rw[if_pos (.inl e),decide_eq_true (show 2000<t.length+1 by omega)];simp
   ·rw[decide_eq_false (show ¬ 2000<t.length+1 by omega),Bool.or_false]
    by_cases e2:60<(p.getD (DN p ZG) root).text.size+tx.size
    ·rw[if_pos (.inr ⟨h0',e2⟩),decide_eq_true e2];rfl
    ·rw[if_neg (fun x=>x.elim e (fun y=>e2 y.2)),decide_eq_false e2];rfl
  ·split<;>simp
theorem aMX (a:Nat):rk a 95=0:=by
 have h1:EC 95 ZF=false:=by decide +kernel
 have h2:EC 95 ZK=false:=by decide +kernel
 unfold rk
 rw[h1,h2]
 simp
theorem aJ3 {l:List Lv} {k:Nat} (h:pU l k=true):rk (cH l).kind k≠0∧k≠95:=by
 have h0:rk (cH l).kind k≠0:=fun e=>by rw[aAQ (.inl e)]at h;cases h
 exact⟨h0,fun e=>by subst e;exact h0 (aMX _)⟩
theorem aI9 {α:Type} (l:List α) (i j:Nat) (f g:α→α) (hc:∀ a,f (g a)=g (f a)):(l.modify i f).modify j g=(l.modify j g).modify i f:=by
 apply List.ext_getElem?
 intro n
 simp only[List.getElem?_modify]
 cases l[n]? with
 | none=>rfl
 | some x =>
  simp only[Option.map_eq_map,Option.map_some]
  by_cases h1:i=n<;>by_cases h2:j=n<;>simp[h1,h2,hc]
theorem aEM (l:List Lv) (j:Nat) (f:Lv→Lv) (hf:∀ b,(f b).kind=b.kind∧(f b).lists=b.lists):(cH (l.modify j f)).kind=(cH l).kind∧(cH (l.modify j f)).lists=(cH l).lists:=by
 unfold cH
 rw[List.length_modify,getD_modify]
 split
 ·exact hf _
 ·exact⟨rfl,rfl⟩
theorem aKK (t:List Nd) (p:List Op) (k:Nat) (tx:ByteArray) (pl:Nat):ZE (t,p) ⟨2,k,tx,pl⟩ =
  (t++[⟨k,cJ,(pl:Int),1⟩],(if k=110 then (p.modify (p.length - 1) (ZI k)).modify (DN p FR) aCH else p.modify (p.length - 1) (ZI k))++[⟨k,cJ,t.length,0,0,cJ⟩]):=by
 have e:DN (p.modify (p.length - 1) (ZI k)) FR=DN p FR:=aHZ (y6 p _ (ZI k) (fun _=>rfl)) _
 unfold ZE
 simp only[e]
 rw[if_neg (by decide),if_pos trivial]
theorem aJA (t:List Nd) (p:List Op) (k:Nat) (tx:ByteArray) (pl:Nat) (h:aEJ p k=true):tO t p ⟨2,k,tx,pl⟩ =
  if 32<p.length∨(k=108∧8≤ZH p 108) then (pl,5) else if 2000≤t.length then (pl,4) else (0,0):=by
 unfold tO
 simp only[h]
 rw[if_neg (by decide),if_pos trivial,if_neg (by simp)]
theorem aKL (p:List Op) (x:Op) (k:Nat) (h:0<p.length):ZH (p++[x]) k=ZH p k+if x.kind=k then 1 else 0:=by
 unfold ZH
 rw[List.drop_append_of_le_length (by omega),List.filter_append,List.length_append]
 congr 1
 by_cases e:x.kind=k<;>simp[e]
theorem aHA.open {t:List Nd} {p:List Op} {o:St} (h:aHA t p o) {k:Nat} (tx:ByteArray) (pl:Nat) (hk:k<256) (h46:k≠46) (hop:aEJ p k=true) :
  aHA (ZE (t,p) ⟨2,k,tx,pl⟩).1 (ZE (t,p) ⟨2,k,tx,pl⟩).2 (lK o k)∧(lK o k).deep=(o.deep || decide ((tO t p ⟨2,k,tx,pl⟩).2=5)) ∧
   ((lK o k).deep=false→(lK o k).tR=(o.tR || decide ((tO t p ⟨2,k,tx,pl⟩).2=4)))∧((tO t p ⟨2,k,tx,pl⟩).2=0∨(tO t p ⟨2,k,tx,pl⟩).2=4∨(tO t p ⟨2,k,tx,pl⟩).2=5):=by
 have hm:pU o.lv k=true:=by rw[h.rel.opens h46];exact hop
 obtain⟨hrk,h95⟩:=aJ3 hm
 have hc:=h.rel.count hk hm
 have hlen:=h.rel.len
 have hpos:=h.rel.pos
 have hlt:=h.rel.aLH
 rw[aKK,aJA t p k tx pl hop]
 have hnl:(kG o k).lists=ZH p 108+if k=108 then 1 else 0:=by unfold kG;simp only[hlt]
 have hdeep:(lK o k).deep=(o.deep || decide (32<p.length) || decide (8<ZH p 108+if k=108 then 1 else 0)):=by
  show (o.deep || decide (32<o.lv.length) || decide (8<(kG o k).lists))=_
  rw[hnl,hlen]
 have hmuch:(lK o k).tR=(o.tR || decide (2000<t.length+1)):=by
  show (bE (bG o k) k).tR=_
  unfold bE bG
  split<;>(show (o.tR || decide (2000<o.nodes+1))=_;rw[h.nodes])
 have hd:(lK o k).deep=(o.deep || decide ((if 32<p.length∨(k=108∧8≤ZH p 108) then (pl,5) else if 2000≤t.length then (pl,4) else ((0,0):Nat × Nat)).2=5)):=by
  rw[hdeep]
  cases hd:o.deep
  ·have h8:=h.lists hd
   rw[Bool.false_or,Bool.false_or]
   by_cases e1:32<p.length
   ·rw[decide_eq_true e1,Bool.true_or,if_pos (show 32<p.length∨(k=108∧8≤ZH p 108) from .inl e1)];rfl
   ·rw[decide_eq_false e1,Bool.false_or]
    by_cases e2:k=108∧8≤ZH p 108
    ·rw[if_pos (show 32<p.length∨(k=108∧8≤ZH p 108) from .inr e2),if_pos e2.1,decide_eq_true (by omega)];rfl
    ·rw[if_neg (show ¬ (32<p.length∨(k=108∧8≤ZH p 108)) from fun x=>x.elim e1 e2)]
     have e3:¬ 8<ZH p 108+if k=108 then 1 else 0:=by
      by_cases e4:k=108
      ·rw[if_pos e4];omega
      ·rw[if_neg e4];omega
     rw[decide_eq_false e3]
     split<;>rfl
  ·simp
 refine⟨⟨?_,?_,fun hdf=>?_⟩,hd,fun hdf=>?_,?_⟩
 ·show Rel _ ((bE (bG o k) k).lv++[kG o k])
  by_cases h110:k=110
  ·subst h110
   rw[if_pos rfl]
   have htx:FQ p=true:=by
    unfold aEJ at hop
    dsimp only at hop
    by_cases e1:p.length=1
    ·rw[if_pos e1,show EC 110 ZF=false from by decide +kernel]at hop;cases hop
    ·rw[if_neg e1,if_neg (by omega)]at hop
     by_cases e2:(T4 p).kind=114
     ·rw[if_pos e2]at hop;simp at hop
     ·rw[if_neg e2]at hop
      cases ht:FQ p
      ·rw[if_pos (.inl ht)]at hop;cases hop
      ·rfl
   have hla:DN p FR=lJ o.lv:=by
    obtain⟨h0,hb⟩:=h.rel.aLC htx
    rcases hb with hb | hb
    ·exact h.rel.aHY hb h0
    ·exfalso
     have h99:(o.lv.getD (lJ o.lv) sD).kind=99:=by rw[h.rel.aFU h.rel.block.1 (by omega)];exact hb
     have hle:(cH o.lv).rank≤rk (cH o.lv).kind 110:=by
      rcases Nat.lt_or_ge (rk (cH o.lv).kind 110) (cH o.lv).rank with e | e
      ·rw[aAQ (.inr e)]at hm;cases hm
      ·exact e
     rw[aBJ hrk hle,if_neg (by decide),if_neg (by decide),if_pos rfl,h99]at hm
     simp at hm
   rw[hla]
   have hcn:=hc.aLF (lJ o.lv)
   have hlv:(bE (bG o 110) 110).lv=(o.lv.modify (o.lv.length - 1) (l5 110)).modify (lJ o.lv) K3:=by
    show ((o.lv.modify (lJ o.lv) K3).modify ((o.lv.modify (lJ o.lv) K3).length - 1) (l5 110))=_
    rw[List.length_modify]
    exact aI9 _ _ _ _ _ (fun _=>rfl)
   rw[hlv]
   have hbl:lJ ((o.lv.modify (o.lv.length - 1) (l5 110)).modify (lJ o.lv) K3)=lJ o.lv:=by
    unfold lJ
    rw[List.length_modify,List.length_modify]
    exact aF8 (fun i=>(aF7 _ _ K3 (fun _=>rfl) i).trans (aF7 _ _ (l5 110) (fun _=>rfl) i)) _
   have htk:=aEM (o.lv.modify (o.lv.length - 1) (l5 110)) (lJ o.lv) K3 (fun _=>⟨rfl,rfl⟩)
   have htk2:=aEM o.lv (o.lv.length - 1) (l5 110) (fun _=>⟨rfl,rfl⟩)
   have hp:=hcn.push 110 t.length ⟨by decide,by decide⟩ (by rw[htk.1,htk2.1];exact hrk) (fun _=>by
    rw[hbl,getD_modify,if_pos ⟨rfl,by rw[List.length_modify];exact h.rel.len▸h.rel.block.1⟩];rfl)
   rw[htk.2,htk2.2]at hp
   unfold kG
   rw[h.nodes]
   exact hp
  ·rw[if_neg h110]
   have hns:bG o k=o:=by unfold bG;rw[if_neg h110]
   rw[hns]
   have htk2:=aEM o.lv (o.lv.length - 1) (l5 k) (fun _=>⟨rfl,rfl⟩)
   have hp:=hc.push k t.length ⟨h46,h95⟩ (by rw[htk2.1];exact hrk) (fun e=>absurd e h110)
   rw[htk2.2]at hp
   unfold kG
   rw[h.nodes]
   exact hp
 ·show (bE (bG o k) k).nodes=_
  rw[List.length_append,← h.nodes]
  unfold bE bG
  split<;>rfl
 ·rw[hdeep]at hdf
  simp only[Bool.or_eq_false_iff,decide_eq_false_iff_not]at hdf
  have hq:(if k=110 then (p.modify (p.length - 1) (ZI k)).modify (DN p FR) aCH else p.modify (p.length - 1) (ZI k)).map (·.kind)=p.map (·.kind):=by
   split
   ·exact(y6 _ _ aCH (fun _=>rfl)).trans (y6 _ _ (ZI k) (fun _=>rfl))
   ·exact y6 _ _ (ZI k) (fun _=>rfl)
  rw[aKL _ _ _ (by split<;>simp[hpos]),aGB hq]
  show ZH p 108+(if k=108 then 1 else 0)≤8
  omega
 ·rw[hmuch]
  rw[hd]at hdf
  simp only[Bool.or_eq_false_iff,decide_eq_false_iff_not]at hdf
  have e1:¬ (32<p.length∨(k=108∧8≤ZH p 108)):=fun e=>hdf.2 (by rw[if_pos e])
  rw[if_neg e1]
  by_cases e:2000≤t.length
  ·rw[if_pos e,decide_eq_true (show 2000<t.length+1 by omega)];rfl
  ·rw[if_neg e,decide_eq_false (show ¬ 2000<t.length+1 by omega)];rfl
 ·split
  ·simp
  ·split<;>simp
theorem aHA.close {t:List Nd} {p:List Op} {o:St} (h:aHA t p o) (nm:Nat) (tx:ByteArray) (pl:Nat) :
  (jA o=true↔(tO t p ⟨3,nm,tx,pl⟩).2=0)∧((tO t p ⟨3,nm,tx,pl⟩).2=0∨tO t p ⟨3,nm,tx,pl⟩=(pl,2)) ∧
   (jA o=true→aHA (ZE (t,p) ⟨3,nm,tx,pl⟩).1 (ZE (t,p) ⟨3,nm,tx,pl⟩).2 (gC o)):=by
 have hlen:=h.rel.len
 have hpos:=h.rel.pos
 have ht:=h.rel.top
 have he:tO t p ⟨3,nm,tx,pl⟩=if p.length=1∨(EC (T4 p).kind aE0=true∧(T4 p).kids.size=0) then (pl,2)
   else if (T4 p).kind=114∧0<(p.getD (p.length - 2) root).first∧(p.getD (p.length - 2) root).first≠(T4 p).kids.size then (pl,2) else (0,0):=by
  unfold tO
  simp only[]
  rw[if_neg (by decide),if_neg (by decide)]
 have key:jA o=true↔(tO t p ⟨3,nm,tx,pl⟩).2=0:=by
  rw[he]
  unfold jA
  rw[← hlen]
  by_cases h1:p.length=1
  ·rw[if_pos (by omega),if_pos (.inl h1)];simp
  ·obtain⟨a,_,_⟩:=h.rel.aG5 h1
   rw[if_neg (by omega),a,ht.parts]
   by_cases hl:(T4 p).kind=108∨(T4 p).kind=116
   ·rw[if_pos hl]
    have h2:EC (T4 p).kind aE0=true:=aIM.2 (by omega)
    by_cases h0:(T4 p).kids.size=0
    ·rw[if_pos (.inr ⟨h2,h0⟩),h0];simp
    ·rw[if_neg (by omega),if_neg (by omega),decide_eq_true (by omega)]
     simp
   ·rw[if_neg hl]
    by_cases hr:(T4 p).kind=114
    ·rw[if_pos hr]
     have h2:EC (T4 p).kind aE0=true:=aIM.2 (by omega)
     have hco:=(h.rel.one (p.length - 2) (by omega)).oQ
     rw[hco]
     by_cases h0:(T4 p).kids.size=0
     ·rw[if_pos (.inr ⟨h2,h0⟩),h0];simp
     ·rw[if_neg (by omega),decide_eq_true (by omega),Bool.true_and,Bool.or_eq_true,beq_iff_eq,beq_iff_eq]
      by_cases hf:(p.getD (p.length - 2) root).first=0∨(p.getD (p.length - 2) root).first=(T4 p).kids.size
      ·rw[if_neg (by omega)];exact⟨fun _=>rfl,fun _=>hf⟩
      ·rw[if_pos (by omega)];exact⟨fun x=>absurd x hf,fun x=>by cases x⟩
    ·rw[if_neg hr,if_neg (fun e=>e.elim h1 (fun x=>by have:=aIM.1 x.1;omega)),if_neg (fun e=>hr e.1)]
     simp
 refine⟨key,?_,fun hb=>?_⟩
 ·rw[he];split
  ·exact .inr rfl
  ·split
   ·exact .inr rfl
   ·exact .inl rfl
 ·have h1:p.length≠1:=fun e=>by
   unfold jA at hb
   rw[← hlen,e]at hb;simp at hb
  obtain⟨a,_,_⟩:=h.rel.aG5 h1
  have hco:=(h.rel.one (p.length - 2) (by omega)).oQ
  have hs:ZE (t,p) ⟨3,nm,tx,pl⟩=(t.modify (T4 p).spot (aU ((t.length:Int) - ((T4 p).spot:Int))),(if (T4 p).kind=114∧(p.getD (p.length - 1 - 1) root).first=0 then p.modify (p.length - 1 - 1) (ZJ (T4 p).kids.size) else p).take (p.length - 1)):=by
   unfold ZE
   simp only[]
   rw[if_neg (by decide),if_neg (by decide)]
  rw[hs]
  have htm:∀ {α:Type} (l:List α) (i m:Nat) (f:α→α),(l.take m).modify i f=(l.modify i f).take m:=fun l i m f=>by
   apply List.ext_getElem?
   intro n
   rw[List.getElem?_modify,List.getElem?_take,List.getElem?_take,List.getElem?_modify]
   by_cases q1:n<m<;>by_cases q2:i=n<;>simp[q1,q2]
  refine⟨?_,by simp only[List.length_modify];exact h.nodes,fun hd=>?_⟩
  ·show Rel _ (gC o).lv
   unfold gC
   simp only[]
   rw[a,← hlen,hco,show p.length - 1 - 1=p.length - 2 from by omega,ht.parts]
   by_cases hc:(T4 p).kind=114∧(p.getD (p.length - 2) root).first=0
   ·rw[if_pos hc,if_pos hc,htm]
    exact(h.rel.first _ _).take (by omega) (by simp)
   ·rw[if_neg hc,if_neg hc]
    exact h.rel.take (by omega) (by omega)
  ·have h8:=h.lists hd
   refine Nat.le_trans ?_ h8
   have hq:(if (T4 p).kind=114∧(p.getD (p.length - 1 - 1) root).first=0 then p.modify (p.length - 1 - 1) (ZJ (T4 p).kids.size) else p).map (·.kind)=p.map (·.kind):=by
    split
    ·exact y6 _ _ (ZJ _) (fun _=>rfl)
    ·rfl
   rw[← aGB hq 108]
   generalize (if (T4 p).kind=114∧(p.getD (p.length - 1 - 1) root).first=0 then p.modify (p.length - 1 - 1) (ZJ (T4 p).kids.size) else p)=q
   unfold ZH
   rw[List.drop_take]
   exact((List.take_sublist _ _).filter _).length_le
end Go.Proofs.YthbigkoihpgcfaaGreatDoor.Tr
