/-
  Put together: TsP, TsQ, TsR, TsS, TsT.
-/
import Derived.Test.YtmldpkigfhoalaaGreatDoorVb
import Derived.Test.YtmldpkigfhoalaaGreatDoorVc
namespace Go.Proofs.YtmldpkigfhoalaaGreatDoor.Tr
open Go.RowKit
theorem inK_mem {k:Nat} {s:ByteArray}:inK k s=true↔k ∈ Lx.bytesN s:=by unfold inK;rw [List.contains_iff_mem]
theorem flow_ne:∀ k ∈ Lx.bytesN flowS,k≠95∧k≠105∧k≠108∧k≠116∧k≠114∧k≠0∧k≠46:=by decide +kernel
theorem rk_flow {a:Nat} (b:Nat) (h:inK a flowS=true):rk a b=if inK b flowIn then 1 else 0:=by
 have:=flow_ne a (inK_mem.1 h)
 unfold rk
 rw [if_neg this.1,if_pos h]
theorem rk_i (b:Nat):rk 105 b=if inK b flowIn then 1 else if b=108 then 2 else 0:=by
 unfold rk;rw [if_neg (by decide),if_neg (by decide +kernel),if_neg (by decide),if_pos rfl]
theorem rk_l (b:Nat):rk 108 b=if b=105 then 1 else 0:=by
 unfold rk;rw [if_neg (by decide),if_neg (by decide +kernel),if_pos rfl]
theorem rk_t (b:Nat):rk 116 b=if b=114 then 1 else 0:=by
 unfold rk;rw [if_neg (by decide),if_neg (by decide +kernel),if_neg (by decide),if_neg (by decide),if_pos rfl]
theorem rk_r (b:Nat):rk 114 b=if b=99 then 1 else 0:=by
 unfold rk;rw [if_neg (by decide),if_neg (by decide +kernel),if_neg (by decide),if_neg (by decide),if_neg (by decide),if_pos rfl]
theorem rk_root (b:Nat):rk 95 b=if inK b blockS then 1 else 0:=by unfold rk;rw [if_pos rfl]
theorem rk_no {a:Nat} (b:Nat) (h0:a≠95) (h1:inK a flowS=false) (h2:a≠105) (h3:a≠108) (h4:a≠116) (h5:a≠114):rk a b=0:=by
 unfold rk;rw [if_neg h0,if_neg (by rw [h1];simp),if_neg h3,if_neg h2,if_neg h4,if_neg h5]
theorem flowIn_mem {b:Nat}:inK b flowIn=true↔b=46∨b=101∨b=115∨b=110:=by
 rw [inK_mem]
 show b ∈ [46,101,115,110]↔_
 simp
theorem esn_mem {b:Nat}:inK b esnS=true↔b=101∨b=115∨b=110:=by
 rw [inK_mem]
 show b ∈ [101,115,110]↔_
 simp
theorem inT_iff {b:Nat}:inT b=true↔b=101∨b=115∨b=110:=by
 unfold inT;simp [or_assoc]
theorem around_mem {b:Nat}:inK b aroundS=true↔b=49∨b=50∨b=51∨b=112∨b=105:=by
 rw [inK_mem]
 show b ∈ [49,50,51,112,105]↔_
 simp
theorem flow_mem {b:Nat}:inK b flowS=true↔b=49∨b=50∨b=51∨b=112∨b=99∨b=110∨b=101∨b=115:=by
 rw [inK_mem]
 show b ∈ [49,50,51,112,99,110,101,115]↔_
 simp
theorem block_mem {b:Nat}:inK b blockS=true↔b=49∨b=50∨b=51∨b=112∨b=108∨b=116∨b=107:=by
 rw [inK_mem]
 show b ∈ [49,50,51,112,108,116,107]↔_
 simp
theorem ltr_mem {b:Nat}:inK b ltrS=true↔b=108∨b=116∨b=114:=by
 rw [inK_mem]
 show b ∈ [108,116,114]↔_
 simp
theorem note_mem {b:Nat}:inK b noteS=true↔b=110:=by
 rw [inK_mem]
 show b ∈ [110]↔_
 simp
theorem rk_esn {a b:Nat} (ha:inT a=true) (h:rk a b≠0) (hb:b≠46):inT b=true:=by
 have hf:inK a flowS=true:=by rw [flow_mem];rw [inT_iff] at ha;omega
 rw [rk_flow b hf] at h
 have h1:inK b flowIn=true:=by
  cases hx:inK b flowIn
  ·rw [hx] at h;exact absurd rfl h
  ·rfl
 rw [flowIn_mem] at h1
 rw [inT_iff];omega
theorem rk_c {b:Nat} (h:rk 99 b≠0) (hb:b≠46):inT b=true:=by
 have hf:inK 99 flowS=true:=by decide +kernel
 rw [rk_flow b hf] at h
 have h1:inK b flowIn=true:=by
  cases hx:inK b flowIn
  ·rw [hx] at h;exact absurd rfl h
  ·rfl
 rw [flowIn_mem] at h1
 rw [inT_iff];omega
theorem rk_into {a b:Nat} (hb:inT b=true) (h:rk a b≠0):inK a flowS=true∨a=105:=by
 rw [inT_iff] at hb
 by_cases h1:inK a flowS=true
 ·exact .inl h1
 ·by_cases h2:a=105
  ·exact .inr h2
  ·exfalso
   by_cases h0:a=95
   ·subst h0;rw [rk_root] at h
    have:inK b blockS=false:=by rw [← Bool.not_eq_true,block_mem];omega
    rw [this] at h;exact h rfl
   by_cases h3:a=108
   ·subst h3;rw [rk_l,if_neg (by omega)] at h;exact h rfl
   by_cases h4:a=116
   ·subst h4;rw [rk_t,if_neg (by omega)] at h;exact h rfl
   by_cases h5:a=114
   ·subst h5;rw [rk_r,if_neg (by omega)] at h;exact h rfl
   exact h (rk_no b h0 (by simpa using h1) h2 h3 h4 h5)
section
variable {p:List Op} {l:List Lv}
theorem Rel.kindL (h:Rel p l) {i:Nat} (hi:i<p.length) (h0:i≠0):(l.getD i lv0).kind=(p.getD i root).kind:=by
 have:=(h.one i hi).kind
 rw [if_neg h0] at this;exact this
theorem Rel.kind0 (h:Rel p l):(l.getD 0 lv0).kind=95:=by
 have:=(h.one 0 h.pos).kind
 rw [if_pos rfl] at this;exact this
theorem Rel.nextT (h:Rel p l) {i:Nat} (hi:i+1<p.length) (ht:inT (l.getD i lv0).kind=true):inT (l.getD (i+1) lv0).kind=true:=by
 obtain ⟨h1,_,h3⟩:=h.no105 i hi
 exact rk_esn ht h3 (by rw [h.kindL hi (by omega)];exact h1)
theorem Rel.tailT (h:Rel p l) {i:Nat} (ht:inT (l.getD i lv0).kind=true):∀ d,i+d<p.length→inT (l.getD (i+d) lv0).kind=true
 | 0,_=>ht
 | d+1,hd=>h.nextT (i:=i+d) hd (h.tailT ht d (by omega))
theorem Rel.upT (h:Rel p l) {i j:Nat} (hij:i≤j) (hj:j<p.length) (ht:inT (l.getD i lv0).kind=true):inT (l.getD j lv0).kind=true:=by
 have:=h.tailT ht (j - i) (by omega)
 rwa [show i+(j - i)=j from by omega] at this
theorem within_max {k:Nat}:∀ n i,withinF l k n=some i↔i<n∧(l.getD i lv0).kind=k∧(∀ j,i≤j→j<n→inT (l.getD j lv0).kind=true)∧∀ j,i<j→j<n→(l.getD j lv0).kind≠k
 | 0,i=>by unfold withinF;simp
 | n+1,i=>by
  unfold withinF
  by_cases ht:inT (l.getD n lv0).kind=true
  ·rw [if_pos ht]
   by_cases hk:(l.getD n lv0).kind=k
   ·rw [if_pos hk]
    constructor
    ·intro e;cases e
     exact ⟨by omega,hk,fun j h1 h2=>by rw [show j=n from by omega];exact ht,fun j h1 h2=>by omega⟩
    ·rintro ⟨h1,h2,h3,h4⟩
     rcases Nat.lt_or_ge i n with h5 | h5
     ·exact absurd hk (h4 n h5 (by omega))
     ·rw [show i=n from by omega]
   ·rw [if_neg hk,within_max n i]
    constructor
    ·rintro ⟨h1,h2,h3,h4⟩
     exact ⟨by omega,h2,fun j a b=>by rcases Nat.lt_or_ge j n with c | c;exact h3 j a c;rw [show j=n from by omega];exact ht,fun j a b=>by rcases Nat.lt_or_ge j n with c | c;exact h4 j a c;rw [show j=n from by omega];exact hk⟩
    ·rintro ⟨h1,h2,h3,h4⟩
     have:i≠n:=fun e=>hk (by rw [← e];exact h2)
     exact ⟨by omega,h2,fun j a b=>h3 j a (by omega),fun j a b=>h4 j a (by omega)⟩
  ·rw [if_neg ht]
   constructor
   ·intro e;cases e
   ·rintro ⟨h1,h2,h3,h4⟩
    exact absurd (h3 n (by omega) (by omega)) ht
theorem Rel.within_some (h:Rel p l) {k i:Nat} (hk:inT k=true):withinL l k=some i↔i<p.length∧(l.getD i lv0).kind=k∧∀ j,i<j→j<p.length→(l.getD j lv0).kind≠k:=by
 unfold withinL
 rw [within_max,← h.len]
 constructor
 ·rintro ⟨h1,h2,_,h4⟩;exact ⟨h1,h2,h4⟩
 ·rintro ⟨h1,h2,h4⟩;exact ⟨h1,h2,fun j a b=>h.upT a b (by rw [h2];exact hk),h4⟩
theorem max_ex {P:Nat→Prop}:∀ n,(∃ i,i<n∧P i)→∃ i,i<n∧P i∧∀ j,i<j→j<n→¬ P j
 | 0,⟨i,h,_⟩=>absurd h (by omega)
 | n+1,h=>by
  by_cases hn:P n
  ·exact ⟨n,by omega,hn,fun j a b=>by omega⟩
  ·obtain ⟨i,h1,h2⟩:=h
   have h3:i≠n:=fun e=>hn (by rw [← e];exact h2)
   obtain ⟨m,a,b,c⟩:=max_ex n ⟨i,by omega,h2⟩
   exact ⟨m,by omega,b,fun j x y=>by rcases Nat.lt_or_ge j n with d | d;exact c j x d;rw [show j=n from by omega];exact hn⟩
theorem Rel.within_none (h:Rel p l) {k:Nat} (hk:inT k=true):withinL l k=none↔∀ i,i<p.length→(l.getD i lv0).kind≠k:=by
 constructor
 ·intro hn i hi hc
  obtain ⟨m,a,b,c⟩:=max_ex (P:=fun i=>(l.getD i lv0).kind=k) p.length ⟨i,hi,hc⟩
  rw [(h.within_some hk).2 ⟨a,b,c⟩] at hn
  cases hn
 ·intro hn
  cases hw:withinL l k with
  | none=>rfl
  | some i =>
   obtain ⟨a,b,_⟩:=(h.within_some hk).1 hw
   exact absurd b (hn i a)
theorem lastF_max (p:List Op) (ks:ByteArray):∀ n i,0<i→(lastF p ks n=i↔i<n∧inK (p.getD i root).kind ks=true∧∀ j,i<j→j<n→inK (p.getD j root).kind ks=false)
 | 0,i,hi=>by unfold lastF;constructor;intro e;omega;rintro ⟨a,_⟩;omega
 | n+1,i,hi=>by
  unfold lastF
  by_cases h0:n=0
  ·rw [if_pos h0];constructor;intro e;omega;rintro ⟨a,_⟩;omega
  ·rw [if_neg h0]
   by_cases hk:inK (p.getD n root).kind ks=true
   ·rw [if_pos hk]
    constructor
    ·intro e;subst e;exact ⟨by omega,hk,fun j a b=>by omega⟩
    ·rintro ⟨a,b,c⟩
     rcases Nat.lt_or_ge i n with d | d
     ·have:=c n d (by omega);rw [hk] at this;cases this
     ·omega
   ·rw [if_neg hk,lastF_max p ks n i hi]
    constructor
    ·rintro ⟨a,b,c⟩
     exact ⟨by omega,b,fun j x y=>by rcases Nat.lt_or_ge j n with d | d;exact c j x d;rw [show j=n from by omega];simpa using hk⟩
    ·rintro ⟨a,b,c⟩
     have:i≠n:=fun e=>hk (by rw [← e];exact b)
     exact ⟨by omega,b,fun j x y=>c j x (by omega)⟩
theorem lastF_zero (p:List Op) (ks:ByteArray) (n:Nat):lastF p ks n=0↔∀ i,0<i→i<n→inK (p.getD i root).kind ks=false:=by
 constructor
 ·intro h i h0 hi
  cases hk:inK (p.getD i root).kind ks
  ·rfl
  ·obtain ⟨m,a,⟨b,b'⟩,c⟩:=max_ex (P:=fun i=>0<i∧inK (p.getD i root).kind ks=true) n ⟨i,hi,h0,hk⟩
   rw [(lastF_max p ks n m b).2 ⟨a,b',fun j x y=>by
    cases hj:inK (p.getD j root).kind ks
    ·rfl
    ·exact absurd ⟨by omega,hj⟩ (c j x y)⟩] at h
   omega
 ·intro h
  rcases Nat.eq_zero_or_pos (lastF p ks n) with e | e
  ·exact e
  ·obtain ⟨a,b,_⟩:=(lastF_max p ks n _ e).1 rfl
   rw [h _ e a] at b;cases b
theorem Rel.note (h:Rel p l):withinL l 110=if lastP p noteS=0 then none else some (lastP p noteS):=by
 by_cases h0:lastP p noteS=0
 ·rw [if_pos h0,h.within_none (by rfl)]
  intro i hi hc
  rcases Nat.eq_zero_or_pos i with e | e
  ·subst e;rw [h.kind0] at hc;omega
  ·have:=(lastF_zero p noteS p.length).1 h0 i e hi
   rw [h.kindL hi (by omega)] at hc
   rw [hc] at this
   revert this;decide +kernel
 ·rw [if_neg h0,h.within_some (by rfl)]
  obtain ⟨a,b,c⟩:=(lastF_max p noteS p.length _ (Nat.pos_of_ne_zero h0)).1 rfl
  refine ⟨a,?_,fun j x y=>?_⟩
  ·rw [h.kindL a h0];exact note_mem.1 b
  ·rw [h.kindL y (by omega)]
   intro e
   have:=c j x y
   rw [note_mem.2 e] at this;cases this
theorem Rel.many (h:Rel p l) {k:Nat} (hk:inT k=true):(withinL l k).isNone=decide (manyP p k=0):=by
 have key:manyP p k=0↔∀ i,0<i→i<p.length→(p.getD i root).kind≠k:=by
  unfold manyP
  rw [List.length_eq_zero_iff,List.filter_eq_nil_iff]
  constructor
  ·intro hh i h0 hi e
   have hm:p.getD i root ∈ p.drop 1:=by
    rw [List.mem_iff_getElem?]
    refine ⟨i - 1,?_⟩
    rw [List.getElem?_drop,show 1+(i - 1)=i from by omega,List.getD_eq_getElem?_getD,List.getElem?_eq_getElem hi];rfl
   exact hh _ hm (by rw [e];simp)
  ·intro hh o ho hc
   obtain ⟨j,hj⟩:=List.mem_iff_getElem?.1 ho
   rw [List.getElem?_drop] at hj
   have hlt:=(List.getElem?_eq_some_iff.1 hj).1
   refine hh (1+j) (by omega) hlt ?_
   rw [List.getD_eq_getElem?_getD,hj]
   simpa using hc
 have k95:k≠95:=fun e=>by subst e;cases hk
 cases hw:withinL l k with
 | none =>
  have:=(h.within_none hk).1 hw
  have h2:manyP p k=0:=key.2 fun i h0 hi=>by rw [← h.kindL hi (by omega)];exact this i hi
  rw [h2];rfl
 | some i =>
  obtain ⟨a,b,_⟩:=(h.within_some hk).1 hw
  have h2:¬ manyP p k=0:=fun e=>by
   rcases Nat.eq_zero_or_pos i with z | z
   ·subst z;rw [h.kind0] at b;exact k95 b.symm
   ·exact key.1 e i z a (by rw [← h.kindL a (by omega)];exact b)
  rw [decide_eq_false h2];rfl
theorem block_max:∀ n,0<n→inT (l.getD 0 lv0).kind=false→blockF l n<n∧inT (l.getD (blockF l n) lv0).kind=false∧∀ j,blockF l n<j→j<n→inT (l.getD j lv0).kind=true
 | 0,h,_=>absurd h (by omega)
 | n+1,_,h0=>by
  unfold blockF
  by_cases ht:inT (l.getD n lv0).kind=true
  ·rw [if_pos ht]
   have hn:0<n:=by
    rcases Nat.eq_zero_or_pos n with e | e
    ·subst e;rw [h0] at ht;cases ht
    ·exact e
   obtain ⟨a,b,c⟩:=block_max n hn h0
   exact ⟨by omega,b,fun j x y=>by rcases Nat.lt_or_ge j n with d | d;exact c j x d;rw [show j=n from by omega];exact ht⟩
  ·rw [if_neg ht]
   exact ⟨by omega,by simpa using ht,fun j x y=>by omega⟩
theorem Rel.block (h:Rel p l):blockL l<p.length∧inT (l.getD (blockL l) lv0).kind=false∧∀ j,blockL l<j→j<p.length→inT (l.getD j lv0).kind=true:=by
 have:=block_max (l:=l) l.length (by rw [← h.len];exact h.pos) (by rw [h.kind0];rfl)
 rw [← h.len] at this
 unfold blockL
 rw [← h.len]
 exact this
end
end Go.Proofs.YtmldpkigfhoalaaGreatDoor.Tr
namespace Go.Proofs.YtmldpkigfhoalaaGreatDoor.Tr
open Go.RowKit
section
variable {p:List Op} {l:List Lv}
theorem Rel.top (h:Rel p l):RelAt (p.length - 1) (topP p) (topL l):=by
 rw [topP_getD p h.pos]
 unfold topL
 rw [← h.len]
 exact h.one _ (by have:=h.pos;omega)
theorem rankO_le (a:Op) (h:a.kind≠105):rankO a≤1:=by
 unfold rankO
 split
 ·omega
 ·rw [if_neg (fun e=>h e.1)];omega
theorem rankO_i {a:Op} (h:a.kind=105):rankO a=2↔inK 108 a.kids=true:=by
 unfold rankO
 by_cases h0:a.kids.size=0
 ·rw [if_pos h0]
  constructor
  ·intro e;omega
  ·intro e
   rw [inK_mem] at e
   have:=List.length_pos_of_mem e
   rw [Lx.bytesN_len] at this;omega
 ·rw [if_neg h0]
  by_cases h1:inK 108 a.kids=true
  ·rw [if_pos ⟨h,h1⟩];simp [h1]
  ·rw [if_neg (fun e=>h1 e.2)];simp [h1]
theorem rankO_le2 (a:Op):rankO a≤2:=by
 unfold rankO
 split
 ·omega
 ·split<;>omega
theorem may_plain {l:List Lv} {k:Nat} (h1:rk (topL l).kind k≠0) (h2:(topL l).rank≤rk (topL l).kind k):mayL l k =
  if k=99 then decide ((topL l).parts<8) else if k=101∨k=115 then (withinL l k).isNone else if k=110 then decide ((l.getD (blockL l) lv0).kind≠99) && !(l.getD (blockL l) lv0).noted else true:=by
 unfold mayL
 rw [if_neg (by omega)]
theorem may_not {l:List Lv} {k:Nat} (h:rk (topL l).kind k=0∨rk (topL l).kind k<(topL l).rank):mayL l k=false:=by
 unfold mayL
 rw [if_pos h]
theorem Rel.topKind (h:Rel p l) (h1:p.length≠1):(topL l).kind=(topP p).kind∧(topP p).kind≠95∧(topP p).kind≠46:=by
 have h0:=h.pos
 have ht:=h.top
 have hk:=ht.kind
 rw [if_neg (by omega)] at hk
 obtain ⟨a,b,_⟩:=h.no105 (p.length - 2) (by omega)
 rw [show p.length - 2+1=p.length - 1 from by omega,← topP_getD p h0] at a b
 exact ⟨hk,b,a⟩
theorem Rel.topKind1 (h:Rel p l) (h1:p.length=1):(topL l).kind=95∧(topP p).kind=0:=by
 have hk:=h.top.kind
 rw [if_pos (by omega)] at hk
 refine ⟨hk,?_⟩
 rw [topP_getD p h.pos,h1];exact h.root0
theorem texts_eq (p:List Op):textsP p=(inK (topP p).kind flowS || ((topP p).kind==105 && !inK 108 (topP p).kids)):=rfl
theorem noFlow:inK 0 flowS=false∧inK 95 flowS=false∧inK 108 flowS=false∧inK 116 flowS=false:=by decide +kernel
theorem texts_no {p:List Op} {q:Nat} (hq:(topP p).kind=q) (hf:inK q flowS=false) (hi:q≠105):textsP p=false:=by
 rw [texts_eq,hq,hf,show (q==105)=false from beq_eq_false_iff_ne.2 hi];rfl
theorem Rel.texts (h:Rel p l):mayL l 46=textsP p:=by
 rw [texts_eq]
 have hf46:inK 46 flowIn=true:=by decide +kernel
 by_cases h1:p.length=1
 ·obtain ⟨a,b⟩:=h.topKind1 h1
  rw [may_not (.inl (by rw [a,rk_root];decide +kernel)),← texts_eq]
  exact (texts_no b noFlow.1 (by decide)).symm
 ·obtain ⟨a,b,c⟩:=h.topKind h1
  have hr:=h.top.rank
  by_cases hf:inK (topP p).kind flowS=true
  ·have hq:=flow_ne _ (inK_mem.1 hf)
   have hrk:rk (topL l).kind 46=1:=by rw [a,rk_flow 46 hf,if_pos hf46]
   rw [may_plain (by omega) (by rw [hrk,hr];exact rankO_le _ hq.2.1),hf]
   rfl
  ·rw [Bool.not_eq_true] at hf
   rw [hf,Bool.false_or]
   by_cases hi:(topP p).kind=105
   ·have hrk:rk (topL l).kind 46=1:=by rw [a,hi,rk_i,if_pos hf46]
    have h2:=rankO_i hi
    have hle:=rankO_le2 (topP p)
    rw [hi]
    by_cases h108:inK 108 (topP p).kids=true
    ·rw [may_not (.inr (by rw [hrk,hr,h2.2 h108];omega)),h108];rfl
    ·rw [may_plain (by omega) (by rw [hrk,hr];have:rankO (topP p)≠2:=fun e=>h108 (h2.1 e);omega)]
     rw [Bool.not_eq_true] at h108
     rw [h108];rfl
   ·rw [show ((topP p).kind==105)=false from beq_eq_false_iff_ne.2 hi,Bool.false_and]
    refine may_not (.inl ?_)
    rw [a]
    by_cases q3:(topP p).kind=108
    ·rw [q3,rk_l,if_neg (by omega)]
    by_cases q4:(topP p).kind=116
    ·rw [q4,rk_t,if_neg (by omega)]
    by_cases q5:(topP p).kind=114
    ·rw [q5,rk_r,if_neg (by omega)]
    exact rk_no 46 b hf hi q3 q4 q5
theorem Rel.around (h:Rel p l) (ht:textsP p=true):0<blockL l∧(inK (p.getD (blockL l) root).kind aroundS=true∨(p.getD (blockL l) root).kind=99):=by
 obtain ⟨a,b,c⟩:=h.block
 have key:inK (l.getD (blockL l) lv0).kind flowS=true∨(l.getD (blockL l) lv0).kind=105:=by
  by_cases he:blockL l+1<p.length
  ·obtain ⟨h1,h2,h3⟩:=h.no105 _ he
   exact rk_into (c _ (by omega) he) h3
  ·have h4:blockL l=p.length - 1:=by omega
   by_cases h1:p.length=1
   ·rw [texts_no (h.topKind1 h1).2 noFlow.1 (by decide)] at ht
    cases ht
   ·have hk:=(h.topKind h1).1
    unfold topL at hk
    rw [← h.len] at hk
    rw [h4,hk]
    rw [texts_eq,Bool.or_eq_true,Bool.and_eq_true,beq_iff_eq] at ht
    exact ht.imp id (fun e=>e.1)
 have h0:0<blockL l:=by
  rcases Nat.eq_zero_or_pos (blockL l) with e | e
  ·rw [e,h.kind0] at key
   rcases key with k | k
   ·rw [noFlow.2.1] at k;cases k
   ·omega
  ·exact e
 refine ⟨h0,?_⟩
 rw [h.kindL a (by omega)] at key b
 rw [around_mem]
 rw [flow_mem] at key
 have hb:¬ ((p.getD (blockL l) root).kind=101∨(p.getD (blockL l) root).kind=115∨(p.getD (blockL l) root).kind=110):=fun e=>by rw [inT_iff.2 e] at b;cases b
 omega
theorem Rel.lastAround (h:Rel p l) (hc:inK (p.getD (blockL l) root).kind aroundS=true) (h0:0<blockL l):lastP p aroundS=blockL l:=by
 obtain ⟨a,b,c⟩:=h.block
 refine (lastF_max p aroundS p.length _ h0).2 ⟨a,hc,fun j x y=>?_⟩
 have:=c j x y
 rw [h.kindL y (by omega),inT_iff] at this
 rw [← Bool.not_eq_true,around_mem]
 omega
theorem many_pos {p:List Op} {k i:Nat} (h0:0<i) (hi:i<p.length) (hk:(p.getD i root).kind=k):0<manyP p k:=by
 unfold manyP
 rw [List.length_pos_iff_exists_mem]
 refine ⟨p.getD i root,List.mem_filter.2 ⟨?_,by rw [hk];simp⟩⟩
 rw [List.mem_iff_getElem?]
 refine ⟨i - 1,?_⟩
 rw [List.getElem?_drop,show 1+(i - 1)=i from by omega,List.getD_eq_getElem?_getD,List.getElem?_eq_getElem hi];rfl
theorem many_zero {p:List Op} {k:Nat} (h:∀ i,0<i→i<p.length→(p.getD i root).kind≠k):manyP p k=0:=by
 unfold manyP
 rw [List.length_eq_zero_iff,List.filter_eq_nil_iff]
 intro o ho hc
 obtain ⟨j,hj⟩:=List.mem_iff_getElem?.1 ho
 rw [List.getElem?_drop] at hj
 have hlt:=(List.getElem?_eq_some_iff.1 hj).1
 refine h (1+j) (by omega) hlt ?_
 rw [List.getD_eq_getElem?_getD,hj]
 simpa using hc
theorem Rel.noCell (h:Rel p l) (hb:(l.getD (blockL l) lv0).kind≠99):manyP p 99=0:=by
 refine many_zero fun i h0 hi hk=>?_
 obtain ⟨a,b,c⟩:=h.block
 have hkl:(l.getD i lv0).kind=99:=by rw [h.kindL hi (by omega)];exact hk
 have hle:i≤blockL l:=by
  rcases Nat.lt_or_ge (blockL l) i with e | e
  ·have:=c i e hi
   rw [hkl] at this;cases this
  ·exact e
 have hlt:i<blockL l:=by
  rcases Nat.lt_or_ge i (blockL l) with e | e
  ·exact e
  ·exact absurd (by rw [show blockL l=i from by omega];exact hkl) hb
 obtain ⟨h1,_,h3⟩:=h.no105 i (by omega)
 rw [hkl] at h3
 have hT:=rk_c h3 (by rw [h.kindL (by omega) (by omega)];exact h1)
 have:=h.upT (show i+1≤blockL l from hlt) a hT
 rw [b] at this;cases this
theorem blockF_stop {l:List Lv} {B:Nat} (hB:inT (l.getD B lv0).kind=false):∀ n,B<n→(∀ j,B<j→j<n→inT (l.getD j lv0).kind=true)→blockF l n=B
 | 0,h,_=>absurd h (by omega)
 | n+1,h,hT=>by
  unfold blockF
  by_cases e:n=B
  ·subst e;rw [if_neg (by rw [hB];simp)]
  ·rw [if_pos (hT n (by omega) (by omega))]
   exact blockF_stop hB n (by omega) (fun j a b=>hT j a (by omega))
theorem Rel.noteMay (h:Rel p l) (ht:textsP p=true):(decide ((l.getD (blockL l) lv0).kind≠99) && !(l.getD (blockL l) lv0).noted) =
  (decide (manyP p 110=0) && decide (manyP p 99=0∧0<lastP p aroundS∧(p.getD (lastP p aroundS) root).notes=0)):=by
 obtain ⟨a,b,c⟩:=h.block
 obtain ⟨h0,hk⟩:=h.around ht
 have hkl:=h.kindL a (by omega)
 have hnt:=(h.one _ a).noted
 rcases hk with hk | hk
 ·have hla:=h.lastAround hk h0
  have hne:(l.getD (blockL l) lv0).kind≠99:=by rw [hkl];rw [around_mem] at hk;omega
  rw [decide_eq_true hne,Bool.true_and,h.noCell hne,hla,hnt]
  by_cases hn:(p.getD (blockL l) root).notes=0
  ·rw [hn]
   have hm:manyP p 110=0:=by
    refine many_zero fun i x y z=>?_
    have hzl:(l.getD i lv0).kind=110:=by rw [h.kindL y (by omega)];exact z
    have h3:=h.notes i y hzl
    have hlt:blockL l<i:=by
     rcases Nat.lt_or_ge (blockL l) i with e | e
     ·exact e
     ·have:=h.upT e a (by rw [hzl];rfl)
      rw [b] at this;cases this
    rw [blockF_stop b i hlt (fun j x' y'=>c j x' (by omega)),hnt,hn] at h3
    cases h3
   rw [hm]
   simp [h0]
  ·rw [decide_eq_true (show 0<(p.getD (blockL l) root).notes by omega),decide_eq_false (p:=0=0∧0<blockL l∧(p.getD (blockL l) root).notes=0) (fun e=>hn e.2.2),Bool.and_false];rfl
 ·have h99:(l.getD (blockL l) lv0).kind=99:=by rw [hkl];exact hk
  have hm:=many_pos h0 a hk
  rw [h99]
  simp
  intro _ hc
  omega
theorem Rel.opens (h:Rel p l) {k:Nat} (hk:k≠46):mayL l k=opensP p k:=by
 unfold opensP
 dsimp only
 by_cases h1:p.length=1
 ·rw [if_pos h1]
  obtain ⟨a,b⟩:=h.topKind1 h1
  cases hb:inK k blockS
  ·exact may_not (.inl (by rw [a,rk_root,hb];rfl))
  ·have hr:=h.top.rank
   have hle:=rankO_le (topP p) (by rw [b];decide)
   have hb':=block_mem.1 hb
   rw [may_plain (by rw [a,rk_root,hb];simp) (by rw [a,rk_root,hb,hr];exact hle),if_neg (by omega),if_neg (by omega),if_neg (by omega)]
 ·rw [if_neg h1]
  obtain ⟨a,b,c⟩:=h.topKind h1
  have hr:=h.top.rank
  have hpt:=h.top.parts
  have hle2:=rankO_le2 (topP p)
  have htx:=h.texts
  -- where a text may stand, e, s or n
  have esn:textsP p=true→inK k esnS=true→rk (topL l).kind k=1→(topL l).rank≤1 →
    mayL l k=if textsP p=false∨inK k esnS=false∨0<manyP p k then false else if k≠110 then true else decide (manyP p 99=0∧0<lastP p aroundS∧(p.getD (lastP p aroundS) root).notes=0):=by
   intro t1 t2 t3 t4
   have hT:inT k=true:=inT_iff.2 (esn_mem.1 t2)
   have he:=esn_mem.1 t2
   rw [may_plain (by omega) (by omega),if_neg (by omega)]
   by_cases h110:k=110
   ·subst h110
    rw [if_neg (by omega),if_pos rfl,h.noteMay t1]
    by_cases hm:0<manyP p 110
    ·rw [if_pos (.inr (.inr hm)),decide_eq_false (by omega)];rfl
    ·rw [if_neg (by rw [t1,t2];simpa using hm),if_neg (by simp),decide_eq_true (by omega),Bool.true_and]
   ·rw [if_pos (by omega),h.many hT]
    by_cases hm:0<manyP p k
    ·rw [if_pos (.inr (.inr hm)),decide_eq_false (by omega)]
    ·rw [if_neg (by rw [t1,t2];simpa using hm),if_pos h110,decide_eq_true (by omega)]
  by_cases hi:(topP p).kind=105
  ·have h2:=rankO_i hi
   by_cases h108:k=108
   ·rw [if_pos (.inl ⟨hi,h108⟩)]
    have hrk:rk (topL l).kind k=2:=by rw [a,hi,rk_i,h108,if_neg (by decide +kernel),if_pos rfl]
    rw [may_plain (by omega) (by omega),if_neg (by omega),if_neg (by omega),if_neg (by omega)]
   ·rw [if_neg (by omega),if_neg (by omega)]
    by_cases he:inK k esnS=true
    ·have hrk:rk (topL l).kind k=1:=by rw [a,hi,rk_i,if_pos (flowIn_mem.2 (.inr (esn_mem.1 he)))]
     by_cases ht:textsP p=true
     ·refine esn ht he hrk ?_
      rw [texts_eq,hi] at ht
      have:inK 108 (topP p).kids=false:=by
       have:inK 105 flowS=false:=by decide +kernel
       rw [this] at ht
       simpa using ht
      have h3:rankO (topP p)≠2:=fun e=>by rw [h2.1 e] at this;cases this
      omega
     ·rw [Bool.not_eq_true] at ht
      rw [if_pos (.inl ht)]
      refine may_not (.inr ?_)
      rw [texts_eq,hi] at ht
      have h3:rankO (topP p)=2:=h2.2 (by
       have:inK 105 flowS=false:=by decide +kernel
       rw [this] at ht
       simpa using ht)
      omega
    ·rw [Bool.not_eq_true] at he
     rw [if_pos (.inr (.inl he))]
     refine may_not (.inl ?_)
     rw [a,hi,rk_i,if_neg (fun e=>by
      have:=flowIn_mem.1 e
      have h3:=esn_mem.2 (this.resolve_left hk)
      rw [he] at h3;cases h3),if_neg h108]
  ·have hle:=rankO_le (topP p) hi
   by_cases q3:(topP p).kind=108
   ·by_cases hk1:k=105
    ·rw [if_pos (.inr (.inl ⟨q3,hk1⟩))]
     have hrk:rk (topL l).kind k=1:=by rw [a,q3,rk_l,if_pos hk1]
     rw [may_plain (by omega) (by omega),if_neg (by omega),if_neg (by omega),if_neg (by omega)]
    ·rw [if_neg (by omega),if_neg (by omega),if_pos (.inl (texts_no q3 noFlow.2.2.1 (by decide)))]
     exact may_not (.inl (by rw [a,q3,rk_l,if_neg hk1]))
   by_cases q4:(topP p).kind=116
   ·by_cases hk1:k=114
    ·rw [if_pos (.inr (.inr ⟨q4,hk1⟩))]
     have hrk:rk (topL l).kind k=1:=by rw [a,q4,rk_t,if_pos hk1]
     rw [may_plain (by omega) (by omega),if_neg (by omega),if_neg (by omega),if_neg (by omega)]
    ·rw [if_neg (by omega),if_neg (by omega),if_pos (.inl (texts_no q4 noFlow.2.2.2 (by decide)))]
     exact may_not (.inl (by rw [a,q4,rk_t,if_neg hk1]))
   by_cases q5:(topP p).kind=114
   ·rw [if_neg (by omega),if_pos q5]
    by_cases hk1:k=99
    ·have hrk:rk (topL l).kind k=1:=by rw [a,q5,rk_r,if_pos hk1]
     rw [may_plain (by omega) (by omega),if_pos hk1,hpt]
     simp [hk1]
    ·rw [may_not (.inl (by rw [a,q5,rk_r,if_neg hk1]))]
     simp [hk1]
   rw [if_neg (by omega),if_neg q5]
   by_cases hf:inK (topP p).kind flowS=true
   ·have ht:textsP p=true:=by rw [texts_eq,hf];rfl
    by_cases he:inK k esnS=true
    ·exact esn ht he (by rw [a,rk_flow k hf,if_pos (flowIn_mem.2 (.inr (esn_mem.1 he)))]) (by omega)
    ·rw [Bool.not_eq_true] at he
     rw [if_pos (.inr (.inl he))]
     refine may_not (.inl ?_)
     rw [a,rk_flow k hf,if_neg (fun e=>by
      have:=flowIn_mem.1 e
      have h3:=esn_mem.2 (this.resolve_left hk)
      rw [he] at h3;cases h3)]
   ·rw [Bool.not_eq_true] at hf
    have ht:textsP p=false:=by rw [texts_eq,hf,show ((topP p).kind==105)=false from beq_eq_false_iff_ne.2 hi];rfl
    rw [if_pos (.inl ht)]
    exact may_not (.inl (by rw [a];exact rk_no k b hf hi q3 q4 q5))
end
end Go.Proofs.YtmldpkigfhoalaaGreatDoor.Tr
namespace Go.Proofs.YtmldpkigfhoalaaGreatDoor.Tr
open Go.RowKit
theorem kindO_modify (p:List Op) (j:Nat) (f:Op→Op) (hf:∀ a,(f a).kind=a.kind) (i:Nat):((p.modify j f).getD i root).kind=(p.getD i root).kind:=by
 rw [getD_modify];split<;>simp [hf]
theorem kindL_modify (l:List Lv) (j:Nat) (f:Lv→Lv) (hf:∀ b,(f b).kind=b.kind) (i:Nat):((l.modify j f).getD i lv0).kind=(l.getD i lv0).kind:=by
 rw [getD_modify];split<;>simp [hf]
theorem map_kind_modify (p:List Op) (j:Nat) (f:Op→Op) (hf:∀ a,(f a).kind=a.kind):(p.modify j f).map (·.kind)=p.map (·.kind):=by
 apply List.ext_getElem?
 intro i
 rw [List.getElem?_map,List.getElem?_map,List.getElem?_modify]
 by_cases e:j=i
 ·subst e;cases p[j]?<;>simp [hf]
 ·cases p[i]?<;>simp [e]
theorem count_kinds (p:List Op) (n:Nat):((p.take n).drop 1).countP (fun o=>o.kind==108)=(((p.map (·.kind)).take n).drop 1).countP (·==108):=by
 rw [← List.map_take,← List.map_drop,List.countP_map];rfl
theorem blockK_congr {l l':List Lv} (h:∀ i,(l'.getD i lv0).kind=(l.getD i lv0).kind):∀ n,blockF l' n=blockF l n
 | 0=>rfl
 | n+1=>by unfold blockF;rw [h n,blockK_congr h n]
section
variable {p:List Op} {l:List Lv}
theorem Rel.modify (h:Rel p l) (i:Nat) (f:Op→Op) (g:Lv→Lv) (hf:∀ a,(f a).kind=a.kind) (hg:∀ b,(g b).kind=b.kind∧(g b).lists=b.lists∧(b.noted=true→(g b).noted=true))
  (hr:i<p.length→RelAt i (p.getD i root) (l.getD i lv0)→RelAt i (f (p.getD i root)) (g (l.getD i lv0))):Rel (p.modify i f) (l.modify i g):=by
 have hkO:=kindO_modify p i f hf
 have hkL:=kindL_modify l i g (fun b=>(hg b).1)
 refine ⟨by simp [h.len],by simpa using h.pos,fun j hj=>?_,fun j hj=>?_,by rw [hkO];exact h.root0,fun j hj=>?_,fun j hj hk=>?_⟩
 ·rw [List.length_modify] at hj
  rw [getD_modify,getD_modify]
  by_cases e:i=j
  ·subst e
   rw [if_pos ⟨rfl,hj⟩,if_pos ⟨rfl,by rw [← h.len];exact hj⟩]
   exact hr hj (h.one i hj)
  ·rw [if_neg (fun x=>e x.1),if_neg (fun x=>e x.1)]
   exact h.one j hj
 ·rw [List.length_modify] at hj
  rw [count_kinds,map_kind_modify p i f hf,← count_kinds,← h.lists j hj,getD_modify]
  split
  ·exact (hg _).2.1
  ·rfl
 ·rw [List.length_modify] at hj
  rw [hkO,hkL,hkL]
  exact h.no105 j hj
 ·rw [List.length_modify] at hj
  rw [hkL] at hk
  have:=h.notes j hj hk
  rw [blockK_congr hkL,getD_modify]
  split
  ·exact (hg _).2.2 this
  ·exact this
theorem size_one (k:Nat):(oneS k).size=1:=by unfold oneS;rw [Lx.bytesOf_size];rfl
theorem inK_snoc (c k:Nat) (hk:k<256) (s:ByteArray):inK c (s++oneS k)=(inK c s || c==k):=by
 unfold inK oneS
 rw [Lx.bytesN_append,Lx.bytesN_bytesOf [k] (fun x hx=>by rw [List.mem_singleton] at hx;subst hx;exact hk)]
 rw [List.contains_eq_mem,List.contains_eq_mem]
 by_cases h1:c ∈ Lx.bytesN s
 ·simp [h1]
 ·by_cases h2:c=k
  ·simp [h2]
  ·simp [h1,h2]
theorem rk_le {a:Nat} (b:Nat) (h:a≠105):rk a b≤1:=by
 unfold rk
 repeat' split
 all_goals first | omega | (exact absurd ‹_› h)
theorem rank_next {i:Nat} {a:Op} {b:Lv} (h:RelAt i a b) (hi:i=0→a.kind=0) {k:Nat} (hk:k<256) (h0:rk b.kind k≠0) (h1:b.rank≤rk b.kind k):rk b.kind k=rankO (addKid k a):=by
 have hs:(addKid k a).kids.size≠0:=by
  show (a.kids++oneS k).size≠0
  rw [ByteArray.size_append,size_one];omega
 have hkd:=h.kind
 unfold rankO
 rw [if_neg hs]
 show _=if a.kind=105∧inK 108 (a.kids++oneS k)=true then 2 else 1
 rw [inK_snoc 108 k hk]
 by_cases hi5:a.kind=105
 ·have hi0:i≠0:=fun e=>by have:=hi e;omega
  rw [if_neg hi0,hi5] at hkd
  rw [hkd,rk_i] at h0 h1 ⊢
  by_cases h8:k=108
  ·subst h8
   have hf8:inK 108 flowIn=false:=by decide +kernel
   rw [hf8,if_neg (by simp),if_pos rfl,if_pos ⟨hi5,by simp⟩]
  ·by_cases hf:inK k flowIn=true
   ·rw [if_pos hf] at h1 ⊢
    have h2:¬ inK 108 a.kids=true:=fun e=>by
     have:=(rankO_i hi5).2 e
     have:=h.rank
     omega
    rw [Bool.not_eq_true] at h2
    rw [h2,show ((108:Nat)==k)=false from beq_eq_false_iff_ne.2 (fun e=>h8 e.symm)]
    simp
   ·rw [if_neg hf,if_neg h8] at h0
    exact absurd rfl h0
 ·rw [if_neg (fun e=>hi5 e.1)]
  have hb:b.kind≠105:=by
   rw [hkd];split
   ·omega
   ·exact hi5
  have:=rk_le k hb
  omega
theorem Rel.count (h:Rel p l) {k:Nat} (hk:k<256) (hm:mayL l k=true):Rel (p.modify (p.length - 1) (addKid k)) (l.modify (l.length - 1) (onePart k)):=by
 rw [← h.len]
 have h0:rk (topL l).kind k≠0∧(topL l).rank≤rk (topL l).kind k:=by
  by_cases e:rk (topL l).kind k=0∨rk (topL l).kind k<(topL l).rank
  ·rw [may_not e] at hm;cases hm
  ·exact ⟨fun x=>e (.inl x),by omega⟩
 have ht:topL l=l.getD (p.length - 1) lv0:=by unfold topL;rw [h.len]
 rw [ht] at h0
 refine h.modify _ _ _ (fun _=>rfl) (fun b=>⟨rfl,rfl,fun e=>e⟩) fun hi hr=>?_
 refine ⟨hr.kind,hr.start,?_,?_,hr.cols,hr.noted,hr.bytes⟩
 ·show _+1=(_++oneS k).size
  rw [ByteArray.size_append,size_one,hr.parts]
 ·exact rank_next hr (fun e=>by have:=h.root0;rwa [e]) hk h0.1 h0.2
theorem Rel.noteFlag (h:Rel p l) (B:Nat):Rel (p.modify B addNote) (l.modify B withNote) :=
 h.modify _ _ _ (fun _=>rfl) (fun b=>⟨rfl,rfl,fun _=>rfl⟩) fun _ hr=>⟨hr.kind,hr.start,hr.parts,hr.rank,hr.cols,by show true=decide (0<_+1);simp,hr.bytes⟩
theorem Rel.moreText (h:Rel p l) (i:Nat) (s:ByteArray):Rel (p.modify i (addText s)) (l.modify i (moreBytes s.size)) :=
 h.modify _ _ _ (fun _=>rfl) (fun b=>⟨rfl,rfl,fun e=>e⟩) fun _ hr=>⟨hr.kind,hr.start,hr.parts,hr.rank,hr.cols,hr.noted,by show _+s.size=(_++s).size;rw [ByteArray.size_append,hr.bytes]⟩
theorem Rel.first (h:Rel p l) (i n:Nat):Rel (p.modify i (setFirst n)) (l.modify i (withCols n)) :=
 h.modify _ _ _ (fun _=>rfl) (fun _=>⟨rfl,rfl,fun e=>e⟩) fun _ hr=>⟨hr.kind,hr.start,hr.parts,hr.rank,rfl,hr.noted,hr.bytes⟩
theorem blockF_take {l:List Lv} (x:Lv):∀ n,n≤l.length→blockF (l++[x]) n=blockF l n
 | 0,_=>rfl
 | n+1,h=>by
  have e:(l++[x]).getD n lv0=l.getD n lv0:=by rw [getD_snoc,if_pos (by omega)]
  unfold blockF;rw [e,blockF_take x n (by omega)]
theorem Rel.push (h:Rel p l) (k s:Nat) (hk:k≠46∧k≠95) (h0:rk (topL l).kind k≠0) (hn:k=110→(l.getD (blockL l) lv0).noted=true) :
  Rel (p++[⟨k,emptyS,s,0,0,emptyS⟩]) (l++[⟨k,s,(topL l).lists+(if k=108 then 1 else 0),0,0,0,false,0⟩]):=by
 have hpos:=h.pos
 have hlen:=h.len
 have ht:topL l=l.getD (p.length - 1) lv0:=by unfold topL;rw [h.len]
 refine ⟨by simp [h.len],by simp,fun i hi=>?_,fun i hi=>?_,by rw [getD_snoc,if_pos hpos];exact h.root0,fun i hi=>?_,fun i hi hk1=>?_⟩
 ·rw [List.length_append] at hi
  rw [getD_snoc,getD_snoc]
  by_cases e:i<p.length
  ·rw [if_pos e,if_pos (by omega)];exact h.one i e
  ·have e1:i=p.length:=by simp at hi;omega
   rw [if_neg e,if_pos e1,if_neg (by omega),if_pos (by omega)]
   exact ⟨by show k=if i=0 then 95 else k;rw [if_neg (by omega)],rfl,rfl,rfl,rfl,rfl,rfl⟩
 ·rw [List.length_append] at hi
  rw [getD_snoc]
  by_cases e:i<p.length
  ·rw [if_pos (by omega),List.take_append_of_le_length (by omega)];exact h.lists i e
  ·have e1:i=p.length:=by simp at hi;omega
   rw [if_neg (by omega),if_pos (by omega),List.take_of_length_le (by simp;omega),List.drop_append_of_le_length (by omega),List.countP_append]
   have:=h.lists (p.length - 1) (by omega)
   rw [show p.length - 1+1=p.length from by omega,List.take_length] at this
   rw [ht,← this]
   by_cases e8:k=108<;>simp [e8]
 ·rw [List.length_append] at hi
  simp only [getD_snoc]
  by_cases e:i+1<p.length
  ·rw [if_pos e,if_pos (by omega),if_pos (by omega)];exact h.no105 i e
  ·have e1:i+1=p.length:=by simp at hi;omega
   rw [if_neg e,if_pos e1,if_pos (by omega),if_neg (by omega),if_pos (by omega)]
   rw [ht,show p.length - 1=i from by omega] at h0
   exact ⟨hk.1,hk.2,h0⟩
 ·rw [List.length_append] at hi
  rw [blockF_take _ _ (by simp at hi;omega)]
  rw [getD_snoc] at hk1
  have key:blockF l i<l.length:=by
   rcases Nat.eq_zero_or_pos i with e | e
   ·subst e;unfold blockF;omega
   ·have:=(block_max (l:=l) i e (by rw [h.kind0];rfl)).1
    simp at hi;omega
  rw [getD_snoc,if_pos key]
  by_cases e:i<p.length
  ·rw [if_pos (by omega)] at hk1;exact h.notes i e hk1
  ·have e1:i=p.length:=by simp at hi;omega
   rw [if_neg (by omega),if_pos (by omega)] at hk1
   have:=hn hk1
   unfold blockL at this
   rw [e1,hlen];exact this
theorem Rel.take (h:Rel p l) {m:Nat} (h1:1≤m) (h2:m≤p.length):Rel (p.take m) (l.take m):=by
 have hlen:=h.len
 have hl:(p.take m).length=m:=by rw [List.length_take];omega
 refine ⟨by rw [hl,List.length_take];omega,by omega,fun i hi=>?_,fun i hi=>?_,by rw [getD_take _ _ _ _ (by omega)];exact h.root0,fun i hi=>?_,fun i hi hk1=>?_⟩
 ·rw [hl] at hi
  rw [getD_take _ _ _ _ hi,getD_take _ _ _ _ hi];exact h.one i (by omega)
 ·rw [hl] at hi
  rw [getD_take _ _ _ _ hi,List.take_take,Nat.min_eq_left (by omega)];exact h.lists i (by omega)
 ·rw [hl] at hi
  rw [getD_take _ _ _ _ hi,getD_take _ _ _ _ (by omega),getD_take _ _ _ _ hi];exact h.no105 i (by omega)
 ·rw [hl] at hi
  rw [getD_take _ _ _ _ hi] at hk1
  have e:∀ n,n≤m→blockF (l.take m) n=blockF l n:=by
   intro n
   induction n with
   | zero=>intro _;rfl
   | succ n ih=>intro hn;unfold blockF;rw [getD_take _ _ _ _ (by omega),ih (by omega)]
  have key:blockF l i<m:=by
   rcases Nat.eq_zero_or_pos i with e | e
   ·subst e;unfold blockF;omega
   ·have:=(block_max (l:=l) i e (by rw [h.kind0];rfl)).1
    omega
  rw [e i (by omega),getD_take _ _ _ _ key]
  exact h.notes i (by omega) hk1
end
end Go.Proofs.YtmldpkigfhoalaaGreatDoor.Tr
namespace Go.Proofs.YtmldpkigfhoalaaGreatDoor.Tr
open Go.RowKit
structure SimS (t:List Nd) (p:List Op) (o:St):Prop where
 rel:Rel p o.lv
 nodes:o.nodes=t.length
 lists:o.deep=false→manyP p 108≤8
theorem SimS.start:SimS [] [root] st0:=by
 refine ⟨⟨rfl,by decide,fun i hi=>?_,fun i hi=>?_,rfl,fun i hi=>?_,fun i hi hk=>?_⟩,rfl,fun _=>by decide⟩
 ·obtain rfl:i=0:=by simp at hi;exact hi
  exact ⟨rfl,rfl,rfl,rfl,rfl,rfl,rfl⟩
 ·obtain rfl:i=0:=by simp at hi;exact hi
  rfl
 ·simp at hi
 ·obtain rfl:i=0:=by simp at hi;exact hi
  revert hk;decide
theorem Rel.listsTop {p:List Op} {l:List Lv} (h:Rel p l):(topL l).lists=manyP p 108:=by
 have hpos:=h.pos
 have:=h.lists (p.length - 1) (by omega)
 unfold topL manyP
 rw [← h.len,this,show p.length - 1+1=p.length from by omega,List.take_length,List.countP_eq_length_filter]
theorem kinds_many {p q:List Op} (h:p.map (·.kind)=q.map (·.kind)) (k:Nat):manyP p k=manyP q k:=by
 have e:∀ r:List Op,manyP r k=(((r.map (·.kind)).drop 1).filter (·==k)).length:=fun r=>by
  unfold manyP
  rw [← List.map_drop,List.filter_map,List.length_map];rfl
 rw [e,e,h]
theorem kinds_last {p q:List Op} (h:p.map (·.kind)=q.map (·.kind)) (ks:ByteArray):lastP p ks=lastP q ks:=by
 have hl:p.length=q.length:=by have:=congrArg List.length h;simpa using this
 have hk:∀ i,i<p.length→(p.getD i root).kind=(q.getD i root).kind:=fun i hi=>by
  have:=congrArg (fun l:List Nat=>l[i]?) h
  simp only [List.getElem?_map] at this
  rw [List.getD_eq_getElem?_getD,List.getD_eq_getElem?_getD,List.getElem?_eq_getElem hi,List.getElem?_eq_getElem (by omega)] at *
  simpa using this
 unfold lastP
 rw [hl]
 have:∀ n,n≤p.length→lastF p ks n=lastF q ks n:=by
  intro n
  induction n with
  | zero=>intro _;rfl
  | succ n ih=>intro hn;unfold lastF;rw [hk n (by omega),ih (by omega)]
 exact this _ (by omega)
theorem step_text (t:List Nd) (p:List Op) (nm:Nat) (tx:ByteArray) (pl:Nat) (h:textsP p=true):stepR (t,p) ⟨1,nm,tx,pl⟩ =
  (t++[⟨46,tx,(pl:Int),1⟩],if 0<lastP p noteS then (p.modify (p.length - 1) (addKid 46)).modify (lastP p noteS) (addText tx) else p.modify (p.length - 1) (addKid 46)):=by
 have e:lastP (p.modify (p.length - 1) (addKid 46)) noteS=lastP p noteS:=kinds_last (map_kind_modify p _ (addKid 46) (fun _=>rfl)) _
 unfold stepR
 simp only [h,if_true,e]
theorem err_text_eq (t:List Nd) (p:List Op) (nm:Nat) (tx:ByteArray) (pl:Nat) (h:textsP p=true):errStep t p ⟨1,nm,tx,pl⟩ =
  if 2000≤t.length∨(0<lastP p noteS∧60<(p.getD (lastP p noteS) root).text.size+tx.size) then (pl,4) else (0,0):=by
 unfold errStep
 simp only [h,if_true]
 rw [if_neg (by simp)]
theorem SimS.text {t:List Nd} {p:List Op} {o:St} (h:SimS t p o) (nm:Nat) (tx:ByteArray) (pl:Nat) (ht:textsP p=true) :
  SimS (stepR (t,p) ⟨1,nm,tx,pl⟩).1 (stepR (t,p) ⟨1,nm,tx,pl⟩).2 (sayS o tx.size)∧(sayS o tx.size).deep=o.deep∧(sayS o tx.size).much=(o.much || decide ((errStep t p ⟨1,nm,tx,pl⟩).2=4)) ∧
   ((errStep t p ⟨1,nm,tx,pl⟩).2=0∨(errStep t p ⟨1,nm,tx,pl⟩).2=4):=by
 have hm:mayL o.lv 46=true:=by rw [h.rel.texts];exact ht
 have hc:=h.rel.count (k:=46) (by decide) hm
 rw [step_text t p nm tx pl ht,err_text_eq t p nm tx pl ht]
 have hn:=h.rel.note
 have hk1:(p.modify (p.length - 1) (addKid 46)).map (·.kind)=p.map (·.kind):=map_kind_modify p _ _ (fun _=>rfl)
 by_cases h0:lastP p noteS=0
 ·rw [if_pos h0] at hn
  have hs:sayS o tx.size=countS o 46:=by unfold sayS;rw [hn]
  rw [hs,h0]
  rw [if_neg (Nat.lt_irrefl 0)]
  refine ⟨⟨hc,by simp [countS,h.nodes],fun hd=>?_⟩,rfl,?_,?_⟩
  ·show manyP (p.modify (p.length - 1) (addKid 46)) 108≤8
   rw [kinds_many hk1];exact h.lists hd
  ·show (o.much || decide (2000<o.nodes+1))=_
   rw [h.nodes]
   by_cases e:2000≤t.length
   ·rw [if_pos (.inl e),decide_eq_true (show 2000<t.length+1 by omega)];rfl
   ·rw [if_neg (by omega),decide_eq_false (show ¬ 2000<t.length+1 by omega)];rfl
  ·split<;>simp
 ·rw [if_neg h0] at hn
  have h0':0<lastP p noteS:=Nat.pos_of_ne_zero h0
  have hlt:lastP p noteS<p.length:=lastP_lt noteS h.rel.pos
  have hb:=(h.rel.one _ hlt).bytes
  have hs:sayS o tx.size={ countS o 46 with lv:=(countS o 46).lv.modify (lastP p noteS) (moreBytes tx.size),much:=(countS o 46).much || decide (60<(o.lv.getD (lastP p noteS) lv0).bytes+tx.size) }:=by
   unfold sayS;rw [hn]
  rw [hs,if_pos h0']
  refine ⟨⟨hc.moreText _ tx,by simp [countS,h.nodes],fun hd=>?_⟩,rfl,?_,?_⟩
  ·show manyP ((p.modify (p.length - 1) (addKid 46)).modify (lastP p noteS) (addText tx)) 108≤8
   rw [kinds_many ((map_kind_modify _ _ (addText tx) (fun _=>rfl)).trans hk1)];exact h.lists hd
  ·show ((o.much || decide (2000<o.nodes+1)) || decide (60<(o.lv.getD (lastP p noteS) lv0).bytes+tx.size))=_
   rw [h.nodes,hb]
   by_cases e:2000≤t.length
   ·rw [if_pos (.inl e),decide_eq_true (show 2000<t.length+1 by omega)];simp
   ·rw [decide_eq_false (show ¬ 2000<t.length+1 by omega),Bool.or_false]
    by_cases e2:60<(p.getD (lastP p noteS) root).text.size+tx.size
    ·rw [if_pos (.inr ⟨h0',e2⟩),decide_eq_true e2];rfl
    ·rw [if_neg (fun x=>x.elim e (fun y=>e2 y.2)),decide_eq_false e2];rfl
  ·split<;>simp
theorem rk_95 (a:Nat):rk a 95=0:=by
 have h1:inK 95 blockS=false:=by decide +kernel
 have h2:inK 95 flowIn=false:=by decide +kernel
 unfold rk
 rw [h1,h2]
 simp
theorem mayL_rk {l:List Lv} {k:Nat} (h:mayL l k=true):rk (topL l).kind k≠0∧k≠95:=by
 have h0:rk (topL l).kind k≠0:=fun e=>by rw [may_not (.inl e)] at h;cases h
 exact ⟨h0,fun e=>by subst e;exact h0 (rk_95 _)⟩
theorem modify_comm {α:Type} (l:List α) (i j:Nat) (f g:α→α) (hc:∀ a,f (g a)=g (f a)):(l.modify i f).modify j g=(l.modify j g).modify i f:=by
 apply List.ext_getElem?
 intro n
 simp only [List.getElem?_modify]
 cases l[n]? with
 | none=>rfl
 | some x =>
  simp only [Option.map_eq_map,Option.map_some]
  by_cases h1:i=n<;>by_cases h2:j=n<;>simp [h1,h2,hc]
theorem topL_kind_modify (l:List Lv) (j:Nat) (f:Lv→Lv) (hf:∀ b,(f b).kind=b.kind∧(f b).lists=b.lists):(topL (l.modify j f)).kind=(topL l).kind∧(topL (l.modify j f)).lists=(topL l).lists:=by
 unfold topL
 rw [List.length_modify,getD_modify]
 split
 ·exact hf _
 ·exact ⟨rfl,rfl⟩
theorem step_open (t:List Nd) (p:List Op) (k:Nat) (tx:ByteArray) (pl:Nat):stepR (t,p) ⟨2,k,tx,pl⟩ =
  (t++[⟨k,emptyS,(pl:Int),1⟩],(if k=110 then (p.modify (p.length - 1) (addKid k)).modify (lastP p aroundS) addNote else p.modify (p.length - 1) (addKid k))++[⟨k,emptyS,t.length,0,0,emptyS⟩]):=by
 have e:lastP (p.modify (p.length - 1) (addKid k)) aroundS=lastP p aroundS:=kinds_last (map_kind_modify p _ (addKid k) (fun _=>rfl)) _
 unfold stepR
 simp only [e]
 rw [if_neg (by decide),if_pos trivial]
theorem err_open_eq (t:List Nd) (p:List Op) (k:Nat) (tx:ByteArray) (pl:Nat) (h:opensP p k=true):errStep t p ⟨2,k,tx,pl⟩ =
  if 32<p.length∨(k=108∧8≤manyP p 108) then (pl,5) else if 2000≤t.length then (pl,4) else (0,0):=by
 unfold errStep
 simp only [h]
 rw [if_neg (by decide),if_pos trivial,if_neg (by simp)]
theorem many_snoc (p:List Op) (x:Op) (k:Nat) (h:0<p.length):manyP (p++[x]) k=manyP p k+if x.kind=k then 1 else 0:=by
 unfold manyP
 rw [List.drop_append_of_le_length (by omega),List.filter_append,List.length_append]
 congr 1
 by_cases e:x.kind=k<;>simp [e]
theorem SimS.open {t:List Nd} {p:List Op} {o:St} (h:SimS t p o) {k:Nat} (tx:ByteArray) (pl:Nat) (hk:k<256) (h46:k≠46) (hop:opensP p k=true) :
  SimS (stepR (t,p) ⟨2,k,tx,pl⟩).1 (stepR (t,p) ⟨2,k,tx,pl⟩).2 (enterS o k)∧(enterS o k).deep=(o.deep || decide ((errStep t p ⟨2,k,tx,pl⟩).2=5)) ∧
   ((enterS o k).deep=false→(enterS o k).much=(o.much || decide ((errStep t p ⟨2,k,tx,pl⟩).2=4)))∧((errStep t p ⟨2,k,tx,pl⟩).2=0∨(errStep t p ⟨2,k,tx,pl⟩).2=4∨(errStep t p ⟨2,k,tx,pl⟩).2=5):=by
 have hm:mayL o.lv k=true:=by rw [h.rel.opens h46];exact hop
 obtain ⟨hrk,h95⟩:=mayL_rk hm
 have hc:=h.rel.count hk hm
 have hlen:=h.rel.len
 have hpos:=h.rel.pos
 have hlt:=h.rel.listsTop
 rw [step_open,err_open_eq t p k tx pl hop]
 have hnl:(newL o k).lists=manyP p 108+if k=108 then 1 else 0:=by unfold newL;simp only [hlt]
 have hdeep:(enterS o k).deep=(o.deep || decide (32<p.length) || decide (8<manyP p 108+if k=108 then 1 else 0)):=by
  show (o.deep || decide (32<o.lv.length) || decide (8<(newL o k).lists))=_
  rw [hnl,hlen]
 have hmuch:(enterS o k).much=(o.much || decide (2000<t.length+1)):=by
  show (countS (notedS o k) k).much=_
  unfold countS notedS
  split<;>(show (o.much || decide (2000<o.nodes+1))=_;rw [h.nodes])
 have hd:(enterS o k).deep=(o.deep || decide ((if 32<p.length∨(k=108∧8≤manyP p 108) then (pl,5) else if 2000≤t.length then (pl,4) else ((0,0):Nat × Nat)).2=5)):=by
  rw [hdeep]
  cases hd:o.deep
  ·have h8:=h.lists hd
   rw [Bool.false_or,Bool.false_or]
   by_cases e1:32<p.length
   ·rw [decide_eq_true e1,Bool.true_or,if_pos (show 32<p.length∨(k=108∧8≤manyP p 108) from .inl e1)];rfl
   ·rw [decide_eq_false e1,Bool.false_or]
    by_cases e2:k=108∧8≤manyP p 108
    ·rw [if_pos (show 32<p.length∨(k=108∧8≤manyP p 108) from .inr e2),if_pos e2.1,decide_eq_true (by omega)];rfl
    ·rw [if_neg (show ¬ (32<p.length∨(k=108∧8≤manyP p 108)) from fun x=>x.elim e1 e2)]
     have e3:¬ 8<manyP p 108+if k=108 then 1 else 0:=by
      by_cases e4:k=108
      ·rw [if_pos e4];omega
      ·rw [if_neg e4];omega
     rw [decide_eq_false e3]
     split<;>rfl
  ·simp
 refine ⟨⟨?_,?_,fun hdf=>?_⟩,hd,fun hdf=>?_,?_⟩
 ·show Rel _ ((countS (notedS o k) k).lv++[newL o k])
  by_cases h110:k=110
  ·subst h110
   rw [if_pos rfl]
   have htx:textsP p=true:=by
    unfold opensP at hop
    dsimp only at hop
    by_cases e1:p.length=1
    ·rw [if_pos e1,show inK 110 blockS=false from by decide +kernel] at hop;cases hop
    ·rw [if_neg e1,if_neg (by omega)] at hop
     by_cases e2:(topP p).kind=114
     ·rw [if_pos e2] at hop;simp at hop
     ·rw [if_neg e2] at hop
      cases ht:textsP p
      ·rw [if_pos (.inl ht)] at hop;cases hop
      ·rfl
   have hla:lastP p aroundS=blockL o.lv:=by
    obtain ⟨h0,hb⟩:=h.rel.around htx
    rcases hb with hb | hb
    ·exact h.rel.lastAround hb h0
    ·exfalso
     have h99:(o.lv.getD (blockL o.lv) lv0).kind=99:=by rw [h.rel.kindL h.rel.block.1 (by omega)];exact hb
     have hle:(topL o.lv).rank≤rk (topL o.lv).kind 110:=by
      rcases Nat.lt_or_ge (rk (topL o.lv).kind 110) (topL o.lv).rank with e | e
      ·rw [may_not (.inr e)] at hm;cases hm
      ·exact e
     rw [may_plain hrk hle,if_neg (by decide),if_neg (by decide),if_pos rfl,h99] at hm
     simp at hm
   rw [hla]
   have hcn:=hc.noteFlag (blockL o.lv)
   have hlv:(countS (notedS o 110) 110).lv=(o.lv.modify (o.lv.length - 1) (onePart 110)).modify (blockL o.lv) withNote:=by
    show ((o.lv.modify (blockL o.lv) withNote).modify ((o.lv.modify (blockL o.lv) withNote).length - 1) (onePart 110))=_
    rw [List.length_modify]
    exact modify_comm _ _ _ _ _ (fun _=>rfl)
   rw [hlv]
   have hbl:blockL ((o.lv.modify (o.lv.length - 1) (onePart 110)).modify (blockL o.lv) withNote)=blockL o.lv:=by
    unfold blockL
    rw [List.length_modify,List.length_modify]
    exact blockK_congr (fun i=>(kindL_modify _ _ withNote (fun _=>rfl) i).trans (kindL_modify _ _ (onePart 110) (fun _=>rfl) i)) _
   have htk:=topL_kind_modify (o.lv.modify (o.lv.length - 1) (onePart 110)) (blockL o.lv) withNote (fun _=>⟨rfl,rfl⟩)
   have htk2:=topL_kind_modify o.lv (o.lv.length - 1) (onePart 110) (fun _=>⟨rfl,rfl⟩)
   have hp:=hcn.push 110 t.length ⟨by decide,by decide⟩ (by rw [htk.1,htk2.1];exact hrk) (fun _=>by
    rw [hbl,getD_modify,if_pos ⟨rfl,by rw [List.length_modify];exact h.rel.len▸h.rel.block.1⟩];rfl)
   rw [htk.2,htk2.2] at hp
   unfold newL
   rw [h.nodes]
   exact hp
  ·rw [if_neg h110]
   have hns:notedS o k=o:=by unfold notedS;rw [if_neg h110]
   rw [hns]
   have htk2:=topL_kind_modify o.lv (o.lv.length - 1) (onePart k) (fun _=>⟨rfl,rfl⟩)
   have hp:=hc.push k t.length ⟨h46,h95⟩ (by rw [htk2.1];exact hrk) (fun e=>absurd e h110)
   rw [htk2.2] at hp
   unfold newL
   rw [h.nodes]
   exact hp
 ·show (countS (notedS o k) k).nodes=_
  rw [List.length_append,← h.nodes]
  unfold countS notedS
  split<;>rfl
 ·rw [hdeep] at hdf
  simp only [Bool.or_eq_false_iff,decide_eq_false_iff_not] at hdf
  have hq:(if k=110 then (p.modify (p.length - 1) (addKid k)).modify (lastP p aroundS) addNote else p.modify (p.length - 1) (addKid k)).map (·.kind)=p.map (·.kind):=by
   split
   ·exact (map_kind_modify _ _ addNote (fun _=>rfl)).trans (map_kind_modify _ _ (addKid k) (fun _=>rfl))
   ·exact map_kind_modify _ _ (addKid k) (fun _=>rfl)
  rw [many_snoc _ _ _ (by split<;>simp [hpos]),kinds_many hq]
  show manyP p 108+(if k=108 then 1 else 0)≤8
  omega
 ·rw [hmuch]
  rw [hd] at hdf
  simp only [Bool.or_eq_false_iff,decide_eq_false_iff_not] at hdf
  have e1:¬ (32<p.length∨(k=108∧8≤manyP p 108)):=fun e=>hdf.2 (by rw [if_pos e])
  rw [if_neg e1]
  by_cases e:2000≤t.length
  ·rw [if_pos e,decide_eq_true (show 2000<t.length+1 by omega)];rfl
  ·rw [if_neg e,decide_eq_false (show ¬ 2000<t.length+1 by omega)];rfl
 ·split
  ·simp
  ·split<;>simp
theorem SimS.close {t:List Nd} {p:List Op} {o:St} (h:SimS t p o) (nm:Nat) (tx:ByteArray) (pl:Nat) :
  (leaveB o=true↔(errStep t p ⟨3,nm,tx,pl⟩).2=0)∧((errStep t p ⟨3,nm,tx,pl⟩).2=0∨errStep t p ⟨3,nm,tx,pl⟩=(pl,2)) ∧
   (leaveB o=true→SimS (stepR (t,p) ⟨3,nm,tx,pl⟩).1 (stepR (t,p) ⟨3,nm,tx,pl⟩).2 (leaveS o)):=by
 have hlen:=h.rel.len
 have hpos:=h.rel.pos
 have ht:=h.rel.top
 have he:errStep t p ⟨3,nm,tx,pl⟩=if p.length=1∨(inK (topP p).kind ltrS=true∧(topP p).kids.size=0) then (pl,2)
   else if (topP p).kind=114∧0<(p.getD (p.length - 2) root).first∧(p.getD (p.length - 2) root).first≠(topP p).kids.size then (pl,2) else (0,0):=by
  unfold errStep
  simp only []
  rw [if_neg (by decide),if_neg (by decide)]
 have key:leaveB o=true↔(errStep t p ⟨3,nm,tx,pl⟩).2=0:=by
  rw [he]
  unfold leaveB
  rw [← hlen]
  by_cases h1:p.length=1
  ·rw [if_pos (by omega),if_pos (.inl h1)];simp
  ·obtain ⟨a,_,_⟩:=h.rel.topKind h1
   rw [if_neg (by omega),a,ht.parts]
   by_cases hl:(topP p).kind=108∨(topP p).kind=116
   ·rw [if_pos hl]
    have h2:inK (topP p).kind ltrS=true:=ltr_mem.2 (by omega)
    by_cases h0:(topP p).kids.size=0
    ·rw [if_pos (.inr ⟨h2,h0⟩),h0];simp
    ·rw [if_neg (by omega),if_neg (by omega),decide_eq_true (by omega)]
     simp
   ·rw [if_neg hl]
    by_cases hr:(topP p).kind=114
    ·rw [if_pos hr]
     have h2:inK (topP p).kind ltrS=true:=ltr_mem.2 (by omega)
     have hco:=(h.rel.one (p.length - 2) (by omega)).cols
     rw [hco]
     by_cases h0:(topP p).kids.size=0
     ·rw [if_pos (.inr ⟨h2,h0⟩),h0];simp
     ·rw [if_neg (by omega),decide_eq_true (by omega),Bool.true_and,Bool.or_eq_true,beq_iff_eq,beq_iff_eq]
      by_cases hf:(p.getD (p.length - 2) root).first=0∨(p.getD (p.length - 2) root).first=(topP p).kids.size
      ·rw [if_neg (by omega)];exact ⟨fun _=>rfl,fun _=>hf⟩
      ·rw [if_pos (by omega)];exact ⟨fun x=>absurd x hf,fun x=>by cases x⟩
    ·rw [if_neg hr,if_neg (fun e=>e.elim h1 (fun x=>by have:=ltr_mem.1 x.1;omega)),if_neg (fun e=>hr e.1)]
     simp
 refine ⟨key,?_,fun hb=>?_⟩
 ·rw [he];split
  ·exact .inr rfl
  ·split
   ·exact .inr rfl
   ·exact .inl rfl
 ·have h1:p.length≠1:=fun e=>by
   unfold leaveB at hb
   rw [← hlen,e] at hb;simp at hb
  obtain ⟨a,_,_⟩:=h.rel.topKind h1
  have hco:=(h.rel.one (p.length - 2) (by omega)).cols
  have hs:stepR (t,p) ⟨3,nm,tx,pl⟩=(t.modify (topP p).spot (setSize ((t.length:Int) - ((topP p).spot:Int))),(if (topP p).kind=114∧(p.getD (p.length - 1 - 1) root).first=0 then p.modify (p.length - 1 - 1) (setFirst (topP p).kids.size) else p).take (p.length - 1)):=by
   unfold stepR
   simp only []
   rw [if_neg (by decide),if_neg (by decide)]
  rw [hs]
  have htm:∀ {α:Type} (l:List α) (i m:Nat) (f:α→α),(l.take m).modify i f=(l.modify i f).take m:=fun l i m f=>by
   apply List.ext_getElem?
   intro n
   rw [List.getElem?_modify,List.getElem?_take,List.getElem?_take,List.getElem?_modify]
   by_cases q1:n<m<;>by_cases q2:i=n<;>simp [q1,q2]
  refine ⟨?_,by simp only [List.length_modify];exact h.nodes,fun hd=>?_⟩
  ·show Rel _ (leaveS o).lv
   unfold leaveS
   simp only []
   rw [a,← hlen,hco,show p.length - 1 - 1=p.length - 2 from by omega,ht.parts]
   by_cases hc:(topP p).kind=114∧(p.getD (p.length - 2) root).first=0
   ·rw [if_pos hc,if_pos hc,htm]
    exact (h.rel.first _ _).take (by omega) (by simp)
   ·rw [if_neg hc,if_neg hc]
    exact h.rel.take (by omega) (by omega)
  ·have h8:=h.lists hd
   refine Nat.le_trans ?_ h8
   have hq:(if (topP p).kind=114∧(p.getD (p.length - 1 - 1) root).first=0 then p.modify (p.length - 1 - 1) (setFirst (topP p).kids.size) else p).map (·.kind)=p.map (·.kind):=by
    split
    ·exact map_kind_modify _ _ (setFirst _) (fun _=>rfl)
    ·rfl
   rw [← kinds_many hq 108]
   generalize (if (topP p).kind=114∧(p.getD (p.length - 1 - 1) root).first=0 then p.modify (p.length - 1 - 1) (setFirst (topP p).kids.size) else p)=q
   unfold manyP
   rw [List.drop_take]
   exact ((List.take_sublist _ _).filter _).length_le
end Go.Proofs.YtmldpkigfhoalaaGreatDoor.Tr
namespace Go.Proofs.YtmldpkigfhoalaaGreatDoor.Tr
open Go.RowKit
def sp (p:List Op):List Nat:=(p.drop 1).map (·.spot)
structure SimT (t tl:List Nd) (p:List Op):Prop where
 len:tl.length=t.length
 same:∀ i x,t[i]?=some x→tl[i]?=some (if i ∈ sp p then setSize 0 x else x)
 incr:(sp p).Pairwise (·<·)
 lt:∀ s ∈ sp p,s<t.length
theorem SimT.start:SimT [] [] [root]:=⟨rfl,fun i x h=>by simp at h,List.Pairwise.nil,fun s hs=>by cases hs⟩
theorem sp_modify (p:List Op) (j:Nat) (f:Op→Op) (hf:∀ a,(f a).spot=a.spot):sp (p.modify j f)=sp p:=by
 have h:(p.modify j f).map (·.spot)=p.map (·.spot):=by
  apply List.ext_getElem?
  intro i
  rw [List.getElem?_map,List.getElem?_map,List.getElem?_modify]
  by_cases e:j=i
  ·subst e;cases p[j]?<;>simp [hf]
  ·cases p[i]?<;>simp [e]
 unfold sp
 rw [List.map_drop,List.map_drop,h]
theorem sp_snoc (p:List Op) (x:Op) (h:0<p.length):sp (p++[x])=sp p++[x.spot]:=by
 unfold sp
 rw [List.drop_append_of_le_length (by omega),List.map_append];rfl
theorem sp_top {p:List Op} (h:p.length≠1) (h0:0<p.length):sp p=sp (p.take (p.length - 1))++[(topP p).spot]:=by
 have hg:p.getD (p.length - 1) root=p[p.length - 1]'(by omega):=by
  rw [List.getD_eq_getElem?_getD,List.getElem?_eq_getElem (by omega)];rfl
 have:p=p.take (p.length - 1)++[topP p]:=by
  rw [topP_getD p h0,hg]
  have:=List.take_append_drop (p.length - 1) p
  rw [List.drop_eq_getElem_cons (by omega),List.drop_of_length_le (by omega)] at this
  exact this.symm
 conv=>lhs;rw [this]
 rw [sp_snoc _ _ (by rw [List.length_take];omega)]
theorem SimT.text {t tl:List Nd} {p q:List Op} (h:SimT t tl p) (x:Nd) (hq:sp q=sp p):SimT (t++[x]) (tl++[x]) q:=by
 refine ⟨by simp [h.len],fun i y hy=>?_,by rw [hq];exact h.incr,fun s hs=>by rw [hq] at hs;have:=h.lt s hs;simp;omega⟩
 rw [hq]
 rcases Nat.lt_or_ge i t.length with e | e
 ·rw [List.getElem?_append_left e] at hy
  rw [List.getElem?_append_left (by rw [h.len];exact e)]
  exact h.same i y hy
 ·have hi:=(List.getElem?_eq_some_iff.1 hy).1
  have e1:i=t.length:=by simp at hi;omega
  subst e1
  rw [List.getElem?_append_right (Nat.le_refl _)] at hy
  simp at hy
  subst hy
  rw [if_neg (fun hm=>by have:=h.lt _ hm;omega),← h.len,List.getElem?_append_right (Nat.le_refl _)]
  simp
theorem SimT.open {t tl:List Nd} {p q:List Op} (h:SimT t tl p) (x:Nd) (hq:sp q=sp p++[t.length]):SimT (t++[x]) (tl++[setSize 0 x]) q:=by
 refine ⟨by simp [h.len],fun i y hy=>?_,?_,fun s hs=>?_⟩
 ·rw [hq]
  rcases Nat.lt_or_ge i t.length with e | e
  ·rw [List.getElem?_append_left e] at hy
   rw [List.getElem?_append_left (by rw [h.len];exact e),h.same i y hy]
   have:i ∈ sp p++[t.length]↔i ∈ sp p:=by rw [List.mem_append,List.mem_singleton];exact ⟨fun z=>z.elim id (fun e'=>by omega),.inl⟩
   by_cases hm:i ∈ sp p
   ·rw [if_pos hm,if_pos (this.2 hm)]
   ·rw [if_neg hm,if_neg (fun z=>hm (this.1 z))]
  ·have hi:=(List.getElem?_eq_some_iff.1 hy).1
   have e1:i=t.length:=by simp at hi;omega
   subst e1
   rw [List.getElem?_append_right (Nat.le_refl _)] at hy
   simp at hy
   subst hy
   rw [if_pos (by simp),← h.len,List.getElem?_append_right (Nat.le_refl _)]
   simp
 ·rw [hq,List.pairwise_append]
  exact ⟨h.incr,List.pairwise_singleton _ _,fun a ha b hb=>by rw [List.mem_singleton] at hb;subst hb;exact h.lt a ha⟩
 ·rw [hq,List.mem_append,List.mem_singleton] at hs
  rw [List.length_append]
  rcases hs with hs | hs
  ·have:=h.lt s hs;simp;omega
  ·simp;omega
theorem SimT.close {t tl:List Nd} {p q:List Op} (h:SimT t tl p) {s:Nat} (hq:sp p=sp q++[s]) (v:Int):SimT (t.modify s (setSize v)) (tl.modify s (setSize v)) q:=by
 have hin:=h.incr
 rw [hq,List.pairwise_append] at hin
 have hns:s ∉ sp q:=fun hm=>by have:=hin.2.2 s hm s (by simp);omega
 refine ⟨by simp [h.len],fun i y hy=>?_,hin.1,fun z hz=>by rw [List.length_modify];exact h.lt z (by rw [hq];simp [hz])⟩
 rw [List.getElem?_modify] at hy ⊢
 by_cases e:s=i
 ·subst e
  cases ht:t[s]? with
  | none=>rw [ht] at hy;cases hy
  | some x =>
   rw [ht] at hy
   rw [h.same s x ht,if_neg hns,if_pos (by rw [hq];simp)]
   simp at hy ⊢
   rw [← hy];rfl
 ·cases ht:t[i]? with
  | none=>rw [ht] at hy;cases hy
  | some x =>
   rw [ht] at hy
   rw [h.same i x ht]
   simp [e] at hy ⊢
   subst hy
   have:i ∈ sp p↔i ∈ sp q:=by rw [hq,List.mem_append,List.mem_singleton];exact ⟨fun z=>z.elim id (fun e'=>absurd e'.symm e),.inl⟩
   by_cases hm:i ∈ sp q
   ·rw [if_pos hm,if_pos (this.2 hm)]
   ·rw [if_neg hm,if_neg (fun z=>hm (this.1 z))]
theorem SimT.all {t tl:List Nd} {p:List Op} (h:SimT t tl p) (h1:p.length≤1):tl=t:=by
 have:sp p=[]:=by unfold sp;rw [List.drop_of_length_le h1];rfl
 apply List.ext_getElem?
 intro i
 rcases Nat.lt_or_ge i t.length with e | e
 ·rw [h.same i t[i] (List.getElem?_eq_getElem e),this,List.getElem?_eq_getElem e];simp
 ·rw [List.getElem?_eq_none e,List.getElem?_eq_none (by rw [h.len];exact e)]
structure Bnd (k M:Nat) (t:List Nd) (p:List Op):Prop where
 nodes:t.length≤k
 depth:p.length≤k+1
 one:∀ i,i<p.length→(p.getD i root).kids.size≤k∧(p.getD i root).text.size≤M∧(p.getD i root).first≤k
theorem Bnd.start:Bnd 0 0 [] [root]:=⟨by simp,by simp,fun i hi=>by
 obtain rfl:i=0:=by simp at hi;exact hi
 exact ⟨Nat.le_refl _,Nat.le_refl _,Nat.le_refl _⟩⟩
theorem Bnd.modify {k M k' M':Nat} {t:List Nd} {p:List Op} (h:Bnd k M t p) (hk:k≤k') (hM:M≤M') (j:Nat) (f:Op→Op) (hf:∀ a,a.kids.size≤k∧a.text.size≤M∧a.first≤k→(f a).kids.size≤k'∧(f a).text.size≤M'∧(f a).first≤k'):Bnd k' M' t (p.modify j f):=by
 refine ⟨Nat.le_trans h.nodes hk,by rw [List.length_modify];have:=h.depth;omega,fun i hi=>?_⟩
 rw [List.length_modify] at hi
 have:=h.one i hi
 rw [getD_modify]
 split
 ·exact hf _ this
 ·omega
theorem Bnd.step {k M:Nat} {t:List Nd} {p:List Op} (h:Bnd k M t p) (h0:0<p.length) (x:Lx.Lx):Bnd (k+1) (M+x.text.size) (stepR (t,p) x).1 (stepR (t,p) x).2:=by
 have hd:=h.depth
 have hn:=h.nodes
 have mono:∀ {q:List Op},Bnd k M t q→∀ n,n≤k+1→∀ u:List Nd,u.length=n→Bnd (k+1) (M+x.text.size) u q:=fun hq n hn' u hu =>
  ⟨by omega,by have:=hq.depth;omega,fun i hi=>by have:=hq.one i hi;omega⟩
 unfold stepR
 dsimp only
 by_cases h1:x.kind=1
 ·rw [if_pos h1]
  by_cases ht:textsP p=true
  ·rw [if_pos ht]
   have hA:Bnd (k+1) M t (p.modify (p.length - 1) (addKid 46)):=h.modify (by omega) (Nat.le_refl _) _ _ (fun a ha=>by
    show (a.kids++oneS 46).size≤_∧_
    rw [ByteArray.size_append,size_one];exact ⟨by omega,ha.2.1,by show a.first≤_;omega⟩)
   have hnn:(t++[(⟨46,x.text,(x.place:Int),1⟩:Nd)]).length≤k+1:=by simp;omega
   split
   ·have hB:Bnd (k+1) (M+x.text.size) t ((p.modify (p.length - 1) (addKid 46)).modify (lastP (p.modify (p.length - 1) (addKid 46)) noteS) (addText x.text)):=hA.modify (Nat.le_refl _) (by omega) _ _ (fun a ha=>by
     refine ⟨ha.1,?_,ha.2.2⟩
     show (a.text++x.text).size≤_
     rw [ByteArray.size_append];omega)
    exact ⟨hnn,hB.depth,hB.one⟩
   ·exact ⟨hnn,hA.depth,fun i hi=>by
     obtain ⟨u1,u2,u3⟩:=hA.one i hi
     exact ⟨u1,Nat.le_trans u2 (Nat.le_add_right _ _),u3⟩⟩
  ·rw [if_neg ht]
   exact mono h t.length (by omega) t rfl
 ·rw [if_neg h1]
  by_cases h2:x.kind=2
  ·rw [if_pos h2]
   have hA:Bnd (k+1) M t (p.modify (p.length - 1) (addKid x.name)):=h.modify (by omega) (Nat.le_refl _) _ _ (fun a ha=>by
    show (a.kids++oneS x.name).size≤_∧_
    rw [ByteArray.size_append,size_one];exact ⟨by omega,ha.2.1,by show a.first≤_;omega⟩)
   have hB:Bnd (k+1) M t (if x.name=110 then (p.modify (p.length - 1) (addKid x.name)).modify (lastP (p.modify (p.length - 1) (addKid x.name)) aroundS) addNote else p.modify (p.length - 1) (addKid x.name)):=by
    split
    ·exact hA.modify (Nat.le_refl _) (Nat.le_refl _) _ _ (fun a ha=>ha)
    ·exact hA
   have hl:(if x.name=110 then (p.modify (p.length - 1) (addKid x.name)).modify (lastP (p.modify (p.length - 1) (addKid x.name)) aroundS) addNote else p.modify (p.length - 1) (addKid x.name)).length=p.length:=by split<;>simp
   generalize (if x.name=110 then (p.modify (p.length - 1) (addKid x.name)).modify (lastP (p.modify (p.length - 1) (addKid x.name)) aroundS) addNote else p.modify (p.length - 1) (addKid x.name))=q at hB hl ⊢
   refine ⟨by simp;omega,by rw [List.length_append,hl];simp;omega,fun i hi=>?_⟩
   simp only [getD_snoc]
   by_cases e1:i<q.length
   ·rw [if_pos e1]
    obtain ⟨u1,u2,u3⟩:=hB.one i e1
    exact ⟨u1,Nat.le_trans u2 (Nat.le_add_right _ _),u3⟩
   ·rw [if_neg e1]
    by_cases e2:i=q.length
    ·rw [if_pos e2];exact ⟨Nat.zero_le _,Nat.zero_le _,Nat.zero_le _⟩
    ·rw [if_neg e2];exact ⟨Nat.zero_le _,Nat.zero_le _,Nat.zero_le _⟩
  ·rw [if_neg h2]
   have htop:=h.one (p.length - 1) (by omega)
   have hA:Bnd k M t (if (topP p).kind=114∧(p.getD (p.length - 1 - 1) root).first=0 then p.modify (p.length - 1 - 1) (setFirst (topP p).kids.size) else p):=by
    split
    ·exact h.modify (Nat.le_refl _) (Nat.le_refl _) _ _ (fun a ha=>⟨ha.1,ha.2.1,by show (topP p).kids.size≤k;rw [topP_getD p h0];exact htop.1⟩)
    ·exact h
   generalize (if (topP p).kind=114∧(p.getD (p.length - 1 - 1) root).first=0 then p.modify (p.length - 1 - 1) (setFirst (topP p).kids.size) else p)=q at hA ⊢
   refine ⟨by simp;omega,by rw [List.length_take];have:=hA.depth;omega,fun i hi=>?_⟩
   rw [List.length_take] at hi
   rw [getD_take _ _ _ _ (by omega)]
   have:=hA.one i (by omega)
   omega
theorem bounds {k M:Nat} {t:List Nd} {p:List Op} {o:St} (h:SimS t p o) (hB:Bnd k M t p):o.nodes≤k∧(topL o.lv).parts≤k∧(∀ c,(topL (notedS o c).lv).parts≤k)∧(topL o.lv).lists≤k+1∧o.lv.length≤k+1∧∀ b ∈ o.lv,b.bytes≤M:=by
 have hpos:=h.rel.pos
 have htop:=hB.one (p.length - 1) (by omega)
 have h1:(topL o.lv).parts≤k:=by rw [h.rel.top.parts,topP_getD p hpos];exact htop.1
 refine ⟨by rw [h.nodes];exact hB.nodes,h1,fun c=>?_,?_,by rw [← h.rel.len];exact hB.depth,fun b hb=>?_⟩
 ·unfold notedS
  split
  ·have:(topL (o.lv.modify (blockL o.lv) withNote)).parts=(topL o.lv).parts:=by
    unfold topL
    rw [List.length_modify,getD_modify]
    split<;>rfl
   show (topL (o.lv.modify (blockL o.lv) withNote)).parts≤k
   rw [this];exact h1
  ·exact h1
 ·rw [h.rel.listsTop]
  unfold manyP
  refine Nat.le_trans (List.length_filter_le _ _) ?_
  rw [List.length_drop];have:=hB.depth;omega
 ·obtain ⟨i,hi⟩:=List.mem_iff_getElem?.1 hb
  have hlt:=(List.getElem?_eq_some_iff.1 hi).1
  have:=(h.rel.one i (by rw [h.rel.len];exact hlt)).bytes
  rw [List.getD_eq_getElem?_getD,hi] at this
  have e:b.bytes=(p.getD i root).text.size:=by simpa using this
  rw [e]
  exact (hB.one i (by rw [h.rel.len];exact hlt)).2.1
end Go.Proofs.YtmldpkigfhoalaaGreatDoor.Tr
