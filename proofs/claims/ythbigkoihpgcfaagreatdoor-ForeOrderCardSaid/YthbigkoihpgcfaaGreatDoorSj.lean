/-
  Put together.
-/
import Derived.Test.YthbigkoihpgcfaaGreatDoorHcA
import Derived.Test.YthbigkoihpgcfaaGreatDoorQj
import Derived.Test.YthbigkoihpgcfaaGreatDoorRuF
import Derived.Test.YthbigkoihpgcfaaGreatDoorSb
import Derived.Test.YthbigkoihpgcfaaGreatDoorSe
import Derived.Test.YthbigkoihpgcfaaGreatDoorUh
import Derived.BigQuiet
namespace Go.Proofs.YthbigkoihpgcfaaGreatDoor.Pa
open Go.RowKit Ba Ru Ck Ti Hc
def aW (c:Nat):Bool:=decide (97≤c∧c≤122)
def jJ (s:List Nat):Bool:=!s.isEmpty && s.all aW
def rC (x:Rl) (s:List Nat) (p:Int):Bool:=decide (x.aE=1∨x.aE=2∧p=0∨x.aE=3∧p≠0∨x.aE=4∧p≠0∧p+x.left.length=s.length)
def dH (x:Rl) (s:List Nat) (p most:Int):Bool :=
 jJ s && decide (0≤p∧p<s.length) && decide (x.left≠[]∧(x.left.length:Int)≤most) && x.left.isPrefixOf (s.drop p.toNat) && rC x s p
def eI (y x:Rl):Bool:=decide (y.prio<x.prio∨y.prio=x.prio∧x.left.length<y.left.length)
def oJ (s:List Nat) (p most:Int) (o:Option (Nat × Rl)) (k:Nat) (x:Rl):Option (Nat × Rl) :=
 if dH x s p most=true then match o with | none=>some (k,x) | some (j,y)=>if eI x y=true then some (k,x) else some (j,y)
 else o
def rB (s:List Nat) (p most:Int):List Rl→Nat→Option (Nat × Rl)→Option (Nat × Rl)
 | [],_,o=>o
 | x::l,k,o=>rB s p most l (k+1) (oJ s p most o k x)
def dC (l:List Rl) (s:List Nat) (p most:Int):Option Nat:=(rB s p most l 0 none).map (·.1)
structure Best (l:List Rl) (s:List Nat) (p most:Int) (k:Nat) (x:Rl):Prop where
 at':l[k]?=some x
 mQ:dH x s p most=true
 least:∀ j y,l[j]?=some y→dH y s p most=true→eI y x=false∧(eI x y=false→k≤j)
theorem tE (x:Rl):eI x x=false:=by
 unfold eI
 exact decide_eq_false (by omega)
theorem J5 {x y z:Rl} (h:eI x y=true) (k:eI z y=false):eI z x=false:=by
 unfold eI at h k ⊢
 have h:=of_decide_eq_true h
 have k:=of_decide_eq_false k
 exact decide_eq_false (by omega)
theorem N5 {x y z:Rl} (h:eI x y=true) (k:eI z y=false):eI x z=true:=by
 unfold eI at h k ⊢
 have h:=of_decide_eq_true h
 have k:=of_decide_eq_false k
 exact decide_eq_true (by omega)
def aEX (l:List Rl) (s:List Nat) (p most:Int) (n:Nat) (o:Option (Nat × Rl)):Prop:=match o with
 | none=>∀ j y,j<n→l[j]?=some y→dH y s p most=false
 | some (k,x)=>k<n∧l[k]?=some x∧dH x s p most=true∧∀ j y,j<n→l[j]?=some y→dH y s p most=true→eI y x=false∧(eI x y=false→k≤j)
theorem aEX.step {l:List Rl} {s:List Nat} {p most:Int} {n:Nat} {o:Option (Nat × Rl)} (h:aEX l s p most n o) {x:Rl} (hx:l[n]?=some x):aEX l s p most (n+1) (oJ s p most o n x):=by
 have one:∀ {j:Nat} {y:Rl},j<n+1→l[j]?=some y→j<n∨j=n∧y=x:=fun {j y} hj hy=>by
  by_cases h:j=n
  ·subst h
   rw[hx]at hy
   exact .inr ⟨rfl,(Option.some.inj hy).symm⟩
  ·exact .inl (by omega)
 unfold oJ
 by_cases he:dH x s p most=true
 ·rw[if_pos he]
  match o,h with
  | none,h =>
   refine⟨by omega,hx,he,fun j y hj hy hey=>?_⟩
   rcases one hj hy with hj | ⟨rfl,rfl⟩
   ·rw[h j y hj hy]at hey;cases hey
   ·exact⟨tE _,fun _=>Nat.le_refl _⟩
  | some (k,z),⟨h1,h2,h3,h4⟩ =>
   show aEX l s p most (n+1) (if eI x z=true then some (n,x) else some (k,z))
   by_cases ha:eI x z=true
   ·rw[if_pos ha]
    refine⟨by omega,hx,he,fun j y hj hy hey=>?_⟩
    rcases one hj hy with hj | ⟨rfl,rfl⟩
    ·obtain⟨q1,q2⟩:=h4 j y hj hy hey
     exact⟨J5 ha q1,fun q=>by rw[N5 ha q1]at q;cases q⟩
    ·exact⟨tE _,fun _=>Nat.le_refl _⟩
   ·rw[if_neg ha]
    have ha:eI x z=false:=by simpa using ha
    refine⟨by omega,h2,h3,fun j y hj hy hey=>?_⟩
    rcases one hj hy with hj | ⟨rfl,rfl⟩
    ·exact h4 j y hj hy hey
    ·exact⟨ha,fun _=>by omega⟩
 ·rw[if_neg he]
  have he:dH x s p most=false:=by simpa using he
  match o,h with
  | none,h =>
   intro j y hj hy
   rcases one hj hy with hj | ⟨rfl,rfl⟩
   ·exact h j y hj hy
   ·exact he
  | some (k,z),⟨h1,h2,h3,h4⟩ =>
   refine⟨by omega,h2,h3,fun j y hj hy hey=>?_⟩
   rcases one hj hy with hj | ⟨rfl,rfl⟩
   ·exact h4 j y hj hy hey
   ·rw[he]at hey;cases hey
theorem wY {l:List Rl} {s:List Nat} {p most:Int}:∀ (m:List Rl) (n:Nat) (o:Option (Nat × Rl)),l.drop n=m→n≤l.length→aEX l s p most n o→aEX l s p most l.length (rB s p most m n o)
 | [],n,o,hm,hn,h=>by
  have:l.length≤n:=List.drop_eq_nil_iff.1 hm
  obtain rfl:n=l.length:=by omega
  exact h
 | x::m,n,o,hm,hn,h=>by
  have hlt:n<l.length:=by
   rcases Nat.lt_or_ge n l.length with h | h
   ·exact h
   ·rw[List.drop_of_length_le h]at hm;cases hm
  rw[List.drop_eq_getElem_cons hlt]at hm
  injection hm with h1 h2
  have hx:l[n]?=some x:=by rw[List.getElem?_eq_getElem hlt,h1]
  exact wY m (n+1) _ h2 hlt (h.step hx)
theorem AF (l:List Rl) (s:List Nat) (p most:Int):aEX l s p most l.length (rB s p most l 0 none) :=
 wY l 0 none rfl (Nat.zero_le _) (fun j y hj=>by omega)
theorem mT {l:List Rl} {s:List Nat} {p most:Int} {k:Nat} (h:dC l s p most=some k):∃ x,Best l s p most k x:=by
 have hs:=AF l s p most
 unfold dC at h
 cases hb:rB s p most l 0 none with
 | none=>rw[hb]at h;cases h
 | some kx =>
  obtain⟨j,x⟩:=kx
  rw[hb]at h hs
  obtain rfl:j=k:=Option.some.inj h
  obtain⟨-,h2,h3,h4⟩:=hs
  exact⟨x,h2,h3,fun i y hi=>h4 i y (List.getElem?_eq_some_iff.1 hi).1 hi⟩
theorem DC {l:List Rl} {s:List Nat} {p most:Int} (h:dC l s p most=none) {j:Nat} {y:Rl} (hy:l[j]?=some y):dH y s p most=false:=by
 have hs:=AF l s p most
 unfold dC at h
 cases hb:rB s p most l 0 none with
 | none=>rw[hb]at hs;exact hs j y (List.getElem?_eq_some_iff.1 hy).1 hy
 | some kx=>rw[hb]at h;cases h
theorem Best.unique {l:List Rl} {s:List Nat} {p most:Int} {k j:Nat} {x y:Rl} (h:Best l s p most k x) (g:Best l s p most j y):k=j∧x=y:=by
 obtain⟨a1,a2⟩:=h.least j y g.at' g.mQ
 obtain⟨b1,b2⟩:=g.least k x h.at' h.mQ
 have:k=j:=Nat.le_antisymm (a2 b1) (b2 a1)
 subst this
 exact⟨rfl,Option.some.inj (h.at'.symm.trans g.at')⟩
theorem sX {l:List Rl} {s:List Nat} {p most:Int} {k:Nat} {x:Rl} (h:Best l s p most k x):dC l s p most=some k:=by
 cases hb:dC l s p most with
 | none=>have:=h.mQ;rw[DC hb h.at']at this;cases this
 | some j =>
  obtain⟨y,g⟩:=mT hb
  rw[(g.unique h).1]
theorem eP {x:Rl} {s:List Nat} {p most:Int} (h:dH x s p most=true) :
  jJ s=true∧0≤p∧p<s.length∧x.left≠[]∧(x.left.length:Int)≤most∧x.left <+: s.drop p.toNat∧rC x s p=true:=by
 unfold dH at h
 simp only[Bool.and_eq_true,decide_eq_true_eq,List.isPrefixOf_iff_prefix]at h
 obtain⟨⟨⟨⟨h1,h2,h3⟩,h4,h5⟩,h6⟩,h7⟩:=h
 exact⟨h1,h2,h3,h4,h5,h6,h7⟩
theorem DD {x:Rl} {s:List Nat} {p most most':Int} (h:dH x s p most=true) (hm:(x.left.length:Int)≤most'):dH x s p most'=true:=by
 obtain⟨h1,h2,h3,h4,-,h6,h7⟩:=eP h
 unfold dH
 rw[h1,h7,decide_eq_true (p:=0≤p∧p<(s.length:Int)) ⟨h2,h3⟩,decide_eq_true (p:=x.left≠[]∧(x.left.length:Int)≤most') ⟨h4,hm⟩,List.isPrefixOf_iff_prefix.2 h6]
 rfl
theorem jK {x:Rl} {s:List Nat} {p most:Int} (h:dH x s p most=true):p+x.left.length≤s.length∧0<x.left.length:=by
 obtain⟨-,h2,h3,h4,-,h6,-⟩:=eP h
 have:=h6.length_le
 rw[List.length_drop]at this
 have h5:0<x.left.length:=List.length_pos_iff.2 h4
 omega
theorem aAR {x:Rl} {s:List Nat} {p:Nat} {most:Int} (h:dH x s p most=true):(s.drop p).take x.left.length=x.left:=by
 obtain⟨-,-,-,-,-,h6,-⟩:=eP h
 rw[Int.toNat_natCast]at h6
 exact(List.prefix_iff_eq_take.1 h6).symm
theorem EH {s:List Nat} (h:jJ s=true):s≠[]∧∀ c ∈ s,97≤c∧c≤122:=by
 unfold jJ at h
 rw[Bool.and_eq_true,List.all_eq_true]at h
 refine⟨fun e=>by rw[e]at h;exact absurd h.1 (by decide),fun c hc=>of_decide_eq_true (h.2 c hc)⟩
theorem jO {pr:List Nat→Option (List Nat)} {l:List Rl} (A:Acc pr l) {c:Nat} (h1:97≤c) (h2:c≤122):∃ (k:Nat) (x:Rl),l[k]?=some x∧x.aE=1∧x.left=[c]:=by
 have hm:=A.all
 unfold lP at hm
 have hw:((1:Int),[c]) ∈ fM:=by
  unfold fM
  refine List.mem_append_left _ (List.mem_map.2 ⟨c - 97,List.mem_range.2 (by omega),?_⟩)
  rw[show 97+(c - 97)=c by omega]
 have hh:hasB l (1,[c])=true:=by
  cases hb:hasB l (1,[c]) with
  | true=>rfl
  | false =>
   cases hf:fM.find? fun w=>!hasB l w with
   | none =>
    have:=List.find?_eq_none.1 hf _ hw
    rw[hb]at this
    exact absurd rfl this
   | some w =>
    rw[hf]at hm
    have hwm:=List.mem_of_find?_eq_some hf
    have ne:∀ w ∈ fM,w.2≠[]:=by decide +kernel
    exact absurd hm (ne w hwm)
 unfold hasB at hh
 obtain⟨x,hx,hd⟩:=List.any_eq_true.1 hh
 obtain⟨k,hk,e⟩:=List.getElem_of_mem hx
 obtain⟨d1,d2⟩:=of_decide_eq_true hd
 exact⟨k,x,by rw[← e];exact List.getElem?_eq_getElem hk,d1,d2⟩
theorem iR {pr:List Nat→Option (List Nat)} {l:List Rl} (A:Acc pr l) {s:List Nat} (hs:jJ s=true) {p:Nat} (hp:p<s.length) {most:Int} (hm:0<most):∃ k x,dC l s p most=some k∧Best l s p most k x:=by
 cases hb:dC l s p most with
 | some k =>
  obtain⟨x,h⟩:=mT hb
  exact⟨k,x,rfl,h⟩
 | none =>
  have hc:=(EH hs).2 s[p] (List.getElem_mem hp)
  obtain⟨k,x,h1,h2,h3⟩:=jO A hc.1 hc.2
  have:=DC hb h1
  unfold dH at this
  rw[hs,decide_eq_true (p:=(0:Int)≤(p:Int)∧(p:Int)<(s.length:Int)) ⟨by omega,by omega⟩,decide_eq_true (p:=x.left≠[]∧(x.left.length:Int)≤most) ⟨by rw[h3];simp,by rw[h3];simp;omega⟩,
   List.isPrefixOf_iff_prefix.2 (show x.left <+: s.drop (p:Int).toNat by rw[h3,Int.toNat_natCast,List.drop_eq_getElem_cons hp];exact List.prefix_append [_] _)]at this
  unfold rC at this
  rw[decide_eq_true (.inl h2)]at this
  cases this
theorem YG {l:List Rl} {s:List Nat} {p most:Int} (h:¬ (jJ s=true∧0≤p∧p<s.length∧0<most)):dC l s p most=none:=by
 cases hb:dC l s p most with
 | none=>rfl
 | some k =>
  obtain⟨x,g⟩:=mT hb
  obtain⟨h1,h2,h3,h4,h5,-,-⟩:=eP g.mQ
  have h6:0<x.left.length:=List.length_pos_iff.2 h4
  exact absurd ⟨h1,h2,h3,by omega⟩ h
def aK (l:List Rl) (k:Nat):Nat:=(l[k]?.map (·.left.length)).getD 0
def E8 (l:List Rl) (s:List Nat):Nat→Nat→List Nat
 | 0,_=>[]
 | n+1,p=>if p<s.length then match dC l s p s.length with | some k=>k::E8 l s n (p+aK l k) | none=>[] else []
def gZ (l:List Rl) (s:List Nat) (p:Int):List Nat:=if jJ s=true∧0≤p then E8 l s (s.length - p.toNat) p.toNat else []
theorem DE {pr:List Nat→Option (List Nat)} {l:List Rl} (A:Acc pr l) {s:List Nat} (hs:jJ s=true):∀ (n m p:Nat),s.length - p≤n→s.length - p≤m→E8 l s n p=E8 l s m p
 | 0,m,p,h1,_=>by
  have:¬ p<s.length:=by omega
  cases m with
  | zero=>rfl
  | succ m=>show []=(if p<s.length then _ else []);rw[if_neg this]
 | n+1,m,p,h1,h2=>by
  by_cases hp:p<s.length
  ·cases m with
   | zero=>omega
   | succ m =>
    show (if p<s.length then _ else [])=(if p<s.length then _ else [])
    rw[if_pos hp,if_pos hp]
    obtain⟨k,x,hb,h⟩:=iR A hs hp (most:=s.length) (by omega)
    rw[hb]
    have hl:aK l k=x.left.length:=by unfold aK;rw[h.at'];rfl
    have:=(jK h.mQ).2
    show k::E8 l s n (p+aK l k)=k::E8 l s m (p+aK l k)
    rw[DE A hs n m (p+aK l k) (by omega) (by omega)]
  ·cases m with
   | zero=>show (if p<s.length then _ else [])=[];rw[if_neg hp]
   | succ m=>show (if p<s.length then _ else [])=(if p<s.length then _ else []);rw[if_neg hp,if_neg hp]
theorem kW {pr:List Nat→Option (List Nat)} {l:List Rl} (A:Acc pr l) {s:List Nat} (hs:jJ s=true) {p:Nat} (hp:p<s.length) :
  ∃ k x,Best l s p s.length k x∧dC l s p s.length=some k∧gZ l s (p:Int)=k::gZ l s ((p+x.left.length:Nat):Int)∧0<x.left.length∧p+x.left.length≤s.length:=by
 obtain⟨k,x,hb,h⟩:=iR A hs hp (most:=s.length) (by omega)
 have hl:aK l k=x.left.length:=by unfold aK;rw[h.at'];rfl
 have h2:=jK h.mQ
 refine⟨k,x,h,hb,?_,h2.2,by omega⟩
 unfold gZ
 rw[if_pos ⟨hs,by omega⟩,if_pos ⟨hs,by omega⟩,Int.toNat_natCast,Int.toNat_natCast]
 obtain⟨n,hn⟩:∃ n,s.length - p=n+1:=⟨s.length - p - 1,by omega⟩
 rw[hn]
 show (if p<s.length then _ else [])=_
 rw[if_pos hp,hb]
 show k::E8 l s n (p+aK l k)=_
 rw[hl,DE A hs n (s.length - (p+x.left.length)) (p+x.left.length) (by omega) (Nat.le_refl _)]
theorem lT {l:List Rl} {s:List Nat} {p:Int} (h:¬ (jJ s=true∧0≤p∧p<s.length)):gZ l s p=[]:=by
 unfold gZ
 by_cases h1:jJ s=true∧0≤p
 ·rw[if_pos h1]
  have:s.length - p.toNat=0:=by
   have:¬ p<s.length:=fun k=>h ⟨h1.1,h1.2,k⟩
   omega
  rw[this];rfl
 ·rw[if_neg h1]
theorem VO (S:ByteArray) (j:Nat) (hj:j<S.size):Hc.kc S j=Hc.cls (((aA S).getD j 0:Nat):Int):=by
 unfold Hc.kc Hc.aV aA
 congr 2
 rw[List.getD_eq_getElem?_getD,List.getD_eq_getElem?_getD,List.getElem?_map]
 have:j<S.data.toList.length:=by simpa using hj
 rw[List.getElem?_eq_getElem this];rfl
theorem S8:∀ c:Fin 256,(Hc.cls ((c.val:Nat):Int)=1↔aW c.val=true):=by decide +kernel
theorem E9 (S:ByteArray):∀ n,up S n=0↔∀ j,j<n→Hc.kc S j≠2
 | 0=>⟨fun _ j h=>by omega,fun _=>rfl⟩
 | n+1=>by
  have ih:=E9 S n
  have e:up S (n+1)=up S n+if Hc.kc S n=2 then 1 else 0:=rfl
  rw[e]
  constructor
  ·intro h j hj
   by_cases hn:Hc.kc S n=2
   ·rw[if_pos hn]at h;omega
   ·rw[if_neg hn]at h
    by_cases hjn:j=n
    ·rw[hjn];exact hn
    ·exact ih.1 (by omega) j (by omega)
  ·intro h
   rw[if_neg (h n (by omega)),ih.2 fun j hj=>h j (by omega)]
theorem YH (S:ByteArray):j7 S=1↔jJ (aA S)=true:=by
 have hlen:=aD S
 have hk:∀ j,j<S.size→(Hc.kc S j=1↔aW ((aA S).getD j 0)=true):=fun j hj=>by
  rw[VO S j hj]
  have hlt:(aA S).getD j 0<256:=by
   rw[List.getD_eq_getElem?_getD,List.getElem?_eq_getElem (by omega)]
   exact iT S _ (List.getElem_mem _)
  exact S8 ⟨_,hlt⟩
 have hall:((aA S).all aW=true)↔∀ j,j<S.size→Hc.kc S j=1:=by
  rw[List.all_eq_true]
  constructor
  ·intro h j hj
   refine(hk j hj).2 (h _ ?_)
   rw[List.getD_eq_getElem?_getD,List.getElem?_eq_getElem (by omega)]
   exact List.getElem_mem _
  ·intro h c hc
   obtain⟨j,hj,e⟩:=List.getElem_of_mem hc
   have:=(hk j (by omega)).1 (h j (by omega))
   rw[List.getD_eq_getElem?_getD,List.getElem?_eq_getElem hj]at this
   rw[← e];exact this
 unfold jJ
 rw[Bool.and_eq_true,hall]
 by_cases h0:S.size=0
 ·have e:j7 S=0:=by unfold j7;rw[if_pos h0]
  rw[e]
  constructor
  ·intro h;exact absurd h (by decide)
  ·intro h
   have:aA S=[]:=List.length_eq_zero_iff.1 (by omega)
   rw[this]at h
   exact absurd h.1 (by decide)
 ·have hne:(!(aA S).isEmpty)=true:=by
   cases hb:aA S with
   | nil=>rw[hb]at hlen;simp at hlen;omega
   | cons a b=>rfl
  rw[hne]
  by_cases hL:BH S S.size
  ·rw[mV S hL]
   unfold eY
   rw[if_neg h0]
   constructor
   ·intro h
    refine⟨rfl,fun j hj=>?_⟩
    have hu:up S S.size=0:=by
     by_cases hu:up S S.size=0
     ·exact hu
     ·rw[if_neg hu]at h
      split at h
      ·exact absurd h (by decide)
      ·split at h
       ·exact absurd h (by decide)
       ·exact absurd h (by decide)
    exact(hL j hj).resolve_right ((E9 S S.size).1 hu j hj)
   ·rintro⟨-,h⟩
    rw[if_pos ((E9 S S.size).2 fun j hj=>by rw[h j hj];decide)]
  ·rw[sS S hL]
   constructor
   ·intro h;exact absurd h (by decide)
   ·rintro⟨-,h⟩
    exact absurd (fun j hj=>.inl (h j hj)) hL
end Go.Proofs.YthbigkoihpgcfaaGreatDoor.Pa
namespace Go.Proofs.YthbigkoihpgcfaaGreatDoor.Ti
open Go.RowKit Ba Ru
theorem JF:(Tryz.prog.info? 3).map (fun i=>(i.zero,i.size,i.bytes))=some (some (.int .i64 0),1,8):=by kernel_rfl
def iV (ks:List Nat):List Value:=ks.map fun(k:Nat)=>.int .i64 (k:Int)
theorem PL (ks:List Nat) (k:Nat):iV (ks++[k])=iV ks++[.int .i64 (k:Int)]:=by unfold iV;rw[List.map_append];rfl
theorem aK3 {W:World} {B g n c k s:Nat} {ks:List Nat} (h:W.ownsRow B 3 1 (.slice (some ⟨g,0,none⟩) n c) n (iV ks)) (hk:k<n) (hs:ks[k]?=some s):W.cell? ⟨g,k,none⟩=some (.int .i64 (s:Int)):=by
 rw[h.cellAt k (by omega)]
 unfold iV
 rw[List.getElem?_map,hs]
 rfl
end Go.Proofs.YthbigkoihpgcfaaGreatDoor.Ti
namespace Go.Proofs.YthbigkoihpgcfaaGreatDoor.Pa
open Go.RowKit Ba Ru Ck Ti
structure bZ (W:World) (g o:Nat) (q:Int) (S T:ByteArray) (p n:Int):Prop where
 c0:W.cell? ⟨g,o,none⟩=some (.int .i64 q)
 c1:W.cell? ⟨g,o+1,none⟩=some (.string S)
 c2:W.cell? ⟨g,o+2,none⟩=some (.string T)
 c3:W.cell? ⟨g,o+3,none⟩=some (.int .i64 p)
 c4:W.cell? ⟨g,o+4,none⟩=some (.int .i64 n)
theorem bZ.below {W W':World} {g o:Nat} {q p n:Int} {S T:ByteArray} (h:bZ W g o q S T p n) {B:Nat} (hb:Below B W W') (hg:g<B):bZ W' g o q S T p n :=
 ⟨(hb.cell (p:=⟨g,o,none⟩) hg).trans h.c0,(hb.cell (p:=⟨g,o+1,none⟩) hg).trans h.c1,(hb.cell (p:=⟨g,o+2,none⟩) hg).trans h.c2,(hb.cell (p:=⟨g,o+3,none⟩) hg).trans h.c3,(hb.cell (p:=⟨g,o+4,none⟩) hg).trans h.c4⟩
theorem DF {off:Nat} {w:World} {B n c:Nat} {A:Option Addr} {l:List Rl} (h:dZ off w B (.slice A n c) l) {k:Nat} {x:Rl} (hx:l[k]?=some x) :
  ∃ g,A=some ⟨g,off,none⟩∧g<B∧bZ w g (off+k * 5) x.aE (bytesOf x.left) (bytesOf x.cells) x.prio x.line:=by
 obtain⟨A',c',e,hA⟩:=h
 injection e with e1 e2 e3
 subst e1
 obtain⟨g,hg,hgw,hc⟩:=hA (by have:=(List.getElem?_eq_some_iff.1 hx).1;omega)
 obtain⟨g0,g1,g2,g3,g4⟩:=wD hc k x hx
 exact⟨g,hg,hgw,g0,g1,g2,g3,g4⟩
theorem J6 (l:List Rl) (s:List Nat):∀ n p,(E8 l s n p).length≤n
 | 0,_=>Nat.le_refl _
 | n+1,p=>by
  show (if p<s.length then match dC l s p s.length with | some k=>k::E8 l s n (p+aK l k) | none=>[] else []).length≤n+1
  split
  ·split
   ·rename_i k _
    have:=J6 l s n (p+aK l k)
    rw[List.length_cons];omega
   ·exact Nat.zero_le _
  ·exact Nat.zero_le _
theorem IC (l:List Rl) (s:List Nat) (p:Int):(gZ l s p).length≤s.length:=by
 unfold gZ
 split
 ·exact Nat.le_trans (J6 ..) (Nat.sub_le _ _)
 ·exact Nat.zero_le _
structure aD5 (T:bT):Prop where
 best:∀ {t:Value} {l:List Rl} {lo hi:Nat} (S:ByteArray) (p most:Int),S.size≤2000→oI p→oI most→l.length≤1000→Acc dM l→kD l→∀ w:World,bH w→T.Is w t l lo hi→Calls Tryz.prog 231 #[t,.string S,.int .i64 p,.int .i64 most] w fun e w' =>
  e=.returned (.tuple #[.int .i64 (mY (dC l (aA S) p most)),.bool (okV (dC l (aA S) p most))])∧Below w.heap.size w w'
 all:∀ {t:Value} {l:List Rl} {lo hi:Nat} (S:ByteArray) (p:Int),S.size≤2000→oI p→l.length≤1000→Acc dM l→kD l→∀ w:World,bH w→T.Is w t l lo hi→Calls Tryz.prog 212 #[t,.string S,.int .i64 p] w fun e w' =>
  ∃ v,e=.returned v∧w'.ownsRow w.heap.size 3 1 v (gZ l (aA S) p).length (iV (gZ l (aA S) p))∧Below w.heap.size w w'
end Go.Proofs.YthbigkoihpgcfaaGreatDoor.Pa
