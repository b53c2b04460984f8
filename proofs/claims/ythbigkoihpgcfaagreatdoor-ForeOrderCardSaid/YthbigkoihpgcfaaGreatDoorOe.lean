/-
  Put together.
-/
import Derived.Test.YthbigkoihpgcfaaGreatDoorSf
import Derived.Test.YthbigkoihpgcfaaGreatDoorUa
namespace Go.Proofs.YthbigkoihpgcfaaGreatDoor.Fl
open Go.RowKit Tr Nu Nl Cn
def chT (pl:Int) (s:ByteArray) (n:Nat):List Tk:=(List.range n).map fun i=>⟨1,Lx.aV s i,wrap64 (pl+(i:Int))⟩
theorem W8 (pl:Int) (s:ByteArray) (n:Nat):chT pl s (n+1)=chT pl s n++[⟨1,Lx.aV s n,wrap64 (pl+(n:Int))⟩]:=by
 unfold chT;rw[List.range_succ,List.map_append];rfl
def XA (l:List Tk):Int:=match l.getLast? with | some y=>y.place | none=>0
def stepT (st:List Tk × List Nat) (x:Ev):List Tk × List Nat :=
 if x.kind=1 then (st.1++chT x.place x.text x.text.size,st.2)
 else if x.kind=2 then (st.1++[⟨2,x.name,x.place⟩],st.2++[x.name])
 else (st.1++[⟨3,st.2.getLastD 0,XA st.1⟩],st.2.dropLast)
theorem nD {o:List Tk} {S:List Nat} {x:Ev} (h:x.kind=1):stepT (o,S) x=(o++chT x.place x.text x.text.size,S):=by unfold stepT;rw[if_pos h]
theorem JN {o:List Tk} {S:List Nat} {x:Ev} (h:x.kind=2):stepT (o,S) x=(o++[⟨2,x.name,x.place⟩],S++[x.name]):=by unfold stepT;rw[if_neg (by omega),if_pos h]
theorem JO {o:List Tk} {S:List Nat} {k:Nat}:stepT (o,S++[k]) clE=(o++[⟨3,k,XA o⟩],S):=by
 unfold stepT
 rw[if_neg (by decide),if_neg (by decide),List.getLastD_concat,List.dropLast_concat]
def eM (st:Option (List Ev × List Nat)) (x:Tk):Option (List Ev × List Nat) :=
 match st with
 | none=>none
 | some (E,S) =>
  if x.kind=1 then some (nE E (JP (jZ x.ch) x.place),S)
  else if x.kind=2 then some (E++[opE x.ch x.place],S++[x.ch])
  else if x.kind=3 then (match S.getLast? with | some k=>if k=x.ch then some (E++[clE],S.dropLast) else none | none=>none)
  else none
def aM (l:List Tk):Option (List Ev × List Nat):=l.foldl eM (some ([],[]))
def pI (l:List Tk):Option (List Nd):=match aM l with | some (E,[])=>some (jY E) | _=>none
def zU (x:Tk):Int × Nat:=(x.kind,x.ch)
theorem zV {c:Nat} (h:c<256):Lx.aV (jZ c) 0=c:=by
 unfold Lx.aV jZ
 rw[Lx.aB [c] (by intro x hx;rw[List.mem_singleton]at hx;omega)];rfl
theorem XB (pl:Int) (s:ByteArray) {c:Nat} (h:c<256):(chT pl (s++jZ c) (s.size+1)).map zU=(chT pl s s.size).map zU++[(1,c)]:=by
 rw[W8,List.map_append]
 congr 1
 ·unfold chT
  rw[List.map_map,List.map_map]
  refine List.map_congr_left (fun i hi=>?_)
  show ((1:Int),Lx.aV (s++jZ c) i)=(1,Lx.aV s i)
  rw[Lx.XC _ _ _ (List.mem_range.1 hi)]
 ·show [((1:Int),Lx.aV (s++jZ c) s.size)]=[(1,c)]
  have:=Lx.SP s (jZ c) 0
  rw[Nat.add_zero,zV h]at this
  rw[this]
def aC4 (x:Ev):Prop:=(∃ s pl,x=JP s pl)∨(∃ k pl,x=opE k pl)∨x=clE
theorem nX:∀ l:List Tk,l.foldl eM none=none
 | []=>rfl
 | _::l=>nX l
theorem CZ (l:List Tk):(∀ x ∈ l,x.ch<256)→∀ E S,aM l=some (E,S)→(E.foldl stepT ([],[])).1.map zU=l.map zU∧(E.foldl stepT ([],[])).2=S∧dep 0 E=some S.length∧∀ x ∈ E,aC4 x:=by
 refine mP (P:=fun l=>(∀ x ∈ l,x.ch<256)→∀ E S,aM l=some (E,S)→(E.foldl stepT ([],[])).1.map zU=l.map zU∧(E.foldl stepT ([],[])).2=S∧dep 0 E=some S.length∧∀ x ∈ E,aC4 x) ?_ ?_ l.length l rfl
 ·intro _ E S h
  cases h
  exact⟨rfl,rfl,rfl,fun x hx=>by cases hx⟩
 ·intro l x ih hl E S h
  have hx:x.ch<256:=hl x (by simp)
  unfold aM at h
  rw[List.foldl_append]at h
  cases hp:aM l with
  | none =>
   unfold aM at hp
   rw[hp]at h
   have h:eM none x=some (E,S):=h
   cases h
  | some q =>
   obtain⟨E0,S0⟩:=q
   obtain⟨i1,i2,i3,i4⟩:=ih (fun y hy=>hl y (by simp[hy])) E0 S0 hp
   unfold aM at hp
   rw[hp]at h
   have h:eM (some (E0,S0)) x=some (E,S):=h
   unfold eM at h
   simp only[]at h
   rw[List.map_append]
   by_cases h1:x.kind=1
   ·rw[if_pos h1]at h
    have h:=Option.some.inj h
    obtain⟨rfl,rfl⟩:=Prod.mk.inj h
    have hxk:[x].map zU=[((1:Int),x.ch)]:=by show [zU x]=_;unfold zU;rw[h1]
    have hz:(JP (jZ x.ch) x.place).text.size≠0:=by rw[show (JP (jZ x.ch) x.place).text.size=1 from rfl];decide
    rcases List.eq_nil_or_concat E0 with rfl | ⟨A,y,rfl⟩
    ·rw[dV rfl hz nF]
     refine⟨?_,?_,?_,fun z hz=>?_⟩
     ·show (stepT ([],[]) (JP (jZ x.ch) x.place)).1.map zU=_
      rw[nD rfl,hxk,← i1]
      show [((1:Int),Lx.aV (jZ x.ch) 0)]=_
      rw[zV hx];rfl
     ·exact i2
     ·exact i3
     ·rw[List.nil_append,List.mem_singleton]at hz;exact .inl ⟨_,_,hz⟩
    ·rw[List.concat_eq_append]at i1 i2 i3 i4 ⊢
     by_cases hy:y.kind=1
     ·rw[lB rfl hz hy]
      rw[List.foldl_append]at i1 i2
      have hy2:({ y with text:=y.text++(JP (jZ x.ch) x.place).text }:Ev).kind=1:=hy
      refine⟨?_,?_,?_,fun z hz2=>?_⟩
      ·rw[List.foldl_append]
       generalize A.foldl stepT ([],[])=st at i1 i2
       obtain⟨o,T⟩:=st
       have i1:(stepT (o,T) y).1.map zU=l.map zU:=i1
       show (stepT (o,T) { y with text:=y.text++(JP (jZ x.ch) x.place).text }).1.map zU=_
       rw[nD hy]at i1
       rw[nD hy2,← i1,hxk,List.map_append,List.map_append,List.append_assoc]
       congr 1
       show (chT y.place (y.text++jZ x.ch) (y.text++jZ x.ch).size).map zU=_
       rw[ByteArray.size_append,show (jZ x.ch).size=1 from rfl]
       exact XB y.place y.text hx
      ·rw[List.foldl_append]
       generalize A.foldl stepT ([],[])=st at i1 i2
       obtain⟨o,T⟩:=st
       have i2:(stepT (o,T) y).2=S0:=i2
       show (stepT (o,T) { y with text:=y.text++(JP (jZ x.ch) x.place).text }).2=_
       rw[nD hy]at i2
       rw[nD hy2];exact i2
      ·rw[s9]at i3 ⊢
       rw[← i3]
       rfl
      ·rcases List.mem_append.1 hz2 with g | g
       ·exact i4 z (List.mem_append_left _ g)
       ·rw[List.mem_singleton]at g
        rcases i4 y (by simp) with⟨s,pl,rfl⟩ | ⟨k,pl,rfl⟩ | rfl
        ·exact .inl ⟨_,_,g⟩
        ·cases hy
        ·cases hy
     ·rw[dV rfl hz (lC hy)]
      refine⟨?_,?_,?_,fun z hz2=>?_⟩
      ·rw[List.foldl_append]
       generalize hst:(A++[y]).foldl stepT ([],[])=st at i1 i2
       obtain⟨o,T⟩:=st
       show (stepT (o,T) (JP (jZ x.ch) x.place)).1.map zU=_
       rw[nD rfl,List.map_append,hxk]
       simp only[]at i1
       rw[i1]
       show _++[((1:Int),Lx.aV (jZ x.ch) 0)]=_
       rw[zV hx]
      ·rw[List.foldl_append]
       generalize hst:(A++[y]).foldl stepT ([],[])=st at i1 i2
       obtain⟨o,T⟩:=st
       exact i2
      ·rw[s9,i3];rfl
      ·rcases List.mem_append.1 hz2 with g | g
       ·exact i4 z g
       ·rw[List.mem_singleton]at g;exact .inl ⟨_,_,g⟩
   ·rw[if_neg h1]at h
    by_cases h2:x.kind=2
    ·rw[if_pos h2]at h
     have h:=Option.some.inj h
     obtain⟨rfl,rfl⟩:=Prod.mk.inj h
     have hxk:[x].map zU=[((2:Int),x.ch)]:=by show [zU x]=_;unfold zU;rw[h2]
     rw[List.foldl_append]
     generalize hst:E0.foldl stepT ([],[])=st at i1 i2
     obtain⟨o,T⟩:=st
     simp only[]at i1 i2
     subst i2
     refine⟨?_,?_,?_,fun z hz=>?_⟩
     ·show (stepT (o,T) (opE x.ch x.place)).1.map zU=_
      rw[JN rfl,List.map_append,hxk,i1];rfl
     ·show (stepT (o,T) (opE x.ch x.place)).2=_
      rw[JN rfl];rfl
     ·rw[s9,i3,List.length_append];rfl
     ·rcases List.mem_append.1 hz with g | g
      ·exact i4 z g
      ·rw[List.mem_singleton]at g;exact .inr (.inl ⟨_,_,g⟩)
    ·rw[if_neg h2]at h
     by_cases h3:x.kind=3
     ·rw[if_pos h3]at h
      have hxk:[x].map zU=[((3:Int),x.ch)]:=by show [zU x]=_;unfold zU;rw[h3]
      rcases List.eq_nil_or_concat S0 with rfl | ⟨S',k,rfl⟩
      ·cases h
      ·rw[List.concat_eq_append]at h i2 i3
       rw[List.getLast?_concat]at h
       simp only[]at h
       by_cases hk:k=x.ch
       ·rw[if_pos hk,List.dropLast_concat]at h
        have h:=Option.some.inj h
        obtain⟨rfl,rfl⟩:=Prod.mk.inj h
        rw[List.foldl_append]
        generalize hst:E0.foldl stepT ([],[])=st at i1 i2
        obtain⟨o,T⟩:=st
        simp only[]at i1 i2
        subst i2
        refine⟨?_,?_,?_,fun z hz=>?_⟩
        ·show (stepT (o,S'++[k]) clE).1.map zU=_
         rw[JO,List.map_append,hxk,i1,hk];rfl
        ·show (stepT (o,S'++[k]) clE).2=_
         rw[JO]
        ·rw[s9,i3,List.length_append];rfl
        ·rcases List.mem_append.1 hz with g | g
         ·exact i4 z g
         ·rw[List.mem_singleton]at g;exact .inr (.inr g)
       ·rw[if_neg hk]at h;cases h
     ·rw[if_neg h3]at h;cases h
theorem JM {l:List Tk} {t:List Nd} (h:pI l=some t):∃ E,aM l=some (E,[])∧t=jY E:=by
 unfold pI at h
 cases hp:aM l with
 | none=>rw[hp]at h;cases h
 | some q =>
  obtain⟨E,S⟩:=q
  rw[hp]at h
  cases S with
  | nil=>exact⟨E,rfl,(Option.some.inj h).symm⟩
  | cons a S=>cases h
def nY (c a:Nat):Bool:=if c=10 then false else if c=32 then decide (a≠32) && decide (a≠0) else true
def chW (st:Option (List Nat)) (c:Nat):Option (List Nat):=match st with
 | none=>none
 | some S=>match S.getLast? with
  | none=>none
  | some a=>if nY c a=true then some (S.dropLast++[c]) else none
def gV (st:Option (List Nat)) (x:Tk):Option (List Nat) :=
 if x.kind=1 then chW st x.ch
 else match st with
 | none=>none
 | some S=>if dF x.ch=false then some S else if x.kind=2 then some (S++[0]) else if S.getLastD 0=32 then none else some S.dropLast
def tA (l:List Tk):Option (List Nat):=l.foldl gV (some [])
def mG (l:List Tk):Bool:=(tA l).isNone
theorem C4 (l:List Tk) (x:Tk):tA (l++[x])=gV (tA l) x:=by unfold tA;rw[List.foldl_append];rfl
theorem ER {st:Option (List Nat)} {x:Tk} (h:x.kind=1):gV st x=chW st x.ch:=by unfold gV;rw[if_pos h]
theorem zW (x:Tk):gV none x=none:=by unfold gV;split<;>rfl
theorem PO {S:List Nat} {x:Tk} (h:x.kind=2):gV (some S) x=some (if dF x.ch=true then S++[0] else S):=by
 unfold gV
 rw[if_neg (by omega)]
 simp only[]
 cases hf:dF x.ch
 ·rw[if_pos rfl];rfl
 ·rw[if_neg (by decide),if_pos h];rfl
theorem PQ {S:List Nat} {x:Tk} (h:x.kind=3):gV (some S) x=if dF x.ch=false then some S else if S.getLastD 0=32 then none else some S.dropLast:=by
 unfold gV
 rw[if_neg (by omega)]
 simp only[]
 split
 ·rfl
 ·rw[if_neg (by omega)]
theorem aJF {c:Nat} (h:c<256):Lx.aA (jZ c)=[c]:=Lx.aB [c] (by intro x hx;rw[List.mem_singleton]at hx;omega)
theorem aBL {S S':List Nat} {c:Nat} (h:chW (some S) c=some S'):S'.length=S.length∧S≠[]:=by
 unfold chW at h
 simp only[]at h
 rcases List.eq_nil_or_concat S with rfl | ⟨T,a,rfl⟩
 ·cases h
 ·rw[List.concat_eq_append]at h ⊢
  rw[List.getLast?_concat]at h
  simp only[]at h
  split at h
  ·have h:=Option.some.inj h
   rw[← h,List.dropLast_concat,List.length_append,List.length_append]
   exact⟨rfl,by simp⟩
  ·cases h
theorem PR (l:List Tk):∀ E K S,aM l=some (E,K)→tA l=some S→S.length=(K.filter dF).length:=by
 refine mP (P:=fun l=>∀ E K S,aM l=some (E,K)→tA l=some S→S.length=(K.filter dF).length) ?_ ?_ l.length l rfl
 ·intro E K S h h2
  cases h
  cases h2
  rfl
 ·intro l x ih E K S h hS
  unfold aM at h
  rw[List.foldl_append]at h
  cases hp:aM l with
  | none =>
   unfold aM at hp
   rw[hp]at h
   have h:eM none x=some (E,K):=h
   cases h
  | some q =>
   obtain⟨E0,K0⟩:=q
   rw[C4]at hS
   cases hW:tA l with
   | none=>rw[hW,zW]at hS;cases hS
   | some S0 =>
    have i1:=ih E0 K0 S0 hp hW
    rw[hW]at hS
    unfold aM at hp
    rw[hp]at h
    have h:eM (some (E0,K0)) x=some (E,K):=h
    unfold eM at h
    simp only[]at h
    by_cases h1:x.kind=1
    ·rw[if_pos h1]at h
     have h:=Option.some.inj h
     obtain⟨rfl,rfl⟩:=Prod.mk.inj h
     rw[ER h1]at hS
     rw[(aBL hS).1,i1]
    ·rw[if_neg h1]at h
     by_cases h2:x.kind=2
     ·rw[if_pos h2]at h
      have h:=Option.some.inj h
      obtain⟨rfl,rfl⟩:=Prod.mk.inj h
      rw[PO h2]at hS
      have hS:=Option.some.inj hS
      rw[← hS,List.filter_append]
      cases hf:dF x.ch
      ·rw[if_neg (by decide),i1];simp[hf]
      ·rw[if_pos rfl];simp[hf,i1]
     ·rw[if_neg h2]at h
      by_cases h3:x.kind=3
      ·rw[if_pos h3]at h
       rcases List.eq_nil_or_concat K0 with rfl | ⟨K',k,rfl⟩
       ·cases h
       ·rw[List.concat_eq_append]at h i1
        rw[List.getLast?_concat]at h
        simp only[]at h
        by_cases hk:k=x.ch
        ·rw[if_pos hk,List.dropLast_concat]at h
         have h:=Option.some.inj h
         obtain⟨rfl,rfl⟩:=Prod.mk.inj h
         rw[PQ h3]at hS
         rw[List.filter_append]at i1
         subst hk
         cases hf:dF x.ch
         ·rw[hf,if_pos rfl]at hS
          have hS:=Option.some.inj hS
          rw[← hS,i1];simp[hf]
         ·rw[hf,if_neg (by decide)]at hS
          split at hS
          ·cases hS
          ·have hS:=Option.some.inj hS
           rw[← hS,List.length_dropLast,i1];simp[hf]
        ·rw[if_neg hk]at h;cases h
      ·rw[if_neg h3]at h;cases h
theorem SR {l:List Tk} {x:Tk} {q:List Ev × List Nat} {S:List Nat} (h:aM (l++[x])=some q) (hS:tA l=some S) (h3:x.kind=3) (hf:dF x.ch=true):S≠[]:=by
 rintro rfl
 unfold aM at h
 rw[List.foldl_append]at h
 cases hp:aM l with
 | none =>
  unfold aM at hp
  rw[hp]at h
  have h:eM none x=some q:=h
  cases h
 | some q0 =>
  obtain⟨E0,K0⟩:=q0
  have i1:=PR l E0 K0 [] hp hS
  unfold aM at hp
  rw[hp]at h
  have h:eM (some (E0,K0)) x=some q:=h
  unfold eM at h
  simp only[]at h
  rw[if_neg (by omega),if_neg (by omega),if_pos h3]at h
  rcases List.eq_nil_or_concat K0 with rfl | ⟨K',k,rfl⟩
  ·cases h
  ·rw[List.concat_eq_append]at h i1
   rw[List.getLast?_concat]at h
   simp only[]at h
   by_cases hk:k=x.ch
   ·rw[List.filter_append]at i1
    simp[hk,hf]at i1
   ·rw[if_neg hk]at h;cases h
theorem pL {l m:List Tk} {q:List Ev × List Nat} (h:aM (l++m)=some q):∃ q0,aM l=some q0:=by
 unfold aM at h ⊢
 rw[List.foldl_append]at h
 cases hp:l.foldl eM (some ([],[])) with
 | none=>rw[hp,nX]at h;cases h
 | some q0=>exact⟨q0,rfl⟩
theorem NM {l:List Tk} {x:Tk} {q:List Ev × List Nat} (h:aM (l++[x])=some q):x.kind=1∨x.kind=2∨x.kind=3:=by
 obtain⟨⟨E0,K0⟩,h0⟩:=pL h
 unfold aM at h h0
 rw[List.foldl_append,h0]at h
 have h:eM (some (E0,K0)) x=some q:=h
 unfold eM at h
 simp only[]at h
 by_cases h1:x.kind=1
 ·exact .inl h1
 ·by_cases h2:x.kind=2
  ·exact .inr (.inl h2)
  ·by_cases h3:x.kind=3
   ·exact .inr (.inr h3)
   ·rw[if_neg h1,if_neg h2,if_neg h3]at h;cases h
def WG (l:List Tk):List Nd × Nat:=match pI l with
 | none=>([],2)
 | some t=>if mG l=true then ([],2) else if NN t≠0 then ([],NN t) else (t,0)
def W5 (l:List Tk):Prop:=∀ E,aM l=some (E,[])→(jY E).length≤9000∧∀ x ∈ jY E,x.text.size≤9000
def C5 (l:List Tk):Nat→Nat→Nat
 | 0,e=>e
 | n+1,e=>match l[e]? with | some x=>if x.kind=1 then C5 l n (e+1) else e | none=>e
def eL (l:List Tk) (f:Nat):Nat:=max (C5 l l.length f) (f+1)
def XD (l:List Tk) (f e:Nat):Prop:=f≤e∧e≤l.length∧(∀ j x,f≤j→j<e→l[j]?=some x→x.kind=1)∧∀ x,l[e]?=some x→x.kind≠1
theorem zX (l:List Tk) (f:Nat):∀ n e,l.length - e≤n→f≤e→e≤l.length→(∀ j x,f≤j→j<e→l[j]?=some x→x.kind=1)→XD l f (C5 l n e)
 | 0,e,hn,hf,he,hj=>⟨hf,he,hj,fun x hx=>by
  have:=(List.getElem?_eq_some_iff.1 hx).1
  have e2:C5 l 0 e=e:=rfl
  omega⟩
 | n+1,e,hn,hf,he,hj=>by
  unfold C5
  cases hx:l[e]? with
  | none=>exact⟨hf,he,hj,fun x h=>by rw[hx]at h;cases h⟩
  | some x =>
   simp only[]
   have hl:=(List.getElem?_eq_some_iff.1 hx).1
   by_cases hk:x.kind=1
   ·rw[if_pos hk]
    refine zX l f n (e+1) (by omega) (by omega) (by omega) (fun j y h1 h2 hy=>?_)
    rcases Nat.eq_or_lt_of_le (show j≤e by omega)with rfl | h3
    ·rw[hx]at hy;cases hy;exact hk
    ·exact hj j y h1 h3 hy
   ·rw[if_neg hk]
    exact⟨hf,he,hj,fun y hy=>by rw[hx]at hy;cases hy;exact hk⟩
theorem XD.unique {l:List Tk} {f e e':Nat} (h:XD l f e) (h':XD l f e'):e=e':=by
 obtain⟨a1,a2,a3,a4⟩:=h
 obtain⟨b1,b2,b3,b4⟩:=h'
 rcases Nat.lt_trichotomy e e' with h | h | h
 ·have hx:=List.getElem?_eq_getElem (l:=l) (i:=e) (by omega)
  exact absurd (b3 e _ a1 h hx) (a4 _ hx)
 ·exact h
 ·have hx:=List.getElem?_eq_getElem (l:=l) (i:=e') (by omega)
  exact absurd (a3 e' _ b1 h hx) (b4 _ hx)
theorem ES {l:List Tk} {f e:Nat} (h:XD l f e) (hf:f≤l.length):eL l f=max e (f+1):=by
 unfold eL
 rw[(zX l f l.length f (by omega) (Nat.le_refl _) hf (fun j x h1 h2=>by omega)).unique h]
theorem lX {l:List Tk} {f:Nat} {x:Tk} (hx:l[f]?=some x):f<eL l f∧eL l f≤l.length∧(x.kind=1→(∀ j y,f≤j→j<eL l f→l[j]?=some y→y.kind=1)∧∀ y,l[eL l f]?=some y→y.kind≠1)∧(x.kind≠1→eL l f=f+1):=by
 have hl:=(List.getElem?_eq_some_iff.1 hx).1
 have h:=zX l f l.length f (by omega) (Nat.le_refl _) (by omega) (fun j x h1 h2=>by omega)
 have hp:=ES h (by omega)
 rw[hp]
 obtain⟨a1,a2,a3,a4⟩:=h
 generalize C5 l l.length f=e at *
 refine⟨by omega,by omega,fun hk=>?_,fun hk=>?_⟩
 ·have:f<e:=by
   rcases Nat.eq_or_lt_of_le a1 with h | h
   ·rw[← h]at a4
    exact absurd hk (a4 x hx)
   ·exact h
  rw[show max e (f+1)=e by omega]
  exact⟨a3,a4⟩
 ·rcases Nat.eq_or_lt_of_le a1 with h | h
  ·omega
  ·exact absurd (a3 f x (Nat.le_refl _) h hx) hk
def a8 (l:List Tk):Nat→Nat→List (Nat × Nat)
 | 0,_=>[]
 | n+1,f=>if f<l.length then (f,eL l f)::a8 l n (eL l f) else []
theorem wV (l:List Tk):∀ n m f,l.length - f≤n→l.length - f≤m→a8 l n f=a8 l m f
 | 0,0,f,_,_=>rfl
 | 0,m+1,f,h,_=>by unfold a8;rw[if_neg (by omega)]
 | n+1,0,f,_,h=>by
  have e:a8 l 0 f=[]:=rfl
  rw[e];unfold a8;rw[if_neg (by omega)]
 | n+1,m+1,f,h1,h2=>by
  unfold a8
  by_cases hf:f<l.length
  ·rw[if_pos hf,if_pos hf]
   have hp:=(lX (List.getElem?_eq_getElem hf)).1
   rw[wV l n m (eL l f) (by omega) (by omega)]
  ·rw[if_neg hf,if_neg hf]
def bU (l:List Tk) (f:Nat):List (Nat × Nat):=a8 l (l.length - f) f
theorem dG {l:List Tk} {f:Nat} (h:f<l.length):bU l f=(f,eL l f)::bU l (eL l f):=by
 unfold bU
 obtain⟨n,hn⟩:∃ n,l.length - f=n+1:=⟨l.length - f - 1,by omega⟩
 have hp:=(lX (List.getElem?_eq_getElem h)).1
 rw[hn]
 show (if f<l.length then (f,eL l f)::a8 l n (eL l f) else [])=_
 rw[if_pos h,wV l n (l.length - eL l f) (eL l f) (by omega) (Nat.le_refl _)]
theorem zY {l:List Tk} {f:Nat} (h:l.length≤f):bU l f=[]:=by
 unfold bU
 rw[show l.length - f=0 by omega];rfl
def dL (l:List Tk) (pre:List (Nat × Nat)) (p:Nat):Prop:=p≤l.length∧bU l 0=pre++bU l p
theorem dL.zero (l:List Tk):dL l [] 0:=⟨Nat.zero_le _,rfl⟩
theorem dL.succ {l:List Tk} {pre:List (Nat × Nat)} {p:Nat} (h:dL l pre p) (hp:p<l.length):dL l (pre++[(p,eL l p)]) (eL l p):=by
 refine⟨(lX (List.getElem?_eq_getElem hp)).2.1,?_⟩
 rw[h.2,dG hp];simp
theorem dL.next {l:List Tk} {pre:List (Nat × Nat)} {p:Nat} {x:Nat × Nat} (h:dL l pre p) (hx:pre++[x] <+: bU l 0):p<l.length∧x=(p,eL l p):=by
 rw[h.2,List.prefix_append_right_inj]at hx
 rcases Nat.lt_or_ge p l.length with hp | hp
 ·rw[dG hp]at hx
  obtain⟨R,hR⟩:=hx
  exact⟨hp,(List.cons.inj hR).1⟩
 ·rw[zY hp]at hx
  obtain⟨R,hR⟩:=hx
  cases hR
theorem dL.front {l:List Tk} {pre:List (Nat × Nat)} {p:Nat} (h:dL l pre p):pre <+: bU l 0:=⟨_,h.2.symm⟩
theorem dL.all {l:List Tk} {p:Nat} (h:dL l (bU l 0) p):p=l.length:=by
 obtain⟨h1,h2⟩:=h
 rcases Nat.lt_or_ge p l.length with hp | hp
 ·have:bU l p=[]:=by
   have:=congrArg List.length h2
   rw[List.length_append]at this
   exact List.eq_nil_of_length_eq_zero (by omega)
  rw[dG hp]at this;cases this
 ·omega
def JR (st:List Nd × List Nat) (x:Ev):List Nd × List Nat :=
 if x.kind=1 then (st.1++[LH x],st.2)
 else if x.kind=2 then (st.1++[⟨x.name,cJ,x.place,0⟩],st.2++[st.1.length])
 else (st.1.modify (st.2.getLastD 0) (aU ((st.1.length:Int) - (st.2.getLastD 0:Int))),st.2.dropLast)
def fB (E:List Ev):List Nd × List Nat:=E.foldl JR ([],[])
theorem lY (E:List Ev) (x:Ev):fB (E++[x])=JR (fB E) x:=by unfold fB;rw[List.foldl_append];rfl
theorem PS {st:List Nd × List Nat} {x:Ev} (h:x.kind=1):JR st x=(st.1++[LH x],st.2):=by unfold JR;rw[if_pos h]
theorem PT {st:List Nd × List Nat} {x:Ev} (h:x.kind=2):JR st x=(st.1++[⟨x.name,cJ,x.place,0⟩],st.2++[st.1.length]):=by unfold JR;rw[if_neg (by omega),if_pos h]
theorem PU {N:List Nd} {S:List Nat} {s:Nat} {x:Ev} (h1:x.kind≠1) (h2:x.kind≠2):JR (N,S++[s]) x=(N.modify s (aU ((N.length:Int) - (s:Int))),S):=by
 unfold JR
 rw[if_neg h1,if_neg h2]
 simp
structure ZOk (N T:List Nd) (S:List Nat):Prop where
 len:N.length=T.length
 closed:∀ j,j ∉ S→N[j]?=T[j]?
 aF9:∀ j:Nat,(N[j]?).map (aU 0)=(T[j]?).map (aU 0)
theorem vB (E:List Ev):∀ d,dep 0 E=some d→(fB E).2=(eS E).2∧ZOk (fB E).1 (eS E).1 (eS E).2:=by
 refine mP (P:=fun E=>∀ d,dep 0 E=some d→(fB E).2=(eS E).2∧ZOk (fB E).1 (eS E).1 (eS E).2) ?_ ?_ E.length E rfl
 ·intro d _
  exact⟨rfl,rfl,fun _ _=>rfl,fun _=>rfl⟩
 ·intro E x ih d hd
  rw[s9]at hd
  cases hE:dep 0 E with
  | none=>rw[hE]at hd;cases hd
  | some m =>
   rw[hE]at hd
   have hd:dep m [x]=some d:=hd
   have hlen:(eS E).2.length=m:=zZ E 0 m [] [] rfl hE
   have hg:=Nu.good_row hE
   obtain⟨i1,i2,i3,i4⟩:=ih m hE
   rw[lY,show eS (E++[x])=wE (eS E) x by rw[nZ];rfl]
   generalize fB E=P at *
   generalize eS E=Q at *
   obtain⟨N,S⟩:=P
   obtain⟨T,S'⟩:=Q
   simp only[]at i1 i2 i3 i4 hlen hg
   subst i1
   by_cases h1:x.kind=1
   ·rw[PS h1,rL h1]
    refine⟨rfl,by simp only[List.length_append,i2,List.length_singleton],fun j hj=>?_,fun j=>?_⟩
    ·rcases Nat.lt_or_ge j N.length with h | h
     ·rw[List.getElem?_append_left h,List.getElem?_append_left (by omega)];exact i3 j hj
     ·rw[List.getElem?_append_right h,List.getElem?_append_right (by omega),i2]
    ·rcases Nat.lt_or_ge j N.length with h | h
     ·rw[List.getElem?_append_left h,List.getElem?_append_left (by omega)];exact i4 j
     ·rw[List.getElem?_append_right h,List.getElem?_append_right (by omega),i2]
   ·by_cases h2:x.kind=2
    ·rw[PT h2,rM h2]
     refine⟨by simp only[i2],by simp only[List.length_append,i2,List.length_singleton],fun j hj=>?_,fun j=>?_⟩
     ·rcases Nat.lt_or_ge j N.length with h | h
      ·rw[List.getElem?_append_left h,List.getElem?_append_left (by omega)];exact i3 j (fun hm=>hj (List.mem_append_left _ hm))
      ·rcases Nat.eq_or_lt_of_le h with e | e
       ·exact absurd (by rw[← e,i2];simp) hj
       ·rw[List.getElem?_eq_none (by simp;omega),List.getElem?_eq_none (by simp;omega)]
     ·rcases Nat.lt_or_ge j N.length with h | h
      ·rw[List.getElem?_append_left h,List.getElem?_append_left (by omega)];exact i4 j
      ·rw[List.getElem?_append_right h,List.getElem?_append_right (by omega),i2]
       cases j - T.length with
       | zero =>
        show some (aU 0 (⟨x.name,cJ,x.place,0⟩:Nd))=some (aU 0 (LH x))
        unfold LH
        rw[if_neg h1];rfl
       | succ n=>simp
    ·cases m with
     | zero=>rw[NO h1 h2]at hd;cases hd
     | succ m =>
      obtain⟨S0,s,rfl⟩:=ET (l:=S) (by omega)
      rw[PU h1 h2,EU h1 h2]
      have hs:=(XE hg.aE6).1
      have hsl:=hg.lt s (by simp)
      refine⟨rfl,by simp only[List.length_modify,i2],fun j hj=>?_,fun j=>?_⟩
      ·show (N.modify s _)[j]?=(T.modify s _)[j]?
       rw[uN,uN,i2]
       have h4:=i4 j
       cases hN:N[j]? with
       | none =>
        cases hT:T[j]? with
        | none=>rfl
        | some y=>rw[hN,hT]at h4;cases h4
       | some z =>
        cases hT:T[j]? with
        | none=>rw[hN,hT]at h4;cases h4
        | some y =>
         rw[hN,hT]at h4
         have e:aU 0 z=aU 0 y:=Option.some.inj h4
         show some (if s=j then _ else z)=some (if s=j then _ else y)
         by_cases hsj:s=j
         ·rw[if_pos hsj,if_pos hsj]
          have e1:z.kind=y.kind:=(show (aU 0 z).kind=(aU 0 y).kind by rw[e])
          have e2:z.text=y.text:=(show (aU 0 z).text=(aU 0 y).text by rw[e])
          have e3:z.place=y.place:=(show (aU 0 z).place=(aU 0 y).place by rw[e])
          unfold aU
          rw[e1,e2,e3]
         ·rw[if_neg hsj,if_neg hsj]
          have h3:=i3 j (fun hm=>by
           rcases List.mem_append.1 hm with h | h
           ·exact hj h
           ·rw[List.mem_singleton]at h;exact hsj h.symm)
          rw[hN,hT]at h3
          exact h3
      ·show ((N.modify s _)[j]?).map (aU 0)=((T.modify s _)[j]?).map (aU 0)
       rw[uN,uN]
       have h4:=i4 j
       cases hN:N[j]? with
       | none =>
        cases hT:T[j]? with
        | none=>rfl
        | some y=>rw[hN,hT]at h4;cases h4
       | some z =>
        cases hT:T[j]? with
        | none=>rw[hN,hT]at h4;cases h4
        | some y =>
         rw[hN,hT]at h4
         have e:aU 0 z=aU 0 y:=Option.some.inj h4
         show some (aU 0 (if s=j then _ else z))=some (aU 0 (if s=j then _ else y))
         by_cases hsj:s=j
         ·rw[if_pos hsj,if_pos hsj]
          show some (aU 0 z)=some (aU 0 y)
          rw[e]
         ·rw[if_neg hsj,if_neg hsj,e]
theorem NP {E:List Ev} (h:Bal E):(fB E).1=jY E:=by
 obtain⟨-,h2⟩:=vB E 0 h
 have hS:(eS E).2=[]:=Bal.none h
 apply List.ext_getElem?
 intro j
 exact h2.closed j (by rw[hS];simp)
theorem rW {E:List Ev} {d:Nat} (h:dep 0 E=some d):(fB E).1.length=sI E:=by
 rw[(vB E d h).2.len];exact tB E
theorem xR {E:List Ev} {K:List Nat} (he:JS E) (c:Tk) (hc:c.kind=1) (cs:List Tk):(∀ x ∈ cs,x.kind=1)→(c::cs).foldl eM (some (E,K))=some (E++[JP (Lx.bytesOf ((c::cs).map Tk.ch)) c.place],K):=by
 refine mP (P:=fun cs=>(∀ x ∈ cs,x.kind=1)→(c::cs).foldl eM (some (E,K))=some (E++[JP (Lx.bytesOf ((c::cs).map Tk.ch)) c.place],K)) ?_ ?_ cs.length cs rfl
 ·intro _
  show eM (some (E,K)) c=_
  unfold eM
  simp only[]
  rw[if_pos hc,dV rfl (by rw[show (JP (jZ c.ch) c.place).text.size=1 from rfl];decide) he]
  rfl
 ·intro cs d ih hcs
  have i1:=ih (fun x hx=>hcs x (by simp[hx]))
  have hd:d.kind=1:=hcs d (by simp)
  rw[← List.cons_append,List.foldl_append,i1]
  rw[List.foldl_cons,List.foldl_nil]
  unfold eM
  simp only[]
  rw[if_pos hd,lB rfl (by rw[show (JP (jZ d.ch) d.place).text.size=1 from rfl];decide) rfl,List.map_append,Nu.jN]
  rfl
theorem kN (l m:List Tk):aM (l++m)=m.foldl eM (aM l):=by unfold aM;rw[List.foldl_append]
def XF (l:List Tk) (p:Nat) (E:List Ev):Prop:=∀ x,l[p]?=some x→x.kind=1→JS E
theorem XG {l:List Tk} {p:Nat} {x:Tk} (hx:l[p]?=some x) (hk:x.kind=1) {E:List Ev} {K:List Nat} (h:aM (l.take p)=some (E,K)) (hb:XF l p E) :
  aM (l.take (eL l p))=some (E++[JP (Lx.bytesOf (((l.drop p).take (eL l p - p)).map Tk.ch)) x.place],K)∧∀ E',XF l (eL l p) E':=by
 obtain⟨h1,h2,h3,-⟩:=lX hx
 obtain⟨h4,h5⟩:=h3 hk
 refine⟨?_,fun E' y hy hy1=>absurd hy1 (h5 y hy)⟩
 have hsplit:l.take (eL l p)=l.take p++(l.drop p).take (eL l p - p):=by
  rw[← List.take_add,show p+(eL l p - p)=eL l p by omega]
 rw[hsplit,kN,h]
 have hpl:=(List.getElem?_eq_some_iff.1 hx).1
 obtain⟨n,hn⟩:∃ n,eL l p - p=n+1:=⟨eL l p - p - 1,by omega⟩
 have hcons:(l.drop p).take (eL l p - p)=x::(l.drop (p+1)).take n:=by
  rw[hn,List.drop_eq_getElem_cons hpl,List.take_succ_cons]
  congr 1
  rw[List.getElem?_eq_getElem hpl]at hx
  exact Option.some.inj hx
 rw[hcons]
 refine xR (hb x hx hk) x hk _ (fun y hy=>?_)
 obtain⟨j,hj⟩:=List.mem_iff_getElem?.1 hy
 rw[List.getElem?_take]at hj
 split at hj
 ·rw[List.getElem?_drop]at hj
  exact h4 (p+1+j) y (by omega) (by omega) hj
 ·cases hj
theorem take_one {l:List Tk} {p:Nat} {x:Tk} (hx:l[p]?=some x):l.take (p+1)=l.take p++[x]:=by rw[List.take_add_one,hx];rfl
theorem JT {l:List Tk} {p:Nat} {E:List Ev} {y:Ev} (hy:y.kind≠1):XF l p (E++[y]):=fun _ _ _=>lC hy
theorem NQ {l:List Tk} {p:Nat} {x:Tk} (hx:l[p]?=some x) (hk:x.kind=2) {E:List Ev} {K:List Nat} (h:aM (l.take p)=some (E,K)) :
  eL l p=p+1∧aM (l.take (p+1))=some (E++[opE x.ch x.place],K++[x.ch]):=by
 refine⟨(lX hx).2.2.2 (by omega),?_⟩
 rw[take_one hx,kN,h]
 rw[List.foldl_cons,List.foldl_nil]
 unfold eM
 simp only[]
 rw[if_neg (by omega),if_pos hk]
theorem NR {l:List Tk} {p:Nat} {x:Tk} (hx:l[p]?=some x) (hk:x.kind=3) {E:List Ev} {K:List Nat} {k:Nat} (h:aM (l.take p)=some (E,K++[k])) :
  eL l p=p+1∧aM (l.take (p+1))=if k=x.ch then some (E++[clE],K) else none:=by
 refine⟨(lX hx).2.2.2 (by omega),?_⟩
 rw[take_one hx,kN,h]
 rw[List.foldl_cons,List.foldl_nil]
 unfold eM
 simp only[]
 rw[if_neg (by omega),if_neg (by omega),if_pos hk,List.getLast?_concat,List.dropLast_concat]
theorem JU {l:List Tk} {p:Nat} {x:Tk} (hx:l[p]?=some x) {E:List Ev} {K:List Nat} (h:aM (l.take p)=some (E,K)) (hk:(x.kind≠1∧x.kind≠2∧x.kind≠3)∨(x.kind=3∧K=[])):aM l=none:=by
 have h1:aM (l.take (p+1))=none:=by
  rw[take_one hx,kN,h]
  rw[List.foldl_cons,List.foldl_nil]
  unfold eM
  simp only[]
  rcases hk with⟨k1,k2,k3⟩ | ⟨k3,rfl⟩
  ·rw[if_neg k1,if_neg k2,if_neg k3]
  ·rw[if_neg (by omega),if_neg (by omega),if_pos k3];rfl
 rw[← List.take_append_drop (p+1) l,kN,h1,nX]
theorem NS {l:List Tk} {p:Nat} (h:aM (l.take p)=none):aM l=none:=by
 rw[← List.take_append_drop p l,kN,h,nX]
def behind (a b:Int × Nat):Prop:=a.1+(a.2:Int)≤b.1
theorem JQ:∀ (m:List Nat) (a n:Nat),(a::m).Pairwise (·<·)→(∀ x ∈ a::m,x<n)→a+(m.length+1)≤n
 | [],a,n,_,h=>by have:=h a (List.mem_cons_self ..);show a+(0+1)≤n;omega
 | b::m,a,n,h,hn=>by
  rw[List.pairwise_cons]at h
  have h1:=h.1 b (List.mem_cons_self ..)
  have:=JQ m b n h.2 (fun x hx=>hn x (List.mem_cons_of_mem _ hx))
  show a+(m.length+1+1)≤n
  omega
end Go.Proofs.YthbigkoihpgcfaaGreatDoor.Fl
