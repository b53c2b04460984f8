/-
  Put together.
-/
import Derived.Test.YthbigkoihpgcfaaGreatDoorTsC
import Derived.Test.YthbigkoihpgcfaaGreatDoorVm
namespace Go.Proofs.YthbigkoihpgcfaaGreatDoor.Nu
open Go.RowKit Tr
theorem jN (a b:List Nat):Lx.bytesOf (a++b)=Lx.bytesOf a++Lx.bytesOf b:=by
 apply ByteArray.ext
 show ((a++b).map UInt8.ofNat).toArray=_
 rw[ByteArray.data_append]
 show _=(a.map UInt8.ofNat).toArray++(b.map UInt8.ofNat).toArray
 simp
structure Ev where
 kind:Nat
 name:Nat
 text:ByteArray
 place:Int
def JP (s:ByteArray) (pl:Int):Ev:=⟨1,0,s,pl⟩
def opE (k:Nat) (pl:Int):Ev:=⟨2,k,cJ,pl⟩
def clE:Ev:=⟨3,0,cJ,0⟩
def LH (x:Ev):Nd:=if x.kind=1 then ⟨46,x.text,x.place,1⟩ else ⟨x.name,cJ,x.place,1⟩
def wE (st:List Nd × List Nat) (x:Ev):List Nd × List Nat :=
 if x.kind=1 then (st.1++[LH x],st.2)
 else if x.kind=2 then (st.1++[LH x],st.2++[st.1.length])
 else (st.1.modify (st.2.getLastD 0) (aU ((st.1.length:Int) - (st.2.getLastD 0:Int))),st.2.dropLast)
theorem rL {T:List Nd} {S:List Nat} {x:Ev} (h:x.kind=1):wE (T,S) x=(T++[LH x],S):=by unfold wE;rw[if_pos h]
theorem rM {T:List Nd} {S:List Nat} {x:Ev} (h:x.kind=2):wE (T,S) x=(T++[LH x],S++[T.length]):=by unfold wE;rw[if_neg (by omega),if_pos h]
theorem EU {T:List Nd} {S:List Nat} {s:Nat} {x:Ev} (h1:x.kind≠1) (h2:x.kind≠2):wE (T,S++[s]) x=(T.modify s (aU ((T.length:Int) - (s:Int))),S):=by
 unfold wE
 rw[if_neg h1,if_neg h2]
 simp
def eS (L:List Ev):List Nd × List Nat:=L.foldl wE ([],[])
def jY (L:List Ev):List Nd:=(eS L).1
def dep:Nat→List Ev→Option Nat
 | n,[]=>some n
 | n,x::l=>if x.kind=1 then dep n l else if x.kind=2 then dep (n+1) l else match n with | 0=>none | m+1=>dep m l
def Bal (L:List Ev):Prop:=dep 0 L=some 0
theorem YD {n:Nat} {x:Ev} {l:List Ev} (h:x.kind=1):dep n (x::l)=dep n l:=by rw[dep.eq_def];simp only[];rw[if_pos h]
theorem YE {n:Nat} {x:Ev} {l:List Ev} (h:x.kind=2):dep n (x::l)=dep (n+1) l:=by rw[dep.eq_def];simp only[];rw[if_neg (by omega),if_pos h]
theorem YF {n:Nat} {x:Ev} {l:List Ev} (h1:x.kind≠1) (h2:x.kind≠2):dep (n+1) (x::l)=dep n l:=by rw[dep.eq_def];simp only[];rw[if_neg h1,if_neg h2]
theorem NO {x:Ev} {l:List Ev} (h1:x.kind≠1) (h2:x.kind≠2):dep 0 (x::l)=none:=by rw[dep.eq_def];simp only[];rw[if_neg h1,if_neg h2]
theorem s9:∀ (L M:List Ev) (n:Nat),dep n (L++M)=(dep n L).bind fun m=>dep m M:=by
 intro L
 induction L with
 | nil=>intro M n;rfl
 | cons x L ih =>
  intro M n
  rw[List.cons_append]
  by_cases h1:x.kind=1
  ·rw[YD h1,YD h1];exact ih M n
  ·by_cases h2:x.kind=2
   ·rw[YE h2,YE h2];exact ih M (n+1)
   ·cases n with
    | zero=>rw[NO h1 h2,NO h1 h2];rfl
    | succ m=>rw[YF h1 h2,YF h1 h2];exact ih M m
theorem aK5:∀ (L:List Ev) (n m k:Nat),dep n L=some m→dep (n+k) L=some (m+k):=by
 intro L
 induction L with
 | nil=>intro n m k h;unfold dep at h ⊢;cases h;rfl
 | cons x L ih =>
  intro n m k h
  unfold dep at h ⊢
  by_cases h1:x.kind=1
  ·rw[if_pos h1]at h ⊢;exact ih n m k h
  ·rw[if_neg h1]at h ⊢
   by_cases h2:x.kind=2
   ·rw[if_pos h2]at h ⊢
    have:=ih (n+1) m k h
    rw[show n+1+k=n+k+1 by omega]at this
    exact this
   ·rw[if_neg h2]at h ⊢
    cases n with
    | zero=>cases h
    | succ j =>
     rw[show j+1+k=(j+k)+1 by omega]
     exact ih j m k h
theorem Bal.app {L M:List Ev} (h:Bal L) (h2:Bal M):Bal (L++M):=by unfold Bal at *;rw[s9,h];exact h2
theorem Bal.node {M:List Ev} (h:Bal M) (k:Nat) (pl:Int):Bal (opE k pl::(M++[clE])):=by
 unfold Bal at *
 show dep 1 (M++[clE])=some 0
 rw[s9,show dep 1 M=some 1 from aK5 M 0 0 1 h];rfl
theorem Bal.text (s:ByteArray) (pl:Int):Bal [JP s pl]:=rfl
theorem ET {α:Type} {l:List α} (h:0<l.length):∃ l' a,l=l'++[a]:=by
 rcases List.eq_nil_or_concat l with rfl | ⟨l',a,rfl⟩
 ·exact absurd h (by simp)
 ·exact⟨l',a,by simp⟩
theorem aBY {I:List Nd→List Nat→Prop} (htx:∀ T S x,x.kind=1→I T S→I (T++[LH x]) S) (hop:∀ T S x,x.kind=2→I T S→I (T++[LH x]) (S++[T.length]))
  (hcl:∀ T S s,I T (S++[s])→I (T.modify s (aU ((T.length:Int) - (s:Int)))) S):∀ (L:List Ev) (n d:Nat) (T:List Nd) (S:List Nat),S.length=n→dep n L=some d→I T S→I (L.foldl wE (T,S)).1 (L.foldl wE (T,S)).2:=by
 intro L
 induction L with
 | nil=>intro n d T S _ _ h;exact h
 | cons x L ih =>
  intro n d T S hn hd h
  unfold dep at hd
  rw[List.foldl_cons]
  by_cases h1:x.kind=1
  ·rw[if_pos h1]at hd
   rw[rL h1]
   exact ih n d _ _ hn hd (htx T S x h1 h)
  ·rw[if_neg h1]at hd
   by_cases h2:x.kind=2
   ·rw[if_pos h2]at hd
    rw[rM h2]
    exact ih (n+1) d _ _ (by rw[List.length_append,hn];rfl) hd (hop T S x h2 h)
   ·rw[if_neg h2]at hd
    cases n with
    | zero=>cases hd
    | succ m =>
     obtain⟨S',s,rfl⟩:=ET (l:=S) (by omega)
     rw[EU h1 h2]
     exact ih m d _ _ (by rw[List.length_append]at hn;simp at hn;exact hn) hd (hcl T S' s h)
theorem aK6 {I:List Nd→List Nat→List Nd→List Nat→Prop} (htx:∀ T S T' S' x,x.kind=1→I T S T' S'→I (T++[LH x]) S (T'++[LH x]) S') (hop:∀ T S T' S' x,x.kind=2→I T S T' S'→I (T++[LH x]) (S++[T.length]) (T'++[LH x]) (S'++[T'.length]))
  (hcl:∀ T S s T' S',I T (S++[s]) T' S'→∃ S'' s',S'=S''++[s']∧I (T.modify s (aU ((T.length:Int) - (s:Int)))) S (T'.modify s' (aU ((T'.length:Int) - (s':Int)))) S''):∀ (L:List Ev) (n d:Nat) (T:List Nd) (S:List Nat) (T':List Nd) (S':List Nat),S.length=n→dep n L=some d→I T S T' S'→I (L.foldl wE (T,S)).1 (L.foldl wE (T,S)).2 (L.foldl wE (T',S')).1 (L.foldl wE (T',S')).2:=by
 intro L
 induction L with
 | nil=>intro n d T S T' S' _ _ h;exact h
 | cons x L ih =>
  intro n d T S T' S' hn hd h
  unfold dep at hd
  rw[List.foldl_cons,List.foldl_cons]
  by_cases h1:x.kind=1
  ·rw[if_pos h1]at hd
   rw[rL h1,rL h1]
   exact ih n d _ _ _ _ hn hd (htx T S T' S' x h1 h)
  ·rw[if_neg h1]at hd
   by_cases h2:x.kind=2
   ·rw[if_pos h2]at hd
    rw[rM h2,rM h2]
    exact ih (n+1) d _ _ _ _ (by rw[List.length_append,hn];rfl) hd (hop T S T' S' x h2 h)
   ·rw[if_neg h2]at hd
    cases n with
    | zero=>cases hd
    | succ m =>
     obtain⟨S0,s,rfl⟩:=ET (l:=S) (by omega)
     obtain⟨S'',s',rfl,h3⟩:=hcl T S0 s T' S' h
     rw[EU h1 h2,EU h1 h2]
     exact ih m d _ _ _ _ (by rw[List.length_append]at hn;simp at hn;exact hn) hd h3
theorem zZ:∀ (L:List Ev) (n d:Nat) (T:List Nd) (S:List Nat),S.length=n→dep n L=some d→(L.foldl wE (T,S)).2.length=d:=by
 intro L
 induction L with
 | nil=>intro n d T S hn h;unfold dep at h;cases h;exact hn
 | cons x L ih =>
  intro n d T S hn hd
  unfold dep at hd
  rw[List.foldl_cons]
  by_cases h1:x.kind=1
  ·rw[if_pos h1]at hd
   rw[rL h1]
   exact ih n d _ _ hn hd
  ·rw[if_neg h1]at hd
   by_cases h2:x.kind=2
   ·rw[if_pos h2]at hd
    rw[rM h2]
    exact ih (n+1) d _ _ (by rw[List.length_append,hn];rfl) hd
   ·rw[if_neg h2]at hd
    cases n with
    | zero=>cases hd
    | succ m =>
     obtain⟨S',s,rfl⟩:=ET (l:=S) (by omega)
     rw[EU h1 h2]
     exact ih m d _ _ (by rw[List.length_append]at hn;simp at hn;exact hn) hd
theorem Bal.none {L:List Ev} (h:Bal L):(eS L).2=[]:=List.length_eq_zero_iff.1 (zZ L 0 0 [] [] rfl h)
theorem aH9 (T0:List Nd) (S0:List Nat) (L:List Ev) (d:Nat) (h:dep 0 L=some d):L.foldl wE (T0,S0)=(T0++jY L,S0++(eS L).2.map (·+T0.length)):=by
 have:=aK6 (I:=fun T S T' S'=>T'=T0++T∧S'=S0++S.map (·+T0.length)) ?_ ?_ ?_ L 0 d [] [] T0 S0 rfl h ⟨by simp,by simp⟩
 ·exact Prod.ext this.1 this.2
 ·rintro T S _ _ x _ ⟨rfl,rfl⟩
  exact⟨by simp,rfl⟩
 ·rintro T S _ _ x _ ⟨rfl,rfl⟩
  refine⟨by simp,?_⟩
  rw[List.map_append,← List.append_assoc]
  simp;omega
 ·rintro T S s _ _ ⟨rfl,rfl⟩
  refine⟨S0++S.map (·+T0.length),s+T0.length,by simp,?_,rfl⟩
  rw[List.length_append,show s+T0.length=T0.length+s by omega]
  rw[show (((T0.length+T.length:Nat):Int) - ((T0.length+s:Nat):Int))=(T.length:Int) - (s:Int) by omega]
  apply List.ext_getElem?
  intro j
  rcases Nat.lt_or_ge j T0.length with hj | hj
  ·rw[List.getElem?_append_left hj,List.getElem?_modify,List.getElem?_append_left hj]
   simp only[if_neg (show ¬ T0.length+s=j by omega)]
   cases T0[j]?<;>rfl
  ·rw[List.getElem?_append_right hj,List.getElem?_modify,List.getElem?_modify,List.getElem?_append_right hj]
   by_cases hs:T0.length+s=j
   ·simp only[if_pos hs,if_pos (show s=j - T0.length by omega)]
   ·simp only[if_neg hs,if_neg (show ¬ s=j - T0.length by omega)]
theorem aIT {L M:List Ev} (h:Bal L) (h2:Bal M):jY (L++M)=jY L++jY M:=by
 unfold jY eS
 rw[List.foldl_append,show L.foldl wE ([],[])=(jY L,[]) from Prod.ext rfl h.none,aH9 _ _ M 0 h2]
 rfl
theorem aLM (s:ByteArray) (pl:Int):jY [JP s pl]=[⟨46,s,pl,1⟩]:=rfl
theorem aJ6 {M:List Ev} (h:Bal M) (k:Nat) (pl:Int):jY (opE k pl::(M++[clE]))=⟨k,cJ,pl,((jY M).length:Int)+1⟩::jY M:=by
 unfold jY eS
 rw[List.foldl_cons,show wE ([],[]) (opE k pl)=([⟨k,cJ,pl,1⟩],[0]) from rfl,List.foldl_append,aH9 _ _ M 0 h]
 rw[show (eS M).2=[] from h.none]
 show (wE ([⟨k,cJ,pl,1⟩]++jY M,[0]) clE).1=_
 rw[show ([0]:List Nat)=[]++[0] from rfl,EU (by decide) (by decide)]
 show (⟨k,cJ,pl,1⟩::jY M).modify 0 _=_
 simp only[List.modify_zero_cons]
 unfold aU
 simp only[List.cons_append,List.nil_append,List.cons.injEq,Nd.mk.injEq,true_and]
 refine⟨?_,rfl⟩
 show (((jY M).length+1:Nat):Int) - 0=_
 exact Int.sub_zero _
def sI (L:List Ev):Nat:=(L.filter fun x=>x.kind==1 || x.kind==2).length
theorem qO (L M:List Ev):sI (L++M)=sI L+sI M:=by unfold sI;rw[List.filter_append,List.length_append]
theorem aBZ:∀ (L:List Ev) (T:List Nd) (S:List Nat),(L.foldl wE (T,S)).1.length=T.length+sI L:=by
 intro L
 induction L with
 | nil=>intro T S;rfl
 | cons x L ih =>
  intro T S
  rw[List.foldl_cons]
  have hn:sI (x::L)=sI [x]+sI L:=qO [x] L
  rw[hn]
  by_cases h1:x.kind=1
  ·rw[rL h1,ih,List.length_append,show sI [x]=1 by unfold sI;simp[h1]]
   simp;omega
  ·by_cases h2:x.kind=2
   ·rw[rM h2,ih,List.length_append,show sI [x]=1 by unfold sI;simp[h2]]
    simp;omega
   ·have hb:wE (T,S) x=(T.modify (S.getLastD 0) (aU ((T.length:Int) - (S.getLastD 0:Int))),S.dropLast):=by unfold wE;rw[if_neg h1,if_neg h2]
    rw[hb,ih,List.length_modify,show sI [x]=0 by unfold sI;simp[h1,h2]]
    omega
theorem zT (L:List Ev):(jY L).length=sI L:=by
 unfold jY eS;rw[aBZ];simp
structure Good (T:List Nd) (S:List Nat):Prop where
 aE6:S.Pairwise (·<·)
 lt:∀ s ∈ S,s<T.length
 one:∀ s ∈ S,∀ x,T[s]?=some x→x.size=1
 fits:∀ j,j ∉ S→∀ x,T[j]?=some x→1≤x.size∧(j:Int)+x.size≤(T.length:Int)
theorem Good.nil:Good [] []:=⟨List.Pairwise.nil,by simp,by simp,by simp⟩
theorem XE {S:List Nat} {s:Nat} (h:(S++[s]).Pairwise (·<·)):s ∉ S∧∀ a ∈ S,a<s:=by
 rw[List.pairwise_append]at h
 exact⟨fun hs=>absurd (h.2.2 s hs s (by simp)) (Nat.lt_irrefl _),fun a ha=>h.2.2 a ha s (by simp)⟩
theorem tC {T:List Nd} {y x:Nd} {j:Nat} (h:(T++[y])[j]?=some x):(j<T.length∧T[j]?=some x)∨(j=T.length∧x=y):=by
 rcases Nat.lt_or_ge j T.length with hj | hj
 ·rw[List.getElem?_append_left hj]at h;exact .inl ⟨hj,h⟩
 ·rw[List.getElem?_append_right hj]at h
  cases hk:j - T.length with
  | zero=>rw[hk]at h;simp at h;exact .inr ⟨by omega,h.symm⟩
  | succ m=>rw[hk]at h;simp at h
theorem J4 (x:Ev):(LH x).size=1:=by unfold LH;split<;>rfl
theorem Good.of (L:List Ev) (n d:Nat) (T:List Nd) (S:List Nat) (hn:S.length=n) (hd:dep n L=some d) (h:Good T S):Good (L.foldl wE (T,S)).1 (L.foldl wE (T,S)).2:=by
 refine aBY (I:=Good) ?_ ?_ ?_ L n d T S hn hd h
 ·rintro T S x _ ⟨a,b,c,e⟩
  refine⟨a,fun s hs=>by rw[List.length_append];have:=b s hs;omega,fun s hs y hy=>?_,fun j hj y hy=>?_⟩
  ·rcases tC hy with⟨_,h2⟩ | ⟨h1,_⟩
   ·exact c s hs y h2
   ·have:=b s hs;omega
  ·rw[List.length_append]
   rcases tC hy with⟨_,h2⟩ | ⟨h1,rfl⟩
   ·have:=e j hj y h2
    exact⟨this.1,by simp;omega⟩
   ·rw[J4];simp;omega
 ·rintro T S x _ ⟨a,b,c,e⟩
  refine⟨?_,fun s hs=>?_,fun s hs y hy=>?_,fun j hj y hy=>?_⟩
  ·rw[List.pairwise_append]
   exact⟨a,by simp,fun s hs u hu=>by simp at hu;subst hu;exact b s hs⟩
  ·rw[List.length_append]
   rcases List.mem_append.1 hs with h1 | h1
   ·have:=b s h1;omega
   ·simp at h1;subst h1;simp
  ·rcases tC hy with⟨h1,h2⟩ | ⟨h1,rfl⟩
   ·rcases List.mem_append.1 hs with h3 | h3
    ·exact c s h3 y h2
    ·simp at h3;omega
   ·exact J4 x
  ·rw[List.length_append]
   rcases tC hy with⟨h1,h2⟩ | ⟨h1,rfl⟩
   ·have:=e j (fun h3=>hj (List.mem_append_left _ h3)) y h2
    exact⟨this.1,by simp;omega⟩
   ·exact absurd (by rw[h1];simp) hj
 ·rintro T S s ⟨a,b,c,e⟩
  obtain⟨hs1,hs2⟩:=XE a
  have hsl:=b s (by simp)
  refine⟨(List.pairwise_append.1 a).1,fun u hu=>by rw[List.length_modify];exact b u (List.mem_append_left _ hu),fun u hu y hy=>?_,fun j hj y hy=>?_⟩
  ·rw[List.getElem?_modify]at hy
   obtain⟨z,hz,he⟩:=Option.map_eq_some_iff.1 hy
   rw[if_neg (show ¬ s=u from fun h=>hs1 (h▸hu))]at he
   subst he
   exact c u (List.mem_append_left _ hu) z hz
  ·rw[List.length_modify]
   rw[List.getElem?_modify]at hy
   obtain⟨z,hz,he⟩:=Option.map_eq_some_iff.1 hy
   by_cases hjs:s=j
   ·rw[if_pos hjs]at he
    subst he
    subst hjs
    unfold aU
    simp only[]
    omega
   ·rw[if_neg hjs]at he
    subst he
    exact e j (fun h3=>by
     rcases List.mem_append.1 h3 with h4 | h4
     ·exact hj h4
     ·simp at h4;exact hjs h4.symm) z hz
theorem good_row {A:List Ev} {d:Nat} (h:dep 0 A=some d):Good (eS A).1 (eS A).2:=Good.of A 0 d [] [] rfl h Good.nil
theorem uN {α:Type} (l:List α) (i j:Nat) (f:α→α):(l.modify i f)[j]?=(l[j]?).map fun a=>if i=j then f a else a:=List.getElem?_modify ..
theorem nZ (A B:List Ev) (x:Ev):eS (A++x::B)=B.foldl wE (wE (eS A) x):=by
 unfold eS;rw[List.foldl_append];rfl
theorem aIA {A B:List Ev} {x:Ev} (h:Bal (A++x::B)):∃ d,dep 0 A=some d∧(eS A).2.length=d∧dep d (x::B)=some 0:=by
 unfold Bal at h
 rw[s9]at h
 obtain⟨d,h1,h2⟩:=Option.bind_eq_some_iff.1 h
 exact⟨d,h1,zZ A 0 d [] [] rfl h1,h2⟩
theorem aMJ {d:Nat} {x:Ev} {B:List Ev} (hx:x.kind=1) (h:dep d (x::B)=some 0):dep d B=some 0:=by
 rw[YD hx]at h;exact h
theorem aMK {d:Nat} {x:Ev} {B:List Ev} (hx:x.kind=2) (h:dep d (x::B)=some 0):dep (d+1) B=some 0:=by
 rw[YE hx]at h;exact h
theorem tB (A:List Ev):(eS A).1.length=sI A:=zT A
theorem aK7 {A B:List Ev} {x:Ev} (h:Bal (A++x::B)) (hx:x.kind=1):(jY (A++x::B))[sI A]?=some (LH x):=by
 obtain⟨d,h1,h2,h3⟩:=aIA h
 have g:=good_row h1
 have hn:=tB A
 unfold jY
 rw[nZ]
 obtain⟨T,S,hTS⟩:∃ T S,eS A=(T,S):=⟨_,_,rfl⟩
 rw[hTS]at g h2 hn ⊢
 simp only[]at g h2 hn
 rw[rL hx]
 have:=aBY (I:=fun T' S'=>T'[sI A]?=some (LH x)∧sI A ∉ S'∧sI A<T'.length) ?_ ?_ ?_ B d 0 (T++[LH x]) S h2 (aMJ hx h3) ⟨?_,?_,?_⟩
 ·exact this.1
 ·rintro T' S' y _ ⟨a,b,c⟩
  exact⟨by rw[List.getElem?_append_left c];exact a,b,by rw[List.length_append];omega⟩
 ·rintro T' S' y _ ⟨a,b,c⟩
  refine⟨by rw[List.getElem?_append_left c];exact a,fun hm=>?_,by rw[List.length_append];omega⟩
  rcases List.mem_append.1 hm with h4 | h4
  ·exact b h4
  ·simp at h4;omega
 ·rintro T' S' s ⟨a,b,c⟩
  refine⟨?_,fun hm=>b (List.mem_append_left _ hm),by rw[List.length_modify];exact c⟩
  rw[uN,a,Option.map_some,if_neg (fun e=>b (by rw[e];simp))]
 ·rw[List.getElem?_append_right (by omega),hn];simp
 ·exact fun hm=>by have:=g.lt _ hm;omega
 ·rw[List.length_append];simp;omega
theorem aIW {A B:List Ev} {x:Ev} (h:Bal (A++x::B)) (hx:x.kind=1∨x.kind=2):∃ z,(jY (A++x::B))[sI A]?=some (aU z (LH x)):=by
 rcases hx with hx | hx
 ·exact⟨1,by rw[aK7 h hx];unfold aU LH;rw[if_pos hx]⟩
 obtain⟨d,h1,h2,h3⟩:=aIA h
 have hn:=tB A
 unfold jY
 rw[nZ]
 obtain⟨T,S,hTS⟩:∃ T S,eS A=(T,S):=⟨_,_,rfl⟩
 rw[hTS]at h2 hn ⊢
 simp only[]at h2 hn
 rw[rM hx]
 have:=aBY (I:=fun T' _=>(∃ z,T'[sI A]?=some (aU z (LH x)))∧sI A<T'.length) ?_ ?_ ?_ B (d+1) 0 (T++[LH x]) (S++[T.length]) (by rw[List.length_append,h2];rfl) (aMK hx h3) ⟨⟨1,?_⟩,?_⟩
 ·exact this.1
 ·rintro T' S' y _ ⟨⟨z,a⟩,c⟩
  exact⟨⟨z,by rw[List.getElem?_append_left c];exact a⟩,by rw[List.length_append];omega⟩
 ·rintro T' S' y _ ⟨⟨z,a⟩,c⟩
  exact⟨⟨z,by rw[List.getElem?_append_left c];exact a⟩,by rw[List.length_append];omega⟩
 ·rintro T' S' s ⟨⟨z,a⟩,c⟩
  refine⟨?_,by rw[List.length_modify];exact c⟩
  rw[uN,a,Option.map_some]
  by_cases e:s=sI A
  ·rw[if_pos e];exact⟨_,rfl⟩
  ·rw[if_neg e];exact⟨z,rfl⟩
 ·rw[List.getElem?_append_right (by omega),hn]
  have:aU 1 (LH x)=LH x:=by unfold aU LH;split<;>rfl
  rw[this];simp
 ·rw[List.length_append];simp;omega
def nE (acc:List Ev) (x:Ev):List Ev :=
 if x.kind=1 then (if x.text.size=0 then acc else match acc.getLast? with | some y=>if y.kind=1 then acc.dropLast++[{ y with text:=y.text++x.text }] else acc++[x] | none=>acc++[x]) else acc++[x]
def JS (acc:List Ev):Prop:=∀ y,acc.getLast?=some y→y.kind≠1
theorem rV {acc:List Ev} {x:Ev} (h:x.kind≠1):nE acc x=acc++[x]:=by unfold nE;rw[if_neg h]
theorem rU {acc:List Ev} {x:Ev} (h:x.kind=1) (h0:x.text.size=0):nE acc x=acc:=by unfold nE;rw[if_pos h,if_pos h0]
theorem lB {acc:List Ev} {x y:Ev} (h:x.kind=1) (h0:x.text.size≠0) (hy:y.kind=1):nE (acc++[y]) x=acc++[{ y with text:=y.text++x.text }]:=by
 unfold nE
 rw[if_pos h,if_neg h0,List.getLast?_concat]
 simp only[]
 rw[if_pos hy,List.dropLast_concat]
theorem dV {acc:List Ev} {x:Ev} (h:x.kind=1) (h0:x.text.size≠0) (ha:JS acc):nE acc x=acc++[x]:=by
 unfold nE
 rw[if_pos h,if_neg h0]
 cases hl:acc.getLast? with
 | none=>rfl
 | some y=>simp only[];rw[if_neg (ha y hl)]
theorem nF:JS []:=fun y h=>by cases h
theorem lC {acc:List Ev} {x:Ev} (h:x.kind≠1):JS (acc++[x]):=fun y hy=>by
 rw[List.getLast?_concat]at hy;cases hy;exact h
theorem tD {x:Ev} (h:x.kind=1∨x.kind=2):sI [x]=1:=by unfold sI;rcases h with h | h<;>simp[h]
theorem SO {E:List Ev} (h:Bal E) {j:Nat} {y:Nd} (hy:(jY E)[j]?=some y):1≤y.size∧(j:Int)+y.size≤((jY E).length:Int):=by
 have g:=good_row (A:=E) h
 have hn:=h.none
 refine g.fits j (by rw[hn];simp) y hy
def ED (x:Ev):Nat:=if x.kind=1 then x.text.size else 0
def gO:List Ev→Nat
 | []=>0
 | x::l=>ED x+gO l
theorem AE:∀ A B:List Ev,gO (A++B)=gO A+gO B:=by
 intro A
 induction A with
 | nil=>intro B;show gO B=0+gO B;omega
 | cons x A ih=>intro B;show ED x+gO (A++B)=ED x+gO A+gO B;rw[ih];omega
theorem PN:∀ (L:List Ev) (T:List Nd) (S:List Nat) (B:Nat),(∀ y ∈ T,y.text.size≤B)→∀ y ∈ (L.foldl wE (T,S)).1,y.text.size≤B+gO L:=by
 intro L
 induction L with
 | nil=>intro T S B h y hy;have:=h y hy;unfold gO;omega
 | cons x L ih =>
  intro T S B h y hy
  rw[List.foldl_cons]at hy
  have e0:cJ.size=0:=by decide
  have snoc:∀ y ∈ T++[LH x],y.text.size≤B+ED x:=fun y hy=>by
   rcases List.mem_append.1 hy with h1 | h1
   ·have:=h y h1;omega
   ·simp at h1;subst h1
    unfold LH ED
    split
    ·exact Nat.le_add_left _ _
    ·show cJ.size≤_;omega
  show _≤B+(ED x+gO L)
  by_cases h1:x.kind=1
  ·rw[rL h1]at hy
   have:=ih _ _ (B+ED x) snoc y hy;omega
  ·by_cases h2:x.kind=2
   ·rw[rM h2]at hy
    have:=ih _ _ (B+ED x) snoc y hy;omega
   ·have hb:wE (T,S) x=(T.modify (S.getLastD 0) (aU ((T.length:Int) - (S.getLastD 0:Int))),S.dropLast):=by unfold wE;rw[if_neg h1,if_neg h2]
    rw[hb]at hy
    have:=ih _ _ B (fun z hz=>by
     obtain⟨j,hj⟩:=List.mem_iff_getElem?.1 hz
     rw[uN]at hj
     obtain⟨u,hu,he⟩:=Option.map_eq_some_iff.1 hj
     have hb:=h u (List.mem_of_getElem? hu)
     split at he
     ·subst he;exact hb
     ·subst he;exact hb) y hy
    omega
theorem SQ (acc:List Ev) (x:Ev):gO (nE acc x)=gO acc+ED x∧sI (nE acc x)≤sI acc+sI [x]:=by
 have e1:gO [x]=ED x:=by unfold gO gO;omega
 have snoc:gO (acc++[x])=gO acc+ED x∧sI (acc++[x])≤sI acc+sI [x]:=⟨by rw[AE,e1],by rw[qO];omega⟩
 by_cases h:x.kind=1
 ·by_cases h0:x.text.size=0
  ·rw[rU h h0]
   refine⟨?_,by omega⟩
   unfold ED;rw[if_pos h,h0];rfl
  ·rcases List.eq_nil_or_concat acc with rfl | ⟨B',y,rfl⟩
   ·rw[dV h h0 nF];exact snoc
   ·rw[List.concat_eq_append]at snoc ⊢
    by_cases hy:y.kind=1
    ·rw[lB h h0 hy]
     refine⟨?_,?_⟩
     ·rw[AE,AE]
      show _+(ED _+0)=_+(ED y+0)+ED x
      unfold ED
      rw[if_pos hy,if_pos hy,if_pos h]
      simp only[ByteArray.size_append];omega
     ·rw[qO,qO,tD (x:={ y with text:=y.text++x.text }) (.inl hy),tD (.inl hy)];omega
    ·rw[dV h h0 (lC hy)];exact snoc
 ·rw[rV h];exact snoc
theorem yN {w:World} {B B' e size n:Nat} {v:Value} {xs:List Value} (h:w.ownsRow B e size v n xs) (hB:B'≤B):w.ownsRow B' e size v n xs:=by
 refine⟨h.1,?_⟩
 rcases h.2 with hn | ⟨g,cap,cur,hv,hb,rest⟩
 ·exact .inl hn
 ·exact .inr ⟨g,cap,cur,hv,by omega,rest⟩
theorem eH {w:World} {B e size n:Nat} {v:Value} {xs:List Value} (h:w.ownsRow B e size v n xs):∃ A c,v=.slice A n c∧c≤maxLen∧n≤c∧(0<n→∃ g,A=some ⟨g,0,none⟩∧B≤g∧g<w.heap.size):=by
 rcases h.2 with⟨hv,h0⟩ | ⟨g,cap,cur,hv,hb,hg,h1,h2,_⟩
 ·exact⟨none,0,by rw[hv,h0],by unfold maxLen;omega,by omega,fun h=>by omega⟩
 ·exact⟨some ⟨g,0,none⟩,cap,hv,h2,h1,fun _=>⟨g,rfl,hb,(Array.getElem?_eq_some_iff.1 hg).1⟩⟩
end Go.Proofs.YthbigkoihpgcfaaGreatDoor.Nu
