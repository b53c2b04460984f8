/-
  Put together.
-/
import Derived.Test.YthbigkoihpgcfaaGreatDoorEa
import Derived.Test.YthbigkoihpgcfaaGreatDoorHcA
import Derived.Test.YthbigkoihpgcfaaGreatDoorSb
import Derived.Test.YthbigkoihpgcfaaGreatDoorSj
import Derived.Test.YthbigkoihpgcfaaGreatDoorTsG
import Derived.Test.YthbigkoihpgcfaaGreatDoorUm
import Derived.Test.YthbigkoihpgcfaaGreatDoorVa
import Derived.Test.YthbigkoihpgcfaaGreatDoorVb
import Derived.Test.YthbigkoihpgcfaaGreatDoorVm
import Derived.Laws.EntriesVeiled
import Derived.Maps.RangeWalk
import Derived.Deep.DeepCutAuto
import Derived.Test.YthbigkoihpgcfaaGreatDoorShelf
import Derived.Deep.RegionHeld3
import Derived.IntWalk
import Derived.Lib.ConvBytes
import Derived.Laws.IdiomStrings
import Derived.Maps.AppendAt
import Derived.OwnWalk
import Derived.BigQuiet
namespace Go.Proofs.YthbigkoihpgcfaaGreatDoor.Nu
open Go.RowKit Tr
end Go.Proofs.YthbigkoihpgcfaaGreatDoor.Nu
namespace Go.Proofs.YthbigkoihpgcfaaGreatDoor.Nu
open Go.RowKit Tr
theorem jN (a b:List Nat):Lx.bytesOf (a++b)=Lx.bytesOf a++Lx.bytesOf b:=by
 apply ByteArray.ext
 show ((a++b).map UInt8.ofNat).toArray=_
 rw[ByteArray.data_append]
 show _=(a.map UInt8.ofNat).toArray++(b.map UInt8.ofNat).toArray
 simp
end Go.Proofs.YthbigkoihpgcfaaGreatDoor.Nu
namespace Go.Proofs.YthbigkoihpgcfaaGreatDoor.Nu
open Go.RowKit Tr
structure Ev where
 kind:Nat
 name:Nat
 text:ByteArray
 place:Int
def JP (s:ByteArray) (pl:Int):Ev:=⟨1,0,s,pl⟩
def opE (k:Nat) (pl:Int):Ev:=⟨2,k,cJ,pl⟩
def clE:Ev:=⟨3,0,cJ,0⟩
def LH (x:Ev):Nd:=if x.kind=1 then ⟨46,x.text,x.place,1⟩ else ⟨x.name,cJ,x.place,1⟩
def wE (st:List Nd × List Nat) (x:Ev):List Nd × List Nat :=
 if x.kind=1 then (st.1++[LH x],st.2)
 else if x.kind=2 then (st.1++[LH x],st.2++[st.1.length])
 else (st.1.modify (st.2.getLastD 0) (aU ((st.1.length:Int) - (st.2.getLastD 0:Int))),st.2.dropLast)
theorem rL {T:List Nd} {S:List Nat} {x:Ev} (h:x.kind=1):wE (T,S) x=(T++[LH x],S):=by unfold wE;rw[if_pos h]
theorem rM {T:List Nd} {S:List Nat} {x:Ev} (h:x.kind=2):wE (T,S) x=(T++[LH x],S++[T.length]):=by unfold wE;rw[if_neg (by omega),if_pos h]
theorem EU {T:List Nd} {S:List Nat} {s:Nat} {x:Ev} (h1:x.kind≠1) (h2:x.kind≠2):wE (T,S++[s]) x=(T.modify s (aU ((T.length:Int) - (s:Int))),S):=by
 unfold wE
 rw[if_neg h1,if_neg h2]
 simp
def eS (L:List Ev):List Nd × List Nat:=L.foldl wE ([],[])
def jY (L:List Ev):List Nd:=(eS L).1
def dep:Nat→List Ev→Option Nat
 | n,[]=>some n
 | n,x::l=>if x.kind=1 then dep n l else if x.kind=2 then dep (n+1) l else match n with | 0=>none | m+1=>dep m l
def Bal (L:List Ev):Prop:=dep 0 L=some 0
theorem YD {n:Nat} {x:Ev} {l:List Ev} (h:x.kind=1):dep n (x::l)=dep n l:=by rw[dep.eq_def];simp only[];rw[if_pos h]
theorem YE {n:Nat} {x:Ev} {l:List Ev} (h:x.kind=2):dep n (x::l)=dep (n+1) l:=by rw[dep.eq_def];simp only[];rw[if_neg (by omega),if_pos h]
theorem YF {n:Nat} {x:Ev} {l:List Ev} (h1:x.kind≠1) (h2:x.kind≠2):dep (n+1) (x::l)=dep n l:=by rw[dep.eq_def];simp only[];rw[if_neg h1,if_neg h2]
theorem NO {x:Ev} {l:List Ev} (h1:x.kind≠1) (h2:x.kind≠2):dep 0 (x::l)=none:=by rw[dep.eq_def];simp only[];rw[if_neg h1,if_neg h2]
theorem s9:∀ (L M:List Ev) (n:Nat),dep n (L++M)=(dep n L).bind fun m=>dep m M:=by
 intro L
 induction L with
 | nil=>intro M n;rfl
 | cons x L ih =>
  intro M n
  rw[List.cons_append]
  by_cases h1:x.kind=1
  ·rw[YD h1,YD h1];exact ih M n
  ·by_cases h2:x.kind=2
   ·rw[YE h2,YE h2];exact ih M (n+1)
   ·cases n with
    | zero=>rw[NO h1 h2,NO h1 h2];rfl
    | succ m=>rw[YF h1 h2,YF h1 h2];exact ih M m
theorem ET {α:Type} {l:List α} (h:0<l.length):∃ l' a,l=l'++[a]:=by
 rcases List.eq_nil_or_concat l with rfl | ⟨l',a,rfl⟩
 ·exact absurd h (by simp)
 ·exact⟨l',a,by simp⟩
theorem aBY {I:List Nd→List Nat→Prop} (htx:∀ T S x,x.kind=1→I T S→I (T++[LH x]) S) (hop:∀ T S x,x.kind=2→I T S→I (T++[LH x]) (S++[T.length]))
  (hcl:∀ T S s,I T (S++[s])→I (T.modify s (aU ((T.length:Int) - (s:Int)))) S):∀ (L:List Ev) (n d:Nat) (T:List Nd) (S:List Nat),S.length=n→dep n L=some d→I T S→I (L.foldl wE (T,S)).1 (L.foldl wE (T,S)).2:=by
 intro L
 induction L with
 | nil=>intro n d T S _ _ h;exact h
 | cons x L ih =>
  intro n d T S hn hd h
  unfold dep at hd
  rw[List.foldl_cons]
  by_cases h1:x.kind=1
  ·rw[if_pos h1]at hd
   rw[rL h1]
   exact ih n d _ _ hn hd (htx T S x h1 h)
  ·rw[if_neg h1]at hd
   by_cases h2:x.kind=2
   ·rw[if_pos h2]at hd
    rw[rM h2]
    exact ih (n+1) d _ _ (by rw[List.length_append,hn];rfl) hd (hop T S x h2 h)
   ·rw[if_neg h2]at hd
    cases n with
    | zero=>cases hd
    | succ m =>
     obtain⟨S',s,rfl⟩:=ET (l:=S) (by omega)
     rw[EU h1 h2]
     exact ih m d _ _ (by rw[List.length_append]at hn;simp at hn;exact hn) hd (hcl T S' s h)
theorem zZ:∀ (L:List Ev) (n d:Nat) (T:List Nd) (S:List Nat),S.length=n→dep n L=some d→(L.foldl wE (T,S)).2.length=d:=by
 intro L
 induction L with
 | nil=>intro n d T S hn h;unfold dep at h;cases h;exact hn
 | cons x L ih =>
  intro n d T S hn hd
  unfold dep at hd
  rw[List.foldl_cons]
  by_cases h1:x.kind=1
  ·rw[if_pos h1]at hd
   rw[rL h1]
   exact ih n d _ _ hn hd
  ·rw[if_neg h1]at hd
   by_cases h2:x.kind=2
   ·rw[if_pos h2]at hd
    rw[rM h2]
    exact ih (n+1) d _ _ (by rw[List.length_append,hn];rfl) hd
   ·rw[if_neg h2]at hd
    cases n with
    | zero=>cases hd
    | succ m =>
     obtain⟨S',s,rfl⟩:=ET (l:=S) (by omega)
     rw[EU h1 h2]
     exact ih m d _ _ (by rw[List.length_append]at hn;simp at hn;exact hn) hd
theorem Bal.none {L:List Ev} (h:Bal L):(eS L).2=[]:=List.length_eq_zero_iff.1 (zZ L 0 0 [] [] rfl h)
def sI (L:List Ev):Nat:=(L.filter fun x=>x.kind==1 || x.kind==2).length
theorem qO (L M:List Ev):sI (L++M)=sI L+sI M:=by unfold sI;rw[List.filter_append,List.length_append]
theorem aBZ:∀ (L:List Ev) (T:List Nd) (S:List Nat),(L.foldl wE (T,S)).1.length=T.length+sI L:=by
 intro L
 induction L with
 | nil=>intro T S;rfl
 | cons x L ih =>
  intro T S
  rw[List.foldl_cons]
  have hn:sI (x::L)=sI [x]+sI L:=qO [x] L
  rw[hn]
  by_cases h1:x.kind=1
  ·rw[rL h1,ih,List.length_append,show sI [x]=1 by unfold sI;simp[h1]]
   simp;omega
  ·by_cases h2:x.kind=2
   ·rw[rM h2,ih,List.length_append,show sI [x]=1 by unfold sI;simp[h2]]
    simp;omega
   ·have hb:wE (T,S) x=(T.modify (S.getLastD 0) (aU ((T.length:Int) - (S.getLastD 0:Int))),S.dropLast):=by unfold wE;rw[if_neg h1,if_neg h2]
    rw[hb,ih,List.length_modify,show sI [x]=0 by unfold sI;simp[h1,h2]]
    omega
theorem zT (L:List Ev):(jY L).length=sI L:=by
 unfold jY eS;rw[aBZ];simp
structure Good (T:List Nd) (S:List Nat):Prop where
 aE6:S.Pairwise (·<·)
 lt:∀ s ∈ S,s<T.length
 one:∀ s ∈ S,∀ x,T[s]?=some x→x.size=1
 fits:∀ j,j ∉ S→∀ x,T[j]?=some x→1≤x.size∧(j:Int)+x.size≤(T.length:Int)
theorem Good.nil:Good [] []:=⟨List.Pairwise.nil,by simp,by simp,by simp⟩
theorem XE {S:List Nat} {s:Nat} (h:(S++[s]).Pairwise (·<·)):s ∉ S∧∀ a ∈ S,a<s:=by
 rw[List.pairwise_append]at h
 exact⟨fun hs=>absurd (h.2.2 s hs s (by simp)) (Nat.lt_irrefl _),fun a ha=>h.2.2 a ha s (by simp)⟩
theorem tC {T:List Nd} {y x:Nd} {j:Nat} (h:(T++[y])[j]?=some x):(j<T.length∧T[j]?=some x)∨(j=T.length∧x=y):=by
 rcases Nat.lt_or_ge j T.length with hj | hj
 ·rw[List.getElem?_append_left hj]at h;exact .inl ⟨hj,h⟩
 ·rw[List.getElem?_append_right hj]at h
  cases hk:j - T.length with
  | zero=>rw[hk]at h;simp at h;exact .inr ⟨by omega,h.symm⟩
  | succ m=>rw[hk]at h;simp at h
theorem J4 (x:Ev):(LH x).size=1:=by unfold LH;split<;>rfl
theorem Good.of (L:List Ev) (n d:Nat) (T:List Nd) (S:List Nat) (hn:S.length=n) (hd:dep n L=some d) (h:Good T S):Good (L.foldl wE (T,S)).1 (L.foldl wE (T,S)).2:=by
 refine aBY (I:=Good) ?_ ?_ ?_ L n d T S hn hd h
 ·rintro T S x _ ⟨a,b,c,e⟩
  refine⟨a,fun s hs=>by rw[List.length_append];have:=b s hs;omega,fun s hs y hy=>?_,fun j hj y hy=>?_⟩
  ·rcases tC hy with⟨_,h2⟩ | ⟨h1,_⟩
   ·exact c s hs y h2
   ·have:=b s hs;omega
  ·rw[List.length_append]
   rcases tC hy with⟨_,h2⟩ | ⟨h1,rfl⟩
   ·have:=e j hj y h2
    exact⟨this.1,by simp;omega⟩
   ·rw[J4];simp;omega
 ·rintro T S x _ ⟨a,b,c,e⟩
  refine⟨?_,fun s hs=>?_,fun s hs y hy=>?_,fun j hj y hy=>?_⟩
  ·rw[List.pairwise_append]
   exact⟨a,by simp,fun s hs u hu=>by simp at hu;subst hu;exact b s hs⟩
  ·rw[List.length_append]
   rcases List.mem_append.1 hs with h1 | h1
   ·have:=b s h1;omega
   ·simp at h1;subst h1;simp
  ·rcases tC hy with⟨h1,h2⟩ | ⟨h1,rfl⟩
   ·rcases List.mem_append.1 hs with h3 | h3
    ·exact c s h3 y h2
    ·simp at h3;omega
   ·exact J4 x
  ·rw[List.length_append]
   rcases tC hy with⟨h1,h2⟩ | ⟨h1,rfl⟩
   ·have:=e j (fun h3=>hj (List.mem_append_left _ h3)) y h2
    exact⟨this.1,by simp;omega⟩
   ·exact absurd (by rw[h1];simp) hj
 ·rintro T S s ⟨a,b,c,e⟩
  obtain⟨hs1,hs2⟩:=XE a
  have hsl:=b s (by simp)
  refine⟨(List.pairwise_append.1 a).1,fun u hu=>by rw[List.length_modify];exact b u (List.mem_append_left _ hu),fun u hu y hy=>?_,fun j hj y hy=>?_⟩
  ·rw[List.getElem?_modify]at hy
   obtain⟨z,hz,he⟩:=Option.map_eq_some_iff.1 hy
   rw[if_neg (show ¬ s=u from fun h=>hs1 (h▸hu))]at he
   subst he
   exact c u (List.mem_append_left _ hu) z hz
  ·rw[List.length_modify]
   rw[List.getElem?_modify]at hy
   obtain⟨z,hz,he⟩:=Option.map_eq_some_iff.1 hy
   by_cases hjs:s=j
   ·rw[if_pos hjs]at he
    subst he
    subst hjs
    unfold aU
    simp only[]
    omega
   ·rw[if_neg hjs]at he
    subst he
    exact e j (fun h3=>by
     rcases List.mem_append.1 h3 with h4 | h4
     ·exact hj h4
     ·simp at h4;exact hjs h4.symm) z hz
theorem good_row {A:List Ev} {d:Nat} (h:dep 0 A=some d):Good (eS A).1 (eS A).2:=Good.of A 0 d [] [] rfl h Good.nil
end Go.Proofs.YthbigkoihpgcfaaGreatDoor.Nu
namespace Go.Proofs.YthbigkoihpgcfaaGreatDoor.Nu
open Go.RowKit Tr
theorem uN {α:Type} (l:List α) (i j:Nat) (f:α→α):(l.modify i f)[j]?=(l[j]?).map fun a=>if i=j then f a else a:=List.getElem?_modify ..
theorem nZ (A B:List Ev) (x:Ev):eS (A++x::B)=B.foldl wE (wE (eS A) x):=by
 unfold eS;rw[List.foldl_append];rfl
theorem tB (A:List Ev):(eS A).1.length=sI A:=zT A
end Go.Proofs.YthbigkoihpgcfaaGreatDoor.Nu
namespace Go.Proofs.YthbigkoihpgcfaaGreatDoor.Nu
open Go.RowKit Tr
def nE (acc:List Ev) (x:Ev):List Ev :=
 if x.kind=1 then (if x.text.size=0 then acc else match acc.getLast? with | some y=>if y.kind=1 then acc.dropLast++[{ y with text:=y.text++x.text }] else acc++[x] | none=>acc++[x]) else acc++[x]
def JS (acc:List Ev):Prop:=∀ y,acc.getLast?=some y→y.kind≠1
theorem rV {acc:List Ev} {x:Ev} (h:x.kind≠1):nE acc x=acc++[x]:=by unfold nE;rw[if_neg h]
theorem rU {acc:List Ev} {x:Ev} (h:x.kind=1) (h0:x.text.size=0):nE acc x=acc:=by unfold nE;rw[if_pos h,if_pos h0]
theorem lB {acc:List Ev} {x y:Ev} (h:x.kind=1) (h0:x.text.size≠0) (hy:y.kind=1):nE (acc++[y]) x=acc++[{ y with text:=y.text++x.text }]:=by
 unfold nE
 rw[if_pos h,if_neg h0,List.getLast?_concat]
 simp only[]
 rw[if_pos hy,List.dropLast_concat]
theorem dV {acc:List Ev} {x:Ev} (h:x.kind=1) (h0:x.text.size≠0) (ha:JS acc):nE acc x=acc++[x]:=by
 unfold nE
 rw[if_pos h,if_neg h0]
 cases hl:acc.getLast? with
 | none=>rfl
 | some y=>simp only[];rw[if_neg (ha y hl)]
theorem nF:JS []:=fun y h=>by cases h
theorem lC {acc:List Ev} {x:Ev} (h:x.kind≠1):JS (acc++[x]):=fun y hy=>by
 rw[List.getLast?_concat]at hy;cases hy;exact h
end Go.Proofs.YthbigkoihpgcfaaGreatDoor.Nu
namespace Go.Proofs.YthbigkoihpgcfaaGreatDoor.Nu
open Go.RowKit Tr
theorem tD {x:Ev} (h:x.kind=1∨x.kind=2):sI [x]=1:=by unfold sI;rcases h with h | h<;>simp[h]
end Go.Proofs.YthbigkoihpgcfaaGreatDoor.Nu
namespace Go.Proofs.YthbigkoihpgcfaaGreatDoor.Nu
open Go.RowKit Tr
theorem SO {E:List Ev} (h:Bal E) {j:Nat} {y:Nd} (hy:(jY E)[j]?=some y):1≤y.size∧(j:Int)+y.size≤((jY E).length:Int):=by
 have g:=good_row (A:=E) h
 have hn:=h.none
 refine g.fits j (by rw[hn];simp) y hy
def ED (x:Ev):Nat:=if x.kind=1 then x.text.size else 0
def gO:List Ev→Nat
 | []=>0
 | x::l=>ED x+gO l
theorem AE:∀ A B:List Ev,gO (A++B)=gO A+gO B:=by
 intro A
 induction A with
 | nil=>intro B;show gO B=0+gO B;omega
 | cons x A ih=>intro B;show ED x+gO (A++B)=ED x+gO A+gO B;rw[ih];omega
theorem PN:∀ (L:List Ev) (T:List Nd) (S:List Nat) (B:Nat),(∀ y ∈ T,y.text.size≤B)→∀ y ∈ (L.foldl wE (T,S)).1,y.text.size≤B+gO L:=by
 intro L
 induction L with
 | nil=>intro T S B h y hy;have:=h y hy;unfold gO;omega
 | cons x L ih =>
  intro T S B h y hy
  rw[List.foldl_cons]at hy
  have e0:cJ.size=0:=by decide
  have snoc:∀ y ∈ T++[LH x],y.text.size≤B+ED x:=fun y hy=>by
   rcases List.mem_append.1 hy with h1 | h1
   ·have:=h y h1;omega
   ·simp at h1;subst h1
    unfold LH ED
    split
    ·exact Nat.le_add_left _ _
    ·show cJ.size≤_;omega
  show _≤B+(ED x+gO L)
  by_cases h1:x.kind=1
  ·rw[rL h1]at hy
   have:=ih _ _ (B+ED x) snoc y hy;omega
  ·by_cases h2:x.kind=2
   ·rw[rM h2]at hy
    have:=ih _ _ (B+ED x) snoc y hy;omega
   ·have hb:wE (T,S) x=(T.modify (S.getLastD 0) (aU ((T.length:Int) - (S.getLastD 0:Int))),S.dropLast):=by unfold wE;rw[if_neg h1,if_neg h2]
    rw[hb]at hy
    have:=ih _ _ B (fun z hz=>by
     obtain⟨j,hj⟩:=List.mem_iff_getElem?.1 hz
     rw[uN]at hj
     obtain⟨u,hu,he⟩:=Option.map_eq_some_iff.1 hj
     have hb:=h u (List.mem_of_getElem? hu)
     split at he
     ·subst he;exact hb
     ·subst he;exact hb) y hy
    omega
theorem SQ (acc:List Ev) (x:Ev):gO (nE acc x)=gO acc+ED x∧sI (nE acc x)≤sI acc+sI [x]:=by
 have e1:gO [x]=ED x:=by unfold gO gO;omega
 have snoc:gO (acc++[x])=gO acc+ED x∧sI (acc++[x])≤sI acc+sI [x]:=⟨by rw[AE,e1],by rw[qO];omega⟩
 by_cases h:x.kind=1
 ·by_cases h0:x.text.size=0
  ·rw[rU h h0]
   refine⟨?_,by omega⟩
   unfold ED;rw[if_pos h,h0];rfl
  ·rcases List.eq_nil_or_concat acc with rfl | ⟨B',y,rfl⟩
   ·rw[dV h h0 nF];exact snoc
   ·rw[List.concat_eq_append]at snoc ⊢
    by_cases hy:y.kind=1
    ·rw[lB h h0 hy]
     refine⟨?_,?_⟩
     ·rw[AE,AE]
      show _+(ED _+0)=_+(ED y+0)+ED x
      unfold ED
      rw[if_pos hy,if_pos hy,if_pos h]
      simp only[ByteArray.size_append];omega
     ·rw[qO,qO,tD (x:={ y with text:=y.text++x.text }) (.inl hy),tD (.inl hy)];omega
    ·rw[dV h h0 (lC hy)];exact snoc
 ·rw[rV h];exact snoc
theorem yN {w:World} {B B' e size n:Nat} {v:Value} {xs:List Value} (h:w.ownsRow B e size v n xs) (hB:B'≤B):w.ownsRow B' e size v n xs:=by
 refine⟨h.1,?_⟩
 rcases h.2 with hn | ⟨g,cap,cur,hv,hb,rest⟩
 ·exact .inl hn
 ·exact .inr ⟨g,cap,cur,hv,by omega,rest⟩
theorem eH {w:World} {B e size n:Nat} {v:Value} {xs:List Value} (h:w.ownsRow B e size v n xs):∃ A c,v=.slice A n c∧c≤maxLen∧n≤c∧(0<n→∃ g,A=some ⟨g,0,none⟩∧B≤g∧g<w.heap.size):=by
 rcases h.2 with⟨hv,h0⟩ | ⟨g,cap,cur,hv,hb,hg,h1,h2,_⟩
 ·exact⟨none,0,by rw[hv,h0],by unfold maxLen;omega,by omega,fun h=>by omega⟩
 ·exact⟨some ⟨g,0,none⟩,cap,hv,h2,h1,fun _=>⟨g,rfl,hb,(Array.getElem?_eq_some_iff.1 hg).1⟩⟩
end Go.Proofs.YthbigkoihpgcfaaGreatDoor.Nu
namespace Go.Proofs.YthbigkoihpgcfaaGreatDoor.Nu
open Go.RowKit Tr
end Go.Proofs.YthbigkoihpgcfaaGreatDoor.Nu
namespace Go.Proofs.YthbigkoihpgcfaaGreatDoor.Tr
open Go.RowKit
theorem aCX {k:Nat} {s:ByteArray}:EC k s=true↔k ∈ Lx.aA s:=by unfold EC;rw[List.contains_iff_mem]
theorem aBI {b:Nat}:EC b aDQ=true↔b=101∨b=115∨b=110:=by
 rw[aCX]
 show b ∈ [101,115,110]↔_
 simp
section
variable {p:List Op} {l:List Lv}
end
end Go.Proofs.YthbigkoihpgcfaaGreatDoor.Tr
namespace Go.Proofs.YthbigkoihpgcfaaGreatDoor.Tr
open Go.RowKit
section
variable {p:List Op} {l:List Lv}
end
end Go.Proofs.YthbigkoihpgcfaaGreatDoor.Tr
namespace Go.Proofs.YthbigkoihpgcfaaGreatDoor.Tr
open Go.RowKit
section
variable {p:List Op} {l:List Lv}
end
end Go.Proofs.YthbigkoihpgcfaaGreatDoor.Tr
namespace Go.Proofs.YthbigkoihpgcfaaGreatDoor.Tr
open Go.RowKit
end Go.Proofs.YthbigkoihpgcfaaGreatDoor.Tr
namespace Go.Proofs.YthbigkoihpgcfaaGreatDoor.Tr
open Go.RowKit
end Go.Proofs.YthbigkoihpgcfaaGreatDoor.Tr
namespace Go.Proofs.YthbigkoihpgcfaaGreatDoor.Tr
open Go.RowKit
end Go.Proofs.YthbigkoihpgcfaaGreatDoor.Tr
namespace Go.Proofs.YthbigkoihpgcfaaGreatDoor.Tr
open Go.RowKit
end Go.Proofs.YthbigkoihpgcfaaGreatDoor.Tr
namespace Go.Proofs.YthbigkoihpgcfaaGreatDoor.Tr
open Go.RowKit
end Go.Proofs.YthbigkoihpgcfaaGreatDoor.Tr
namespace Go.Proofs.YthbigkoihpgcfaaGreatDoor.Nl
open Go.RowKit Tr Nu
end Go.Proofs.YthbigkoihpgcfaaGreatDoor.Nl
namespace Go.Proofs.YthbigkoihpgcfaaGreatDoor.Nl
open Go.RowKit Tr Nu
structure Rs where
 node:Nat
 place:Int
 kept:List Nat
def cY (l:List Nat):List Value:=l.map fun(b:Nat)=>.int .u8 (b:Int)
theorem JZ (l:List Nat) (b:Nat):cY (l++[b])=cY l++[.int .u8 (b:Int)]:=by simp[cY]
end Go.Proofs.YthbigkoihpgcfaaGreatDoor.Nl
namespace Go.Proofs.YthbigkoihpgcfaaGreatDoor.Nl
open Go.RowKit Tr Nu
theorem XI:(Tryz.prog.info? 5).map (fun i=>(i.zero,i.size,i.bytes))=some (some (.int .u8 0),1,1):=by kernel_rfl
end Go.Proofs.YthbigkoihpgcfaaGreatDoor.Nl
namespace Go.Proofs.YthbigkoihpgcfaaGreatDoor.Nl
open Go.RowKit Tr Nu
end Go.Proofs.YthbigkoihpgcfaaGreatDoor.Nl
namespace Go.Proofs.YthbigkoihpgcfaaGreatDoor.Nl
open Go.RowKit Tr Nu
end Go.Proofs.YthbigkoihpgcfaaGreatDoor.Nl
namespace Go.Proofs.YthbigkoihpgcfaaGreatDoor.Nl
open Go.RowKit Tr Nu
end Go.Proofs.YthbigkoihpgcfaaGreatDoor.Nl
namespace Go.Proofs.YthbigkoihpgcfaaGreatDoor.Nl
open Go.RowKit Tr Nu Go.Maps
end Go.Proofs.YthbigkoihpgcfaaGreatDoor.Nl
namespace Go.Proofs.YthbigkoihpgcfaaGreatDoor.Nl
open Go.RowKit Tr Nu
section
variable {w wr wx:World} {M:Nat} {t:List Nd} {i:Nat} {ar:List Nat} {P:Nat→Nat} {S:Nat→List Nat} {v:Value}
end
end Go.Proofs.YthbigkoihpgcfaaGreatDoor.Nl
namespace Go.Proofs.YthbigkoihpgcfaaGreatDoor.Nl
open Go.RowKit Tr Nu
def rX:ByteArray:={ data:=#[49,50,51,112,105,99,110] }
theorem aD4:∀ k:Fin 256,decide (0≤Lib.indexByte rX.data.toList ((k.val:Nat):Int).toNat.toUInt8)=dF k.val:=by decide +kernel
theorem XR {k:Nat} (hk:k<256):decide (0≤Lib.indexByte rX.data.toList ((k:Nat):Int).toNat.toUInt8)=dF k:=aD4 ⟨k,hk⟩
theorem xW (k:Nat) (ix:Int) (h:Lib.indexByte rX.data.toList ((k:Nat):Int).toNat.toUInt8=ix) (w:World) :
  Calls Tryz.prog 97 #[.string { data:=#[49,50,51,112,105,99,110] },.int .u8 (k:Int)] w fun e w'=>e=.returned (.int .i64 ix)∧w=w' :=
 (Tryz.strings_IndexByte rX (k:Int) w).mono fun e w' he=>⟨by rw[he.1,h],he.2.symm⟩
end Go.Proofs.YthbigkoihpgcfaaGreatDoor.Nl
namespace Go.Proofs.YthbigkoihpgcfaaGreatDoor.Nl
open Go.RowKit Tr Nu
section
variable {w wr wx:World} {N M:Nat} {t:List Nd} {P:Nat→Nat} {S:Nat→List Nat} {va:Value} {A:List (Rs × Value)} {done:Nat→Bool}
end
section
variable {w w4 w5 w6:World} {N M:Nat} {t:List Nd} {P:Nat→Nat} {S:Nat→List Nat} {va:Value} {A:List (Rs × Value)} {done:Nat→Bool}
end
end Go.Proofs.YthbigkoihpgcfaaGreatDoor.Nl
namespace Go.Proofs.YthbigkoihpgcfaaGreatDoor.Nl
open Go.RowKit Tr Nu Go.Maps
end Go.Proofs.YthbigkoihpgcfaaGreatDoor.Nl
namespace Go.Proofs.YthbigkoihpgcfaaGreatDoor.Nu
open Go.RowKit Tr
def k2 (x:Lx.Lx):Nat × Nat:=(x.kind,x.name)
def aF4 (t t':List Nd):Prop:=∀ i:Nat,(t'[i]?).map (fun(x:Nd)=>(x.kind,x.size,x.place))=(t[i]?).map (fun(x:Nd)=>(x.kind,x.size,x.place))
end Go.Proofs.YthbigkoihpgcfaaGreatDoor.Nu
namespace Go.Proofs.YthbigkoihpgcfaaGreatDoor.Nu
open Go.RowKit Tr
section
variable {t t':List Nd} (h:aF4 t t')
include h
end
end Go.Proofs.YthbigkoihpgcfaaGreatDoor.Nu
namespace Go.Proofs.YthbigkoihpgcfaaGreatDoor.Cn
open Go.RowKit Tr Nu
structure Oz (o o':Tr.Op):Prop where
 kind:o'.kind=o.kind
 notes:o'.notes=o.notes
 first:o'.first=o.first
 kids:EC o.kind aE0=true→o'.kids=o.kids
 list:EC 108 o'.kids=EC 108 o.kids
 text:o'.text.size≤o.text.size
def Pz (p p':List Tr.Op):Prop:=p'.length=p.length∧∀ i,Oz (p.getD i root) (p'.getD i root)
section
variable {p p':List Tr.Op} (h:Pz p p')
include h
end
section
variable {p p':List Tr.Op} (h:Pz p p')
include h
end
end Go.Proofs.YthbigkoihpgcfaaGreatDoor.Cn
namespace Go.Proofs.YthbigkoihpgcfaaGreatDoor.Cn
open Go.RowKit Tr Nu
theorem aAP {Q:Nd→Prop} (hQ:∀ z x,Q x→Q (aU z x)):∀ (L:List Ev) (T:List Nd) (S:List Nat),(∀ x ∈ T,Q x)→(∀ e ∈ L,e.kind=1∨e.kind=2→Q (LH e))→∀ x ∈ (L.foldl wE (T,S)).1,Q x:=by
 intro L
 induction L with
 | nil=>intro T S h _;exact h
 | cons e L ih =>
  intro T S h h2
  have h2L:=fun y hy=>h2 y (List.mem_cons_of_mem e hy)
  have he:=h2 e (List.mem_cons_self ..)
  rw[List.foldl_cons]
  by_cases h1:e.kind=1
  ·rw[rL h1]
   refine ih _ _ (fun x hx=>?_) h2L
   rcases List.mem_append.1 hx with g | g
   ·exact h x g
   ·rw[List.mem_singleton]at g;subst g;exact he (.inl h1)
  ·by_cases h3:e.kind=2
   ·rw[rM h3]
    refine ih _ _ (fun x hx=>?_) h2L
    rcases List.mem_append.1 hx with g | g
    ·exact h x g
    ·rw[List.mem_singleton]at g;subst g;exact he (.inr h3)
   ·unfold wE
    rw[if_neg h1,if_neg h3]
    refine ih _ _ (fun x hx=>?_) h2L
    obtain⟨j,hj⟩:=List.mem_iff_getElem?.1 hx
    rw[uN]at hj
    cases hy:T[j]? with
    | none=>rw[hy]at hj;cases hj
    | some y =>
     rw[hy]at hj
     simp only[Option.map_some,Option.some.injEq]at hj
     have hq:=h y (List.mem_of_getElem? hy)
     rw[← hj]
     split
     ·exact hQ _ _ hq
     ·exact hq
end Go.Proofs.YthbigkoihpgcfaaGreatDoor.Cn
namespace Go.Proofs.YthbigkoihpgcfaaGreatDoor.Cn
open Go.RowKit Tr Nu
end Go.Proofs.YthbigkoihpgcfaaGreatDoor.Cn
namespace Go.Proofs.YthbigkoihpgcfaaGreatDoor.Cn
open Go.RowKit Tr Nu
end Go.Proofs.YthbigkoihpgcfaaGreatDoor.Cn
namespace Go.Proofs.YthbigkoihpgcfaaGreatDoor.Cn
open Go.RowKit Tr Nu
end Go.Proofs.YthbigkoihpgcfaaGreatDoor.Cn
namespace Go.Proofs.YthbigkoihpgcfaaGreatDoor.Nl
open Go.RowKit Tr Nu
theorem XJ (W:World) {B:Nat} {v:Value} {l:List Nat} (hl:∀ b ∈ l,b<256) (h:W.ownsRow B 5 1 v l.length (cY l)) (h0:0<l.length) :
  (convert 89 9 v).run Tryz.prog W=.ok (.string (Lx.bytesOf l)) W:=by
 obtain⟨A,c,rfl,-,-,hA⟩:=eH h
 obtain⟨g,rfl,-,-⟩:=hA h0
 have:=run_convert_bytes_back (P:=Tryz.prog) W 89 9 5 ⟨g,0,none⟩ c (l.map UInt8.ofNat) Tryz.underlying89 Tryz.underlying5 Tryz.underlying9 (fun k hk=>by
  rw[List.length_map]at hk
  have e:(⟨g,0,none⟩:Addr).add k=⟨g,k,none⟩:=by unfold Addr.add;split<;>simp_all
  rw[e,h.cellAt k (by omega)]
  unfold cY
  rw[List.getElem?_map,List.getElem?_eq_getElem hk]
  have:=hl l[k] (List.getElem_mem _)
  simp[Nat.mod_eq_of_lt this])
 rw[List.length_map]at this
 exact this
end Go.Proofs.YthbigkoihpgcfaaGreatDoor.Nl
namespace Go.Proofs.YthbigkoihpgcfaaGreatDoor.Nl
open Go.RowKit Tr Nu
theorem JF:(Tryz.prog.info? 188).map (fun i=>(i.zero,i.size,i.bytes))=some (some (.agg #[.int .u8 0,.string { data:=#[] },.int .i64 0,.int .i64 0]),4,40):=by kernel_rfl
end Go.Proofs.YthbigkoihpgcfaaGreatDoor.Nl
namespace Go.Proofs.YthbigkoihpgcfaaGreatDoor.Nl
open Go.RowKit Tr Nu
section
variable {t:List Nd} (hp:∀ x ∈ t,PY x)
include hp
end
section
variable {t:List Nd} (hp:∀ x ∈ t,PY x)
include hp
end
end Go.Proofs.YthbigkoihpgcfaaGreatDoor.Nl
namespace Go.Proofs.YthbigkoihpgcfaaGreatDoor.Nl
open Go.RowKit Tr Nu
end Go.Proofs.YthbigkoihpgcfaaGreatDoor.Nl
namespace Go.Proofs.YthbigkoihpgcfaaGreatDoor.Nl
open Go.RowKit Tr Nu
section
variable {w5 w:World} {Wb off:Nat} {t:List Nd} {v:Value} {A:List (Rs × Value)} {a z i:Nat} {out:List Nd}
end
end Go.Proofs.YthbigkoihpgcfaaGreatDoor.Nl
namespace Go.Proofs.YthbigkoihpgcfaaGreatDoor.Nl
open Go.RowKit Tr Nu
section
variable {w w':World} {N M:Nat} {t:List Nd} {P:Nat→Nat} {S:Nat→List Nat} {va:Value} {A:List (Rs × Value)}
end
end Go.Proofs.YthbigkoihpgcfaaGreatDoor.Nl
namespace Go.Proofs.YthbigkoihpgcfaaGreatDoor.Nl
open Go.RowKit Tr Nu
def In64 (p:Int):Prop:=-9223372036854775808≤p∧p≤9223372036854775807
def aBX (x:Ev):Prop:=In64 x.place∧(x.kind≠1→x.name<256)
theorem C0 {acc:List Ev} {x:Ev} (ha:∀ y ∈ acc,aBX y) (hx:aBX x):∀ y ∈ nE acc x,aBX y:=by
 have snoc:∀ y ∈ acc++[x],aBX y:=fun y hy=>by
  rcases List.mem_append.1 hy with h | h
  ·exact ha y h
  ·rw[List.mem_singleton]at h;subst h;exact hx
 by_cases h:x.kind=1
 ·by_cases h0:x.text.size=0
  ·rw[rU h h0];exact ha
  ·rcases List.eq_nil_or_concat acc with rfl | ⟨B',y,rfl⟩
   ·rw[dV h h0 nF];exact snoc
   ·rw[List.concat_eq_append]at snoc ha ⊢
    by_cases hy:y.kind=1
    ·rw[lB h h0 hy]
     intro z hz
     rcases List.mem_append.1 hz with h2 | h2
     ·exact ha z (by simp[h2])
     ·rw[List.mem_singleton]at h2;subst h2
      exact ha y (by simp)
    ·rw[dV h h0 (lC hy)];exact snoc
 ·rw[rV h];exact snoc
end Go.Proofs.YthbigkoihpgcfaaGreatDoor.Nl
namespace Go.Proofs.YthbigkoihpgcfaaGreatDoor.Nl
open Go.RowKit Tr Nu
end Go.Proofs.YthbigkoihpgcfaaGreatDoor.Nl
namespace Go.Proofs.YthbigkoihpgcfaaGreatDoor.Cn
open Go.RowKit Tr Nu
end Go.Proofs.YthbigkoihpgcfaaGreatDoor.Cn
namespace Go.Proofs.YthbigkoihpgcfaaGreatDoor.Cn
open Go.RowKit Tr Nu
theorem mP {α:Type} {P:List α→Prop} (h0:P []) (h1:∀ l x,P l→P (l++[x])):∀ (n:Nat) (l:List α),l.length=n→P l
 | 0,l,h=>by rw[List.eq_nil_of_length_eq_zero h];exact h0
 | n+1,l,h=>by
  rcases List.eq_nil_or_concat l with rfl | ⟨l',x,rfl⟩
  ·exact h0
  ·rw[List.concat_eq_append]at h ⊢
   exact h1 l' x (mP h0 h1 n l' (by rw[List.length_append,List.length_singleton]at h;omega))
end Go.Proofs.YthbigkoihpgcfaaGreatDoor.Cn
namespace Go.Proofs.YthbigkoihpgcfaaGreatDoor.Cn
open Go.RowKit Tr Nu
end Go.Proofs.YthbigkoihpgcfaaGreatDoor.Cn
namespace Go.Proofs.YthbigkoihpgcfaaGreatDoor.Tr
open Go.RowKit
end Go.Proofs.YthbigkoihpgcfaaGreatDoor.Tr
namespace Go.Proofs.YthbigkoihpgcfaaGreatDoor.Cn
open Go.RowKit Tr Nu Nl
def aDL (v:Value):Prop:=∀ A n c,v=.slice A n c→n≤c∧c≤maxLen
theorem O7 {A:Option Addr} {n c:Nat} (h1:n≤c) (h2:c≤maxLen):aDL (.slice A n c):=fun _ _ _ e=>by
 injection e with _ e1 e2
 subst e1 e2
 exact⟨h1,h2⟩
theorem VH {w:World} {base e size n:Nat} {v:Value} {xs:List Value} (h:w.ownsRow base e size v n xs):aDL v:=by
 rcases h.2 with⟨rfl,_⟩ | ⟨g,cap,cur,rfl,_,_,h1,h2,_⟩
 ·exact O7 (Nat.le_refl _) (by unfold maxLen;omega)
 ·exact O7 h1 h2
end Go.Proofs.YthbigkoihpgcfaaGreatDoor.Cn
namespace Go.Proofs.YthbigkoihpgcfaaGreatDoor.Cn
open Go.RowKit Tr Nu Nl
end Go.Proofs.YthbigkoihpgcfaaGreatDoor.Cn
namespace Go.Proofs.YthbigkoihpgcfaaGreatDoor.Cn
open Go.RowKit Tr Nu Nl
theorem B5 (A B:List Ev):gO (A++B)=gO A+gO B:=by
 induction A with
 | nil=>show gO B=0+gO B;omega
 | cons x A ih=>show ED x+gO (A++B)=ED x+gO A+gO B;rw[ih];omega
end Go.Proofs.YthbigkoihpgcfaaGreatDoor.Cn
namespace Go.Proofs.YthbigkoihpgcfaaGreatDoor.Cl
open Go.RowKit Hc
theorem aC {a b:Bool} (h:a=b):Ending.returned (.bool a)=.returned (.bool b):=by rw[h]
def l9 (c:Int):Int:=if cls c=2 then c+32 else c
def QU (b:UInt8):UInt8:=if fJ b.toNat=2 then b+32 else b
theorem U7:∀ n:Fin 256,((QU (UInt8.ofNat n.val)).toNat:Int)=l9 (n.val:Int):=by decide +kernel
theorem L1 (b:UInt8):((QU b).toNat:Int)=l9 (b.toNat:Int):=by
 have h:=U7 ⟨b.toNat,UInt8.toNat_lt b⟩
 simp only[UInt8.ofNat_toNat]at h
 exact h
def BB (s:ByteArray):List UInt8:=s.data.toList.map QU
def aDJ (s:ByteArray):ByteArray:=⟨(BB s).toArray⟩
theorem wA (s:ByteArray):(BB s).length=s.size:=by simp[BB]
theorem U8 (s:ByteArray) (j:Nat) (hj:j<(BB s).length):((BB s)[j].toNat:Int)=l9 (aV s j):=by
 have hj':j<s.data.toList.length:=by simpa[BB] using hj
 have e:(BB s)[j]=QU s.data.toList[j]:=by simp[BB]
 rw[e,L1]
 unfold aV
 rw[List.getD_eq_getElem?_getD,List.getElem?_eq_getElem hj']
 rfl
theorem infoByte:(Tryz.prog.info? 5).map (fun i=>(i.zero,i.size,i.bytes))=some (some (.int .u8 0),1,1):=by kernel_rfl
end Go.Proofs.YthbigkoihpgcfaaGreatDoor.Cl
namespace Go.Proofs.YthbigkoihpgcfaaGreatDoor.Pa
open Go.RowKit Ba Ru Ck Ti
end Go.Proofs.YthbigkoihpgcfaaGreatDoor.Pa
namespace Go.Proofs.YthbigkoihpgcfaaGreatDoor.Pa
open Go.RowKit Ba Ru Ck Ti
end Go.Proofs.YthbigkoihpgcfaaGreatDoor.Pa
