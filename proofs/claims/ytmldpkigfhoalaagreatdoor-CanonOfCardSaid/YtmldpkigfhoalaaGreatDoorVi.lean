/-
  Put together: TuA, TuBa.
-/
import Derived.Test.YtmldpkigfhoalaaGreatDoorVj
import Derived.Test.YtmldpkigfhoalaaGreatDoorVa
import Derived.Deep.RegionHeld3
import Derived.Deep.AppendLies
import Derived.Deep.RegionLaw
import Derived.Deep.DeepCutAuto
import Derived.Deep.CutBlock
namespace Go.Proofs.YtmldpkigfhoalaaGreatDoor.Tr
open Go.RowKit
theorem at_some {α:Type} {l:List α} {i:Nat} (hi:i<l.length):∃ b,l[i]?=some b:=⟨_,List.getElem?_eq_getElem hi⟩
theorem at_getD {α:Type} {l:List α} {i:Nat} {b d:α} (hb:l[i]?=some b):l.getD i d=b:=by
 rw [List.getD_eq_getElem?_getD,hb];rfl
theorem at_modify {α:Type} {l:List α} {i:Nat} {b:α} (hb:l[i]?=some b) (f:α→α):l.set i (f b)=l.modify i f:=by
 apply List.ext_getElem?
 intro j
 rw [List.getElem?_set,List.getElem?_modify]
 by_cases h:i=j
 ·subst h
  have:=(List.getElem?_eq_some_iff.1 hb).1
  rw [if_pos rfl,if_pos this,hb];simp
 ·rw [if_neg h];simp only [if_neg h];cases l[j]?<;>rfl
theorem modify_some {α:Type} {l:List α} {i j:Nat} {f:α→α} {x:α} (h:(l.modify i f)[j]?=some x):∃ y,l[j]?=some y∧(x=y∨x=f y):=by
 rw [List.getElem?_modify] at h
 obtain ⟨y,hy,hf⟩:=Option.map_eq_some_iff.1 h
 refine ⟨y,hy,?_⟩
 by_cases hij:i=j
 ·rw [if_pos hij] at hf;exact .inr hf.symm
 ·rw [if_neg hij] at hf;exact .inl hf.symm
def GoodO (a b c d e:Nat) (o:Op):Prop:=o.kind<256∧o.kids.size≤a∧o.notes≤b∧o.first≤c∧o.text.size≤d∧o.spot≤e
theorem GoodO.more {a b c d e a' b' c' d' e':Nat} {o:Op} (h:GoodO a b c d e o) (h1:a≤a') (h2:b≤b') (h3:c≤c') (h4:d≤d') (h5:e≤e'):GoodO a' b' c' d' e' o:=by
 obtain ⟨x1,x2,x3,x4,x5,x6⟩:=h
 exact ⟨x1,by omega,by omega,by omega,by omega,by omega⟩
theorem good_mod {p:List Op} {i:Nat} {f:Op→Op} {G G':Op→Prop} (h:∀ o ∈ p,G o) (h1:∀ o,G o→G' o) (h2:∀ o,G o→G' (f o)):∀ o ∈ p.modify i f,G' o:=by
 intro o ho
 obtain ⟨j,hj⟩:=List.mem_iff_getElem?.1 ho
 obtain ⟨y,hy,he⟩:=modify_some hj
 have hm:=h y (List.mem_of_getElem? hy)
 rcases he with rfl | rfl
 ·exact h1 _ hm
 ·exact h2 _ hm
theorem oneS_size (k:Nat):(oneS k).size=1:=Lx.bytesOf_size _
theorem GoodO.kid {a b c d e:Nat} {o:Op} (h:GoodO a b c d e o) (n:Nat):GoodO (a+1) b c d e (addKid n o):=by
 obtain ⟨x1,x2,x3,x4,x5,x6⟩:=h
 refine ⟨x1,?_,x3,x4,x5,x6⟩
 show (o.kids++oneS n).size≤a+1
 rw [ByteArray.size_append,oneS_size];omega
theorem GoodO.say {a b c d e:Nat} {o:Op} (h:GoodO a b c d e o) (s:ByteArray):GoodO a b c (d+s.size) e (addText s o):=by
 obtain ⟨x1,x2,x3,x4,x5,x6⟩:=h
 refine ⟨x1,x2,x3,x4,?_,x6⟩
 show (o.text++s).size≤d+s.size
 rw [ByteArray.size_append];omega
theorem GoodO.noted {a b c d e:Nat} {o:Op} (h:GoodO a b c d e o):GoodO a (b+1) c d e (addNote o):=by
 obtain ⟨x1,x2,x3,x4,x5,x6⟩:=h
 exact ⟨x1,x2,Nat.succ_le_succ x3,x4,x5,x6⟩
theorem GoodO.firsts {a b c d e n:Nat} {o:Op} (h:GoodO a b c d e o) (hn:n≤c):GoodO a b c d e (setFirst n o):=by
 obtain ⟨x1,x2,x3,x4,x5,x6⟩:=h
 exact ⟨x1,x2,x3,hn,x5,x6⟩
structure GoodS (k:Nat) (st:List Nd × List Op):Prop where
 pos:0<st.2.length
 plen:st.2.length≤k+1
 tlen:st.1.length≤k
 op:∀ o ∈ st.2,GoodO k k k (k * 9000) k o
 spot:∀ i o,0<i→st.2[i]?=some o→o.spot<st.1.length
theorem GoodS.zero:GoodS 0 ([],[root]):=by
 refine ⟨by simp,by simp,by simp,fun o ho=>?_,fun i o hi ho=>?_⟩
 ·rw [List.mem_singleton] at ho;subst ho
  exact ⟨by decide,by decide,by decide,by decide,by decide,by decide⟩
 ·cases i with
  | zero=>omega
  | succ i=>simp at ho
def PartOk (x:Lx.Lx):Prop:=x.name<256∧x.text.size≤9000∧x.place≤70000∧x.kind≤3
theorem GoodS.step {k:Nat} {t:List Nd} {p:List Op} (h:GoodS k (t,p)) (x:Lx.Lx) (hx:PartOk x) (hc:x.kind=1∨x.kind=2∨1<p.length):GoodS (k+1) (stepR (t,p) x):=by
 obtain ⟨q1,q2,q3,q4,q5⟩:=h
 simp only [] at q1 q2 q3 q4 q5
 have hk9:k * 9000+9000=(k+1) * 9000:=by omega
 unfold stepR
 simp only []
 by_cases h1:x.kind=1
 ·rw [if_pos h1]
  by_cases hT:textsP p=true
  ·rw [if_pos hT]
   have g1:∀ o ∈ p.modify (p.length - 1) (addKid 46),GoodO (k+1) k k (k * 9000) k o:=good_mod q4 (fun o ho=>ho.more (by omega) (by omega) (by omega) (by omega) (by omega)) (fun o ho=>ho.kid _)
   have g2:∀ i o,0<i→(p.modify (p.length - 1) (addKid 46))[i]?=some o→o.spot<t.length:=fun i o hi ho=>by
    obtain ⟨y,hy,he⟩:=modify_some ho
    have:=q5 i y hi hy
    rcases he with rfl | rfl
    ·exact this
    ·exact this
   by_cases hn:0<lastP (p.modify (p.length - 1) (addKid 46)) noteS
   ·rw [if_pos hn]
    refine ⟨by simpa using q1,by simp;omega,by simp;omega,?_,fun i o hi ho=>?_⟩
    ·exact good_mod g1 (fun o ho=>ho.more (by omega) (by omega) (by omega) (by omega) (by omega)) (fun o ho=>(ho.say x.text).more (by omega) (by omega) (by omega) (by have:=hx.2.1;omega) (by omega))
    ·obtain ⟨y,hy,he⟩:=modify_some ho
     have:=g2 i y hi hy
     simp only [List.length_append,List.length_singleton]
     rcases he with rfl | rfl
     ·omega
     ·show y.spot<_;omega
   ·rw [if_neg hn]
    refine ⟨by simpa using q1,by simp;omega,by simp;omega,fun o ho=>(g1 o ho).more (by omega) (by omega) (by omega) (by omega) (by omega),fun i o hi ho=>?_⟩
    have:=g2 i o hi ho
    simp only [List.length_append,List.length_singleton];omega
  ·rw [if_neg hT]
   exact ⟨q1,by simp only [];omega,by simp only [];omega,fun o ho=>(q4 o ho).more (by omega) (by omega) (by omega) (by omega) (by omega),q5⟩
 rw [if_neg h1]
 by_cases h2:x.kind=2
 ·rw [if_pos h2]
  have g1:∀ o ∈ p.modify (p.length - 1) (addKid x.name),GoodO (k+1) k k (k * 9000) k o:=good_mod q4 (fun o ho=>ho.more (by omega) (by omega) (by omega) (by omega) (by omega)) (fun o ho=>ho.kid _)
  have g2:∀ i o,0<i→(p.modify (p.length - 1) (addKid x.name))[i]?=some o→o.spot<t.length:=fun i o hi ho=>by
   obtain ⟨y,hy,he⟩:=modify_some ho
   have:=q5 i y hi hy
   rcases he with rfl | rfl
   ·exact this
   ·exact this
  have g3:∃ p2,(if x.name=110 then (p.modify (p.length - 1) (addKid x.name)).modify (lastP (p.modify (p.length - 1) (addKid x.name)) aroundS) addNote else p.modify (p.length - 1) (addKid x.name))=p2∧p2.length=p.length∧(∀ o ∈ p2,GoodO (k+1) (k+1) (k+1) ((k+1) * 9000) (k+1) o)∧∀ i o,0<i→p2[i]?=some o→o.spot<t.length:=by
   by_cases hn:x.name=110
   ·rw [if_pos hn]
    refine ⟨_,rfl,by simp,?_,fun i o hi ho=>?_⟩
    ·exact good_mod g1 (fun o ho=>ho.more (by omega) (by omega) (by omega) (by omega) (by omega)) (fun o ho=>ho.noted.more (by omega) (by omega) (by omega) (by omega) (by omega))
    ·obtain ⟨y,hy,he⟩:=modify_some ho
     have:=g2 i y hi hy
     rcases he with rfl | rfl
     ·exact this
     ·exact this
   ·rw [if_neg hn]
    exact ⟨_,rfl,by simp,fun o ho=>(g1 o ho).more (by omega) (by omega) (by omega) (by omega) (by omega),g2⟩
  obtain ⟨p2,e2,l2,r1,r2⟩:=g3
  rw [e2]
  refine ⟨by simp,by simp;omega,by simp;omega,fun o ho=>?_,fun i o hi ho=>?_⟩
  ·rcases List.mem_append.1 ho with ho | ho
   ·exact r1 o ho
   ·rw [List.mem_singleton] at ho;subst ho
    exact ⟨hx.1,Nat.zero_le _,Nat.zero_le _,Nat.zero_le _,Nat.zero_le _,by show t.length≤_;omega⟩
  ·simp only [List.length_append,List.length_singleton]
   simp only [] at ho
   rcases Nat.lt_or_ge i p2.length with hl | hl
   ·rw [List.getElem?_append_left hl] at ho
    have:=r2 i o hi ho;omega
   ·rw [List.getElem?_append_right hl] at ho
    cases hd:i - p2.length with
    | zero=>rw [hd] at ho;simp at ho;subst ho;show t.length<_;omega
    | succ n=>rw [hd] at ho;simp at ho
 rw [if_neg h2]
 have h3:1<p.length:=by omega
 obtain ⟨o,ho⟩:=at_some (l:=p) (i:=p.length - 1) (by omega)
 have hT:topP p=o:=topP_at (m:=p.length - 1) (by omega) ho
 rw [hT]
 have hok:=(q4 o (List.mem_of_getElem? ho)).2.1
 have g3:∃ p2,(if o.kind=114∧(p.getD (p.length - 1 - 1) root).first=0 then p.modify (p.length - 1 - 1) (setFirst o.kids.size) else p)=p2∧p2.length=p.length∧(∀ o ∈ p2,GoodO (k+1) (k+1) (k+1) ((k+1) * 9000) (k+1) o)∧∀ i o,0<i→p2[i]?=some o→o.spot<t.length:=by
  split
  ·refine ⟨_,rfl,by simp,?_,fun i o hi ho=>?_⟩
   ·exact good_mod q4 (fun o ho=>ho.more (by omega) (by omega) (by omega) (by omega) (by omega)) (fun y ho=>(ho.firsts hok).more (by omega) (by omega) (by omega) (by omega) (by omega))
   ·obtain ⟨y,hy,he⟩:=modify_some ho
    have:=q5 i y hi hy
    rcases he with rfl | rfl
    ·exact this
    ·exact this
  ·exact ⟨_,rfl,rfl,fun o ho=>(q4 o ho).more (by omega) (by omega) (by omega) (by omega) (by omega),q5⟩
 obtain ⟨p2,e2,l2,r1,r2⟩:=g3
 rw [e2]
 refine ⟨by simp;omega,by simp;omega,by simp;omega,fun o ho=>r1 o (List.mem_of_mem_take ho),fun i o hi ho=>?_⟩
 simp only [] at ho
 rw [List.getElem?_take] at ho
 split at ho
 ·simp only [List.length_modify];exact r2 i o hi ho
 ·cases ho
def SafeL (l:List Lx.Lx):Prop:=(∀ x ∈ l,PartOk x)∧∀ i x,l[i]?=some x→x.kind=1∨x.kind=2∨1<(readL (l.take i)).2.length
theorem SafeL.good {l:List Lx.Lx} (h:SafeL l):∀ k,k≤l.length→GoodS k (readL (l.take k))
 | 0,_=>by rw [List.take_zero];exact GoodS.zero
 | k+1,hk=>by
  obtain ⟨x,hx⟩:=at_some (l:=l) (i:=k) (by omega)
  rw [List.take_add_one,hx,Option.toList_some,readL_snoc]
  exact (h.good k (by omega)).step x (h.1 x (List.mem_of_getElem? hx)) (h.2 k x hx)
theorem SafeL.take {l:List Lx.Lx} (h:SafeL l) (k:Nat):SafeL (l.take k):=by
 refine ⟨fun x hx=>h.1 x (List.mem_of_mem_take hx),fun i x hx=>?_⟩
 rw [List.getElem?_take] at hx
 split at hx
 ·rw [List.take_take,Nat.min_eq_left (by omega)];exact h.2 i x hx
 ·cases hx
structure RdM (w:World) (N:Nat) (V T:Value) (p:List Op) (t:List Nd):Prop where
 pr:w.ownsRow N 106 6 V p.length (Ba.rows cO p)
 tr:w.ownsRow N 33 4 T t.length (Ba.rows cN t)
 ne:∀ g,V.ownBlock=some g→T.ownBlock≠some g
theorem RdM.below {w w':World} {N:Nat} {V T:Value} {p:List Op} {t:List Nd} (h:RdM w N V T p t) (hb:Below w.heap.size w w'):RdM w' N V T p t:=⟨Lx.own_below h.pr hb,Lx.own_below h.tr hb,h.ne⟩
theorem RdM.at {w:World} {N:Nat} {V T:Value} {p:List Op} {t:List Nd} (h:RdM w N V T p t) {m:Nat} (hm:p.length=m+1):∃ g c,V=.slice (some ⟨g,0,none⟩) (m+1) c∧m+1≤c∧N≤g∧g<w.heap.size∧(∀ j,w.frozen? ⟨g,j,none⟩=false)∧∀ i o,p[i]?=some o →
  w.cell? ⟨g,i * 6,none⟩=some (.int .u8 (o.kind:Int))∧w.cell? ⟨g,i * 6+1,none⟩=some (.string o.kids)∧w.cell? ⟨g,i * 6+2,none⟩=some (.int .i64 (o.spot:Int)) ∧
  w.cell? ⟨g,i * 6+3,none⟩=some (.int .i64 (o.notes:Int))∧w.cell? ⟨g,i * 6+4,none⟩=some (.int .i64 (o.first:Int))∧w.cell? ⟨g,i * 6+5,none⟩=some (.string o.text):=by
 obtain ⟨g,c,hv,hb,hg⟩:=h.pr.form (by omega)
 rw [hm] at hv
 subst hv
 have own:=h.pr
 rw [hm] at own
 have hcap:m+1≤c:=by
  rcases own.2 with ⟨h',_⟩ | ⟨g',c',_,h',_,_,h1,_⟩
  ·cases h'
  ·injection h' with _ _ e;omega
 refine ⟨g,c,rfl,hcap,hb,hg,fun j=>own.frozenAt j,fun i o ho=>?_⟩
 have hi:i<p.length:=(List.getElem?_eq_some_iff.1 ho).1
 have key:∀ j,j<6→w.cell? ⟨g,i * 6+j,none⟩=(cO o)[j]?:=fun j hj=>by
  rw [own.cellAt _ (by omega),Ba.rows_at cO cO_len _ _ _ ho j hj]
 exact ⟨key 0 (by omega),key 1 (by omega),key 2 (by omega),key 3 (by omega),key 4 (by omega),key 5 (by omega)⟩
theorem RdM.formT {w:World} {N:Nat} {V T:Value} {p:List Op} {t:List Nd} (h:RdM w N V T p t):∃ A c,T=.slice A t.length c:=by
 rcases h.tr.2 with ⟨h',h0⟩ | ⟨g',c',_,h',_⟩
 ·exact ⟨none,0,by rw [h',h0]⟩
 ·exact ⟨_,_,h'⟩
theorem RdM.atT {w:World} {N:Nat} {V T:Value} {p:List Op} {t:List Nd} (h:RdM w N V T p t) {n:Nat} (hn:t.length=n) (h0:0<n):∃ g c,T=.slice (some ⟨g,0,none⟩) n c∧(∀ j,w.frozen? ⟨g,j,none⟩=false)∧∀ i x,t[i]?=some x →
  w.cell? ⟨g,i * 4,none⟩=some (.int .u8 (x.kind:Int))∧w.cell? ⟨g,i * 4+1,none⟩=some (.string x.text)∧w.cell? ⟨g,i * 4+2,none⟩=some (.int .i64 x.place)∧w.cell? ⟨g,i * 4+3,none⟩=some (.int .i64 x.size):=by
 subst hn
 obtain ⟨g,c,hv,hb,hg⟩:=h.tr.form h0
 subst hv
 refine ⟨g,c,rfl,fun j=>h.tr.frozenAt j,fun i o ho=>?_⟩
 have hi:i<t.length:=(List.getElem?_eq_some_iff.1 ho).1
 have key:∀ j,j<4→w.cell? ⟨g,i * 4+j,none⟩=(cN o)[j]?:=fun j hj=>by
  rw [h.tr.cellAt _ (by omega),Ba.rows_at cN cN_len _ _ _ ho j hj]
 exact ⟨key 0 (by omega),key 1 (by omega),key 2 (by omega),key 3 (by omega)⟩
theorem RdM.reads {w:World} {N:Nat} {V T:Value} {p:List Op} {t:List Nd} (h:RdM w N V T p t):ReadsO w w.heap.size V p:=Ba.Reads.of_own cO_len rfl h.pr
theorem RdM.readsT {w:World} {N:Nat} {V T:Value} {p:List Op} {t:List Nd} (h:RdM w N V T p t):Ba.Reads cN 4 0 w w.heap.size T t:=Ba.Reads.of_own cN_len rfl h.tr
theorem RdM.setP {w:World} {N:Nat} {V T:Value} {p:List Op} {t:List Nd} (h:RdM w N V T p t) {g k c i:Nat} (hV:V=.slice (some ⟨g,0,none⟩) k c) {o:Op} (ho:p[i]?=some o) (j:Nat) (hj:j<6) (f:Op→Op) (v:Value) (hf:(cO o).set j v=cO (f o)) :
  RdM (w.setCell ⟨g,i * 6+j,none⟩ v) N V T (p.modify i f) t∧Below N w (w.setCell ⟨g,i * 6+j,none⟩ v):=by
 have own:=h.pr
 have hi:i<p.length:=(List.getElem?_eq_some_iff.1 ho).1
 obtain ⟨g',c',e,hb,hg⟩:=own.form (by omega)
 rw [hV] at e
 injection e with e1 e2 e3
 injection e1 with e1
 injection e1 with e1 _ _
 subst e1;subst e2;subst e3;subst hV
 refine ⟨⟨?_,Ba.own_far h.tr _ (fun e=>h.ne g rfl e),h.ne⟩,(Below.refl N w).setCell (p:=⟨g,i * 6+j,none⟩) hb _⟩
 rw [List.length_modify,← at_modify ho,← Ba.rows_set cO cO_len p i o (f o) ho j v hj hf]
 exact (own.stored _ _).1
theorem RdM.setT {w:World} {N:Nat} {V T:Value} {p:List Op} {t:List Nd} (h:RdM w N V T p t) {g k c i:Nat} (hT:T=.slice (some ⟨g,0,none⟩) k c) {x:Nd} (hx:t[i]?=some x) (j:Nat) (hj:j<4) (f:Nd→Nd) (v:Value) (hf:(cN x).set j v=cN (f x)) :
  RdM (w.setCell ⟨g,i * 4+j,none⟩ v) N V T p (t.modify i f)∧Below N w (w.setCell ⟨g,i * 4+j,none⟩ v):=by
 have own:=h.tr
 have hi:i<t.length:=(List.getElem?_eq_some_iff.1 hx).1
 obtain ⟨g',c',e,hb,hg⟩:=own.form (by omega)
 rw [hT] at e
 injection e with e1 e2 e3
 injection e1 with e1
 injection e1 with e1 _ _
 subst e1;subst e2;subst e3;subst hT
 refine ⟨⟨Ba.own_far h.pr _ (fun e=>h.ne g e rfl),?_,h.ne⟩,(Below.refl N w).setCell (p:=⟨g,i * 4+j,none⟩) hb _⟩
 rw [List.length_modify,← at_modify hx,← Ba.rows_set cN cN_len t i x (f x) hx j v hj hf]
 exact (own.stored _ _).1
theorem RdM.moreT {w w1 w5:World} {N:Nat} {V T:Value} {p:List Op} {t:List Nd} (h:RdM w N V T p t) (hN:N≤w.heap.size) (h1:Below w.heap.size w w1) (hg:w1.grownBy w5 T.ownBlock) {gg cap k:Nat} (hk:t.length=k) (x:Nd)
  (hown:w5.ownsRow N 33 4 (.slice (some ⟨gg,0,none⟩) (k+1) cap) (k+1) (Ba.rows cN t++cN x)) (hat:T.ownBlock=some gg∨w.heap.size≤gg) :
  RdM w5 N V (.slice (some ⟨gg,0,none⟩) (k+1) cap) p (t++[x])∧Below N w w5:=by
 subst hk
 refine ⟨⟨(Lx.own_below h.pr h1).kept hg ?_,by rw [List.length_append,Ba.rows_snoc];exact hown,fun g e e'=>?_⟩,(h1.mono hN).grown hg (Nat.le_trans hN h1.size) (fun j ej=>(h.tr.lt j ej).1)⟩
 ·cases hv:V.ownBlock with
  | none=>exact .inl rfl
  | some g=>exact .inr (fun e=>h.ne g hv e.symm)
 ·have hgg:gg=g:=by simpa [Value.ownBlock] using e'
  subst hgg
  rcases hat with h2 | h2
  ·exact h.ne _ e h2
  ·have:=(h.pr.lt _ e).2;omega
theorem RdM.moreP {w w1 w5:World} {N:Nat} {V T:Value} {p:List Op} {t:List Nd} (h:RdM w N V T p t) (hN:N≤w.heap.size) (h1:Below w.heap.size w w1) (hg:w1.grownBy w5 V.ownBlock) {gg cap k:Nat} (hk:p.length=k) (x:Op)
  (hown:w5.ownsRow N 106 6 (.slice (some ⟨gg,0,none⟩) (k+1) cap) (k+1) (Ba.rows cO p++cO x)) (hat:V.ownBlock=some gg∨w.heap.size≤gg) :
  RdM w5 N (.slice (some ⟨gg,0,none⟩) (k+1) cap) T (p++[x]) t∧Below N w w5:=by
 subst hk
 refine ⟨⟨by rw [List.length_append,Ba.rows_snoc];exact hown,(Lx.own_below h.tr h1).kept hg ?_,fun g e e'=>?_⟩,(h1.mono hN).grown hg (Nat.le_trans hN h1.size) (fun j ej=>(h.pr.lt j ej).1)⟩
 ·cases hv:T.ownBlock with
  | none=>exact .inl rfl
  | some g=>exact .inr (fun e=>h.ne g e.symm hv)
 ·have hgg:gg=g:=by simpa [Value.ownBlock] using e
  subst hgg
  rcases hat with h2 | h2
  ·exact h.ne _ h2 e'
  ·have:=(h.tr.lt _ e').2;omega
theorem RdM.cut {w:World} {N:Nat} {T:Value} {p:List Op} {t:List Nd} {g k c m:Nat} (h:RdM w N (.slice (some ⟨g,0,none⟩) k c) T p t) (hk:p.length=k) (hm:m≤k):RdM w N (.slice (some ⟨g,0,none⟩) m c) T (p.take m) t:=by
 subst hk
 refine ⟨?_,h.tr,h.ne⟩
 have:=Ba.own_take h.pr hm
 rw [Ba.rows_take cO cO_len p m hm] at this
 rw [List.length_take,Nat.min_eq_left hm]
 exact this
theorem kidsOk_of {k:Nat} {p:List Op} (hk:k≤9000) (h:∀ o ∈ p,GoodO k k k (k * 9000) k o):kindsOk p:=fun o ho=>⟨(h o ho).1,by have:=(h o ho).2.1;omega⟩
theorem infoOpen:(Tryz.prog.info? 106).map (fun i=>(i.zero,i.size,i.bytes))=some (some (.agg #[.int .u8 0,.string { data:=#[] },.int .i64 0,.int .i64 0,.int .i64 0,.string { data:=#[] }]),6,64):=by kernel_rfl
theorem infoNodeR:(Tryz.prog.info? 33).map (fun i=>(i.zero,i.size,i.bytes))=some (some (.agg #[.int .u8 0,.string { data:=#[] },.int .i64 0,.int .i64 0]),4,40):=by kernel_rfl
end Go.Proofs.YtmldpkigfhoalaaGreatDoor.Tr
namespace Go.Proofs.YtmldpkigfhoalaaGreatDoor.Tr
open Go.RowKit
def ReadsTo (w:World) (l:List Lx.Lx) (e:Ending) (w':World):Prop:=∃ V T,e=.returned (.tuple #[T,V])∧RdM w' w.heap.size V T (readL l).2 (readL l).1∧Below w.heap.size w w'
theorem RdM.zero (w:World):RdM (w.alloc (.cells #[.int .u8 0,.string { data:=#[] },.int .i64 0,.int .i64 0,.int .i64 0,.string { data:=#[] }] 106)) w.heap.size (.slice (some ⟨w.heap.size,0,none⟩) 1 1) (.slice none 0 0) [root] [] :=
 ⟨World.ownsRow_lit w #[.int .u8 0,.string { data:=#[] },.int .i64 0,.int .i64 0,.int .i64 0,.string { data:=#[] }] 1 (Nat.le_refl _) (by decide) rfl,World.ownsRow_nil _ _ _ _,fun g _ h=>by cases h⟩
def RdR (w:World) (l:List Lx.Lx) (V T i:Value) (wr:World):Prop:=∃ k:Nat,k≤l.length∧i=.int .i64 k∧RdM wr w.heap.size V T (readL (l.take k)).2 (readL (l.take k)).1∧Below w.heap.size w wr
def RdC (w:World) (V T:Value) (p:List Op) (t:List Nd) (wx:World):Prop:=RdM wx w.heap.size V T p t∧Below w.heap.size w wx
def RdT (w:World) (V:Value) (p:List Op) (t:List Nd) (n:Nat) (T:Value) (wx:World):Prop:=∃ gg cap,T=.slice (some ⟨gg,0,none⟩) (n+1) cap∧RdC w V T p t wx
theorem rdR_text {t:List Nd} {p:List Op} {x:Lx.Lx} {m:Nat} (hm:p.length=m+1) (h1:x.kind=1) (hT:textsP p=true) :
  stepR (t,p) x=(t++[⟨46,x.text,(x.place:Int),1⟩],if 0<lastP (p.modify m (addKid 46)) noteS then (p.modify m (addKid 46)).modify (lastP (p.modify m (addKid 46)) noteS) (addText x.text) else p.modify m (addKid 46)):=by
 unfold stepR
 simp only [hm,Nat.add_sub_cancel]
 rw [if_pos h1,if_pos hT]
theorem rdR_blank {t:List Nd} {p:List Op} {x:Lx.Lx} (h1:x.kind=1) (hT:textsP p=false):stepR (t,p) x=(t,p):=by
 unfold stepR
 simp only []
 rw [if_pos h1,if_neg (by rw [hT];exact Bool.false_ne_true)]
theorem rdR_opened {t:List Nd} {p:List Op} {x:Lx.Lx} {m:Nat} (hm:p.length=m+1) (h2:x.kind=2) :
  stepR (t,p) x=(t++[⟨x.name,emptyS,(x.place:Int),1⟩],(if x.name=110 then (p.modify m (addKid x.name)).modify (lastP (p.modify m (addKid x.name)) aroundS) addNote else p.modify m (addKid x.name))++[⟨x.name,emptyS,t.length,0,0,emptyS⟩]):=by
 unfold stepR
 simp only [hm,Nat.add_sub_cancel]
 rw [if_neg (by omega),if_pos h2]
theorem rdR_closed {t:List Nd} {p:List Op} {x:Lx.Lx} {m:Nat} {o:Op} (hm:p.length=m+1) (ho:p[m]?=some o) (h1:x.kind≠1) (h2:x.kind≠2) :
  stepR (t,p) x=(t.modify o.spot (setSize ((t.length:Int) - (o.spot:Int))),(if o.kind=114∧(p.getD (m - 1) root).first=0 then p.modify (m - 1) (setFirst o.kids.size) else p).take m):=by
 unfold stepR
 simp only [hm,Nat.add_sub_cancel]
 rw [if_neg h1,if_neg h2,topP_at hm ho]
def subAt:List Bool→Code→Code
 | [],c=>c
 | false::p,.seq a _=>subAt p a
 | true::p,.seq _ b=>subAt p b
 | _::p,.loop c=>subAt p c
 | _::p,.block _ c=>subAt p c
 | _::_,c=>c
end Go.Proofs.YtmldpkigfhoalaaGreatDoor.Tr
