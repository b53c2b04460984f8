/-
  Put together: TuA, TuBa.
-/
import Derived.Test.YtgpihfacmpbpaaaGreatDoorVj
import Derived.Test.YtgpihfacmpbpaaaGreatDoorVa
import Derived.Deep.RegionHeld3
import Derived.Deep.AppendLies
import Derived.Deep.RegionLaw
import Derived.Deep.DeepCutAuto
import Derived.Deep.CutBlock
namespace Go.Proofs.YtgpihfacmpbpaaaGreatDoor.Tr
open Go.RowKit
theorem e9 {α:Type} {l:List α} {i:Nat} (hi:i<l.length):∃ b,l[i]?=some b:=⟨_,List.getElem?_eq_getElem hi⟩
theorem GS {α:Type} {l:List α} {i:Nat} {b d:α} (hb:l[i]?=some b):l.getD i d=b:=by
 rw[List.getD_eq_getElem?_getD,hb];rfl
theorem FA {α:Type} {l:List α} {i:Nat} {b:α} (hb:l[i]?=some b) (f:α→α):l.set i (f b)=l.modify i f:=by
 apply List.ext_getElem?
 intro j
 rw[List.getElem?_set,List.getElem?_modify]
 by_cases h:i=j
 ·subst h
  have:=(List.getElem?_eq_some_iff.1 hb).1
  rw[if_pos rfl,if_pos this,hb];simp
 ·rw[if_neg h];simp only[if_neg h];cases l[j]?<;>rfl
theorem j8 {α:Type} {l:List α} {i j:Nat} {f:α→α} {x:α} (h:(l.modify i f)[j]?=some x):∃ y,l[j]?=some y∧(x=y∨x=f y):=by
 rw[List.getElem?_modify]at h
 obtain⟨y,hy,hf⟩:=Option.map_eq_some_iff.1 h
 refine⟨y,hy,?_⟩
 by_cases hij:i=j
 ·rw[if_pos hij]at hf;exact .inr hf.symm
 ·rw[if_neg hij]at hf;exact .inl hf.symm
def iS (a b c d e:Nat) (o:Op):Prop:=o.kind<256∧o.kids.size≤a∧o.notes≤b∧o.first≤c∧o.text.size≤d∧o.spot≤e
theorem iS.more {a b c d e a' b' c' d' e':Nat} {o:Op} (h:iS a b c d e o) (h1:a≤a') (h2:b≤b') (h3:c≤c') (h4:d≤d') (h5:e≤e'):iS a' b' c' d' e' o:=by
 obtain⟨x1,x2,x3,x4,x5,x6⟩:=h
 exact⟨x1,by omega,by omega,by omega,by omega,by omega⟩
theorem mY {p:List Op} {i:Nat} {f:Op→Op} {G G':Op→Prop} (h:∀ o ∈ p,G o) (h1:∀ o,G o→G' o) (h2:∀ o,G o→G' (f o)):∀ o ∈ p.modify i f,G' o:=by
 intro o ho
 obtain⟨j,hj⟩:=List.mem_iff_getElem?.1 ho
 obtain⟨y,hy,he⟩:=j8 hj
 have hm:=h y (List.mem_of_getElem? hy)
 rcases he with rfl | rfl
 ·exact h1 _ hm
 ·exact h2 _ hm
theorem TP (k:Nat):(dS k).size=1:=Lx.c9 _
theorem iS.kid {a b c d e:Nat} {o:Op} (h:iS a b c d e o) (n:Nat):iS (a+1) b c d e (aG n o):=by
 obtain⟨x1,x2,x3,x4,x5,x6⟩:=h
 refine⟨x1,?_,x3,x4,x5,x6⟩
 show (o.kids++dS n).size≤a+1
 rw[ByteArray.size_append,TP];omega
theorem iS.say {a b c d e:Nat} {o:Op} (h:iS a b c d e o) (s:ByteArray):iS a b c (d+s.size) e (gI s o):=by
 obtain⟨x1,x2,x3,x4,x5,x6⟩:=h
 refine⟨x1,x2,x3,x4,?_,x6⟩
 show (o.text++s).size≤d+s.size
 rw[ByteArray.size_append];omega
theorem iS.iO {a b c d e:Nat} {o:Op} (h:iS a b c d e o):iS a (b+1) c d e (cU o):=by
 obtain⟨x1,x2,x3,x4,x5,x6⟩:=h
 exact⟨x1,x2,Nat.succ_le_succ x3,x4,x5,x6⟩
theorem iS.aDT {a b c d e n:Nat} {o:Op} (h:iS a b c d e o) (hn:n≤c):iS a b c d e (bW n o):=by
 obtain⟨x1,x2,x3,x4,x5,x6⟩:=h
 exact⟨x1,x2,x3,hn,x5,x6⟩
structure zM (k:Nat) (st:List Nd × List Op):Prop where
 pos:0<st.2.length
 aFA:st.2.length≤k+1
 aFU:st.1.length≤k
 op:∀ o ∈ st.2,iS k k k (k * 9000) k o
 spot:∀ i o,0<i→st.2[i]?=some o→o.spot<st.1.length
theorem zM.zero:zM 0 ([],[root]):=by
 refine⟨by simp,by simp,by simp,fun o ho=>?_,fun i o hi ho=>?_⟩
 ·rw[List.mem_singleton]at ho;subst ho
  exact⟨by decide,by decide,by decide,by decide,by decide,by decide⟩
 ·cases i with
  | zero=>omega
  | succ i=>simp at ho
def yI (x:Lx.Lx):Prop:=x.name<256∧x.text.size≤9000∧x.place≤70000∧x.kind≤3
theorem zM.step {k:Nat} {t:List Nd} {p:List Op} (h:zM k (t,p)) (x:Lx.Lx) (hx:yI x) (hc:x.kind=1∨x.kind=2∨1<p.length):zM (k+1) (aE (t,p) x):=by
 obtain⟨q1,q2,q3,q4,q5⟩:=h
 simp only[]at q1 q2 q3 q4 q5
 have hk9:k * 9000+9000=(k+1) * 9000:=by omega
 unfold aE
 simp only[]
 by_cases h1:x.kind=1
 ·rw[if_pos h1]
  by_cases hT:aJ p=true
  ·rw[if_pos hT]
   have g1:∀ o ∈ p.modify (p.length - 1) (aG 46),iS (k+1) k k (k * 9000) k o:=mY q4 (fun o ho=>ho.more (by omega) (by omega) (by omega) (by omega) (by omega)) (fun o ho=>ho.kid _)
   have g2:∀ i o,0<i→(p.modify (p.length - 1) (aG 46))[i]?=some o→o.spot<t.length:=fun i o hi ho=>by
    obtain⟨y,hy,he⟩:=j8 ho
    have:=q5 i y hi hy
    rcases he with rfl | rfl
    ·exact this
    ·exact this
   by_cases hn:0<aN (p.modify (p.length - 1) (aG 46)) bU
   ·rw[if_pos hn]
    refine⟨by simpa using q1,by simp;omega,by simp;omega,?_,fun i o hi ho=>?_⟩
    ·exact mY g1 (fun o ho=>ho.more (by omega) (by omega) (by omega) (by omega) (by omega)) (fun o ho=>(ho.say x.text).more (by omega) (by omega) (by omega) (by have:=hx.2.1;omega) (by omega))
    ·obtain⟨y,hy,he⟩:=j8 ho
     have:=g2 i y hi hy
     simp only[List.length_append,List.length_singleton]
     rcases he with rfl | rfl
     ·omega
     ·show y.spot<_;omega
   ·rw[if_neg hn]
    refine⟨by simpa using q1,by simp;omega,by simp;omega,fun o ho=>(g1 o ho).more (by omega) (by omega) (by omega) (by omega) (by omega),fun i o hi ho=>?_⟩
    have:=g2 i o hi ho
    simp only[List.length_append,List.length_singleton];omega
  ·rw[if_neg hT]
   exact⟨q1,by simp only[];omega,by simp only[];omega,fun o ho=>(q4 o ho).more (by omega) (by omega) (by omega) (by omega) (by omega),q5⟩
 rw[if_neg h1]
 by_cases h2:x.kind=2
 ·rw[if_pos h2]
  have g1:∀ o ∈ p.modify (p.length - 1) (aG x.name),iS (k+1) k k (k * 9000) k o:=mY q4 (fun o ho=>ho.more (by omega) (by omega) (by omega) (by omega) (by omega)) (fun o ho=>ho.kid _)
  have g2:∀ i o,0<i→(p.modify (p.length - 1) (aG x.name))[i]?=some o→o.spot<t.length:=fun i o hi ho=>by
   obtain⟨y,hy,he⟩:=j8 ho
   have:=q5 i y hi hy
   rcases he with rfl | rfl
   ·exact this
   ·exact this
  have g3:∃ p2,(if x.name=110 then (p.modify (p.length - 1) (aG x.name)).modify (aN (p.modify (p.length - 1) (aG x.name)) bN) cU else p.modify (p.length - 1) (aG x.name))=p2∧p2.length=p.length∧(∀ o ∈ p2,iS (k+1) (k+1) (k+1) ((k+1) * 9000) (k+1) o)∧∀ i o,0<i→p2[i]?=some o→o.spot<t.length:=by
   by_cases hn:x.name=110
   ·rw[if_pos hn]
    refine⟨_,rfl,by simp,?_,fun i o hi ho=>?_⟩
    ·exact mY g1 (fun o ho=>ho.more (by omega) (by omega) (by omega) (by omega) (by omega)) (fun o ho=>ho.iO.more (by omega) (by omega) (by omega) (by omega) (by omega))
    ·obtain⟨y,hy,he⟩:=j8 ho
     have:=g2 i y hi hy
     rcases he with rfl | rfl
     ·exact this
     ·exact this
   ·rw[if_neg hn]
    exact⟨_,rfl,by simp,fun o ho=>(g1 o ho).more (by omega) (by omega) (by omega) (by omega) (by omega),g2⟩
  obtain⟨p2,e2,l2,r1,r2⟩:=g3
  rw[e2]
  refine⟨by simp,by simp;omega,by simp;omega,fun o ho=>?_,fun i o hi ho=>?_⟩
  ·rcases List.mem_append.1 ho with ho | ho
   ·exact r1 o ho
   ·rw[List.mem_singleton]at ho;subst ho
    exact⟨hx.1,Nat.zero_le _,Nat.zero_le _,Nat.zero_le _,Nat.zero_le _,by show t.length≤_;omega⟩
  ·simp only[List.length_append,List.length_singleton]
   simp only[]at ho
   rcases Nat.lt_or_ge i p2.length with hl | hl
   ·rw[List.getElem?_append_left hl]at ho
    have:=r2 i o hi ho;omega
   ·rw[List.getElem?_append_right hl]at ho
    cases hd:i - p2.length with
    | zero=>rw[hd]at ho;simp at ho;subst ho;show t.length<_;omega
    | succ n=>rw[hd]at ho;simp at ho
 rw[if_neg h2]
 have h3:1<p.length:=by omega
 obtain⟨o,ho⟩:=e9 (l:=p) (i:=p.length - 1) (by omega)
 have hT:aZ p=o:=vY (m:=p.length - 1) (by omega) ho
 rw[hT]
 have hok:=(q4 o (List.mem_of_getElem? ho)).2.1
 have g3:∃ p2,(if o.kind=114∧(p.getD (p.length - 1 - 1) root).first=0 then p.modify (p.length - 1 - 1) (bW o.kids.size) else p)=p2∧p2.length=p.length∧(∀ o ∈ p2,iS (k+1) (k+1) (k+1) ((k+1) * 9000) (k+1) o)∧∀ i o,0<i→p2[i]?=some o→o.spot<t.length:=by
  split
  ·refine⟨_,rfl,by simp,?_,fun i o hi ho=>?_⟩
   ·exact mY q4 (fun o ho=>ho.more (by omega) (by omega) (by omega) (by omega) (by omega)) (fun y ho=>(ho.aDT hok).more (by omega) (by omega) (by omega) (by omega) (by omega))
   ·obtain⟨y,hy,he⟩:=j8 ho
    have:=q5 i y hi hy
    rcases he with rfl | rfl
    ·exact this
    ·exact this
  ·exact⟨_,rfl,rfl,fun o ho=>(q4 o ho).more (by omega) (by omega) (by omega) (by omega) (by omega),q5⟩
 obtain⟨p2,e2,l2,r1,r2⟩:=g3
 rw[e2]
 refine⟨by simp;omega,by simp;omega,by simp;omega,fun o ho=>r1 o (List.mem_of_mem_take ho),fun i o hi ho=>?_⟩
 simp only[]at ho
 rw[List.getElem?_take]at ho
 split at ho
 ·simp only[List.length_modify];exact r2 i o hi ho
 ·cases ho
def zN (l:List Lx.Lx):Prop:=(∀ x ∈ l,yI x)∧∀ i x,l[i]?=some x→x.kind=1∨x.kind=2∨1<(aV (l.take i)).2.length
theorem zN.TQ {l:List Lx.Lx} (h:zN l):∀ k,k≤l.length→zM k (aV (l.take k))
 | 0,_=>by rw[List.take_zero];exact zM.zero
 | k+1,hk=>by
  obtain⟨x,hx⟩:=e9 (l:=l) (i:=k) (by omega)
  rw[List.take_add_one,hx,Option.toList_some,k8]
  exact(h.TQ k (by omega)).step x (h.1 x (List.mem_of_getElem? hx)) (h.2 k x hx)
structure qV (w:World) (N:Nat) (V T:Value) (p:List Op) (t:List Nd):Prop where
 pr:w.ownsRow N 135 6 V p.length (Ba.rows cO p)
 tr:w.ownsRow N 41 4 T t.length (Ba.rows cN t)
 ne:∀ g,V.ownBlock=some g→T.ownBlock≠some g
theorem qV.below {w w':World} {N:Nat} {V T:Value} {p:List Op} {t:List Nd} (h:qV w N V T p t) (hb:Below w.heap.size w w'):qV w' N V T p t:=⟨Lx.cV h.pr hb,Lx.cV h.tr hb,h.ne⟩
theorem qV.at {w:World} {N:Nat} {V T:Value} {p:List Op} {t:List Nd} (h:qV w N V T p t) {m:Nat} (hm:p.length=m+1):∃ g c,V=.slice (some ⟨g,0,none⟩) (m+1) c∧m+1≤c∧N≤g∧g<w.heap.size∧(∀ j,w.frozen? ⟨g,j,none⟩=false)∧∀ i o,p[i]?=some o →
  w.cell? ⟨g,i * 6,none⟩=some (.int .u8 (o.kind:Int))∧w.cell? ⟨g,i * 6+1,none⟩=some (.string o.kids)∧w.cell? ⟨g,i * 6+2,none⟩=some (.int .i64 (o.spot:Int)) ∧
  w.cell? ⟨g,i * 6+3,none⟩=some (.int .i64 (o.notes:Int))∧w.cell? ⟨g,i * 6+4,none⟩=some (.int .i64 (o.first:Int))∧w.cell? ⟨g,i * 6+5,none⟩=some (.string o.text):=by
 obtain⟨g,c,hv,hb,hg⟩:=h.pr.form (by omega)
 rw[hm]at hv
 subst hv
 have own:=h.pr
 rw[hm]at own
 have hcap:m+1≤c:=by
  rcases own.2 with⟨h',_⟩ | ⟨g',c',_,h',_,_,h1,_⟩
  ·cases h'
  ·injection h' with _ _ e;omega
 refine⟨g,c,rfl,hcap,hb,hg,fun j=>own.frozenAt j,fun i o ho=>?_⟩
 have hi:i<p.length:=(List.getElem?_eq_some_iff.1 ho).1
 have key:∀ j,j<6→w.cell? ⟨g,i * 6+j,none⟩=(cO o)[j]?:=fun j hj=>by
  rw[own.cellAt _ (by omega),Ba.cB cO n8 _ _ _ ho j hj]
 exact⟨key 0 (by omega),key 1 (by omega),key 2 (by omega),key 3 (by omega),key 4 (by omega),key 5 (by omega)⟩
theorem qV.qW {w:World} {N:Nat} {V T:Value} {p:List Op} {t:List Nd} (h:qV w N V T p t):∃ A c,T=.slice A t.length c:=by
 rcases h.tr.2 with⟨h',h0⟩ | ⟨g',c',_,h',_⟩
 ·exact⟨none,0,by rw[h',h0]⟩
 ·exact⟨_,_,h'⟩
theorem qV.atT {w:World} {N:Nat} {V T:Value} {p:List Op} {t:List Nd} (h:qV w N V T p t) {n:Nat} (hn:t.length=n) (h0:0<n):∃ g c,T=.slice (some ⟨g,0,none⟩) n c∧(∀ j,w.frozen? ⟨g,j,none⟩=false)∧∀ i x,t[i]?=some x →
  w.cell? ⟨g,i * 4,none⟩=some (.int .u8 (x.kind:Int))∧w.cell? ⟨g,i * 4+1,none⟩=some (.string x.text)∧w.cell? ⟨g,i * 4+2,none⟩=some (.int .i64 x.place)∧w.cell? ⟨g,i * 4+3,none⟩=some (.int .i64 x.size):=by
 subst hn
 obtain⟨g,c,hv,hb,hg⟩:=h.tr.form h0
 subst hv
 refine⟨g,c,rfl,fun j=>h.tr.frozenAt j,fun i o ho=>?_⟩
 have hi:i<t.length:=(List.getElem?_eq_some_iff.1 ho).1
 have key:∀ j,j<4→w.cell? ⟨g,i * 4+j,none⟩=(cN o)[j]?:=fun j hj=>by
  rw[h.tr.cellAt _ (by omega),Ba.cB cN dX _ _ _ ho j hj]
 exact⟨key 0 (by omega),key 1 (by omega),key 2 (by omega),key 3 (by omega)⟩
theorem qV.reads {w:World} {N:Nat} {V T:Value} {p:List Op} {t:List Nd} (h:qV w N V T p t):dR w w.heap.size V p:=Ba.Reads.kC n8 rfl h.pr
theorem qV.YD {w:World} {N:Nat} {V T:Value} {p:List Op} {t:List Nd} (h:qV w N V T p t) {g k c i:Nat} (hV:V=.slice (some ⟨g,0,none⟩) k c) {o:Op} (ho:p[i]?=some o) (j:Nat) (hj:j<6) (f:Op→Op) (v:Value) (hf:(cO o).set j v=cO (f o)) :
  qV (w.setCell ⟨g,i * 6+j,none⟩ v) N V T (p.modify i f) t∧Below N w (w.setCell ⟨g,i * 6+j,none⟩ v):=by
 have own:=h.pr
 have hi:i<p.length:=(List.getElem?_eq_some_iff.1 ho).1
 obtain⟨g',c',e,hb,hg⟩:=own.form (by omega)
 rw[hV]at e
 injection e with e1 e2 e3
 injection e1 with e1
 injection e1 with e1 _ _
 subst e1;subst e2;subst e3;subst hV
 refine⟨⟨?_,Ba.iT h.tr _ (fun e=>h.ne g rfl e),h.ne⟩,(Below.refl N w).setCell (p:=⟨g,i * 6+j,none⟩) hb _⟩
 rw[List.length_modify,← FA ho,← Ba.gS cO n8 p i o (f o) ho j v hj hf]
 exact(own.stored _ _).1
theorem qV.aFB {w:World} {N:Nat} {V T:Value} {p:List Op} {t:List Nd} (h:qV w N V T p t) {g k c i:Nat} (hT:T=.slice (some ⟨g,0,none⟩) k c) {x:Nd} (hx:t[i]?=some x) (j:Nat) (hj:j<4) (f:Nd→Nd) (v:Value) (hf:(cN x).set j v=cN (f x)) :
  qV (w.setCell ⟨g,i * 4+j,none⟩ v) N V T p (t.modify i f)∧Below N w (w.setCell ⟨g,i * 4+j,none⟩ v):=by
 have own:=h.tr
 have hi:i<t.length:=(List.getElem?_eq_some_iff.1 hx).1
 obtain⟨g',c',e,hb,hg⟩:=own.form (by omega)
 rw[hT]at e
 injection e with e1 e2 e3
 injection e1 with e1
 injection e1 with e1 _ _
 subst e1;subst e2;subst e3;subst hT
 refine⟨⟨Ba.iT h.pr _ (fun e=>h.ne g e rfl),?_,h.ne⟩,(Below.refl N w).setCell (p:=⟨g,i * 4+j,none⟩) hb _⟩
 rw[List.length_modify,← FA hx,← Ba.gS cN dX t i x (f x) hx j v hj hf]
 exact(own.stored _ _).1
theorem qV.aB6 {w w1 w5:World} {N:Nat} {V T:Value} {p:List Op} {t:List Nd} (h:qV w N V T p t) (hN:N≤w.heap.size) (h1:Below w.heap.size w w1) (hg:w1.grownBy w5 T.ownBlock) {gg cap k:Nat} (hk:t.length=k) (x:Nd)
  (hown:w5.ownsRow N 41 4 (.slice (some ⟨gg,0,none⟩) (k+1) cap) (k+1) (Ba.rows cN t++cN x)) (hat:T.ownBlock=some gg∨w.heap.size≤gg) :
  qV w5 N V (.slice (some ⟨gg,0,none⟩) (k+1) cap) p (t++[x])∧Below N w w5:=by
 subst hk
 refine⟨⟨(Lx.cV h.pr h1).kept hg ?_,by rw[List.length_append,Ba.cW];exact hown,fun g e e'=>?_⟩,(h1.mono hN).grown hg (Nat.le_trans hN h1.size) (fun j ej=>(h.tr.lt j ej).1)⟩
 ·cases hv:V.ownBlock with
  | none=>exact .inl rfl
  | some g=>exact .inr (fun e=>h.ne g hv e.symm)
 ·have hgg:gg=g:=by simpa[Value.ownBlock] using e'
  subst hgg
  rcases hat with h2 | h2
  ·exact h.ne _ e h2
  ·have:=(h.pr.lt _ e).2;omega
theorem qV.aEU {w w1 w5:World} {N:Nat} {V T:Value} {p:List Op} {t:List Nd} (h:qV w N V T p t) (hN:N≤w.heap.size) (h1:Below w.heap.size w w1) (hg:w1.grownBy w5 V.ownBlock) {gg cap k:Nat} (hk:p.length=k) (x:Op)
  (hown:w5.ownsRow N 135 6 (.slice (some ⟨gg,0,none⟩) (k+1) cap) (k+1) (Ba.rows cO p++cO x)) (hat:V.ownBlock=some gg∨w.heap.size≤gg) :
  qV w5 N (.slice (some ⟨gg,0,none⟩) (k+1) cap) T (p++[x]) t∧Below N w w5:=by
 subst hk
 refine⟨⟨by rw[List.length_append,Ba.cW];exact hown,(Lx.cV h.tr h1).kept hg ?_,fun g e e'=>?_⟩,(h1.mono hN).grown hg (Nat.le_trans hN h1.size) (fun j ej=>(h.pr.lt j ej).1)⟩
 ·cases hv:T.ownBlock with
  | none=>exact .inl rfl
  | some g=>exact .inr (fun e=>h.ne g e.symm hv)
 ·have hgg:gg=g:=by simpa[Value.ownBlock] using e
  subst hgg
  rcases hat with h2 | h2
  ·exact h.ne _ h2 e'
  ·have:=(h.tr.lt _ e').2;omega
theorem qV.cut {w:World} {N:Nat} {T:Value} {p:List Op} {t:List Nd} {g k c m:Nat} (h:qV w N (.slice (some ⟨g,0,none⟩) k c) T p t) (hk:p.length=k) (hm:m≤k):qV w N (.slice (some ⟨g,0,none⟩) m c) T (p.take m) t:=by
 subst hk
 refine⟨?_,h.tr,h.ne⟩
 have:=Ba.oD h.pr hm
 rw[Ba.DA cO n8 p m hm]at this
 rw[List.length_take,Nat.min_eq_left hm]
 exact this
theorem o8 {k:Nat} {p:List Op} (hk:k≤9000) (h:∀ o ∈ p,iS k k k (k * 9000) k o):nO p:=fun o ho=>⟨(h o ho).1,by have:=(h o ho).2.1;omega⟩
theorem wH:(Tryz.prog.info? 135).map (fun i=>(i.zero,i.size,i.bytes))=some (some (.agg #[.int .u8 0,.string { data:=#[] },.int .i64 0,.int .i64 0,.int .i64 0,.string { data:=#[] }]),6,64):=by kernel_rfl
theorem tH:(Tryz.prog.info? 41).map (fun i=>(i.zero,i.size,i.bytes))=some (some (.agg #[.int .u8 0,.string { data:=#[] },.int .i64 0,.int .i64 0]),4,40):=by kernel_rfl
end Go.Proofs.YtgpihfacmpbpaaaGreatDoor.Tr
namespace Go.Proofs.YtgpihfacmpbpaaaGreatDoor.Tr
open Go.RowKit
def P0 (w:World) (l:List Lx.Lx) (e:Ending) (w':World):Prop:=∃ V T,e=.returned (.tuple #[T,V])∧qV w' w.heap.size V T (aV l).2 (aV l).1∧Below w.heap.size w w'
theorem qV.zero (w:World):qV (w.alloc (.cells #[.int .u8 0,.string { data:=#[] },.int .i64 0,.int .i64 0,.int .i64 0,.string { data:=#[] }] 135)) w.heap.size (.slice (some ⟨w.heap.size,0,none⟩) 1 1) (.slice none 0 0) [root] [] :=
 ⟨World.ownsRow_lit w #[.int .u8 0,.string { data:=#[] },.int .i64 0,.int .i64 0,.int .i64 0,.string { data:=#[] }] 1 (Nat.le_refl _) (by decide) rfl,World.ownsRow_nil _ _ _ _,fun g _ h=>by cases h⟩
def RdR (w:World) (l:List Lx.Lx) (V T i:Value) (wr:World):Prop:=∃ k:Nat,k≤l.length∧i=.int .i64 k∧qV wr w.heap.size V T (aV (l.take k)).2 (aV (l.take k)).1∧Below w.heap.size w wr
def RdC (w:World) (V T:Value) (p:List Op) (t:List Nd) (wx:World):Prop:=qV wx w.heap.size V T p t∧Below w.heap.size w wx
def RdT (w:World) (V:Value) (p:List Op) (t:List Nd) (n:Nat) (T:Value) (wx:World):Prop:=∃ gg cap,T=.slice (some ⟨gg,0,none⟩) (n+1) cap∧RdC w V T p t wx
theorem YE {t:List Nd} {p:List Op} {x:Lx.Lx} {m:Nat} (hm:p.length=m+1) (h1:x.kind=1) (hT:aJ p=true) :
  aE (t,p) x=(t++[⟨46,x.text,(x.place:Int),1⟩],if 0<aN (p.modify m (aG 46)) bU then (p.modify m (aG 46)).modify (aN (p.modify m (aG 46)) bU) (gI x.text) else p.modify m (aG 46)):=by
 unfold aE
 simp only[hm,Nat.add_sub_cancel]
 rw[if_pos h1,if_pos hT]
theorem TR {t:List Nd} {p:List Op} {x:Lx.Lx} (h1:x.kind=1) (hT:aJ p=false):aE (t,p) x=(t,p):=by
 unfold aE
 simp only[]
 rw[if_pos h1,if_neg (by rw[hT];exact Bool.false_ne_true)]
theorem OA {t:List Nd} {p:List Op} {x:Lx.Lx} {m:Nat} (hm:p.length=m+1) (h2:x.kind=2) :
  aE (t,p) x=(t++[⟨x.name,aA,(x.place:Int),1⟩],(if x.name=110 then (p.modify m (aG x.name)).modify (aN (p.modify m (aG x.name)) bN) cU else p.modify m (aG x.name))++[⟨x.name,aA,t.length,0,0,aA⟩]):=by
 unfold aE
 simp only[hm,Nat.add_sub_cancel]
 rw[if_neg (by omega),if_pos h2]
theorem OB {t:List Nd} {p:List Op} {x:Lx.Lx} {m:Nat} {o:Op} (hm:p.length=m+1) (ho:p[m]?=some o) (h1:x.kind≠1) (h2:x.kind≠2) :
  aE (t,p) x=(t.modify o.spot (aF ((t.length:Int) - (o.spot:Int))),(if o.kind=114∧(p.getD (m - 1) root).first=0 then p.modify (m - 1) (bW o.kids.size) else p).take m):=by
 unfold aE
 simp only[hm,Nat.add_sub_cancel]
 rw[if_neg h1,if_neg h2,vY hm ho]
def o9:List Bool→Code→Code
 | [],c=>c
 | false::p,.seq a _=>o9 p a
 | true::p,.seq _ b=>o9 p b
 | _::p,.loop c=>o9 p c
 | _::p,.block _ c=>o9 p c
 | _::_,c=>c
end Go.Proofs.YtgpihfacmpbpaaaGreatDoor.Tr
