/-
  Put together.
-/
import Derived.Test.YthbigkoihpgcfaaGreatDoorNb
import Derived.Test.YthbigkoihpgcfaaGreatDoorOe
import Derived.Test.YthbigkoihpgcfaaGreatDoorSj
import Derived.Test.YthbigkoihpgcfaaGreatDoorTjF
import Derived.Test.YthbigkoihpgcfaaGreatDoorTsY
import Derived.Test.YthbigkoihpgcfaaGreatDoorUn
import Derived.Test.YthbigkoihpgcfaaGreatDoorWa
set_option maxRecDepth 100000
set_option maxHeartbeats 16000000
namespace Go.Proofs.YthbigkoihpgcfaaGreatDoor.Ti
open Go.RowKit Go.Maps Ba Ru Ck
def pmV (F:Nat→Nat) (i j:Nat):Value:=.map (if i<j then some (F i) else none)
def OH (S E:Nat→Nat) (wo fo j:Nat):Array Value:=#[.slice none 0 0,pmV S 0 j,pmV E 0 j,pmV S 1 j,pmV E 1 j,pmV S 2 j,pmV E 2 j,.map (some wo),.map (some fo)]
def K2 (F:Nat→Nat) (j x:Nat):Nat→Nat:=fun i=>if i=j then x else F i
theorem Y5 (S E:Nat→Nat) (wo fo j s e:Nat) (hj:j<3):((OH S E wo fo j).setIfInBounds (1+j * 2) (.map (some s))).setIfInBounds (1+j * 2+1) (.map (some e))=OH (K2 S j s) (K2 E j e) wo fo (j+1):=by
 obtain rfl | rfl | rfl:j=0∨j=1∨j=2:=by omega
 all_goals simp[OH,pmV,K2]
structure Made (w W:World) (A:Nat) (S E:Nat→Nat) (wo fo j:Nat):Prop where
 tab:W.heap[A]?=some (.cells (OH S E wo fo j) 63)
 below:Below w.heap.size w W
 words:aY 9 pS tM W wo 0 (fun _=>none)
 found:aY 96 lH pT W fo 0 (fun _=>none)
 ord:w.heap.size≤wo∧wo<fo∧fo<A
 each:∀ i,i<j→A<S i∧S i<E i∧E i<W.heap.size∧eT W (S i) 0 (fun _=>none)∧iJ W (E i) 0 (fun _=>none)
 apart:∀ i k,i<k→k<j→E i<S k
theorem Made.on {w W W':World} {A wo fo j s e:Nat} {S E:Nat→Nat} (h:Made w W A S E wo fo j) (hj:j<3) (hb:Below W.heap.size W W') (hs:W.heap.size≤s) (hse:s<e) (he:e<W'.heap.size) (hS:eT W' s 0 (fun _=>none)) (hE:iJ W' e 0 (fun _=>none)) :
  Made w ((W'.setCell ⟨A,1+j * 2,none⟩ (.map (some s))).setCell ⟨A,1+j * 2+1,none⟩ (.map (some e))) A (K2 S j s) (K2 E j e) wo fo (j+1):=by
 obtain⟨o1,o2,o3⟩:=h.ord
 have hA:=(Array.getElem?_eq_some_iff.1 h.tab).1
 have t1:=(hb.block A hA).trans h.tab
 have t2:=nK (i:=1+j * 2) t1 (.map (some s))
 have t3:=nK (i:=1+j * 2+1) t2 (.map (some e))
 rw[Y5 S E wo fo j s e hj]at t3
 have hk:∀ b,b≠A→((W'.setCell ⟨A,1+j * 2,none⟩ (.map (some s))).setCell ⟨A,1+j * 2+1,none⟩ (.map (some e))).heap[b]?=W'.heap[b]?:=fun b hb=>(Below.heap_setCell _ _ _ b hb).trans (Below.heap_setCell _ _ _ b hb)
 have hsz:((W'.setCell ⟨A,1+j * 2,none⟩ (.map (some s))).setCell ⟨A,1+j * 2+1,none⟩ (.map (some e))).heap.size=W'.heap.size:=by simp[World.setCell]
 refine⟨t3,((h.below.trans (hb.mono h.below.size)).setCell (p:=⟨A,1+j * 2,none⟩) (by show w.heap.size≤A;omega) _).setCell (p:=⟨A,1+j * 2+1,none⟩) (by show w.heap.size≤A;omega) _,h.words.of_block ((hk wo (by omega)).trans (hb.block wo h.words.lt)),h.found.of_block ((hk fo (by omega)).trans (hb.block fo h.found.lt)),h.ord,fun i hi=>?_,fun i k hik hk2=>?_⟩
 ·rw[hsz]
  by_cases he2:i=j
  ·subst he2
   unfold K2
   rw[if_pos rfl,if_pos rfl]
   exact⟨by omega,hse,he,hS.of_block (hk s (by omega)),hE.of_block (hk e (by omega))⟩
  ·unfold K2
   rw[if_neg he2,if_neg he2]
   obtain⟨q1,q2,q3,q4,q5⟩:=h.each i (by omega)
   exact⟨q1,q2,Nat.lt_of_lt_of_le q3 hb.size,q4.of_block ((hk _ (by omega)).trans (hb.block _ q4.lt)),q5.of_block ((hk _ (by omega)).trans (hb.block _ q5.lt))⟩
 ·unfold K2
  rw[if_neg (show i≠j by omega)]
  by_cases he2:k=j
  ·rw[if_pos he2]
   have:=(h.each i (by omega)).2.2.1
   omega
  ·rw[if_neg he2]
   exact h.apart i k hik (by omega)
theorem P2 (S E:Nat→Nat) (wo fo j:Nat) (hj:j<3):(OH S E wo fo j)[1+j * 2]?=some (.map none)∧(OH S E wo fo j)[1+j * 2+1]?=some (.map none):=by
 obtain rfl | rfl | rfl:j=0∨j=1∨j=2:=by omega
 all_goals simp[OH,pmV]
theorem Made.later {w W W':World} {A wo fo j:Nat} {S E:Nat→Nat} (h:Made w W A S E wo fo j) (hj:j<3) (hb:Below W.heap.size W W'):W'.cell? ⟨A,1+j * 2,none⟩=some (.map none)∧W'.cell? ⟨A,1+j * 2+1,none⟩=some (.map none)∧W'.frozen? ⟨A,1+j * 2,none⟩=false∧W'.frozen? ⟨A,1+j * 2+1,none⟩=false:=by
 have t:=(hb.block A (Array.getElem?_eq_some_iff.1 h.tab).1).trans h.tab
 exact⟨aH t (P2 S E wo fo j hj).1,aH t (P2 S E wo fo j hj).2,lI t,lI t⟩
theorem Made.done {w W:World} {A wo fo:Nat} {S E:Nat→Nat} (h:Made w W A S E wo fo 3) (l:List Rl):Holds W w.heap.size ⟨A,wo,fo,S,E⟩ (.slice none 0 0) l 0 where
 ord:=⟨h.ord.1,h.ord.2.1,h.ord.2.2,(h.each 0 (by omega)).1,(h.each 0 (by omega)).2.1,h.apart 0 1 (by omega) (by omega),(h.each 1 (by omega)).2.1,h.apart 1 2 (by omega) (by omega),(h.each 2 (by omega)).2.1⟩
 top:=(h.each 2 (by omega)).2.2.1
 box:=h.tab
 own:=⟨rfl,.inl ⟨rfl,rfl⟩⟩
 words:=⟨0,Nat.le_refl _,h.words⟩
 found:=⟨0,Nat.le_refl _,h.found⟩
 rows:=fun i hi=>by
  obtain⟨-,-,-,q4,q5⟩:=h.each i hi
  exact⟨0,0,_,_,by omega,by omega,q4,q5,qW.nothing.congr (YT l _)⟩
theorem Made.start {w w1:World} (hb:Below w.heap.size w w1):Made w (((w1.alloc (.map #[] 0)).alloc (.map #[] 0)).alloc (.cells #[.slice none 0 0,.map none,.map none,.map none,.map none,.map none,.map none,.map (some w1.heap.size),.map (some (w1.heap.size+1))] 63)) (w1.heap.size+1+1) (fun _=>0) (fun _=>0) w1.heap.size (w1.heap.size+1) 0:=by
 have s1:(w1.alloc (.map #[] 0)).heap.size=w1.heap.size+1:=by simp
 have s2:((w1.alloc (.map #[] 0)).alloc (.map #[] 0)).heap.size=w1.heap.size+1+1:=by simp
 have m1:=aY.new 9 pS tM w1
 have m2:=aY.new 96 lH pT (w1.alloc (.map #[] 0))
 rw[s1]at m2
 have hsz:=hb.size
 refine⟨?_,((hb.alloc hsz _).alloc (by omega) _).alloc (by omega) _,m1.of_block ((Below.heap_alloc _ _ _ (by omega)).trans (Below.heap_alloc _ _ _ (by omega))),m2.of_block (Below.heap_alloc _ _ _ (by omega)),⟨hsz,by omega,by omega⟩,fun i hi=>by omega,fun i k _ hk=>by omega⟩
 rw[← s2]
 exact heap_alloc_new _ _
theorem aCC (v:Value) (l:List Rl) (off:Nat) (hl:l.length≤1000) (hf:kD l) (hcp:lS v) (w:World) (hL:bH w) (hv:dZ off w w.heap.size v l):Calls Tryz.prog 9 #[v] w fun e w' =>
  Below w.heap.size w w'∧(((e9 dM l).2=0∧∃ t,e=.returned (.tuple #[t,.int .i64 0,.int .i64 0])∧YZ w' t l w.heap.size w'.heap.size)∨((e9 dM l).2≠0∧e=.returned (.tuple #[.pointer none,.int .i64 (e9 dM l).1,.int .i64 (((e9 dM l).2:Nat):Int)]))):=by
 obtain⟨z,y,hr⟩:∃ z y,e9 dM l=(z,y):=⟨_,_,rfl⟩
 have HT:=Lib.hid (Q7 v l off (by omega) hf hcp (z,y) hr w hL.1 hL.2 hv)
 have HACC:=Lib.hid (fun(h:y=0)=>(pY (pr:=dM) l).1 (by rw[hr];exact h))
 rw[hr]
 clear hr
 have HF:=Lib.hid hf
 have HV:=Lib.hid hv
 obtain⟨A,c,rfl,-⟩:=hv
 clear hf hcp hL
 have hmm:=@run_makeMap Tryz.prog
 obtain⟨nl,hnl⟩:∃ nl,l.length=nl:=⟨_,rfl⟩
 rw[hnl]at HV HT hl ⊢
 have HNL:=Lib.hid hnl
 clear hnl
 go_enter Tryz.func9,Tryz.ntmps9
 go_wp2_with fail
 refine HT.out.mono ?_
 rintro e w1 ⟨rfl,hb1⟩
 have HB1:=Lib.hid hb1
 clear hb1
 by_cases hy:y=0
 case neg =>
  have ty:((y:Int) != 0)=true:=by rw[bne,beq_eq_false_iff_ne.2 (by omega)];rfl
  have HY:=Lib.hid hy
  clear hy
  go_wp2
  refine bodyPost_ret (v:=.tuple #[.pointer none,.int .i64 z,.int .i64 (y:Int)]) (by simp[results,Tryz.f9,go_sem]) rfl ?_
  exact⟨HB1.out,.inr ⟨HY.out,rfl⟩⟩
 case pos =>
 subst hy
 have hAcc:=HACC.out rfl
 have HA:=Lib.hid hAcc.apart
 clear hAcc HACC
 go_wp2
 have h0:=Made.start HB1.out
 generalize ((w1.alloc (.map #[] 0)).alloc (.map #[] 0)).alloc (.cells #[.slice none 0 0,.map none,.map none,.map none,.map none,.map none,.map none,.map (some w1.heap.size),.map (some (w1.heap.size+1))] 63)=w2 at h0 ⊢
 generalize w1.heap.size+1+1=T at h0 ⊢
 generalize w1.heap.size+1=fo at h0
 generalize w1.heap.size=wo at h0
 have H0:=Lib.hid h0
 clear h0
 go_loopw [21] (fun i wr=>∃ (j:Nat) (S E:Nat→Nat),j≤3∧i=.int .i64 (j:Int)∧Made w wr T S E wo fo j) (fun i _=>3 - (intOf i).toNat)
 case atStart=>exact⟨0,_,_,by omega,rfl,H0.out⟩
 case round =>
  obtain⟨j,S,E,hj,rfl,hM⟩:=hrel
  have HM:=Lib.hid hM
  by_cases hlt:j<3
  ·have hq1:(0:Int)≤(j:Int):=by omega
   have hq2:(j:Int)<3:=by omega
   clear hM
   go_wp2
   go_region_law
    ((go_simp;go_at_call 22;refine(KT _).mono ?_;rintro e w3 ⟨Sj,Ej,rfl,n1,n2,n3,n4,n5,n6⟩;have nb:Below wr.heap.size wr w3:=(Below.refl wr.heap.size wr).drew.trans n4;obtain⟨k1,k2,k3,k4⟩:=Made.later HM.out hlt nb;have HN:=Lib.hid (show wr.heap.size≤Sj∧Sj<Ej∧Ej<w3.heap.size∧Below wr.heap.size wr w3∧eT w3 Sj 0 (fun _=>none)∧iJ w3 Ej 0 (fun _=>none) from ⟨n1,n2,n3,nb,n5,n6⟩);clear n1 n2 n3 n4 n5 n6 nb;unfold pQ))
   all_goals
    clear k1 k2 k3 k4
    go_wp2
    obtain⟨n1,n2,n3,n4,n5,n6⟩:=HN.out
    exact⟨⟨j+1,_,_,by omega,by go_num,HM.out.on hlt n4 n1 n2 n3 n5 n6⟩,by simp[intOf];omega⟩
  ·obtain rfl:j=3:=by omega
   have hH:=hM.done l
   have HBW:=Lib.hid hM.below
   have HO:=Lib.hid hH.ord
   have HH:=Lib.hid hH
   clear hM hH HM
   go_wp2
   go_loopw [33] (fun i wr=>∃ (k:Nat) (R:Value),k≤nl∧i=.int .i64 (k:Int)∧Holds wr w.heap.size ⟨T,wo,fo,S,E⟩ R l k∧Below w.heap.size w wr) (fun i _=>nl - (intOf i).toNat)
   case atStart=>exact⟨0,_,by omega,rfl,HH.out,HBW.out⟩
   case round =>
    obtain⟨k,R,hk,rfl,hH,hB⟩:=hrel
    by_cases hlt:k<nl
    ·obtain⟨x,hx⟩:∃ x,l[k]?=some x:=⟨_,List.getElem?_eq_getElem (by rw[HNL.out];exact hlt)⟩
     have hvr:=HV.out.below hB
     obtain⟨A',c',e,hA⟩:=hvr
     injection e with e1 e2 e3
     subst e1
     obtain⟨g,rfl,-,hg⟩:=hA (by rw[HNL.out];omega)
     obtain⟨g0,g1,g2,g3,g4⟩:=wD hg k x hx
     have hlo:w.heap.size≤wr.heap.size:=hB.size
     have HHn:=Lib.hid (show Holds (wr.alloc (.cells #[.int .i64 x.aE,.string (bytesOf x.left),.string (bytesOf x.cells),.int .i64 x.prio,.int .i64 x.line] 48)) w.heap.size ⟨T,wo,fo,S,E⟩ R l k from hH.kept (Kept.dB ((Below.refl wr.heap.size wr).alloc (Nat.le_refl _) _) (Nat.le_refl _)) hH.top (fun g hg=>(hH.own.lt g hg).2))
     have HBn:=Lib.hid (hB.alloc hlo (.cells #[.int .i64 x.aE,.string (bytesOf x.left),.string (bytesOf x.cells),.int .i64 x.prio,.int .i64 x.line] 48))
     have HADD:=Lib.hid (fun W hW=>aCB ⟨T,wo,fo,S,E⟩ R l k w.heap.size x HA.out (by rw[HNL.out];exact hl) HF.out hx W hW)
     have k1:(0:Int)≤(k:Int):=by omega
     have k2:(k:Int)<(nl:Int):=by omega
     simp only[dE]at HADD
     obtain⟨xq,xl,xc,xp,xn⟩:=x
     simp only[]at g0 g1 g2 g3 g4 HADD HHn HBn
     generalize bytesOf xl=L at g1 HADD HHn HBn
     generalize bytesOf xc=C at g2 HADD HHn HBn
     clear hA hg hH hB hx e2 e3
     go_wp2_with (go_at_call 23;refine(HADD.out _ HHn.out).mono ?_;rintro e w5 ⟨rfl,⟨R5,h5⟩,hb5⟩)
     exact⟨⟨k+1,R5,hlt,by go_num,h5,HBn.out.trans hb5⟩,by simp[intOf];omega⟩
    ·obtain rfl:k=nl:=by omega
     have HH2:=Lib.hid hH
     have HB2:=Lib.hid hB
     clear hH hB
     go_wp2
     refine bodyPost_ret (v:=.tuple #[.pointer (some ⟨T,0,none⟩),.int .i64 0,.int .i64 0]) (by simp[results,Tryz.f9,go_sem]) rfl ?_
     have h:=HH2.out
     exact⟨HB2.out,_,rfl,⟨T,wo,fo,S,E⟩,R,rfl,by rw[HNL.out];exact h,Nat.le_refl _,h.top,fun g hg=>(h.own.lt g hg).2⟩
end Go.Proofs.YthbigkoihpgcfaaGreatDoor.Ti
namespace Go.Proofs.YthbigkoihpgcfaaGreatDoor.Ti
open Go.RowKit Go.Maps Ba Ru Ck
theorem aCD {w:World} {t:Value} {l:List Rl} {lo hi:Nat} (h:YZ w t l lo hi):(∃ a,t=.pointer (some a))∧hi≤w.heap.size:=by
 obtain⟨v,R,h1,-,h3,-,-⟩:=h
 exact⟨⟨_,h1⟩,h3⟩
def EZ:bT where
 Is:=YZ
 xJ:=fun h k=>h.xJ k
 ptr:=fun h=>aCD h
 new:=fun v l off h1 h2 h3 w h4 h5=>aCC v l off h1 h2 h3 w h4 h5
 word:=fun S h1 _ _ _ w _ H=>Y1 S h1 w H
 find:=fun q S h1 h2 _ _ _ w _ H=>(KY q S h1 h2 w H).mono fun _ _ h=>⟨h.1,by rw[h.2];exact Below.refl _ _⟩
 sign:=fun S h1 h2 _ _ w _ H=>(Y3 S h1 h2 w H).mono fun _ _ h=>⟨h.1,by rw[h.2];exact Below.refl _ _⟩
 rules:=fun h1 _ _ w _ H=>TZ h1 w H
end Go.Proofs.YthbigkoihpgcfaaGreatDoor.Ti
namespace Go.Proofs.YthbigkoihpgcfaaGreatDoor.Da
open Go.RowKit Tr Nu Nl Cn Fl
end Go.Proofs.YthbigkoihpgcfaaGreatDoor.Da
namespace Go.Proofs.YthbigkoihpgcfaaGreatDoor.Da
open Go.RowKit Tr Nu Nl Cn Fl
def zH (x:Tk):Bool:=decide (x.kind=1) || ((decide (x.kind=2) || decide (x.kind=3)) && EC x.ch aDQ)
def M0 (k:Nat):Bool:=k==49 || k==50 || k==51 || k==112 || k==105 || k==99 || k==107
def mD (x:Tk):Bool:=decide (x.kind=2) && M0 x.ch
def SE (k:Nat) (x:Tk):Bool:=(decide (x.kind=3) && x.ch==k) || (decide (x.kind=2) && x.ch==108)
def Quiet (l:List Tk) (a b:Nat):Prop:=∀ (j:Nat) (x:Tk),a≤j→j<b→l[j]?=some x→zH x=true
theorem M1 {l:List Tk} {y:Tk} {j:Nat} (h:l[j]?=some y):j<l.length:=(List.getElem?_eq_some_iff.1 h).1
theorem I1 {x:Tk} (h:mD x=true):x.kind=2∧(x.ch=49∨x.ch=50∨x.ch=51∨x.ch=112∨x.ch=105∨x.ch=99∨x.ch=107):=by
 unfold mD M0 at h
 simp only[Bool.and_eq_true,Bool.or_eq_true,decide_eq_true_eq,beq_iff_eq]at h
 omega
theorem WE {x:Tk} (h:x.kind=2) (h2:x.ch=49∨x.ch=50∨x.ch=51∨x.ch=112∨x.ch=105∨x.ch=99∨x.ch=107):mD x=true:=by
 unfold mD M0
 simp only[Bool.and_eq_true,Bool.or_eq_true,decide_eq_true_eq,beq_iff_eq]
 omega
end Go.Proofs.YthbigkoihpgcfaaGreatDoor.Da
namespace Go.Proofs.YthbigkoihpgcfaaGreatDoor.Da
open Go.RowKit Tr Nu Nl Cn Fl
structure Fw where
 code:Nat
 depth:Int
 aR:Nat
 til:Nat
def mE (l:List Tk) (i c:Nat):Bool:=match l[i]? with | some x=>decide (x.kind=2) && x.ch==c | none=>false
def codeF (l:List Tk) (i:Nat) (x:Tk):Nat :=
 if x.kind≠2 then 0
 else if 49≤x.ch∧x.ch≤51 then x.ch - 48
 else if x.ch=112 then 4
 else if x.ch=107 then 10
 else if x.ch=105 then (if mE l (i - 1) 108=true then 5 else 6)
 else if x.ch≠99 then 0
 else if mE l (i - 1) 114=false then 9
 else if mE l (i - 2) 116=true then 7 else 8
def wO (x:Tk):Int:=if x.ch=108∧x.kind=2 then 1 else if x.ch=108∧x.kind=3 then -1 else 0
def iF (l:List Tk) (i:Nat):Int:=((l.take i).map wO).sum
def SF (l:List Tk) (i k:Nat):Nat:=i+1+((l.drop (i+1)).takeWhile fun y=>!SE k y).length
def nV (l:List Tk) (i:Nat):Option Fw:=match l[i]? with
 | none=>none
 | some x=>if codeF l i x=0 then none else some ⟨codeF l i x,if x.ch=105 then iF l i else 0,i+1,SF l i x.ch⟩
def fR (l:List Tk):List Fw:=(List.range l.length).filterMap (nV l)
theorem M3 (l:List Tk) (i:Nat) (x:Tk):codeF l i x≠0↔mD x=true:=by
 constructor
 ·intro h
  unfold codeF at h
  by_cases h1:x.kind≠2
  ·rw[if_pos h1]at h;exact absurd rfl h
  ·rw[if_neg h1]at h
   refine WE (by omega) ?_
   by_cases h2:49≤x.ch∧x.ch≤51
   ·omega
   ·rw[if_neg h2]at h
    by_cases h3:x.ch=112
    ·omega
    ·rw[if_neg h3]at h
     by_cases h4:x.ch=107
     ·omega
     ·rw[if_neg h4]at h
      by_cases h5:x.ch=105
      ·omega
      ·rw[if_neg h5]at h
       by_cases h6:x.ch≠99
       ·rw[if_pos h6]at h;exact absurd rfl h
       ·omega
 ·intro h
  obtain⟨h1,h2⟩:=I1 h
  unfold codeF
  rw[if_neg (by omega)]
  split
  ·omega
  ·split
   ·omega
   ·split
    ·omega
    ·split
     ·split<;>omega
     ·split
      ·omega
      ·split
       ·omega
       ·split<;>omega
section
variable {l:List Tk} (hl:∀ x ∈ l,x.ch<256) (h:(WG l).2=0)
include hl h
end
section
variable {l:List Tk} (hl:∀ x ∈ l,x.ch<256) (h:(WG l).2=0)
include hl h
end
end Go.Proofs.YthbigkoihpgcfaaGreatDoor.Da
namespace Go.Proofs.YthbigkoihpgcfaaGreatDoor.Da
open Go.RowKit Tr Nu Nl Cn Fl
def M4 (l:List Tk) (i:Nat):Bool:=match l[i]? with | some y=>decide (y.kind=2) | none=>false
section
variable {l:List Tk} (hl:∀ x ∈ l,x.ch<256) (h:(WG l).2=0)
include hl h
end
end Go.Proofs.YthbigkoihpgcfaaGreatDoor.Da
namespace Go.Proofs.YthbigkoihpgcfaaGreatDoor.Da
open Go.RowKit Ba Ru Ck Ti Pa Fl Cu
def I3 (t:List Tk) (f:Fw):List Tk:=(t.drop f.aR).take (f.til - f.aR)
def iW (l:List Rl) (t:List Tk) (f:Fw):List (Nat × Nat):=(iE l (I3 t f)).map fun z=>(z.1,f.aR+z.2)
end Go.Proofs.YthbigkoihpgcfaaGreatDoor.Da
namespace Go.Proofs.YthbigkoihpgcfaaGreatDoor.Da
open Go.RowKit Ba Ru Ck Ti Pa Fl Cu
def fH (l:List Rl) (t:List Tk) (f:Fw) (a:Value):List Value:=[.int .i64 f.code,.int .i64 f.depth,.string (bytesOf ((iW l t f).map (·.1))),a,.int .i64 f.aR,.int .i64 f.til]
def mF (l:List Rl) (t:List Tk):List Fw→List Value→List Value
 | f::fs,a::vs=>fH l t f a++mF l t fs vs
 | _,_=>[]
def I6 (B:Nat) (w:World) (v:Value) (l:List Rl) (t:List Tk) (fs:List Fw):Prop :=
 ∃ avs:List Value,avs.length=fs.length∧w.ownsRow B 44 6 v fs.length (mF l t fs avs)∧∀ (k:Nat) (f:Fw) (a:Value),fs[k]?=some f→avs[k]?=some a→w.ownsRow B 3 1 a (iW l t f).length (iV ((iW l t f).map (·.2)))
end Go.Proofs.YthbigkoihpgcfaaGreatDoor.Da
namespace Go.Proofs.YthbigkoihpgcfaaGreatDoor.Tr
open Go.RowKit
def fL (t:List Nd):Nat→Nat→St→Option St
 | 0,a,o=>gT t (a:Int) o.lv.length o
 | f+1,a,o=>(gT t (a:Int) o.lv.length o).bind fun o1=>match t[a]? with
  | none=>none
  | some x=>(xG x (gS t o1) a o1).bind fun o2=>fL t f (a+1) o2
def AW (t:List Nd) (a:Nat) (o:St):Option St:=fL t (t.length - a) a o
def jW (t:List Nd):Nat:=match AW t 0 st0 with | none=>2 | some o=>tT o
def xH (t:List Nd) (a:Nat) (o1:St):Option St:=match t[a]? with | none=>some o1 | some x=>(xG x (gS t o1) a o1).bind fun o2=>AW t (a+1) o2
theorem aCZ {t:List Nd} {a:Nat} (h:a≤t.length) (o:St):AW t a o=(gT t (a:Int) o.lv.length o).bind (xH t a):=by
 unfold AW
 rcases Nat.lt_or_ge a t.length with h1 | h1
 ·obtain⟨f,hf⟩:∃ f,t.length - a=f+1:=⟨t.length - a - 1,by omega⟩
  rw[hf]
  unfold fL
  congr 1
  funext o1
  unfold xH
  rw[List.getElem?_eq_getElem h1]
  simp only[]
  congr 1
  funext o2
  unfold AW
  rw[show t.length - (a+1)=f from by omega]
 ·obtain rfl:a=t.length:=by omega
  rw[Nat.sub_self]
  unfold fL
  cases gT t (t.length:Int) o.lv.length o with
  | none=>rfl
  | some o1 =>
   show some o1=xH t t.length o1
   unfold xH
   rw[List.getElem?_eq_none (Nat.le_refl _)]
def LK (o:St):List Nat:=o.lv.map (·.start)
theorem oG (o:St):(LK o).length=o.lv.length:=List.length_map _
theorem oH (l:List Lv) (j:Nat) (f:Lv→Lv) (hf:∀ b,(f b).start=b.start):(l.modify j f).map (·.start)=l.map (·.start):=by
 apply List.ext_getElem?
 intro i
 rw[List.getElem?_map,List.getElem?_map,List.getElem?_modify]
 cases l[i]? with
 | none=>rfl
 | some x=>by_cases h:j=i<;>simp[h,hf]
theorem vX (o:St) (k:Nat):LK (bE o k)=LK o:=oH _ _ _ fun _=>rfl
theorem aC0 (o:St) (n:Nat):LK (vS o n)=LK o:=by
 unfold vS
 cases eC o.lv 110 with
 | none=>exact vX o 46
 | some i =>
  show ((bE o 46).lv.modify i (nL n)).map (·.start)=_
  exact(oH _ i (nL n) fun _=>rfl).trans (vX o 46)
theorem DU (o:St) (k:Nat):LK (bG o k)=LK o:=by
 unfold bG
 split
 ·exact oH _ _ _ fun _=>rfl
 ·rfl
theorem LF (o:St) (k:Nat):(bG o k).nodes=o.nodes:=by unfold bG;split<;>rfl
theorem UI (o:St) (n:Nat):(vS o n).nodes=o.nodes+1:=by
 unfold vS
 cases eC o.lv 110<;>rfl
theorem LG (o:St) (k:Nat):(lK o k).nodes=o.nodes+1:=by
 show (bG o k).nodes+1=_
 rw[LF]
theorem UJ (o:St) (k:Nat):LK (lK o k)=LK o++[o.nodes]:=by
 have e:LK (lK o k)=LK (bE (bG o k) k)++[o.nodes]:=by
  unfold LK lK
  simp only[List.map_append,List.map_cons,List.map_nil]
  rfl
 rw[e,vX,DU]
theorem OU {o o':St} {l:List Nat} (h:LK o'=LK o++l):o'.lv.length=o.lv.length+l.length:=by rw[← oG,h,List.length_append,oG]
end Go.Proofs.YthbigkoihpgcfaaGreatDoor.Tr
namespace Go.Proofs.YthbigkoihpgcfaaGreatDoor.Tr
open Go.RowKit
end Go.Proofs.YthbigkoihpgcfaaGreatDoor.Tr
namespace Go.Proofs.YthbigkoihpgcfaaGreatDoor.Da
open Go.RowKit Ba Ru Ck Ti Pa Fl Cu
def treeC (l:List Tk):Nat:=match pI l with
 | none=>2
 | some t=>if mG l=true then 2 else Tr.jW t
structure GoodT (t:List Tk):Prop where
 item:∀ (i:Nat) (x:Tk),t[i]?=some x→x.kind=2→x.ch=105→1≤i∧M4 t (i - 1)=mE t (i - 1) 108
 cell:∀ (i:Nat) (x:Tk),t[i]?=some x→x.kind=2→x.ch=99→1≤i∧M4 t (i - 1)=mE t (i - 1) 114
 row:∀ i:Nat,mE t i 114=true→1≤i∧M4 t (i - 1)=mE t (i - 1) 116
 ends:∀ (i:Nat) (x:Tk),t[i]?=some x→mD x=true→i<SF t i x.ch∧(∃ y,t[SF t i x.ch]?=some y∧SE x.ch y=true)∧Quiet t (i+1) (SF t i x.ch)
 flat:∀ (i:Nat) (x:Tk),t[i]?=some x→mD x=true→x.ch≠105→iF t i=0
 body:∀ f ∈ fR t,gA (I3 t f)=true
def goodX (t:List Tk) (i:Nat):Bool:=match t[i]? with
 | none=>true
 | some x =>
  (!(decide (x.kind=2) && x.ch==105) || (decide (1≤i) && M4 t (i - 1)==mE t (i - 1) 108)) && (!(decide (x.kind=2) && x.ch==99) || (decide (1≤i) && M4 t (i - 1)==mE t (i - 1) 114)) &&
   (!(mE t i 114) || (decide (1≤i) && M4 t (i - 1)==mE t (i - 1) 116)) &&
   (!(mD x) || (decide (i<SF t i x.ch) && (match t[SF t i x.ch]? with | some y=>SE x.ch y | none=>false) && ((t.drop (i+1)).take (SF t i x.ch - (i+1))).all zH && (x.ch==105 || decide (iF t i=0))))
def goodB (t:List Tk):Bool:=(List.range t.length).all (goodX t) && (fR t).all fun f=>gA (I3 t f)
theorem goodX_at {t:List Tk} (h:goodB t=true) {i:Nat} {x:Tk} (hx:t[i]?=some x):goodX t i=true:=by
 unfold goodB at h
 rw[Bool.and_eq_true]at h
 exact List.all_eq_true.1 h.1 i (List.mem_range.2 (M1 hx))
theorem or_yes {a b:Bool} (h:(!a || b)=true) (ha:a=true):b=true:=by rw[ha]at h;exact h
theorem goodT_ok {t:List Tk} (h:goodB t=true):GoodT t:=by
 have key:∀ (i:Nat) (x:Tk),t[i]?=some x→((!(decide (x.kind=2) && x.ch==105) || (decide (1≤i) && M4 t (i - 1)==mE t (i - 1) 108))=true∧(!(decide (x.kind=2) && x.ch==99) || (decide (1≤i) && M4 t (i - 1)==mE t (i - 1) 114))=true)∧(!(mE t i 114) || (decide (1≤i) && M4 t (i - 1)==mE t (i - 1) 116))=true ∧
   (!(mD x) || (decide (i<SF t i x.ch) && (match t[SF t i x.ch]? with | some y=>SE x.ch y | none=>false) && ((t.drop (i+1)).take (SF t i x.ch - (i+1))).all zH && (x.ch==105 || decide (iF t i=0))))=true:=fun i x hx=>by
  have h1:=goodX_at h hx
  unfold goodX at h1
  rw[hx]at h1
  simp only[]at h1
  rw[Bool.and_eq_true,Bool.and_eq_true,Bool.and_eq_true]at h1
  exact⟨h1.1.1,h1.1.2,h1.2⟩
 have yes:∀ {i:Nat} {a b:Bool},(decide (1≤i) && a==b)=true→1≤i∧a=b:=fun hb=>by
  rw[Bool.and_eq_true,decide_eq_true_eq,beq_iff_eq]at hb
  exact hb
 have is:∀ {x:Tk} {c:Nat},x.kind=2→x.ch=c→(decide (x.kind=2) && x.ch==c)=true:=fun hk hc=>by
  rw[decide_eq_true hk,hc];simp
 refine⟨fun i x hx hk hc=>yes (or_yes (key i x hx).1.1 (is hk hc)),fun i x hx hk hc=>yes (or_yes (key i x hx).1.2 (is hk hc)),fun i hr=>?_,fun i x hx hc=>?_,fun i x hx hc h5=>?_,fun f hf=>?_⟩
 ·cases hx:t[i]? with
  | none=>unfold mE at hr;rw[hx]at hr;cases hr
  | some x=>exact yes (or_yes (key i x hx).2.1 hr)
 ·have h1:=or_yes (key i x hx).2.2 hc
  rw[Bool.and_eq_true,Bool.and_eq_true,Bool.and_eq_true,decide_eq_true_eq]at h1
  refine⟨h1.1.1.1,?_,fun j y h2 h3 hy=>?_⟩
  ·have h2:=h1.1.1.2
   cases hy:t[SF t i x.ch]? with
   | none=>rw[hy]at h2;cases h2
   | some y=>rw[hy]at h2;exact⟨y,rfl,h2⟩
  ·refine List.all_eq_true.1 h1.1.2 y ?_
   refine List.mem_of_getElem? (i:=j - (i+1)) ?_
   rw[List.getElem?_take_of_lt (by omega),List.getElem?_drop,show i+1+(j - (i+1))=j by omega]
   exact hy
 ·have h1:=or_yes (key i x hx).2.2 hc
  rw[Bool.and_eq_true,Bool.or_eq_true,beq_iff_eq,decide_eq_true_eq]at h1
  exact h1.2.resolve_left h5
 ·unfold goodB at h
  rw[Bool.and_eq_true]at h
  exact List.all_eq_true.1 h.2 f hf
structure aDS (T:bT):Prop where
 of:∀ {tv:Value} {l:List Rl} {lo hi:Nat} (v:Value) (t:List Tk) (off:Nat),t.length≤1000→iC t→lS v→l.length≤1000→Acc dM l→kD l→(treeC t=0→GoodT t)→∀ w:World,bH w→T.Is w tv l lo hi→bW off w w.heap.size v t→Calls Tryz.prog 13 #[tv,v] w fun e w' =>
  Below w.heap.size w w'∧((treeC t=0∧∃ v',e=.returned (.tuple #[v',.int .i64 0])∧I6 w.heap.size w' v' l t (fR t))∨(treeC t≠0∧e=.returned (.tuple #[.slice none 0 0,.int .i64 ((treeC t:Nat):Int)])))
end Go.Proofs.YthbigkoihpgcfaaGreatDoor.Da
