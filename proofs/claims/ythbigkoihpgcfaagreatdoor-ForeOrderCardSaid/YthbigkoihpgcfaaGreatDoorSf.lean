/-
  Put together.
-/
import Derived.Test.YthbigkoihpgcfaaGreatDoorHcA
import Derived.Test.YthbigkoihpgcfaaGreatDoorNb
import Derived.Test.YthbigkoihpgcfaaGreatDoorSb
import Derived.Test.YthbigkoihpgcfaaGreatDoorSe
import Derived.Test.YthbigkoihpgcfaaGreatDoorSj
import Derived.Test.YthbigkoihpgcfaaGreatDoorTjF
import Derived.Test.YthbigkoihpgcfaaGreatDoorTsC
import Derived.Test.YthbigkoihpgcfaaGreatDoorUm
import Derived.Test.YthbigkoihpgcfaaGreatDoorUn
import Derived.Test.YthbigkoihpgcfaaGreatDoorVa
import Derived.Test.YthbigkoihpgcfaaGreatDoorVm
import Derived.Deep.RegionHeld3
import Derived.Deep.DeepCutAuto
import Derived.IntWalk
import Derived.Lib.ConvBytes
import Derived.Laws.IdiomStrings
import Derived.Maps.AppendAt
import Derived.OwnWalk
import Derived.BigQuiet
open Go.Lib (hid)
set_option maxRecDepth 100000
set_option maxHeartbeats 16000000
namespace Go.Proofs.YthbigkoihpgcfaaGreatDoor.Ti
open Go.RowKit Go.Maps Ba Ru Ck
def pmV (F:Nat→Nat) (i j:Nat):Value:=.map (if i<j then some (F i) else none)
def OH (S E:Nat→Nat) (wo fo j:Nat):Array Value:=#[.slice none 0 0,pmV S 0 j,pmV E 0 j,pmV S 1 j,pmV E 1 j,pmV S 2 j,pmV E 2 j,.map (some wo),.map (some fo)]
def K2 (F:Nat→Nat) (j x:Nat):Nat→Nat:=fun i=>if i=j then x else F i
theorem Y5 (S E:Nat→Nat) (wo fo j s e:Nat) (hj:j<3):((OH S E wo fo j).setIfInBounds (1+j * 2) (.map (some s))).setIfInBounds (1+j * 2+1) (.map (some e))=OH (K2 S j s) (K2 E j e) wo fo (j+1):=by
 obtain rfl | rfl | rfl:j=0∨j=1∨j=2:=by omega
 all_goals simp[OH,pmV,K2]
structure Made (w W:World) (A:Nat) (S E:Nat→Nat) (wo fo j:Nat):Prop where
 tab:W.heap[A]?=some (.cells (OH S E wo fo j) 63)
 below:Below w.heap.size w W
 words:aY 9 pS tM W wo 0 (fun _=>none)
 found:aY 96 lH pT W fo 0 (fun _=>none)
 ord:w.heap.size≤wo∧wo<fo∧fo<A
 each:∀ i,i<j→A<S i∧S i<E i∧E i<W.heap.size∧eT W (S i) 0 (fun _=>none)∧iJ W (E i) 0 (fun _=>none)
 apart:∀ i k,i<k→k<j→E i<S k
theorem Made.on {w W W':World} {A wo fo j s e:Nat} {S E:Nat→Nat} (h:Made w W A S E wo fo j) (hj:j<3) (hb:Below W.heap.size W W') (hs:W.heap.size≤s) (hse:s<e) (he:e<W'.heap.size) (hS:eT W' s 0 (fun _=>none)) (hE:iJ W' e 0 (fun _=>none)) :
  Made w ((W'.setCell ⟨A,1+j * 2,none⟩ (.map (some s))).setCell ⟨A,1+j * 2+1,none⟩ (.map (some e))) A (K2 S j s) (K2 E j e) wo fo (j+1):=by
 obtain⟨o1,o2,o3⟩:=h.ord
 have hA:=(Array.getElem?_eq_some_iff.1 h.tab).1
 have t1:=(hb.block A hA).trans h.tab
 have t2:=nK (i:=1+j * 2) t1 (.map (some s))
 have t3:=nK (i:=1+j * 2+1) t2 (.map (some e))
 rw[Y5 S E wo fo j s e hj]at t3
 have hk:∀ b,b≠A→((W'.setCell ⟨A,1+j * 2,none⟩ (.map (some s))).setCell ⟨A,1+j * 2+1,none⟩ (.map (some e))).heap[b]?=W'.heap[b]?:=fun b hb=>(Below.heap_setCell _ _ _ b hb).trans (Below.heap_setCell _ _ _ b hb)
 have hsz:((W'.setCell ⟨A,1+j * 2,none⟩ (.map (some s))).setCell ⟨A,1+j * 2+1,none⟩ (.map (some e))).heap.size=W'.heap.size:=by simp[World.setCell]
 refine⟨t3,((h.below.trans (hb.mono h.below.size)).setCell (p:=⟨A,1+j * 2,none⟩) (by show w.heap.size≤A;omega) _).setCell (p:=⟨A,1+j * 2+1,none⟩) (by show w.heap.size≤A;omega) _,h.words.of_block ((hk wo (by omega)).trans (hb.block wo h.words.lt)),h.found.of_block ((hk fo (by omega)).trans (hb.block fo h.found.lt)),h.ord,fun i hi=>?_,fun i k hik hk2=>?_⟩
 ·rw[hsz]
  by_cases he2:i=j
  ·subst he2
   unfold K2
   rw[if_pos rfl,if_pos rfl]
   exact⟨by omega,hse,he,hS.of_block (hk s (by omega)),hE.of_block (hk e (by omega))⟩
  ·unfold K2
   rw[if_neg he2,if_neg he2]
   obtain⟨q1,q2,q3,q4,q5⟩:=h.each i (by omega)
   exact⟨q1,q2,Nat.lt_of_lt_of_le q3 hb.size,q4.of_block ((hk _ (by omega)).trans (hb.block _ q4.lt)),q5.of_block ((hk _ (by omega)).trans (hb.block _ q5.lt))⟩
 ·unfold K2
  rw[if_neg (show i≠j by omega)]
  by_cases he2:k=j
  ·rw[if_pos he2]
   have:=(h.each i (by omega)).2.2.1
   omega
  ·rw[if_neg he2]
   exact h.apart i k hik (by omega)
theorem P2 (S E:Nat→Nat) (wo fo j:Nat) (hj:j<3):(OH S E wo fo j)[1+j * 2]?=some (.map none)∧(OH S E wo fo j)[1+j * 2+1]?=some (.map none):=by
 obtain rfl | rfl | rfl:j=0∨j=1∨j=2:=by omega
 all_goals simp[OH,pmV]
theorem Made.later {w W W':World} {A wo fo j:Nat} {S E:Nat→Nat} (h:Made w W A S E wo fo j) (hj:j<3) (hb:Below W.heap.size W W'):W'.cell? ⟨A,1+j * 2,none⟩=some (.map none)∧W'.cell? ⟨A,1+j * 2+1,none⟩=some (.map none)∧W'.frozen? ⟨A,1+j * 2,none⟩=false∧W'.frozen? ⟨A,1+j * 2+1,none⟩=false:=by
 have t:=(hb.block A (Array.getElem?_eq_some_iff.1 h.tab).1).trans h.tab
 exact⟨aH t (P2 S E wo fo j hj).1,aH t (P2 S E wo fo j hj).2,lI t,lI t⟩
theorem Made.done {w W:World} {A wo fo:Nat} {S E:Nat→Nat} (h:Made w W A S E wo fo 3) (l:List Rl):Holds W w.heap.size ⟨A,wo,fo,S,E⟩ (.slice none 0 0) l 0 where
 ord:=⟨h.ord.1,h.ord.2.1,h.ord.2.2,(h.each 0 (by omega)).1,(h.each 0 (by omega)).2.1,h.apart 0 1 (by omega) (by omega),(h.each 1 (by omega)).2.1,h.apart 1 2 (by omega) (by omega),(h.each 2 (by omega)).2.1⟩
 top:=(h.each 2 (by omega)).2.2.1
 box:=h.tab
 own:=⟨rfl,.inl ⟨rfl,rfl⟩⟩
 words:=⟨0,Nat.le_refl _,h.words⟩
 found:=⟨0,Nat.le_refl _,h.found⟩
 rows:=fun i hi=>by
  obtain⟨-,-,-,q4,q5⟩:=h.each i hi
  exact⟨0,0,_,_,by omega,by omega,q4,q5,qW.nothing.congr (YT l _)⟩
theorem Made.start {w w1:World} (hb:Below w.heap.size w w1):Made w (((w1.alloc (.map #[] 0)).alloc (.map #[] 0)).alloc (.cells #[.slice none 0 0,.map none,.map none,.map none,.map none,.map none,.map none,.map (some w1.heap.size),.map (some (w1.heap.size+1))] 63)) (w1.heap.size+1+1) (fun _=>0) (fun _=>0) w1.heap.size (w1.heap.size+1) 0:=by
 have s1:(w1.alloc (.map #[] 0)).heap.size=w1.heap.size+1:=by simp
 have s2:((w1.alloc (.map #[] 0)).alloc (.map #[] 0)).heap.size=w1.heap.size+1+1:=by simp
 have m1:=aY.new 9 pS tM w1
 have m2:=aY.new 96 lH pT (w1.alloc (.map #[] 0))
 rw[s1]at m2
 have hsz:=hb.size
 refine⟨?_,((hb.alloc hsz _).alloc (by omega) _).alloc (by omega) _,m1.of_block ((Below.heap_alloc _ _ _ (by omega)).trans (Below.heap_alloc _ _ _ (by omega))),m2.of_block (Below.heap_alloc _ _ _ (by omega)),⟨hsz,by omega,by omega⟩,fun i hi=>by omega,fun i k _ hk=>by omega⟩
 rw[← s2]
 exact heap_alloc_new _ _
theorem aCC (v:Value) (l:List Rl) (off:Nat) (hl:l.length≤1000) (hf:kD l) (hcp:lS v) (w:World) (hL:bH w) (hv:dZ off w w.heap.size v l):Calls Tryz.prog 9 #[v] w fun e w' =>
  Below w.heap.size w w'∧(((e9 dM l).2=0∧∃ t,e=.returned (.tuple #[t,.int .i64 0,.int .i64 0])∧YZ w' t l w.heap.size w'.heap.size)∨((e9 dM l).2≠0∧e=.returned (.tuple #[.pointer none,.int .i64 (e9 dM l).1,.int .i64 (((e9 dM l).2:Nat):Int)]))):=by
 obtain⟨z,y,hr⟩:∃ z y,e9 dM l=(z,y):=⟨_,_,rfl⟩
 have HT:=hid (Q7 v l off (by omega) hf hcp (z,y) hr w hL.1 hL.2 hv)
 have HACC:=hid (fun(h:y=0)=>(pY (pr:=dM) l).1 (by rw[hr];exact h))
 rw[hr]
 clear hr
 have HF:=hid hf
 have HV:=hid hv
 obtain⟨A,c,rfl,-⟩:=hv
 clear hf hcp hL
 have hmm:=@run_makeMap Tryz.prog
 obtain⟨nl,hnl⟩:∃ nl,l.length=nl:=⟨_,rfl⟩
 rw[hnl]at HV HT hl ⊢
 have HNL:=hid hnl
 clear hnl
 go_enter Tryz.func9,Tryz.ntmps9
 go_wp2_with fail
 refine HT.out.mono ?_
 rintro e w1 ⟨rfl,hb1⟩
 have HB1:=hid hb1
 clear hb1
 by_cases hy:y=0
 case neg =>
  have ty:((y:Int) != 0)=true:=by rw[bne,beq_eq_false_iff_ne.2 (by omega)];rfl
  have HY:=hid hy
  clear hy
  go_wp2
  refine bodyPost_ret (v:=.tuple #[.pointer none,.int .i64 z,.int .i64 (y:Int)]) (by simp[results,Tryz.f9,go_sem]) rfl ?_
  exact⟨HB1.out,.inr ⟨HY.out,rfl⟩⟩
 case pos =>
 subst hy
 have hAcc:=HACC.out rfl
 have HA:=hid hAcc.apart
 clear hAcc HACC
 go_wp2
 have h0:=Made.start HB1.out
 generalize ((w1.alloc (.map #[] 0)).alloc (.map #[] 0)).alloc (.cells #[.slice none 0 0,.map none,.map none,.map none,.map none,.map none,.map none,.map (some w1.heap.size),.map (some (w1.heap.size+1))] 63)=w2 at h0 ⊢
 generalize w1.heap.size+1+1=T at h0 ⊢
 generalize w1.heap.size+1=fo at h0
 generalize w1.heap.size=wo at h0
 have H0:=hid h0
 clear h0
 go_loopw [21] (fun i wr=>∃ (j:Nat) (S E:Nat→Nat),j≤3∧i=.int .i64 (j:Int)∧Made w wr T S E wo fo j) (fun i _=>3 - (intOf i).toNat)
 case atStart=>exact⟨0,_,_,by omega,rfl,H0.out⟩
 case round =>
  obtain⟨j,S,E,hj,rfl,hM⟩:=hrel
  have HM:=hid hM
  by_cases hlt:j<3
  ·have hq1:(0:Int)≤(j:Int):=by omega
   have hq2:(j:Int)<3:=by omega
   clear hM
   go_wp2
   go_region_law
    ((go_simp;go_at_call 22;refine(KT _).mono ?_;rintro e w3 ⟨Sj,Ej,rfl,n1,n2,n3,n4,n5,n6⟩;have nb:Below wr.heap.size wr w3:=(Below.refl wr.heap.size wr).drew.trans n4;obtain⟨k1,k2,k3,k4⟩:=Made.later HM.out hlt nb;have HN:=hid (show wr.heap.size≤Sj∧Sj<Ej∧Ej<w3.heap.size∧Below wr.heap.size wr w3∧eT w3 Sj 0 (fun _=>none)∧iJ w3 Ej 0 (fun _=>none) from ⟨n1,n2,n3,nb,n5,n6⟩);clear n1 n2 n3 n4 n5 n6 nb;unfold pQ))
   all_goals
    clear k1 k2 k3 k4
    go_wp2
    obtain⟨n1,n2,n3,n4,n5,n6⟩:=HN.out
    exact⟨⟨j+1,_,_,by omega,by go_num,HM.out.on hlt n4 n1 n2 n3 n5 n6⟩,by simp[intOf];omega⟩
  ·obtain rfl:j=3:=by omega
   have hH:=hM.done l
   have HBW:=hid hM.below
   have HO:=hid hH.ord
   have HH:=hid hH
   clear hM hH HM
   go_wp2
   go_loopw [33] (fun i wr=>∃ (k:Nat) (R:Value),k≤nl∧i=.int .i64 (k:Int)∧Holds wr w.heap.size ⟨T,wo,fo,S,E⟩ R l k∧Below w.heap.size w wr) (fun i _=>nl - (intOf i).toNat)
   case atStart=>exact⟨0,_,by omega,rfl,HH.out,HBW.out⟩
   case round =>
    obtain⟨k,R,hk,rfl,hH,hB⟩:=hrel
    by_cases hlt:k<nl
    ·obtain⟨x,hx⟩:∃ x,l[k]?=some x:=⟨_,List.getElem?_eq_getElem (by rw[HNL.out];exact hlt)⟩
     have hvr:=HV.out.below hB
     obtain⟨A',c',e,hA⟩:=hvr
     injection e with e1 e2 e3
     subst e1
     obtain⟨g,rfl,-,hg⟩:=hA (by rw[HNL.out];omega)
     obtain⟨g0,g1,g2,g3,g4⟩:=wD hg k x hx
     have hlo:w.heap.size≤wr.heap.size:=hB.size
     have HHn:=hid (show Holds (wr.alloc (.cells #[.int .i64 x.aE,.string (bytesOf x.left),.string (bytesOf x.cells),.int .i64 x.prio,.int .i64 x.line] 48)) w.heap.size ⟨T,wo,fo,S,E⟩ R l k from hH.kept (Kept.dB ((Below.refl wr.heap.size wr).alloc (Nat.le_refl _) _) (Nat.le_refl _)) hH.top (fun g hg=>(hH.own.lt g hg).2))
     have HBn:=hid (hB.alloc hlo (.cells #[.int .i64 x.aE,.string (bytesOf x.left),.string (bytesOf x.cells),.int .i64 x.prio,.int .i64 x.line] 48))
     have HADD:=hid (fun W hW=>aCB ⟨T,wo,fo,S,E⟩ R l k w.heap.size x HA.out (by rw[HNL.out];exact hl) HF.out hx W hW)
     have k1:(0:Int)≤(k:Int):=by omega
     have k2:(k:Int)<(nl:Int):=by omega
     simp only[dE]at HADD
     obtain⟨xq,xl,xc,xp,xn⟩:=x
     simp only[]at g0 g1 g2 g3 g4 HADD HHn HBn
     generalize bytesOf xl=L at g1 HADD HHn HBn
     generalize bytesOf xc=C at g2 HADD HHn HBn
     clear hA hg hH hB hx e2 e3
     go_wp2_with (go_at_call 23;refine(HADD.out _ HHn.out).mono ?_;rintro e w5 ⟨rfl,⟨R5,h5⟩,hb5⟩)
     exact⟨⟨k+1,R5,hlt,by go_num,h5,HBn.out.trans hb5⟩,by simp[intOf];omega⟩
    ·obtain rfl:k=nl:=by omega
     have HH2:=hid hH
     have HB2:=hid hB
     clear hH hB
     go_wp2
     refine bodyPost_ret (v:=.tuple #[.pointer (some ⟨T,0,none⟩),.int .i64 0,.int .i64 0]) (by simp[results,Tryz.f9,go_sem]) rfl ?_
     have h:=HH2.out
     exact⟨HB2.out,_,rfl,⟨T,wo,fo,S,E⟩,R,rfl,by rw[HNL.out];exact h,Nat.le_refl _,h.top,fun g hg=>(h.own.lt g hg).2⟩
theorem aCD {w:World} {t:Value} {l:List Rl} {lo hi:Nat} (h:YZ w t l lo hi):(∃ a,t=.pointer (some a))∧hi≤w.heap.size:=by
 obtain⟨v,R,h1,-,h3,-,-⟩:=h
 exact⟨⟨_,h1⟩,h3⟩
def EZ:bT where
 Is:=YZ
 xJ:=fun h k=>h.xJ k
 ptr:=fun h=>aCD h
 new:=fun v l off h1 h2 h3 w h4 h5=>aCC v l off h1 h2 h3 w h4 h5
 word:=fun S h1 _ _ _ w _ H=>Y1 S h1 w H
 find:=fun q S h1 h2 _ _ _ w _ H=>(KY q S h1 h2 w H).mono fun _ _ h=>⟨h.1,by rw[h.2];exact Below.refl _ _⟩
 sign:=fun S h1 h2 _ _ w _ H=>(Y3 S h1 h2 w H).mono fun _ _ h=>⟨h.1,by rw[h.2];exact Below.refl _ _⟩
 rules:=fun h1 _ _ w _ H=>TZ h1 w H
end Go.Proofs.YthbigkoihpgcfaaGreatDoor.Ti
namespace Go.Proofs.YthbigkoihpgcfaaGreatDoor.Cn
open Go.RowKit Tr Nu
theorem aHL (p:List Tr.Op) (n i:Nat) (f:Tr.Op→Tr.Op):(p.modify n f).getD i root=if n=i∧n<p.length then f (p.getD i root) else p.getD i root:=by
 rw[List.getD_eq_getElem?_getD,List.getD_eq_getElem?_getD,uN]
 by_cases h:n=i
 ·subst h
  by_cases hl:n<p.length
  ·rw[if_pos ⟨rfl,hl⟩,List.getElem?_eq_getElem hl];simp
  ·rw[if_neg (by omega),List.getElem?_eq_none (by omega)];rfl
 ·rw[if_neg (by omega)]
  cases p[i]? with
  | none=>rfl
  | some a=>simp[h]
theorem aE5 (p:List Tr.Op):T4 p=p.getD (p.length - 1) root:=by
 unfold T4
 rw[List.getLastD_eq_getLast?,List.getLast?_eq_getElem?,List.getD_eq_getElem?_getD]
structure Oz (o o':Tr.Op):Prop where
 kind:o'.kind=o.kind
 notes:o'.notes=o.notes
 first:o'.first=o.first
 kids:EC o.kind aE0=true→o'.kids=o.kids
 list:EC 108 o'.kids=EC 108 o.kids
 text:o'.text.size≤o.text.size
def Pz (p p':List Tr.Op):Prop:=p'.length=p.length∧∀ i,Oz (p.getD i root) (p'.getD i root)
section
variable {p p':List Tr.Op} (h:Pz p p')
include h
theorem Pz.aDE (ks:ByteArray):∀ n,aDE p' ks n=aDE p ks n
 | 0=>rfl
 | n+1=>by unfold Tr.aDE;rw[(h.2 n).kind,Pz.aDE ks n]
theorem Pz.last (ks:ByteArray):DN p' ks=DN p ks:=by unfold DN;rw[h.aDE,h.1]
end
theorem aLL {k:Nat} (h:EC k P8=true∨k=105):EC k aE0=false:=by
 have e1:EC k P8=[49,50,51,112,99,110,101,115].contains k:=rfl
 have e2:EC k aE0=[108,116,114].contains k:=rfl
 rw[e1]at h
 rw[e2]
 simp at h ⊢
 omega
theorem aJ4 {p:List Tr.Op} (h:FQ p=true):EC (T4 p).kind aE0=false:=by
 unfold FQ at h
 rw[Bool.or_eq_true,Bool.and_eq_true,beq_iff_eq]at h
 exact aLL (h.imp id And.left)
theorem aJ5 {p:List Tr.Op} (h:FQ p=true):0<p.length:=by
 cases p with
 | nil=>cases h
 | cons _ _=>exact Nat.succ_pos _
structure Tzo (o o':Tr.Op) (m:Nat):Prop where
 kind:o'.kind=o.kind
 notes:o'.notes=o.notes
 first:o'.first=o.first
 kids:EC o.kind aE0=true→o'.kids=o.kids
 list:EC 108 o'.kids=EC 108 o.kids
 text:o'.text.size=o.text.size+m
def Tz (p q:List Tr.Op) (n:Nat):Prop:=q.length=p.length∧∀ i,Tzo (p.getD i root) (q.getD i root) (if i=DN p ZG∧0<i then n else 0)
theorem Tz.pz {p q:List Tr.Op} {n:Nat} (h:Tz p q n):Pz q p:=⟨h.1.symm,fun i=>⟨(h.2 i).kind.symm,(h.2 i).notes.symm,(h.2 i).first.symm,fun hk=>((h.2 i).kids (by rw[← (h.2 i).kind];exact hk)).symm,(h.2 i).list.symm,by have:=(h.2 i).text;omega⟩⟩
theorem aJQ (k:Nat) (a b:ByteArray):EC k (a++b)=(EC k a || EC k b):=by
 unfold EC
 rw[Lx.rD,Bool.eq_iff_iff]
 simp
theorem aIR (o:Tr.Op):EC 108 (ZI 46 o).kids=EC 108 o.kids:=by
 show EC 108 (o.kids++jZ 46)=_
 rw[aJQ,show EC 108 (jZ 46)=false from rfl,Bool.or_false]
theorem aJE {t:List Nd} {p:List Tr.Op} {x:Lx.Lx} (hx:x.kind=1) (ht:FQ p=true) :
  (ZE (t,p) x).1.length=t.length+1∧Tz p (ZE (t,p) x).2 x.text.size:=by
 have hp:=aJ5 ht
 have hl:=aJ4 ht
 rw[aE5]at hl
 have h1:Tz p (p.modify (p.length - 1) (ZI 46)) 0:=by
  refine⟨by simp,fun i=>?_⟩
  rw[aHL,show (if i=DN p ZG∧0<i then 0 else 0)=0 by split<;>rfl]
  by_cases h:p.length - 1=i∧p.length - 1<p.length
  ·rw[if_pos h]
   exact⟨rfl,rfl,rfl,fun hk=>(by rw[← h.1,hl]at hk;cases hk),aIR _,rfl⟩
  ·rw[if_neg h];exact⟨rfl,rfl,rfl,fun _=>rfl,rfl,rfl⟩
 have hlast:DN (p.modify (p.length - 1) (ZI 46)) ZG=DN p ZG:=(h1.pz.last ZG).symm
 have e:ZE (t,p) x=(t++[⟨46,x.text,(x.place:Int),1⟩],if 0<DN p ZG then (p.modify (p.length - 1) (ZI 46)).modify (DN p ZG) (aCG x.text) else p.modify (p.length - 1) (ZI 46)):=by
  unfold ZE
  simp only[hx,if_true,ht,hlast]
 rw[e]
 refine⟨by simp,?_⟩
 simp only[]
 have hlt:=aIS ZG hp
 by_cases h0:0<DN p ZG
 ·rw[if_pos h0]
  refine⟨by simp,fun i=>?_⟩
  have g:=h1.2 i
  rw[show (if i=DN p ZG∧0<i then 0 else 0)=0 by split<;>rfl]at g
  rw[aHL]
  by_cases h:i=DN p ZG
  ·rw[if_pos ⟨h.symm,by rw[h1.1];exact hlt⟩,if_pos ⟨h,by omega⟩]
   exact⟨g.kind,g.notes,g.first,g.kids,g.list,by show (_++_:ByteArray).size=_;rw[ByteArray.size_append,g.text,Nat.add_zero]⟩
  ·rw[if_neg (fun hh=>h hh.1.symm),if_neg (fun hh=>h hh.1)];exact g
 ·rw[if_neg h0]
  refine⟨h1.1,fun i=>?_⟩
  have g:=h1.2 i
  rw[show (if i=DN p ZG∧0<i then 0 else 0)=0 by split<;>rfl]at g
  rw[if_neg (by omega)];exact g
theorem aH3 {t:List Nd} {p:List Tr.Op} {x:Lx.Lx} (hx:x.kind=1) (ht:FQ p=true) :
  (tO t p x).2=0↔¬ (2000≤t.length∨(0<DN p ZG∧60<(p.getD (DN p ZG) root).text.size+x.text.size)):=by
 unfold tO
 rw[if_pos hx,if_neg (by rw[ht];exact fun h=>Bool.noConfusion h)]
 split
 ·rename_i h;exact⟨fun e=>(by cases e),fun e=>absurd h e⟩
 ·rename_i h;exact⟨fun _=>h,fun _=>rfl⟩
def e2l (x:Ev):Lx.Lx:=⟨x.kind,x.name,x.text,0⟩
def aKP (x:Ev):Prop:=(∃ s pl,x=JP s pl)∨(∃ k pl,k≠46∧x=opE k pl)∨x=clE
theorem aGM:∀ (L:List Ev) (n:Nat),dep (n+1) L=some 0→(∀ x ∈ L,aKP x)→∃ M R,L=M++clE::R∧Bal M∧dep n R=some 0
 | [],n,h,_=>by cases h
 | x::L,n,h,ho=>by
  have hoL:∀ y ∈ L,aKP y:=fun y hy=>ho y (List.mem_cons_of_mem _ hy)
  rcases ho x (List.mem_cons_self ..) with⟨s,pl,rfl⟩ | ⟨k,pl,_,rfl⟩ | rfl
  ·rw[YD rfl]at h
   obtain⟨M,R,rfl,h1,h2⟩:=aGM L n h hoL
   exact⟨JP s pl::M,R,rfl,by unfold Bal;rw[YD rfl];exact h1,h2⟩
  ·rw[YE rfl]at h
   obtain⟨M,R,rfl,h1,h2⟩:=aGM L (n+1) h hoL
   obtain⟨M2,R2,e,h3,h4⟩:=aGM R n h2 (fun y hy=>hoL y (by simp[hy]))
   refine⟨(opE k pl::(M++[clE]))++M2,R2,by rw[e];simp,(h1.node k pl).app h3,h4⟩
  ·rw[YF (by decide) (by decide)]at h
   exact⟨[],L,rfl,rfl,h⟩
 termination_by L _ _ _=>L.length
 decreasing_by all_goals (subst_vars;simp;try omega)
theorem aIH:∀ (L:List Ev),Bal L→(∀ x ∈ L,aKP x)→Wf (jY L) (L.map e2l)
 | [],_,_=>.nil
 | x::L,h,ho=>by
  have hoL:∀ y ∈ L,aKP y:=fun y hy=>ho y (List.mem_cons_of_mem _ hy)
  rcases ho x (List.mem_cons_self ..) with⟨s,pl,rfl⟩ | ⟨k,pl,hk,rfl⟩ | rfl
  ·have hb:Bal L:=by unfold Bal at h;rw[YD rfl]at h;exact h
   have:=(Wf.text s pl Wf.nil).app (aIH L hb hoL)
   rw[show JP s pl::L=[JP s pl]++L from rfl,aIT (Bal.text s pl) hb,aLM]
   exact this
  ·have h2:dep 1 L=some 0:=by unfold Bal at h;rw[YE rfl]at h;exact h
   obtain⟨M,R,rfl,h3,h4⟩:=aGM L 0 h2 hoL
   have w1:=aIH M h3 (fun y hy=>hoL y (by simp[hy]))
   have w2:=aIH R h4 (fun y hy=>hoL y (by simp[hy]))
   have:=(Wf.node k pl Wf.nil w1 hk).app w2
   rw[show opE k pl::(M++clE::R)=(opE k pl::(M++[clE]))++R by simp,aIT (h3.node k pl) h4,aJ6 h3,List.map_append,List.map_cons,List.map_append]
   exact this
  ·unfold Bal at h;rw[NO (by decide) (by decide)]at h;cases h
 termination_by L _ _=>L.length
 decreasing_by all_goals (subst_vars;simp;try omega)
theorem aAP {Q:Nd→Prop} (hQ:∀ z x,Q x→Q (aU z x)):∀ (L:List Ev) (T:List Nd) (S:List Nat),(∀ x ∈ T,Q x)→(∀ e ∈ L,e.kind=1∨e.kind=2→Q (LH e))→∀ x ∈ (L.foldl wE (T,S)).1,Q x:=by
 intro L
 induction L with
 | nil=>intro T S h _;exact h
 | cons e L ih =>
  intro T S h h2
  have h2L:=fun y hy=>h2 y (List.mem_cons_of_mem e hy)
  have he:=h2 e (List.mem_cons_self ..)
  rw[List.foldl_cons]
  by_cases h1:e.kind=1
  ·rw[rL h1]
   refine ih _ _ (fun x hx=>?_) h2L
   rcases List.mem_append.1 hx with g | g
   ·exact h x g
   ·rw[List.mem_singleton]at g;subst g;exact he (.inl h1)
  ·by_cases h3:e.kind=2
   ·rw[rM h3]
    refine ih _ _ (fun x hx=>?_) h2L
    rcases List.mem_append.1 hx with g | g
    ·exact h x g
    ·rw[List.mem_singleton]at g;subst g;exact he (.inr h3)
   ·unfold wE
    rw[if_neg h1,if_neg h3]
    refine ih _ _ (fun x hx=>?_) h2L
    obtain⟨j,hj⟩:=List.mem_iff_getElem?.1 hx
    rw[uN]at hj
    cases hy:T[j]? with
    | none=>rw[hy]at hj;cases hj
    | some y =>
     rw[hy]at hj
     simp only[Option.map_some,Option.some.injEq]at hj
     have hq:=h y (List.mem_of_getElem? hy)
     rw[← hj]
     split
     ·exact hQ _ _ hq
     ·exact hq
end Go.Proofs.YthbigkoihpgcfaaGreatDoor.Cn
namespace Go.Proofs.YthbigkoihpgcfaaGreatDoor.Tr
open Go.RowKit
def Fit (t:List Nd):Prop:=∀ x ∈ t,x.kind<256∧x.text.size≤maxLen∧(-9223372036854775808≤x.place∧x.place≤9223372036854775807)∧(-9223372036854775808≤x.size∧x.size≤9223372036854775807)
end Go.Proofs.YthbigkoihpgcfaaGreatDoor.Tr
namespace Go.Proofs.YthbigkoihpgcfaaGreatDoor.Nl
open Go.RowKit Tr Nu
end Go.Proofs.YthbigkoihpgcfaaGreatDoor.Nl
namespace Go.Proofs.YthbigkoihpgcfaaGreatDoor.Cn
open Go.RowKit Tr Nu
theorem mP {α:Type} {P:List α→Prop} (h0:P []) (h1:∀ l x,P l→P (l++[x])):∀ (n:Nat) (l:List α),l.length=n→P l
 | 0,l,h=>by rw[List.eq_nil_of_length_eq_zero h];exact h0
 | n+1,l,h=>by
  rcases List.eq_nil_or_concat l with rfl | ⟨l',x,rfl⟩
  ·exact h0
  ·rw[List.concat_eq_append]at h ⊢
   exact h1 l' x (mP h0 h1 n l' (by rw[List.length_append,List.length_singleton]at h;omega))
end Go.Proofs.YthbigkoihpgcfaaGreatDoor.Cn
namespace Go.Proofs.YthbigkoihpgcfaaGreatDoor.Cn
open Go.RowKit Tr Nu Nl
def aDL (v:Value):Prop:=∀ A n c,v=.slice A n c→n≤c∧c≤maxLen
theorem O7 {A:Option Addr} {n c:Nat} (h1:n≤c) (h2:c≤maxLen):aDL (.slice A n c):=fun _ _ _ e=>by
 injection e with _ e1 e2
 subst e1 e2
 exact⟨h1,h2⟩
theorem VH {w:World} {base e size n:Nat} {v:Value} {xs:List Value} (h:w.ownsRow base e size v n xs):aDL v:=by
 rcases h.2 with⟨rfl,_⟩ | ⟨g,cap,cur,rfl,_,_,h1,h2,_⟩
 ·exact O7 (Nat.le_refl _) (by unfold maxLen;omega)
 ·exact O7 h1 h2
theorem B5 (A B:List Ev):gO (A++B)=gO A+gO B:=by
 induction A with
 | nil=>show gO B=0+gO B;omega
 | cons x A ih=>show ED x+gO (A++B)=ED x+gO A+gO B;rw[ih];omega
end Go.Proofs.YthbigkoihpgcfaaGreatDoor.Cn
namespace Go.Proofs.YthbigkoihpgcfaaGreatDoor.Cl
open Go.RowKit Hc
theorem aC {a b:Bool} (h:a=b):Ending.returned (.bool a)=.returned (.bool b):=by rw[h]
def l9 (c:Int):Int:=if cls c=2 then c+32 else c
def QU (b:UInt8):UInt8:=if fJ b.toNat=2 then b+32 else b
theorem U7:∀ n:Fin 256,((QU (UInt8.ofNat n.val)).toNat:Int)=l9 (n.val:Int):=by decide +kernel
theorem L1 (b:UInt8):((QU b).toNat:Int)=l9 (b.toNat:Int):=by
 have h:=U7 ⟨b.toNat,UInt8.toNat_lt b⟩
 simp only[UInt8.ofNat_toNat]at h
 exact h
def BB (s:ByteArray):List UInt8:=s.data.toList.map QU
def aDJ (s:ByteArray):ByteArray:=⟨(BB s).toArray⟩
theorem wA (s:ByteArray):(BB s).length=s.size:=by simp[BB]
theorem U8 (s:ByteArray) (j:Nat) (hj:j<(BB s).length):((BB s)[j].toNat:Int)=l9 (aV s j):=by
 have hj':j<s.data.toList.length:=by simpa[BB] using hj
 have e:(BB s)[j]=QU s.data.toList[j]:=by simp[BB]
 rw[e,L1]
 unfold aV
 rw[List.getD_eq_getElem?_getD,List.getElem?_eq_getElem hj']
 rfl
theorem infoByte:(Tryz.prog.info? 5).map (fun i=>(i.zero,i.size,i.bytes))=some (some (.int .u8 0),1,1):=by kernel_rfl
end Go.Proofs.YthbigkoihpgcfaaGreatDoor.Cl
namespace Go.Proofs.YthbigkoihpgcfaaGreatDoor.Pa
open Go.RowKit Ba Ru Ck Ti
end Go.Proofs.YthbigkoihpgcfaaGreatDoor.Pa
