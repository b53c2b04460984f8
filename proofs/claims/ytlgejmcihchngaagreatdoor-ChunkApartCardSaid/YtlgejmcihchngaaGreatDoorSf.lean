/-
  Put together: TjG, TjH.
-/
import Derived.Test.YtlgejmcihchngaaGreatDoorTjF
import Derived.Test.YtlgejmcihchngaaGreatDoorUn
import Derived.Test.YtlgejmcihchngaaGreatDoorCkK
namespace Go.Proofs.YtlgejmcihchngaaGreatDoor.Ti
open Go.RowKit Go.Maps Ba Ru Ck
def pmV (F:Nat→Nat) (i j:Nat):Value:=.map (if i<j then some (F i) else none)
def boxP (S E:Nat→Nat) (wo fo j:Nat):Array Value:=#[.slice none 0 0,pmV S 0 j,pmV E 0 j,pmV S 1 j,pmV E 1 j,pmV S 2 j,pmV E 2 j,.map (some wo),.map (some fo)]
def updF (F:Nat→Nat) (j x:Nat):Nat→Nat:=fun i=>if i=j then x else F i
theorem boxP_set (S E:Nat→Nat) (wo fo j s e:Nat) (hj:j<3):((boxP S E wo fo j).setIfInBounds (1+j * 2) (.map (some s))).setIfInBounds (1+j * 2+1) (.map (some e))=boxP (updF S j s) (updF E j e) wo fo (j+1):=by
 obtain rfl | rfl | rfl:j=0∨j=1∨j=2:=by omega
 all_goals simp[boxP,pmV,updF]
structure Made (w W:World) (A:Nat) (S E:Nat→Nat) (wo fo j:Nat):Prop where
 tab:W.heap[A]?=some (.cells (boxP S E wo fo j) 72)
 below:Below w.heap.size w W
 words:MapIs 9 wordV wordD W wo 0 (fun _=>none)
 found:MapIs 102 aboutV aboutD W fo 0 (fun _=>none)
 ord:w.heap.size≤wo∧wo<fo∧fo<A
 each:∀ i,i<j→A<S i∧S i<E i∧E i<W.heap.size∧StepsIs W (S i) 0 (fun _=>none)∧EndsIs W (E i) 0 (fun _=>none)
 apart:∀ i k,i<k→k<j→E i<S k
theorem Made.on {w W W':World} {A wo fo j s e:Nat} {S E:Nat→Nat} (h:Made w W A S E wo fo j) (hj:j<3) (hb:Below W.heap.size W W') (hs:W.heap.size≤s) (hse:s<e) (he:e<W'.heap.size) (hS:StepsIs W' s 0 (fun _=>none)) (hE:EndsIs W' e 0 (fun _=>none)) :
  Made w ((W'.setCell ⟨A,1+j * 2,none⟩ (.map (some s))).setCell ⟨A,1+j * 2+1,none⟩ (.map (some e))) A (updF S j s) (updF E j e) wo fo (j+1):=by
 obtain⟨o1,o2,o3⟩:=h.ord
 have hA:=(Array.getElem?_eq_some_iff.1 h.tab).1
 have t1:=(hb.block A hA).trans h.tab
 have t2:=block_set (i:=1+j * 2) t1 (.map (some s))
 have t3:=block_set (i:=1+j * 2+1) t2 (.map (some e))
 rw[boxP_set S E wo fo j s e hj]at t3
 have hk:∀ b,b≠A→((W'.setCell ⟨A,1+j * 2,none⟩ (.map (some s))).setCell ⟨A,1+j * 2+1,none⟩ (.map (some e))).heap[b]?=W'.heap[b]?:=fun b hb=>(Below.heap_setCell _ _ _ b hb).trans (Below.heap_setCell _ _ _ b hb)
 have hsz:((W'.setCell ⟨A,1+j * 2,none⟩ (.map (some s))).setCell ⟨A,1+j * 2+1,none⟩ (.map (some e))).heap.size=W'.heap.size:=by simp[World.setCell]
 refine⟨t3,((h.below.trans (hb.mono h.below.size)).setCell (p:=⟨A,1+j * 2,none⟩) (by show w.heap.size≤A;omega) _).setCell (p:=⟨A,1+j * 2+1,none⟩) (by show w.heap.size≤A;omega) _,h.words.of_block ((hk wo (by omega)).trans (hb.block wo h.words.lt)),h.found.of_block ((hk fo (by omega)).trans (hb.block fo h.found.lt)),h.ord,fun i hi=>?_,fun i k hik hk2=>?_⟩
 ·rw[hsz]
  by_cases he2:i=j
  ·subst he2
   unfold updF
   rw[if_pos rfl,if_pos rfl]
   exact⟨by omega,hse,he,hS.of_block (hk s (by omega)),hE.of_block (hk e (by omega))⟩
  ·unfold updF
   rw[if_neg he2,if_neg he2]
   obtain⟨q1,q2,q3,q4,q5⟩:=h.each i (by omega)
   exact⟨q1,q2,Nat.lt_of_lt_of_le q3 hb.size,q4.of_block ((hk _ (by omega)).trans (hb.block _ q4.lt)),q5.of_block ((hk _ (by omega)).trans (hb.block _ q5.lt))⟩
 ·unfold updF
  rw[if_neg (show i≠j by omega)]
  by_cases he2:k=j
  ·rw[if_pos he2]
   have:=(h.each i (by omega)).2.2.1
   omega
  ·rw[if_neg he2]
   exact h.apart i k hik (by omega)
theorem boxP_at (S E:Nat→Nat) (wo fo j:Nat) (hj:j<3):(boxP S E wo fo j)[1+j * 2]?=some (.map none)∧(boxP S E wo fo j)[1+j * 2+1]?=some (.map none):=by
 obtain rfl | rfl | rfl:j=0∨j=1∨j=2:=by omega
 all_goals simp[boxP,pmV]
theorem Made.cells {w W:World} {A wo fo j:Nat} {S E:Nat→Nat} (h:Made w W A S E wo fo j) (hj:j<3):W.cell? ⟨A,1+j * 2,none⟩=some (.map none)∧W.cell? ⟨A,1+j * 2+1,none⟩=some (.map none)∧W.frozen? ⟨A,1+j * 2,none⟩=false∧W.frozen? ⟨A,1+j * 2+1,none⟩=false :=
 ⟨block_cell h.tab (boxP_at S E wo fo j hj).1,block_cell h.tab (boxP_at S E wo fo j hj).2,block_open h.tab,block_open h.tab⟩
theorem Made.later {w W W':World} {A wo fo j:Nat} {S E:Nat→Nat} (h:Made w W A S E wo fo j) (hj:j<3) (hb:Below W.heap.size W W'):W'.cell? ⟨A,1+j * 2,none⟩=some (.map none)∧W'.cell? ⟨A,1+j * 2+1,none⟩=some (.map none)∧W'.frozen? ⟨A,1+j * 2,none⟩=false∧W'.frozen? ⟨A,1+j * 2+1,none⟩=false:=by
 have t:=(hb.block A (Array.getElem?_eq_some_iff.1 h.tab).1).trans h.tab
 exact⟨block_cell t (boxP_at S E wo fo j hj).1,block_cell t (boxP_at S E wo fo j hj).2,block_open t,block_open t⟩
theorem Made.done {w W:World} {A wo fo:Nat} {S E:Nat→Nat} (h:Made w W A S E wo fo 3) (l:List Rl):Holds W w.heap.size ⟨A,wo,fo,S,E⟩ (.slice none 0 0) l 0 where
 ord:=⟨h.ord.1,h.ord.2.1,h.ord.2.2,(h.each 0 (by omega)).1,(h.each 0 (by omega)).2.1,h.apart 0 1 (by omega) (by omega),(h.each 1 (by omega)).2.1,h.apart 1 2 (by omega) (by omega),(h.each 2 (by omega)).2.1⟩
 top:=(h.each 2 (by omega)).2.2.1
 box:=h.tab
 own:=⟨rfl,.inl ⟨rfl,rfl⟩⟩
 words:=⟨0,Nat.le_refl _,h.words⟩
 found:=⟨0,Nat.le_refl _,h.found⟩
 rows:=fun i hi=>by
  obtain⟨-,-,-,q4,q5⟩:=h.each i hi
  exact⟨0,0,_,_,by omega,by omega,q4,q5,Held.nothing.congr (row_none l _)⟩
theorem Made.start {w w1:World} (hb:Below w.heap.size w w1):Made w (((w1.alloc (.map #[] 0)).alloc (.map #[] 0)).alloc (.cells #[.slice none 0 0,.map none,.map none,.map none,.map none,.map none,.map none,.map (some w1.heap.size),.map (some (w1.heap.size+1))] 72)) (w1.heap.size+1+1) (fun _=>0) (fun _=>0) w1.heap.size (w1.heap.size+1) 0:=by
 have s1:(w1.alloc (.map #[] 0)).heap.size=w1.heap.size+1:=by simp
 have s2:((w1.alloc (.map #[] 0)).alloc (.map #[] 0)).heap.size=w1.heap.size+1+1:=by simp
 have m1:=MapIs.new 9 wordV wordD w1
 have m2:=MapIs.new 102 aboutV aboutD (w1.alloc (.map #[] 0))
 rw[s1]at m2
 have hsz:=hb.size
 refine⟨?_,((hb.alloc hsz _).alloc (by omega) _).alloc (by omega) _,m1.of_block ((Below.heap_alloc _ _ _ (by omega)).trans (Below.heap_alloc _ _ _ (by omega))),m2.of_block (Below.heap_alloc _ _ _ (by omega)),⟨hsz,by omega,by omega⟩,fun i hi=>by omega,fun i k _ hk=>by omega⟩
 rw[← s2]
 exact heap_alloc_new _ _
set_option maxRecDepth 100000 in
set_option maxHeartbeats 16000000 in
theorem tnew_at (v:Value) (l:List Rl) (off:Nat) (hl:l.length≤1000) (hf:FitL l) (hcp:CapsR v) (w:World) (hL:Laid9 w) (hv:ReadsR off w w.heap.size v l):Calls Tryz.prog 12 #[v] w fun e w' =>
  Below w.heap.size w w'∧(((tableR prC l).2=0∧∃ t,e=.returned (.tuple #[t,.int .i64 0,.int .i64 0])∧IsT w' t l w.heap.size w'.heap.size)∨((tableR prC l).2≠0∧e=.returned (.tuple #[.pointer none,.int .i64 (tableR prC l).1,.int .i64 (((tableR prC l).2:Nat):Int)]))):=by
 obtain⟨z,y,hr⟩:∃ z y,tableR prC l=(z,y):=⟨_,_,rfl⟩
 have HT:=Lib.hid (table9_at v l off (by omega) hf hcp (z,y) hr w hL.1 hL.2 hv)
 have HACC:=Lib.hid (fun(h:y=0)=>(table_acc (pr:=prC) l).1 (by rw[hr];exact h))
 rw[hr]
 clear hr
 have HF:=Lib.hid hf
 have HV:=Lib.hid hv
 obtain⟨A,c,rfl,-⟩:=hv
 clear hf hcp hL
 have hmm:=@run_makeMap Tryz.prog
 obtain⟨nl,hnl⟩:∃ nl,l.length=nl:=⟨_,rfl⟩
 rw[hnl]at HV HT hl ⊢
 have HNL:=Lib.hid hnl
 clear hnl
 go_enter Tryz.func12,Tryz.ntmps12
 go_wp2_with fail
 refine HT.out.mono ?_
 rintro e w1 ⟨rfl,hb1⟩
 have HB1:=Lib.hid hb1
 clear hb1
 by_cases hy:y=0
 case neg =>
  have ty:((y:Int) != 0)=true:=by rw[bne,beq_eq_false_iff_ne.2 (by omega)];rfl
  have HY:=Lib.hid hy
  clear hy
  go_wp2
  refine bodyPost_ret (v:=.tuple #[.pointer none,.int .i64 z,.int .i64 (y:Int)]) (by simp[results,Tryz.f12,go_sem]) rfl ?_
  exact⟨HB1.out,.inr ⟨HY.out,rfl⟩⟩
 case pos =>
 subst hy
 have hAcc:=HACC.out rfl
 have HA:=Lib.hid hAcc.apart
 clear hAcc HACC
 go_wp2
 have h0:=Made.start HB1.out
 generalize ((w1.alloc (.map #[] 0)).alloc (.map #[] 0)).alloc (.cells #[.slice none 0 0,.map none,.map none,.map none,.map none,.map none,.map none,.map (some w1.heap.size),.map (some (w1.heap.size+1))] 72)=w2 at h0 ⊢
 generalize w1.heap.size+1+1=T at h0 ⊢
 generalize w1.heap.size+1=fo at h0
 generalize w1.heap.size=wo at h0
 have H0:=Lib.hid h0
 clear h0
 go_loopw [21] (fun i wr=>∃ (j:Nat) (S E:Nat→Nat),j≤3∧i=.int .i64 (j:Int)∧Made w wr T S E wo fo j) (fun i _=>3 - (intOf i).toNat)
 case atStart=>exact⟨0,_,_,by omega,rfl,H0.out⟩
 case round =>
  obtain⟨j,S,E,hj,rfl,hM⟩:=hrel
  have HM:=Lib.hid hM
  by_cases hlt:j<3
  ·have hq1:(0:Int)≤(j:Int):=by omega
   have hq2:(j:Int)<3:=by omega
   clear hM
   go_wp2
   go_region_law
    ((go_simp;go_at_call 36;refine(newPaths_at _).mono ?_;rintro e w3 ⟨Sj,Ej,rfl,n1,n2,n3,n4,n5,n6⟩;have nb:Below wr.heap.size wr w3:=(Below.refl wr.heap.size wr).drew.trans n4;obtain⟨k1,k2,k3,k4⟩:=Made.later HM.out hlt nb;have HN:=Lib.hid (show wr.heap.size≤Sj∧Sj<Ej∧Ej<w3.heap.size∧Below wr.heap.size wr w3∧StepsIs w3 Sj 0 (fun _=>none)∧EndsIs w3 Ej 0 (fun _=>none) from ⟨n1,n2,n3,nb,n5,n6⟩);clear n1 n2 n3 n4 n5 n6 nb;unfold pathsV))
   all_goals
    clear k1 k2 k3 k4
    go_wp2
    obtain⟨n1,n2,n3,n4,n5,n6⟩:=HN.out
    exact⟨⟨j+1,_,_,by omega,by go_num,HM.out.on hlt n4 n1 n2 n3 n5 n6⟩,by simp[intOf];omega⟩
  ·obtain rfl:j=3:=by omega
   have hH:=hM.done l
   have HBW:=Lib.hid hM.below
   have HO:=Lib.hid hH.ord
   have HH:=Lib.hid hH
   clear hM hH HM
   go_wp2
   go_loopw [33] (fun i wr=>∃ (k:Nat) (R:Value),k≤nl∧i=.int .i64 (k:Int)∧Holds wr w.heap.size ⟨T,wo,fo,S,E⟩ R l k∧Below w.heap.size w wr) (fun i _=>nl - (intOf i).toNat)
   case atStart=>exact⟨0,_,by omega,rfl,HH.out,HBW.out⟩
   case round =>
    obtain⟨k,R,hk,rfl,hH,hB⟩:=hrel
    by_cases hlt:k<nl
    ·obtain⟨x,hx⟩:∃ x,l[k]?=some x:=⟨_,List.getElem?_eq_getElem (by rw[HNL.out];exact hlt)⟩
     have hvr:=HV.out.below hB
     obtain⟨A',c',e,hA⟩:=hvr
     injection e with e1 e2 e3
     subst e1
     obtain⟨g,rfl,-,hg⟩:=hA (by rw[HNL.out];omega)
     obtain⟨g0,g1,g2,g3,g4⟩:=rcell hg k x hx
     have hlo:w.heap.size≤wr.heap.size:=hB.size
     have HHn:=Lib.hid (show Holds (wr.alloc (.cells #[.int .i64 x.what,.string (bytesOf x.left),.string (bytesOf x.cells),.int .i64 x.prio,.int .i64 x.line] 50)) w.heap.size ⟨T,wo,fo,S,E⟩ R l k from hH.kept (Kept.of_below ((Below.refl wr.heap.size wr).alloc (Nat.le_refl _) _) (Nat.le_refl _)) hH.top (fun g hg=>(hH.own.lt g hg).2))
     have HBn:=Lib.hid (hB.alloc hlo (.cells #[.int .i64 x.what,.string (bytesOf x.left),.string (bytesOf x.cells),.int .i64 x.prio,.int .i64 x.line] 50))
     have HADD:=Lib.hid (fun W hW=>tadd_at ⟨T,wo,fo,S,E⟩ R l k w.heap.size x HA.out (by rw[HNL.out];exact hl) HF.out hx W hW)
     have k1:(0:Int)≤(k:Int):=by omega
     have k2:(k:Int)<(nl:Int):=by omega
     simp only[aggR]at HADD
     obtain⟨xq,xl,xc,xp,xn⟩:=x
     simp only[]at g0 g1 g2 g3 g4 HADD HHn HBn
     generalize bytesOf xl=L at g1 HADD HHn HBn
     generalize bytesOf xc=C at g2 HADD HHn HBn
     clear hA hg hH hB hx e2 e3
     go_wp2_with (go_at_call 37;refine(HADD.out _ HHn.out).mono ?_;rintro e w5 ⟨rfl,⟨R5,h5⟩,hb5⟩)
     exact⟨⟨k+1,R5,hlt,by go_num,h5,HBn.out.trans hb5⟩,by simp[intOf];omega⟩
    ·obtain rfl:k=nl:=by omega
     have HH2:=Lib.hid hH
     have HB2:=Lib.hid hB
     clear hH hB
     go_wp2
     refine bodyPost_ret (v:=.tuple #[.pointer (some ⟨T,0,none⟩),.int .i64 0,.int .i64 0]) (by simp[results,Tryz.f12,go_sem]) rfl ?_
     have h:=HH2.out
     exact⟨HB2.out,_,rfl,⟨T,wo,fo,S,E⟩,R,rfl,by rw[HNL.out];exact h,Nat.le_refl _,h.top,fun g hg=>(h.own.lt g hg).2⟩
end Go.Proofs.YtlgejmcihchngaaGreatDoor.Ti
namespace Go.Proofs.YtlgejmcihchngaaGreatDoor.Ti
open Go.RowKit Go.Maps Ba Ru Ck
theorem isT_ptr {w:World} {t:Value} {l:List Rl} {lo hi:Nat} (h:IsT w t l lo hi):(∃ a,t=.pointer (some a))∧hi≤w.heap.size:=by
 obtain⟨v,R,h1,-,h3,-,-⟩:=h
 exact⟨⟨_,h1⟩,h3⟩
def tlands:TLands where
 Is:=IsT
 keep:=fun h k=>h.keep k
 ptr:=fun h=>isT_ptr h
 new:=fun v l off h1 h2 h3 w h4 h5=>tnew_at v l off h1 h2 h3 w h4 h5
 word:=fun S h1 _ _ _ w _ H=>tword_at S h1 w H
 find:=fun q S h1 h2 _ _ _ w _ H=>(tfind_at q S h1 h2 w H).mono fun _ _ h=>⟨h.1,by rw[h.2];exact Below.refl _ _⟩
 sign:=fun S h1 h2 _ _ w _ H=>(tsign_at S h1 h2 w H).mono fun _ _ h=>⟨h.1,by rw[h.2];exact Below.refl _ _⟩
 rules:=fun h1 _ _ w _ H=>trules_at h1 w H
end Go.Proofs.YtlgejmcihchngaaGreatDoor.Ti
