/-
  Put together: TsD, TsE.
-/
import Derived.Test.YtgpihfacmpbpaaaGreatDoorTsC
import Derived.StillTailTactics
import Derived.Laws.OwnMore
namespace Go.Proofs.YtgpihfacmpbpaaaGreatDoor.Tr
open Go.RowKit
structure Fr (P L:Nat) (w w':World):Prop where
 os:w'.os=w.os
 tape:w'.tape=w.tape
 output:w'.output=w.output
 size:w.heap.size≤w'.heap.size
 block:∀ k,k<w.heap.size→k≠P→k≠L→w'.heap[k]?=w.heap[k]?
 tail:∀ i,5≤i→w'.cell? ⟨P,i,none⟩=w.cell? ⟨P,i,none⟩
theorem Fr.refl (P L:Nat) (w:World):Fr P L w w:=⟨rfl,rfl,rfl,Nat.le_refl _,fun _ _ _ _=>rfl,fun _ _=>rfl⟩
theorem Fr.trans {P L L':Nat} {a b c:World} (h:Fr P L a b) (k:Fr P L' b c) (hL:L'=L∨a.heap.size≤L'):Fr P L a c :=
 ⟨k.os.trans h.os,k.tape.trans h.tape,k.output.trans h.output,Nat.le_trans h.size k.size,
  fun i hi h1 h2=>(k.block i (Nat.lt_of_lt_of_le hi h.size) h1 (by rcases hL with e | e<;>omega)).trans (h.block i hi h1 h2),fun i hi=>(k.tail i hi).trans (h.tail i hi)⟩
theorem Fr.drewN {P L:Nat} {a b:World} (h:Fr P L a b) (k:Nat):Fr P L a (b.drewN k):=⟨h.os,h.tape,h.output,h.size,h.block,h.tail⟩
theorem Fr.KL {P L:Nat} {a b:World} {k:Nat} (h:Fr P L (a.drewN k) b):Fr P L a b:=⟨h.os,h.tape,h.output,h.size,h.block,h.tail⟩
theorem Fr.below {P L B:Nat} {a b:World} (h:Fr P L a b) (h1:B≤P) (h2:B≤L) (h3:B≤a.heap.size):Below B a b :=
 ⟨h.os,h.tape,h.output,h.size,fun k hk=>h.block k (by omega) (by omega) (by omega)⟩
theorem dI.tR {w:World} {N P M n L:Nat} {o:St} (h:dI w N P M n L o):L<w.heap.size∧N≤L:=by
 obtain⟨cap,_,r3⟩:=h.row
 obtain⟨h1,h2⟩:=r3.lt L rfl
 exact⟨h2,h1⟩
theorem dI.nP {w:World} {N P M n L:Nat} {o:St} (h:dI w N P M n L o):P<w.heap.size:=World.block_lt_of_cell? w ⟨P,0,none⟩ h.c0
theorem dI.put {w:World} {N P M n L:Nat} {o:St} (h:dI w N P M n L o) {i j:Nat} {b b':Lv} (hb:o.lv[i]?=some b) (hj:j<8) (v:Value) (hv:(cL b).set j v=cL b') (hk:b'.kind=b.kind) :
  dI (w.setCell ⟨L,i * 8+j,none⟩ v) N P M n L { o with lv:=o.lv.set i b' }∧Fr P L w (w.setCell ⟨L,i * 8+j,none⟩ v):=by
 obtain⟨cap,r1,r2⟩:=h.row
 have hne:=h.o4
 have hblk:∀ k,k≠L→(w.setCell ⟨L,i * 8+j,none⟩ v).heap[k]?=w.heap[k]?:=fun k hk=>Below.heap_setCell w _ v k hk
 have hc:∀ q,(w.setCell ⟨L,i * 8+j,none⟩ v).cell? ⟨P,q,none⟩=w.cell? ⟨P,q,none⟩:=fun q=>World.cell?_of_block (w:=w) (hblk P (Ne.symm hne))
 have hi:i<o.lv.length:=(List.getElem?_eq_some_iff.1 hb).1
 refine⟨⟨(hc 0).trans h.c0,⟨cap,?_,?_⟩,(hc 2).trans h.c2,(hc 3).trans h.c3,(hc 4).trans h.c4,fun q=>(World.frozen?_of_block (w:=w) (hblk P (Ne.symm hne))).trans (h.fz q),h.map.aX (hblk M (Ne.symm h.xV)),by simpa using h.pos,?_,?_,h.zE,h.o4,h.xV,h.uN⟩,?_⟩
 ·rw[List.length_set];exact(hc 1).trans r1
 ·rw[List.length_set,← Ba.gS cL NP o.lv i b b' hb j v hj hv]
  exact(r2.stored _ _).1
 ·rw[List.getD_eq_getElem?_getD,List.getElem?_set]
  by_cases h0:i=0
  ·subst h0
   rw[if_pos rfl,if_pos hi]
   have:=h.head
   rw[fZ hb]at this
   simpa[hk] using this
  ·rw[if_neg h0,← List.getD_eq_getElem?_getD];exact h.head
 ·intro c hc'
  rcases List.mem_or_eq_of_mem_set hc' with h1 | h1
  ·exact h.small c h1
  ·subst h1;rw[hk];exact h.small b (List.mem_of_getElem? hb)
 ·exact⟨rfl,rfl,rfl,(KeepsOthers.setCell w _ v).size,fun k hk h1 h2=>hblk k h2,fun q _=>hc q⟩
theorem dI.own {w:World} {N P M n L:Nat} {o:St} (h:dI w N P M n L o) (j:Nat) (hj:2≤j) (v:Value) :
  (∀ q,q≠j→(w.setCell ⟨P,j,none⟩ v).cell? ⟨P,q,none⟩=w.cell? ⟨P,q,none⟩)∧(∀ q,(w.setCell ⟨P,j,none⟩ v).frozen? ⟨P,q,none⟩=false) ∧
  (∃ cap,(w.setCell ⟨P,j,none⟩ v).cell? ⟨P,1,none⟩=some (.slice (some ⟨L,0,none⟩) o.lv.length cap)∧(w.setCell ⟨P,j,none⟩ v).ownsRow N 110 8 (.slice (some ⟨L,0,none⟩) o.lv.length cap) o.lv.length (Ba.rows cL o.lv)) ∧
  Ts.iE (w.setCell ⟨P,j,none⟩ v) M n rk∧(j<5→Fr P L w (w.setCell ⟨P,j,none⟩ v)):=by
 obtain⟨cap,r1,r2⟩:=h.row
 have hblk:∀ k,k≠P→(w.setCell ⟨P,j,none⟩ v).heap[k]?=w.heap[k]?:=fun k hk=>Below.heap_setCell w _ v k hk
 have hc:∀ q,q≠j→(w.setCell ⟨P,j,none⟩ v).cell? ⟨P,q,none⟩=w.cell? ⟨P,q,none⟩:=fun q hq=>World.cell?_setCell_other _ _ _ _ (fun e=>by injection e with _ e _;omega)
 refine⟨hc,fun q=>by rw[World.frozen?_setCell];exact h.fz q,⟨cap,(hc 1 (by omega)).trans r1,Ba.iT r2 v (fun e=>h.o4 (by simpa[Value.ownBlock] using e))⟩,h.map.aX (hblk M h.uN),fun h5=>⟨rfl,rfl,rfl,(KeepsOthers.setCell w _ v).size,fun k hk h1 h2=>hblk k h1,fun q hq=>hc q (by omega)⟩⟩
theorem dI.XN {w:World} {N P M n L:Nat} {o:St} (h:dI w N P M n L o) (k:Nat):dI (w.setCell ⟨P,2,none⟩ (.int .i64 (k:Int))) N P M n L { o with nodes:=k }∧Fr P L w (w.setCell ⟨P,2,none⟩ (.int .i64 (k:Int))):=by
 obtain⟨a,b,c,d,e⟩:=h.own 2 (by omega) (.int .i64 (k:Int))
 exact⟨⟨(a 0 (by omega)).trans h.c0,c,World.cell?_setCell_same' _ _ _ (by rw[h.c2];rfl),(a 3 (by omega)).trans h.c3,(a 4 (by omega)).trans h.c4,b,d,h.pos,h.head,h.small,h.zE,h.o4,h.xV,h.uN⟩,e (by omega)⟩
theorem dI.aAY {w:World} {N P M n L:Nat} {o:St} (h:dI w N P M n L o) (k:Bool):dI (w.setCell ⟨P,3,none⟩ (.bool k)) N P M n L { o with deep:=k }∧Fr P L w (w.setCell ⟨P,3,none⟩ (.bool k)):=by
 obtain⟨a,b,c,d,e⟩:=h.own 3 (by omega) (.bool k)
 exact⟨⟨(a 0 (by omega)).trans h.c0,c,(a 2 (by omega)).trans h.c2,World.cell?_setCell_same' _ _ _ (by rw[h.c3];rfl),(a 4 (by omega)).trans h.c4,b,d,h.pos,h.head,h.small,h.zE,h.o4,h.xV,h.uN⟩,e (by omega)⟩
theorem dI.PN {w:World} {N P M n L:Nat} {o:St} (h:dI w N P M n L o) (k:Bool):dI (w.setCell ⟨P,4,none⟩ (.bool k)) N P M n L { o with fM:=k }∧Fr P L w (w.setCell ⟨P,4,none⟩ (.bool k)):=by
 obtain⟨a,b,c,d,e⟩:=h.own 4 (by omega) (.bool k)
 exact⟨⟨(a 0 (by omega)).trans h.c0,c,(a 2 (by omega)).trans h.c2,(a 3 (by omega)).trans h.c3,World.cell?_setCell_same' _ _ _ (by rw[h.c4];rfl),b,d,h.pos,h.head,h.small,h.zE,h.o4,h.xV,h.uN⟩,e (by omega)⟩
theorem dI.v7 {w:World} {N P M n L:Nat} {o:St} (h:dI w N P M n L o) (j:Nat):w.frozen? ⟨L,j,none⟩=false:=by
 obtain⟨cap,_,r⟩:=h.row
 exact r.frozenAt j
theorem mW {α:Type} {l:List α} {i:Nat} {b:α} (hb:l[i]?=some b) (f:α→α):l.set i (f b)=l.modify i f:=by
 apply List.ext_getElem?
 intro j
 rw[List.getElem?_set,List.getElem?_modify]
 by_cases h:i=j
 ·subst h
  rw[if_pos rfl,if_pos (List.getElem?_eq_some_iff.1 hb).1,hb];simp
 ·rw[if_neg h]
  cases l[j]?<;>simp[h]
theorem Fr.of_heap {P L:Nat} {a b c:World} (h:Fr P L a b) (hh:c.heap=b.heap) (h1:c.os=a.os) (h2:c.tape=a.tape) (h3:c.output=a.output):Fr P L a c :=
 ⟨h1,h2,h3,by rw[hh];exact h.size,fun k x y z=>by rw[hh];exact h.block k x y z,fun i hi=>(World.cell?_of_block (by rw[hh])).trans (h.tail i hi)⟩
def oneMore (b:Lv):Lv:={ b with parts:=b.parts+1 }
def lQ (o:St) (m:Nat) (b:Lv):St:={ o with lv:=o.lv.set m (oneMore b) }
theorem jZ {o:St} {m:Nat} {b:Lv} (hb:o.lv[m]?=some b):(lQ o m b).lv[m]?=some (oneMore b):=by
 show (o.lv.set m _)[m]?=_
 rw[List.getElem?_set_self (List.getElem?_eq_some_iff.1 hb).1]
theorem S3 {w1:World} {N P M n L:Nat} {o:St} (h1:dI w1 N P M n L o) {m:Nat} {b:Lv} (hb:o.lv[m]?=some b) {pp:Nat} (hpp:b.parts=pp) :
  dI (w1.setCell ⟨L,m * 8+3,none⟩ (.int .i64 ((pp:Int)+1))) N P M n L (lQ o m b)∧Fr P L w1 (w1.setCell ⟨L,m * 8+3,none⟩ (.int .i64 ((pp:Int)+1))):=by
 subst hpp
 exact h1.put hb (j:=3) (by omega) (.int .i64 ((b.parts+1:Nat):Int)) (b':=oneMore b) rfl rfl
theorem ER {w2:World} {N P M n L:Nat} {o:St} {m:Nat} {b:Lv} (h2:dI w2 N P M n L (lQ o m b)) (hm:o.lv.length=m+1) (hb:o.lv[m]?=some b) {k r nn:Nat} {mu:Bool} (hr:rk b.kind k=r) (hn:o.nodes=nn) (hmu:o.fM=mu)
  (c:Bool) (hc:(mu || decide (2000<nn+1))=c) (W:World) (hW:W.heap=(((w2.setCell ⟨L,m * 8+4,none⟩ (.int .i64 (r:Int))).setCell ⟨P,2,none⟩ (.int .i64 ((nn:Int)+1))).setCell ⟨P,4,none⟩ (.bool c)).heap) (e1:W.os=w2.os) (e2:W.tape=w2.tape) (e3:W.output=w2.output) :
  dI W N P M n L (bB o k)∧Fr P L w2 W:=by
 subst hr;subst hn;subst hmu;subst hc
 have p2:=h2.put (jZ hb) (j:=4) (by omega) (.int .i64 ((rk b.kind k:Nat):Int)) (b':=fY k b) rfl rfl
 have hset:(lQ o m b).lv.set m (fY k b)=o.lv.modify m (fY k):=by unfold lQ;rw[List.set_set];exact mW hb _
 simp only[hset]at p2
 have p3:=p2.1.XN (o.nodes+1)
 have p4:=p3.1.PN (o.fM || decide (2000<o.nodes+1))
 have hml:m=o.lv.length - 1:=by omega
 have hfr:=(p2.2.trans p3.2 (.inl rfl)).trans p4.2 (.inl rfl)
 refine⟨?_,hfr.of_heap hW e1 e2 e3⟩
 unfold bB;rw[← hml];exact p4.1.of_heap hW
theorem dI.aDH {W:World} {N P M n L:Nat} {o:St} (h:dI W N P M n L o) {m:Nat} {b:Lv} (hb:o.lv[m]?=some b) {k q r:Nat} (hk:k<256) (hq:b.kind=q) (hr:rk q k=r) :
  W.cell? ⟨P,0,none⟩=some (.map (some M))∧W.cell? ⟨L,m * 8,none⟩=some (.int .u8 (q:Int))∧(Instr.lookup 61 (.map (some M)) (.agg #[.int .u8 (q:Int),.int .u8 (k:Int)]) false).run Tryz.prog W=.ok (.int .i64 (r:Int)) W:=by
 subst hq;subst hr
 exact⟨h.c0,(h.at hb).1,h.map.look (h.small b (List.mem_of_getElem? hb)) hk⟩
theorem KM {w2:World} {N P M n L:Nat} {o:St} {m:Nat} {b:Lv} (h2:dI w2 N P M n L (lQ o m b)) (hb:o.lv[m]?=some b) {k q r:Nat} (hk:k<256) (hq:b.kind=q) (hr:rk q k=r) :
  (w2.setCell ⟨L,m * 8+4,none⟩ (.int .i64 (r:Int))).drew.cell? ⟨P,0,none⟩=some (.map (some M))∧(w2.setCell ⟨L,m * 8+4,none⟩ (.int .i64 (r:Int))).drew.cell? ⟨L,m * 8,none⟩=some (.int .u8 (q:Int)) ∧
  (Instr.lookup 61 (.map (some M)) (.agg #[.int .u8 (q:Int),.int .u8 (k:Int)]) false).run Tryz.prog (w2.setCell ⟨L,m * 8+4,none⟩ (.int .i64 (r:Int))).drew=.ok (.int .i64 (r:Int)) (w2.setCell ⟨L,m * 8+4,none⟩ (.int .i64 (r:Int))).drew:=by
 subst hr;subst hq
 have p2:=(h2.put (jZ hb) (j:=4) (by omega) (.int .i64 ((rk b.kind k:Nat):Int)) (b':=fY k b) rfl rfl).1
 refine(p2.of_heap (w':=(w2.setCell ⟨L,m * 8+4,none⟩ (.int .i64 ((rk b.kind k:Nat):Int))).drew) rfl).aDH (m:=m) (b:=fY k b) ?_ hk rfl rfl
 show ((lQ o m b).lv.set m _)[m]?=_
 rw[List.getElem?_set_self (List.getElem?_eq_some_iff.1 (jZ hb)).1]
set_option maxRecDepth 100000 in
set_option maxHeartbeats 4000000 in
theorem sE {w:World} {N P M n L:Nat} {o:St} (h:dI w N P M n L o) (k:Nat) (hk:k<256) (z:Int) (hz:(k:Int)=z) (hp:(aT o.lv).parts<4611686018427387904) (hn:o.nodes<4611686018427387904) :
  Calls Tryz.prog 100 #[.pointer (some ⟨P,0,none⟩),.int .u8 z] w fun e w'=>e=.returned (.tuple #[])∧dI w' N P M n L (bB o k)∧Fr P L w w':=by
 obtain⟨m,hm⟩:=h.len
 obtain⟨b,hb⟩:=dM (l:=o.lv) (i:=m) (by omega)
 have hT:aT o.lv=b:=by unfold aT;rw[hm,Nat.add_sub_cancel];exact fZ hb
 rw[hT]at hp
 subst hz
 have H:=Lib.hid h
 have HM:=Lib.hid hm
 have HB:=Lib.hid hb
 obtain⟨pp,hpp⟩:∃ pp,b.parts=pp:=⟨_,rfl⟩
 obtain⟨q,hq⟩:∃ q,b.kind=q:=⟨_,rfl⟩
 obtain⟨r,hr⟩:∃ r,rk q k=r:=⟨_,rfl⟩
 obtain⟨nn,hnn⟩:∃ nn,o.nodes=nn:=⟨_,rfl⟩
 obtain⟨mu,hmu⟩:∃ mu,o.fM=mu:=⟨_,rfl⟩
 have HPP:=Lib.hid hpp
 have HQ:=Lib.hid hq
 have HR:=Lib.hid hr
 have HNN:=Lib.hid hnn
 have HMU:=Lib.hid hmu
 rw[hpp]at hp
 rw[hnn]at hn
 clear hm h hT hb hpp hq hr hnn hmu
 cases mu
 all_goals
  go_enter Tryz.func100,Tryz.ntmps100
  go_wp2_with (go_at_call 70;refine(jH H.out m HM.out).mono ?_;rintro e w' ⟨rfl,j,rfl⟩;have h1:=H.out.drewN j;have HF:=Lib.hid ((Fr.refl P L w).drewN j);generalize w.drewN j=w1 at h1 HF;have b3:=(h1.at HB.out).2.2.2.1;rw[HPP.out]at b3;have f1:=h1.v7;replace h1:=Lib.hid h1)
  have h2:=S3 h1.out HB.out HPP.out
  generalize w1.setCell ⟨L,m * 8+3,none⟩ (.int .i64 ((pp:Int)+1))=w2 at h2
  obtain⟨h2,hf2⟩:=h2
  have HF2:=Lib.hid (HF.out.trans hf2 (.inl rfl))
  clear b3 f1 hf2
  have b4:=(h2.at (jZ HB.out)).2.2.2.2.1
  have c2:=h2.c2
  have c4:=h2.c4
  have f0:=h2.fz
  have f1:=h2.v7
  have HS1:=Lib.hid (h2.aDH (jZ HB.out) hk (q:=q) (by rw[← HQ.out];rfl) HR.out)
  have HS2:=Lib.hid ((h2.of_heap (w':=w2.drew) rfl).aDH (jZ HB.out) hk (q:=q) (by rw[← HQ.out];rfl) HR.out)
  have HS3:=Lib.hid (KM h2 HB.out hk HQ.out HR.out)
  simp only[oneMore,lQ]at b4 c2 c4
  rw[HNN.out]at c2
  rw[HMU.out]at c4
  have hne:=h2.o4
  replace h2:=Lib.hid h2
  obtain⟨t,ht⟩:∃ t,b.rank=t:=⟨_,rfl⟩
  rw[ht]at b4
  clear ht
  go_region_held3 (fun w'=>w'.cell? ⟨P,0,none⟩=some (.map (some M))∧w'.cell? ⟨L,m * 8,none⟩=some (.int .u8 (q:Int))∧(Instr.lookup 61 (.map (some M)) (.agg #[.int .u8 (q:Int),.int .u8 (k:Int)]) false).run Tryz.prog w'=.ok (.int .i64 (r:Int)) w')
   (first | exact HS2.out | exact HS3.out | exact HS1.out) (first | fail)
  go_wp2
  go_end0
 ·have hfin:=ER h2.out HM.out HB.out (k:=k) (r:=r) (by rw[HQ.out];exact HR.out) HNN.out HMU.out (decide ((2000:Int)<(nn:Int)+1)) (by rw[Bool.false_or];exact decide_eq_decide.2 (by omega)) _ rfl rfl rfl rfl
  exact⟨rfl,hfin.1.of_heap rfl,HF2.out.trans (hfin.2.of_heap rfl rfl rfl rfl) (.inl rfl)⟩
 ·have hfin:=ER h2.out HM.out HB.out (k:=k) (r:=r) (by rw[HQ.out];exact HR.out) HNN.out HMU.out true rfl _ rfl rfl rfl rfl
  exact⟨rfl,hfin.1.of_heap rfl,HF2.out.trans (hfin.2.of_heap rfl rfl rfl rfl) (.inl rfl)⟩
end Go.Proofs.YtgpihfacmpbpaaaGreatDoor.Tr
namespace Go.Proofs.YtgpihfacmpbpaaaGreatDoor.Tr
open Go.RowKit
theorem tS {l l':List Lv} (h:∀ i,(l'.getD i fN).kind=(l.getD i fN).kind) (k:Nat):∀ n,gR l' k n=gR l k n
 | 0=>rfl
 | n+1=>by unfold gR;rw[h n,tS h k n]
theorem KN (l:List Lv) (j:Nat) (f:Lv→Lv) (hf:∀ b,(f b).kind=b.kind) (i:Nat):((l.modify j f).getD i fN).kind=(l.getD i fN).kind:=by
 rw[getD_modify];split<;>simp[hf]
theorem v8 (o:St) (k q:Nat):cX (bB o k).lv q=cX o.lv q:=by
 unfold cX bB
 simp only[List.length_modify]
 exact tS (KN _ _ (fY k) fun _=>rfl) _ _
theorem CL {l:List Lv} {k i:Nat}:∀ n,gR l k n=some i→i<n
 | 0=>fun h=>by cases h
 | n+1=>fun h=>by
  unfold gR at h
  split at h
  ·split at h
   ·cases h;omega
   ·have:=CL n h;omega
  ·cases h
def CM (o:St) (i:Nat) (b:Lv) (c:Nat):St:=if b.lW=0 then { o with lv:=o.lv.set i (oZ c b) } else o
set_option maxHeartbeats 4000000 in
theorem aAZ {w:World} {N P M n L:Nat} {o:St} (h:dI w N P M n L o) {i:Nat} {b:Lv} (hb:o.lv[i]?=some b) (c:Nat) (v:Bool) (hv:(b.lW==0 || b.lW==c)=v) :
  Calls Tryz.prog 101 #[.pointer (some ⟨L,i * 8,none⟩),.int .i64 (c:Int)] w fun e w'=>e=.returned (.bool v)∧dI w' N P M n L (CM o i b c)∧Fr P L w w':=by
 obtain⟨-,-,-,-,-,b5,-,-⟩:=h.at hb
 have f1:=h.v7
 obtain⟨q,hq⟩:∃ q,b.lW=q:=⟨_,rfl⟩
 rw[hq]at b5 hv
 by_cases h0:q=0
 ·have hfin:=h.put hb (j:=5) (by omega) (.int .i64 (c:Int)) (b':=oZ c b) rfl rfl
  have HFIN:=Lib.hid (show dI _ N P M n L (CM o i b c)∧_ by unfold CM;rw[if_pos (hq.trans h0)];exact hfin)
  have HV:=Lib.hid (show true=v by rw[← hv,h0];rfl)
  subst h0
  clear h hb hq hv hfin
  go_enter Tryz.func101,Tryz.ntmps101
  go_wp2
  go_ret
  exact⟨Ba.aC HV.out,HFIN.out⟩
 ·have HFIN:=Lib.hid (show dI w N P M n L (CM o i b c) by unfold CM;rw[if_neg (by rw[hq];exact h0)];exact h)
  have t1:((q:Int)==0)=false:=fD h0
  have HV:=Lib.hid (show ((q:Int)==(c:Int))=v by
   rw[← hv,show (q==0)=false from beq_eq_false_iff_ne.2 h0,Bool.false_or]
   by_cases e:q=c
   ·subst e;simp
   ·rw[fD e];exact(beq_eq_false_iff_ne.2 e).symm)
  clear h hb hq hv h0
  go_enter Tryz.func101,Tryz.ntmps101
  go_wp2
  go_ret
  exact⟨Ba.aC HV.out,HFIN.out,Fr.refl _ _ _⟩
theorem aDI {w:World} {N P M n L:Nat} {o:St} (h:dI w N P M n L o) (nb:Nat) (hv:fR o.lv 46=false) :
  Calls Tryz.prog 68 #[.pointer (some ⟨P,0,none⟩),.int .i64 (nb:Int)] w fun e w'=>e=.returned (.bool false)∧∃ j,w'=w.drewN j:=by
 have H:=Lib.hid h
 have HV:=Lib.hid hv
 clear h hv
 go_enter Tryz.func68,Tryz.ntmps68
 go_wp2_with (go_at_call 64;refine(qD H.out 46 (by decide) 46 rfl false HV.out).mono ?_;rintro e w' ⟨rfl,j,rfl⟩)
 go_ret
 exact⟨rfl,_,rfl⟩
theorem PO {w2:World} {N P M n L:Nat} {o:St} (h2:dI w2 N P M n L (bB o 46)) {i:Nat} {b:Lv} (hi:cX o.lv 110=some i) (hb:(bB o 46).lv[i]?=some b) {nb t:Nat} {mu:Bool} (ht:b.bytes=t) (hmu:(bB o 46).fM=mu)
  (c:Bool) (hc:(mu || decide (60<t+nb))=c) (W:World) (hW:W.heap=((w2.setCell ⟨L,i * 8+7,none⟩ (.int .i64 ((t:Int)+(nb:Int)))).setCell ⟨P,4,none⟩ (.bool c)).heap) (e1:W.os=w2.os) (e2:W.tape=w2.tape) (e3:W.output=w2.output) :
  dI W N P M n L (kP o nb)∧Fr P L w2 W:=by
 subst ht;subst hmu;subst hc
 have p2:=h2.put hb (j:=7) (by omega) (.int .i64 ((b.bytes:Int)+(nb:Int))) (b':=lB nb b) (by simp[cL,lB]) rfl
 rw[mW hb]at p2
 have p4:=p2.1.PN ((bB o 46).fM || decide (60<b.bytes+nb))
 refine⟨?_,(p2.2.trans p4.2 (.inl rfl)).of_heap hW e1 e2 e3⟩
 have hD:(o.lv.getD i fN).bytes=b.bytes:=by
  have h1:((bB o 46).lv.getD i fN).bytes=b.bytes:=by rw[fZ hb]
  rw[← h1]
  unfold bB
  simp only[]
  rw[getD_modify]
  split<;>rfl
 unfold kP
 rw[hi]
 simp only[hD]
 exact p4.1.of_heap hW
set_option maxHeartbeats 4000000 in
theorem PQ {w:World} {N P M n L:Nat} {o:St} (h:dI w N P M n L o) (nb:Nat) (hv:fR o.lv 46=true) (hp:(aT o.lv).parts<4611686018427387904) (hn:o.nodes<4611686018427387904)
  (hbs:nb<4611686018427387904∧∀ b ∈ o.lv,b.bytes<4611686018427387904) :
  Calls Tryz.prog 68 #[.pointer (some ⟨P,0,none⟩),.int .i64 (nb:Int)] w fun e w'=>e=.returned (.bool true)∧dI w' N P M n L (kP o nb)∧Fr P L w w':=by
 have H:=Lib.hid h
 have HV:=Lib.hid hv
 obtain⟨hnb,hbs⟩:=hbs
 cases hwi:cX o.lv 110 with
 | none =>
  have HW:=Lib.hid ((v8 o 46 110).trans hwi)
  have HS:=Lib.hid (show kP o nb=bB o 46 by unfold kP;rw[hwi])
  clear h hv hwi hbs
  go_enter Tryz.func68,Tryz.ntmps68
  go_wp2_with (first
   |(go_at_call 64;refine(qD H.out 46 (by decide) 46 rfl true HV.out).mono ?_;rintro e w' ⟨rfl,j,rfl⟩;have h1:=H.out.drewN j;have HF:=Lib.hid ((Fr.refl P L w).drewN j);generalize w.drewN j=w1 at h1 HF;replace h1:=Lib.hid h1)
   |(go_at_call 100;refine(sE h1.out 46 (by decide) 46 rfl hp hn).mono ?_;rintro e w2 ⟨rfl,h2,hf2⟩;replace h2:=Lib.hid h2;replace hf2:=Lib.hid (HF.out.trans hf2 (.inl rfl)))
   |(go_at_call 97;refine(tD h2.out 110 none HW.out).mono ?_;rintro e w3 ⟨rfl,rfl⟩;dsimp only[NQ]))
  go_ret
  exact⟨rfl,by rw[HS.out];exact h2.out,hf2.out⟩
 | some i =>
  have hil:i<(bB o 46).lv.length:=by
   have:=CL _ hwi
   unfold bB;simp only[List.length_modify];exact this
  obtain⟨b,hb⟩:=dM hil
  have hbb:b.bytes<4611686018427387904:=by
   have h1:(bB o 46).lv[i]?=((o.lv.modify (o.lv.length - 1) (fY 46)))[i]?:=rfl
   rw[hb,List.getElem?_modify]at h1
   cases ho:o.lv[i]? with
   | none=>rw[ho]at h1;cases h1
   | some d =>
    rw[ho]at h1
    have hd:=hbs d (List.mem_of_getElem? ho)
    by_cases e:o.lv.length - 1=i
    ·simp[e]at h1;subst h1;exact hd
    ·simp[e]at h1;subst h1;exact hd
  have HW:=Lib.hid ((v8 o 46 110).trans hwi)
  have HWI:=Lib.hid hwi
  have HB:=Lib.hid hb
  obtain⟨t,ht⟩:∃ t,b.bytes=t:=⟨_,rfl⟩
  obtain⟨mu,hmu⟩:∃ mu,(bB o 46).fM=mu:=⟨_,rfl⟩
  have HT:=Lib.hid ht
  have HMU:=Lib.hid hmu
  rw[ht]at hbb
  clear h hv hwi hbs hil hb ht hmu
  cases mu
  all_goals
   go_enter Tryz.func68,Tryz.ntmps68
   go_wp2_with (first
    |(go_at_call 64;refine(qD H.out 46 (by decide) 46 rfl true HV.out).mono ?_;rintro e w' ⟨rfl,j,rfl⟩;have h1:=H.out.drewN j;have HF:=Lib.hid ((Fr.refl P L w).drewN j);generalize w.drewN j=w1 at h1 HF;replace h1:=Lib.hid h1)
    |(go_at_call 100;refine(sE h1.out 46 (by decide) 46 rfl hp hn).mono ?_;rintro e w2 ⟨rfl,h2,hf2⟩;replace h2:=Lib.hid h2;replace hf2:=Lib.hid (HF.out.trans hf2 (.inl rfl)))
    |(go_at_call 97;refine(tD h2.out 110 (some i) HW.out).mono ?_;rintro e w3 ⟨rfl,rfl⟩;dsimp only[NQ];have b7:=(h2.out.at HB.out).2.2.2.2.2.2.2;rw[HT.out]at b7;have c4:=h2.out.c4;rw[HMU.out]at c4;have f0:=h2.out.fz;have f1:=h2.out.v7;have hne:=h2.out.o4))
   go_ret
  ·have hfin:=PO h2.out HWI.out HB.out (nb:=nb) HT.out HMU.out (decide ((60:Int)<(t:Int)+(nb:Int))) (by rw[Bool.false_or];exact decide_eq_decide.2 (by omega)) _ rfl rfl rfl rfl
   exact⟨rfl,hfin.1.of_heap rfl,hf2.out.trans (hfin.2.of_heap rfl rfl rfl rfl) (.inl rfl)⟩
  ·have hfin:=PO h2.out HWI.out HB.out (nb:=nb) HT.out HMU.out true rfl _ rfl rfl rfl rfl
   exact⟨rfl,hfin.1.of_heap rfl,hf2.out.trans (hfin.2.of_heap rfl rfl rfl rfl) (.inl rfl)⟩
end Go.Proofs.YtgpihfacmpbpaaaGreatDoor.Tr
