/-
  Put together.
-/
import Derived.Test.YthbigkoihpgcfaaGreatDoorTsC
import Derived.StillTailTactics
import Derived.Laws.OwnMore
open Go.Lib (hid)
set_option maxRecDepth 100000
set_option maxHeartbeats 16000000
namespace Go.Proofs.YthbigkoihpgcfaaGreatDoor.Tr
open Go.RowKit
structure Fr (P L:Nat) (w w':World):Prop where
 os:w'.os=w.os
 tape:w'.tape=w.tape
 output:w'.output=w.output
 size:w.heap.size≤w'.heap.size
 block:∀ k,k<w.heap.size→k≠P→k≠L→w'.heap[k]?=w.heap[k]?
 tail:∀ i,5≤i→w'.cell? ⟨P,i,none⟩=w.cell? ⟨P,i,none⟩
theorem Fr.refl (P L:Nat) (w:World):Fr P L w w:=⟨rfl,rfl,rfl,Nat.le_refl _,fun _ _ _ _=>rfl,fun _ _=>rfl⟩
theorem Fr.trans {P L L':Nat} {a b c:World} (h:Fr P L a b) (k:Fr P L' b c) (hL:L'=L∨a.heap.size≤L'):Fr P L a c :=
 ⟨k.os.trans h.os,k.tape.trans h.tape,k.output.trans h.output,Nat.le_trans h.size k.size,
  fun i hi h1 h2=>(k.block i (Nat.lt_of_lt_of_le hi h.size) h1 (by rcases hL with e | e<;>omega)).trans (h.block i hi h1 h2),fun i hi=>(k.tail i hi).trans (h.tail i hi)⟩
theorem Fr.drewN {P L:Nat} {a b:World} (h:Fr P L a b) (k:Nat):Fr P L a (b.drewN k):=⟨h.os,h.tape,h.output,h.size,h.block,h.tail⟩
theorem Fr.K4 {P L:Nat} {a b:World} {k:Nat} (h:Fr P L (a.drewN k) b):Fr P L a b:=⟨h.os,h.tape,h.output,h.size,h.block,h.tail⟩
theorem Fr.below {P L B:Nat} {a b:World} (h:Fr P L a b) (h1:B≤P) (h2:B≤L) (h3:B≤a.heap.size):Below B a b :=
 ⟨h.os,h.tape,h.output,h.size,fun k hk=>h.block k (by omega) (by omega) (by omega)⟩
theorem cU.uB {w:World} {N P M n L:Nat} {o:St} (h:cU w N P M n L o):L<w.heap.size∧N≤L:=by
 obtain⟨cap,_,r3⟩:=h.row
 obtain⟨h1,h2⟩:=r3.lt L rfl
 exact⟨h2,h1⟩
theorem cU.tV {w:World} {N P M n L:Nat} {o:St} (h:cU w N P M n L o):P<w.heap.size:=World.block_lt_of_cell? w ⟨P,0,none⟩ h.c0
theorem cU.put {w:World} {N P M n L:Nat} {o:St} (h:cU w N P M n L o) {i j:Nat} {b b':Lv} (hb:o.lv[i]?=some b) (hj:j<8) (v:Value) (hv:(cL b).set j v=cL b') (hk:b'.kind=b.kind) :
  cU (w.setCell ⟨L,i * 8+j,none⟩ v) N P M n L { o with lv:=o.lv.set i b' }∧Fr P L w (w.setCell ⟨L,i * 8+j,none⟩ v):=by
 obtain⟨cap,r1,r2⟩:=h.row
 have hne:=h.qY
 have hblk:∀ k,k≠L→(w.setCell ⟨L,i * 8+j,none⟩ v).heap[k]?=w.heap[k]?:=fun k hk=>Below.heap_setCell w _ v k hk
 have hc:∀ q,(w.setCell ⟨L,i * 8+j,none⟩ v).cell? ⟨P,q,none⟩=w.cell? ⟨P,q,none⟩:=fun q=>World.cell?_of_block (w:=w) (hblk P (Ne.symm hne))
 have hi:i<o.lv.length:=(List.getElem?_eq_some_iff.1 hb).1
 refine⟨⟨(hc 0).trans h.c0,⟨cap,?_,?_⟩,(hc 2).trans h.c2,(hc 3).trans h.c3,(hc 4).trans h.c4,fun q=>(World.frozen?_of_block (w:=w) (hblk P (Ne.symm hne))).trans (h.fz q),h.map.of_block (hblk M (Ne.symm h.BP)),by simpa using h.pos,?_,?_,h.FT,h.qY,h.BP,h.AP⟩,?_⟩
 ·rw[List.length_set];exact(hc 1).trans r1
 ·rw[List.length_set,← Ba.xZ cL OI o.lv i b b' hb j v hj hv]
  exact(r2.stored _ _).1
 ·rw[List.getD_eq_getElem?_getD,List.getElem?_set]
  by_cases h0:i=0
  ·subst h0
   rw[if_pos rfl,if_pos hi]
   have:=h.head
   rw[eU hb]at this
   simpa[hk] using this
  ·rw[if_neg h0,← List.getD_eq_getElem?_getD];exact h.head
 ·intro c hc'
  rcases List.mem_or_eq_of_mem_set hc' with h1 | h1
  ·exact h.small c h1
  ·subst h1;rw[hk];exact h.small b (List.mem_of_getElem? hb)
 ·exact⟨rfl,rfl,rfl,(KeepsOthers.setCell w _ v).size,fun k hk h1 h2=>hblk k h2,fun q _=>hc q⟩
theorem cU.own {w:World} {N P M n L:Nat} {o:St} (h:cU w N P M n L o) (j:Nat) (hj:2≤j) (v:Value) :
  (∀ q,q≠j→(w.setCell ⟨P,j,none⟩ v).cell? ⟨P,q,none⟩=w.cell? ⟨P,q,none⟩)∧(∀ q,(w.setCell ⟨P,j,none⟩ v).frozen? ⟨P,q,none⟩=false) ∧
  (∃ cap,(w.setCell ⟨P,j,none⟩ v).cell? ⟨P,1,none⟩=some (.slice (some ⟨L,0,none⟩) o.lv.length cap)∧(w.setCell ⟨P,j,none⟩ v).ownsRow N 184 8 (.slice (some ⟨L,0,none⟩) o.lv.length cap) o.lv.length (Ba.rows cL o.lv)) ∧
  Ts.aY (w.setCell ⟨P,j,none⟩ v) M n rk∧(j<5→Fr P L w (w.setCell ⟨P,j,none⟩ v)):=by
 obtain⟨cap,r1,r2⟩:=h.row
 have hblk:∀ k,k≠P→(w.setCell ⟨P,j,none⟩ v).heap[k]?=w.heap[k]?:=fun k hk=>Below.heap_setCell w _ v k hk
 have hc:∀ q,q≠j→(w.setCell ⟨P,j,none⟩ v).cell? ⟨P,q,none⟩=w.cell? ⟨P,q,none⟩:=fun q hq=>World.cell?_setCell_other _ _ _ _ (fun e=>by injection e with _ e _;omega)
 refine⟨hc,fun q=>by rw[World.frozen?_setCell];exact h.fz q,⟨cap,(hc 1 (by omega)).trans r1,Ba.fD r2 v (fun e=>h.qY (by simpa[Value.ownBlock] using e))⟩,h.map.of_block (hblk M h.AP),fun h5=>⟨rfl,rfl,rfl,(KeepsOthers.setCell w _ v).size,fun k hk h1 h2=>hblk k h1,fun q hq=>hc q (by omega)⟩⟩
theorem cU.ZP {w:World} {N P M n L:Nat} {o:St} (h:cU w N P M n L o) (k:Nat):cU (w.setCell ⟨P,2,none⟩ (.int .i64 (k:Int))) N P M n L { o with nodes:=k }∧Fr P L w (w.setCell ⟨P,2,none⟩ (.int .i64 (k:Int))):=by
 obtain⟨a,b,c,d,e⟩:=h.own 2 (by omega) (.int .i64 (k:Int))
 exact⟨⟨(a 0 (by omega)).trans h.c0,c,World.cell?_setCell_same' _ _ _ (by rw[h.c2];rfl),(a 3 (by omega)).trans h.c3,(a 4 (by omega)).trans h.c4,b,d,h.pos,h.head,h.small,h.FT,h.qY,h.BP,h.AP⟩,e (by omega)⟩
theorem cU.aCJ {w:World} {N P M n L:Nat} {o:St} (h:cU w N P M n L o) (k:Bool):cU (w.setCell ⟨P,3,none⟩ (.bool k)) N P M n L { o with deep:=k }∧Fr P L w (w.setCell ⟨P,3,none⟩ (.bool k)):=by
 obtain⟨a,b,c,d,e⟩:=h.own 3 (by omega) (.bool k)
 exact⟨⟨(a 0 (by omega)).trans h.c0,c,(a 2 (by omega)).trans h.c2,World.cell?_setCell_same' _ _ _ (by rw[h.c3];rfl),(a 4 (by omega)).trans h.c4,b,d,h.pos,h.head,h.small,h.FT,h.qY,h.BP,h.AP⟩,e (by omega)⟩
theorem cU.QA {w:World} {N P M n L:Nat} {o:St} (h:cU w N P M n L o) (k:Bool):cU (w.setCell ⟨P,4,none⟩ (.bool k)) N P M n L { o with tR:=k }∧Fr P L w (w.setCell ⟨P,4,none⟩ (.bool k)):=by
 obtain⟨a,b,c,d,e⟩:=h.own 4 (by omega) (.bool k)
 exact⟨⟨(a 0 (by omega)).trans h.c0,c,(a 2 (by omega)).trans h.c2,(a 3 (by omega)).trans h.c3,World.cell?_setCell_same' _ _ _ (by rw[h.c4];rfl),b,d,h.pos,h.head,h.small,h.FT,h.qY,h.BP,h.AP⟩,e (by omega)⟩
theorem cU.tW {w:World} {N P M n L:Nat} {o:St} (h:cU w N P M n L o) (j:Nat):w.frozen? ⟨L,j,none⟩=false:=by
 obtain⟨cap,_,r⟩:=h.row
 exact r.frozenAt j
theorem oE {α:Type} {l:List α} {i:Nat} {b:α} (hb:l[i]?=some b) (f:α→α):l.set i (f b)=l.modify i f:=by
 apply List.ext_getElem?
 intro j
 rw[List.getElem?_set,List.getElem?_modify]
 by_cases h:i=j
 ·subst h
  rw[if_pos rfl,if_pos (List.getElem?_eq_some_iff.1 hb).1,hb];simp
 ·rw[if_neg h]
  cases l[j]?<;>simp[h]
theorem Fr.of_heap {P L:Nat} {a b c:World} (h:Fr P L a b) (hh:c.heap=b.heap) (h1:c.os=a.os) (h2:c.tape=a.tape) (h3:c.output=a.output):Fr P L a c :=
 ⟨h1,h2,h3,by rw[hh];exact h.size,fun k x y z=>by rw[hh];exact h.block k x y z,fun i hi=>(World.cell?_of_block (by rw[hh])).trans (h.tail i hi)⟩
def oneMore (b:Lv):Lv:={ b with parts:=b.parts+1 }
def jQ (o:St) (m:Nat) (b:Lv):St:={ o with lv:=o.lv.set m (oneMore b) }
theorem gY {o:St} {m:Nat} {b:Lv} (hb:o.lv[m]?=some b):(jQ o m b).lv[m]?=some (oneMore b):=by
 show (o.lv.set m _)[m]?=_
 rw[List.getElem?_set_self (List.getElem?_eq_some_iff.1 hb).1]
theorem count_one {w1:World} {N P M n L:Nat} {o:St} (h1:cU w1 N P M n L o) {m:Nat} {b:Lv} (hb:o.lv[m]?=some b) {pp:Nat} (hpp:b.parts=pp) :
  cU (w1.setCell ⟨L,m * 8+3,none⟩ (.int .i64 ((pp:Int)+1))) N P M n L (jQ o m b)∧Fr P L w1 (w1.setCell ⟨L,m * 8+3,none⟩ (.int .i64 ((pp:Int)+1))):=by
 subst hpp
 exact h1.put hb (j:=3) (by omega) (.int .i64 ((b.parts+1:Nat):Int)) (b':=oneMore b) rfl rfl
theorem DQ {w2:World} {N P M n L:Nat} {o:St} {m:Nat} {b:Lv} (h2:cU w2 N P M n L (jQ o m b)) (hm:o.lv.length=m+1) (hb:o.lv[m]?=some b) {k r nn:Nat} {mu:Bool} (hr:rk b.kind k=r) (hn:o.nodes=nn) (hmu:o.tR=mu)
  (c:Bool) (hc:(mu || decide (2000<nn+1))=c) (W:World) (hW:W.heap=(((w2.setCell ⟨L,m * 8+4,none⟩ (.int .i64 (r:Int))).setCell ⟨P,2,none⟩ (.int .i64 ((nn:Int)+1))).setCell ⟨P,4,none⟩ (.bool c)).heap) (e1:W.os=w2.os) (e2:W.tape=w2.tape) (e3:W.output=w2.output) :
  cU W N P M n L (bE o k)∧Fr P L w2 W:=by
 subst hr;subst hn;subst hmu;subst hc
 have p2:=h2.put (gY hb) (j:=4) (by omega) (.int .i64 ((rk b.kind k:Nat):Int)) (b':=l5 k b) rfl rfl
 have hset:(jQ o m b).lv.set m (l5 k b)=o.lv.modify m (l5 k):=by unfold jQ;rw[List.set_set];exact oE hb _
 simp only[hset]at p2
 have p3:=p2.1.ZP (o.nodes+1)
 have p4:=p3.1.QA (o.tR || decide (2000<o.nodes+1))
 have hml:m=o.lv.length - 1:=by omega
 have hfr:=(p2.2.trans p3.2 (.inl rfl)).trans p4.2 (.inl rfl)
 refine⟨?_,hfr.of_heap hW e1 e2 e3⟩
 unfold bE;rw[← hml];exact p4.1.of_heap hW
theorem cU.aEN {W:World} {N P M n L:Nat} {o:St} (h:cU W N P M n L o) {m:Nat} {b:Lv} (hb:o.lv[m]?=some b) {k q r:Nat} (hk:k<256) (hq:b.kind=q) (hr:rk q k=r) :
  W.cell? ⟨P,0,none⟩=some (.map (some M))∧W.cell? ⟨L,m * 8,none⟩=some (.int .u8 (q:Int))∧(Instr.lookup 148 (.map (some M)) (.agg #[.int .u8 (q:Int),.int .u8 (k:Int)]) false).run Tryz.prog W=.ok (.int .i64 (r:Int)) W:=by
 subst hq;subst hr
 exact⟨h.c0,(h.at hb).1,h.map.look (h.small b (List.mem_of_getElem? hb)) hk⟩
theorem K5 {w2:World} {N P M n L:Nat} {o:St} {m:Nat} {b:Lv} (h2:cU w2 N P M n L (jQ o m b)) (hb:o.lv[m]?=some b) {k q r:Nat} (hk:k<256) (hq:b.kind=q) (hr:rk q k=r) :
  (w2.setCell ⟨L,m * 8+4,none⟩ (.int .i64 (r:Int))).drew.cell? ⟨P,0,none⟩=some (.map (some M))∧(w2.setCell ⟨L,m * 8+4,none⟩ (.int .i64 (r:Int))).drew.cell? ⟨L,m * 8,none⟩=some (.int .u8 (q:Int)) ∧
  (Instr.lookup 148 (.map (some M)) (.agg #[.int .u8 (q:Int),.int .u8 (k:Int)]) false).run Tryz.prog (w2.setCell ⟨L,m * 8+4,none⟩ (.int .i64 (r:Int))).drew=.ok (.int .i64 (r:Int)) (w2.setCell ⟨L,m * 8+4,none⟩ (.int .i64 (r:Int))).drew:=by
 subst hr;subst hq
 have p2:=(h2.put (gY hb) (j:=4) (by omega) (.int .i64 ((rk b.kind k:Nat):Int)) (b':=l5 k b) rfl rfl).1
 refine(p2.of_heap (w':=(w2.setCell ⟨L,m * 8+4,none⟩ (.int .i64 ((rk b.kind k:Nat):Int))).drew) rfl).aEN (m:=m) (b:=l5 k b) ?_ hk rfl rfl
 show ((jQ o m b).lv.set m _)[m]?=_
 rw[List.getElem?_set_self (List.getElem?_eq_some_iff.1 (gY hb)).1]
theorem pV {w:World} {N P M n L:Nat} {o:St} (h:cU w N P M n L o) (k:Nat) (hk:k<256) (z:Int) (hz:(k:Int)=z) (hp:(cH o.lv).parts<4611686018427387904) (hn:o.nodes<4611686018427387904) :
  Calls Tryz.prog 183 #[.pointer (some ⟨P,0,none⟩),.int .u8 z] w fun e w'=>e=.returned (.tuple #[])∧cU w' N P M n L (bE o k)∧Fr P L w w':=by
 obtain⟨m,hm⟩:=h.len
 obtain⟨b,hb⟩:=fI (l:=o.lv) (i:=m) (by omega)
 have hT:cH o.lv=b:=by unfold cH;rw[hm,Nat.add_sub_cancel];exact eU hb
 rw[hT]at hp
 subst hz
 have H:=hid h
 have HM:=hid hm
 have HB:=hid hb
 obtain⟨pp,hpp⟩:∃ pp,b.parts=pp:=⟨_,rfl⟩
 obtain⟨q,hq⟩:∃ q,b.kind=q:=⟨_,rfl⟩
 obtain⟨r,hr⟩:∃ r,rk q k=r:=⟨_,rfl⟩
 obtain⟨nn,hnn⟩:∃ nn,o.nodes=nn:=⟨_,rfl⟩
 obtain⟨mu,hmu⟩:∃ mu,o.tR=mu:=⟨_,rfl⟩
 have HPP:=hid hpp
 have HQ:=hid hq
 have HR:=hid hr
 have HNN:=hid hnn
 have HMU:=hid hmu
 rw[hpp]at hp
 rw[hnn]at hn
 clear hm h hT hb hpp hq hr hnn hmu
 cases mu
 all_goals
  go_enter Tryz.func183,Tryz.ntmps183
  go_wp2_with (go_at_call 176;refine(jB H.out m HM.out).mono ?_;rintro e w' ⟨rfl,j,rfl⟩;have h1:=H.out.drewN j;have HF:=hid ((Fr.refl P L w).drewN j);generalize w.drewN j=w1 at h1 HF;have b3:=(h1.at HB.out).2.2.2.1;rw[HPP.out]at b3;have f1:=h1.tW;replace h1:=hid h1)
  have h2:=count_one h1.out HB.out HPP.out
  generalize w1.setCell ⟨L,m * 8+3,none⟩ (.int .i64 ((pp:Int)+1))=w2 at h2
  obtain⟨h2,hf2⟩:=h2
  have HF2:=hid (HF.out.trans hf2 (.inl rfl))
  clear b3 f1 hf2
  have b4:=(h2.at (gY HB.out)).2.2.2.2.1
  have c2:=h2.c2
  have c4:=h2.c4
  have f0:=h2.fz
  have f1:=h2.tW
  have HS1:=hid (h2.aEN (gY HB.out) hk (q:=q) (by rw[← HQ.out];rfl) HR.out)
  have HS2:=hid ((h2.of_heap (w':=w2.drew) rfl).aEN (gY HB.out) hk (q:=q) (by rw[← HQ.out];rfl) HR.out)
  have HS3:=hid (K5 h2 HB.out hk HQ.out HR.out)
  simp only[oneMore,jQ]at b4 c2 c4
  rw[HNN.out]at c2
  rw[HMU.out]at c4
  have hne:=h2.qY
  replace h2:=hid h2
  obtain⟨t,ht⟩:∃ t,b.rank=t:=⟨_,rfl⟩
  rw[ht]at b4
  clear ht
  go_region_held3 (fun w'=>w'.cell? ⟨P,0,none⟩=some (.map (some M))∧w'.cell? ⟨L,m * 8,none⟩=some (.int .u8 (q:Int))∧(Instr.lookup 148 (.map (some M)) (.agg #[.int .u8 (q:Int),.int .u8 (k:Int)]) false).run Tryz.prog w'=.ok (.int .i64 (r:Int)) w')
   (first | exact HS2.out | exact HS3.out | exact HS1.out) (first | fail)
  go_wp2
  go_end0
 ·have hfin:=DQ h2.out HM.out HB.out (k:=k) (r:=r) (by rw[HQ.out];exact HR.out) HNN.out HMU.out (decide ((2000:Int)<(nn:Int)+1)) (by rw[Bool.false_or];exact decide_eq_decide.2 (by omega)) _ rfl rfl rfl rfl
  exact⟨rfl,hfin.1.of_heap rfl,HF2.out.trans (hfin.2.of_heap rfl rfl rfl rfl) (.inl rfl)⟩
 ·have hfin:=DQ h2.out HM.out HB.out (k:=k) (r:=r) (by rw[HQ.out];exact HR.out) HNN.out HMU.out true rfl _ rfl rfl rfl rfl
  exact⟨rfl,hfin.1.of_heap rfl,HF2.out.trans (hfin.2.of_heap rfl rfl rfl rfl) (.inl rfl)⟩
theorem rE {l l':List Lv} (h:∀ i,(l'.getD i sD).kind=(l.getD i sD).kind) (k:Nat):∀ n,gJ l' k n=gJ l k n
 | 0=>rfl
 | n+1=>by unfold gJ;rw[h n,rE h k n]
theorem K6 (l:List Lv) (j:Nat) (f:Lv→Lv) (hf:∀ b,(f b).kind=b.kind) (i:Nat):((l.modify j f).getD i sD).kind=(l.getD i sD).kind:=by
 rw[getD_modify];split<;>simp[hf]
theorem tX (o:St) (k q:Nat):eC (bE o k).lv q=eC o.lv q:=by
 unfold eC bE
 simp only[List.length_modify]
 exact rE (K6 _ _ (l5 k) fun _=>rfl) _ _
theorem AS {l:List Lv} {k i:Nat}:∀ n,gJ l k n=some i→i<n
 | 0=>fun h=>by cases h
 | n+1=>fun h=>by
  unfold gJ at h
  split at h
  ·split at h
   ·cases h;omega
   ·have:=AS n h;omega
  ·cases h
def AT (o:St) (i:Nat) (b:Lv) (c:Nat):St:=if b.oQ=0 then { o with lv:=o.lv.set i (tS c b) } else o
theorem aCK {w:World} {N P M n L:Nat} {o:St} (h:cU w N P M n L o) {i:Nat} {b:Lv} (hb:o.lv[i]?=some b) (c:Nat) (v:Bool) (hv:(b.oQ==0 || b.oQ==c)=v) :
  Calls Tryz.prog 177 #[.pointer (some ⟨L,i * 8,none⟩),.int .i64 (c:Int)] w fun e w'=>e=.returned (.bool v)∧cU w' N P M n L (AT o i b c)∧Fr P L w w':=by
 obtain⟨-,-,-,-,-,b5,-,-⟩:=h.at hb
 have f1:=h.tW
 obtain⟨q,hq⟩:∃ q,b.oQ=q:=⟨_,rfl⟩
 rw[hq]at b5 hv
 by_cases h0:q=0
 ·have hfin:=h.put hb (j:=5) (by omega) (.int .i64 (c:Int)) (b':=tS c b) rfl rfl
  have HFIN:=hid (show cU _ N P M n L (AT o i b c)∧_ by unfold AT;rw[if_pos (hq.trans h0)];exact hfin)
  have HV:=hid (show true=v by rw[← hv,h0];rfl)
  subst h0
  clear h hb hq hv hfin
  go_enter Tryz.func177,Tryz.ntmps177
  go_wp2
  go_ret
  exact⟨Ba.aC HV.out,HFIN.out⟩
 ·have HFIN:=hid (show cU w N P M n L (AT o i b c) by unfold AT;rw[if_neg (by rw[hq];exact h0)];exact h)
  have t1:((q:Int)==0)=false:=eZ h0
  have HV:=hid (show ((q:Int)==(c:Int))=v by
   rw[← hv,show (q==0)=false from beq_eq_false_iff_ne.2 h0,Bool.false_or]
   by_cases e:q=c
   ·subst e;simp
   ·rw[eZ e];exact(beq_eq_false_iff_ne.2 e).symm)
  clear h hb hq hv h0
  go_enter Tryz.func177,Tryz.ntmps177
  go_wp2
  go_ret
  exact⟨Ba.aC HV.out,HFIN.out,Fr.refl _ _ _⟩
theorem aEO {w:World} {N P M n L:Nat} {o:St} (h:cU w N P M n L o) (nb:Nat) (hv:pU o.lv 46=false) :
  Calls Tryz.prog 144 #[.pointer (some ⟨P,0,none⟩),.int .i64 (nb:Int)] w fun e w'=>e=.returned (.bool false)∧∃ j,w'=w.drewN j:=by
 have H:=hid h
 have HV:=hid hv
 clear h hv
 go_enter Tryz.func144,Tryz.ntmps144
 go_wp2_with (go_at_call 182;refine(nP H.out 46 (by decide) 46 rfl false HV.out).mono ?_;rintro e w' ⟨rfl,j,rfl⟩)
 go_ret
 exact⟨rfl,_,rfl⟩
theorem QB {w2:World} {N P M n L:Nat} {o:St} (h2:cU w2 N P M n L (bE o 46)) {i:Nat} {b:Lv} (hi:eC o.lv 110=some i) (hb:(bE o 46).lv[i]?=some b) {nb t:Nat} {mu:Bool} (ht:b.bytes=t) (hmu:(bE o 46).tR=mu)
  (c:Bool) (hc:(mu || decide (60<t+nb))=c) (W:World) (hW:W.heap=((w2.setCell ⟨L,i * 8+7,none⟩ (.int .i64 ((t:Int)+(nb:Int)))).setCell ⟨P,4,none⟩ (.bool c)).heap) (e1:W.os=w2.os) (e2:W.tape=w2.tape) (e3:W.output=w2.output) :
  cU W N P M n L (vS o nb)∧Fr P L w2 W:=by
 subst ht;subst hmu;subst hc
 have p2:=h2.put hb (j:=7) (by omega) (.int .i64 ((b.bytes:Int)+(nb:Int))) (b':=nL nb b) (by simp[cL,nL]) rfl
 rw[oE hb]at p2
 have p4:=p2.1.QA ((bE o 46).tR || decide (60<b.bytes+nb))
 refine⟨?_,(p2.2.trans p4.2 (.inl rfl)).of_heap hW e1 e2 e3⟩
 have hD:(o.lv.getD i sD).bytes=b.bytes:=by
  have h1:((bE o 46).lv.getD i sD).bytes=b.bytes:=by rw[eU hb]
  rw[← h1]
  unfold bE
  simp only[]
  rw[getD_modify]
  split<;>rfl
 unfold vS
 rw[hi]
 simp only[hD]
 exact p4.1.of_heap hW
theorem aCL {w:World} {N P M n L:Nat} {o:St} (h:cU w N P M n L o) (nb:Nat) (hv:pU o.lv 46=true) (hp:(cH o.lv).parts<4611686018427387904) (hn:o.nodes<4611686018427387904)
  (hbs:nb<4611686018427387904∧∀ b ∈ o.lv,b.bytes<4611686018427387904) :
  Calls Tryz.prog 144 #[.pointer (some ⟨P,0,none⟩),.int .i64 (nb:Int)] w fun e w'=>e=.returned (.bool true)∧cU w' N P M n L (vS o nb)∧Fr P L w w':=by
 have H:=hid h
 have HV:=hid hv
 obtain⟨hnb,hbs⟩:=hbs
 cases hwi:eC o.lv 110 with
 | none =>
  have HW:=hid ((tX o 46 110).trans hwi)
  have HS:=hid (show vS o nb=bE o 46 by unfold vS;rw[hwi])
  clear h hv hwi hbs
  go_enter Tryz.func144,Tryz.ntmps144
  go_wp2_with (first
   |(go_at_call 182;refine(nP H.out 46 (by decide) 46 rfl true HV.out).mono ?_;rintro e w' ⟨rfl,j,rfl⟩;have h1:=H.out.drewN j;have HF:=hid ((Fr.refl P L w).drewN j);generalize w.drewN j=w1 at h1 HF;replace h1:=hid h1)
   |(go_at_call 183;refine(pV h1.out 46 (by decide) 46 rfl hp hn).mono ?_;rintro e w2 ⟨rfl,h2,hf2⟩;replace h2:=hid h2;replace hf2:=hid (HF.out.trans hf2 (.inl rfl)))
   |(go_at_call 184;refine(qR h2.out 110 none HW.out).mono ?_;rintro e w3 ⟨rfl,rfl⟩;dsimp only[OJ]))
  go_ret
  exact⟨rfl,by rw[HS.out];exact h2.out,hf2.out⟩
 | some i =>
  have hil:i<(bE o 46).lv.length:=by
   have:=AS _ hwi
   unfold bE;simp only[List.length_modify];exact this
  obtain⟨b,hb⟩:=fI hil
  have hbb:b.bytes<4611686018427387904:=by
   have h1:(bE o 46).lv[i]?=((o.lv.modify (o.lv.length - 1) (l5 46)))[i]?:=rfl
   rw[hb,List.getElem?_modify]at h1
   cases ho:o.lv[i]? with
   | none=>rw[ho]at h1;cases h1
   | some d =>
    rw[ho]at h1
    have hd:=hbs d (List.mem_of_getElem? ho)
    by_cases e:o.lv.length - 1=i
    ·simp[e]at h1;subst h1;exact hd
    ·simp[e]at h1;subst h1;exact hd
  have HW:=hid ((tX o 46 110).trans hwi)
  have HWI:=hid hwi
  have HB:=hid hb
  obtain⟨t,ht⟩:∃ t,b.bytes=t:=⟨_,rfl⟩
  obtain⟨mu,hmu⟩:∃ mu,(bE o 46).tR=mu:=⟨_,rfl⟩
  have HT:=hid ht
  have HMU:=hid hmu
  rw[ht]at hbb
  clear h hv hwi hbs hil hb ht hmu
  cases mu
  all_goals
   go_enter Tryz.func144,Tryz.ntmps144
   go_wp2_with (first
    |(go_at_call 182;refine(nP H.out 46 (by decide) 46 rfl true HV.out).mono ?_;rintro e w' ⟨rfl,j,rfl⟩;have h1:=H.out.drewN j;have HF:=hid ((Fr.refl P L w).drewN j);generalize w.drewN j=w1 at h1 HF;replace h1:=hid h1)
    |(go_at_call 183;refine(pV h1.out 46 (by decide) 46 rfl hp hn).mono ?_;rintro e w2 ⟨rfl,h2,hf2⟩;replace h2:=hid h2;replace hf2:=hid (HF.out.trans hf2 (.inl rfl)))
    |(go_at_call 184;refine(qR h2.out 110 (some i) HW.out).mono ?_;rintro e w3 ⟨rfl,rfl⟩;dsimp only[OJ];have b7:=(h2.out.at HB.out).2.2.2.2.2.2.2;rw[HT.out]at b7;have c4:=h2.out.c4;rw[HMU.out]at c4;have f0:=h2.out.fz;have f1:=h2.out.tW;have hne:=h2.out.qY))
   go_ret
  ·have hfin:=QB h2.out HWI.out HB.out (nb:=nb) HT.out HMU.out (decide ((60:Int)<(t:Int)+(nb:Int))) (by rw[Bool.false_or];exact decide_eq_decide.2 (by omega)) _ rfl rfl rfl rfl
   exact⟨rfl,hfin.1.of_heap rfl,hf2.out.trans (hfin.2.of_heap rfl rfl rfl rfl) (.inl rfl)⟩
  ·have hfin:=QB h2.out HWI.out HB.out (nb:=nb) HT.out HMU.out true rfl _ rfl rfl rfl rfl
   exact⟨rfl,hfin.1.of_heap rfl,hf2.out.trans (hfin.2.of_heap rfl rfl rfl rfl) (.inl rfl)⟩
end Go.Proofs.YthbigkoihpgcfaaGreatDoor.Tr
