/-
  Put together.
-/
import Derived.Test.YthbigkoihpgcfaaGreatDoorVr
import Derived.Deep.RegionLaw
open Go.Lib (hid)
set_option maxRecDepth 100000
set_option maxHeartbeats 16000000
namespace Go.Proofs.YthbigkoihpgcfaaGreatDoor.Tr
open Go.RowKit
theorem cU.below {w w':World} {N P M n L:Nat} {o:St} (h:cU w N P M n L o) (hb:Below w.heap.size w w'):cU w' N P M n L o:=by
 have hP:=h.tV
 have hL:=h.uB.1
 have hM:=h.map.lt
 obtain⟨cap,r1,r2,r3⟩:=h.row
 refine⟨(hb.cell (p:=⟨P,0,none⟩) hP).trans h.c0,⟨cap,(hb.cell (p:=⟨P,1,none⟩) hP).trans r1,r2,?_⟩,(hb.cell (p:=⟨P,2,none⟩) hP).trans h.c2,(hb.cell (p:=⟨P,3,none⟩) hP).trans h.c3,(hb.cell (p:=⟨P,4,none⟩) hP).trans h.c4,
  fun i=>(hb.frozen (p:=⟨P,i,none⟩) hP).trans (h.fz i),h.map.of_block (hb.block M hM),h.pos,h.head,h.small,h.FT,h.qY,h.BP,h.AP⟩
 rcases r3 with⟨hv,_⟩ | ⟨g,cp,cur,hv,hg1,hg,rest⟩
 ·cases hv
 ·have e0:=hv
  injection hv with e1 _ _
  injection e1 with e1
  injection e1 with e1 _ _
  subst e1
  exact .inr ⟨L,cp,cur,e0,hg1,(hb.block L hL).trans hg,rest⟩
theorem Fr.dB {P L:Nat} {w w':World} (hb:Below w.heap.size w w') (hP:P<w.heap.size):Fr P L w w' :=
 ⟨hb.os,hb.tape,hb.output,hb.size,fun k hk _ _=>hb.block k hk,fun i _=>hb.cell (p:=⟨P,i,none⟩) hP⟩
theorem ZQ {w:World} {N P M n L:Nat} {o:St} (h:cU w N P M n L o) (k:Nat) (hk:k<256) (hv:pU o.lv k=false) :
  Calls Tryz.prog 145 #[.pointer (some ⟨P,0,none⟩),.int .u8 (k:Int)] w fun e w'=>e=.returned (.bool false)∧∃ j,w'=w.drewN j:=by
 have H:=hid h
 have HV:=hid hv
 clear h hv
 go_enter Tryz.func145,Tryz.ntmps145
 go_wp2_with (go_at_call 182;refine(nP H.out k hk (k:Int) rfl false HV.out).mono ?_;rintro e w' ⟨rfl,j,rfl⟩)
 go_ret
 exact⟨rfl,_,rfl⟩
structure lG (w1 w2:World) (N P M n L m:Nat) (o:St) (nn ll:Nat):Prop where
 op:cU w2 N P M n L o
 fr:Fr P L w1 w2
 size:w1.heap.size=w2.heap.size
 c2:w2.cell? ⟨P,2,none⟩=some (.int .i64 (nn:Int))
 b2:w2.cell? ⟨L,m * 8+2,none⟩=some (.int .i64 (ll:Int))
theorem lG.of_heap {w1 w2:World} {N P M n L m:Nat} {o:St} {b:Lv} (h:cU w1 N P M n L o) (hb:o.lv[m]?=some b) {nn ll:Nat} (hn:o.nodes=nn) (hl:b.lists=ll) (hh:w2.heap=w1.heap) (e1:w2.os=w1.os) (e2:w2.tape=w1.tape) (e3:w2.output=w1.output) :
  lG w1 w2 N P M n L m o nn ll:=by
 subst hn;subst hl
 have h2:=h.of_heap hh
 exact⟨h2,(Fr.refl P L w1).of_heap hh e1 e2 e3,by rw[hh],h2.c2,(h2.at hb).2.2.1⟩
theorem vT {w1:World} {N P M n L m:Nat} {o:St} {b:Lv} (h:cU w1 N P M n L o) (hm:o.lv.length=m+1) (hb:o.lv[m]?=some b) {nn ll:Nat} (hn:o.nodes=nn) (hl:b.lists=ll) :
  Calls Tryz.prog 176 #[.pointer (some ⟨P,0,none⟩)] w1.drew fun e w2=>e=.returned (.pointer (some ⟨L,m * 8,none⟩))∧lG w1 w2 N P M n L m o nn ll :=
 (jB (h.of_heap (w':=w1.drew) rfl) m hm).mono fun e w2 ⟨he,k,hk⟩=>⟨he,.of_heap h hb hn hl (by rw[hk];rfl) (by rw[hk];rfl) (by rw[hk];rfl) (by rw[hk];rfl)⟩
theorem sE {w1:World} {N P M n L m:Nat} {o:St} {b:Lv} (h:cU w1 N P M n L o) (hm:o.lv.length=m+1) (hb:o.lv[m]?=some b) {nn ll:Nat} (hn:o.nodes=nn) (hl:b.lists=ll) (ob:Obj) :
  Calls Tryz.prog 176 #[.pointer (some ⟨P,0,none⟩)] (w1.alloc ob).drew fun e w'=>e=.returned (.pointer (some ⟨L,m * 8,none⟩))∧∃ w2,w'=w2.alloc ob∧lG w1 w2 N P M n L m o nn ll :=
 (jB ((h.below ((Below.refl _ w1).alloc (Nat.le_refl _) ob)).of_heap (w':=(w1.alloc ob).drew) rfl) m hm).mono fun e w' ⟨he,k,hk⟩ =>
  ⟨he,w1.drewN (1+k),by rw[hk,show (w1.alloc ob).drew=(w1.alloc ob).drewN 1 from rfl,World.drewN_drewN];rfl,.of_heap h hb hn hl rfl rfl rfl rfl⟩
structure OK (W:World) (g:Nat) (k nn ll:Nat):Prop where
 k0:W.cell? ⟨g,0,none⟩=some (.int .u8 (k:Int))
 k1:W.cell? ⟨g,1,none⟩=some (.int .i64 (nn:Int))
 k2:W.cell? ⟨g,2,none⟩=some (.int .i64 (ll:Int))
 k3:W.cell? ⟨g,3,none⟩=some (.int .i64 0)
 k4:W.cell? ⟨g,4,none⟩=some (.int .i64 0)
 k5:W.cell? ⟨g,5,none⟩=some (.int .i64 0)
 k6:W.cell? ⟨g,6,none⟩=some (.bool false)
 k7:W.cell? ⟨g,7,none⟩=some (.int .i64 0)
theorem OK.of_block {W W':World} {g k nn ll:Nat} (h:OK W g k nn ll) (hb:W'.heap[g]?=W.heap[g]?):OK W' g k nn ll:=by
 have e:∀ i,W'.cell? ⟨g,i,none⟩=W.cell? ⟨g,i,none⟩:=fun i=>World.cell?_of_block (w:=W) hb
 exact⟨(e _).trans h.k0,(e _).trans h.k1,(e _).trans h.k2,(e _).trans h.k3,(e _).trans h.k4,(e _).trans h.k5,(e _).trans h.k6,(e _).trans h.k7⟩
theorem cU.more {w4 w5:World} {N P M n L:Nat} {oc:St} (h4:cU w4 N P M n L oc) {m:Nat} (hm:oc.lv.length=m+1) {tmp:Obj} {gg cap cap0:Nat} (hgrow:(w4.alloc tmp).drew.grownBy w5 (Value.slice (some ⟨L,0,none⟩) (m+1) cap0).ownBlock) (b:Lv) (hk:b.kind<256)
  (hown:w5.ownsRow N 184 8 (.slice (some ⟨gg,0,none⟩) (m+1+1) cap) (m+1+1) (Ba.rows cL oc.lv++cL b)) (hat:(Value.slice (some ⟨L,0,none⟩) (m+1) cap0).ownBlock=some gg∨gg=w4.heap.size+1) :
  (gg=L∨w4.heap.size≤gg)∧cU (w5.setCell ⟨P,1,none⟩ (.slice (some ⟨gg,0,none⟩) (m+1+1) cap)) N P M n gg { oc with lv:=oc.lv++[b] }∧Fr P L w4 (w5.setCell ⟨P,1,none⟩ (.slice (some ⟨gg,0,none⟩) (m+1+1) cap)):=by
 have hP:=h4.tV
 have hL:=h4.uB
 have hM:=h4.map.lt
 have hgg:gg=L∨w4.heap.size≤gg:=by
  rcases hat with e | e
  ·left;simpa[Value.ownBlock] using e.symm
  ·right;omega
 have ob:(Value.slice (some ⟨L,0,none⟩) (m+1) cap0).ownBlock=some L:=rfl
 rw[ob]at hgrow
 have hsz:w4.heap.size≤w5.heap.size:=Nat.le_trans (by show w4.heap.size≤(w4.alloc tmp).heap.size;simp) hgrow.size
 have hblk:∀ q,q<w4.heap.size→q≠L→w5.heap[q]?=w4.heap[q]?:=fun q hq hne=>by
  refine(hgrow.block q (by show q<(w4.alloc tmp).heap.size;simp;omega) (fun e=>hne (by cases e;rfl))).trans ?_
  exact Below.heap_alloc w4 tmp q hq
 have hne:=h4.qY
 have hnP:gg≠P:=by rcases hgg with e | e<;>omega
 have hnM:gg≠M:=by have:=h4.BP;rcases hgg with e | e<;>omega
 have hs:∀ q,q≠P→(w5.setCell ⟨P,1,none⟩ (.slice (some ⟨gg,0,none⟩) (m+1+1) cap)).heap[q]?=w5.heap[q]?:=fun q hq=>Below.heap_setCell _ _ _ _ hq
 have hPb:w5.heap[P]?=w4.heap[P]?:=hblk P hP (Ne.symm hne)
 have hc5:∀ q,w5.cell? ⟨P,q,none⟩=w4.cell? ⟨P,q,none⟩:=fun q=>World.cell?_of_block (w:=w4) hPb
 have hc:∀ q,q≠1→(w5.setCell ⟨P,1,none⟩ (.slice (some ⟨gg,0,none⟩) (m+1+1) cap)).cell? ⟨P,q,none⟩=w4.cell? ⟨P,q,none⟩:=fun q hq =>
  (World.cell?_setCell_other _ _ _ _ (fun e=>by injection e with _ e _;omega)).trans (hc5 q)
 obtain⟨cp,r1,-⟩:=h4.row
 refine⟨hgg,⟨(hc 0 (by omega)).trans h4.c0,⟨cap,?_,?_⟩,(hc 2 (by omega)).trans h4.c2,(hc 3 (by omega)).trans h4.c3,(hc 4 (by omega)).trans h4.c4,fun i=>?_,h4.map.of_block ((hs M h4.AP).trans (hblk M hM (Ne.symm h4.BP))),?_,?_,?_,h4.FT,hnP,hnM,h4.AP⟩,
  hgrow.os,hgrow.tape,hgrow.output,Nat.le_trans hsz (KeepsOthers.setCell w5 _ _).size,fun q hq h1 h2=>(hs q h1).trans (hblk q hq h2),fun i hi=>hc i (by omega)⟩
 ·rw[List.length_append,hm]
  exact World.cell?_setCell_same' _ _ _ (by rw[hc5,r1];rfl)
 ·rw[List.length_append,hm,Ba.kJ]
  exact Ba.fD hown _ (fun e=>hnP (by simpa[Value.ownBlock] using e))
 ·rw[World.frozen?_setCell]
  exact(World.frozen?_of_block (w:=w4) hPb).trans (h4.fz i)
 ·simp
 ·have:=h4.head
  show ((oc.lv++[b]).getD 0 sD).kind=95
  rw[T5,if_pos h4.pos];exact this
 ·intro c hc'
  rcases List.mem_append.1 hc' with h1 | h1
  ·exact h4.small c h1
  ·rw[List.mem_singleton]at h1;subst h1;exact hk
theorem vU (o:St) (k:Nat):(bE (bG o k) k).lv.length=o.lv.length:=by
 unfold bE bG
 simp only[List.length_modify]
 split<;>simp
theorem pW (o:St) (k:Nat):(bE (bG o k) k).deep=o.deep:=by unfold bE bG;split<;>rfl
theorem fY {W:World} {N P M n gg:Nat} {o:St} {k:Nat} (h6:cU W N P M n gg { bE (bG o k) k with lv:=(bE (bG o k) k).lv++[kG o k] }) (c:Bool) (hc:(o.deep || decide (32<o.lv.length) || decide (8<(kG o k).lists))=c) :
  cU (W.setCell ⟨P,3,none⟩ (.bool c)) N P M n gg (lK o k)∧Fr P gg W (W.setCell ⟨P,3,none⟩ (.bool c)):=by
 have p:=h6.aCJ c
 subst hc
 exact p
theorem vV:(Tryz.prog.info? 184).map (fun i=>(i.zero,i.size,i.bytes))=some (some (.agg #[.int .u8 0,.int .i64 0,.int .i64 0,.int .i64 0,.int .i64 0,.int .i64 0,.bool false,.int .i64 0]),8,64):=by kernel_rfl
theorem OL {w:World} {N P M n L:Nat} {o:St} (h:cU w N P M n L o) (k:Nat) (hk:k<256) (hv:pU o.lv k=true) (hkk:k≠108∧k≠110) (hlen:o.lv.length<1000000) (hp:(cH (bG o k).lv).parts<4611686018427387904) (hn:o.nodes<4611686018427387904) (hli:(cH o.lv).lists<4611686018427387904) :
  Calls Tryz.prog 145 #[.pointer (some ⟨P,0,none⟩),.int .u8 (k:Int)] w fun e w'=>e=.returned (.bool true)∧∃ L',cU w' N P M n L' (lK o k)∧(L'=L∨w.heap.size≤L')∧Fr P L w w':=by
 obtain⟨i0,hi0,hz0,hz1,hz2⟩:=info_parts vV
 obtain⟨m,hm⟩:=h.len
 obtain⟨b,hb⟩:=fI (l:=o.lv) (i:=m) (by omega)
 have hT:cH o.lv=b:=by unfold cH;rw[hm,Nat.add_sub_cancel];exact eU hb
 rw[hT]at hli
 have HT:=hid hT
 have H:=hid h
 have HV:=hid hv
 have HM:=hid hm
 have HB:=hid hb
 have HMC:=hid ((vU o k).trans hm)
 have hm9:m<1000000:=by omega
 obtain⟨nn,hnn⟩:∃ nn,o.nodes=nn:=⟨_,rfl⟩
 obtain⟨ll,hll⟩:∃ ll,b.lists=ll:=⟨_,rfl⟩
 have HNN:=hid hnn
 have HLL:=hid hll
 rw[hll]at hli
 rw[hnn]at hn
 have t1:((k:Int)==108)=false:=eZ hkk.1
 have t2:((k:Int)==110)=false:=eZ hkk.2
 have h110:=hid hkk.2
 have HLI:=hid (show (kG o k).lists=ll by unfold kG;rw[hT,hll,if_neg hkk.1];rfl)
 have HCL:=hid (show [.int .u8 (k:Int),.int .i64 (nn:Int),.int .i64 (ll:Int),.int .i64 0,.int .i64 0,.int .i64 0,.bool false,.int .i64 0]=cL (kG o k) by unfold cL kG;rw[hT,hll,hnn,if_neg hkk.1];rfl)
 clear h hv hm hb hT hkk hnn hll hlen
 obtain⟨dp,hdp⟩:∃ dp,o.deep=dp:=⟨_,rfl⟩
 have HDP:=hid hdp
 clear hdp
 go_enter Tryz.func145,Tryz.ntmps145
 go_wp2_with (first
  |(go_at_call 182;refine(nP H.out k hk (k:Int) rfl true HV.out).mono ?_;rintro e w' ⟨rfl,j,rfl⟩;have h1:=H.out.drewN j;have HF:=hid ((Fr.refl P L w).drewN j);generalize w.drewN j=w1 at h1 HF;have c2:=h1.c2;rw[HNN.out]at c2;have b2:=(h1.at HB.out).2.2.1;rw[HLL.out]at b2;have hPs:=h1.tV;have hLs:=h1.uB.1;replace h1:=hid h1))
 have HA:=hid (vT h1.out HM.out HB.out HNN.out HLL.out)
 have HL:=hid (sE h1.out HM.out HB.out HNN.out HLL.out)
 go_region_held3 (fun w'=>w'.cell? ⟨P,2,none⟩=some (.int .i64 (nn:Int))∧w'.cell? ⟨L,m * 8+2,none⟩=some (.int .i64 (ll:Int))) (go_keep)
  (first
   |(go_at_call 176;refine HA.out.mono ?_;rintro e w2 ⟨rfl,h2⟩;have d2:=h2.c2;have e2:=h2.b2;have hs2:=h2.size;replace h2:=hid h2)
   |(go_at_call 176;refine(HL.out _).mono ?_;rintro e w' ⟨rfl,w2,rfl,h2⟩;have d2:=h2.c2;have e2:=h2.b2;have hs2:=h2.size;replace h2:=hid h2))
 all_goals
  obtain⟨w3,hw3⟩:∃ w3,w2.alloc (.cells #[.int .u8 (k:Int),.int .i64 (nn:Int),.int .i64 (ll:Int),.int .i64 0,.int .i64 0,.int .i64 0,.bool false,.int .i64 0] 184)=w3:=⟨_,rfl⟩
  have hB3:Below w2.heap.size w2 w3:=hw3▸(Below.refl _ w2).alloc (Nat.le_refl _) _
  have h3:=h2.out.op.below hB3
  have hx3:OK w3 w2.heap.size k nn ll:=by subst hw3;constructor<;>simp
  have hg3:w2.heap.size<w3.heap.size:=by subst hw3;simp
  have HF3:=hid ((HF.out.trans h2.out.fr (.inl rfl)).trans (Fr.dB (L:=L) hB3 h2.out.op.tV) (.inl rfl))
  have hgP:P<w2.heap.size:=h2.out.op.tV
  have hgL:L<w2.heap.size:=h2.out.op.uB.1
  rw[hw3]
  clear hw3 hB3
  replace h3:=hid h3
  replace hx3:=hid hx3
  go_wp2_with (first
   |(go_at_call 183;refine(pV (show cU w3 N P M n L (bG o k) by unfold bG;rw[if_neg h110.out];exact h3.out) k hk (k:Int) rfl hp (by unfold bG;rw[if_neg h110.out,HNN.out];exact hn)).mono ?_;rintro e w4 ⟨rfl,h4,hf4⟩;have hx4:=hx3.out.of_block (hf4.block w2.heap.size hg3 (by omega) (by omega));have hs4:=hf4.size;replace hf4:=hid (HF3.out.trans hf4 (.inl rfl))))
  obtain⟨cap0,r1,own⟩:=h4.row
  rw[HMC.out]at r1 own
  have c3:=h4.c3
  rw[show (bE (bG o k) k).deep=o.deep from by unfold bE bG;split<;>rfl,HDP.out]at c3
  have f0:=h4.fz
  have hPw:=h4.tV
  have hLw:=h4.uB.1
  have hLP:=h4.qY
  have hNw:N≤w4.heap.size:=by have:=h4.uB;omega
  have hga:(some w2.heap.size:Option Nat)≠(Value.slice (some ⟨L,0,none⟩) (m+1) cap0).ownBlock:=fun e=>by
   simp only[Value.ownBlock,Option.some.injEq]at e;omega
  have hgPn:w2.heap.size≠P:=by omega
  have hg4:w2.heap.size<w4.heap.size:=by omega
  have hx4a:=hid (fun ob=>hx4.of_block (Below.heap_alloc w4 ob w2.heap.size hg4))
  obtain⟨k0,k1,k2,k3,k4,k5,k6,k7⟩:=id hx4
  have HX4:=hid hx4
  have H4:=hid h4
  clear h4 hx4
  go_region_law
   ((refine step_append_lies _ (by rfl) _ _ _ (by rfl) N 184 i0 _ 8 64 Tryz.underlying149 hi0 hz0 hz1 hz2 rfl (by omega) (.slice (some ⟨L,0,none⟩) (m+1) cap0) (m+1) _ (by rfl) ((own.alloc _).drew) ⟨w4.heap.size,0,none⟩ 1 1 [.int .u8 (k:Int),.int .i64 (nn:Int),.int .i64 (ll:Int),.int .i64 0,.int .i64 0,.int .i64 0,.bool false,.int .i64 0] (by rfl) (by rfl) (World.news_of_block (cs:=#[.int .u8 (k:Int),.int .i64 (nn:Int),.int .i64 (ll:Int),.int .i64 0,.int .i64 0,.int .i64 0,.bool false,.int .i64 0]) (t:=184) (fr:=(0,0)) (heap_alloc_new w4 _)) (by simp[Value.oneCell']) (by omega) (by unfold maxLen;omega) (by omega) (by simp;omega) (w4.heap.size+1) (by simp) ?_;intro gg cap w5 hown1 hgrow hat hlt;have hb5:w5.heap[w2.heap.size]?=w4.heap[w2.heap.size]?:=(hgrow.block w2.heap.size (by simp;omega) hga).trans (Below.heap_alloc w4 _ w2.heap.size hg4);have hx5:=hid (HX4.out.of_block hb5);have hx6:=hid (fun v=>HX4.out.of_block (W':=w5.setCell ⟨P,1,none⟩ v) ((Below.heap_setCell w5 _ v w2.heap.size hgPn).trans hb5));have hc5:w5.cell? ⟨P,1,none⟩=w4.cell? ⟨P,1,none⟩:=World.cell?_of_block ((hgrow.block P (by simp;omega) (fun e=>by simp only[Value.ownBlock,Option.some.injEq]at e;omega)).trans (Below.heap_alloc w4 _ P hPw));have hf5:w5.frozen? ⟨P,1,none⟩=w4.frozen? ⟨P,1,none⟩:=World.frozen?_of_block ((hgrow.block P (by simp;omega) (fun e=>by simp only[Value.ownBlock,Option.some.injEq]at e;omega)).trans (Below.heap_alloc w4 _ P hPw));rw[r1]at hc5;rw[f0 1]at hf5))
  all_goals
   rw[HCL.out]at hown1
   obtain⟨hgg,h6,hf6⟩:=cU.more H4.out HMC.out hgrow (kG o k) hk hown1 hat
   have hx7:=(hx6.out (.slice (some ⟨gg,0,none⟩) (m+1+1) cap)).k2
   have HF6:=hid (hf4.out.trans hf6 (.inl rfl))
   have HGG:=hid hgg
   clear hx5 hx6 hb5 hown1 hgrow hat hc5 hf5 r1 own c3 f0 hf6 hgg hx4a HX4 k0 k1 k2 k3 k4 k5 k6 k7
   generalize w5.setCell ⟨P,1,none⟩ (.slice (some ⟨gg,0,none⟩) (m+1+1) cap)=w6 at h6 HF6 hx7
   have c3:=h6.c3
   simp only[pW,HDP.out]at c3
   have f0:=h6.fz
   have HL6:=hid (show ((bE (bG o k) k).lv++[kG o k]).length=(m+1)+1 by rw[List.length_append,HMC.out];rfl)
   have HS6:=hid (show w.heap.size≤w4.heap.size from hf4.out.size)
   replace h6:=hid h6
   cases dp
   ·by_cases hd:32<m+1
    ·have hd1:decide ((32:Int)<(m:Int)+1)=true:=decide_eq_true (by omega)
     go_wp2_with (first
      |(go_at_call 175;refine(fU h6.out (m+1) HL6.out).mono ?_;rintro e w' ⟨rfl,rfl⟩))
     go_ret
     have hfin:=fY h6.out true (by rw[HDP.out,HM.out,decide_eq_true hd];rfl)
     exact⟨rfl,gg,hfin.1,by rcases HGG.out with e | e;exact .inl e;exact .inr (Nat.le_trans HS6.out e),HF6.out.trans hfin.2 (by rcases HGG.out with e | e;exact .inl e;exact .inr (Nat.le_trans HS6.out e))⟩
    ·have hd1:decide ((32:Int)<(m:Int)+1)=false:=decide_eq_false (by omega)
     go_wp2_with (first
      |(go_at_call 175;refine(fU h6.out (m+1) HL6.out).mono ?_;rintro e w' ⟨rfl,rfl⟩))
     go_ret
     have hfin:=fY h6.out (decide ((8:Int)<(ll:Int))) (by rw[HDP.out,HM.out,decide_eq_false hd,HLI.out,Bool.false_or,Bool.false_or];exact decide_eq_decide.2 (by omega))
     exact⟨rfl,gg,hfin.1,by rcases HGG.out with e | e;exact .inl e;exact .inr (Nat.le_trans HS6.out e),HF6.out.trans hfin.2 (by rcases HGG.out with e | e;exact .inl e;exact .inr (Nat.le_trans HS6.out e))⟩
   ·go_wp2
    go_ret
    have hfin:=fY h6.out true (by rw[HDP.out];rfl)
    exact⟨rfl,gg,hfin.1,by rcases HGG.out with e | e;exact .inl e;exact .inr (Nat.le_trans HS6.out e),HF6.out.trans hfin.2 (by rcases HGG.out with e | e;exact .inl e;exact .inr (Nat.le_trans HS6.out e))⟩
theorem OM {w:World} {N P M n L:Nat} {o:St} (h:cU w N P M n L o) (k:Nat) (hk:k<256) (hv:pU o.lv k=true) (hkk:k=108) (hlen:o.lv.length<1000000) (hp:(cH (bG o k).lv).parts<4611686018427387904) (hn:o.nodes<4611686018427387904) (hli:(cH o.lv).lists<4611686018427387904) :
  Calls Tryz.prog 145 #[.pointer (some ⟨P,0,none⟩),.int .u8 108] w fun e w'=>e=.returned (.bool true)∧∃ L',cU w' N P M n L' (lK o k)∧(L'=L∨w.heap.size≤L')∧Fr P L w w':=by
 obtain⟨i0,hi0,hz0,hz1,hz2⟩:=info_parts vV
 obtain⟨m,hm⟩:=h.len
 obtain⟨b,hb⟩:=fI (l:=o.lv) (i:=m) (by omega)
 have hT:cH o.lv=b:=by unfold cH;rw[hm,Nat.add_sub_cancel];exact eU hb
 rw[hT]at hli
 have HT:=hid hT
 have H:=hid h
 have HV:=hid hv
 have HM:=hid hm
 have HB:=hid hb
 have HMC:=hid ((vU o k).trans hm)
 have hm9:m<1000000:=by omega
 obtain⟨nn,hnn⟩:∃ nn,o.nodes=nn:=⟨_,rfl⟩
 obtain⟨ll,hll⟩:∃ ll,b.lists=ll:=⟨_,rfl⟩
 have HNN:=hid hnn
 have HLL:=hid hll
 rw[hll]at hli
 rw[hnn]at hn
 have HKK:=hid hkk
 have h110:=hid (show k≠110 by omega)
 have HLI:=hid (show (kG o k).lists=ll+1 by unfold kG;rw[hT,hll,if_pos hkk])
 have HCL:=hid (show [.int .u8 108,.int .i64 (nn:Int),.int .i64 ((ll:Int)+1),.int .i64 0,.int .i64 0,.int .i64 0,.bool false,.int .i64 0]=cL (kG o k) by unfold cL kG;rw[hT,hll,hnn,if_pos hkk,hkk];rfl)
 clear h hv hm hb hT hkk hnn hll hlen
 obtain⟨dp,hdp⟩:∃ dp,o.deep=dp:=⟨_,rfl⟩
 have HDP:=hid hdp
 clear hdp
 go_enter Tryz.func145,Tryz.ntmps145
 go_wp2_with (first
  |(go_at_call 182;refine(nP H.out k hk 108 (by rw[HKK.out];rfl) true HV.out).mono ?_;rintro e w' ⟨rfl,j,rfl⟩;have h1:=H.out.drewN j;have HF:=hid ((Fr.refl P L w).drewN j);generalize w.drewN j=w1 at h1 HF;have c2:=h1.c2;rw[HNN.out]at c2;have b2:=(h1.at HB.out).2.2.1;rw[HLL.out]at b2;have hPs:=h1.tV;have hLs:=h1.uB.1;replace h1:=hid h1))
 have HA:=hid (vT h1.out HM.out HB.out HNN.out HLL.out)
 have HL:=hid (sE h1.out HM.out HB.out HNN.out HLL.out)
 go_region_held3 (fun w'=>w'.cell? ⟨P,2,none⟩=some (.int .i64 (nn:Int))∧w'.cell? ⟨L,m * 8+2,none⟩=some (.int .i64 (ll:Int))) (go_keep)
  (first
   |(go_at_call 176;refine HA.out.mono ?_;rintro e w2 ⟨rfl,h2⟩;have d2:=h2.c2;have e2:=h2.b2;have hs2:=h2.size;replace h2:=hid h2)
   |(go_at_call 176;refine(HL.out _).mono ?_;rintro e w' ⟨rfl,w2,rfl,h2⟩;have d2:=h2.c2;have e2:=h2.b2;have hs2:=h2.size;replace h2:=hid h2))
 all_goals
  obtain⟨w3,hw3⟩:∃ w3,w2.alloc (.cells #[.int .u8 108,.int .i64 (nn:Int),.int .i64 (ll:Int),.int .i64 0,.int .i64 0,.int .i64 0,.bool false,.int .i64 0] 184)=w3:=⟨_,rfl⟩
  have hB3:Below w2.heap.size w2 w3:=hw3▸(Below.refl _ w2).alloc (Nat.le_refl _) _
  have hx3:OK w3 w2.heap.size 108 nn ll:=by subst hw3;constructor<;>simp
  have hg3:w2.heap.size<w3.heap.size:=by subst hw3;simp
  have hfr3:w3.frozen? ⟨w2.heap.size,2,none⟩=false:=by subst hw3;simp
  have hgP:P<w2.heap.size:=h2.out.op.tV
  have hgL:L<w2.heap.size:=h2.out.op.uB.1
  rw[hw3]
  clear hw3
  have hB3':Below w2.heap.size w2 (w3.setCell ⟨w2.heap.size,2,none⟩ (.int .i64 ((ll:Int)+1))):=hB3.setCell (p:=⟨w2.heap.size,2,none⟩) (Nat.le_refl _) _
  have h3:=h2.out.op.below hB3'
  have hx3':OK (w3.setCell ⟨w2.heap.size,2,none⟩ (.int .i64 ((ll:Int)+1))) w2.heap.size 108 nn (ll+1):=by
   have e:∀ i,i≠2→(w3.setCell ⟨w2.heap.size,2,none⟩ (.int .i64 ((ll:Int)+1))).cell? ⟨w2.heap.size,i,none⟩=w3.cell? ⟨w2.heap.size,i,none⟩:=fun i hi=>World.cell?_setCell_other _ _ _ _ (fun e=>by injection e with _ e _;omega)
   exact⟨(e 0 (by omega)).trans hx3.k0,(e 1 (by omega)).trans hx3.k1,World.cell?_setCell_same' _ _ _ (by rw[hx3.k2];rfl),(e 3 (by omega)).trans hx3.k3,(e 4 (by omega)).trans hx3.k4,(e 5 (by omega)).trans hx3.k5,(e 6 (by omega)).trans hx3.k6,(e 7 (by omega)).trans hx3.k7⟩
  have HF3:=hid ((HF.out.trans h2.out.fr (.inl rfl)).trans (Fr.dB (L:=L) hB3' h2.out.op.tV) (.inl rfl))
  have x2:=hx3.k2
  have hg3':w2.heap.size<(w3.setCell ⟨w2.heap.size,2,none⟩ (.int .i64 ((ll:Int)+1))).heap.size:=Nat.lt_of_lt_of_le hg3 (KeepsOthers.setCell w3 _ _).size
  clear hB3 hx3 hB3' hg3
  replace h3:=hid h3
  replace hx3':=hid hx3'
  replace hg3':=hid hg3'
  go_wp2_with (first
   |(go_at_call 183;refine(pV (show cU _ N P M n L (bG o k) by unfold bG;rw[if_neg h110.out];exact h3.out) k hk 108 (by rw[HKK.out];rfl) hp (by unfold bG;rw[if_neg h110.out,HNN.out];exact hn)).mono ?_;rintro e w4 ⟨rfl,h4,hf4⟩;have hx4:=hx3'.out.of_block (hf4.block w2.heap.size hg3'.out (by omega) (by omega));have hs4:=Nat.lt_of_lt_of_le hg3'.out hf4.size;replace hf4:=hid (HF3.out.trans hf4 (.inl rfl))))
  obtain⟨cap0,r1,own⟩:=h4.row
  rw[HMC.out]at r1 own
  have c3:=h4.c3
  rw[show (bE (bG o k) k).deep=o.deep from by unfold bE bG;split<;>rfl,HDP.out]at c3
  have f0:=h4.fz
  have hPw:=h4.tV
  have hLw:=h4.uB.1
  have hLP:=h4.qY
  have hNw:N≤w4.heap.size:=by have:=h4.uB;omega
  have hga:(some w2.heap.size:Option Nat)≠(Value.slice (some ⟨L,0,none⟩) (m+1) cap0).ownBlock:=fun e=>by
   simp only[Value.ownBlock,Option.some.injEq]at e;omega
  have hgPn:w2.heap.size≠P:=by omega
  have hg4:w2.heap.size<w4.heap.size:=by omega
  have hx4a:=hid (fun ob=>hx4.of_block (Below.heap_alloc w4 ob w2.heap.size hg4))
  obtain⟨k0,k1,k2,k3,k4,k5,k6,k7⟩:=id hx4
  have HX4:=hid hx4
  have H4:=hid h4
  clear h4 hx4
  go_region_law
   ((refine step_append_lies _ (by rfl) _ _ _ (by rfl) N 184 i0 _ 8 64 Tryz.underlying149 hi0 hz0 hz1 hz2 rfl (by omega) (.slice (some ⟨L,0,none⟩) (m+1) cap0) (m+1) _ (by rfl) ((own.alloc _).drew) ⟨w4.heap.size,0,none⟩ 1 1 [.int .u8 108,.int .i64 (nn:Int),.int .i64 ((ll:Int)+1),.int .i64 0,.int .i64 0,.int .i64 0,.bool false,.int .i64 0] (by rfl) (by rfl) (World.news_of_block (cs:=#[.int .u8 108,.int .i64 (nn:Int),.int .i64 ((ll:Int)+1),.int .i64 0,.int .i64 0,.int .i64 0,.bool false,.int .i64 0]) (t:=184) (fr:=(0,0)) (heap_alloc_new w4 _)) (by simp[Value.oneCell']) (by omega) (by unfold maxLen;omega) (by omega) (by simp;omega) (w4.heap.size+1) (by simp) ?_;intro gg cap w5 hown1 hgrow hat hlt;have hb5:w5.heap[w2.heap.size]?=w4.heap[w2.heap.size]?:=(hgrow.block w2.heap.size (by simp;omega) hga).trans (Below.heap_alloc w4 _ w2.heap.size hg4);have hx5:=hid (HX4.out.of_block hb5);have hx6:=hid (fun v=>HX4.out.of_block (W':=w5.setCell ⟨P,1,none⟩ v) ((Below.heap_setCell w5 _ v w2.heap.size hgPn).trans hb5));have hc5:w5.cell? ⟨P,1,none⟩=w4.cell? ⟨P,1,none⟩:=World.cell?_of_block ((hgrow.block P (by simp;omega) (fun e=>by simp only[Value.ownBlock,Option.some.injEq]at e;omega)).trans (Below.heap_alloc w4 _ P hPw));have hf5:w5.frozen? ⟨P,1,none⟩=w4.frozen? ⟨P,1,none⟩:=World.frozen?_of_block ((hgrow.block P (by simp;omega) (fun e=>by simp only[Value.ownBlock,Option.some.injEq]at e;omega)).trans (Below.heap_alloc w4 _ P hPw));rw[r1]at hc5;rw[f0 1]at hf5))
  all_goals
   rw[HCL.out]at hown1
   obtain⟨hgg,h6,hf6⟩:=cU.more H4.out HMC.out hgrow (kG o k) hk hown1 hat
   have hx7:=(hx6.out (.slice (some ⟨gg,0,none⟩) (m+1+1) cap)).k2
   have HF6:=hid (hf4.out.trans hf6 (.inl rfl))
   have HGG:=hid hgg
   clear hx5 hx6 hb5 hown1 hgrow hat hc5 hf5 r1 own c3 f0 hf6 hgg hx4a HX4 k0 k1 k2 k3 k4 k5 k6 k7
   generalize w5.setCell ⟨P,1,none⟩ (.slice (some ⟨gg,0,none⟩) (m+1+1) cap)=w6 at h6 HF6 hx7
   have c3:=h6.c3
   simp only[pW,HDP.out]at c3
   have f0:=h6.fz
   have HL6:=hid (show ((bE (bG o k) k).lv++[kG o k]).length=(m+1)+1 by rw[List.length_append,HMC.out];rfl)
   have HS6:=hid (show w.heap.size≤w4.heap.size from hf4.out.size)
   replace h6:=hid h6
   cases dp
   ·by_cases hd:32<m+1
    ·have hd1:decide ((32:Int)<(m:Int)+1)=true:=decide_eq_true (by omega)
     go_wp2_with (first
      |(go_at_call 175;refine(fU h6.out (m+1) HL6.out).mono ?_;rintro e w' ⟨rfl,rfl⟩))
     go_ret
     have hfin:=fY h6.out true (by rw[HDP.out,HM.out,decide_eq_true hd];rfl)
     exact⟨rfl,gg,hfin.1,by rcases HGG.out with e | e;exact .inl e;exact .inr (Nat.le_trans HS6.out e),HF6.out.trans hfin.2 (by rcases HGG.out with e | e;exact .inl e;exact .inr (Nat.le_trans HS6.out e))⟩
    ·have hd1:decide ((32:Int)<(m:Int)+1)=false:=decide_eq_false (by omega)
     go_wp2_with (first
      |(go_at_call 175;refine(fU h6.out (m+1) HL6.out).mono ?_;rintro e w' ⟨rfl,rfl⟩))
     go_ret
     have hfin:=fY h6.out (decide ((8:Int)<((ll:Int)+1))) (by rw[HDP.out,HM.out,decide_eq_false hd,HLI.out,Bool.false_or,Bool.false_or];exact decide_eq_decide.2 (by omega))
     exact⟨rfl,gg,hfin.1,by rcases HGG.out with e | e;exact .inl e;exact .inr (Nat.le_trans HS6.out e),HF6.out.trans hfin.2 (by rcases HGG.out with e | e;exact .inl e;exact .inr (Nat.le_trans HS6.out e))⟩
   ·go_wp2
    go_ret
    have hfin:=fY h6.out true (by rw[HDP.out];rfl)
    exact⟨rfl,gg,hfin.1,by rcases HGG.out with e | e;exact .inl e;exact .inr (Nat.le_trans HS6.out e),HF6.out.trans hfin.2 (by rcases HGG.out with e | e;exact .inl e;exact .inr (Nat.le_trans HS6.out e))⟩
theorem ON {w:World} {N P M n L:Nat} {o:St} (h:cU w N P M n L o) (k:Nat) (hk:k<256) (hv:pU o.lv k=true) (hkk:k=110) (hlen:o.lv.length<1000000) (hp:(cH (bG o k).lv).parts<4611686018427387904) (hn:o.nodes<4611686018427387904) (hli:(cH o.lv).lists<4611686018427387904) :
  Calls Tryz.prog 145 #[.pointer (some ⟨P,0,none⟩),.int .u8 110] w fun e w'=>e=.returned (.bool true)∧∃ L',cU w' N P M n L' (lK o k)∧(L'=L∨w.heap.size≤L')∧Fr P L w w':=by
 obtain⟨i0,hi0,hz0,hz1,hz2⟩:=info_parts vV
 obtain⟨m,hm⟩:=h.len
 obtain⟨b,hb⟩:=fI (l:=o.lv) (i:=m) (by omega)
 have hT:cH o.lv=b:=by unfold cH;rw[hm,Nat.add_sub_cancel];exact eU hb
 rw[hT]at hli
 have HT:=hid hT
 have H:=hid h
 have HV:=hid hv
 have HM:=hid hm
 have HB:=hid hb
 have HMC:=hid ((vU o k).trans hm)
 have hm9:m<1000000:=by omega
 obtain⟨nn,hnn⟩:∃ nn,o.nodes=nn:=⟨_,rfl⟩
 obtain⟨ll,hll⟩:∃ ll,b.lists=ll:=⟨_,rfl⟩
 have HNN:=hid hnn
 have HLL:=hid hll
 rw[hll]at hli
 rw[hnn]at hn
 have HKK:=hid hkk
 have h108:=hid (show k≠108 by omega)
 have HLI:=hid (show (kG o k).lists=ll by unfold kG;rw[hT,hll,if_neg h108.out];rfl)
 have HCL:=hid (show [.int .u8 110,.int .i64 (nn:Int),.int .i64 (ll:Int),.int .i64 0,.int .i64 0,.int .i64 0,.bool false,.int .i64 0]=cL (kG o k) by unfold cL kG;rw[hT,hll,hnn,if_neg h108.out,hkk];rfl)
 obtain⟨y,hy⟩:∃ y,lJ o.lv=y:=⟨_,rfl⟩
 obtain⟨d,hd⟩:=fI (l:=o.lv) (i:=y) (hy▸DP (by omega))
 have HY:=hid hy
 have HD:=hid hd
 clear hy hd
 clear h hv hm hb hT hkk hnn hll hlen
 obtain⟨dp,hdp⟩:∃ dp,o.deep=dp:=⟨_,rfl⟩
 have HDP:=hid hdp
 clear hdp
 go_enter Tryz.func145,Tryz.ntmps145
 go_wp2_with (first
  |(go_at_call 182;refine(nP H.out k hk 110 (by rw[HKK.out];rfl) true HV.out).mono ?_;rintro e w' ⟨rfl,j,rfl⟩;have h1:=H.out.drewN j;have HF:=hid ((Fr.refl P L w).drewN j);generalize w.drewN j=w1 at h1 HF;have c2:=h1.c2;rw[HNN.out]at c2;have b2:=(h1.at HB.out).2.2.1;rw[HLL.out]at b2;have hPs:=h1.tV;have hLs:=h1.uB.1;replace h1:=hid h1))
 have HA:=hid (vT h1.out HM.out HB.out HNN.out HLL.out)
 have HL:=hid (sE h1.out HM.out HB.out HNN.out HLL.out)
 go_region_held3 (fun w'=>w'.cell? ⟨P,2,none⟩=some (.int .i64 (nn:Int))∧w'.cell? ⟨L,m * 8+2,none⟩=some (.int .i64 (ll:Int))) (go_keep)
  (first
   |(go_at_call 176;refine HA.out.mono ?_;rintro e w2 ⟨rfl,h2⟩;have d2:=h2.c2;have e2:=h2.b2;have hs2:=h2.size;replace h2:=hid h2)
   |(go_at_call 176;refine(HL.out _).mono ?_;rintro e w' ⟨rfl,w2,rfl,h2⟩;have d2:=h2.c2;have e2:=h2.b2;have hs2:=h2.size;replace h2:=hid h2))
 all_goals
  obtain⟨w3,hw3⟩:∃ w3,w2.alloc (.cells #[.int .u8 110,.int .i64 (nn:Int),.int .i64 (ll:Int),.int .i64 0,.int .i64 0,.int .i64 0,.bool false,.int .i64 0] 184)=w3:=⟨_,rfl⟩
  have hB3:Below w2.heap.size w2 w3:=hw3▸(Below.refl _ w2).alloc (Nat.le_refl _) _
  have hx3:OK w3 w2.heap.size 110 nn ll:=by subst hw3;constructor<;>simp
  have hg3:w2.heap.size<w3.heap.size:=by subst hw3;simp
  have hfr3:w3.frozen? ⟨w2.heap.size,2,none⟩=false:=by subst hw3;simp
  have hgP:P<w2.heap.size:=h2.out.op.tV
  have hgL:L<w2.heap.size:=h2.out.op.uB.1
  rw[hw3]
  clear hw3
  have h3:=h2.out.op.below hB3
  have HF3:=hid ((HF.out.trans h2.out.fr (.inl rfl)).trans (Fr.dB (L:=L) hB3 h2.out.op.tV) (.inl rfl))
  have h3n:=h3.put HD.out (j:=6) (by omega) (.bool true) (b':=K3 d) rfl rfl
  rw[oE HD.out,← HY.out]at h3n
  have hx3n:=hx3.of_block (W':=w3.setCell ⟨L,y * 8+6,none⟩ (.bool true)) (Below.heap_setCell w3 _ _ w2.heap.size (by show w2.heap.size≠L;omega))
  have hg3':w2.heap.size<(w3.setCell ⟨L,y * 8+6,none⟩ (.bool true)).heap.size:=Nat.lt_of_lt_of_le hg3 (KeepsOthers.setCell w3 _ _).size
  have d6:=(h3.at HD.out).2.2.2.2.2.2.1
  have f1:=h3.tW
  clear hB3 hg3 hx3
  rw[HY.out]at h3n
  replace h3:=hid h3
  replace hx3n:=hid hx3n
  replace h3n:=hid h3n
  replace hg3':=hid hg3'
  go_wp2_with (first
   |(go_at_call 185;refine(AR h3.out y HY.out).mono ?_;rintro e w' ⟨rfl,rfl⟩)
   |(go_at_call 183;refine(pV (show cU _ N P M n L (bG o k) by unfold bG;rw[if_pos HKK.out,HY.out];exact h3n.out.1) k hk 110 (by rw[HKK.out];rfl) hp (by unfold bG;rw[if_pos HKK.out];show o.nodes<_;rw[HNN.out];exact hn)).mono ?_;rintro e w4 ⟨rfl,h4,hf4⟩;have hx4:=hx3n.out.of_block (hf4.block w2.heap.size hg3'.out (by omega) (by omega));have hs4:=Nat.lt_of_lt_of_le hg3'.out hf4.size;replace hf4:=hid ((HF3.out.trans h3n.out.2 (.inl rfl)).trans hf4 (.inl rfl))))
  obtain⟨cap0,r1,own⟩:=h4.row
  rw[HMC.out]at r1 own
  have c3:=h4.c3
  rw[show (bE (bG o k) k).deep=o.deep from by unfold bE bG;split<;>rfl,HDP.out]at c3
  have f0:=h4.fz
  have hPw:=h4.tV
  have hLw:=h4.uB.1
  have hLP:=h4.qY
  have hNw:N≤w4.heap.size:=by have:=h4.uB;omega
  have hga:(some w2.heap.size:Option Nat)≠(Value.slice (some ⟨L,0,none⟩) (m+1) cap0).ownBlock:=fun e=>by
   simp only[Value.ownBlock,Option.some.injEq]at e;omega
  have hgPn:w2.heap.size≠P:=by omega
  have hg4:w2.heap.size<w4.heap.size:=by omega
  have hx4a:=hid (fun ob=>hx4.of_block (Below.heap_alloc w4 ob w2.heap.size hg4))
  obtain⟨k0,k1,k2,k3,k4,k5,k6,k7⟩:=id hx4
  have HX4:=hid hx4
  have H4:=hid h4
  clear h4 hx4
  go_region_law
   ((refine step_append_lies _ (by rfl) _ _ _ (by rfl) N 184 i0 _ 8 64 Tryz.underlying149 hi0 hz0 hz1 hz2 rfl (by omega) (.slice (some ⟨L,0,none⟩) (m+1) cap0) (m+1) _ (by rfl) ((own.alloc _).drew) ⟨w4.heap.size,0,none⟩ 1 1 [.int .u8 110,.int .i64 (nn:Int),.int .i64 (ll:Int),.int .i64 0,.int .i64 0,.int .i64 0,.bool false,.int .i64 0] (by rfl) (by rfl) (World.news_of_block (cs:=#[.int .u8 110,.int .i64 (nn:Int),.int .i64 (ll:Int),.int .i64 0,.int .i64 0,.int .i64 0,.bool false,.int .i64 0]) (t:=184) (fr:=(0,0)) (heap_alloc_new w4 _)) (by simp[Value.oneCell']) (by omega) (by unfold maxLen;omega) (by omega) (by simp;omega) (w4.heap.size+1) (by simp) ?_;intro gg cap w5 hown1 hgrow hat hlt;have hb5:w5.heap[w2.heap.size]?=w4.heap[w2.heap.size]?:=(hgrow.block w2.heap.size (by simp;omega) hga).trans (Below.heap_alloc w4 _ w2.heap.size hg4);have hx5:=hid (HX4.out.of_block hb5);have hx6:=hid (fun v=>HX4.out.of_block (W':=w5.setCell ⟨P,1,none⟩ v) ((Below.heap_setCell w5 _ v w2.heap.size hgPn).trans hb5));have hc5:w5.cell? ⟨P,1,none⟩=w4.cell? ⟨P,1,none⟩:=World.cell?_of_block ((hgrow.block P (by simp;omega) (fun e=>by simp only[Value.ownBlock,Option.some.injEq]at e;omega)).trans (Below.heap_alloc w4 _ P hPw));have hf5:w5.frozen? ⟨P,1,none⟩=w4.frozen? ⟨P,1,none⟩:=World.frozen?_of_block ((hgrow.block P (by simp;omega) (fun e=>by simp only[Value.ownBlock,Option.some.injEq]at e;omega)).trans (Below.heap_alloc w4 _ P hPw));rw[r1]at hc5;rw[f0 1]at hf5))
  all_goals
   rw[HCL.out]at hown1
   obtain⟨hgg,h6,hf6⟩:=cU.more H4.out HMC.out hgrow (kG o k) hk hown1 hat
   have hx7:=(hx6.out (.slice (some ⟨gg,0,none⟩) (m+1+1) cap)).k2
   have HF6:=hid (hf4.out.trans hf6 (.inl rfl))
   have HGG:=hid hgg
   clear hx5 hx6 hb5 hown1 hgrow hat hc5 hf5 r1 own c3 f0 hf6 hgg hx4a HX4 k0 k1 k2 k3 k4 k5 k6 k7
   generalize w5.setCell ⟨P,1,none⟩ (.slice (some ⟨gg,0,none⟩) (m+1+1) cap)=w6 at h6 HF6 hx7
   have c3:=h6.c3
   simp only[pW,HDP.out]at c3
   have f0:=h6.fz
   have HL6:=hid (show ((bE (bG o k) k).lv++[kG o k]).length=(m+1)+1 by rw[List.length_append,HMC.out];rfl)
   have HS6:=hid (show w.heap.size≤w4.heap.size from hf4.out.size)
   replace h6:=hid h6
   cases dp
   ·by_cases hd:32<m+1
    ·have hd1:decide ((32:Int)<(m:Int)+1)=true:=decide_eq_true (by omega)
     go_wp2_with (first
      |(go_at_call 175;refine(fU h6.out (m+1) HL6.out).mono ?_;rintro e w' ⟨rfl,rfl⟩))
     go_ret
     have hfin:=fY h6.out true (by rw[HDP.out,HM.out,decide_eq_true hd];rfl)
     exact⟨rfl,gg,hfin.1,by rcases HGG.out with e | e;exact .inl e;exact .inr (Nat.le_trans HS6.out e),HF6.out.trans hfin.2 (by rcases HGG.out with e | e;exact .inl e;exact .inr (Nat.le_trans HS6.out e))⟩
    ·have hd1:decide ((32:Int)<(m:Int)+1)=false:=decide_eq_false (by omega)
     go_wp2_with (first
      |(go_at_call 175;refine(fU h6.out (m+1) HL6.out).mono ?_;rintro e w' ⟨rfl,rfl⟩))
     go_ret
     have hfin:=fY h6.out (decide ((8:Int)<(ll:Int))) (by rw[HDP.out,HM.out,decide_eq_false hd,HLI.out,Bool.false_or,Bool.false_or];exact decide_eq_decide.2 (by omega))
     exact⟨rfl,gg,hfin.1,by rcases HGG.out with e | e;exact .inl e;exact .inr (Nat.le_trans HS6.out e),HF6.out.trans hfin.2 (by rcases HGG.out with e | e;exact .inl e;exact .inr (Nat.le_trans HS6.out e))⟩
   ·go_wp2
    go_ret
    have hfin:=fY h6.out true (by rw[HDP.out];rfl)
    exact⟨rfl,gg,hfin.1,by rcases HGG.out with e | e;exact .inl e;exact .inr (Nat.le_trans HS6.out e),HF6.out.trans hfin.2 (by rcases HGG.out with e | e;exact .inl e;exact .inr (Nat.le_trans HS6.out e))⟩
theorem T8 {w:World} {N P M n L:Nat} {o:St} (h:cU w N P M n L o) (k:Nat) (hk:k<256) (hv:pU o.lv k=true) (hlen:o.lv.length<1000000) (hp:(cH (bG o k).lv).parts<4611686018427387904) (hn:o.nodes<4611686018427387904) (hli:(cH o.lv).lists<4611686018427387904) :
  Calls Tryz.prog 145 #[.pointer (some ⟨P,0,none⟩),.int .u8 (k:Int)] w fun e w'=>e=.returned (.bool true)∧∃ L',cU w' N P M n L' (lK o k)∧(L'=L∨w.heap.size≤L')∧Fr P L w w':=by
 by_cases h1:k=108
 ·have:=OM h k hk hv h1 hlen hp hn hli
  rw[h1]at this ⊢;exact this
 by_cases h2:k=110
 ·have:=ON h k hk hv h2 hlen hp hn hli
  rw[h2]at this ⊢;exact this
 exact OL h k hk hv ⟨h1,h2⟩ hlen hp hn hli
end Go.Proofs.YthbigkoihpgcfaaGreatDoor.Tr
