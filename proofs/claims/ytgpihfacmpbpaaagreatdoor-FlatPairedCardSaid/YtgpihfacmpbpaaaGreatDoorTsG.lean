/-
  The landed tree's open nodes: leave.
-/
import Derived.Test.YtgpihfacmpbpaaaGreatDoorTsF
namespace Go.Proofs.YtgpihfacmpbpaaaGreatDoor.Tr
open Go.RowKit
theorem dI.aEJ {w:World} {N P M n L:Nat} {o:St} (h:dI w N P M n L o) {m cap:Nat} (hm:o.lv.length=m+1) (h1:0<m) (hc:w.cell? ⟨P,1,none⟩=some (.slice (some ⟨L,0,none⟩) (m+1) cap)) :
  dI (w.setCell ⟨P,1,none⟩ (.slice (some ⟨L,0,none⟩) m cap)) N P M n L { o with lv:=o.lv.take m }∧Fr P L w (w.setCell ⟨P,1,none⟩ (.slice (some ⟨L,0,none⟩) m cap)):=by
 obtain⟨cp,r1,own⟩:=h.row
 rw[hm]at r1 own
 rw[hc]at r1
 injection r1 with r1
 injection r1 with _ _ r1
 subst r1
 have hs:∀ q,q≠P→(w.setCell ⟨P,1,none⟩ (.slice (some ⟨L,0,none⟩) m cap)).heap[q]?=w.heap[q]?:=fun q hq=>Below.heap_setCell _ _ _ _ hq
 have hcc:∀ q,q≠1→(w.setCell ⟨P,1,none⟩ (.slice (some ⟨L,0,none⟩) m cap)).cell? ⟨P,q,none⟩=w.cell? ⟨P,q,none⟩:=fun q hq=>World.cell?_setCell_other _ _ _ _ (fun e=>by injection e with _ e _;omega)
 have ht:(o.lv.take m).length=m:=by rw[List.length_take];omega
 refine⟨⟨(hcc 0 (by omega)).trans h.c0,⟨cap,?_,?_⟩,(hcc 2 (by omega)).trans h.c2,(hcc 3 (by omega)).trans h.c3,(hcc 4 (by omega)).trans h.c4,fun i=>by rw[World.frozen?_setCell];exact h.fz i,h.map.aX (hs M h.uN),?_,?_,fun c hc'=>h.small c (List.mem_of_mem_take hc'),h.zE,h.o4,h.xV,h.uN⟩,
  rfl,rfl,rfl,(KeepsOthers.setCell w _ _).size,fun q hq h1 h2=>hs q h1,fun i hi=>hcc i (by omega)⟩
 ·rw[ht];exact World.cell?_setCell_same' _ _ _ (by rw[hc];rfl)
 ·rw[ht]
  have h2:=Ba.oD own (show m≤m+1 by omega)
  rw[Ba.DA cL NP o.lv m (by omega)]at h2
  exact Ba.iT h2 _ (fun e=>h.o4 (by simpa[Value.ownBlock] using e))
 ·show 0<(o.lv.take m).length
  rw[ht];exact h1
 ·show ((o.lv.take m).getD 0 fN).kind=95
  rw[getD_take _ _ _ _ h1];exact h.head
set_option maxHeartbeats 4000000 in
theorem uE {w:World} {N P M n L:Nat} {o:St} (h:dI w N P M n L o) (h1:¬ 1<o.lv.length) :
  Calls Tryz.prog 71 #[.pointer (some ⟨P,0,none⟩)] w fun e w'=>e=.returned (.bool false)∧w=w':=by
 have HI:=Lib.hid (show decide (1<o.lv.length)=false from decide_eq_false h1)
 have H:=Lib.hid h
 clear h h1
 go_enter Tryz.func71,Tryz.ntmps71
 go_wp2_with (go_at_call 40;refine(gZ H.out false HI.out).mono ?_;rintro e w' ⟨rfl,rfl⟩)
 go_ret
 exact⟨rfl,rfl⟩
theorem S4 {w1:World} {N P M n L:Nat} {o:St} (h1:dI w1 N P M n L o) (cs:Array Value) (q pp:Nat) (hq:cs[0]?=some (.int .u8 (q:Int))) (hp:cs[3]?=some (.int .i64 (pp:Int))) {m cap:Nat} (_hm:o.lv.length=m+1) (_h0:0<m)
  (hc:w1.cell? ⟨P,1,none⟩=some (.slice (some ⟨L,0,none⟩) (m+1) cap)) :
  ∃ w3,w1.alloc (.cells cs 110)=w3∧dI w3 N P M n L o∧Fr P L w1 w3∧w3.cell? ⟨w1.heap.size,0,none⟩=some (.int .u8 (q:Int))∧w3.cell? ⟨w1.heap.size,3,none⟩=some (.int .i64 (pp:Int))∧w3.cell? ⟨P,1,none⟩=some (.slice (some ⟨L,0,none⟩) (m+1) cap)∧P<w1.heap.size∧L<w1.heap.size:=by
 have hB:=(Below.refl w1.heap.size w1).alloc (Nat.le_refl _) (.cells cs 110)
 refine⟨_,rfl,h1.below hB,Fr.gC hB h1.nP,?_,?_,(hB.cell (p:=⟨P,1,none⟩) h1.nP).trans hc,h1.nP,h1.tR.1⟩<;>simp[*]
theorem S5 {w3:World} {N P M n L g:Nat} {o:St} (h3:dI w3 N P M n L o) {q pp m cap:Nat} (hm:o.lv.length=m+1) (h0:0<m) (hgP:P<g) (k0:w3.cell? ⟨g,0,none⟩=some (.int .u8 (q:Int))) (k3:w3.cell? ⟨g,3,none⟩=some (.int .i64 (pp:Int)))
  (hc:w3.cell? ⟨P,1,none⟩=some (.slice (some ⟨L,0,none⟩) (m+1) cap)) (W:World) (hW:W=(w3.setCell ⟨P,1,none⟩ (.slice (some ⟨L,0,none⟩) m cap)).drew) :
  dI W N P M n L { o with lv:=o.lv.take m }∧Fr P L w3 W∧W.cell? ⟨g,0,none⟩=some (.int .u8 (q:Int))∧W.cell? ⟨g,3,none⟩=some (.int .i64 (pp:Int)):=by
 subst hW
 obtain⟨h4,f4⟩:=h3.aEJ hm h0 hc
 have hg:∀ i,((w3.setCell ⟨P,1,none⟩ (.slice (some ⟨L,0,none⟩) m cap)).drew).cell? ⟨g,i,none⟩=w3.cell? ⟨g,i,none⟩:=fun i =>
  (World.cell?_of_block (w:=w3.setCell ⟨P,1,none⟩ (.slice (some ⟨L,0,none⟩) m cap)) rfl).trans (World.cell?_of_block (Below.heap_setCell w3 _ _ g (show g≠P by omega)))
 exact⟨h4.of_heap rfl,f4.of_heap rfl rfl rfl rfl,(hg 0).trans k0,(hg 3).trans k3⟩
theorem NV {o:St} {m q pp:Nat} {b d:Lv} (hm:o.lv.length=m+1) (h0:0<m) (hT:aT o.lv=b) (hq:b.kind=q) (hp:b.parts=pp) (hd:o.lv[m - 1]?=some d) :
  dG o=if q=108∨q=116 then decide (0<pp) else if q=114 then decide (0<pp) && (d.lW==0 || d.lW==pp) else true:=by
 unfold dG
 rw[hT,hq,hp,if_neg (by omega),show o.lv.length - 2=m - 1 from by omega,fZ hd]
theorem uP {o:St} {m q:Nat} {b:Lv} (hm:o.lv.length=m+1) (hT:aT o.lv=b) (hq:b.kind=q) (hn:q≠114):cY o={ o with lv:=o.lv.take m }:=by
 unfold cY
 rw[hT,hq,if_neg (by omega),hm,Nat.add_sub_cancel]
theorem NW {o:St} {m pp:Nat} {b d:Lv} (hm:o.lv.length=m+1) (h0:0<m) (hT:aT o.lv=b) (hq:b.kind=114) (hp:b.parts=pp) (hd:o.lv[m - 1]?=some d) :
  cY o=CM { o with lv:=o.lv.take m } (m - 1) d pp:=by
 have hd':(o.lv.take m)[m - 1]?=some d:=by rw[List.getElem?_take,if_pos (by omega)];exact hd
 unfold cY CM
 rw[hT,hq,hp,hm,Nat.add_sub_cancel,show m+1 - 2=m - 1 from by omega,fZ hd]
 by_cases hc:d.lW=0
 ·rw[if_pos ⟨rfl,hc⟩,if_pos hc]
  simp only[]
  rw[mW hd']
 ·rw[if_neg (fun e=>hc e.2),if_neg hc]
theorem XO {w4:World} {N P M n L m g pp:Nat} {o:St} (h:dI w4 N P M n L o) (hm:o.lv.length=m+1) (k3:w4.cell? ⟨g,3,none⟩=some (.int .i64 (pp:Int))) :
  Calls Tryz.prog 70 #[.pointer (some ⟨P,0,none⟩)] w4.drew fun e w5=>e=.returned (.pointer (some ⟨L,m * 8,none⟩))∧dI w5 N P M n L o∧Fr P L w4 w5∧w5.cell? ⟨g,3,none⟩=some (.int .i64 (pp:Int)) :=
 (jH (h.of_heap (w':=w4.drew) rfl) m hm).mono fun e w2 ⟨he,k,hk⟩=>⟨he,h.of_heap (by rw[hk];rfl),(Fr.refl P L w4).of_heap (by rw[hk];rfl) (by rw[hk];rfl) (by rw[hk];rfl) (by rw[hk];rfl),by rw[hk];exact k3⟩
set_option maxRecDepth 100000 in
set_option maxHeartbeats 8000000 in
theorem tE {w:World} {N P M n L:Nat} {o:St} (h:dI w N P M n L o) (h1:1<o.lv.length) :
  Calls Tryz.prog 71 #[.pointer (some ⟨P,0,none⟩)] w fun e w'=>e=.returned (.bool (dG o))∧Fr P L w w'∧(dG o=true→dI w' N P M n L (cY o)):=by
 have HI:=Lib.hid (show decide (1<o.lv.length)=true from decide_eq_true h1)
 obtain⟨m,hm⟩:=h.len
 obtain⟨b,hb⟩:=dM (l:=o.lv) (i:=m) (by omega)
 have hT:aT o.lv=b:=by unfold aT;rw[hm,Nat.add_sub_cancel];exact fZ hb
 have hbd:=h.bound
 unfold maxLen at hbd
 obtain⟨cap,c1,own⟩:=h.row
 rw[hm]at c1 hbd
 have hcap:m+1≤cap:=by
  rcases own.2 with⟨hv,_⟩ | ⟨g,cp,cur,hv,hg1,hg,hle,_⟩
  ·cases hv
  ·injection hv with _ _ e;subst e;omega
 have h0:0<m:=by omega
 have hmc:m≤cap:=by omega
 have H:=Lib.hid h
 have HM:=Lib.hid hm
 have HB:=Lib.hid hb
 have HT:=Lib.hid hT
 have HC1:=Lib.hid c1
 obtain⟨q,hq⟩:∃ q,b.kind=q:=⟨_,rfl⟩
 obtain⟨pp,hpp⟩:∃ pp,b.parts=pp:=⟨_,rfl⟩
 obtain⟨x1,hx1⟩:∃ x,b.start=x:=⟨_,rfl⟩
 obtain⟨x2,hx2⟩:∃ x,b.lists=x:=⟨_,rfl⟩
 obtain⟨x4,hx4⟩:∃ x,b.rank=x:=⟨_,rfl⟩
 obtain⟨x5,hx5⟩:∃ x,b.lW=x:=⟨_,rfl⟩
 obtain⟨x6,hx6⟩:∃ x,b.iO=x:=⟨_,rfl⟩
 obtain⟨x7,hx7⟩:∃ x,b.bytes=x:=⟨_,rfl⟩
 have hcells:=Lib.hid (fun j=>(h.drewN j).at hb)
 rw[hq,hpp,hx1,hx2,hx4,hx5,hx6,hx7]at hcells
 have HQ:=Lib.hid hq
 have HPP:=Lib.hid hpp
 obtain⟨d,hd⟩:=dM (l:=o.lv) (i:=m - 1) (by omega)
 have HLB:=Lib.hid (NV hm h0 hT hq hpp hd)
 have HD1:=Lib.hid hd
 clear hd
 clear h hm hb hT h1 own c1 hq hpp hx1 hx2 hx4 hx5 hx6 hx7
 go_enter Tryz.func71,Tryz.ntmps71
 go_wp2_with (first
  |(go_at_call 40;refine(gZ H.out true HI.out).mono ?_;rintro e w' ⟨rfl,rfl⟩)
  |(go_at_call 70;refine(jH H.out m HM.out).mono ?_;rintro e w' ⟨rfl,j,rfl⟩;have h1:=H.out.drewN j;have hce:=hcells.out j;have HF:=Lib.hid ((Fr.refl P L w).drewN j);have c1:(w.drewN j).cell? ⟨P,1,none⟩=_:=HC1.out;generalize w.drewN j=w1 at h1 hce HF c1;obtain⟨b0,b1,b2,b3,b4,b5,b6,b7⟩:=hce;replace h1:=Lib.hid h1))
 obtain⟨w3,hw3,h3,hf3,k0,k3,c3,hPs,hLs⟩:=S4 h1.out #[.int .u8 (q:Int),.int .i64 (x1:Int),.int .i64 (x2:Int),.int .i64 (pp:Int),.int .i64 (x4:Int),.int .i64 (x5:Int),.bool x6,.int .i64 (x7:Int)] q pp rfl rfl HM.out h0 c1
 rw[hw3]
 obtain⟨g,hg⟩:∃ g,w1.heap.size=g:=⟨_,rfl⟩
 rw[hg]at k0 k3 hPs hLs ⊢
 have f0:=h3.fz
 have HF3:=Lib.hid (HF.out.trans hf3 (.inl rfl))
 have HD:=Lib.hid (h3.of_heap (w':=w3.drew) rfl)
 have H3:=Lib.hid h3
 clear b0 b1 b2 b3 b4 b5 b6 b7 hw3 hf3 c1 hg h3
 go_region_law (first
  |(go_simp;go_at_call 72;refine(iQ HD.out m HM.out).mono ?_;rintro e w' ⟨rfl,rfl⟩))
 all_goals
  obtain⟨h4,hf4,e0,e3⟩:=S5 H3.out HM.out h0 hPs k0 k3 c3 _ rfl
  have HF4:=Lib.hid (HF3.out.trans hf4 (.inl rfl))
  clear hf4 k0 k3 c3
  generalize (w3.setCell ⟨P,1,none⟩ (.slice (some ⟨L,0,none⟩) m cap)).drew=w4 at h4 HF4 e0 e3
  have HM4:=Lib.hid (show (o.lv.take m).length=(m - 1)+1 by rw[List.length_take,HM.out];omega)
  have HD4:=Lib.hid (show (o.lv.take m)[m - 1]?=some d by rw[List.getElem?_take,if_pos (by omega)];exact HD1.out)
  have hg4:g<w4.heap.size:=World.block_lt_of_cell? w4 _ e3
  replace h4:=Lib.hid h4
  by_cases q1:q=108
  ·have t1:((q:Int)==108)=true:=vZ q1
   have HR:=Lib.hid (show dG o=decide (0<pp) by rw[HLB.out,if_pos (.inl q1)])
   have HS:=Lib.hid (uP HM.out HT.out HQ.out (by omega))
   clear q1
   go_wp2
   go_ret
   exact⟨Ba.aC (by rw[HR.out]),HF4.out,fun _=>by rw[HS.out];exact h4.out⟩
  by_cases q2:q=116
  ·have t1:((q:Int)==108)=false:=fD q1
   have t2:((q:Int)==116)=true:=vZ q2
   have HR:=Lib.hid (show dG o=decide (0<pp) by rw[HLB.out,if_pos (.inr q2)])
   have HS:=Lib.hid (uP HM.out HT.out HQ.out (by omega))
   clear q1 q2
   go_wp2
   go_ret
   exact⟨Ba.aC (by rw[HR.out]),HF4.out,fun _=>by rw[HS.out];exact h4.out⟩
  by_cases q3:q=114
  ·have t1:((q:Int)==108)=false:=fD q1
   have t2:((q:Int)==116)=false:=fD q2
   have t3:((q:Int)==114)=true:=vZ q3
   have HS:=Lib.hid (NW HM.out h0 HT.out (HQ.out.trans q3) HPP.out HD1.out)
   have HLB2:=Lib.hid (show dG o=(decide (0<pp) && (d.lW==0 || d.lW==pp)) by rw[HLB.out,if_neg (by omega),if_pos q3])
   clear q1 q2 q3
   by_cases hp0:0<pp
   ·have hp1:decide ((0:Int)<(pp:Int))=true:=decide_eq_true (by omega)
    obtain⟨v,hv⟩:∃ v,(d.lW==0 || d.lW==pp)=v:=⟨_,rfl⟩
    have HVV:=Lib.hid hv
    have HR:=Lib.hid (show dG o=v by rw[HLB2.out,decide_eq_true hp0,hv];rfl)
    have HK:=Lib.hid (XO h4.out HM4.out e3)
    clear hv
    go_wp2
    go_region_held3 (fun w'=>w'.cell? ⟨g,3,none⟩=some (.int .i64 (pp:Int))) (first | assumption | go_keep)
     (first
      |(go_at_call 70;refine HK.out.mono ?_;rintro e w5 ⟨rfl,h5,hf5,e5⟩;have hg5:=World.block_lt_of_cell? w5 _ e5;replace h5:=Lib.hid h5;replace hf5:=Lib.hid hf5)
      |(go_at_call 101;refine(aAZ h5.out HD4.out pp v HVV.out).mono ?_;rintro e w6 ⟨rfl,h6,hf6⟩;have e6:=(World.cell?_of_block (w:=w5) (a:=⟨g,3,none⟩) (hf6.block g hg5 (by omega) (by omega))).trans e5;replace h6:=Lib.hid h6;replace hf6:=Lib.hid hf6))
    go_wp2
    go_ret
    exact⟨Ba.aC (by rw[HR.out]),(HF4.out.trans hf5.out (.inl rfl)).trans hf6.out (.inl rfl),fun _=>by rw[HS.out];exact h6.out⟩
   ·obtain rfl:pp=0:=by omega
    have HR:=Lib.hid (show dG o=false by rw[HLB2.out];rfl)
    replace e3:w4.cell? ⟨g,3,none⟩=some (.int .i64 0):=e3
    go_wp2
    go_big_quiet (fail)
    go_wp2
    go_ret
    exact⟨Ba.aC (by rw[HR.out]),HF4.out.drewN _,fun hh=>by rw[HR.out]at hh;cases hh⟩
  ·have t1:((q:Int)==108)=false:=fD q1
   have t2:((q:Int)==116)=false:=fD q2
   have t3:((q:Int)==114)=false:=fD q3
   have HR:=Lib.hid (show dG o=true by rw[HLB.out,if_neg (by omega),if_neg q3])
   have HS:=Lib.hid (uP HM.out HT.out HQ.out q3)
   clear q1 q2 q3
   go_wp2
   go_ret
   exact⟨Ba.aC (by rw[HR.out]),HF4.out,fun _=>by rw[HS.out];exact h4.out⟩
end Go.Proofs.YtgpihfacmpbpaaaGreatDoor.Tr
