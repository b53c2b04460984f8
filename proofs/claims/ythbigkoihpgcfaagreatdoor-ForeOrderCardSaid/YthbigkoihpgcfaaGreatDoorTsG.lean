/-
  Put together.
-/
import Derived.Test.YthbigkoihpgcfaaGreatDoorTsF
import Derived.Test.YthbigkoihpgcfaaGreatDoorVa
import Derived.Test.YthbigkoihpgcfaaGreatDoorVg
import Derived.Test.YthbigkoihpgcfaaGreatDoorShelf
import Derived.Shelf.Abstract
import Derived.Shelf.RegionOpen
import Derived.OwnWalkIn
import Derived.TacticsInMore
import Derived.LoopNIn
import Derived.LoopIn
import Derived.Deep.QuietTactic
import Derived.BigQuiet
import Derived.Maps.AppendAt
import Derived.Sort.QuietIn
import Derived.Stop.RegionWithIn
open Go.Lib (hid)
set_option maxRecDepth 100000
set_option maxHeartbeats 16000000
namespace Go.Proofs.YthbigkoihpgcfaaGreatDoor.Tr
open Go.RowKit
theorem cU.aFM {w:World} {N P M n L:Nat} {o:St} (h:cU w N P M n L o) {m cap:Nat} (hm:o.lv.length=m+1) (h1:0<m) (hc:w.cell? ⟨P,1,none⟩=some (.slice (some ⟨L,0,none⟩) (m+1) cap)) :
  cU (w.setCell ⟨P,1,none⟩ (.slice (some ⟨L,0,none⟩) m cap)) N P M n L { o with lv:=o.lv.take m }∧Fr P L w (w.setCell ⟨P,1,none⟩ (.slice (some ⟨L,0,none⟩) m cap)):=by
 obtain⟨cp,r1,own⟩:=h.row
 rw[hm]at r1 own
 rw[hc]at r1
 injection r1 with r1
 injection r1 with _ _ r1
 subst r1
 have hs:∀ q,q≠P→(w.setCell ⟨P,1,none⟩ (.slice (some ⟨L,0,none⟩) m cap)).heap[q]?=w.heap[q]?:=fun q hq=>Below.heap_setCell _ _ _ _ hq
 have hcc:∀ q,q≠1→(w.setCell ⟨P,1,none⟩ (.slice (some ⟨L,0,none⟩) m cap)).cell? ⟨P,q,none⟩=w.cell? ⟨P,q,none⟩:=fun q hq=>World.cell?_setCell_other _ _ _ _ (fun e=>by injection e with _ e _;omega)
 have ht:(o.lv.take m).length=m:=by rw[List.length_take];omega
 refine⟨⟨(hcc 0 (by omega)).trans h.c0,⟨cap,?_,?_⟩,(hcc 2 (by omega)).trans h.c2,(hcc 3 (by omega)).trans h.c3,(hcc 4 (by omega)).trans h.c4,fun i=>by rw[World.frozen?_setCell];exact h.fz i,h.map.of_block (hs M h.AP),?_,?_,fun c hc'=>h.small c (List.mem_of_mem_take hc'),h.FT,h.qY,h.BP,h.AP⟩,
  rfl,rfl,rfl,(KeepsOthers.setCell w _ _).size,fun q hq h1 h2=>hs q h1,fun i hi=>hcc i (by omega)⟩
 ·rw[ht];exact World.cell?_setCell_same' _ _ _ (by rw[hc];rfl)
 ·rw[ht]
  have h2:=Ba.xY own (show m≤m+1 by omega)
  rw[Ba.QC cL OI o.lv m (by omega)]at h2
  exact Ba.fD h2 _ (fun e=>h.qY (by simpa[Value.ownBlock] using e))
 ·show 0<(o.lv.take m).length
  rw[ht];exact h1
 ·show ((o.lv.take m).getD 0 sD).kind=95
  rw[getD_take _ _ _ _ h1];exact h.head
theorem T9 {w1:World} {N P M n L:Nat} {o:St} (h1:cU w1 N P M n L o) (cs:Array Value) (q pp:Nat) (hq:cs[0]?=some (.int .u8 (q:Int))) (hp:cs[3]?=some (.int .i64 (pp:Int))) {m cap:Nat} (_hm:o.lv.length=m+1) (_h0:0<m)
  (hc:w1.cell? ⟨P,1,none⟩=some (.slice (some ⟨L,0,none⟩) (m+1) cap)) :
  ∃ w3,w1.alloc (.cells cs 184)=w3∧cU w3 N P M n L o∧Fr P L w1 w3∧w3.cell? ⟨w1.heap.size,0,none⟩=some (.int .u8 (q:Int))∧w3.cell? ⟨w1.heap.size,3,none⟩=some (.int .i64 (pp:Int))∧w3.cell? ⟨P,1,none⟩=some (.slice (some ⟨L,0,none⟩) (m+1) cap)∧P<w1.heap.size∧L<w1.heap.size:=by
 have hB:=(Below.refl w1.heap.size w1).alloc (Nat.le_refl _) (.cells cs 184)
 refine⟨_,rfl,h1.below hB,Fr.dB hB h1.tV,?_,?_,(hB.cell (p:=⟨P,1,none⟩) h1.tV).trans hc,h1.tV,h1.uB.1⟩<;>simp[*]
theorem UA {w3:World} {N P M n L g:Nat} {o:St} (h3:cU w3 N P M n L o) {q pp m cap:Nat} (hm:o.lv.length=m+1) (h0:0<m) (hgP:P<g) (k0:w3.cell? ⟨g,0,none⟩=some (.int .u8 (q:Int))) (k3:w3.cell? ⟨g,3,none⟩=some (.int .i64 (pp:Int)))
  (hc:w3.cell? ⟨P,1,none⟩=some (.slice (some ⟨L,0,none⟩) (m+1) cap)) (W:World) (hW:W=(w3.setCell ⟨P,1,none⟩ (.slice (some ⟨L,0,none⟩) m cap)).drew) :
  cU W N P M n L { o with lv:=o.lv.take m }∧Fr P L w3 W∧W.cell? ⟨g,0,none⟩=some (.int .u8 (q:Int))∧W.cell? ⟨g,3,none⟩=some (.int .i64 (pp:Int)):=by
 subst hW
 obtain⟨h4,f4⟩:=h3.aFM hm h0 hc
 have hg:∀ i,((w3.setCell ⟨P,1,none⟩ (.slice (some ⟨L,0,none⟩) m cap)).drew).cell? ⟨g,i,none⟩=w3.cell? ⟨g,i,none⟩:=fun i =>
  (World.cell?_of_block (w:=w3.setCell ⟨P,1,none⟩ (.slice (some ⟨L,0,none⟩) m cap)) rfl).trans (World.cell?_of_block (Below.heap_setCell w3 _ _ g (show g≠P by omega)))
 exact⟨h4.of_heap rfl,f4.of_heap rfl rfl rfl rfl,(hg 0).trans k0,(hg 3).trans k3⟩
theorem OO {o:St} {m q pp:Nat} {b d:Lv} (hm:o.lv.length=m+1) (h0:0<m) (hT:cH o.lv=b) (hq:b.kind=q) (hp:b.parts=pp) (hd:o.lv[m - 1]?=some d) :
  jA o=if q=108∨q=116 then decide (0<pp) else if q=114 then decide (0<pp) && (d.oQ==0 || d.oQ==pp) else true:=by
 unfold jA
 rw[hT,hq,hp,if_neg (by omega),show o.lv.length - 2=m - 1 from by omega,eU hd]
theorem sF {o:St} {m q:Nat} {b:Lv} (hm:o.lv.length=m+1) (hT:cH o.lv=b) (hq:b.kind=q) (hn:q≠114):gC o={ o with lv:=o.lv.take m }:=by
 unfold gC
 rw[hT,hq,if_neg (by omega),hm,Nat.add_sub_cancel]
theorem OP {o:St} {m pp:Nat} {b d:Lv} (hm:o.lv.length=m+1) (h0:0<m) (hT:cH o.lv=b) (hq:b.kind=114) (hp:b.parts=pp) (hd:o.lv[m - 1]?=some d) :
  gC o=AT { o with lv:=o.lv.take m } (m - 1) d pp:=by
 have hd':(o.lv.take m)[m - 1]?=some d:=by rw[List.getElem?_take,if_pos (by omega)];exact hd
 unfold gC AT
 rw[hT,hq,hp,hm,Nat.add_sub_cancel,show m+1 - 2=m - 1 from by omega,eU hd]
 by_cases hc:d.oQ=0
 ·rw[if_pos ⟨rfl,hc⟩,if_pos hc]
  simp only[]
  rw[oE hd']
 ·rw[if_neg (fun e=>hc e.2),if_neg hc]
theorem ZR {w4:World} {N P M n L m g pp:Nat} {o:St} (h:cU w4 N P M n L o) (hm:o.lv.length=m+1) (k3:w4.cell? ⟨g,3,none⟩=some (.int .i64 (pp:Int))) :
  Calls Tryz.prog 176 #[.pointer (some ⟨P,0,none⟩)] w4.drew fun e w5=>e=.returned (.pointer (some ⟨L,m * 8,none⟩))∧cU w5 N P M n L o∧Fr P L w4 w5∧w5.cell? ⟨g,3,none⟩=some (.int .i64 (pp:Int)) :=
 (jB (h.of_heap (w':=w4.drew) rfl) m hm).mono fun e w2 ⟨he,k,hk⟩=>⟨he,h.of_heap (by rw[hk];rfl),(Fr.refl P L w4).of_heap (by rw[hk];rfl) (by rw[hk];rfl) (by rw[hk];rfl) (by rw[hk];rfl),by rw[hk];exact k3⟩
theorem DR {w:World} {N P M n L:Nat} {o:St} (h:cU w N P M n L o) (h1:1<o.lv.length) :
  Calls Tryz.prog 142 #[.pointer (some ⟨P,0,none⟩)] w fun e w'=>e=.returned (.bool (jA o))∧Fr P L w w'∧(jA o=true→cU w' N P M n L (gC o)):=by
 have HI:=hid (show decide (1<o.lv.length)=true from decide_eq_true h1)
 obtain⟨m,hm⟩:=h.len
 obtain⟨b,hb⟩:=fI (l:=o.lv) (i:=m) (by omega)
 have hT:cH o.lv=b:=by unfold cH;rw[hm,Nat.add_sub_cancel];exact eU hb
 have hbd:=h.bound
 unfold maxLen at hbd
 obtain⟨cap,c1,own⟩:=h.row
 rw[hm]at c1 hbd
 have hcap:m+1≤cap:=by
  rcases own.2 with⟨hv,_⟩ | ⟨g,cp,cur,hv,hg1,hg,hle,_⟩
  ·cases hv
  ·injection hv with _ _ e;subst e;omega
 have h0:0<m:=by omega
 have hmc:m≤cap:=by omega
 have H:=hid h
 have HM:=hid hm
 have HB:=hid hb
 have HT:=hid hT
 have HC1:=hid c1
 obtain⟨q,hq⟩:∃ q,b.kind=q:=⟨_,rfl⟩
 obtain⟨pp,hpp⟩:∃ pp,b.parts=pp:=⟨_,rfl⟩
 obtain⟨x1,hx1⟩:∃ x,b.start=x:=⟨_,rfl⟩
 obtain⟨x2,hx2⟩:∃ x,b.lists=x:=⟨_,rfl⟩
 obtain⟨x4,hx4⟩:∃ x,b.rank=x:=⟨_,rfl⟩
 obtain⟨x5,hx5⟩:∃ x,b.oQ=x:=⟨_,rfl⟩
 obtain⟨x6,hx6⟩:∃ x,b.tQ=x:=⟨_,rfl⟩
 obtain⟨x7,hx7⟩:∃ x,b.bytes=x:=⟨_,rfl⟩
 have hcells:=hid (fun j=>(h.drewN j).at hb)
 rw[hq,hpp,hx1,hx2,hx4,hx5,hx6,hx7]at hcells
 have HQ:=hid hq
 have HPP:=hid hpp
 obtain⟨d,hd⟩:=fI (l:=o.lv) (i:=m - 1) (by omega)
 have HLB:=hid (OO hm h0 hT hq hpp hd)
 have HD1:=hid hd
 clear hd
 clear h hm hb hT h1 own c1 hq hpp hx1 hx2 hx4 hx5 hx6 hx7
 go_enter Tryz.func142,Tryz.ntmps142
 go_wp2_with (first
  |(go_at_call 140;refine(gX H.out true HI.out).mono ?_;rintro e w' ⟨rfl,rfl⟩)
  |(go_at_call 176;refine(jB H.out m HM.out).mono ?_;rintro e w' ⟨rfl,j,rfl⟩;have h1:=H.out.drewN j;have hce:=hcells.out j;have HF:=hid ((Fr.refl P L w).drewN j);have c1:(w.drewN j).cell? ⟨P,1,none⟩=_:=HC1.out;generalize w.drewN j=w1 at h1 hce HF c1;obtain⟨b0,b1,b2,b3,b4,b5,b6,b7⟩:=hce;replace h1:=hid h1))
 obtain⟨w3,hw3,h3,hf3,k0,k3,c3,hPs,hLs⟩:=T9 h1.out #[.int .u8 (q:Int),.int .i64 (x1:Int),.int .i64 (x2:Int),.int .i64 (pp:Int),.int .i64 (x4:Int),.int .i64 (x5:Int),.bool x6,.int .i64 (x7:Int)] q pp rfl rfl HM.out h0 c1
 rw[hw3]
 obtain⟨g,hg⟩:∃ g,w1.heap.size=g:=⟨_,rfl⟩
 rw[hg]at k0 k3 hPs hLs ⊢
 have f0:=h3.fz
 have HF3:=hid (HF.out.trans hf3 (.inl rfl))
 have HD:=hid (h3.of_heap (w':=w3.drew) rfl)
 have H3:=hid h3
 clear b0 b1 b2 b3 b4 b5 b6 b7 hw3 hf3 c1 hg h3
 go_region_law (first
  |(go_simp;go_at_call 175;refine(fU HD.out m HM.out).mono ?_;rintro e w' ⟨rfl,rfl⟩))
 all_goals
  obtain⟨h4,hf4,e0,e3⟩:=UA H3.out HM.out h0 hPs k0 k3 c3 _ rfl
  have HF4:=hid (HF3.out.trans hf4 (.inl rfl))
  clear hf4 k0 k3 c3
  generalize (w3.setCell ⟨P,1,none⟩ (.slice (some ⟨L,0,none⟩) m cap)).drew=w4 at h4 HF4 e0 e3
  have HM4:=hid (show (o.lv.take m).length=(m - 1)+1 by rw[List.length_take,HM.out];omega)
  have HD4:=hid (show (o.lv.take m)[m - 1]?=some d by rw[List.getElem?_take,if_pos (by omega)];exact HD1.out)
  have hg4:g<w4.heap.size:=World.block_lt_of_cell? w4 _ e3
  replace h4:=hid h4
  by_cases q1:q=108
  ·have t1:((q:Int)==108)=true:=tU q1
   have HR:=hid (show jA o=decide (0<pp) by rw[HLB.out,if_pos (.inl q1)])
   have HS:=hid (sF HM.out HT.out HQ.out (by omega))
   clear q1
   go_wp2
   go_ret
   exact⟨Ba.aC (by rw[HR.out]),HF4.out,fun _=>by rw[HS.out];exact h4.out⟩
  by_cases q2:q=116
  ·have t1:((q:Int)==108)=false:=eZ q1
   have t2:((q:Int)==116)=true:=tU q2
   have HR:=hid (show jA o=decide (0<pp) by rw[HLB.out,if_pos (.inr q2)])
   have HS:=hid (sF HM.out HT.out HQ.out (by omega))
   clear q1 q2
   go_wp2
   go_ret
   exact⟨Ba.aC (by rw[HR.out]),HF4.out,fun _=>by rw[HS.out];exact h4.out⟩
  by_cases q3:q=114
  ·have t1:((q:Int)==108)=false:=eZ q1
   have t2:((q:Int)==116)=false:=eZ q2
   have t3:((q:Int)==114)=true:=tU q3
   have HS:=hid (OP HM.out h0 HT.out (HQ.out.trans q3) HPP.out HD1.out)
   have HLB2:=hid (show jA o=(decide (0<pp) && (d.oQ==0 || d.oQ==pp)) by rw[HLB.out,if_neg (by omega),if_pos q3])
   clear q1 q2 q3
   by_cases hp0:0<pp
   ·have hp1:decide ((0:Int)<(pp:Int))=true:=decide_eq_true (by omega)
    obtain⟨v,hv⟩:∃ v,(d.oQ==0 || d.oQ==pp)=v:=⟨_,rfl⟩
    have HVV:=hid hv
    have HR:=hid (show jA o=v by rw[HLB2.out,decide_eq_true hp0,hv];rfl)
    have HK:=hid (ZR h4.out HM4.out e3)
    clear hv
    go_wp2
    go_region_held3 (fun w'=>w'.cell? ⟨g,3,none⟩=some (.int .i64 (pp:Int))) (first | assumption | go_keep)
     (first
      |(go_at_call 176;refine HK.out.mono ?_;rintro e w5 ⟨rfl,h5,hf5,e5⟩;have hg5:=World.block_lt_of_cell? w5 _ e5;replace h5:=hid h5;replace hf5:=hid hf5)
      |(go_at_call 177;refine(aCK h5.out HD4.out pp v HVV.out).mono ?_;rintro e w6 ⟨rfl,h6,hf6⟩;have e6:=(World.cell?_of_block (w:=w5) (a:=⟨g,3,none⟩) (hf6.block g hg5 (by omega) (by omega))).trans e5;replace h6:=hid h6;replace hf6:=hid hf6))
    go_wp2
    go_ret
    exact⟨Ba.aC (by rw[HR.out]),(HF4.out.trans hf5.out (.inl rfl)).trans hf6.out (.inl rfl),fun _=>by rw[HS.out];exact h6.out⟩
   ·obtain rfl:pp=0:=by omega
    have HR:=hid (show jA o=false by rw[HLB2.out];rfl)
    replace e3:w4.cell? ⟨g,3,none⟩=some (.int .i64 0):=e3
    go_wp2
    go_big_quiet (fail)
    go_wp2
    go_ret
    exact⟨Ba.aC (by rw[HR.out]),HF4.out.drewN _,fun hh=>by rw[HR.out]at hh;cases hh⟩
  ·have t1:((q:Int)==108)=false:=eZ q1
   have t2:((q:Int)==116)=false:=eZ q2
   have t3:((q:Int)==114)=false:=eZ q3
   have HR:=hid (show jA o=true by rw[HLB.out,if_neg (by omega),if_neg q3])
   have HS:=hid (sF HM.out HT.out HQ.out q3)
   clear q1 q2 q3
   go_wp2
   go_ret
   exact⟨Ba.aC (by rw[HR.out]),HF4.out,fun _=>by rw[HS.out];exact h4.out⟩
end Go.Proofs.YthbigkoihpgcfaaGreatDoor.Tr
namespace Go.Proofs.YthbigkoihpgcfaaGreatDoor.Sp
open Go.RowKit Ba
end Go.Proofs.YthbigkoihpgcfaaGreatDoor.Sp
namespace Go.Proofs.YthbigkoihpgcfaaGreatDoor.Sp
open Go.RowKit Go.Shelf Ba Ra
attribute [local go_sem] Oper.semAt_some
end Go.Proofs.YthbigkoihpgcfaaGreatDoor.Sp
namespace Go.Proofs.YthbigkoihpgcfaaGreatDoor.Lx
open Go.RowKit
end Go.Proofs.YthbigkoihpgcfaaGreatDoor.Lx
namespace Go.Proofs.YthbigkoihpgcfaaGreatDoor.Lx
open Go.RowKit Go.Shelf
attribute [local go_sem] Oper.semAt_some
end Go.Proofs.YthbigkoihpgcfaaGreatDoor.Lx
namespace Go.Proofs.YthbigkoihpgcfaaGreatDoor.Lx
open Go.RowKit
theorem aE9 (X:ByteArray) (h:0<X.size):X.toList.isEmpty=false∧(!X.toList.isEmpty)=true:=by
 have:X.toList.isEmpty=false:=by
  cases hX:X.toList with
  | nil =>
   rw[ByteArray.toList_eq]at hX
   have:=congrArg List.length hX
   rw[Array.length_toList]at this
   have h2:X.size=X.data.size:=rfl
   rw[h2]at h;simp at this;rw[this]at h;simp at h
  | cons a l=>rfl
 exact⟨this,by rw[this];rfl⟩
theorem S7 (c:Nat) (v:Bool) (h:c<256) (hv:Ka.mC (c:Int)=v) (w:World) (hL:Ka.Laid w) :
  Calls Tryz.prog 180 #[.int .u8 (c:Int)] w fun e w'=>e=.returned (.bool v)∧w=w':=hv▸Ka.CL (c:Int) (by omega) (by omega) w hL
theorem aD1 (c:Nat) (v:Bool) (h:c<256) (hv:Ka.isB (c:Int)=v) (w:World) (hL:Ka.Laid w) :
  Calls Tryz.prog 179 #[.int .u8 (c:Int)] w fun e w'=>e=.returned (.bool v)∧w=w':=hv▸Ka.V8 (c:Int) (by omega) (by omega) w hL
end Go.Proofs.YthbigkoihpgcfaaGreatDoor.Lx
namespace Go.Proofs.YthbigkoihpgcfaaGreatDoor.Lx
open Go.RowKit Go.Shelf
attribute [local go_sem] Oper.semAt_some
end Go.Proofs.YthbigkoihpgcfaaGreatDoor.Lx
namespace Go.Proofs.YthbigkoihpgcfaaGreatDoor.Lx
open Go.RowKit Go.Shelf
attribute [local go_sem] Oper.semAt_some
end Go.Proofs.YthbigkoihpgcfaaGreatDoor.Lx
namespace Go.Proofs.YthbigkoihpgcfaaGreatDoor.Tr
open Go.RowKit
def l8 (f:Nat→Bool) (s:ByteArray):Nat:=((List.range s.size).find? fun i=>f (Lx.aV s i)).getD s.size
theorem aCM {f:Nat→Bool} {s:ByteArray} {n:Nat} (hn:n<s.size) (hj:∀ j,j<n→f (Lx.aV s j)=false) (h:f (Lx.aV s n)=true):l8 f s=n:=by
 unfold l8
 have:(List.range s.size).find? (fun i=>f (Lx.aV s i))=some n:=by
  rw[List.find?_range_eq_some]
  exact⟨h,List.mem_range.2 hn,fun j hj'=>by rw[hj j hj'];rfl⟩
 rw[this];rfl
theorem UB {f:Nat→Bool} {s:ByteArray} (hj:∀ j,j<s.size→f (Lx.aV s j)=false):l8 f s=s.size:=by
 unfold l8
 rw[List.find?_eq_none.2 (fun i hi=>by rw[hj i (List.mem_range.1 hi)];simp)]
 rfl
def mK (c:Nat):Bool:=!Lx.okT c
theorem K7 (c:Nat) (hc:c<256) (v:Bool) (hv:mK c=v) (w:World) (hL:Ka.Laid w) :
  Calls Tryz.prog 178 #[.int .u8 (c:Int)] w fun e w'=>e=.returned (.bool v)∧w=w':=by
 obtain⟨u,hu⟩:∃ u,Ka.mC (c:Int)=u:=⟨_,rfl⟩
 obtain⟨s,hs⟩:∃ s,Ka.isB (c:Int)=s:=⟨_,rfl⟩
 have HU:=hid hu
 have HS:=hid hs
 have HV:=hid (show (!(s || u))=v by rw[← hv];unfold mK Lx.okT;rw[hu,hs])
 clear hu hs hv
 cases s
 all_goals
  cases u
 all_goals
  go_enter Tryz.func178,Tryz.ntmps178
  go_wp2_with (first
   |(go_at_call 179;refine(Lx.aD1 c _ hc HS.out _ hL).mono ?_;rintro e w' ⟨rfl,rfl⟩)
   |(go_at_call 180;refine(Lx.S7 c _ hc HU.out _ hL).mono ?_;rintro e w' ⟨rfl,rfl⟩))
  go_ret
  exact⟨Ba.aC HV.out,rfl⟩
theorem tY (s:ByteArray) (hs:s.size≤maxLen) (v:Nat) (hv:l8 mK s=v) (w:World) (hL:Ka.Laid w) :
  Calls Tryz.prog 181 #[.string s,.func (.func 178) #[] #[]] w fun e w'=>e=.returned (.int .i64 (v:Int))∧w=w':=by
 have HV:=hid hv
 unfold maxLen at hs
 clear hv
 go_enter Tryz.func181,Tryz.ntmps181
 go_wp2
 go_loop [8] (fun i=>∃ n:Nat,n≤s.size∧i=.int .i64 n∧∀ j,j<n→mK (Lx.aV s j)=false) (fun i=>s.size - (intOf i).toNat)
 case atStart=>exact⟨0,by omega,rfl,fun j hj=>by omega⟩
 case round =>
  obtain⟨n,hn,rfl,hj⟩:=hrel
  have HJ:=hid hj
  clear hj
  by_cases hlt:n<s.size
  ·have E1:=Lx.bP s n hlt
   have h256:=Lx.dQ s n
   obtain⟨b,hb⟩:∃ b,Lx.aV s n=b:=⟨_,rfl⟩
   rw[hb]at E1 h256
   cases hf:mK b
   ·have HF:=hid hf
    have HJ2:=hid (show ∀ j,j<n+1→mK (Lx.aV s j)=false from fun j h2=>by
     rcases Nat.lt_or_ge j n with h3 | h3
     ·exact HJ.out j h3
     ·obtain rfl:j=n:=by omega
      rw[hb];exact hf)
    clear hb hf
    go_wp2_with (go_at_call 178;refine(K7 b h256 false HF.out _ hL).mono ?_;rintro e w' ⟨rfl,rfl⟩)
    go_round
    case rel=>exact⟨n+1,by omega,by go_num,HJ2.out⟩
    case measure=>simp[intOf];omega
   ·have HF:=hid hf
    have HR:=hid (show n=v by rw[← HV.out];exact(aCM hlt HJ.out (by rw[hb];exact hf)).symm)
    clear hb hf
    go_wp2_with (go_at_call 178;refine(K7 b h256 true HF.out _ hL).mono ?_;rintro e w' ⟨rfl,rfl⟩)
    go_ret
    exact⟨Ba.aI (by rw[HR.out]),rfl⟩
  ·obtain rfl:n=s.size:=by omega
   have HR:=hid (show s.size=v by rw[← HV.out];exact(UB HJ.out).symm)
   go_wp2
   go_ret
   exact⟨Ba.aI (by rw[HR.out]),rfl⟩
theorem aCN (f:Nat→Bool) (s:ByteArray):l8 f s≤s.size:=by
 unfold l8
 cases h:(List.range s.size).find? (fun i=>f (Lx.aV s i)) with
 | none=>exact Nat.le_refl _
 | some n=>have:=List.mem_range.1 (List.mem_of_find?_eq_some h);simp;omega
theorem vW (s:ByteArray) (hs:s.size≤maxLen) (v:Bool) (hv:(decide (s.size≠0) && decide (l8 mK s=s.size))=v) (w:World) (hL:Ka.Laid w) :
  Calls Tryz.prog 143 #[.string s] w fun e w'=>e=.returned (.bool v)∧w=w':=by
 by_cases h0:s.size=0
 ·have HV:=hid (show false=v by rw[← hv,h0];rfl)
  obtain rfl:s={ data:=#[] }:=by
   apply ByteArray.ext
   exact Array.eq_empty_of_size_eq_zero h0
  clear hv h0 hs
  go_enter Tryz.func143,Tryz.ntmps143
  go_wp2
  go_ret
  exact⟨Ba.aC HV.out,rfl⟩
 ·obtain⟨e1,e2⟩:=Lx.aE9 s (by omega)
  obtain⟨p,hp⟩:∃ p,l8 mK s=p:=⟨_,rfl⟩
  have HP:=hid hp
  have HV:=hid (show decide (p=s.size)=v by rw[← hv,hp,decide_eq_true h0];rfl)
  have hle:=aCN mK s
  rw[hp]at hle
  unfold maxLen at hs
  by_cases he:p=s.size
  ·have t1:((p:Int)==(s.size:Int))=true:=tU he
   have HR:=hid (show true=v by rw[← HV.out,decide_eq_true he])
   clear hv h0 hp he
   go_enter Tryz.func143,Tryz.ntmps143
   go_wp2_with (go_at_call 181;refine(tY s hs p HP.out _ hL).mono ?_;rintro e w' ⟨rfl,rfl⟩)
   go_ret
   exact⟨Ba.aC HR.out,rfl⟩
  ·have t1:((p:Int)==(s.size:Int))=false:=eZ he
   have HR:=hid (show false=v by rw[← HV.out,decide_eq_false he])
   clear hv h0 hp he
   go_enter Tryz.func143,Tryz.ntmps143
   go_wp2_with (go_at_call 181;refine(tY s hs p HP.out _ hL).mono ?_;rintro e w' ⟨rfl,rfl⟩)
   go_ret
   exact⟨Ba.aC HR.out,rfl⟩
end Go.Proofs.YthbigkoihpgcfaaGreatDoor.Tr
