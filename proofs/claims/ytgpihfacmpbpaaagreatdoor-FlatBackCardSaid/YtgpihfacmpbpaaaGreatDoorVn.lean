/-
  Put together: TsL, TsU.
-/
import Derived.Test.YtgpihfacmpbpaaaGreatDoorVm
import Derived.Test.YtgpihfacmpbpaaaGreatDoorVd
namespace Go.Proofs.YtgpihfacmpbpaaaGreatDoor.Tr
open Go.RowKit
theorem pD.of_heap {w w':World} {N P M n L:Nat} {o:St} {t:List Nd} {z:Int} (h:pD w N P M n L o t z) (hh:w'.heap=w.heap):pD w' N P M n L o t z:=by
 have hc:∀ a,w'.cell? a=w.cell? a:=fun a=>World.cell?_of_block (by rw[hh])
 obtain⟨v,a,b,c,d,e⟩:=h.tr
 refine⟨h.op.of_heap hh,⟨v,(hc _).trans a,⟨b.1,?_⟩,c,d,e⟩,(hc _).trans h.pl⟩
 rcases b.2 with hn | ⟨g,cap,cur,hv,hb,hg,rest⟩
 ·exact .inl hn
 ·exact .inr ⟨g,cap,cur,hv,hb,by rw[hh];exact hg,rest⟩
theorem iR {B:Nat} {w w':World} (hh:w'.heap=w.heap) (h1:w'.os=w.os) (h2:w'.tape=w.tape) (h3:w'.output=w.output):Below B w w':=⟨h1,h2,h3,by rw[hh];exact Nat.le_refl _,fun k _=>by rw[hh]⟩
structure XU (w w1:World) (N P M n L g:Nat) (o:St) (t:List Nd) (z:Int) (x:Lx.Lx) (v:Value) (k:Nat):Prop where
 pa:pD w1 N P M n L o t z
 below:j5 N P L L w w1
 c5:w1.cell? ⟨P,5,none⟩=some v
 own:w1.ownsRow N 41 4 v k (Ba.rows cN t)
 box:GI w1 g x
 gP:P<g
 gL:L<g
 gv:v.ownBlock≠some g
 gw:g<w1.heap.size
 f0:∀ i,w1.frozen? ⟨P,i,none⟩=false
theorem XU.start {w:World} {N P M n L:Nat} {o:St} {t:List Nd} {z:Int} (h:pD w N P M n L o t z) (x:Lx.Lx) (T:TypeId):∃ v,∀ k,t.length=k→XU w (w.alloc (.cells #[.int .i64 ((x.kind:Nat):Int),.int .u8 ((x.name:Nat):Int),.string x.text,.int .i64 ((x.place:Nat):Int)] T)) N P M n L w.heap.size o t z x v k:=by
 obtain⟨v,a,b,c,d,e⟩:=id h.tr
 refine⟨v,fun k hk=>?_⟩
 subst hk
 have hB:=(Below.refl w.heap.size w).alloc (Nat.le_refl _) (.cells #[.int .i64 ((x.kind:Nat):Int),.int .u8 ((x.name:Nat):Int),.string x.text,.int .i64 ((x.place:Nat):Int)] T)
 have h2:=h.below hB
 have hf:=Fr.gC (L:=L) hB h.op.nP
 exact⟨h2,h.aB4 hB,(hf.tail 5 (by omega)).trans a,KT b hf c d,GI.new w x T,h.op.nP,h.op.tR.1,fun e'=>by have:=(b.lt _ e').2;omega,by simp,h2.op.fz⟩
theorem XU.drewN {w w1:World} {N P M n L g k:Nat} {o:St} {t:List Nd} {z:Int} {x:Lx.Lx} {v:Value} (h:XU w w1 N P M n L g o t z x v k) (j:Nat):XU w (w1.drewN j) N P M n L g o t z x v k :=
 ⟨h.pa.of_heap rfl,h.below.trans (.heap rfl rfl rfl rfl),h.c5,h.own,⟨h.box.k0,h.box.k1,h.box.k2,h.box.k3⟩,h.gP,h.gL,h.gv,h.gw,h.f0⟩
set_option maxRecDepth 100000 in
set_option maxHeartbeats 8000000 in
theorem S8 {w:World} {N P M n L:Nat} {o:St} {t:List Nd} {z:Int} (h:pD w N P M n L o t z) (kd nm pl:Nat) (tx:ByteArray) (hv:fR o.lv 46=true) (ht:t.length<1000000) (hp:(aT o.lv).parts<4611686018427387904) (hn:o.nodes<4611686018427387904)
  (hbs:tx.size<4611686018427387904∧∀ b ∈ o.lv,b.bytes<4611686018427387904) :
  Calls Tryz.prog 36 #[.pointer (some ⟨P,0,none⟩),.agg #[.int .i64 (kd:Int),.int .u8 (nm:Int),.string tx,.int .i64 (pl:Int)]] w fun e w' =>
   e=.returned (.bool true)∧pD w' N P M n L (kP o tx.size) (t++[⟨46,tx,(pl:Int),1⟩]) z∧j5 N P L L w w':=by
 obtain⟨i0,hi0,hz0,hz1,hz2⟩:=info_parts yB
 obtain⟨v,hst⟩:=XU.start h ⟨kd,nm,tx,pl⟩ 71
 obtain⟨k,hk⟩:∃ k,t.length=k:=⟨_,rfl⟩
 have HST:=Lib.hid (hst k hk)
 have HV:=Lib.hid hv
 have HK:=Lib.hid hk
 have HBS:=Lib.hid hbs
 rw[hk]at ht
 have hP:=h.op.nP
 clear h hst hv hk hbs
 go_enter Tryz.func36,Tryz.ntmps36
 go_wp2_with (first
  |(go_at_call 64;refine(qD HST.out.pa.op 46 (by decide) 46 rfl true HV.out).mono ?_;rintro e w' ⟨rfl,j,rfl⟩;have h1:=HST.out.drewN j;clear HST;generalize (w.alloc (.cells #[.int .i64 (kd:Int),.int .u8 (nm:Int),.string tx,.int .i64 (pl:Int)] 71)).drewN j=w1 at h1))
 obtain⟨g,hg⟩:∃ g,w.heap.size=g:=⟨_,rfl⟩
 rw[hg]at h1 ⊢
 obtain⟨hpa,hbw,c5,own,⟨k0,k1,k2,k3⟩,gP,gL,gv,gw,f0⟩:=id h1
 simp only[]at k0 k1 k2 k3
 have H1:=Lib.hid h1
 have HBW:=Lib.hid hbw
 have hN1:=hpa.op.KS
 have hP1:=hpa.op.nP
 have hvP:v.ownBlock≠some P:=by
  obtain⟨v',a,_,_,d,_⟩:=hpa.tr
  rw[c5]at a;cases a;exact d
 clear h1 hpa hbw
 go_region_law
  ((refine step_append_lies _ (by rfl) _ _ _ (by rfl) N 41 i0 _ 4 40 Tryz.underlying22 hi0 hz0 hz1 hz2 rfl (by omega) v k _ (by rfl) ((own.alloc _).drew) ⟨w1.heap.size,0,none⟩ 1 1 [.int .u8 46,.string tx,.int .i64 (pl:Int),.int .i64 1] (by rfl) (by rfl) (World.news_of_block (cs:=#[.int .u8 46,.string tx,.int .i64 (pl:Int),.int .i64 1]) (t:=41) (fr:=(0,0)) (heap_alloc_new w1 _)) (by simp[Value.oneCell']) (by omega) (by unfold maxLen;omega) (by omega) (by simp;omega) (w1.heap.size+1) (by simp) ?_;intro gg cap w5 hown1 hgrow hat hlt;have hb5:w5.heap[P]?=w1.heap[P]?:=(hgrow.block P (by simp;omega) (fun e=>hvP e.symm)).trans (Below.heap_alloc w1 _ P hP1);have hc5:w5.cell? ⟨P,5,none⟩=w1.cell? ⟨P,5,none⟩:=World.cell?_of_block hb5;have hf5:w5.frozen? ⟨P,5,none⟩=w1.frozen? ⟨P,5,none⟩:=World.frozen?_of_block hb5;rw[c5]at hc5;rw[f0 5]at hf5))
 all_goals
  obtain⟨h6,hb6,hall6⟩:=H1.out.pa.more c5 HK.out hgrow ⟨46,tx,(pl:Int),1⟩ hown1 hat
  have hx6:=H1.out.box.aX (hall6 g gw (by omega) gv)
  clear hb5 hc5 hf5 hown1 hgrow hat hall6
  generalize w5.setCell ⟨P,5,none⟩ (.slice (some ⟨gg,0,none⟩) (k+1) cap)=w6 at h6 hb6 hx6
  have y2:=hx6.k2
  simp only[]at y2
  have hg6:g<w6.heap.size:=World.block_lt_of_cell? w6 _ y2
  have H6:=Lib.hid (h6.of_heap (w':=w6.drew) rfl)
  have HB6:=Lib.hid (hb6.trans (.heap (w':=w6.drew) rfl rfl rfl rfl))
  clear h6 hb6 hx6
  go_wp2
  go_region_held3 (fun w'=>w'.cell? ⟨g,2,none⟩=some (.string tx)) (first | assumption | go_keep)
   (first
    |(go_at_call 68;refine(PQ H6.out.op tx.size HV.out hp hn HBS.out).mono ?_;rintro e w7 ⟨rfl,h7,hf7⟩;have y7:=(World.cell?_of_block (w:=w6.drew) (a:=⟨g,2,none⟩) (hf7.block g hg6 (by omega) (by omega))).trans y2;replace h7:=Lib.hid h7;replace hf7:=Lib.hid hf7))
  go_wp2
  go_ret
  obtain⟨q1,q2⟩:=H6.out.next h7.out hf7.out (.inl rfl)
  exact⟨rfl,q1,(HBW.out.trans HB6.out).trans q2⟩
theorem pD.vO {w:World} {N P M n L:Nat} {o:St} {t:List Nd} {z:Int} (h:pD w N P M n L o t z) (z':Int):pD (w.setCell ⟨P,6,none⟩ (.int .i64 z')) N P M n L o t z'∧j5 N P L L w (w.setCell ⟨P,6,none⟩ (.int .i64 z')):=by
 obtain⟨a,b,c,d,-⟩:=h.op.own 6 (by omega) (.int .i64 z')
 obtain⟨v,e1,e2,e3,e4,e5⟩:=h.tr
 refine⟨⟨⟨(a 0 (by omega)).trans h.op.c0,c,(a 2 (by omega)).trans h.op.c2,(a 3 (by omega)).trans h.op.c3,(a 4 (by omega)).trans h.op.c4,b,d,h.op.pos,h.op.head,h.op.small,h.op.zE,h.op.o4,h.op.xV,h.op.uN⟩,
  ⟨v,(a 5 (by omega)).trans e1,Ba.iT e2 _ e4,e3,e4,e5⟩,World.cell?_setCell_same' _ _ _ (by rw[h.pl];rfl)⟩,(Below.refl N w).setCell (p:=⟨P,6,none⟩) h.op.zE _,fun S ⟨s1,s2,s3,s4⟩=>⟨Below.heap_setCell w ⟨P,6,none⟩ _ S s2,by simpa using s1,s2,s3,fun v' hv'=>s4 v' ((a 5 (by omega)).symm.trans hv')⟩⟩
set_option maxHeartbeats 4000000 in
theorem XV {w:World} {N P M n L:Nat} {o:St} {t:List Nd} (pz:Nat) (h:pD w N P M n L o t (pz:Int)) (kd nm pl:Nat) (tx:ByteArray) (hv:fR o.lv 46=false) (hpz:pz<4611686018427387904) (htx:tx.size<4611686018427387904) (hL:Ka.Laid w) (p:Nat) (hp:tK tT tx=p) :
  Calls Tryz.prog 36 #[.pointer (some ⟨P,0,none⟩),.agg #[.int .i64 (kd:Int),.int .u8 (nm:Int),.string tx,.int .i64 (pl:Int)]] w fun e w' =>
   e=.returned (.bool (decide (p=tx.size)))∧pD w' N P M n L o t ((pz:Int)+(p:Int))∧j5 N P L L w w':=by
 obtain⟨v,hst⟩:=XU.start h ⟨kd,nm,tx,pl⟩ 71
 obtain⟨k,hk⟩:∃ k,t.length=k:=⟨_,rfl⟩
 have HST:=Lib.hid (hst k hk)
 have HV:=Lib.hid hv
 have HP:=Lib.hid hp
 have hple:=PT tT tx
 rw[hp]at hple
 have hP:=h.op.nP
 have hL0:=hL.below ((Below.refl w.heap.size w).alloc (Nat.le_refl _) (.cells #[.int .i64 (kd:Int),.int .u8 (nm:Int),.string tx,.int .i64 (pl:Int)] 71)) hL.1
 have HL0:=Lib.hid (fun j=>hL0.below (iR (B:=(w.alloc (.cells #[.int .i64 (kd:Int),.int .u8 (nm:Int),.string tx,.int .i64 (pl:Int)] 71)).heap.size) (w':=(w.alloc (.cells #[.int .i64 (kd:Int),.int .u8 (nm:Int),.string tx,.int .i64 (pl:Int)] 71)).drewN j) rfl rfl rfl rfl) hL0.1)
 have hm:tx.size≤maxLen:=by unfold maxLen;omega
 clear h hst hv hk hp hL hL0
 go_enter Tryz.func36,Tryz.ntmps36
 go_wp2_with (first
  |(go_at_call 64;refine(qD HST.out.pa.op 46 (by decide) 46 rfl false HV.out).mono ?_;rintro e w' ⟨rfl,j,rfl⟩;have h1:=HST.out.drewN j;have hLj:=HL0.out j;clear HST HL0;generalize (w.alloc (.cells #[.int .i64 (kd:Int),.int .u8 (nm:Int),.string tx,.int .i64 (pl:Int)] 71)).drewN j=w1 at h1 hLj;have k2:=h1.box.k2;have c6:=h1.pa.pl;have f0:=h1.f0;have gP:=h1.gP;simp only[]at k2;replace h1:=Lib.hid h1;replace hLj:=Lib.hid hLj)
  |(go_at_call 65;refine(KQ tx hm p HP.out w1 hLj.out).mono ?_;rintro e w' ⟨rfl,rfl⟩))
 go_ret
 obtain⟨q1,q2⟩:=h1.out.pa.vO ((pz:Int)+(p:Int))
 exact⟨Ba.aC (by
  by_cases e:p=tx.size
  ·rw[decide_eq_true e,e];simp
  ·rw[decide_eq_false e];exact fD e),q1,h1.out.below.trans q2⟩
set_option maxRecDepth 100000 in
set_option maxHeartbeats 8000000 in
theorem S9 {w:World} {N P M n L:Nat} {o:St} {t:List Nd} {z:Int} (h:pD w N P M n L o t z) (kd nm pl:Nat) (tx:ByteArray) (hnm:nm<256) (hv:fR o.lv nm=true) (ht:t.length<1000000) (hlen:o.lv.length<1000000) (hp:(aT (bD o nm).lv).parts<4611686018427387904) (hn:o.nodes<4611686018427387904) (hli:(aT o.lv).lists<4611686018427387904) :
  Calls Tryz.prog 37 #[.pointer (some ⟨P,0,none⟩),.agg #[.int .i64 (kd:Int),.int .u8 (nm:Int),.string tx,.int .i64 (pl:Int)]] w fun e w' =>
   e=.returned (.bool true)∧∃ L',pD w' N P M n L' (cQ o nm) (t++[⟨nm,aA,(pl:Int),0⟩]) z∧j5 N P L L' w w':=by
 obtain⟨i0,hi0,hz0,hz1,hz2⟩:=info_parts yB
 obtain⟨v,hst⟩:=XU.start h ⟨kd,nm,tx,pl⟩ 71
 obtain⟨k,hk⟩:∃ k,t.length=k:=⟨_,rfl⟩
 have HST:=Lib.hid (hst k hk)
 have HV:=Lib.hid hv
 have HK:=Lib.hid hk
 rw[hk]at ht
 have hP:=h.op.nP
 clear h hst hv hk
 go_enter Tryz.func37,Tryz.ntmps37
 go_wp2
 have h1:=HST.out
 clear HST
 generalize w.alloc (.cells #[.int .i64 (kd:Int),.int .u8 (nm:Int),.string tx,.int .i64 (pl:Int)] 71)=w1 at h1 ⊢
 obtain⟨g,hg⟩:∃ g,w.heap.size=g:=⟨_,rfl⟩
 rw[hg]at h1 ⊢
 obtain⟨hpa,hbw,c5,own,⟨k0,k1,k2,k3⟩,gP,gL,gv,gw,f0⟩:=id h1
 simp only[]at k0 k1 k2 k3
 have H1:=Lib.hid h1
 have HBW:=Lib.hid hbw
 have hN1:=hpa.op.KS
 have hP1:=hpa.op.nP
 have hvP:v.ownBlock≠some P:=by
  obtain⟨v',a,_,_,d,_⟩:=hpa.tr
  rw[c5]at a;cases a;exact d
 clear h1 hpa hbw
 go_region_law
  ((refine step_append_lies _ (by rfl) _ _ _ (by rfl) N 41 i0 _ 4 40 Tryz.underlying22 hi0 hz0 hz1 hz2 rfl (by omega) v k _ (by rfl) ((own.alloc _).drew) ⟨w1.heap.size,0,none⟩ 1 1 [.int .u8 (nm:Int),.string { data:=#[] },.int .i64 (pl:Int),.int .i64 0] (by rfl) (by rfl) (World.news_of_block (cs:=#[.int .u8 (nm:Int),.string { data:=#[] },.int .i64 (pl:Int),.int .i64 0]) (t:=41) (fr:=(0,0)) (heap_alloc_new w1 _)) (by simp[Value.oneCell']) (by omega) (by unfold maxLen;omega) (by omega) (by simp;omega) (w1.heap.size+1) (by simp) ?_;intro gg cap w5 hown1 hgrow hat hlt;have hb5:w5.heap[P]?=w1.heap[P]?:=(hgrow.block P (by simp;omega) (fun e=>hvP e.symm)).trans (Below.heap_alloc w1 _ P hP1);have hc5:w5.cell? ⟨P,5,none⟩=w1.cell? ⟨P,5,none⟩:=World.cell?_of_block hb5;have hf5:w5.frozen? ⟨P,5,none⟩=w1.frozen? ⟨P,5,none⟩:=World.frozen?_of_block hb5;rw[c5]at hc5;rw[f0 5]at hf5))
 all_goals
  obtain⟨h6,hb6,hall6⟩:=H1.out.pa.more c5 HK.out hgrow ⟨nm,aA,(pl:Int),0⟩ hown1 hat
  have hx6:=H1.out.box.aX (hall6 g gw (by omega) gv)
  clear hb5 hc5 hf5 hown1 hgrow hat hall6
  generalize w5.setCell ⟨P,5,none⟩ (.slice (some ⟨gg,0,none⟩) (k+1) cap)=w6 at h6 hb6 hx6
  have y2:=hx6.k1
  simp only[]at y2
  have hg6:g<w6.heap.size:=World.block_lt_of_cell? w6 _ y2
  have H6:=Lib.hid (h6.of_heap (w':=w6.drew) rfl)
  have HB6:=Lib.hid (hb6.trans (.heap (w':=w6.drew) rfl rfl rfl rfl))
  clear h6 hb6 hx6
  go_wp2
  go_region_held3 (fun w'=>w'.cell? ⟨g,1,none⟩=some (.int .u8 (nm:Int))) (first | assumption | go_keep)
   (first
    |(go_at_call 69;refine(ES H6.out.op nm hnm HV.out hlen hp hn hli).mono ?_;rintro e w7 ⟨rfl,L',h7,hL7,hf7⟩;have y7:=(World.cell?_of_block (w:=w6.drew) (a:=⟨g,1,none⟩) (hf7.block g hg6 (by omega) (by omega))).trans y2;replace h7:=Lib.hid h7;replace hf7:=Lib.hid hf7))
  go_wp2
  go_ret
  obtain⟨q1,q2⟩:=H6.out.next h7.out hf7.out hL7
  exact⟨rfl,L',q1,(HBW.out.trans HB6.out).trans q2⟩
set_option maxRecDepth 100000 in
set_option maxHeartbeats 8000000 in
theorem XW {w:World} {N P M n L:Nat} {o:St} {t:List Nd} {z:Int} (h:pD w N P M n L o t z) (kd nm pl:Nat) (tx:ByteArray) (hnm:nm<256) (hv:fR o.lv nm=false) (ht:t.length<1000000) :
  Calls Tryz.prog 37 #[.pointer (some ⟨P,0,none⟩),.agg #[.int .i64 (kd:Int),.int .u8 (nm:Int),.string tx,.int .i64 (pl:Int)]] w fun e w' =>
   e=.returned (.bool false)∧pD w' N P M n L o (t++[⟨nm,aA,(pl:Int),0⟩]) z∧j5 N P L L w w':=by
 obtain⟨i0,hi0,hz0,hz1,hz2⟩:=info_parts yB
 obtain⟨v,hst⟩:=XU.start h ⟨kd,nm,tx,pl⟩ 71
 obtain⟨k,hk⟩:∃ k,t.length=k:=⟨_,rfl⟩
 have HST:=Lib.hid (hst k hk)
 have HV:=Lib.hid hv
 have HK:=Lib.hid hk
 rw[hk]at ht
 have hP:=h.op.nP
 clear h hst hv hk
 go_enter Tryz.func37,Tryz.ntmps37
 go_wp2
 have h1:=HST.out
 clear HST
 generalize w.alloc (.cells #[.int .i64 (kd:Int),.int .u8 (nm:Int),.string tx,.int .i64 (pl:Int)] 71)=w1 at h1 ⊢
 obtain⟨g,hg⟩:∃ g,w.heap.size=g:=⟨_,rfl⟩
 rw[hg]at h1 ⊢
 obtain⟨hpa,hbw,c5,own,⟨k0,k1,k2,k3⟩,gP,gL,gv,gw,f0⟩:=id h1
 simp only[]at k0 k1 k2 k3
 have H1:=Lib.hid h1
 have HBW:=Lib.hid hbw
 have hN1:=hpa.op.KS
 have hP1:=hpa.op.nP
 have hvP:v.ownBlock≠some P:=by
  obtain⟨v',a,_,_,d,_⟩:=hpa.tr
  rw[c5]at a;cases a;exact d
 clear h1 hpa hbw
 go_region_law
  ((refine step_append_lies _ (by rfl) _ _ _ (by rfl) N 41 i0 _ 4 40 Tryz.underlying22 hi0 hz0 hz1 hz2 rfl (by omega) v k _ (by rfl) ((own.alloc _).drew) ⟨w1.heap.size,0,none⟩ 1 1 [.int .u8 (nm:Int),.string { data:=#[] },.int .i64 (pl:Int),.int .i64 0] (by rfl) (by rfl) (World.news_of_block (cs:=#[.int .u8 (nm:Int),.string { data:=#[] },.int .i64 (pl:Int),.int .i64 0]) (t:=41) (fr:=(0,0)) (heap_alloc_new w1 _)) (by simp[Value.oneCell']) (by omega) (by unfold maxLen;omega) (by omega) (by simp;omega) (w1.heap.size+1) (by simp) ?_;intro gg cap w5 hown1 hgrow hat hlt;have hb5:w5.heap[P]?=w1.heap[P]?:=(hgrow.block P (by simp;omega) (fun e=>hvP e.symm)).trans (Below.heap_alloc w1 _ P hP1);have hc5:w5.cell? ⟨P,5,none⟩=w1.cell? ⟨P,5,none⟩:=World.cell?_of_block hb5;have hf5:w5.frozen? ⟨P,5,none⟩=w1.frozen? ⟨P,5,none⟩:=World.frozen?_of_block hb5;rw[c5]at hc5;rw[f0 5]at hf5))
 all_goals
  obtain⟨h6,hb6,hall6⟩:=H1.out.pa.more c5 HK.out hgrow ⟨nm,aA,(pl:Int),0⟩ hown1 hat
  have hx6:=H1.out.box.aX (hall6 g gw (by omega) gv)
  clear hb5 hc5 hf5 hown1 hgrow hat hall6
  generalize w5.setCell ⟨P,5,none⟩ (.slice (some ⟨gg,0,none⟩) (k+1) cap)=w6 at h6 hb6 hx6
  have y2:=hx6.k1
  simp only[]at y2
  have hg6:g<w6.heap.size:=World.block_lt_of_cell? w6 _ y2
  have H6:=Lib.hid (h6.of_heap (w':=w6.drew) rfl)
  have HB6:=Lib.hid (hb6.trans (.heap (w':=w6.drew) rfl rfl rfl rfl))
  clear h6 hb6 hx6
  go_wp2
  go_region_held3 (fun w'=>w'.cell? ⟨g,1,none⟩=some (.int .u8 (nm:Int))) (first | assumption | go_keep)
   (first
    |(go_at_call 69;refine(KO H6.out.op nm hnm HV.out).mono ?_;rintro e w7 ⟨rfl,j7,rfl⟩;have y7:((w6.drew).drewN j7).cell? ⟨g,1,none⟩=some (.int .u8 (nm:Int)):=y2;have h7:=Lib.hid (H6.out.of_heap (w':=(w6.drew).drewN j7) rfl);have hf7:=Lib.hid (j5.heap (N:=N) (P:=P) (L:=L) (w:=w6.drew) (w':=(w6.drew).drewN j7) rfl rfl rfl rfl)))
  go_wp2
  go_ret
  exact⟨rfl,H6.out.of_heap rfl,(HBW.out.trans HB6.out).trans (.heap rfl rfl rfl rfl)⟩
theorem pD.aA8 {w:World} {N P M n L:Nat} {o:St} {t:List Nd} {z:Int} (h:pD w N P M n L o t z) {T k cap i:Nat} {x:Nd} (hc:w.cell? ⟨P,5,none⟩=some (.slice (some ⟨T,0,none⟩) k cap)) (hk:t.length=k) (hx:t[i]?=some x) (q:Int) :
  pD (w.setCell ⟨T,i * 4+3,none⟩ (.int .i64 q)) N P M n L o (t.modify i (aF q)) z∧j5 N P L L w (w.setCell ⟨T,i * 4+3,none⟩ (.int .i64 q)):=by
 subst hk
 obtain⟨v,e1,e2,e3,e4,e5⟩:=h.tr
 rw[hc]at e1
 cases e1
 have n1:L≠T:=fun e=>e3 (by rw[e];rfl)
 have n2:P≠T:=fun e=>e4 (by rw[e];rfl)
 have n3:M≠T:=fun e=>e5 (by rw[e];rfl)
 have hNT:N≤T:=(e2.lt T rfl).1
 have hs:∀ k,k≠T→(w.setCell ⟨T,i * 4+3,none⟩ (.int .i64 q)).heap[k]?=w.heap[k]?:=fun k hk=>Below.heap_setCell _ _ _ _ hk
 have hcc:∀ j,(w.setCell ⟨T,i * 4+3,none⟩ (.int .i64 q)).cell? ⟨P,j,none⟩=w.cell? ⟨P,j,none⟩:=fun j=>World.cell?_of_block (w:=w) (hs P n2)
 have hB:Below N w (w.setCell ⟨T,i * 4+3,none⟩ (.int .i64 q)):=(Below.refl N w).setCell (p:=⟨T,i * 4+3,none⟩) hNT _
 obtain⟨cp,r1,r2⟩:=h.op.row
 refine⟨⟨⟨(hcc 0).trans h.op.c0,⟨cp,(hcc 1).trans r1,Ba.iT r2 _ (fun e=>n1 (by simpa[Value.ownBlock] using e))⟩,(hcc 2).trans h.op.c2,(hcc 3).trans h.op.c3,(hcc 4).trans h.op.c4,fun j=>by rw[World.frozen?_setCell];exact h.op.fz j,h.op.map.aX (hs M n3),h.op.pos,h.op.head,h.op.small,h.op.zE,h.op.o4,h.op.xV,h.op.uN⟩,
  ⟨.slice (some ⟨T,0,none⟩) t.length cap,(hcc 5).trans hc,?_,e3,e4,e5⟩,(hcc 6).trans h.pl⟩,hB,fun S ⟨s1,s2,s3,s4⟩=>⟨hs S (fun e=>s4 _ hc (by rw[e];rfl)),by simpa using s1,s2,s3,fun v' hv'=>s4 v' ((hcc 5).symm.trans hv')⟩⟩
 rw[List.length_modify,← mW hx,← Ba.gS cN dX t i x (aF q x) hx 3 (.int .i64 q) (by omega) rfl]
 exact(e2.stored _ _).1
def GJ (o:St) (t:List Nd):List Nd:=t.modify (aT o.lv).start (aF ((o.nodes:Int) - ((aT o.lv).start:Int)))
theorem pD.tree {w:World} {N P M n L:Nat} {o:St} {t:List Nd} {z:Int} (h:pD w N P M n L o t z) (h0:0<t.length):∃ T cap,w.cell? ⟨P,5,none⟩=some (.slice (some ⟨T,0,none⟩) t.length cap)∧T≠P∧(∀ j,w.frozen? ⟨T,j,none⟩=false)∧∀ i x,t[i]?=some x→w.cell? ⟨T,i * 4+3,none⟩=some (.int .i64 x.size):=by
 obtain⟨v,e1,e2,e3,e4,e5⟩:=h.tr
 obtain⟨T,cap,rfl,_,_⟩:=e2.form h0
 refine⟨T,cap,e1,fun e=>e4 (by rw[e];rfl),fun j=>e2.frozenAt j,fun i x hx=>?_⟩
 have hi:=(List.getElem?_eq_some_iff.1 hx).1
 rw[e2.cellAt _ (by omega),Ba.cB cN dX t i x hx 3 (by omega)]
 rfl
set_option maxRecDepth 100000 in
set_option maxHeartbeats 8000000 in
theorem TA {w:World} {N P M n L:Nat} {o:St} {t:List Nd} {z:Int} (h:pD w N P M n L o t z) (kd nm pl:Nat) (tx:ByteArray) (h1:1<o.lv.length) (hst:(aT o.lv).start<t.length) (ht:t.length<1000000) (hno:o.nodes<1000000) :
  Calls Tryz.prog 38 #[.pointer (some ⟨P,0,none⟩),.agg #[.int .i64 (kd:Int),.int .u8 (nm:Int),.string tx,.int .i64 (pl:Int)]] w fun e w' =>
   e=.returned (.bool (dG o))∧w'.cell? ⟨P,6,none⟩=some (.int .i64 z)∧Below N w w'∧(dG o=true→pD w' N P M n L (cY o) (GJ o t) z∧j5 N P L L w w'):=by
 obtain⟨v,hsx⟩:=XU.start h ⟨kd,nm,tx,pl⟩ 71
 obtain⟨k,hk⟩:∃ k,t.length=k:=⟨_,rfl⟩
 obtain⟨m,hm⟩:=h.op.len
 obtain⟨b,hb⟩:=dM (l:=o.lv) (i:=m) (by omega)
 have hT:aT o.lv=b:=by unfold aT;rw[hm,Nat.add_sub_cancel];exact fZ hb
 obtain⟨s,hs⟩:∃ s,b.start=s:=⟨_,rfl⟩
 rw[hT,hs]at hst
 obtain⟨x,hx⟩:=dM hst
 obtain⟨nn,hnn⟩:∃ nn,o.nodes=nn:=⟨_,rfl⟩
 have HST:=Lib.hid (hsx k hk)
 have HK:=Lib.hid hk
 have HM:=Lib.hid hm
 have HB:=Lib.hid hb
 have HS:=Lib.hid hs
 have HX:=Lib.hid hx
 have HNN:=Lib.hid hnn
 have HCT:=Lib.hid (show GJ o t=t.modify s (aF ((nn:Int) - (s:Int))) by unfold GJ;rw[hT,hs,hnn])
 have HLN:=Lib.hid (show (cY o).nodes=nn from hnn)
 have H1:=Lib.hid h1
 rw[hk]at ht hst
 rw[hnn]at hno
 have hP:=h.op.nP
 clear h hsx hk hm hb hT hs hx hnn h1
 obtain⟨lb,hlb⟩:∃ lb,dG o=lb:=⟨_,rfl⟩
 have HLB:=Lib.hid hlb
 rw[hlb]
 clear hlb
 cases lb
 ·go_enter Tryz.func38,Tryz.ntmps38
  go_wp2_with (first
   |(go_at_call 70;refine(jH HST.out.pa.op m HM.out).mono ?_;rintro e w' ⟨rfl,j,rfl⟩;have h2:=HST.out.drewN j;clear HST;generalize (w.alloc (.cells #[.int .i64 (kd:Int),.int .u8 (nm:Int),.string tx,.int .i64 (pl:Int)] 71)).drewN j=w1 at h2;have b1:=(h2.pa.op.at HB.out).2.1;rw[HS.out]at b1;replace h2:=Lib.hid h2)
   |(go_at_call 71;refine(tE h2.out.pa.op H1.out).mono ?_;rw[HLB.out];rintro e w3 ⟨rfl,hf3,-⟩;replace hf3:=Lib.hid hf3))
  go_ret
  exact⟨rfl,(hf3.out.tail 6 (by omega)).trans h2.out.pa.pl,h2.out.below.below.trans (hf3.out.below h2.out.pa.op.zE h2.out.pa.op.tR.2 h2.out.pa.op.KS),fun e=>by cases e⟩
 ·go_enter Tryz.func38,Tryz.ntmps38
  go_wp2_with (first
   |(go_at_call 70;refine(jH HST.out.pa.op m HM.out).mono ?_;rintro e w' ⟨rfl,j,rfl⟩;have h2:=HST.out.drewN j;clear HST;generalize (w.alloc (.cells #[.int .i64 (kd:Int),.int .u8 (nm:Int),.string tx,.int .i64 (pl:Int)] 71)).drewN j=w1 at h2;have b1:=(h2.pa.op.at HB.out).2.1;rw[HS.out]at b1;replace h2:=Lib.hid h2)
   |(go_at_call 71;refine(tE h2.out.pa.op H1.out).mono ?_;rw[HLB.out];rintro e w3 ⟨rfl,hf3,hop⟩;obtain⟨h3,hb3⟩:=h2.out.pa.next (hop rfl) hf3 (.inl rfl);obtain⟨T,cap,c5,hTP,fT,cT⟩:=h3.tree (by rw[HK.out];omega);replace cT:=cT s x HX.out;rw[HK.out]at c5;have c2:=h3.op.c2;rw[HLN.out]at c2;replace h3:=Lib.hid h3;replace hb3:=Lib.hid hb3;clear hop hf3))
  have j0:(0:Int)≤(s:Int):=by omega
  have j1:(s:Int)<(k:Int):=by omega
  have hwr:IntKind.i64.wrap ((nn:Int) - (s:Int))=(nn:Int) - (s:Int):=IntWalk.i64_in _ ⟨by omega,by omega⟩
  go_region_held3 (fun w'=>w'.cell? ⟨P,5,none⟩=some (.slice (some ⟨T,0,none⟩) k cap)∧w'.cell? ⟨P,2,none⟩=some (.int .i64 (nn:Int))) (first | exact⟨c5,c2⟩ | go_keep) (first | fail)
  all_goals go_wp2
  all_goals go_ret
  all_goals
   obtain⟨q1,q2⟩:=h3.out.aA8 c5 HK.out HX.out ((nn:Int) - (s:Int))
   have q3:=q1.of_heap (w':=(w3.setCell ⟨T,s * 4+3,none⟩ (.int .i64 ((nn:Int) - (s:Int)))).drew) rfl
   have q4:=(h2.out.below.trans hb3.out).trans (q2.trans (.heap (w':=(w3.setCell ⟨T,s * 4+3,none⟩ (.int .i64 ((nn:Int) - (s:Int)))).drew) rfl rfl rfl rfl))
   exact⟨rfl,q3.pl,q4.below,fun _=>⟨by rw[HCT.out];exact q3,q4⟩⟩
end Go.Proofs.YtgpihfacmpbpaaaGreatDoor.Tr
namespace Go.Proofs.YtgpihfacmpbpaaaGreatDoor.Tr
open Go.RowKit
set_option maxRecDepth 100000 in
set_option maxHeartbeats 8000000 in
theorem KY {w:World} {N P M n L:Nat} {o:St} {t:List Nd} {z:Int} (h:pD w N P M n L o t z) (kd nm pl:Nat) (tx:ByteArray) (h1:¬ 1<o.lv.length) :
  Calls Tryz.prog 38 #[.pointer (some ⟨P,0,none⟩),.agg #[.int .i64 (kd:Int),.int .u8 (nm:Int),.string tx,.int .i64 (pl:Int)]] w fun e w' =>
   e=.returned (.bool false)∧w'.cell? ⟨P,6,none⟩=some (.int .i64 z)∧Below N w w':=by
 obtain⟨v,hsx⟩:=XU.start h ⟨kd,nm,tx,pl⟩ 71
 obtain⟨m,hm⟩:=h.op.len
 obtain⟨b,hb⟩:=dM (l:=o.lv) (i:=m) (by omega)
 obtain⟨s,hs⟩:∃ s,b.start=s:=⟨_,rfl⟩
 have HST:=Lib.hid (hsx _ rfl)
 have HM:=Lib.hid hm
 have HB:=Lib.hid hb
 have HS:=Lib.hid hs
 have H1:=Lib.hid h1
 have hP:=h.op.nP
 clear h hsx hm hb hs h1
 go_enter Tryz.func38,Tryz.ntmps38
 go_wp2_with (first
  |(go_at_call 70;refine(jH HST.out.pa.op m HM.out).mono ?_;rintro e w' ⟨rfl,j,rfl⟩;have h2:=HST.out.drewN j;clear HST;generalize (w.alloc (.cells #[.int .i64 (kd:Int),.int .u8 (nm:Int),.string tx,.int .i64 (pl:Int)] 71)).drewN j=w1 at h2;have b1:=(h2.pa.op.at HB.out).2.1;rw[HS.out]at b1;replace h2:=Lib.hid h2)
  |(go_at_call 71;refine(uE h2.out.pa.op H1.out).mono ?_;rintro e w3 ⟨rfl,rfl⟩))
 go_ret
 exact⟨rfl,h2.out.pa.pl,h2.out.below.below⟩
structure EW (w w':World) (N P M n L:Nat) (t:List Nd) (p:List Op) (x:Lx.Lx) (v:Bool):Prop where
 below:Below N w w'
 no:v=false→∃ z:Nat,w'.cell? ⟨P,6,none⟩=some (.int .i64 (z:Int))∧aD t p x=(z,2)
 yes:v=true→∃ L' o' tl',∃ z:Nat,pD w' N P M n L' o' tl' (z:Int)∧j5 N P L L' w w'∧sG (aE (t,p) x).1 (aE (t,p) x).2 o'∧tL (aE (t,p) x).1 tl' (aE (t,p) x).2 ∧
  ((aD t p x).2=0→o'.deep=false∧o'.fM=false)∧((aD t p x).2≠0→z=(aD t p x).1∧fO o'=(aD t p x).2)
structure EX (w:World) (N P M n L:Nat) (o:St) (tl:List Nd) (z:Int) (t:List Nd) (p:List Op) (k Mb:Nat):Prop where
 pa:pD w N P M n L o tl z
 s:sG t p o
 sk:tL t tl p
 b:C9 k Mb t p
 deep:o.deep=false
 fM:o.fM=false
theorem KZ (a b:Nat):((a:Int)+(b:Int))=((a+b:Nat):Int):=by omega
theorem X7 (s:ByteArray):tK tT s=(lA s).getD s.size:=rfl
theorem aBI {s:ByteArray} {i:Nat} (h:lA s=some i):i<s.size:=List.mem_range.1 (List.mem_of_find?_eq_some h)
theorem TD {w:World} {N P M n L:Nat} {o:St} {tl t:List Nd} {p:List Op} {k Mb:Nat} (pl nm:Nat) (tx:ByteArray) (h:EX w N P M n L o tl (pl:Int) t p k Mb) (hk:k<100000) (hM:Mb<1000000000000) (htx:tx.size<1000000) (hpl:pl<1000000) (hL:Ka.Laid w) :
  Calls Tryz.prog 36 #[.pointer (some ⟨P,0,none⟩),.agg #[.int .i64 ((1:Nat):Int),.int .u8 (nm:Int),.string tx,.int .i64 (pl:Int)]] w fun e w'=>∃ v,e=.returned (.bool v)∧EW w w' N P M n L t p ⟨1,nm,tx,pl⟩ v:=by
 obtain⟨b1,b2,b3,b4,b5,b6⟩:=bounds h.s h.b
 have hlen:=h.sk.len
 have hnd:=h.b.nodes
 have hmt:=h.s.rel.texts
 by_cases ht:aJ p=true
 ·obtain⟨s1,s2,s3,s4⟩:=h.s.text nm tx pl ht
  rw[h.deep]at s2
  rw[h.fM,Bool.false_or]at s3
  refine(S8 h.pa 1 nm pl tx (by rw[hmt,ht]) (by omega) (by omega) (by omega) ⟨by omega,fun b hb=>by have:=b6 b hb;omega⟩).mono ?_
  rintro e w' ⟨rfl,q1,q2⟩
  refine⟨true,rfl,q2.below,(fun e=>by cases e),fun _=>⟨L,_,_,pl,q1,q2,s1,?_,fun e0=>⟨s2,by rw[s3,e0];rfl⟩,fun e0=>?_⟩⟩
  ·rw[iZ t p nm tx pl ht]
   refine h.sk.text _ ?_
   simp only[]
   split
   ·rw[lE _ _ (gI tx) (fun _=>rfl),lE _ _ (aG 46) (fun _=>rfl)]
   ·rw[lE _ _ (aG 46) (fun _=>rfl)]
  ·have e4:(aD t p ⟨1,nm,tx,pl⟩).2=4:=s4.resolve_left e0
   have hm:(kP o tx.size).fM=true:=by rw[s3,e4];rfl
   refine⟨?_,by unfold fO;rw[s2,hm,e4];rfl⟩
   rw[zJ t p nm tx pl ht]at e4 ⊢
   split
   ·rfl
   ·rename_i hc;rw[if_neg hc]at e4;cases e4
 ·rw[Bool.not_eq_true]at ht
  have hst:aE (t,p) ⟨1,nm,tx,pl⟩=(t,p):=by
   unfold aE
   simp only[ht]
   rfl
  have her:aD t p ⟨1,nm,tx,pl⟩=(match lA tx with | some i=>(pl+i,2) | none=>(0,0)):=by
   unfold aD
   simp only[ht]
   rfl
  have hb:=X7 tx
  refine(XV pl h.pa 1 nm pl tx (by rw[hmt,ht]) (by omega) (by omega) hL (tK tT tx) rfl).mono ?_
  rintro e w' ⟨rfl,q1,q2⟩
  refine⟨_,rfl,q2.below,fun e0=>?_,fun e0=>?_⟩
  ·rw[KZ]at q1
   refine⟨_,q1.pl,?_⟩
   rw[her]
   cases hd:lA tx with
   | none=>rw[hb,hd]at e0;simp at e0
   | some i=>rw[hb,hd];rfl
  ·have e1:(aD t p ⟨1,nm,tx,pl⟩).2=0:=by
    rw[her]
    cases hd:lA tx with
    | none=>rfl
    | some i =>
     have:=aBI hd
     rw[hb,hd]at e0
     simp at e0;omega
   rw[KZ]at q1
   exact⟨L,o,tl,_,q1,q2,by rw[hst];exact h.s,by rw[hst];exact h.sk,fun _=>⟨h.deep,h.fM⟩,fun e2=>absurd e1 e2⟩
theorem TE {w:World} {N P M n L:Nat} {o:St} {tl t:List Nd} {p:List Op} {k Mb:Nat} (pl nm:Nat) (h:EX w N P M n L o tl (pl:Int) t p k Mb) (hk:k<100000) (hnm:nm<256) (h46:nm≠46) :
  Calls Tryz.prog 37 #[.pointer (some ⟨P,0,none⟩),.agg #[.int .i64 ((2:Nat):Int),.int .u8 (nm:Int),.string aA,.int .i64 (pl:Int)]] w fun e w'=>∃ v,e=.returned (.bool v)∧EW w w' N P M n L t p ⟨2,nm,aA,pl⟩ v:=by
 obtain⟨b1,b2,b3,b4,b5,b6⟩:=bounds h.s h.b
 have hlen:=h.sk.len
 have hnd:=h.b.nodes
 have hpos:=h.s.rel.pos
 have hmt:=h.s.rel.opens h46
 by_cases ht:eH p nm=true
 ·obtain⟨s1,s2,s3,s4⟩:=h.s.open aA pl hnm h46 ht
  rw[h.deep,Bool.false_or]at s2
  rw[h.fM,Bool.false_or]at s3
  refine(S9 h.pa 2 nm pl aA hnm (by rw[hmt,ht]) (by omega) (by omega) (by have:=b3 nm;omega) (by omega) (by omega)).mono ?_
  rintro e w' ⟨rfl,L',q1,q2⟩
  refine⟨true,rfl,q2.below,(fun e=>by cases e),fun _=>⟨L',_,_,pl,q1,q2,s1,?_,fun e0=>?_,fun e0=>?_⟩⟩
  ·rw[jV]
   refine h.sk.open ⟨nm,aA,(pl:Int),1⟩ ?_
   have hq:sp (if nm=110 then (p.modify (p.length - 1) (aG nm)).modify (aN p bN) cU else p.modify (p.length - 1) (aG nm))=sp p:=by
    split
    ·rw[lE _ _ cU (fun _=>rfl),lE _ _ (aG nm) (fun _=>rfl)]
    ·rw[lE _ _ (aG nm) (fun _=>rfl)]
   rw[PY _ _ (by split<;>simp[hpos]),hq]
  ·have hd:(cQ o nm).deep=false:=by rw[s2,e0];rfl
   exact⟨hd,by rw[s3 hd,e0];rfl⟩
  ·have hpl:pl=(aD t p ⟨2,nm,aA,pl⟩).1:=by
    rw[zK t p nm aA pl ht]at e0 ⊢
    split
    ·rfl
    ·split
     ·rfl
     ·rename_i c1 c2;rw[if_neg c1,if_neg c2]at e0;exact absurd rfl e0
   refine⟨hpl,?_⟩
   rcases s4 with e | e | e
   ·exact absurd e e0
   ·have hd:(cQ o nm).deep=false:=by rw[s2,e];rfl
    unfold fO
    rw[hd,s3 hd,e];rfl
   ·unfold fO
    rw[s2,e];rfl
 ·rw[Bool.not_eq_true]at ht
  have her:aD t p ⟨2,nm,aA,pl⟩=(pl,2):=by
   unfold aD
   simp only[ht]
   rfl
  refine(XW h.pa 2 nm pl aA hnm (by rw[hmt,ht]) (by omega)).mono ?_
  rintro e w' ⟨rfl,q1,q2⟩
  exact⟨false,rfl,q2.below,fun _=>⟨pl,q1.pl,her⟩,fun e=>by cases e⟩
theorem N1 {w:World} {N P M n L:Nat} {o:St} {tl t:List Nd} {p:List Op} {k Mb:Nat} (pl nm:Nat) (h:EX w N P M n L o tl (pl:Int) t p k Mb) (hk:k<100000) :
  Calls Tryz.prog 38 #[.pointer (some ⟨P,0,none⟩),.agg #[.int .i64 ((3:Nat):Int),.int .u8 (nm:Int),.string aA,.int .i64 (pl:Int)]] w fun e w'=>∃ v,e=.returned (.bool v)∧EW w w' N P M n L t p ⟨3,nm,aA,pl⟩ v:=by
 obtain⟨b1,b2,b3,b4,b5,b6⟩:=bounds h.s h.b
 have hlen:=h.sk.len
 have hnd:=h.b.nodes
 have hpos:=h.s.rel.pos
 have hl:=h.s.rel.len
 obtain⟨s1,s2,s3⟩:=h.s.close nm aA pl
 by_cases h1:1<o.lv.length
 ·have hst:=h.s.rel.top.start
  have hsp:=aDS (p:=p) (by omega) hpos
  have hin:(aZ p).spot<t.length:=h.sk.lt _ (by rw[hsp];simp)
  refine(TA h.pa 3 nm pl aA h1 (by rw[hst,hlen];exact hin) (by omega) (by omega)).mono ?_
  rintro e w' ⟨rfl,q1,q2,q3⟩
  refine⟨_,rfl,q2,fun e0=>⟨pl,q1,s2.resolve_left (fun e=>by rw[s1.2 e]at e0;cases e0)⟩,fun e0=>?_⟩
  obtain⟨q4,q5⟩:=q3 e0
  have e1:=s1.1 e0
  refine⟨L,_,_,pl,q4,q5,s3 e0,?_,fun _=>⟨h.deep,h.fM⟩,fun e2=>absurd e1 e2⟩
  have hs:aE (t,p) ⟨3,nm,aA,pl⟩=(t.modify (aZ p).spot (aF ((t.length:Int) - ((aZ p).spot:Int))),(if (aZ p).kind=114∧(p.getD (p.length - 1 - 1) root).first=0 then p.modify (p.length - 1 - 1) (bW (aZ p).kids.size) else p).take (p.length - 1)):=by
   unfold aE
   simp only[]
   rw[if_neg (by decide),if_neg (by decide)]
  rw[hs]
  unfold GJ
  rw[hst,h.s.nodes]
  refine h.sk.close (s:=(aZ p).spot) ?_ _
  rw[hsp]
  congr 1
  split
  ·have:∀ (i m:Nat) (f:Op→Op),((p.modify i f).take m)=(p.take m).modify i f:=fun i m f=>by
    apply List.ext_getElem?
    intro n
    rw[List.getElem?_modify,List.getElem?_take,List.getElem?_take,List.getElem?_modify]
    by_cases q1:n<m<;>by_cases q2:i=n<;>simp[q1,q2]
   rw[this,lE _ _ (bW _) (fun _=>rfl)]
  ·rfl
 ·have hlb:dG o=false:=by unfold dG;rw[if_pos (by omega)]
  refine(KY h.pa 3 nm pl aA h1).mono ?_
  rintro e w' ⟨rfl,q1,q2⟩
  exact⟨false,rfl,q2,fun _=>⟨pl,q1,s2.resolve_left (fun e=>by rw[s1.2 e]at hlb;cases hlb)⟩,fun e=>by cases e⟩
end Go.Proofs.YtgpihfacmpbpaaaGreatDoor.Tr
