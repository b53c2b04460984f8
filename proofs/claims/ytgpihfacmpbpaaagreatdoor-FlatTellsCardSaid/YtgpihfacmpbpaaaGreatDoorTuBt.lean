/-
  The document's Read of layer 4: a text.
-/
import Derived.Test.YtgpihfacmpbpaaaGreatDoorVi
namespace Go.Proofs.YtgpihfacmpbpaaaGreatDoor.Tr
open Go.RowKit
set_option maxRecDepth 100000 in
set_option maxHeartbeats 16000000 in
theorem N9 (l:List Lx.Lx) (hl:l.length≤9000) (w:World) (gl c k:Nat) (HS:Hid (zN l)) (hgl:gl<w.heap.size) (hcell:∀ k x,l[k]?=some x→∀ j u,(Lx.dJ x)[j]?=some u→w.cell? ⟨gl,0+(k * 4+j),none⟩=some u)
  (hk:k≤l.length) (hlt:k<l.length) (u4 u5:Value) (wr:World) (hR:qV wr w.heap.size u4 u5 (aV (l.take k)).2 (aV (l.take k)).1) (hB:Below w.heap.size w wr) (hkind:∀ x,l[k]?=some x→x.kind=1)
  (R R1 R2:Act→World→Prop) (R3:Ending→World→Prop) (u7 u8 u9 u10 u11 u12 u13 u14 u15 u16 u17 u18 u19 u20 u21 u22 u23 u24 u25 u26 u27 u28 u29 u30 u31 u32 u33 u34 u35 u36 u37 u38 u39 u40 u41 u42 u43 u44 u45 u46 u47 u48 u49 u50 u51 u52 u53 u54 u55 u56 u57 u58 u59 u60 u61 u62 u63 u64 u65 u66 u67 u68 u69 u70 u71 u72 u73 u74 u75 u76 u77 u78 u79 u80 u81 u82 u83 u84 u85 u86 u87 u88 u89 u90 u91 u92 u93 u94 u95 u96 u97 u98 u99 u100 u101 u102 u103 u104 u105 u106 u107 u108 u109 u110 u111 u112 u113 u114 u115 u116 u117 u118 u119 u120 u121 u122 u123 u124 u125 u126 u127 u128 u129 u130 u131 u132 u133 u134 u135 u136 u137 u138 u139 u140 u141 u142 u143 u144 u145 u146 u147 u148 u149 u150 u151 u152 u153 u154 u155 u156 u157 u158 u159 u160 u161 u162 u163 u164 u165 u166 u167 u168 u169 u170 u171 u172 u173 u174 u175 u176 u177 u178 u179 u180 u181:Value)
  (hQ:∀ (V' T':Value) (x7 x8 x11 x12 x13 x14 x15 x16 x17 x18 x19 x20 x21 x22 x23 x24 x25 x26 x27 x28 x29 x30 x31 x32 x33 x34 x35 x36 x37 x38 x39 x40 x41 x42 x43 x44 x45 x46 x47 x48 x49 x50 x51 x52 x53 x54 x55 x56 x57 x58 x59 x60 x61 x62 x63 x64 x65 x66 x67 x68 x69 x70 x71 x72 x73 x74 x75 x76 x77 x78 x79 x80 x81 x82 x83 x84 x85 x86 x87 x88 x89 x90 x91 x92 x93 x94 x95 x96 x97 x98 x99 x100 x101 x102 x103 x104 x105 x106 x107 x108 x109 x110 x111 x112 x113 x114 x115 x116 x117 x118 x119 x120 x121 x122 x123 x124 x125 x126 x127 x128 x129 x130 x131 x132 x133 x134 x135 x136 x137 x138 x139 x140 x141 x142 x143 x144 x145 x146 x147 x148 x149 x150 x151 x152 x153 x154 x155 x156 x157 x158 x159 x160 x161 x162 x163 x164 x165 x166 x167 x168 x169 x170 x171 x172 x173 x174 x175 x176 x177 x178 x179:Value) (w':World),qV w' w.heap.size V' T' (aV (l.take (k+1))).2 (aV (l.take (k+1))).1∧Below w.heap.size w w'→R ⟨#[.slice (some ⟨gl,0,none⟩) l.length c,undef,.slice none 0 0,.slice none 0 0,V',T',.int .i64 (k:Int),x7,x8,u9,u10,x11,x12,x13,x14,x15,x16,x17,x18,x19,x20,x21,x22,x23,x24,x25,x26,x27,x28,x29,x30,x31,x32,x33,x34,x35,x36,x37,x38,x39,x40,x41,x42,x43,x44,x45,x46,x47,x48,x49,x50,x51,x52,x53,x54,x55,x56,x57,x58,x59,x60,x61,x62,x63,x64,x65,x66,x67,x68,x69,x70,x71,x72,x73,x74,x75,x76,x77,x78,x79,x80,x81,x82,x83,x84,x85,x86,x87,x88,x89,x90,x91,x92,x93,x94,x95,x96,x97,x98,x99,x100,x101,x102,x103,x104,x105,x106,x107,x108,x109,x110,x111,x112,x113,x114,x115,x116,x117,x118,x119,x120,x121,x122,x123,x124,x125,x126,x127,x128,x129,x130,x131,x132,x133,x134,x135,x136,x137,x138,x139,x140,x141,x142,x143,x144,x145,x146,x147,x148,x149,x150,x151,x152,x153,x154,x155,x156,x157,x158,x159,x160,x161,x162,x163,x164,x165,x166,x167,x168,x169,x170,x171,x172,x173,x174,x175,x176,x177,x178,x179,u180,u181],[]⟩ w') :
  Code.wp Tryz.prog (o9 [true,true,true,false,true,false,false,true,false] (Tryz.f52.body.getD .skip)) (Exit.then R (Exit.then R1 (Exit.inBlock 0 (Exit.then R2 (bodyPost Tryz.prog Tryz.f52 R3))))) ⟨#[.slice (some ⟨gl,0,none⟩) l.length c,undef,.slice none 0 0,.slice none 0 0,u4,u5,.int .i64 (k:Int),u7,u8,u9,u10,u11,u12,u13,u14,u15,u16,u17,u18,u19,u20,u21,u22,u23,u24,u25,u26,u27,u28,u29,u30,u31,u32,u33,u34,u35,u36,u37,u38,u39,u40,u41,u42,u43,u44,u45,u46,u47,u48,u49,u50,u51,u52,u53,u54,u55,u56,u57,u58,u59,u60,u61,u62,u63,u64,u65,u66,u67,u68,u69,u70,u71,u72,u73,u74,u75,u76,u77,u78,u79,u80,u81,u82,u83,u84,u85,u86,u87,u88,u89,u90,u91,u92,u93,u94,u95,u96,u97,u98,u99,u100,u101,u102,u103,u104,u105,u106,u107,u108,u109,u110,u111,u112,u113,u114,u115,u116,u117,u118,u119,u120,u121,u122,u123,u124,u125,u126,u127,u128,u129,u130,u131,u132,u133,u134,u135,u136,u137,u138,u139,u140,u141,u142,u143,u144,u145,u146,u147,u148,u149,u150,u151,u152,u153,u154,u155,u156,u157,u158,u159,u160,u161,u162,u163,u164,u165,u166,u167,u168,u169,u170,u171,u172,u173,u174,u175,u176,u177,u178,u179,u180,u181],[]⟩ wr:=by
 obtain⟨i0,hi0,hz0,hz1,hz2⟩:=info_parts tH
 obtain⟨ti,hj0,hy0,hy1,hy2⟩:=info_parts wH
 have HQQ:=Lib.hid hQ
 clear hQ
 obtain⟨⟨xk,xn,xt,xp⟩,hx⟩:=e9 hlt
 have d0:=hcell k _ hx 0 _ rfl
 have d1:=hcell k _ hx 1 _ rfl
 have d2:=hcell k _ hx 2 _ rfl
 have d3:=hcell k _ hx 3 _ rfl
 simp only[Nat.zero_add,Nat.add_zero]at d0 d1 d2 d3
 have hpx:=HS.out.1 _ (List.mem_of_getElem? hx)
 have hcx:=HS.out.2 k _ hx
 obtain⟨⟨t,p⟩,hst⟩:∃ st,aV (l.take k)=st:=⟨_,rfl⟩
 have hgood:=HS.out.TQ k hk
 have HNX:=Lib.hid (show aV (l.take (k+1))=aE (t,p) ⟨xk,xn,xt,xp⟩ by rw[List.take_add_one,hx,Option.toList_some,k8,hst])
 rw[hst]at hR hcx hgood
 simp only[]at hR hcx hpx
 obtain⟨q1,q2,q3,q4,q5⟩:=hgood
 simp only[]at q1 q2 q3 q4 q5
 obtain⟨m,hm⟩:∃ m,p.length=m+1:=⟨p.length - 1,by omega⟩
 obtain⟨o,ho⟩:=e9 (l:=p) (i:=m) (by omega)
 obtain⟨n,hn⟩:∃ n,t.length=n:=⟨_,rfl⟩
 obtain⟨g,c',rfl,hcap,hNg,hgw,hfz,hcp⟩:=hR.at hm
 obtain⟨AT,cT,hTT⟩:=hR.qW
 rw[hn]at hTT
 subst hTT
 have up:∀ i,wr.cell? ⟨gl,i,none⟩=w.cell? ⟨gl,i,none⟩:=fun i=>World.cell?_of_block (w:=w) (hB.block gl hgl)
 rw[← up]at d0 d1 d2 d3
 have hm9:m≤9000:=by omega
 have hn9:n≤9000:=by omega
 have j0:(0:Int)≤(k:Int):=by omega
 have j1:(k:Int)<(l.length:Int):=by omega
 have j2:(0:Int)≤(m:Int):=by omega
 have j3:(m:Int)<(m:Int)+1:=by omega
 have hglr:gl<wr.heap.size:=Nat.lt_of_lt_of_le hgl hB.size
 have hNr:=hB.size
 have HR:=Lib.hid hR
 have HB:=Lib.hid hB
 have HM:=Lib.hid hm
 have HO:=Lib.hid ho
 have HN:=Lib.hid hn
 have HK:=Lib.hid (o8 (by omega) q4)
 have HP0:=Lib.hid q1
 have HPL:=Lib.hid (show p.length≤70000 by omega)
 have HQ4:=Lib.hid q4
 have HQ5:=Lib.hid q5
 obtain⟨px1,px2,px3,px4⟩:=hpx
 have hko:o.kids.size≤9000:=by have:=(q4 o (List.mem_of_getElem? ho)).2.1;omega
 have hNgl:gl≠g:=by omega
 obtain⟨z0,z1,z2,-,-,-⟩:=hcp m o ho
 have e1:xk=1:=hkind _ hx
 clear hcell hx up hR hB hm ho hn q1 q2 q3 q4 q5 hst hcp
 obtain⟨cc,hcc⟩:∃ cc,o9 [true,true,true,false,true,false,false,true,false] (Tryz.f52.body.getD .skip)=cc:=⟨_,rfl⟩
 rw[hcc]
 dsimp only[o9,Tryz.f52,Option.getD]at hcc
 subst hcc
 have t1:((xk:Int)==1)=true:=nE e1
 obtain⟨b,hb⟩:∃ b,aJ p=b:=⟨_,rfl⟩
 have HT:=Lib.hid hb
 clear hb
 cases b
 ·have HE:=Lib.hid (TR (t:=t) (x:=⟨xk,xn,xt,xp⟩) e1 HT.out)
  clear e1
  go_wp2_with (go_at_call 53;refine(aO _ p HP0.out HPL.out HK.out _ _ HR.out.reads false HT.out).mono ?_;rintro e w1 ⟨rfl,hb1⟩;replace hb1:=Lib.hid hb1)
  apply HQQ.out
  exact⟨by rw[HNX.out,HE.out];exact HR.out.below hb1.out,Ba.chain HB.out HB.out.size hb1.out⟩
 ·have HE:=Lib.hid (YE (t:=t) (x:=⟨xk,xn,xt,xp⟩) HM.out e1 HT.out)
  clear e1
  go_upto_region 10 with(go_at_call 53;refine(aO _ p HP0.out HPL.out HK.out _ _ HR.out.reads true HT.out).mono ?_;rintro e w1 ⟨rfl,hb1⟩;have hR1:=HR.out.below hb1;obtain⟨g',c'',e',-,-,-,hfz1,hcp1⟩:=hR1.at HM.out;cases e';have y1:=(hcp1 m _ HO.out).2.1;have dd2:=(World.cell?_of_block (w:=wr) (a:=⟨gl,k * 4+2,none⟩) (hb1.block gl hglr)).trans d2;have dd3:=(World.cell?_of_block (w:=wr) (a:=⟨gl,k * 4+3,none⟩) (hb1.block gl hglr)).trans d3;replace hR1:=Lib.hid hR1;have hNr1:=Nat.le_trans hNr hb1.size;have hgl1:=Nat.lt_of_lt_of_le hglr hb1.size;replace hb1:=Lib.hid hb1;clear hcp1)
  go_cut [5] (fun s5 wx=>RdT w (.slice (some ⟨g,0,none⟩) (m+1) c') (p.modify m (aG 46)) (t++[⟨46,xt,(xp:Int),1⟩]) n s5 wx)
  case first =>
   obtain⟨hR2,hB2⟩:=hR1.out.YD rfl HO.out 1 (by omega) (aG 46) (.string (o.kids++{ data:=#[46] })) rfl
   have z1:∀ i,(w1.setCell ⟨g,m * 6+1,none⟩ (.string (o.kids++{ data:=#[46] }))).cell? ⟨gl,i,none⟩=w1.cell? ⟨gl,i,none⟩:=fun i=>World.cell?_of_block (w:=w1) (Below.heap_setCell _ _ _ _ hNgl)
   rw[← z1]at dd2 dd3
   have hsz:(w1.setCell ⟨g,m * 6+1,none⟩ (.string (o.kids++{ data:=#[46] }))).heap.size=w1.heap.size:=by simp
   rw[← hsz]at hNr1 hgl1
   clear z1 hsz y1 hfz1 d0 d1 d2 d3
   generalize w1.setCell ⟨g,m * 6+1,none⟩ (.string (o.kids++{ data:=#[46] }))=w2 at *
   have own:=hR2.tr
   rw[HN.out]at own
   have HR2:=Lib.hid hR2
   have HB2:=Lib.hid hB2
   clear hR2 hB2
   go_region_law
    ((refine step_append_lies _ (by rfl) _ _ _ (by rfl) w.heap.size 41 i0 _ 4 40 Tryz.underlying22 hi0 hz0 hz1 hz2 rfl (by omega) (.slice AT n cT) n _ (by rfl) ((own.alloc _).drew) ⟨w2.heap.size,0,none⟩ 1 1 [.int .u8 46,.string xt,.int .i64 (xp:Int),.int .i64 1] (by rfl) (by rfl) (World.news_of_block (cs:=#[.int .u8 46,.string xt,.int .i64 (xp:Int),.int .i64 1]) (t:=41) (fr:=(0,0)) (heap_alloc_new w2 _)) (by simp[Value.oneCell']) (by omega) (by unfold maxLen;omega) (by omega) (by simp;omega) (w2.heap.size+1) (by simp) ?_;intro gg cap w5 hown1 hgrow hat hlt5))
   all_goals
    have hbl:Below w2.heap.size w2 (w2.alloc (.cells #[.int .u8 46,.string xt,.int .i64 (xp:Int),.int .i64 1] 41)).drew:=Lx.below_drewN ((Below.refl w2.heap.size w2).alloc (Nat.le_refl _) _) 1
    obtain⟨hR5,hB5⟩:=HR2.out.aB6 hNr1 hbl hgrow HN.out ⟨46,xt,(xp:Int),1⟩ hown1 (hat.imp id (fun e=>by omega))
    have HX:=Lib.hid (show RdT w (.slice (some ⟨g,0,none⟩) (m+1) c') (p.modify m (aG 46)) (t++[⟨46,xt,(xp:Int),1⟩]) n (.slice (some ⟨gg,0,none⟩) (n+1) cap) w5 from ⟨gg,cap,rfl,hR5,((Ba.chain HB.out HB.out.size hb1.out).trans HB2.out).trans hB5⟩)
    clear hbl hR5 hB5 hown1 hgrow hat hlt5
    go_wp2_with fail
    go_meet
    exact HX.out
  case rest =>
   obtain⟨gg,cap,rfl,hR5,hB5⟩:=hcut
   have up5:∀ i,wc.cell? ⟨gl,i,none⟩=wr.cell? ⟨gl,i,none⟩:=fun i=>World.cell?_of_block (w:=wr) ((hB5.block gl hgl).trans (HB.out.block gl hgl).symm)
   rw[← up5]at d2
   have HBX:=Lib.hid hB5
   clear hB5 d0 d1 d3 z0 z1 z2 hfz up5
   obtain⟨P1,hP1⟩:∃ P1,p.modify m (aG 46)=P1:=⟨_,rfl⟩
   have hgp:∀ o ∈ P1,iS (k+1) k k (k * 9000) k o:=hP1▸mY HQ4.out (fun o ho=>ho.more (by omega) (by omega) (by omega) (by omega) (by omega)) (fun o ho=>ho.kid _)
   have hm1:P1.length=m+1:=by rw[← hP1,List.length_modify];exact HM.out
   have HP1:=Lib.hid hP1
   rw[hP1]at hR5
   obtain⟨z,hz⟩:∃ z,aN P1 bU=z:=⟨_,rfl⟩
   have hzl:z<m+1:=by rw[← hz,← hm1];exact oF bU (by omega)
   have HRD:=Lib.hid hR5.reads
   have HKP:=Lib.hid (show nO P1 from fun o ho=>⟨(hgp o ho).1,by have:=(hgp o ho).2.1;omega⟩)
   have HZL:=Lib.hid hz
   have HP0':=Lib.hid (show 0<P1.length by omega)
   have HPL':=Lib.hid (show P1.length≤70000 by omega)
   have HR5:=Lib.hid hR5
   have HM1:=Lib.hid hm1
   have HGP:=Lib.hid hgp
   clear hP1 hgp hm1 hR5 hz
   by_cases hz0:z=0
   ·have HZ0:=Lib.hid (lP (HZL.out.trans hz0))
    have HE2:=Lib.hid (show aV (l.take (k+1))=(t++[⟨46,xt,(xp:Int),1⟩],P1) by rw[HNX.out,HE.out,HP1.out,if_neg (by rw[HZL.out];omega)])
    clear hz0
    go_wp2_with (go_at_call 83;refine(kY _ P1 HP0'.out HPL'.out HKP.out _ _ HRD.out (-1) HZ0.out).mono ?_;rintro e w6 ⟨rfl,rfl⟩)
    apply HQQ.out
    exact⟨by rw[HE2.out];exact HR5.out,HBX.out⟩
   ·have HZ0:=Lib.hid (eQ HZL.out (by omega))
    obtain⟨o2,ho2⟩:=e9 (l:=P1) (i:=z) (by have:=HM1.out;omega)
    have HO2:=Lib.hid ho2
    have HE2:=Lib.hid (show aV (l.take (k+1))=(t++[⟨46,xt,(xp:Int),1⟩],P1.modify z (gI xt)) by rw[HNX.out,HE.out,HP1.out,if_pos (by rw[HZL.out];omega),HZL.out])
    obtain⟨g',c'',e',-,hNg5,-,hfz5,hcp5⟩:=HR5.out.at HM1.out
    cases e'
    have y5:=(hcp5 z _ ho2).2.2.2.2.2
    have hto:o2.text.size≤90000000:=by have:=(HGP.out o2 (List.mem_of_getElem? ho2)).2.2.2.2.1;omega
    have zj0:(0:Int)≤(z:Int):=by omega
    have zj1:(z:Int)<(m:Int)+1:=by omega
    have zj2:decide ((0:Int)<(z:Int))=true:=decide_eq_true (by omega)
    have zj3:0<z:=by omega
    have hcat:¬ (9223372036854775807<o2.text.size+xt.size):=by omega
    clear hz0 hcp5 ho2
    go_wp2_with (go_at_call 83;refine(kY _ P1 HP0'.out HPL'.out HKP.out _ _ HRD.out (z:Int) HZ0.out).mono ?_;rintro e w6 ⟨rfl,rfl⟩)
    go_region_law (first | fail)
    all_goals
     obtain⟨hR6,hB6⟩:=HR5.out.YD rfl HO2.out 5 (by omega) (gI xt) (.string (o2.text++xt)) rfl
     have HR6:=Lib.hid hR6
     have HB6:=Lib.hid hB6
     clear hR6 hB6
     go_wp2
     apply HQQ.out
     exact⟨by rw[HE2.out];exact HR6.out.below (Lx.below_drewN (Below.refl _ _) 1),Lx.below_drewN (HBX.out.trans HB6.out) 1⟩
end Go.Proofs.YtgpihfacmpbpaaaGreatDoor.Tr
