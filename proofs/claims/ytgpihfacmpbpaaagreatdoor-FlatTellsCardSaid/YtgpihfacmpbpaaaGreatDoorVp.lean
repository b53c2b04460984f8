/-
  Put together: TuBo, TuBc, TuB.
-/
import Derived.Test.YtgpihfacmpbpaaaGreatDoorVi
import Derived.Test.YtgpihfacmpbpaaaGreatDoorTuBt
namespace Go.Proofs.YtgpihfacmpbpaaaGreatDoor.Tr
open Go.RowKit
set_option maxRecDepth 100000 in
set_option maxHeartbeats 16000000 in
theorem GU (l:List Lx.Lx) (hl:l.length≤9000) (w:World) (gl c k:Nat) (HS:Hid (zN l)) (hgl:gl<w.heap.size) (hcell:∀ k x,l[k]?=some x→∀ j u,(Lx.dJ x)[j]?=some u→w.cell? ⟨gl,0+(k * 4+j),none⟩=some u)
  (hk:k≤l.length) (hlt:k<l.length) (u4 u5:Value) (wr:World) (hR:qV wr w.heap.size u4 u5 (aV (l.take k)).2 (aV (l.take k)).1) (hB:Below w.heap.size w wr) (hkind:∀ x,l[k]?=some x→x.kind=2)
  (R R1 R2:Act→World→Prop) (R3:Ending→World→Prop) (u7 u8 u9 u10 u11 u12 u13 u14 u15 u16 u17 u18 u19 u20 u21 u22 u23 u24 u25 u26 u27 u28 u29 u30 u31 u32 u33 u34 u35 u36 u37 u38 u39 u40 u41 u42 u43 u44 u45 u46 u47 u48 u49 u50 u51 u52 u53 u54 u55 u56 u57 u58 u59 u60 u61 u62 u63 u64 u65 u66 u67 u68 u69 u70 u71 u72 u73 u74 u75 u76 u77 u78 u79 u80 u81 u82 u83 u84 u85 u86 u87 u88 u89 u90 u91 u92 u93 u94 u95 u96 u97 u98 u99 u100 u101 u102 u103 u104 u105 u106 u107 u108 u109 u110 u111 u112 u113 u114 u115 u116 u117 u118 u119 u120 u121 u122 u123 u124 u125 u126 u127 u128 u129 u130 u131 u132 u133 u134 u135 u136 u137 u138 u139 u140 u141 u142 u143 u144 u145 u146 u147 u148 u149 u150 u151 u152 u153 u154 u155 u156 u157 u158 u159 u160 u161 u162 u163 u164 u165 u166 u167 u168 u169 u170 u171 u172 u173 u174 u175 u176 u177 u178 u179 u180 u181:Value)
  (hQ:∀ (V' T':Value) (x7 x8 x11 x12 x13 x14 x15 x16 x17 x18 x19 x20 x21 x22 x23 x24 x25 x26 x27 x28 x29 x30 x31 x32 x33 x34 x35 x36 x37 x38 x39 x40 x41 x42 x43 x44 x45 x46 x47 x48 x49 x50 x51 x52 x53 x54 x55 x56 x57 x58 x59 x60 x61 x62 x63 x64 x65 x66 x67 x68 x69 x70 x71 x72 x73 x74 x75 x76 x77 x78 x79 x80 x81 x82 x83 x84 x85 x86 x87 x88 x89 x90 x91 x92 x93 x94 x95 x96 x97 x98 x99 x100 x101 x102 x103 x104 x105 x106 x107 x108 x109 x110 x111 x112 x113 x114 x115 x116 x117 x118 x119 x120 x121 x122 x123 x124 x125 x126 x127 x128 x129 x130 x131 x132 x133 x134 x135 x136 x137 x138 x139 x140 x141 x142 x143 x144 x145 x146 x147 x148 x149 x150 x151 x152 x153 x154 x155 x156 x157 x158 x159 x160 x161 x162 x163 x164 x165 x166 x167 x168 x169 x170 x171 x172 x173 x174 x175 x176 x177 x178 x179:Value) (w':World),qV w' w.heap.size V' T' (aV (l.take (k+1))).2 (aV (l.take (k+1))).1∧Below w.heap.size w w'→R ⟨#[.slice (some ⟨gl,0,none⟩) l.length c,undef,.slice none 0 0,.slice none 0 0,V',T',.int .i64 (k:Int),x7,x8,u9,u10,x11,x12,x13,x14,x15,x16,x17,x18,x19,x20,x21,x22,x23,x24,x25,x26,x27,x28,x29,x30,x31,x32,x33,x34,x35,x36,x37,x38,x39,x40,x41,x42,x43,x44,x45,x46,x47,x48,x49,x50,x51,x52,x53,x54,x55,x56,x57,x58,x59,x60,x61,x62,x63,x64,x65,x66,x67,x68,x69,x70,x71,x72,x73,x74,x75,x76,x77,x78,x79,x80,x81,x82,x83,x84,x85,x86,x87,x88,x89,x90,x91,x92,x93,x94,x95,x96,x97,x98,x99,x100,x101,x102,x103,x104,x105,x106,x107,x108,x109,x110,x111,x112,x113,x114,x115,x116,x117,x118,x119,x120,x121,x122,x123,x124,x125,x126,x127,x128,x129,x130,x131,x132,x133,x134,x135,x136,x137,x138,x139,x140,x141,x142,x143,x144,x145,x146,x147,x148,x149,x150,x151,x152,x153,x154,x155,x156,x157,x158,x159,x160,x161,x162,x163,x164,x165,x166,x167,x168,x169,x170,x171,x172,x173,x174,x175,x176,x177,x178,x179,u180,u181],[]⟩ w') :
  Code.wp Tryz.prog (o9 [true,true,true,false,true,false,false,true,false] (Tryz.f52.body.getD .skip)) (Exit.then R (Exit.then R1 (Exit.inBlock 0 (Exit.then R2 (bodyPost Tryz.prog Tryz.f52 R3))))) ⟨#[.slice (some ⟨gl,0,none⟩) l.length c,undef,.slice none 0 0,.slice none 0 0,u4,u5,.int .i64 (k:Int),u7,u8,u9,u10,u11,u12,u13,u14,u15,u16,u17,u18,u19,u20,u21,u22,u23,u24,u25,u26,u27,u28,u29,u30,u31,u32,u33,u34,u35,u36,u37,u38,u39,u40,u41,u42,u43,u44,u45,u46,u47,u48,u49,u50,u51,u52,u53,u54,u55,u56,u57,u58,u59,u60,u61,u62,u63,u64,u65,u66,u67,u68,u69,u70,u71,u72,u73,u74,u75,u76,u77,u78,u79,u80,u81,u82,u83,u84,u85,u86,u87,u88,u89,u90,u91,u92,u93,u94,u95,u96,u97,u98,u99,u100,u101,u102,u103,u104,u105,u106,u107,u108,u109,u110,u111,u112,u113,u114,u115,u116,u117,u118,u119,u120,u121,u122,u123,u124,u125,u126,u127,u128,u129,u130,u131,u132,u133,u134,u135,u136,u137,u138,u139,u140,u141,u142,u143,u144,u145,u146,u147,u148,u149,u150,u151,u152,u153,u154,u155,u156,u157,u158,u159,u160,u161,u162,u163,u164,u165,u166,u167,u168,u169,u170,u171,u172,u173,u174,u175,u176,u177,u178,u179,u180,u181],[]⟩ wr:=by
 obtain⟨i0,hi0,hz0,hz1,hz2⟩:=info_parts tH
 obtain⟨ti,hj0,hy0,hy1,hy2⟩:=info_parts wH
 have HQQ:=Lib.hid hQ
 clear hQ
 obtain⟨⟨xk,xn,xt,xp⟩,hx⟩:=e9 hlt
 have d0:=hcell k _ hx 0 _ rfl
 have d1:=hcell k _ hx 1 _ rfl
 have d2:=hcell k _ hx 2 _ rfl
 have d3:=hcell k _ hx 3 _ rfl
 simp only[Nat.zero_add,Nat.add_zero]at d0 d1 d2 d3
 have hpx:=HS.out.1 _ (List.mem_of_getElem? hx)
 have hcx:=HS.out.2 k _ hx
 obtain⟨⟨t,p⟩,hst⟩:∃ st,aV (l.take k)=st:=⟨_,rfl⟩
 have hgood:=HS.out.TQ k hk
 have HNX:=Lib.hid (show aV (l.take (k+1))=aE (t,p) ⟨xk,xn,xt,xp⟩ by rw[List.take_add_one,hx,Option.toList_some,k8,hst])
 rw[hst]at hR hcx hgood
 simp only[]at hR hcx hpx
 obtain⟨q1,q2,q3,q4,q5⟩:=hgood
 simp only[]at q1 q2 q3 q4 q5
 obtain⟨m,hm⟩:∃ m,p.length=m+1:=⟨p.length - 1,by omega⟩
 obtain⟨o,ho⟩:=e9 (l:=p) (i:=m) (by omega)
 obtain⟨n,hn⟩:∃ n,t.length=n:=⟨_,rfl⟩
 obtain⟨g,c',rfl,hcap,hNg,hgw,hfz,hcp⟩:=hR.at hm
 obtain⟨AT,cT,hTT⟩:=hR.qW
 rw[hn]at hTT
 subst hTT
 have up:∀ i,wr.cell? ⟨gl,i,none⟩=w.cell? ⟨gl,i,none⟩:=fun i=>World.cell?_of_block (w:=w) (hB.block gl hgl)
 rw[← up]at d0 d1 d2 d3
 have hm9:m≤9000:=by omega
 have hn9:n≤9000:=by omega
 have j0:(0:Int)≤(k:Int):=by omega
 have j1:(k:Int)<(l.length:Int):=by omega
 have j2:(0:Int)≤(m:Int):=by omega
 have j3:(m:Int)<(m:Int)+1:=by omega
 have hglr:gl<wr.heap.size:=Nat.lt_of_lt_of_le hgl hB.size
 have hNr:=hB.size
 have HR:=Lib.hid hR
 have HB:=Lib.hid hB
 have HM:=Lib.hid hm
 have HO:=Lib.hid ho
 have HN:=Lib.hid hn
 have HK:=Lib.hid (o8 (by omega) q4)
 have HP0:=Lib.hid q1
 have HPL:=Lib.hid (show p.length≤70000 by omega)
 have HQ4:=Lib.hid q4
 have HQ5:=Lib.hid q5
 obtain⟨px1,px2,px3,px4⟩:=hpx
 have hko:o.kids.size≤9000:=by have:=(q4 o (List.mem_of_getElem? ho)).2.1;omega
 have hNgl:gl≠g:=by omega
 obtain⟨z0,z1,z2,-,-,-⟩:=hcp m o ho
 have e2:xk=2:=hkind _ hx
 have e1:xk≠1:=by omega
 clear hcell hx up hR hB hm ho hn q1 q2 q3 q4 q5 hst hcp
 obtain⟨cc,hcc⟩:∃ cc,o9 [true,true,true,false,true,false,false,true,false] (Tryz.f52.body.getD .skip)=cc:=⟨_,rfl⟩
 rw[hcc]
 dsimp only[o9,Tryz.f52,Option.getD]at hcc
 subst hcc
 have t1:((xk:Int)==1)=false:=kZ e1
 have t2:((xk:Int)==2)=true:=nE e2
 have HC:=fun(W:World) (gx:Nat) (h:W.cell? ⟨gx,0,none⟩=some (.int .u8 (xn:Int)))=>Lx.BJ W gx xn px1 h
 have hcat:¬ (9223372036854775807<o.kids.size+(Lx.bytesOf [xn]).size):=by rw[Lx.c9];simp;omega
 have HE:=Lib.hid (OA (t:=t) (x:=⟨xk,xn,xt,xp⟩) HM.out e2)
 clear e1 e2
 go_upto_region 15 with fail
 go_cut [77] (fun _ wx=>RdC w (.slice (some ⟨g,0,none⟩) (m+1) c') (.slice AT n cT) (p.modify m (aG xn)) t wx)
 case first =>
  obtain⟨hR2,hB2⟩:=HR.out.YD rfl HO.out 1 (by omega) (aG xn) (.string (o.kids++Lx.bytesOf [xn])) rfl
  have HX:=Lib.hid (show RdC w (.slice (some ⟨g,0,none⟩) (m+1) c') (.slice AT n cT) (p.modify m (aG xn)) t ((wr.setCell ⟨g,m * 6+1,none⟩ (.string (o.kids++Lx.bytesOf [xn]))).alloc (.cells #[.int .u8 (xn:Int)] 5)).drew from
   ⟨hR2.below (Lx.below_drewN ((Below.refl _ _).alloc (Nat.le_refl _) _) 1),Lx.below_drewN ((HB.out.trans hB2).alloc (by have:=HB.out.size;simp;omega) _) 1⟩)
  clear hR2 hB2
  go_region_law (first | fail)
  all_goals
   go_wp2_with fail
   go_meet
   exact HX.out
 case rest =>
  obtain⟨hR3,hB3⟩:=hcut
  have upc:∀ i,wc.cell? ⟨gl,i,none⟩=wr.cell? ⟨gl,i,none⟩:=fun i=>World.cell?_of_block (w:=wr) ((hB3.block gl hgl).trans (HB.out.block gl hgl).symm)
  have HD1:=Lib.hid d1
  have HD3:=Lib.hid d3
  rw[← upc]at d1 d3
  clear d0 d2 z0 z1 z2 hfz upc HC hcat
  obtain⟨P2,hP2⟩:∃ P2,p.modify m (aG xn)=P2:=⟨_,rfl⟩
  have hgp:∀ o ∈ P2,iS (k+1) k k (k * 9000) k o:=hP2▸mY HQ4.out (fun o ho=>ho.more (by omega) (by omega) (by omega) (by omega) (by omega)) (fun o ho=>ho.kid _)
  have hm2:P2.length=m+1:=by rw[← hP2,List.length_modify];exact HM.out
  have HP2:=Lib.hid hP2
  rw[hP2]at hR3
  obtain⟨P3,hP3⟩:∃ P3,(if xn=110 then P2.modify (aN P2 bN) cU else P2)=P3:=⟨_,rfl⟩
  have hm3:P3.length=m+1:=by rw[← hP3];split<;>simp[hm2]
  obtain⟨g',c'',e',-,-,hg3,hfz3,hcp3⟩:=hR3.at hm2
  cases e'
  have hsz3:=hB3.size
  have HR3:=Lib.hid hR3
  have HB3:=Lib.hid hB3
  have HM2:=Lib.hid hm2
  have HM3:=Lib.hid hm3
  have HP3:=Lib.hid hP3
  have HGP:=Lib.hid hgp
  have HC3:=Lib.hid hcp3
  have HG3:=Lib.hid hg3
  clear hR3 hB3 hm2 hm3 hP3 hgp hP2 hcp3 hg3
  go_upto_if 99 with fail
  go_cut [103] (fun _ wx=>RdC w (.slice (some ⟨g,0,none⟩) (m+1) c') (.slice AT n cT) P3 t wx)
  case first =>
   by_cases e3:xn=110
   ·have t3:((xn:Int)==110)=true:=nE e3
    have HE3:=Lib.hid (show P2.modify (aN P2 bN) cU=P3 by rw[← HP3.out,if_pos e3])
    obtain⟨z,hz⟩:∃ z,aN P2 bN=z:=⟨_,rfl⟩
    have hzl:z<m+1:=by rw[← hz,← HM2.out];exact oF bN (by have:=HM2.out;omega)
    obtain⟨o3,ho3⟩:=e9 (l:=P2) (i:=z) (by have:=HM2.out;omega)
    have y3:=(HC3.out z _ ho3).2.2.2.1
    have hno:o3.notes≤9000:=by have:=(HGP.out o3 (List.mem_of_getElem? ho3)).2.2.1;omega
    have HKP:=Lib.hid (show nO P2 from fun o ho=>⟨(HGP.out o ho).1,by have:=(HGP.out o ho).2.1;omega⟩)
    have HP0':=Lib.hid (show 0<P2.length by have:=HM2.out;omega)
    have HPL':=Lib.hid (show P2.length≤70000 by have:=HM2.out;omega)
    obtain⟨hR4,hB4⟩:=HR3.out.YD rfl ho3 3 (by omega) cU (.int .i64 ((o3.notes:Int)+1)) (by simp[cO,cU])
    have HF:=Lib.hid (show RdC w (.slice (some ⟨g,0,none⟩) (m+1) c') (.slice AT n cT) P3 t (wc.setCell ⟨g,z * 6+3,none⟩ (.int .i64 ((o3.notes:Int)+1))) by rw[← HE3.out,hz];exact⟨hR4,HB3.out.trans hB4⟩)
    have HZL:=Lib.hid hz
    clear e3 hz ho3 hR4 hB4
    by_cases hz0:z=0
    ·have HZ0:=Lib.hid (lP (HZL.out.trans hz0))
     have HF0:=Lib.hid (show RdC w (.slice (some ⟨g,0,none⟩) (m+1) c') (.slice AT n cT) P3 t (wc.setCell ⟨g,3,none⟩ (.int .i64 ((o3.notes:Int)+1))) by have:=HF.out;rw[hz0,Nat.zero_mul,Nat.zero_add]at this;exact this)
     rw[hz0,Nat.zero_mul,Nat.zero_add]at y3
     clear hz0
     go_wp2_with (go_at_call 83;refine(bV _ P2 HP0'.out HPL'.out HKP.out _ _ HR3.out.reads (-1) HZ0.out).mono ?_;rintro e w6 ⟨rfl,rfl⟩)
     go_meet
     exact HF0.out
    ·have HZ0:=Lib.hid (eQ HZL.out (by omega))
     have zj0:(0:Int)≤(z:Int):=by omega
     have zj1:(z:Int)<(m:Int)+1:=by omega
     have zj2:max (z:Int) 0=(z:Int):=by omega
     clear hz0
     go_wp2_with (go_at_call 83;refine(bV _ P2 HP0'.out HPL'.out HKP.out _ _ HR3.out.reads (z:Int) HZ0.out).mono ?_;rintro e w6 ⟨rfl,rfl⟩)
     go_meet
     exact HF.out
   ·have t3:((xn:Int)==110)=false:=kZ e3
    have HF:=Lib.hid (show RdC w (.slice (some ⟨g,0,none⟩) (m+1) c') (.slice AT n cT) P3 t wc by rw[← HP3.out,if_neg e3];exact⟨HR3.out,HB3.out⟩)
    clear e3
    go_wp2
    go_meet
    exact HF.out
  case rest =>
   obtain⟨hR4,hB4⟩:=hcut
   have HE4:=Lib.hid (show aV (l.take (k+1))=(t++[⟨xn,aA,(xp:Int),1⟩],P3++[⟨xn,aA,n,0,0,aA⟩]) by rw[HNX.out,HE.out,HP2.out,HP3.out,HN.out])
   have upd:∀ i,wc.cell? ⟨gl,i,none⟩=wr.cell? ⟨gl,i,none⟩:=fun i=>World.cell?_of_block (w:=wr) ((hB4.block gl hgl).trans (HB.out.block gl hgl).symm)
   clear d1 d3
   have d1:=(upd _).trans HD1.out
   have d3:=(upd _).trans HD3.out
   have own:=hR4.pr
   rw[HM3.out]at own
   have hsz4:=hB4.size
   have HR4:=Lib.hid hR4
   have HB4:=Lib.hid hB4
   clear hR4 hB4 hfz3 upd hsz3
   go_wp2_with (at_builtin;refine wpList_append_lies _ rfl _ _ _ rfl w.heap.size 135 ti _ 6 64 Tryz.underlying87 hj0 hy0 hy1 hy2 rfl (by omega) (.slice (some ⟨g,0,none⟩) (m+1) c') (m+1) _ rfl (own.alloc _) ⟨wc.heap.size,0,none⟩ 1 1 [.int .u8 (xn:Int),.string { data:=#[] },.int .i64 (n:Int),.int .i64 0,.int .i64 0,.string { data:=#[] }] rfl rfl (World.news_of_block (cs:=#[.int .u8 (xn:Int),.string { data:=#[] },.int .i64 (n:Int),.int .i64 0,.int .i64 0,.string { data:=#[] }]) (t:=135) (fr:=(0,0)) (heap_alloc_new wc _)) (by simp[Value.oneCell']) (by omega) (by unfold maxLen;omega) (by omega) (by simp;omega) (wc.heap.size+1) (by simp) ?_;intro g4 cap4 w4 hown4 hgrow4 hat4 hlt4)
   have hbl4:Below wc.heap.size wc (wc.alloc (.cells #[.int .u8 (xn:Int),.string { data:=#[] },.int .i64 (n:Int),.int .i64 0,.int .i64 0,.string { data:=#[] }] 135)):=(Below.refl wc.heap.size wc).alloc (Nat.le_refl _) _
   obtain⟨hR5,hB5⟩:=HR4.out.aEU hsz4 hbl4 hgrow4 HM3.out ⟨xn,aA,n,0,0,aA⟩ hown4 (hat4.imp id (fun e=>by omega))
   have d1':=(World.cell?_of_block (w:=wc) (a:=⟨gl,k * 4+1,none⟩) (hB5.block gl hgl)).trans d1
   have d3':=(World.cell?_of_block (w:=wc) (a:=⟨gl,k * 4+3,none⟩) (hB5.block gl hgl)).trans d3
   have own5:=hR5.tr
   rw[HN.out]at own5
   have HBX:=Lib.hid (HB4.out.trans hB5)
   have hsz5:=HBX.out.size
   have HR5:=Lib.hid hR5
   clear hbl4 hR5 hB5 hown4 hgrow4 hat4 own d1 d3
   go_region_law
    ((refine step_append_lies _ (by rfl) _ _ _ (by rfl) w.heap.size 41 i0 _ 4 40 Tryz.underlying22 hi0 hz0 hz1 hz2 rfl (by omega) (.slice AT n cT) n _ (by rfl) ((own5.alloc _).drew) ⟨w4.heap.size,0,none⟩ 1 1 [.int .u8 (xn:Int),.string { data:=#[] },.int .i64 (xp:Int),.int .i64 1] (by rfl) (by rfl) (World.news_of_block (cs:=#[.int .u8 (xn:Int),.string { data:=#[] },.int .i64 (xp:Int),.int .i64 1]) (t:=41) (fr:=(0,0)) (heap_alloc_new w4 _)) (by simp[Value.oneCell']) (by omega) (by unfold maxLen;omega) (by omega) (by simp;omega) (w4.heap.size+1) (by simp) ?_;intro gg cap w5 hown1 hgrow hat hlt5))
   all_goals
    have hbl:Below w4.heap.size w4 (w4.alloc (.cells #[.int .u8 (xn:Int),.string { data:=#[] },.int .i64 (xp:Int),.int .i64 1] 41)).drew:=Lx.below_drewN ((Below.refl w4.heap.size w4).alloc (Nat.le_refl _) _) 1
    obtain⟨hR6,hB6⟩:=HR5.out.aB6 hsz5 hbl hgrow HN.out ⟨xn,aA,(xp:Int),1⟩ hown1 (hat.imp id (fun e=>by omega))
    have HR6:=Lib.hid hR6
    have HB6:=Lib.hid (HBX.out.trans hB6)
    clear hR6 hB6 hbl hown1 hgrow hat hlt5
    go_wp2
    apply HQQ.out
    exact⟨by rw[HE4.out];exact HR6.out,HB6.out⟩
end Go.Proofs.YtgpihfacmpbpaaaGreatDoor.Tr
namespace Go.Proofs.YtgpihfacmpbpaaaGreatDoor.Tr
open Go.RowKit
set_option maxRecDepth 100000 in
set_option maxHeartbeats 16000000 in
theorem GV (l:List Lx.Lx) (hl:l.length≤9000) (w:World) (gl c k:Nat) (HS:Hid (zN l)) (hgl:gl<w.heap.size) (hcell:∀ k x,l[k]?=some x→∀ j u,(Lx.dJ x)[j]?=some u→w.cell? ⟨gl,0+(k * 4+j),none⟩=some u)
  (hk:k≤l.length) (hlt:k<l.length) (u4 u5:Value) (wr:World) (hR:qV wr w.heap.size u4 u5 (aV (l.take k)).2 (aV (l.take k)).1) (hB:Below w.heap.size w wr) (hkind:∀ x,l[k]?=some x→x.kind≠1∧x.kind≠2)
  (R R1 R2:Act→World→Prop) (R3:Ending→World→Prop) (u7 u8 u9 u10 u11 u12 u13 u14 u15 u16 u17 u18 u19 u20 u21 u22 u23 u24 u25 u26 u27 u28 u29 u30 u31 u32 u33 u34 u35 u36 u37 u38 u39 u40 u41 u42 u43 u44 u45 u46 u47 u48 u49 u50 u51 u52 u53 u54 u55 u56 u57 u58 u59 u60 u61 u62 u63 u64 u65 u66 u67 u68 u69 u70 u71 u72 u73 u74 u75 u76 u77 u78 u79 u80 u81 u82 u83 u84 u85 u86 u87 u88 u89 u90 u91 u92 u93 u94 u95 u96 u97 u98 u99 u100 u101 u102 u103 u104 u105 u106 u107 u108 u109 u110 u111 u112 u113 u114 u115 u116 u117 u118 u119 u120 u121 u122 u123 u124 u125 u126 u127 u128 u129 u130 u131 u132 u133 u134 u135 u136 u137 u138 u139 u140 u141 u142 u143 u144 u145 u146 u147 u148 u149 u150 u151 u152 u153 u154 u155 u156 u157 u158 u159 u160 u161 u162 u163 u164 u165 u166 u167 u168 u169 u170 u171 u172 u173 u174 u175 u176 u177 u178 u179 u180 u181:Value)
  (hQ:∀ (V' T':Value) (x7 x8 x11 x12 x13 x14 x15 x16 x17 x18 x19 x20 x21 x22 x23 x24 x25 x26 x27 x28 x29 x30 x31 x32 x33 x34 x35 x36 x37 x38 x39 x40 x41 x42 x43 x44 x45 x46 x47 x48 x49 x50 x51 x52 x53 x54 x55 x56 x57 x58 x59 x60 x61 x62 x63 x64 x65 x66 x67 x68 x69 x70 x71 x72 x73 x74 x75 x76 x77 x78 x79 x80 x81 x82 x83 x84 x85 x86 x87 x88 x89 x90 x91 x92 x93 x94 x95 x96 x97 x98 x99 x100 x101 x102 x103 x104 x105 x106 x107 x108 x109 x110 x111 x112 x113 x114 x115 x116 x117 x118 x119 x120 x121 x122 x123 x124 x125 x126 x127 x128 x129 x130 x131 x132 x133 x134 x135 x136 x137 x138 x139 x140 x141 x142 x143 x144 x145 x146 x147 x148 x149 x150 x151 x152 x153 x154 x155 x156 x157 x158 x159 x160 x161 x162 x163 x164 x165 x166 x167 x168 x169 x170 x171 x172 x173 x174 x175 x176 x177 x178 x179:Value) (w':World),qV w' w.heap.size V' T' (aV (l.take (k+1))).2 (aV (l.take (k+1))).1∧Below w.heap.size w w'→R ⟨#[.slice (some ⟨gl,0,none⟩) l.length c,undef,.slice none 0 0,.slice none 0 0,V',T',.int .i64 (k:Int),x7,x8,u9,u10,x11,x12,x13,x14,x15,x16,x17,x18,x19,x20,x21,x22,x23,x24,x25,x26,x27,x28,x29,x30,x31,x32,x33,x34,x35,x36,x37,x38,x39,x40,x41,x42,x43,x44,x45,x46,x47,x48,x49,x50,x51,x52,x53,x54,x55,x56,x57,x58,x59,x60,x61,x62,x63,x64,x65,x66,x67,x68,x69,x70,x71,x72,x73,x74,x75,x76,x77,x78,x79,x80,x81,x82,x83,x84,x85,x86,x87,x88,x89,x90,x91,x92,x93,x94,x95,x96,x97,x98,x99,x100,x101,x102,x103,x104,x105,x106,x107,x108,x109,x110,x111,x112,x113,x114,x115,x116,x117,x118,x119,x120,x121,x122,x123,x124,x125,x126,x127,x128,x129,x130,x131,x132,x133,x134,x135,x136,x137,x138,x139,x140,x141,x142,x143,x144,x145,x146,x147,x148,x149,x150,x151,x152,x153,x154,x155,x156,x157,x158,x159,x160,x161,x162,x163,x164,x165,x166,x167,x168,x169,x170,x171,x172,x173,x174,x175,x176,x177,x178,x179,u180,u181],[]⟩ w') :
  Code.wp Tryz.prog (o9 [true,true,true,false,true,false,false,true,false] (Tryz.f52.body.getD .skip)) (Exit.then R (Exit.then R1 (Exit.inBlock 0 (Exit.then R2 (bodyPost Tryz.prog Tryz.f52 R3))))) ⟨#[.slice (some ⟨gl,0,none⟩) l.length c,undef,.slice none 0 0,.slice none 0 0,u4,u5,.int .i64 (k:Int),u7,u8,u9,u10,u11,u12,u13,u14,u15,u16,u17,u18,u19,u20,u21,u22,u23,u24,u25,u26,u27,u28,u29,u30,u31,u32,u33,u34,u35,u36,u37,u38,u39,u40,u41,u42,u43,u44,u45,u46,u47,u48,u49,u50,u51,u52,u53,u54,u55,u56,u57,u58,u59,u60,u61,u62,u63,u64,u65,u66,u67,u68,u69,u70,u71,u72,u73,u74,u75,u76,u77,u78,u79,u80,u81,u82,u83,u84,u85,u86,u87,u88,u89,u90,u91,u92,u93,u94,u95,u96,u97,u98,u99,u100,u101,u102,u103,u104,u105,u106,u107,u108,u109,u110,u111,u112,u113,u114,u115,u116,u117,u118,u119,u120,u121,u122,u123,u124,u125,u126,u127,u128,u129,u130,u131,u132,u133,u134,u135,u136,u137,u138,u139,u140,u141,u142,u143,u144,u145,u146,u147,u148,u149,u150,u151,u152,u153,u154,u155,u156,u157,u158,u159,u160,u161,u162,u163,u164,u165,u166,u167,u168,u169,u170,u171,u172,u173,u174,u175,u176,u177,u178,u179,u180,u181],[]⟩ wr:=by
 obtain⟨i0,hi0,hz0,hz1,hz2⟩:=info_parts tH
 obtain⟨ti,hj0,hy0,hy1,hy2⟩:=info_parts wH
 have HQQ:=Lib.hid hQ
 clear hQ
 obtain⟨⟨xk,xn,xt,xp⟩,hx⟩:=e9 hlt
 have d0:=hcell k _ hx 0 _ rfl
 have d1:=hcell k _ hx 1 _ rfl
 have d2:=hcell k _ hx 2 _ rfl
 have d3:=hcell k _ hx 3 _ rfl
 simp only[Nat.zero_add,Nat.add_zero]at d0 d1 d2 d3
 have hpx:=HS.out.1 _ (List.mem_of_getElem? hx)
 have hcx:=HS.out.2 k _ hx
 obtain⟨⟨t,p⟩,hst⟩:∃ st,aV (l.take k)=st:=⟨_,rfl⟩
 have hgood:=HS.out.TQ k hk
 have HNX:=Lib.hid (show aV (l.take (k+1))=aE (t,p) ⟨xk,xn,xt,xp⟩ by rw[List.take_add_one,hx,Option.toList_some,k8,hst])
 rw[hst]at hR hcx hgood
 simp only[]at hR hcx hpx
 obtain⟨q1,q2,q3,q4,q5⟩:=hgood
 simp only[]at q1 q2 q3 q4 q5
 obtain⟨m,hm⟩:∃ m,p.length=m+1:=⟨p.length - 1,by omega⟩
 obtain⟨o,ho⟩:=e9 (l:=p) (i:=m) (by omega)
 obtain⟨n,hn⟩:∃ n,t.length=n:=⟨_,rfl⟩
 obtain⟨g,c',rfl,hcap,hNg,hgw,hfz,hcp⟩:=hR.at hm
 obtain⟨AT,cT,hTT⟩:=hR.qW
 rw[hn]at hTT
 subst hTT
 have up:∀ i,wr.cell? ⟨gl,i,none⟩=w.cell? ⟨gl,i,none⟩:=fun i=>World.cell?_of_block (w:=w) (hB.block gl hgl)
 rw[← up]at d0 d1 d2 d3
 have hm9:m≤9000:=by omega
 have hn9:n≤9000:=by omega
 have j0:(0:Int)≤(k:Int):=by omega
 have j1:(k:Int)<(l.length:Int):=by omega
 have j2:(0:Int)≤(m:Int):=by omega
 have j3:(m:Int)<(m:Int)+1:=by omega
 have hglr:gl<wr.heap.size:=Nat.lt_of_lt_of_le hgl hB.size
 have hNr:=hB.size
 have HR:=Lib.hid hR
 have HB:=Lib.hid hB
 have HM:=Lib.hid hm
 have HO:=Lib.hid ho
 have HN:=Lib.hid hn
 have HK:=Lib.hid (o8 (by omega) q4)
 have HP0:=Lib.hid q1
 have HPL:=Lib.hid (show p.length≤70000 by omega)
 have HQ4:=Lib.hid q4
 have HQ5:=Lib.hid q5
 obtain⟨px1,px2,px3,px4⟩:=hpx
 have hko:o.kids.size≤9000:=by have:=(q4 o (List.mem_of_getElem? ho)).2.1;omega
 have hNgl:gl≠g:=by omega
 obtain⟨z0,z1,z2,-,-,-⟩:=hcp m o ho
 have e1:xk≠1:=(hkind _ hx).1
 have e2:xk≠2:=(hkind _ hx).2
 clear hcell hx up hR hB hm ho hn q1 q2 q3 q4 q5 hst hcp
 obtain⟨cc,hcc⟩:∃ cc,o9 [true,true,true,false,true,false,false,true,false] (Tryz.f52.body.getD .skip)=cc:=⟨_,rfl⟩
 rw[hcc]
 dsimp only[o9,Tryz.f52,Option.getD]at hcc
 subst hcc
 have t1:((xk:Int)==1)=false:=kZ e1
 have t2:((xk:Int)==2)=false:=kZ e2
 obtain⟨m',hm'⟩:∃ m',m=m'+1:=⟨m - 1,by have:=HM.out;omega⟩
 have hsp:o.spot<n:=by have:=HQ5.out m o (by omega) HO.out;have:=HN.out;omega
 have HE:=Lib.hid (OB (t:=t) (x:=⟨xk,xn,xt,xp⟩) HM.out HO.out e1 e2)
 obtain⟨s,hs⟩:∃ s,o.spot=s:=⟨_,rfl⟩
 rw[hs]at hsp z2 HE
 obtain⟨gt,ct,e,hfT,hcT⟩:=HR.out.atT HN.out (by omega)
 cases e
 obtain⟨xs,hxs⟩:=e9 (l:=t) (i:=s) (by have:=HN.out;omega)
 have T3:=(hcT s xs hxs).2.2.2
 have hwr:IntKind.i64.wrap ((n:Int) - (s:Int))=(n:Int) - (s:Int):=IntWalk.i64_in _ ⟨by omega,by omega⟩
 have s0:(0:Int)≤(s:Int):=by omega
 have s1:(s:Int)<(n:Int):=by omega
 have i1:(m:Int) - 1=(m':Int):=by omega
 have i2:IntKind.i64.wrap (m':Int)=(m':Int):=IntWalk.i64_in _ ⟨by omega,by omega⟩
 have m0:(0:Int)≤(m':Int):=by omega
 have m1:(m':Int)<(m:Int)+1:=by omega
 have c1:(m:Int)≤(c':Int):=by omega
 have c2:m≤c':=by omega
 have hmm:m - 1=m':=by omega
 have hml:m'<p.length:=by have:=HM.out;omega
 rw[hmm]at HE
 clear e1 e2 hs hcT hm' hmm
 have I1:=Lib.hid i1
 have I2:=Lib.hid i2
 clear i1 i2
 go_upto_region 20 with fail
 go_cut [135] (fun _ wx=>RdC w (.slice (some ⟨g,0,none⟩) (m+1) c') (.slice (some ⟨gt,0,none⟩) n cT) p (t.modify s (aF ((n:Int) - (s:Int)))) wx)
 case first =>
  obtain⟨hR2,hB2⟩:=HR.out.aFB rfl hxs 3 (by omega) (aF ((n:Int) - (s:Int))) (.int .i64 ((n:Int) - (s:Int))) rfl
  have HX:=Lib.hid (show RdC w (.slice (some ⟨g,0,none⟩) (m+1) c') (.slice (some ⟨gt,0,none⟩) n cT) p (t.modify s (aF ((n:Int) - (s:Int)))) (wr.setCell ⟨gt,s * 4+3,none⟩ (.int .i64 ((n:Int) - (s:Int)))).drew from
   ⟨hR2.below (Lx.below_drewN (Below.refl _ _) 1),Lx.below_drewN (HB.out.trans hB2) 1⟩)
  clear hR2 hB2 hxs
  go_region_law (first | fail)
  all_goals
   go_wp2_with fail
   go_meet
   exact HX.out
 case rest =>
  obtain⟨hR3,hB3⟩:=hcut
  obtain⟨g',c'',e',-,-,-,hfz3,hcp3⟩:=hR3.at HM.out
  cases e'
  obtain⟨y0,y1,-,-,-,-⟩:=hcp3 m o HO.out
  obtain⟨o',ho'⟩:=e9 hml
  obtain⟨-,-,-,-,x4,-⟩:=hcp3 m' o' ho'
  have hD:p.getD m' root=o':=GS ho'
  have HE4:=Lib.hid (show aV (l.take (k+1))=(t.modify s (aF ((n:Int) - (s:Int))),(if o.kind=114∧o'.first=0 then p.modify m' (bW o.kids.size) else p).take m) by rw[HNX.out,HE.out,HN.out,hD])
  have HR3:=Lib.hid hR3
  have HB3:=Lib.hid hB3
  have HO':=Lib.hid ho'
  have i1:=I1.out
  have i2:=I2.out
  clear hR3 hB3 hcp3 hxs T3 z0 z1 z2 hfz d0 d1 d2 d3 ho' hD hfT hwr I1 I2
  by_cases e3:o.kind=114
  ·have t3:((o.kind:Int)==114)=true:=nE e3
   by_cases e4:o'.first=0
   ·have t4:((o'.first:Int)==0)=true:=nE e4
    have HE5:=Lib.hid (show aV (l.take (k+1))=(t.modify s (aF ((n:Int) - (s:Int))),(p.modify m' (bW o.kids.size)).take m) by rw[HE4.out,if_pos ⟨e3,e4⟩])
    obtain⟨hR5,hB5⟩:=HR3.out.YD rfl HO'.out 4 (by omega) (bW o.kids.size) (.int .i64 (o.kids.size:Int)) rfl
    have HR5:=Lib.hid (hR5.cut (m:=m) (by rw[List.length_modify];exact HM.out) (by omega))
    have HB5:=Lib.hid (HB3.out.trans hB5)
    clear e3 e4 hR5 hB5
    go_wp2
    apply HQQ.out
    exact⟨by rw[HE5.out];exact HR5.out,HB5.out⟩
   ·have t4:((o'.first:Int)==0)=false:=kZ e4
    have HE5:=Lib.hid (show aV (l.take (k+1))=(t.modify s (aF ((n:Int) - (s:Int))),p.take m) by rw[HE4.out,if_neg (fun h=>e4 h.2)])
    have HR5:=Lib.hid (HR3.out.cut (m:=m) HM.out (by omega))
    clear e3 e4
    go_wp2
    apply HQQ.out
    exact⟨by rw[HE5.out];exact HR5.out,HB3.out⟩
  ·have t3:((o.kind:Int)==114)=false:=kZ e3
   have HE5:=Lib.hid (show aV (l.take (k+1))=(t.modify s (aF ((n:Int) - (s:Int))),p.take m) by rw[HE4.out,if_neg (fun h=>e3 h.1)])
   have HR5:=Lib.hid (HR3.out.cut (m:=m) HM.out (by omega))
   clear e3
   go_wp2
   apply HQQ.out
   exact⟨by rw[HE5.out];exact HR5.out,HB3.out⟩
end Go.Proofs.YtgpihfacmpbpaaaGreatDoor.Tr
namespace Go.Proofs.YtgpihfacmpbpaaaGreatDoor.Tr
open Go.RowKit
set_option maxRecDepth 100000 in
set_option maxHeartbeats 16000000 in
theorem l8 (v:Value) (l:List Lx.Lx) (hl:l.length≤9000) (hs:zN l) (w:World) (hv:Ba.Reads Lx.dJ 4 0 w w.heap.size v l) :
  Calls Tryz.prog 52 #[v] w (P0 w l):=by
 obtain⟨i0,hi0,hz0,hz1,hz2⟩:=info_parts tH
 obtain⟨ti,hj0,hy0,hy1,hy2⟩:=info_parts wH
 obtain⟨A,c,rfl,hA⟩:=hv
 have HA:=Lib.hid hA
 have HS:=Lib.hid hs
 have HZ:=Lib.hid (qV.zero w)
 have HZB:=Lib.hid (show Below w.heap.size w (w.alloc (.cells #[.int .u8 0,.string { data:=#[] },.int .i64 0,.int .i64 0,.int .i64 0,.string { data:=#[] }] 135)) from (Below.refl _ w).alloc (Nat.le_refl _) _)
 clear hA hs
 go_enter Tryz.func52,Tryz.ntmps52
 go_wp2
 go_loopw [4,5,6] (fun V T i wr=>RdR w l V T i wr) (fun _ _ i _=>l.length - (intOf i).toNat)
 case atStart=>exact⟨0,by omega,rfl,HZ.out,HZB.out⟩
 case round =>
  obtain⟨k,hk,rfl,hR,hB⟩:=hrel
  by_cases hlt:k<l.length
  ·obtain⟨gl,rfl,hgl,hcell⟩:=HA.out (by omega)
   have hBs:=hB
   go_upto_block 1 with fail
   by_cases e1:∀ x,l[k]?=some x→x.kind=1
   ·refine N9 l hl w gl c k HS hgl hcell hk hlt _ _ wr hR hB e1 _ _ _ _ _ _ _ _ _ _ _ _ _ _ _ _ _ _ _ _ _ _ _ _ _ _ _ _ _ _ _ _ _ _ _ _ _ _ _ _ _ _ _ _ _ _ _ _ _ _ _ _ _ _ _ _ _ _ _ _ _ _ _ _ _ _ _ _ _ _ _ _ _ _ _ _ _ _ _ _ _ _ _ _ _ _ _ _ _ _ _ _ _ _ _ _ _ _ _ _ _ _ _ _ _ _ _ _ _ _ _ _ _ _ _ _ _ _ _ _ _ _ _ _ _ _ _ _ _ _ _ _ _ _ _ _ _ _ _ _ _ _ _ _ _ _ _ _ _ _ _ _ _ _ _ _ _ _ _ _ _ _ _ _ _ _ _ _ _ _ _ _ _ _ _ _ _ _ _ ?_
    intro V' T'
    intros
    rename_i w' h
    have H:=Lib.hid h
    clear h hR hB hBs e1 hcell
    go_wp2
    go_roundw
    case rel=>exact⟨k+1,by omega,by go_num,H.out.1,H.out.2⟩
    case measure=>simp[intOf];omega
   by_cases e2:∀ x,l[k]?=some x→x.kind=2
   ·refine GU l hl w gl c k HS hgl hcell hk hlt _ _ wr hR hB e2 _ _ _ _ _ _ _ _ _ _ _ _ _ _ _ _ _ _ _ _ _ _ _ _ _ _ _ _ _ _ _ _ _ _ _ _ _ _ _ _ _ _ _ _ _ _ _ _ _ _ _ _ _ _ _ _ _ _ _ _ _ _ _ _ _ _ _ _ _ _ _ _ _ _ _ _ _ _ _ _ _ _ _ _ _ _ _ _ _ _ _ _ _ _ _ _ _ _ _ _ _ _ _ _ _ _ _ _ _ _ _ _ _ _ _ _ _ _ _ _ _ _ _ _ _ _ _ _ _ _ _ _ _ _ _ _ _ _ _ _ _ _ _ _ _ _ _ _ _ _ _ _ _ _ _ _ _ _ _ _ _ _ _ _ _ _ _ _ _ _ _ _ _ _ _ _ _ _ _ ?_
    intro V' T'
    intros
    rename_i w' h
    have H:=Lib.hid h
    clear h hR hB hBs e1 e2 hcell
    go_wp2
    go_roundw
    case rel=>exact⟨k+1,by omega,by go_num,H.out.1,H.out.2⟩
    case measure=>simp[intOf];omega
   ·refine GV l hl w gl c k HS hgl hcell hk hlt _ _ wr hR hB (fun x hx=>⟨fun h=>e1 fun y hy=>by rw[hx]at hy;cases hy;exact h,fun h=>e2 fun y hy=>by rw[hx]at hy;cases hy;exact h⟩) _ _ _ _ _ _ _ _ _ _ _ _ _ _ _ _ _ _ _ _ _ _ _ _ _ _ _ _ _ _ _ _ _ _ _ _ _ _ _ _ _ _ _ _ _ _ _ _ _ _ _ _ _ _ _ _ _ _ _ _ _ _ _ _ _ _ _ _ _ _ _ _ _ _ _ _ _ _ _ _ _ _ _ _ _ _ _ _ _ _ _ _ _ _ _ _ _ _ _ _ _ _ _ _ _ _ _ _ _ _ _ _ _ _ _ _ _ _ _ _ _ _ _ _ _ _ _ _ _ _ _ _ _ _ _ _ _ _ _ _ _ _ _ _ _ _ _ _ _ _ _ _ _ _ _ _ _ _ _ _ _ _ _ _ _ _ _ _ _ _ _ _ _ _ _ _ _ _ _ ?_
    intro V' T'
    intros
    rename_i w' h
    have H:=Lib.hid h
    clear h hR hB hBs e1 e2 hcell
    go_wp2
    go_roundw
    case rel=>exact⟨k+1,by omega,by go_num,H.out.1,H.out.2⟩
    case measure=>simp[intOf];omega
  ·obtain rfl:k=l.length:=by omega
   have HF:=Lib.hid (show P0 w l (.returned (.tuple #[u5,u4])) wr from ⟨u4,u5,rfl,by rw[List.take_length]at hR;exact hR,hB⟩)
   clear hR hB
   go_wp2
   go_ret2
   exact HF.out
end Go.Proofs.YtgpihfacmpbpaaaGreatDoor.Tr
