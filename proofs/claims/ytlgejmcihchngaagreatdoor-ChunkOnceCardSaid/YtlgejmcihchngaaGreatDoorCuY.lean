/-
  ChunkOnce, whatever it is called with.
-/
import Derived.Test.YtlgejmcihchngaaGreatDoorCuV
import Derived.Test.YtlgejmcihchngaaGreatDoorQc
namespace Go.Proofs.YtlgejmcihchngaaGreatDoor.Cu
open Go.RowKit Ba Ru Ck Ti Pa Fl
theorem small_or:∀ n:Fin 256,Hc.cls (n.val:Int)=2→bits .or .u8 ((n.val:Nat):Int) 32=((smallN n.val:Nat):Int):=by decide +kernel
theorem small_no:∀ n:Fin 256,¬ Hc.cls (n.val:Int)=2→smallN n.val=n.val:=by decide +kernel
set_option maxHeartbeats 1000000 in
theorem lower12 (c:Nat) (hc:c<256) (w:World) (hL:Hc.Laid w) :
  Calls Tryz.prog 22 #[.int .u8 (c:Int)] w fun e w'=>e=.returned (.int .u8 ((smallN c:Nat):Int))∧w=w':=by
 by_cases h:Hc.cls (c:Int)=2
 ·have hB:=Lib.hid (small_or ⟨c,hc⟩ h)
  have HC:=Lib.hid (Hc.class_at (c:Int) 2 (by omega) (by omega) h w hL)
  clear h
  go_enter Tryz.func22,Tryz.ntmps22
  go_wp2_with fail
  refine HC.out.mono ?_
  rintro e w' ⟨rfl,rfl⟩
  go_wp2
  go_ret
  exact⟨Hc.ret_int hB.out,rfl⟩
 ·have hB:=Lib.hid (small_no ⟨c,hc⟩ h)
  obtain⟨k,hk⟩:∃ k,Hc.cls (c:Int)=k:=⟨_,rfl⟩
  have HC:=Lib.hid (Hc.class_at (c:Int) k (by omega) (by omega) hk w hL)
  have hd:(k==2)=false:=by rw[← hk];simpa using h
  clear h hk
  go_enter Tryz.func22,Tryz.ntmps22
  go_wp2_with fail
  refine HC.out.mono ?_
  rintro e w' ⟨rfl,rfl⟩
  go_wp2
  go_ret
  have e:smallN c=c:=hB.out
  rw[e]
  exact⟨rfl,rfl⟩
theorem low_snoc {t:List Tk} {a q:Nat} {z:Tk} (hz:t[a+q]?=some z):lowN (chs ((t.drop a).take (q+1)))=lowN (chs ((t.drop a).take q))++[smallN z.ch]:=by
 have e:(t.drop a)[q]?=some z:=by rw[List.getElem?_drop];exact hz
 rw[List.take_add_one,e]
 unfold lowN chs
 rw[List.map_append,List.map_append]
 rfl
set_option maxRecDepth 100000 in
set_option maxHeartbeats 16000000 in
theorem once_row12 (T:TLands) (Q:QLands T) (l:List Rl) (A:Option Addr) (off c:Nat) (ta:List Tk) (A1:Option Addr) (o1 c1:Nat) (w:World) (hL:Laid9 w) (hcl:l.length≤c) (hcm:c≤maxLen) (hf:∀ x ∈ l,FitR x) (hl:ReadsR off w w.heap.size (.slice A l.length c) l)
  (_ha1:ta.length≤c1) (_ha2:c1≤maxLen) (haf:FitT ta) (har:ReadsT o1 w w.heap.size (.slice A1 ta.length c1) ta) :
  Calls Tryz.prog 5 #[.slice A l.length c,.slice A1 ta.length c1] w fun e w'=>e=.returned (.bool true)∧Below w.heap.size w w':=by
 have HAF:=Lib.hid haf
 have HAR:=Lib.hid har
 clear haf har
 obtain⟨na,hna⟩:∃ n,ta.length=n:=⟨_,rfl⟩
 rw[hna]at HAR ⊢
 have HNA:=Lib.hid hna
 have HCA:=Lib.hid (capsR_lit (A:=A1) (show na≤c1 from hna▸_ha1) _ha2)
 clear hna
 have HL:=Lib.hid hL
 have HV:=Lib.hid hl
 have hlm:l.length≤maxLen:=Nat.le_trans hcl hcm
 have HF:=Lib.hid hf
 have HCAP:=Lib.hid (show CapsR (.slice A l.length c) from fun A' n' c' e=>by
  injection e with _ e1 e2
  subst e1;subst e2
  exact⟨hcl,hcm⟩)
 clear hL hl hf hcm hcl
 obtain⟨nl,hnl⟩:∃ nl,l.length=nl:=⟨_,rfl⟩
 rw[hnl]at HV HCAP hlm ⊢
 have HNL:=Lib.hid hnl
 clear hnl
 obtain⟨lb,hlb⟩:∃ lb,long9 l=lb:=⟨_,rfl⟩
 have HLB:=Lib.hid hlb
 clear hlb
 have HAW:=Lib.hid (fun(W:World) hW=>awake12 T Q W hW)
 go_enter Tryz.func5,Tryz.ntmps5
 cases lb
 case true =>
  go_wp2_with fail
  refine(long12_at _ l off (by rw[HNL.out];exact hlm) _ _ HV.out true HLB.out).mono ?_
  rintro e w' ⟨rfl,hw'⟩
  have hw':=hw'.symm
  subst hw'
  go_wp2_with fail
  refine(HAW.out _ HL.out).mono ?_
  rintro e w9 ⟨rfl,hb9⟩
  go_wp2
  go_ret
  exact⟨rfl,hb9⟩
 case false =>
 obtain⟨hl5,hl50⟩:=not_long9 HLB.out
 rw[HNL.out]at hl5
 have HFX:=Lib.hid (show FitL l from fun x hx=>⟨HF.out x hx,by have:=(hl50 x hx).1;omega,by have:=(hl50 x hx).2;omega⟩)
 have HF50:=Lib.hid (show ∀ x ∈ l,x.left.length≤50∧x.cells.length≤50 from hl50)
 clear hl50
 go_wp2_with fail
 refine(long12_at _ l off (by rw[HNL.out];exact hlm) _ _ HV.out false HLB.out).mono ?_
 rintro e w' ⟨rfl,hw'⟩
 have hw':=hw'.symm
 subst hw'
 by_cases h40:40<na
 ·have tb1:decide (40<(na:Int))=true:=decide_eq_true (by omega)
  have tb2:decide (40<na)=true:=decide_eq_true h40
  go_wp2_with fail
  refine(HAW.out _ HL.out).mono ?_
  rintro e w9 ⟨rfl,hb9⟩
  go_wp2
  go_ret
  exact⟨rfl,hb9⟩
 have tb1:decide (40<(na:Int))=false:=decide_eq_false (by omega)
 have tb2:decide (40<na)=false:=decide_eq_false h40
 go_wp2_with fail
 refine(T.new _ l off (by rw[HNL.out];omega) HFX.out HCAP.out _ HL.out HV.out).mono ?_
 rintro e w1 ⟨hb1,h1⟩
 obtain⟨z,y,hr⟩:∃ z y,tableR prC l=(z,y):=⟨_,_,rfl⟩
 have HR:=Lib.hid hr
 rw[hr]at h1
 have HB1:=Lib.hid hb1
 clear hb1 hr
 rcases h1 with⟨hy,t,rfl,his⟩ | ⟨hy,rfl⟩
 rotate_left
 ·have y1:((y:Int)==0)=false:=beq_eq_false_iff_ne.2 (by have:y≠0:=hy;omega)
  have y3:((y:Int) != 0)=true:=bne_iff_ne.2 (by have:y≠0:=hy;omega)
  clear hy
  go_wp2_with fail
  refine(HAW.out _ (HL.out.kept HB1.out)).mono ?_
  rintro e w9 ⟨rfl,hb9⟩
  have HE9:=Lib.hid (chain HB1.out HB1.out.size hb9)
  clear hb9
  go_wp2
  go_ret
  exact⟨rfl,HE9.out⟩
 have hy:y=0:=hy
 subst hy
 have HACC:=Lib.hid ((table_acc l).1 (by rw[HR.out]))
 obtain⟨⟨a,rfl⟩,-⟩:=T.ptr his
 have hlen:l.length≤1000:=by rw[HNL.out];omega
 have HL1:=Lib.hid (HL.out.kept HB1.out)
 have HV1:=Lib.hid ((HV.out.below HB1.out).mono HB1.out.size)
 obtain⟨fa,hfa⟩:∃ f,errC ta=f:=⟨_,rfl⟩
 obtain⟨ps,hps⟩:∃ p,ofC l ta=p:=⟨_,rfl⟩
 have HAR1:=Lib.hid ((HAR.out.below HB1.out).mono HB1.out.size)
 have HOF:=Lib.hid (Q.of _ ta o1 (by rw[HNA.out];omega) HAF.out HCA.out hlen HACC.out HFX.out w1 HL1.out (T.keep his (Kept.of_below (Below.refl _ _) (Nat.le_refl _))) HAR1.out)
 rw[hfa,hps]at HOF
 have HCK:=Lib.hid (fun(W:World) (hW:Below w.heap.size w W)=>Q.check _ ta o1 (by rw[HNA.out];omega) HAF.out W (HL.out.kept hW) ((HAR.out.below hW).mono hW.size))
 rw[hfa]at HCK
 clear his hlen
 unfold errC at hfa
 unfold ofC at hps
 go_wp2_with fail
 refine HOF.out.mono ?_
 rintro e w2 ⟨vp,rfl,hown2,hb2⟩
 have HB2:=Lib.hid (chain HB1.out HB1.out.size hb2)
 have HRP:=Lib.hid (readsQ_own rfl hown2)
 obtain⟨Ap,cp,rfl,-,-,-⟩:=own_formR hown2
 clear hown2 hb2
 cases hch:chunkB ta
 case false =>
  rw[hch,if_neg Bool.false_ne_true]at hfa hps
  subst hfa hps
  simp only[List.length_nil]
  go_wp2_with fail
  refine(HCK.out _ HB2.out).mono ?_
  rintro e w3 ⟨rfl,hb3⟩
  have HB3:=Lib.hid (chain HB2.out HB2.out.size hb3)
  clear hb3
  go_wp2_with fail
  refine(HAW.out _ (HL.out.kept HB3.out)).mono ?_
  rintro e w9 ⟨rfl,hb9⟩
  have HE9:=Lib.hid (chain HB3.out HB3.out.size hb9)
  clear hb9
  go_wp2
  go_ret
  exact⟨rfl,HE9.out⟩
 case true =>
 rw[hch,if_pos rfl]at hfa hps
 subst hfa
 have HTK:=Lib.hid (show TakeP l ta 0 ps na from by
  have:=of_take HACC.out hch
  rw[hps,HNA.out]at this
  exact this)
 have hpl:ps.length≤200:=by
  have:=of_len l ta
  rw[hps,HNA.out]at this
  omega
 obtain⟨m,hm⟩:∃ m,ps.length=m:=⟨_,rfl⟩
 rw[hm]at HRP hpl ⊢
 have HM:=Lib.hid hm
 clear hm hch hps
 go_wp2_with fail
 go_loopw [9,10] (fun a i wr=>∃ (j at':Nat),a=.int .i64 (at':Int)∧i=.int .i64 (j:Int)∧j≤m∧at'≤na∧TakeP l ta at' (ps.drop j) na∧ReadsQ 0 wr wr.heap.size (.slice Ap m cp) (ps.map Pc.q)∧Below w.heap.size w wr) (fun _ i _=>m - (intOf i).toNat)
 case atStart=>exact⟨0,0,rfl,rfl,Nat.zero_le _,Nat.zero_le _,HTK.out,HRP.out,HB2.out⟩
 case round =>
  obtain⟨j,p0,rfl,rfl,hj,hp0,htk,hrq,hBr⟩:=hrel
  have HBR:=Lib.hid hBr
  have HRQ:=Lib.hid hrq
  have hszr:=hBr.size
  clear hrq hBr
  by_cases hlt:j<m
  rotate_left
  ·have hjm:j=m:=by omega
   have hpn:p0=na:=by
    rw[hjm,List.drop_of_length_le (by rw[HM.out];exact Nat.le_refl _)]at htk
    exact htk
   have d0:decide ((j:Int)<(m:Int))=false:=decide_eq_false (by omega)
   have d0':decide (j<m)=false:=decide_eq_false hlt
   have d1:((p0:Int)==(na:Int))=true:=beq_iff_eq.2 (by omega)
   have d1':(p0==na)=true:=beq_iff_eq.2 hpn
   clear hjm hpn htk
   go_wp2_with fail
   refine(HAW.out _ (HL.out.kept HBR.out)).mono ?_
   rintro e w9 ⟨rfl,hb9⟩
   have HE9:=Lib.hid (chain HBR.out HBR.out.size hb9)
   clear hb9
   go_wp2
   go_ret
   exact⟨rfl,HE9.out⟩
  obtain⟨x,hx⟩:∃ x,ps[j]?=some x:=⟨_,List.getElem?_eq_getElem (by rw[HM.out];exact hlt)⟩
  have hdx:ps.drop j=x::ps.drop (j+1):=by
   obtain⟨h,e⟩:=List.getElem?_eq_some_iff.1 hx
   rw[List.drop_eq_getElem_cons h,e]
  rw[hdx]at htk
  obtain⟨y,hy,hfrm,hle,hok,htk2⟩:=htk
  rw[HNA.out]at hle
  have HTK2:=Lib.hid htk2
  have HOK:=Lib.hid hok
  have hym:=List.mem_of_getElem? hy
  have hrl:x.rule<nl:=by have:=(List.getElem?_eq_some_iff.1 hy).1;rw[HNL.out]at this;exact this
  obtain⟨A',c',e,hA⟩:=HRQ.out
  injection e with e1 e2 e3
  subst e1
  obtain⟨g,rfl,hgw,hcell⟩:=hA (by rw[List.length_map,HM.out];omega)
  obtain⟨i0,i1,i2⟩:=qcell hcell j x.q (by rw[List.getElem?_map,hx];rfl)
  rw[Nat.zero_add]at i0 i1 i2
  obtain⟨g2,rfl,hg2,hcy⟩:=cellsR_at HV.out hy
  obtain⟨Y,hY⟩:∃ Y,bytesOf y.left=Y:=⟨_,rfl⟩
  obtain⟨yt,hYt⟩:∃ Y,bytesOf y.cells=Y:=⟨_,rfl⟩
  have HYY:=Lib.hid hY
  have HYL:=Lib.hid (show ∀ b ∈ y.left,b<256 from (HF.out y hym).2.2.2.1)
  rw[hY,hYt]at hcy
  have hYs:Y.size≤50:=by rw[← hY,bytesOf_size];exact(HF50.out y hym).1
  have HCY:=Lib.hid (show ∀ W:World,Below w.heap.size w W→CellsR W g2 (off+x.rule * 5) y.what Y yt y.prio y.line from fun W hW=>hcy.below hW hg2)
  obtain⟨xr,hxr⟩:∃ r,x.rule=r:=⟨_,rfl⟩
  obtain⟨xn,hxn⟩:∃ n,x.len=n:=⟨_,rfl⟩
  have q0:wr.cell? ⟨g,j * 3,none⟩=some (.int .i64 (xr:Int)):=by rw[← hxr];exact i0
  have q1:wr.cell? ⟨g,j * 3+1,none⟩=some (.int .i64 (p0:Int)):=by rw[← hfrm];exact i1
  have q2:wr.cell? ⟨g,j * 3+2,none⟩=some (.int .i64 (xn:Int)):=by rw[← hxn];exact i2
  rw[hxr]at HCY hrl
  rw[hxn]at hle HOK HTK2
  obtain⟨yq,hyq⟩:∃ q,y.what=q:=⟨_,rfl⟩
  obtain⟨yp,hyp⟩:∃ q,y.prio=q:=⟨_,rfl⟩
  obtain⟨yn,hyn⟩:∃ q,y.line=q:=⟨_,rfl⟩
  have HYQ:=Lib.hid hyq
  rw[hyq,hyp,hyn]at HCY
  have d0:decide ((j:Int)<(m:Int))=true:=decide_eq_true (by omega)
  have d0':decide (j<m)=true:=decide_eq_true hlt
  have j0:(0:Int)≤(j:Int):=by omega
  have j1:(j:Int)<(m:Int):=by omega
  have r0:(0:Int)≤(xr:Int):=by omega
  have r1:(xr:Int)<(nl:Int):=by omega
  have d1:decide ((xr:Int)<0)=false:=decide_eq_false (by omega)
  have d2:decide ((nl:Int)≤(xr:Int))=false:=decide_eq_false (by omega)
  have d2':decide (nl≤xr)=false:=decide_eq_false (by omega)
  have d3:((p0:Int) != (p0:Int))=false:=bne_self_eq_false _
  have d4:decide ((xn:Int)<0)=false:=decide_eq_false (by omega)
  have y5:IntKind.i64.wrap ((p0:Int)+(xn:Int))=(p0:Int)+(xn:Int):=IntWalk.i64_in _ ⟨by omega,by omega⟩
  have d5:decide ((na:Int)<(p0:Int)+(xn:Int))=false:=decide_eq_false (by omega)
  have d5':decide (na<p0+xn)=false:=decide_eq_false (by omega)
  clear i0 i1 i2 hx hdx hfrm hok htk2 hy hym hA hcell hgw hcy hg2 hY hYt hxr hxn hyq hyp hyn e2 e3
  go_upto_region 14 with fail
  have hbx:=BoxQ.new wr (xr:Int) (p0:Int) (xn:Int) 48
  have hwx:=(Below.refl wr.heap.size wr).alloc (Nat.le_refl _) (.cells #[.int .i64 (xr:Int),.int .i64 (p0:Int),.int .i64 (xn:Int)] 48)
  have hs3:(wr.alloc (.cells #[.int .i64 (xr:Int),.int .i64 (p0:Int),.int .i64 (xn:Int)] 48)).heap.size=wr.heap.size+1:=by simp
  generalize wr.alloc _=w3 at hbx hwx hs3 ⊢
  obtain⟨b1,hb1⟩:∃ b,wr.heap.size=b:=⟨_,rfl⟩
  have HRQ3:=Lib.hid ((HRQ.out.below hwx).mono hwx.size)
  have HB3:=Lib.hid (chain HBR.out HBR.out.size hwx)
  rw[hb1]at hbx hs3 ⊢
  clear hb1 hwx q0 q1 q2
  have HBX:=Lib.hid hbx
  obtain⟨k0,k1,k2,k3⟩:=hbx
  obtain⟨c0,c1',c2,c3,c4⟩:=HCY.out w3 HB3.out
  go_upto_region 17 with fail
  have hby:=BoxS.new w3 yq Y yt yp yn 50
  have hwy:=(Below.refl w3.heap.size w3).alloc (Nat.le_refl _) (.cells #[.int .i64 yq,.string Y,.string yt,.int .i64 yp,.int .i64 yn] 50)
  generalize w3.alloc _=w4 at hby hwy ⊢
  have HRQ4:=Lib.hid ((HRQ3.out.below hwy).mono hwy.size)
  have HB4:=Lib.hid (chain HB3.out HB3.out.size hwy)
  have HBX4:=Lib.hid (HBX.out.kept hwy)
  rw[hs3]at hby
  try rw[hs3]
  clear hwy hs3 k0 k1 k2 k3 c0 c1' c2 c3 c4
  have HBY:=Lib.hid hby
  obtain⟨k0,k1,k2,k3⟩:=HBX4.out
  obtain⟨y0,y1,y2,y3,y4,y6⟩:=hby
  have hsz4:=HB4.out.size
  by_cases hn0:xn=0
  ·subst hn0
   have h8:yq=8:=by
    have h:=HOK.out
    unfold okP at h
    rw[if_pos rfl]at h
    rw[← HYQ.out];exact h.1
   have HNX:=Lib.hid (show TakeP l ta p0 (ps.drop (j+1)) na from HTK2.out)
   subst h8
   have hlf:Y={ data:=#[99,97,112] }∨Y={ data:=#[99,97,112,115] }∨Y={ data:=#[110,117,109] }∨Y={ data:=#[108,101,116] }:=by
    have h:=HOK.out
    unfold okP at h
    rw[if_pos rfl]at h
    rcases h.2 with h | h | h | h
    ·exact .inl (by rw[← HYY.out,h];rfl)
    ·exact .inr (.inl (by rw[← HYY.out,h];rfl))
    ·exact .inr (.inr (.inl (by rw[← HYY.out,h];rfl)))
    ·exact .inr (.inr (.inr (by rw[← HYY.out,h];rfl)))
   clear hYs
   rcases hlf with h | h | h | h
   all_goals
    subst h
    go_wp2
    go_roundw
    case rel=>exact⟨j+1,p0,rfl,by go_num,by omega,hp0,HNX.out,HRQ4.out,HB4.out⟩
    case measure=>simp[intOf];omega
  have hok:(∀ x ∈ (ta.drop p0).take xn,(x.kind=1↔yq≠8))∧(yq≠8→lowN (chs ((ta.drop p0).take xn))=y.left)∧(yq=8→xn=1∧y.left.length=2∧lowN (chs ((ta.drop p0).take xn))=y.left.take 1):=by
   have h:=HOK.out
   unfold okP at h
   rw[if_neg hn0,HYQ.out]at h
   exact h
  have HKK:=Lib.hid hok
  have n0:((xn:Int)==0)=false:=beq_eq_false_iff_ne.2 (by omega)
  have n0':(xn==0)=false:=beq_eq_false_iff_ne.2 hn0
  clear hok k0 k1 k2 k3 y0 y1 y2 y3 y4
  obtain⟨k0,k1,k2,k3⟩:=HBX4.out
  go_wp2
  go_loopw [13,14] (fun s k wr2=>∃ q:Nat,k=.int .i64 ((p0:Int)+(q:Int))∧q≤xn∧s=.string (bytesOf (lowN (chs ((ta.drop p0).take q))))∧BoxQ wr2 b1 (xr:Int) (p0:Int) (xn:Int)∧BoxS wr2 (b1+1) yq Y yt yp yn∧ReadsQ 0 wr2 wr2.heap.size (.slice (some ⟨g,0,none⟩) m cp) (ps.map Pc.q)∧Below w.heap.size w wr2) (fun _ k _=>p0+xn - (intOf k).toNat)
  case atStart=>exact⟨0,by simp,Nat.zero_le _,rfl,HBX4.out,HBY.out,HRQ4.out,HB4.out⟩
  case round =>
   obtain⟨q,rfl,hq,rfl,hbx2,hby2,hrq2,hB5⟩:=hrel
   have HBX5:=Lib.hid hbx2
   have HBY5:=Lib.hid hby2
   have HRQ5:=Lib.hid hrq2
   have HB5:=Lib.hid hB5
   have hsz5:=hB5.size
   obtain⟨k0,k1,k2,k3⟩:=hbx2
   obtain⟨y0,y1,y2,y3,y4,y6⟩:=hby2
   have hss:(bytesOf (lowN (chs ((ta.drop p0).take q)))).size=q:=by
    rw[bytesOf_size,lowN_len]
    unfold chs
    rw[List.length_map,List.length_take,List.length_drop,HNA.out]
    omega
   obtain⟨U,hU⟩:∃ U,bytesOf (lowN (chs ((ta.drop p0).take q)))=U:=⟨_,rfl⟩
   have HUU:=Lib.hid hU
   rw[hU]at hss ⊢
   clear hU hrq2 hB5
   by_cases hqn:q<xn
   ·obtain⟨z,hz⟩:∃ z,ta[p0+q]?=some z:=⟨_,List.getElem?_eq_getElem (by rw[HNA.out];omega)⟩
    have hzc:=(HAF.out z (List.mem_of_getElem? hz)).2.1
    have hzk:(z.kind=1↔yq≠8):=HKK.out.1 z (by
     have e:((ta.drop p0).take xn)[q]?=some z:=by rw[List.getElem?_take,if_pos hqn,List.getElem?_drop];exact hz
     exact List.mem_of_getElem? e)
    obtain⟨A3,c3,e,hA3⟩:=HAR.out.below HB5.out
    injection e with e1 e2 e3
    subst e1
    obtain⟨g3,rfl,hg3w,hcell3⟩:=hA3 (by rw[HNA.out];omega)
    obtain⟨u0,u1,u2⟩:=tcell hcell3 (p0+q) z hz
    have HSN:=Lib.hid (show bytesOf (lowN (chs ((ta.drop p0).take (q+1))))=U++bytesOf [smallN z.ch] from by rw[low_snoc hz,bytesOf_app,HUU.out])
    obtain⟨zk,zc,zp⟩:=z
    simp only[]at u0 u1 u2 hzc hzk HSN
    have hsm:smallN zc<256:=smallN_lt hzc
    have HLO:=Lib.hid (fun(W:World) (hW:Below w.heap.size w W)=>lower12 zc hzc W (hc_laid (HL.out.kept hW).1))
    obtain⟨sm,hsm2⟩:∃ s,smallN zc=s:=⟨_,rfl⟩
    rw[hsm2]at hsm HLO HSN
    have t1:decide ((p0:Int)+(q:Int)<(p0:Int)+(xn:Int))=true:=decide_eq_true (by omega)
    have t1':decide (q<xn)=true:=decide_eq_true hqn
    have t1'':decide (p0+q<p0+xn)=true:=decide_eq_true (by omega)
    have z0:(0:Int)≤(p0:Int)+(q:Int):=by omega
    have z1:(p0:Int)+(q:Int)<(na:Int):=by omega
    have z2:((p0:Int)+(q:Int)).toNat=p0+q:=by omega
    have y8:IntKind.i64.wrap ((p0:Int)+(q:Int)+1)=(p0:Int)+(q:Int)+1:=IntWalk.i64_in _ ⟨by omega,by omega⟩
    obtain⟨kb,hkb⟩:∃ b,(zk==1)=b:=⟨_,rfl⟩
    have hkb2:(yq != 8)=kb:=by
     rw[← hkb,Bool.eq_iff_iff,bne_iff_ne,beq_iff_eq]
     exact hzk.symm
    have hkk:(kb != kb)=false:=bne_self_eq_false kb
    have hone:(bytesOf [sm]).size=1:=bytesOf_size _
    have hcv:=fun(W:World) (h:W.cell? ⟨W.heap.size - 1,0,none⟩=some (.int .u8 (sm:Int)))=>back_one W (W.heap.size - 1) sm hsm h
    clear hz hzk hA3 hcell3 hg3w e2 e3 hsm2
    go_wp2_with fail
    go_quiet (fail)
    go_wp2_with fail
    have HB6:=Lib.hid (Ba.below_drewN HB5.out nq)
    refine(HLO.out _ HB6.out).mono ?_
    rintro e w6 ⟨rfl,hw6⟩
    subst hw6
    obtain⟨W6,hW6⟩:∃ W,wr.drewN nq=W:=⟨_,rfl⟩
    rw[hW6]at HB6 ⊢
    have hcv6:=back_one (W6.alloc (.cells #[.int .u8 (sm:Int)] 5)) W6.heap.size sm hsm (by simp)
    have hbW:Below wr.heap.size wr W6:=by rw[← hW6];exact Ba.below_drewN (Below.refl _ _) _
    have HBX6:=Lib.hid (HBX5.out.kept hbW)
    have HBY6:=Lib.hid (HBY5.out.kept hbW)
    have HRQ6:=Lib.hid ((HRQ5.out.below hbW).mono hbW.size)
    obtain⟨O,hO⟩:∃ O,bytesOf [sm]=O:=⟨_,rfl⟩
    rw[hO]at hcv6 hone HSN
    have hal:=(Below.refl W6.heap.size W6).alloc (Nat.le_refl _) (.cells #[.int .u8 (sm:Int)] 5)
    have HBX7:=Lib.hid (HBX6.out.kept hal)
    have HBY7:=Lib.hid (HBY6.out.kept hal)
    have HRQ7:=Lib.hid ((HRQ6.out.below hal).mono hal.size)
    have HB7:=Lib.hid (chain HB6.out HB6.out.size hal)
    clear hcv hbW hal hW6 hO
    go_wp2
    go_roundw
    case rel=>exact⟨q+1,by go_num,by omega,by rw[HSN.out],HBX7.out,HBY7.out,HRQ7.out,HB7.out⟩
    case measure=>simp[intOf];omega
   ·obtain rfl:q=xn:=by omega
    have t1:decide ((p0:Int)+(q:Int)<(p0:Int)+(q:Int))=false:=decide_eq_false (by omega)
    have HNX:=Lib.hid (show TakeP l ta (p0+q) (ps.drop (j+1)) na from HTK2.out)
    by_cases h8:yq=8
    ·obtain⟨e1,e2,e3⟩:=HKK.out.2.2 h8
     subst h8 e1
     have hY2:Y.size=2:=by rw[← HYY.out,bytesOf_size];exact e2
     have hY1:Y.extract 0 1=U:=by
      rw[← HUU.out,e3,← HYY.out]
      rw[← bytesOf_bytesN ((bytesOf y.left).extract 0 1),bytesN_ext,bytesN_bytesOf _ (HYL.out)]
      rfl
     have hne:(U.toList != U.toList)=false:=bne_self_eq_false _
     have m1:((Y.size:Int) != 2)=false:=by rw[bne_eq_false_iff_eq];omega
     have m2:((1:Int) != 1)=false:=by decide
     go_wp2
     go_roundw
     case rel=>exact⟨j+1,p0+1,by go_num,by go_num,by omega,by omega,HNX.out,HRQ5.out,HB5.out⟩
     case measure=>simp[intOf];omega
    ·have hYU:Y=U:=by rw[← HUU.out,HKK.out.2.1 h8,HYY.out]
     subst hYU
     have m0:(yq != 8)=true:=bne_iff_ne.2 h8
     have m1:(yq==8)=false:=beq_eq_false_iff_ne.2 h8
     have hne:(Y.toList != Y.toList)=false:=bne_self_eq_false _
     go_wp2
     go_roundw
     case rel=>exact⟨j+1,p0+q,by go_num,by go_num,by omega,by omega,HNX.out,HRQ5.out,HB5.out⟩
     case measure=>simp[intOf];omega
end Go.Proofs.YtlgejmcihchngaaGreatDoor.Cu
