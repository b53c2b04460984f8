/-
  Put together: NvH, NvI.
-/
import Derived.Test.YtgpihfacmpbpaaaGreatDoorNb
import Derived.Test.YtgpihfacmpbpaaaGreatDoorVk
namespace Go.Proofs.YtgpihfacmpbpaaaGreatDoor.Nu
open Go.RowKit Tr
theorem aDE:(Tryz.prog.info? 41).map (fun i=>(i.zero,i.size,i.bytes))=some (some (.agg #[.int .u8 0,.string { data:=#[] },.int .i64 0,.int .i64 0]),4,40):=by kernel_rfl
theorem xS {w:World} {N g k c:Nat} {l:List Nd} (hk:l.length=k) (own:w.ownsRow N 41 4 (.slice (some ⟨g,0,none⟩) k c) k (Ba.rows cN l)) :
  ∀ j x,l[j]?=some x→∀ m u,(cN x)[m]?=some u→w.cell? ⟨g,0+(j * 4+m),none⟩=some u:=fun j x hx m u hu=>by
 have hm:m<4:=by have:=(List.getElem?_eq_some_iff.1 hu).1;rwa [dX]at this
 have hj:=(List.getElem?_eq_some_iff.1 hx).1
 rw[Nat.zero_add,own.cellAt _ (by omega),Ba.cB cN dX _ _ _ hx m hm,hu]
def aE5 (L:List Ev) (w:World) (u5 u6:Value) (wr:World):Prop:=∃ (i:Nat) (out:List Nd),u6=.int .i64 (i:Int)∧W4 L out i∧B0 w u5 out.length out wr
def aEB (L:List Ev) (w:World) (u5 u7:Value) (wr:World):Prop:=∃ (i:Nat) (out:List Nd),u7=.int .i64 (i:Int)∧((L=[]∧out=[])∨TX L out i)∧B0 w u5 out.length out wr
set_option maxHeartbeats 1000000 in
theorem SQ (A:Option Addr) (c:Nat) (_hc:c≤maxLen) (w:World) :
  Calls Tryz.prog 87 #[.slice A 0 c] w fun e w'=>∃ v,e=.returned v∧w'.ownsRow w.heap.size 41 4 v 0 []∧Below w.heap.size w w':=by
 obtain⟨i0,hi0,hz0,hz1,hz2⟩:=info_parts aDE
 unfold maxLen at _hc
 have HW:=Lib.hid (show (w.alloc (.cells #[] 41)).ownsRow w.heap.size 41 4 (.slice (some ⟨w.heap.size,0,none⟩) 0 0) 0 [] from World.ownsRow_lit w #[] 0 (Nat.le_refl _) (by decide) rfl)
 have HB:=Lib.hid (show Below w.heap.size w (w.alloc (.cells #[] 41)) from (Below.refl _ w).alloc (Nat.le_refl _) _)
 go_enter Tryz.func87,Tryz.ntmps87
 cases A with
 | none =>
  go_wp2
  go_loopw [4] (fun u4 wr=>u4=.int .i64 0∧wr=w.alloc (.cells #[] 41)) (fun _ _=>0)
  case atStart=>exact⟨rfl,rfl⟩
  case round =>
   obtain⟨rfl,rfl⟩:=hrel
   go_wp2
   go_loopw [5] (fun u5 wr=>u5=.int .i64 0∧wr=w.alloc (.cells #[] 41)) (fun _ _=>0)
   case atStart=>exact⟨rfl,rfl⟩
   case round =>
    obtain⟨rfl,rfl⟩:=hrel
    go_wp2
    go_ret
    exact⟨_,rfl,HW.out,HB.out⟩
 | some ad =>
  go_wp2_with (at_builtin;refine wpList_append_own _ rfl _ _ 22 rfl w.heap.size 41 i0 _ 4 40 Tryz.underlying22 hi0 hz0 hz1 hz2 rfl (by decide) (.slice (some ⟨w.heap.size,0,none⟩) 0 0) 0 [] rfl HW.out ad 0 c [] rfl rfl (fun j u hu=>by simp at hu) (fun u hu=>by simp at hu) (by unfold maxLen;omega) (by omega) (by simp) ?_;intro v' w4 hown hgrow _)
  have HB4:=Lib.hid (HB.out.grown hgrow (by simp) (fun j ej=>by simp[Value.ownBlock]at ej;omega))
  have HO:=Lib.hid hown
  clear hown hgrow
  go_loopw [4] (fun u4 wr=>u4=.int .i64 0∧wr=w4) (fun _ _=>0)
  case atStart=>exact⟨rfl,rfl⟩
  case round =>
   obtain⟨rfl,rfl⟩:=hrel
   go_wp2
   go_loopw [5] (fun u5 wx=>u5=.int .i64 0∧wx=wr) (fun _ _=>0)
   case atStart=>exact⟨rfl,rfl⟩
   case round =>
    obtain⟨rfl,rfl⟩:=hrel
    go_wp2
    go_ret
    exact⟨_,rfl,HO.out,HB4.out⟩
theorem SR (v:Value) (t:List Nd) (off:Nat) (ht:t.length≤9000) (hcap:∀ A n c,v=.slice A n c→c≤maxLen) (hs:lN t) (w:World) (hv:aS off w w.heap.size v t) :
  Calls Tryz.prog 87 #[v] w (F8 t w):=by
 rcases Nat.eq_zero_or_pos t.length with h0 | h0
 ·obtain rfl:t=[]:=List.length_eq_zero_iff.1 h0
  obtain⟨A,c,rfl,-⟩:=hv
  exact SQ A c (hcap _ _ _ rfl) w
 ·exact NB v t off ht h0 hs w hv
set_option maxRecDepth 100000 in
set_option maxHeartbeats 4000000 in
theorem XB (v:Value) (t:List Nd) (off:Nat) (ht:t.length≤700) (hcap:∀ A n c,v=.slice A n c→c≤maxLen) (hs:lN t) (hf:Fit t) (hx9:∀ x ∈ t,x.text.size≤700) (hc:aL t=0) (w:World) (hv:aS off w w.heap.size v t) :
  Calls Tryz.prog 55 #[v] w (C7 (gG t) 0 w):=by
 obtain⟨L,hW,-⟩:=gT hc
 have hE:=IB hW
 have hbal:=nX hW (asNew t) (aU t) 0
 have hops:=aAR hW (asNew t) (aU t) 0
 have htot:=PA hs (aU t) L 0
 have hnod:=F5 (asNew t) (aU t) L 0
 rw[mD hW]at htot hnod
 have hnorm:=iJ hW
 obtain⟨E,hEE⟩:∃ E,iV (asNew t) (aU t) 0 L=E:=⟨_,rfl⟩
 rw[hEE]at hE hbal hops htot hnod hnorm
 have hB:dO E≤5000000000:=Nat.le_trans htot (Nat.le_trans (Nat.mul_le_mul ht (Nat.mul_le_mul_right _ ht)) (by decide))
 have hN:bI E≤700:=by omega
 have HV:=Lib.hid hv
 have HS:=Lib.hid hs
 have HF:=Lib.hid hf
 have HX:=Lib.hid hx9
 have HC:=Lib.hid (show ((aL t:Nat):Int)=0 by rw[hc];rfl)
 have HT:=Lib.hid ht
 have HCP:=Lib.hid hcap
 have HT2:=Lib.hid (show B0 w v (jM t).length (jM t) w→True from fun _=>trivial)
 have HE:=Lib.hid hE
 have HNM:=Lib.hid hnorm
 have OK1:=Lib.hid (fun out i (h:W4 E out i)=>h.ok hbal)
 have ST1:=Lib.hid (fun out i y (h:W4 E out i) (hi:i<out.length) (hy:out[i]?=some y)=>W5 hbal hops h hi hy)
 have hbal2:eR (lZ E):=by have:=eR.NK (A:=E) (B:=[]) (by rw[List.append_nil];exact hbal);rwa [List.append_nil]at this
 have hops2:Ops (lZ E):=fun x hx=>hops x (List.mem_filter.1 hx).1
 have hne2:lZ (lZ E)=lZ E:=by unfold lZ;rw[List.filter_filter];congr 1;funext x;simp
 have hB2:dO (lZ E)≤5000000000:=Nat.le_trans (PJ E) hB
 have hN2:bI (lZ E)≤700:=Nat.le_trans (XA E) hN
 have OK2:=Lib.hid (fun out i (h:TX (lZ E) out i)=>h.ok hbal2)
 have ST2:=Lib.hid (fun out i (h:TX (lZ E) out i) (hi:i<out.length)=>W8 hbal2 hops2 hne2 h hi)
 have SE2:=Lib.hid (SO hbal2 (.inr hne2))
 have HB:=Lib.hid (⟨hB,hN,hB2,hN2⟩:dO E≤5000000000∧bI E≤700∧dO (lZ E)≤5000000000∧bI (lZ E)≤700)
 have HJ:=Lib.hid (show bM (lZ E)=bM E from aAS E [])
 clear hE hbal hops htot hnod hnorm hEE hbal2 hops2 hne2 hB2 hN2 hB hN hc hs hf hx9 hv hW ht HT2 hcap
 go_enter Tryz.func55,Tryz.ntmps55
 go_wp2_with (go_at_call 22;refine(pI t off v HT.out HF.out HX.out _ HV.out 0 HC.out).mono ?_;rintro e w1 ⟨rfl,hb1⟩;have HB1:=Lib.hid hb1;have HV1:=Lib.hid ((HV.out.below hb1).mono hb1.size);clear hb1)
 go_wp2_with (go_at_call 87;refine(SR v t off (Nat.le_trans HT.out (by decide)) HCP.out HS.out _ HV1.out).mono ?_;rintro e w2 ⟨v2,rfl,hown2,hb2⟩;have HR2:=Lib.hid (show B0 w v2 (jM t).length (jM t) w2 from ⟨by rw[mE];exact fL hown2 HB1.out.size,Ba.chain HB1.out HB1.out.size hb2⟩);clear hown2 hb2)
 go_loopw [5,6] (fun u5 u6 wr=>aE5 E w u5 u6 wr) (fun u5 u6 _=>r7 u5 - (intOf u6).toNat)
 case atStart=>exact⟨0,aP E,rfl,SN E,by rw[HE.out];exact HR2.out⟩
 case round =>
  obtain⟨i,out,rfl,hlp,own,hB⟩:=hrel
  obtain⟨hn,hsz,htx⟩:=OK1.out out i hlp
  have hB9:=HB.out
  obtain⟨m,hm⟩:∃ m,out.length=m:=⟨_,rfl⟩
  rw[hm]at own hn hsz
  obtain⟨Ao,co,rfl,hcm,hnc,hAo⟩:=aW own
  have HLP:=Lib.hid hlp
  have HM:=Lib.hid hm
  have HBB:=Lib.hid hB
  have i0:(0:Int)≤(i:Int):=by omega
  by_cases hlt:i<m
  ·obtain⟨go,rfl,hgo1,hgo2⟩:=hAo (by omega)
   obtain⟨⟨yk,yt,yp,ys⟩,hy⟩:=fV (l:=out) (i:=i) (by omega)
   obtain⟨d0,d1,-,-⟩:=iY hm own hy
   have hst:=ST1.out out i _ hlp (by omega) hy
   simp only[]at d0 d1 hst
   have i1:(i:Int)<(m:Int):=by omega
   have hW:=fun(W:World) (hg:go<W.heap.size) hcell=>B3 out 0 go co (by omega) (by omega) hcm (fun x hx=>by
    obtain⟨j,hj⟩:=List.mem_iff_getElem?.1 hx
    have:=hsz j x hj;omega) i (by omega) W hg hcell
   rw[hm]at hW
   have HWO:=Lib.hid hW
   have HCL:=Lib.hid (xS hm own)
   have HOW:=Lib.hid own
   have hn9:m≤700:=by omega
   clear own hB hm hy hlp hsz htx hW hB9 hnc hcm hAo
   clear hn
   by_cases hk:yk=46
   ·have t1:((yk:Int)==46)=true:=beq_iff_eq.2 (by omega)
    by_cases hz:yt.size=0
    ·obtain⟨e1,e2⟩:yt.toList.isEmpty=true∧(!yt.toList.isEmpty)=false:=by
      have:yt.toList.isEmpty=true:=by rw[ByteArray.toList_eq,List.isEmpty_iff,Array.toList_eq_nil_iff];exact Array.eq_empty_of_size_eq_zero hz
      exact⟨this,by rw[this];rfl⟩
     rw[if_pos ⟨hk,hz⟩]at hst
     have HST:=Lib.hid hst
     clear hk hz hst
     go_wp2_with (go_at_call 88;refine(HWO.out _ hgo2 HCL.out).mono ?_;rintro e w3 ⟨v3,rfl,hown3,hb3⟩;have HR3:=Lib.hid (show B0 w v3 (m - 1) (bA out i) w3 from ⟨fL hown3 HBB.out.size,Ba.chain HBB.out HBB.out.size hb3⟩);clear hown3 hb3)
     obtain⟨q,hq⟩:∃ q,m - 1=q:=⟨_,rfl⟩
     rw[hq]at HR3
     have hwl:(bA out i).length=q:=by have:=iX (t:=out) (a:=i) (by have:=HM.out;omega);have:=HM.out;omega
     obtain⟨A3,c3,rfl,-⟩:=aW HR3.out.1
     have HWL:=Lib.hid hwl
     clear hwl
     go_roundw
     case rel=>exact⟨i,bA out i,by go_num,HST.out,by rw[HWL.out];exact HR3.out⟩
     case measure=>simp[intOf,r7];omega
    ·obtain⟨e1,e2⟩:yt.toList.isEmpty=false∧(!yt.toList.isEmpty)=true:=by
      have:yt.toList.isEmpty=false:=by
       rw[ByteArray.toList_eq,← Bool.not_eq_true,List.isEmpty_iff,Array.toList_eq_nil_iff]
       intro h
       exact hz (by show yt.data.size=0;rw[h];rfl)
      exact⟨this,by rw[this];rfl⟩
     rw[if_neg (fun h=>hz h.2)]at hst
     have HST:=Lib.hid hst
     clear hk hz hst
     go_wp2
     go_roundw
     case rel=>exact⟨i+1,out,by go_num,HST.out,by rw[HM.out];exact⟨HOW.out,HBB.out⟩⟩
     case measure=>simp[intOf,r7];omega
   ·have t1:((yk:Int)==46)=false:=beq_eq_false_iff_ne.2 (by omega)
    rw[if_neg (fun h=>hk h.1)]at hst
    have HST:=Lib.hid hst
    clear hk hst
    go_wp2
    go_roundw
    case rel=>exact⟨i+1,out,by go_num,HST.out,by rw[HM.out];exact⟨HOW.out,HBB.out⟩⟩
    case measure=>simp[intOf,r7];omega
  ·have hend:=aAT hlp (by omega)
   have HS2:=Lib.hid (show aEB (lZ E) w (.slice Ao m co) (.int .i64 1) wr from by
    refine⟨1,out,rfl,?_,by rw[hm];exact⟨own,hB⟩⟩
    rcases SE2.out with h | h
    ·exact .inl ⟨h,by rw[hend,h];rfl⟩
    ·exact .inr (by rw[hend];exact h))
   clear own hB hm hlp hsz htx hB9 hnc hcm hAo hn hend HLP HM HBB
   go_wp2
   go_loopw [5,7] (fun u5 u7 wr=>aEB (lZ E) w u5 u7 wr) (fun u5 u7 _=>r7 u5 - (intOf u7).toNat)
   case atStart=>exact HS2.out
   case round =>
    clear HS2
    obtain⟨i,out,rfl,hlp,own,hB⟩:=hrel
    have hok:PK 700 5000000000 out:=by
     obtain⟨-,-,b3,b4⟩:=HB.out
     rcases hlp with⟨-,rfl⟩ | h
     ·exact⟨by simp,by simp,by simp⟩
     ·obtain⟨c1,c2,c3⟩:=OK2.out out i h
      exact⟨by omega,c2,fun y hy=>by have:=c3 y hy;omega⟩
    obtain⟨hn,hsz,htx⟩:=hok
    obtain⟨m,hm⟩:∃ m,out.length=m:=⟨_,rfl⟩
    rw[hm]at own hn hsz
    obtain⟨Ao,co,rfl,hcm,hnc,hAo⟩:=aW own
    have HM:=Lib.hid hm
    have HBB:=Lib.hid hB
    have i0:(0:Int)≤(i:Int):=by omega
    by_cases hlt:i<m
    ·obtain⟨go,rfl,hgo1,hgo2⟩:=hAo (by omega)
     have hlp2:TX (lZ E) out i:=by
      rcases hlp with⟨-,rfl⟩ | h
      ·exact absurd hm (by simp;omega)
      ·exact h
     obtain⟨hi0,⟨yk,yt,yp,ys⟩,⟨zk,zt,zp,zs⟩,hy,hz,hst⟩:=ST2.out out i hlp2 (by omega)
     obtain⟨j,hj⟩:∃ j,i - 1=j:=⟨_,rfl⟩
     rw[hj]at hz hst
     obtain⟨d0,d1,-,-⟩:=iY hm own hy
     obtain⟨c0,c1,-,-⟩:=iY hm own hz
     simp only[]at d0 d1 c0 c1 hst
     have i1:(i:Int)<(m:Int):=by omega
     have j1:(i:Int) - 1=(j:Int):=by omega
     have j2:IntKind.i64.wrap (j:Int)=(j:Int):=IntWalk.i64_in _ ⟨by omega,by omega⟩
     have j3:(0:Int)≤(j:Int):=by omega
     have j4:(j:Int)<(m:Int):=by omega
     have hjm:j<m:=by omega
     have HOW:=Lib.hid own
     by_cases hk:yk=46
     ·have t1:((yk:Int)==46)=true:=beq_iff_eq.2 (by omega)
      by_cases hk2:zk=46
      ·have t2:((zk:Int)==46)=true:=beq_iff_eq.2 (by omega)
       obtain⟨P,hP⟩:∃ P,B4 out i=P:=⟨_,rfl⟩
       obtain⟨Q,hQ⟩:∃ Q,B4 out j=Q:=⟨_,rfl⟩
       have HR:=Lib.hid (show aS 0 wr wr.heap.size (.slice (some ⟨go,0,none⟩) m co) out from ⟨_,co,by rw[hm],fun _=>⟨go,rfl,hgo2,xS hm own⟩⟩)
       have HPA:=Lib.hid (fun W hW=>EH (.slice (some ⟨go,0,none⟩) m co) out 0 (by omega) (fun x hx=>by
        obtain⟨jj,hjj⟩:=List.mem_iff_getElem?.1 hx
        have:=hsz jj x hjj;omega) i (by omega) wr.heap.size W hW P hP)
       have HPB:=Lib.hid (fun W hW=>EH (.slice (some ⟨go,0,none⟩) m co) out 0 (by omega) (fun x hx=>by
        obtain⟨jj,hjj⟩:=List.mem_iff_getElem?.1 hx
        have:=hsz jj x hjj;omega) j (by omega) wr.heap.size W hW Q hQ)
       rw[hP,hQ]at hst
       have hzt:=htx _ (List.mem_of_getElem? hz)
       have hyt:=htx _ (List.mem_of_getElem? hy)
       simp only[]at hzt hyt
       have HZ:=Lib.hid hz
       by_cases hpq:P=Q
       ·have t3:(P==Q)=true:=beq_iff_eq.2 hpq
        rw[if_pos ⟨hk,hk2,hpq⟩]at hst
        have HST:=Lib.hid hst
        have hcat:¬ (9223372036854775807<zt.size+yt.size):=by omega
        have f1:=own.frozenAt (j * 4+1)
        have HSZ:=Lib.hid hsz
        have HCM:=Lib.hid (⟨hn,hcm,hnc⟩:m≤700∧co≤maxLen∧m≤co)
        clear hk hk2 hpq hst hP hQ hy hz own hB hm hlp hlp2 hsz htx hnc hcm hAo
        go_wp2_with fail
        refine(HPA.out _ HR.out).mono ?_
        rintro e w' ⟨rfl,rfl⟩
        go_wp2_with fail
        refine(HPB.out _ HR.out).mono ?_
        rintro e w' ⟨rfl,rfl⟩
        go_upto_region 15 with fail
        go_cut [71] (fun _ wx=>B0 w (.slice (some ⟨go,0,none⟩) m co) m (out.set j ⟨zk,zt++yt,zp,zs⟩) wx∧go<wx.heap.size)
        case first =>
         obtain⟨own6,hB6⟩:=tB HOW.out (x':=⟨zk,zt++yt,zp,zs⟩) HZ.out 1 (by omega) (.string (zt++yt)) rfl hgo1
         have HF6:=Lib.hid (show B0 w (.slice (some ⟨go,0,none⟩) m co) m (out.set j ⟨zk,zt++yt,zp,zs⟩) (wr.setCell ⟨go,j * 4+1,none⟩ (.string (zt++yt))).drew∧go<(wr.setCell ⟨go,j * 4+1,none⟩ (.string (zt++yt))).drew.heap.size from
          ⟨⟨Lx.cV own6 (Lx.below_drewN (Below.refl _ _) 1),Lx.below_drewN (HBB.out.trans hB6) 1⟩,by show go<(wr.setCell ⟨go,j * 4+1,none⟩ (.string (zt++yt))).heap.size;simpa using hgo2⟩)
         clear own6 hB6
         go_region_law (first | fail)
         all_goals
          go_wp2_with fail
          go_meet
          exact HF6.out
        case rest =>
         obtain⟨⟨own5,hB5⟩,hg5⟩:=hcut
         have hm5:(out.set j ⟨zk,zt++yt,zp,zs⟩).length=m:=by rw[List.length_set];exact HM.out
         have hW:=fun(W:World) (hg:go<W.heap.size) hcell=>B3 (out.set j ⟨zk,zt++yt,zp,zs⟩) 0 go co (by have:=HCM.out;omega) (by have:=HCM.out;omega) HCM.out.2.1 (fun x hx=>by
          obtain⟨jj,hjj⟩:=List.mem_iff_getElem?.1 hx
          rw[List.getElem?_set]at hjj
          have:=HCM.out
          split at hjj
          ·split at hjj
           ·cases hjj
            have:=HSZ.out j _ HZ.out
            simp only[]at this ⊢;omega
           ·cases hjj
          ·have:=HSZ.out jj x hjj;omega) i (by omega) W hg hcell
         rw[hm5]at hW
         have HWO:=Lib.hid hW
         have HCL:=Lib.hid (xS hm5 own5)
         have HB5:=Lib.hid hB5
         clear own5 hB5 hW
         go_wp2_with (go_at_call 88;refine(HWO.out _ hg5 HCL.out).mono ?_;rintro e w3 ⟨v3,rfl,hown3,hb3⟩;have HR3:=Lib.hid (show B0 w v3 (m - 1) (bA (out.set j ⟨zk,zt++yt,zp,zs⟩) i) w3 from ⟨fL hown3 HB5.out.size,Ba.chain HB5.out HB5.out.size hb3⟩);clear hown3 hb3)
         obtain⟨q,hq⟩:∃ q,m - 1=q:=⟨_,rfl⟩
         rw[hq]at HR3
         have hwl:(bA (out.set j ⟨zk,zt++yt,zp,zs⟩) i).length=q:=by have:=iX (t:=out.set j ⟨zk,zt++yt,zp,zs⟩) (a:=i) (by omega);omega
         obtain⟨A3,c3,rfl,-⟩:=aW HR3.out.1
         have HWL:=Lib.hid hwl
         clear hwl hm5
         go_roundw
         case rel=>exact⟨i,_,by go_num,.inr HST.out,by rw[HWL.out];exact HR3.out⟩
         case measure=>simp[intOf,r7];omega
       ·have t3:(P==Q)=false:=beq_eq_false_iff_ne.2 hpq
        rw[if_neg (fun h=>hpq h.2.2)]at hst
        have HST:=Lib.hid hst
        clear hk hk2 hpq hst hP hQ hy hz own hB hm hlp hlp2 hsz htx hnc hcm hAo
        go_wp2_with fail
        refine(HPA.out _ HR.out).mono ?_
        rintro e w' ⟨rfl,rfl⟩
        go_wp2_with fail
        refine(HPB.out _ HR.out).mono ?_
        rintro e w' ⟨rfl,rfl⟩
        go_wp2
        go_roundw
        case rel=>exact⟨i+1,out,by go_num,.inr HST.out,by rw[HM.out];exact⟨HOW.out,HBB.out⟩⟩
        case measure=>simp[intOf,r7];omega
      ·have t2:((zk:Int)==46)=false:=beq_eq_false_iff_ne.2 (by omega)
       rw[if_neg (fun h=>hk2 h.2.1)]at hst
       have HST:=Lib.hid hst
       clear hk hk2 hst hy hz own hB hm hlp hlp2 hsz htx hnc hcm hAo
       go_wp2
       go_roundw
       case rel=>exact⟨i+1,out,by go_num,.inr HST.out,by rw[HM.out];exact⟨HOW.out,HBB.out⟩⟩
       case measure=>simp[intOf,r7];omega
     ·have t1:((yk:Int)==46)=false:=beq_eq_false_iff_ne.2 (by omega)
      rw[if_neg (fun h=>hk h.1)]at hst
      have HST:=Lib.hid hst
      clear hk hst hy hz own hB hm hlp hlp2 hsz htx hnc hcm hAo
      go_wp2
      go_roundw
      case rel=>exact⟨i+1,out,by go_num,.inr HST.out,by rw[HM.out];exact⟨HOW.out,HBB.out⟩⟩
      case measure=>simp[intOf,r7];omega
    ·have hend:out=gG t:=by
      rw[HNM.out,← HJ.out]
      rcases hlp with⟨h1,h2⟩ | h
      ·rw[h1,h2];rfl
      ·exact aAU h (by omega)
     have HR:=Lib.hid (show C7 (gG t) 0 w (.returned (.tuple #[.slice Ao m co,.int .i64 0])) wr from ⟨_,rfl,by rw[← hend,hm];exact own,hB⟩)
     clear hlp own hB hm hsz htx hnc hcm hAo hn hend HM HBB
     go_wp2
     refine bodyPost_ret (v:=.tuple #[.slice Ao m co,.int .i64 0]) (by simp[results,Tryz.f55,go_sem]) rfl ?_
     exact HR.out
end Go.Proofs.YtgpihfacmpbpaaaGreatDoor.Nu
namespace Go.Proofs.YtgpihfacmpbpaaaGreatDoor.Nu
open Go.RowKit Tr
set_option maxHeartbeats 1000000 in
theorem aAV (v:Value) (t:List Nd) (off:Nat) (ht:t.length≤700) (hf:Fit t) (hx9:∀ x ∈ t,x.text.size≤700) (z:Int) (hz:((aL t:Nat):Int)=z) (h0:z≠0) (w:World) (hv:aS off w w.heap.size v t) :
  Calls Tryz.prog 55 #[v] w (C7 [] z w):=by
 have t1:(z != 0)=true:=by rw[bne,beq_eq_false_iff_ne.2 h0];rfl
 have HZ:=Lib.hid hz
 have HX:=Lib.hid hx9
 have HF:=Lib.hid hf
 have HV:=Lib.hid hv
 clear h0 hz hx9 hf hv
 go_enter Tryz.func55,Tryz.ntmps55
 go_wp2_with (go_at_call 22;refine(pI t off v ht HF.out HX.out _ HV.out z HZ.out).mono ?_;rintro e w1 ⟨rfl,hb1⟩;have HB1:=Lib.hid hb1;clear hb1)
 have HR:=Lib.hid (show C7 [] z w (.returned (.tuple #[.slice none 0 0,.int .i64 z])) w1 from ⟨_,rfl,World.ownsRow_nil _ _ _ _,HB1.out⟩)
 refine bodyPost_ret (v:=.tuple #[.slice none 0 0,.int .i64 z]) (by simp[results,Tryz.f55,go_sem]) rfl ?_
 exact HR.out
theorem aAW (v:Value) (t:List Nd) (off:Nat) (ht:t.length≤700) (hf:Fit t) (hx9:∀ x ∈ t,x.text.size≤700) (hcap:∀ A n c,v=.slice A n c→c≤maxLen) (z:Int) (hz:((aL t:Nat):Int)=z) (w:World) (hv:aS off w w.heap.size v t) :
  Calls Tryz.prog 55 #[v] w (C7 (GY t) z w):=by
 subst hz
 by_cases hc:aL t=0
 ·unfold GY
  rw[if_pos hc,hc]
  exact XB v t off ht hcap (r8 hc (fun x hx=>(hf x hx).1) (fun x hx=>by have:=hx9 x hx;omega)) hf hx9 hc w hv
 ·unfold GY
  rw[if_neg hc]
  exact aAV v t off ht hf hx9 _ rfl (by omega) w hv
set_option maxHeartbeats 1000000 in
theorem z8 (v:Value) (t:List Nd) (off:Nat) (ht:t.length≤700) (hf:Fit t) (hx9:∀ x ∈ t,x.text.size≤700) (hcap:∀ A n c,v=.slice A n c→c≤maxLen) (b:Bool) (hb:zP t=b) (w:World) (hv:aS off w w.heap.size v t) :
  Calls Tryz.prog 23 #[v] w fun e w'=>e=.returned (.bool b)∧Below w.heap.size w w':=by
 obtain⟨z,hz⟩:∃ z,((aL t:Nat):Int)=z:=⟨_,rfl⟩
 have HOF:=Lib.hid (aAW v t off ht hf hx9 hcap z hz w hv)
 have HV:=Lib.hid hv
 by_cases hc:aL t=0
 ·obtain rfl:z=0:=by omega
  have HS:=Lib.hid (show gU t (GY t)=b by rw[← hb];unfold zP GY;rw[if_pos hc,decide_eq_true hc,Bool.true_and])
  have hl:=PB t
  have HL:=Lib.hid hl
  clear hb hz hc hf hx9 hcap hv hl
  go_enter Tryz.func23,Tryz.ntmps23
  go_wp2_with fail
  refine HOF.out.mono ?_
  rintro e w1 ⟨v1,rfl,hown,hb1⟩
  have HV1:=Lib.hid ((HV.out.below hb1).mono hb1.size)
  have HU:=Lib.hid (Ba.Reads.kC dX rfl hown)
  have HB1:=Lib.hid hb1
  clear hown hb1
  go_wp2_with fail
  refine(KE off 0 v v1 t (GY t) (by omega) (by have:=HL.out;omega) _ _ _ HV1.out HU.out b HS.out).mono ?_
  rintro e w2 ⟨rfl,n,rfl⟩
  go_wp2
  go_ret
  exact⟨rfl,Lx.below_drewN HB1.out n⟩
 ·have HB:=Lib.hid (show false=b by rw[← hb];unfold zP;rw[decide_eq_false hc,Bool.false_and])
  have t1:(z==0)=false:=beq_eq_false_iff_ne.2 (by omega)
  clear hb hz hc hf hx9 hcap hv
  go_enter Tryz.func23,Tryz.ntmps23
  go_wp2_with fail
  refine HOF.out.mono ?_
  rintro e w1 ⟨v1,rfl,hown,hb1⟩
  have HB1:=Lib.hid hb1
  clear hown hb1
  go_wp2
  go_ret
  exact⟨Ba.aC HB.out,HB1.out⟩
end Go.Proofs.YtgpihfacmpbpaaaGreatDoor.Nu
