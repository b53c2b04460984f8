/-
  Put together.
-/
import Derived.Test.YthbigkoihpgcfaaGreatDoorDaN
import Derived.Test.YthbigkoihpgcfaaGreatDoorVo
import Derived.Test.YthbigkoihpgcfaaGreatDoorWf
open Go.Lib (hid)
set_option maxRecDepth 100000
set_option maxHeartbeats 16000000
namespace Go.Proofs.YthbigkoihpgcfaaGreatDoor.Da
open Go.RowKit Ba Ru Ck Ti Pa Fl Cu
structure RdO (w:World) (g:Nat) (l:List Rl) (t:List Tk) (k:Nat) (f:Fw) (Aa:Option Addr) (m ca:Nat) (S:ByteArray):Prop where
 c0:w.cell? ⟨g,k * 6,none⟩=some (.int .i64 (f.code:Int))
 c1:w.cell? ⟨g,k * 6+1,none⟩=some (.int .i64 f.depth)
 c2:w.cell? ⟨g,k * 6+2,none⟩=some (.string S)
 c3:w.cell? ⟨g,k * 6+3,none⟩=some (.slice Aa m ca)
 c4:w.cell? ⟨g,k * 6+4,none⟩=some (.int .i64 (f.aR:Int))
 c5:w.cell? ⟨g,k * 6+5,none⟩=some (.int .i64 (f.til:Int))
 str:S=bytesOf ((iW l t f).map (·.1))
 len:(iW l t f).length=m
 row:0<m→∃ ga,Aa=some ⟨ga,0,none⟩∧∀ (j:Nat) (z:Nat × Nat),(iW l t f)[j]?=some z→w.cell? ⟨ga,j,none⟩=some (.int .i64 (z.2:Int))
 big:m≤9223372036854775807
theorem aMI {B:Nat} {w:World} {v:Value} {l:List Rl} {t:List Tk} {fs:List Fw} (h:I6 B w v l t fs):∃ A c,v=.slice A fs.length c∧(0<fs.length→∃ g,A=some ⟨g,0,none⟩∧∀ (k:Nat) (f:Fw),fs[k]?=some f→∃ Aa m ca S,∀ W:World,Below w.heap.size w W→RdO W g l t k f Aa m ca S):=by
 obtain⟨avs,h1,h2,h3⟩:=h
 rw[zK]at h2
 have hz:(fs.zip avs).length=fs.length:=by rw[List.length_zip,h1,Nat.min_self]
 obtain⟨A,c,e,hA⟩:=Reads.hO (f:=fun p:Fw × Value=>fH l t p.1 p.2) (n:=6) (fun _=>rfl) hz h2
 rw[hz]at e hA
 refine⟨A,c,e,fun h0=>?_⟩
 obtain⟨g,hg1,hg2,hg3⟩:=hA h0
 refine⟨g,hg1,fun k f hf=>?_⟩
 have hk:=(List.getElem?_eq_some_iff.1 hf).1
 obtain⟨a,ha⟩:∃ a,avs[k]?=some a:=⟨_,List.getElem?_eq_getElem (by omega)⟩
 have hx:(fs.zip avs)[k]?=some (f,a):=by rw[List.getElem?_zip_eq_some];exact⟨hf,ha⟩
 have hown:=h3 k f a hf ha
 obtain⟨Aa,ca,rfl,h7,h8,hr⟩:=aN hown
 have e0:=hg3 k _ hx 0 _ rfl
 have e1:=hg3 k _ hx 1 _ rfl
 have e2:=hg3 k _ hx 2 _ rfl
 have e3:=hg3 k _ hx 3 _ rfl
 have e4:=hg3 k _ hx 4 _ rfl
 have e5:=hg3 k _ hx 5 _ rfl
 simp only[Nat.zero_add,Nat.add_zero]at e0 e1 e2 e3 e4 e5
 refine⟨Aa,(iW l t f).length,ca,bytesOf ((iW l t f).map (·.1)),fun W hW=>⟨(hW.cell (p:=⟨g,k * 6,none⟩) hg2).trans e0,(hW.cell (p:=⟨g,k * 6+1,none⟩) hg2).trans e1,(hW.cell (p:=⟨g,k * 6+2,none⟩) hg2).trans e2,(hW.cell (p:=⟨g,k * 6+3,none⟩) hg2).trans e3,(hW.cell (p:=⟨g,k * 6+4,none⟩) hg2).trans e4,(hW.cell (p:=⟨g,k * 6+5,none⟩) hg2).trans e5,rfl,rfl,fun hm=>?_,by unfold maxLen at h8;omega⟩⟩
 obtain⟨ga,rfl,-⟩:=hr hm
 refine⟨ga,rfl,fun j z hz=>?_⟩
 have hj:=(List.getElem?_eq_some_iff.1 hz).1
 exact aK3 (a6 hown hW) hj (by rw[List.getElem?_map,hz];rfl)
theorem aI2 (T:bT) (Q:aDS T) (HAW0:∀ W:World,bH W→Calls Tryz.prog 7 #[] W fun e w'=>e=.returned (.bool true)∧Below W.heap.size W w') (l:List Rl) (A:Option Addr) (off c:Nat) (t:List Tk) (A1:Option Addr) (o1 c1:Nat) (w:World) (hL:bH w) (hcl:l.length≤c) (hcm:c≤maxLen) (hf:∀ x ∈ l,eN x) (hl:dZ off w w.heap.size (.slice A l.length c) l)
  (_ha1:t.length≤c1) (_ha2:c1≤maxLen) (haf:iC t) (har:bW o1 w w.heap.size (.slice A1 t.length c1) t) :
  Calls Tryz.prog 4 #[.slice A l.length c,.slice A1 t.length c1] w fun e w'=>e=.returned (.bool true)∧Below w.heap.size w w':=by
 have HAF:=hid haf
 have HAR:=hid har
 clear haf har
 obtain⟨na,hna⟩:∃ n,t.length=n:=⟨_,rfl⟩
 rw[hna]at HAR ⊢
 have HNA:=hid hna
 have HCA:=hid (qF (A:=A1) (show na≤c1 from hna▸_ha1) _ha2)
 clear hna
 have HL:=hid hL
 have HV:=hid hl
 have hlm:l.length≤maxLen:=Nat.le_trans hcl hcm
 have HF:=hid hf
 have HCAP:=hid (show lS (.slice A l.length c) from fun A' n' c' e=>by
  injection e with _ e1 e2
  subst e1;subst e2
  exact⟨hcl,hcm⟩)
 clear hL hl hf hcm hcl
 obtain⟨nl,hnl⟩:∃ nl,l.length=nl:=⟨_,rfl⟩
 rw[hnl]at HV HCAP hlm ⊢
 have HNL:=hid hnl
 clear hnl
 obtain⟨lb,hlb⟩:∃ lb,yK l=lb:=⟨_,rfl⟩
 have HLB:=hid hlb
 clear hlb
 have HAW:=hid HAW0
 clear HAW0
 go_enter Tryz.func4,Tryz.ntmps4
 cases lb
 case true =>
  go_wp2_with fail
  refine(CU _ l off (by rw[HNL.out];exact hlm) _ _ HV.out true HLB.out).mono ?_
  rintro e w' ⟨rfl,hw'⟩
  have hw':=hw'.symm
  subst hw'
  go_wp2_with fail
  refine(HAW.out _ HL.out).mono ?_
  rintro e w9 ⟨rfl,hb9⟩
  go_wp2
  go_ret
  exact⟨rfl,hb9⟩
 case false =>
 obtain⟨hl5,hl50⟩:=QP HLB.out
 rw[HNL.out]at hl5
 have HFX:=hid (show kD l from fun x hx=>⟨HF.out x hx,by have:=(hl50 x hx).1;omega,by have:=(hl50 x hx).2;omega⟩)
 clear hl50
 go_wp2_with fail
 refine(CU _ l off (by rw[HNL.out];exact hlm) _ _ HV.out false HLB.out).mono ?_
 rintro e w' ⟨rfl,hw'⟩
 have hw':=hw'.symm
 subst hw'
 by_cases h60:200<na
 ·have tb1:decide (200<(na:Int))=true:=decide_eq_true (by omega)
  have tb2:decide (200<na)=true:=decide_eq_true h60
  go_wp2_with fail
  refine(HAW.out _ HL.out).mono ?_
  rintro e w9 ⟨rfl,hb9⟩
  go_wp2
  go_ret
  exact⟨rfl,hb9⟩
 have tb1:decide (200<(na:Int))=false:=decide_eq_false (by omega)
 have tb2:decide (200<na)=false:=decide_eq_false h60
 go_wp2_with fail
 refine(T.new _ l off (by rw[HNL.out];omega) HFX.out HCAP.out _ HL.out HV.out).mono ?_
 rintro e w1 ⟨hb1,h1⟩
 obtain⟨z,y,hr⟩:∃ z y,e9 dM l=(z,y):=⟨_,_,rfl⟩
 have HR:=hid hr
 rw[hr]at h1
 have HB1:=hid hb1
 clear hb1 hr
 rcases h1 with⟨hy,tt,rfl,his⟩ | ⟨hy,rfl⟩
 rotate_left
 ·have y1:((y:Int)==0)=false:=beq_eq_false_iff_ne.2 (by have:y≠0:=hy;omega)
  have y3:((y:Int) != 0)=true:=bne_iff_ne.2 (by have:y≠0:=hy;omega)
  clear hy
  go_wp2_with fail
  refine(HAW.out _ (HL.out.kept HB1.out)).mono ?_
  rintro e w9 ⟨rfl,hb9⟩
  have HE9:=hid (chain HB1.out HB1.out.size hb9)
  clear hb9
  go_wp2
  go_ret
  exact⟨rfl,HE9.out⟩
 have hy:y=0:=hy
 subst hy
 have HACC:=hid ((pY l).1 (by rw[HR.out]))
 obtain⟨⟨a,rfl⟩,-⟩:=T.ptr his
 have HCH:=hid (show ∀ x ∈ t,x.ch<256 from fun x hx=>(HAF.out x hx).2.1)
 have HTC:=hid (aK4 HAF.out (by rw[HNA.out];omega))
 have HOF:=hid (Q.of (.slice A1 na c1) t o1 (by rw[HNA.out];omega) HAF.out HCA.out (by rw[HNL.out];omega) HACC.out HFX.out (fun h=>aK0 HCH.out (HTC.out▸h)) w1 (HL.out.kept HB1.out) his ((HAR.out.below HB1.out).mono HB1.out.size))
 clear his
 go_wp2_with fail
 refine HOF.out.mono ?_
 rintro e w3 ⟨hb3,h3⟩
 have HB3:=hid (chain HB1.out HB1.out.size hb3)
 clear hb3 HOF
 obtain⟨q,hq⟩:∃ q,z8 t=q:=⟨_,rfl⟩
 rw[hq]at h3
 rcases h3 with⟨hq0,fv,rfl,hfw⟩ | ⟨hq0,rfl⟩
 rotate_left
 ·have y1:((q:Int)==0)=false:=beq_eq_false_iff_ne.2 (by omega)
  have y3:((q:Int) != 0)=true:=bne_iff_ne.2 (by omega)
  clear hq hq0 HTC
  go_wp2_with fail
  refine(HAW.out _ (HL.out.kept HB3.out)).mono ?_
  rintro e w9 ⟨rfl,hb9⟩
  have HE9:=hid (chain HB3.out HB3.out.size hb9)
  clear hb9
  go_wp2
  go_ret
  exact⟨rfl,HE9.out⟩
 have H0:=hid (show (WG t).2=0 from HTC.out▸(hq.trans hq0))
 obtain⟨Af,cf,rfl,hrd⟩:=aMI hfw
 have HRD:=hid hrd
 obtain⟨nf,hnf⟩:∃ n,(fR t).length=n:=⟨_,rfl⟩
 rw[hnf]at HRD ⊢
 have HNF:=hid hnf
 have hnf2:nf≤200:=by
  have h:(fR t).length≤(List.range t.length).length:=List.length_filterMap_le (nV t) (List.range t.length)
  rw[List.length_range]at h
  have h2:=HNA.out
  have h3:=HNF.out
  omega
 have HC0:=hid (show aDW t 0 (y8 t 0)=0 from aGK t 0)
 have HCN:=hid (fun(k:Nat) (hk:k≤nf)=>show y8 t k≤na from by rw[← HNA.out];exact aIZ HCH.out H0.out (by rw[HNF.out];exact hk))
 have hcle:∀ a b,aDW t a b≤na:=fun a b=>by
  unfold aDW
  have h1:=List.length_filter_le (fun x:Tk=>decide (x.kind=1)) ((t.take b).drop a)
  rw[List.length_drop,List.length_take,HNA.out]at h1
  omega
 have HCL:=hid hcle
 have HAT:=hid (fun(W:World) (hW:Below w3.heap.size w3 W)=>show ∀ h0:0<na,∃ g0,A1=some ⟨g0,o1,none⟩∧∀ (j:Nat) (x:Tk),t[j]?=some x→W.cell? ⟨g0,o1+j * 3,none⟩=some (.int .i64 x.kind) from fun h0=>by
  obtain⟨A',c',e,hA⟩:=HAR.out.below (chain HB3.out HB3.out.size hW)
  injection e with e1 e2 e3
  subst e1
  obtain⟨g0,h1,h2,h3⟩:=hA (by rw[HNA.out];exact h0)
  exact⟨g0,h1,fun j x hx=>(pC h3 j x hx).1⟩)
 clear hq hq0 HTC hfw hrd hnf hcle
 go_wp2
 go_loopw [10,11,12] (fun u10 u11 u12 wr=>∃ k:Nat,u12=.int .i64 (k:Int)∧k≤nf∧u10=.int .i64 ((y8 t k:Nat):Int)∧u11=.int .i64 ((aDW t 0 (y8 t k):Nat):Int)∧Below w3.heap.size w3 wr) (fun _ _ u12 _=>nf - (intOf u12).toNat)
 case atStart=>exact⟨0,rfl,Nat.zero_le _,rfl,by rw[HC0.out];rfl,Below.refl _ _⟩
 case round =>
  obtain⟨k,rfl,hk,rfl,rfl,hB⟩:=hrel
  have HB:=hid hB
  have k0:(0:Int)≤(k:Int):=by omega
  by_cases hlt:k<nf
  ·obtain⟨g,rfl,hrow⟩:=HRD.out (by omega)
   obtain⟨f,hfk⟩:∃ f,(fR t)[k]?=some f:=⟨_,List.getElem?_eq_getElem (by rw[HNF.out];exact hlt)⟩
   obtain⟨Aa,m,ca,S,hRO⟩:=hrow k f hfk
   have hmem:=List.mem_of_getElem? hfk
   obtain⟨b1,b2,b3,b4,-⟩:=aFS HCH.out H0.out hmem
   rw[HNA.out]at b4
   have b5:=aJX HCH.out H0.out hfk
   have hcf:=aKV HCH.out H0.out hfk
   have hla:y8 t (k+1)=f.til:=by
    show (((fR t)[k]?.map (·.til)).getD 0)=f.til
    rw[hfk];rfl
   obtain⟨hp1,hp2⟩:=aI0 HACC.out (l:=l) (t:=t) (f:=f) (by rw[HNA.out];exact b4)
   obtain⟨r0,r1,r2,r3,r4,r5,rs,rm,-,rb⟩:=hRO wr hB
   have hss:S.size=m:=by rw[rs,aF,List.length_map,rm]
   subst hss
   have HSZ:=hid rb
   have HRO:=hid hRO
   obtain⟨qs,hqs⟩:∃ qs,iW l t f=qs:=⟨_,rfl⟩
   rw[hqs]at hp1 hp2 rs rm
   have HQ1:=hid hp1
   have HQ2:=hid hp2
   have HRS:=hid rs
   have HRM:=hid rm
   have HROW:=hid (fun(W:World) (hW:Below w3.heap.size w3 W) (h0:0<S.size)=>hqs▸(hRO W hW).row h0)
   obtain⟨cdv,dpv,fr,ti⟩:=f
   simp only[]at b1 b2 b3 b4 b5 hcf hla r0 r1 r2 r3 r4 r5 HQ1
   obtain⟨La,hLa⟩:∃ n,y8 t k=n:=⟨_,rfl⟩
   rw[hLa]at b5 hcf ⊢
   obtain⟨C0,hC0⟩:∃ n,aDW t 0 La=n:=⟨_,rfl⟩
   have c09:C0≤na:=by rw[← hC0];exact HCL.out _ _
   rw[hC0]at hcf ⊢
   have HCF:=hid hcf
   have HLA:=hid hla
   have k1:(k:Int)<(nf:Int):=by omega
   have t1:decide ((k:Int)<(nf:Int))=true:=decide_eq_true k1
   clear hrow hfk hmem hRO hp1 hp2 rs rm rb hqs hLa hC0 hcf hla HRO
   go_upto_region 14 with fail
   have hx5:=heap_alloc_new wr (.cells #[.int .i64 (cdv:Int),.int .i64 dpv,.string S,.slice Aa S.size ca,.int .i64 (fr:Int),.int .i64 (ti:Int)] 44)
   have hw5:=(Below.refl wr.heap.size wr).alloc (Nat.le_refl _) (.cells #[.int .i64 (cdv:Int),.int .i64 dpv,.string S,.slice Aa S.size ca,.int .i64 (fr:Int),.int .i64 (ti:Int)] 44)
   generalize wr.alloc _=w5 at hx5 hw5 ⊢
   obtain⟨B13,hB13⟩:∃ n,wr.heap.size=n:=⟨_,rfl⟩
   have HB5:=hid (chain HB.out HB.out.size hw5)
   rw[hB13]at hx5 ⊢
   obtain⟨z0,z1,z2,z3,z4,z5⟩:=jV hx5
   have HX5:=hid hx5
   have hAT:=HAT.out w5 HB5.out
   have p1:decide ((fr:Int)<(La:Int))=false:=decide_eq_false (by omega)
   have p2:decide ((ti:Int)<(fr:Int))=false:=decide_eq_false (by omega)
   have p3:decide ((na:Int)<(ti:Int))=false:=decide_eq_false (by omega)
   have p5:decide ((cdv:Int)<1)=false:=decide_eq_false (by omega)
   have p6:decide (10<(cdv:Int))=false:=decide_eq_false (by omega)
   have p4:((S.size:Int) != (S.size:Int))=false:=by simp
   clear r0 r1 r2 r3 r4 r5 hx5 hw5 hB13 hB
   go_wp2
   go_loopw [11,14] (fun u11 u14 wi=>∃ j N:Nat,u14=.int .i64 (j:Int)∧fr≤j∧j≤ti∧u11=.int .i64 (N:Int)∧N=C0+aDW t fr j∧wi=w5) (fun _ u14 _=>ti - (intOf u14).toNat)
   case atStart=>exact⟨fr,C0,rfl,Nat.le_refl _,b3,rfl,by rw[aGK];rfl,rfl⟩
   case round =>
    obtain⟨j,N,rfl,hj1,hj2,rfl,hN,rfl⟩:=hrel
    have HN:=hid hN
    have hN9:N≤400:=by
     have:=HCL.out fr j
     omega
    have j0:(0:Int)≤(j:Int):=by omega
    clear hN
    by_cases hjt:j<ti
    ·obtain⟨g0,rfl,hcell⟩:=hAT (by omega)
     obtain⟨x,hx⟩:∃ x,t[j]?=some x:=⟨_,List.getElem?_eq_getElem (by have:=HNA.out;omega)⟩
     have hk1:=hcell j x hx
     have hcs:=aGJ hj1 hx
     obtain⟨xk,hxk⟩:∃ y,x.kind=y:=⟨_,rfl⟩
     rw[hxk]at hk1 hcs
     have HCS:=hid hcs
     have j1:(j:Int)<(na:Int):=by omega
     have jt:decide ((j:Int)<(ti:Int))=true:=decide_eq_true (by omega)
     clear hcell hx hxk hcs
     by_cases h1:xk=1
     ·have HNX:=hid (show N+1=C0+aDW t fr (j+1) from by rw[HCS.out,if_pos h1,HN.out];omega)
      subst h1
      go_wp2
      go_roundw
      case rel=>exact⟨j+1,N+1,by go_num,by omega,by omega,by go_num,HNX.out,trivial⟩
      case measure=>simp[intOf];omega
     ·have HNX:=hid (show N=C0+aDW t fr (j+1) from by rw[HCS.out,if_neg h1,HN.out];omega)
      have e1:(xk==1)=false:=beq_eq_false_iff_ne.2 h1
      clear h1
      go_wp2
      go_roundw
      case rel=>exact⟨j+1,N,by go_num,by omega,by omega,rfl,HNX.out,trivial⟩
      case measure=>simp[intOf];omega
    ·obtain rfl:j=ti:=by omega
     have HNE:=hid (show N=aDW t 0 (y8 t (k+1)) from by rw[HLA.out,HCF.out,HN.out])
     have jt:decide ((j:Int)<(j:Int))=false:=decide_eq_false (by omega)
     go_wp2
     go_loopw [15] (fun u15 wi=>∃ i q:Nat,u15=.int .i64 (i:Int)∧i≤S.size∧wi=wr.drewN q) (fun u15 _=>S.size - (intOf u15).toNat)
     case atStart=>exact⟨0,0,rfl,Nat.zero_le _,rfl⟩
     case round =>
      obtain⟨i,q,rfl,hi,rfl⟩:=hrel
      have i0:(0:Int)≤(i:Int):=by omega
      have z0':(wr.drewN q).cell? ⟨B13,0,none⟩=some (.int .i64 (cdv:Int)):=z0
      have z2':(wr.drewN q).cell? ⟨B13,2,none⟩=some (.string S):=z2
      have z3':(wr.drewN q).cell? ⟨B13,3,none⟩=some (.slice Aa S.size ca):=z3
      have z4':(wr.drewN q).cell? ⟨B13,4,none⟩=some (.int .i64 (fr:Int)):=z4
      have z5':(wr.drewN q).cell? ⟨B13,5,none⟩=some (.int .i64 (j:Int)):=z5
      by_cases hit:i<S.size
      ·obtain⟨ga,rfl,hra⟩:=HROW.out wr HB5.out (by omega)
       obtain⟨y,hy⟩:∃ y,qs[i]?=some y:=⟨_,List.getElem?_eq_getElem (by rw[HRM.out];exact hit)⟩
       have hc1:wr.cell? ⟨ga,i,none⟩=some (.int .i64 (y.2:Int)):=hra i y hy
       obtain⟨v1,v2,v3⟩:=HQ1.out y (List.mem_of_getElem? hy)
       have E1:=bP S i hit
       have hb63:aV S i=y.1:=by
        rw[HRS.out]
        unfold aV
        rw[aB _ (fun c hc=>by
         obtain⟨z,hz,rfl⟩:=List.mem_map.1 hc
         have:=(HQ1.out z hz).2.2
         omega),List.getD_eq_getElem?_getD,List.getElem?_map,hy]
        rfl
       have i1:(i:Int)<(S.size:Int):=by omega
       have it:decide ((i:Int)<(S.size:Int))=true:=decide_eq_true i1
       have d1:decide ((y.2:Int)<(fr:Int))=false:=decide_eq_false (by omega)
       have d2:decide ((j:Int)≤(y.2:Int))=false:=decide_eq_false (by omega)
       have d5:decide (63<((aV S i:Nat):Int))=false:=decide_eq_false (by omega)
       obtain⟨pj,hpj⟩:∃ n,y.2=n:=⟨_,rfl⟩
       rw[hpj]at hc1 d1 d2 v1 v2
       have n1:decide (pj<fr)=false:=decide_eq_false (by omega)
       have n2:decide (j≤pj)=false:=decide_eq_false (by omega)
       have n5:decide (63<aV S i)=false:=decide_eq_false (by omega)
       have HY:=hid hy
       have HPJ:=hid hpj
       clear hb63 hy v1 v2 v3 hpj
       by_cases hi0:i=0
       ·subst hi0
        have i1':(0:Int)<(S.size:Int):=by omega
        have d3:decide ((0:Int)<(0:Int))=false:=by decide
        have it':decide ((0:Int)<(S.size:Int))=true:=decide_eq_true i1'
        clear i0 i1 it
        go_upto_region 25 with fail
        go_quiet (fail)
        go_wp2
        go_roundw
        case rel=>exact⟨1,_,by go_num,by omega,by first | rfl | exact(World.drewN_drewN _ _ _)⟩
        case measure=>simp[intOf];omega
       ·obtain⟨p,hp⟩:∃ p,i - 1=p:=⟨_,rfl⟩
        obtain⟨x,hx⟩:∃ x,qs[p]?=some x:=⟨_,List.getElem?_eq_getElem (by rw[HRM.out];omega)⟩
        have hc2:wr.cell? ⟨ga,p,none⟩=some (.int .i64 (x.2:Int)):=hra p x hx
        have hle:x.2≤pj:=by
         rw[← HPJ.out]
         have h:=List.pairwise_iff_getElem.1 HQ2.out p i (by have:=HRM.out;omega) (by have:=HRM.out;omega) (by omega)
         obtain⟨w1',e1⟩:=List.getElem?_eq_some_iff.1 hx
         obtain⟨w2',e2⟩:=List.getElem?_eq_some_iff.1 HY.out
         rw[e1,e2]at h
         exact h
        obtain⟨pp,hpp⟩:∃ n,x.2=n:=⟨_,rfl⟩
        rw[hpp]at hc2 hle
        have d3:decide ((0:Int)<(i:Int))=true:=decide_eq_true (by omega)
        have d4:decide ((pj:Int)<(pp:Int))=false:=decide_eq_false (by omega)
        have n3:decide (0<i)=true:=decide_eq_true (by omega)
        have n4:decide (pj<pp)=false:=decide_eq_false (by omega)
        have hi9:i+1≤9223372036854775807:=by
         have:=HRM.out
         have h9:=HSZ.out
         omega
        have tw:IntKind.i64.wrap ((i:Int) - 1)=(p:Int):=by rw[show (i:Int) - 1=(p:Int) by omega];exact IntWalk.i64_in _ ⟨by omega,by omega⟩
        have p0:(0:Int)≤(p:Int):=by omega
        have p1':(p:Int)<(S.size:Int):=by omega
        have HFI:=hid (show i+1≤S.size from by omega)
        clear hx hpp hp hra
        go_upto_region 25 with fail
        go_quiet (fail)
        go_wp2
        go_roundw
        case rel=>exact⟨i+1,_,by go_num,HFI.out,by first | rfl | exact(World.drewN_drewN _ _ _)⟩
        case measure=>have h:=HFI.out;simp[intOf];omega
      ·obtain rfl:i=S.size:=by omega
       have it:decide ((S.size:Int)<(S.size:Int))=false:=decide_eq_false (by omega)
       have HBX:=hid (Ba.below_drewN HB5.out q)
       go_wp2
       go_roundw
       case rel=>exact⟨k+1,by go_num,by omega,by rw[HLA.out],by rw[← HNE.out],HBX.out⟩
       case measure=>simp[intOf];omega
  ·obtain rfl:k=nf:=by omega
   have HCE:=hid (show aDW t 0 (y8 t k)=aDW t 0 na from by rw[← HNF.out,aLU HCH.out H0.out,HNA.out])
   obtain⟨C0,hC0⟩:∃ n,aDW t 0 (y8 t k)=n:=⟨_,rfl⟩
   rw[hC0]at HCE ⊢
   have hAT:=HAT.out wr hB
   have t1:decide ((k:Int)<(k:Int))=false:=decide_eq_false (by omega)
   clear hC0 hB
   go_wp2
   go_loopw [16,17] (fun u16 u17 wi=>∃ j:Nat,u17=.int .i64 (j:Int)∧j≤na∧u16=.int .i64 ((aDW t 0 j:Nat):Int)∧wi=wr) (fun _ u17 _=>na - (intOf u17).toNat)
   case atStart=>exact⟨0,rfl,Nat.zero_le _,by rw[aGK];rfl,rfl⟩
   case round =>
    obtain⟨j,rfl,hj,rfl,rfl⟩:=hrel
    have j0:(0:Int)≤(j:Int):=by omega
    have hN9:=HCL.out 0 j
    obtain⟨N,hN⟩:∃ n,aDW t 0 j=n:=⟨_,rfl⟩
    rw[hN]at hN9 ⊢
    have HN:=hid hN
    clear hN
    by_cases hjt:j<na
    ·obtain⟨g0,rfl,hcell⟩:=hAT (by omega)
     obtain⟨x,hx⟩:∃ x,t[j]?=some x:=⟨_,List.getElem?_eq_getElem (by have:=HNA.out;omega)⟩
     have hk1:=hcell j x hx
     have hcs:=aGJ (Nat.zero_le j) hx
     obtain⟨xk,hxk⟩:∃ y,x.kind=y:=⟨_,rfl⟩
     rw[hxk]at hk1 hcs
     have HCS:=hid hcs
     have j1:(j:Int)<(na:Int):=by omega
     clear hcell hx hxk hcs
     by_cases h1:xk=1
     ·have HNX:=hid (show N+1=aDW t 0 (j+1) from by rw[HCS.out,if_pos h1,HN.out])
      subst h1
      go_wp2
      go_roundw
      case rel=>exact⟨j+1,by go_num,by omega,by rw[← HNX.out];go_num,trivial⟩
      case measure=>simp[intOf];omega
     ·have HNX:=hid (show N=aDW t 0 (j+1) from by rw[HCS.out,if_neg h1,HN.out];rfl)
      have e1:(xk==1)=false:=beq_eq_false_iff_ne.2 h1
      clear h1
      go_wp2
      go_roundw
      case rel=>exact⟨j+1,by go_num,by omega,by rw[← HNX.out],trivial⟩
      case measure=>simp[intOf];omega
    ·obtain rfl:j=na:=by omega
     have HNE:=hid (show C0=N from by rw[HCE.out,HN.out])
     have e1:((C0:Int)==(N:Int))=true:=by rw[HNE.out];simp
     have ht1:decide ((j:Int)<(j:Int))=false:=decide_eq_false (by omega)
     go_wp2_with fail
     refine(HAW.out _ (HL.out.kept (chain HB3.out HB3.out.size HB.out))).mono ?_
     rintro e w9 ⟨rfl,hb9⟩
     have HE9:=hid (chain HB3.out HB3.out.size (chain HB.out HB.out.size hb9))
     clear hb9
     go_wp2
     go_ret
     exact⟨rfl,HE9.out⟩
end Go.Proofs.YthbigkoihpgcfaaGreatDoor.Da
