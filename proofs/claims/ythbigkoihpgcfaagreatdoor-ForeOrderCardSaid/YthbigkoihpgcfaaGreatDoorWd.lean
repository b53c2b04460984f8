/-
  Put together.
-/
import Derived.Test.YthbigkoihpgcfaaGreatDoorDaN
import Derived.Test.YthbigkoihpgcfaaGreatDoorWc
open Go.Lib (hid)
set_option maxRecDepth 100000
set_option maxHeartbeats 16000000
namespace Go.Proofs.YthbigkoihpgcfaaGreatDoor.Da
open Go.RowKit Ba Ru Ck Ti Pa Fl Cu
def mZ (w:World) (g:Nat) (u0 u1 u2 u3 u4 u5:Value):World:=(((((w.setCell ⟨g,0,none⟩ u0).setCell ⟨g,1,none⟩ u1).setCell ⟨g,2,none⟩ u2).setCell ⟨g,3,none⟩ u3).setCell ⟨g,4,none⟩ u4).setCell ⟨g,5,none⟩ u5
theorem kM {w:World} {g:Nat} {v0 v1 v2 v3 v4 v5:Value} {ty:TypeId} (h:w.heap[g]?=some (.cells #[v0,v1,v2,v3,v4,v5] ty (0,0))) (u0 u1 u2 u3 u4 u5:Value):(mZ w g u0 u1 u2 u3 u4 u5).heap[g]?=some (.cells #[u0,u1,u2,u3,u4,u5] ty (0,0)):=by
 unfold mZ
 simp only[World.setCell,Array.getElem?_modify,h]
 rfl
theorem iX {w w0:World} {B g:Nat} (h:Below B w0 w) (hg:B≤g) (u0 u1 u2 u3 u4 u5:Value):Below B w0 (mZ w g u0 u1 u2 u3 u4 u5) :=
 (((((h.setCell (p:=⟨g,0,none⟩) hg _).setCell (p:=⟨g,1,none⟩) hg _).setCell (p:=⟨g,2,none⟩) hg _).setCell (p:=⟨g,3,none⟩) hg _).setCell (p:=⟨g,4,none⟩) hg _).setCell (p:=⟨g,5,none⟩) hg _
theorem WS {w:World} {g base:Nat} {e size n:Nat} {v:Value} {xs:List Value} (h:w.ownsRow base e size v n xs) (hg:g<base) (u0 u1 u2 u3 u4 u5:Value):(mZ w g u0 u1 u2 u3 u4 u5).ownsRow base e size v n xs :=
 ownsRow_setCell_below (ownsRow_setCell_below (ownsRow_setCell_below (ownsRow_setCell_below (ownsRow_setCell_below (ownsRow_setCell_below h (a:=⟨g,0,none⟩) hg _) (a:=⟨g,1,none⟩) hg _) (a:=⟨g,2,none⟩) hg _) (a:=⟨g,3,none⟩) hg _) (a:=⟨g,4,none⟩) hg _) (a:=⟨g,5,none⟩) hg _
theorem jV {w:World} {g:Nat} {v0 v1 v2 v3 v4 v5:Value} {ty:TypeId} (h:w.heap[g]?=some (.cells #[v0,v1,v2,v3,v4,v5] ty (0,0))) :
  w.cell? ⟨g,0,none⟩=some v0∧w.cell? ⟨g,1,none⟩=some v1∧w.cell? ⟨g,2,none⟩=some v2∧w.cell? ⟨g,3,none⟩=some v3∧w.cell? ⟨g,4,none⟩=some v4∧w.cell? ⟨g,5,none⟩=some v5:=by
 refine⟨?_,?_,?_,?_,?_,?_⟩<;>(rw[Lib.cell_of_heap h];rfl)
theorem CT {w:World} {g:Nat} {cs:Array Value} {ty:TypeId} (h:w.heap[g]?=some (.cells cs ty (0,0))) :
  w.frozen? ⟨g,0,none⟩=false∧w.frozen? ⟨g,1,none⟩=false∧w.frozen? ⟨g,2,none⟩=false∧w.frozen? ⟨g,3,none⟩=false∧w.frozen? ⟨g,4,none⟩=false∧w.frozen? ⟨g,5,none⟩=false :=
 ⟨Lib.frozen_of_heap h 0,Lib.frozen_of_heap h 1,Lib.frozen_of_heap h 2,Lib.frozen_of_heap h 3,Lib.frozen_of_heap h 4,Lib.frozen_of_heap h 5⟩
theorem WT {W:World} {B n:Nat} {v:Value} {cs:List Nat} (hn:cs.length=n) (h256:∀ c ∈ cs,c<256) (h:W.ownsRow B 5 1 v n (Lib.strCells (bytesOf cs))) :
  (convert 89 9 v).run Tryz.prog W=.ok (.string (bytesOf cs)) W:=by
 rcases id h.2 with⟨rfl,h0⟩ | ⟨g,cap,cur,rfl,-⟩
 ·subst h0
  obtain rfl:=List.eq_nil_of_length_eq_zero hn
  exact run_convert_bytes_nil (P:=Tryz.prog) W 89 5 Tryz.underlying89 Tryz.underlying5 0 0 9 Tryz.underlying9
 ·refine sZ W g cap cs n hn h256 fun j c hj=>?_
  have hjn:=(List.getElem?_eq_some_iff.1 hj).1
  rw[h.cellAt j (by omega)]
  unfold Lib.strCells bytesOf
  simp only[List.getElem?_map,hj,Option.map_some]
  have e3:(UInt8.ofNat c).toNat=c:=by simp[Nat.mod_eq_of_lt (h256 c (List.mem_of_getElem? hj))]
  rw[e3]
theorem WU (w:World):(convert 89 9 (.slice (some ⟨w.heap.size,0,none⟩) 1 1)).run Tryz.prog (w.alloc (.cells #[.int .u8 0] 5))=.ok (.string (bytesOf [0])) (w.alloc (.cells #[.int .u8 0] 5)) :=
 sZ _ w.heap.size 1 [0] 1 rfl (by simp) fun j c hj=>by
  have hj1:=(List.getElem?_eq_some_iff.1 hj).1
  obtain rfl:j=0:=by simp at hj1;omega
  cases hj
  rw[Lib.cell_of_heap (heap_alloc_new w _)]
  rfl
theorem JH {l:List Rl} (A:Acc dM l):∀ (cs:List (List Tk)) (i:Nat),∀ z ∈ iM l i cs,z.1<256
 | [],_,z,hz=>by cases hz
 | [c],i,z,hz=>by
  obtain⟨x,y,-,hy,h1,-⟩:=zI (show z ∈ bJ l i (j6 l c) from hz)
  have:=(xU A y hy z.1 h1).2
  omega
 | c::d::r,i,z,hz=>by
  have hz:z ∈ bJ l i (j6 l c)++(0,i+c.length)::iM l (i+c.length+1) (d::r):=hz
  rcases List.mem_append.1 hz with hz | hz
  ·obtain⟨x,y,-,hy,h1,-⟩:=zI hz
   have:=(xU A y hy z.1 h1).2
   omega
  ·rcases List.mem_cons.1 hz with rfl | hz
   ·exact show 0<256 by decide
   ·exact JH A (d::r) _ z hz
theorem NC (W:World) (c0 c1 c2:Array Value) (t0 t1 t2:TypeId) :
  (((W.alloc (.cells c0 t0)).alloc (.cells c1 t1)).alloc (.cells c2 t2)).heap.size=W.heap.size+1+1+1∧Below W.heap.size W (((W.alloc (.cells c0 t0)).alloc (.cells c1 t1)).alloc (.cells c2 t2)) ∧
   (((W.alloc (.cells c0 t0)).alloc (.cells c1 t1)).alloc (.cells c2 t2)).heap[W.heap.size]?=some (.cells c0 t0 (0,0))∧(((W.alloc (.cells c0 t0)).alloc (.cells c1 t1)).alloc (.cells c2 t2)).heap[W.heap.size+1+1]?=some (.cells c2 t2 (0,0)):=by
 refine⟨by simp,(((Below.refl _ W).alloc (Nat.le_refl _) _).alloc (by simp) _).alloc (by simp;omega) _,?_,?_⟩
 ·exact(Below.heap_alloc _ _ _ (by simp;omega)).trans ((Below.heap_alloc _ _ _ (by simp)).trans (heap_alloc_new W _))
 ·have h:=heap_alloc_new ((W.alloc (.cells c0 t0)).alloc (.cells c1 t1)) (.cells c2 t2)
  rw[show ((W.alloc (.cells c0 t0)).alloc (.cells c1 t1)).heap.size=W.heap.size+1+1 by simp]at h
  exact h
def aDT (cd dp:Int) (fr tl:Nat) (R:List (Nat × Nat)) (B:Bool) (W:World) (e:Ending) (W':World):Prop :=
 Below W.heap.size W W'∧((B=true∧∃ av,e=.returned (.tuple #[.agg #[.int .i64 cd,.int .i64 dp,.string (bytesOf (R.map (·.1))),av,.int .i64 (fr:Int),.int .i64 (tl:Int)],.int .i64 0])∧W'.ownsRow W.heap.size 3 1 av R.length (iV (R.map (·.2)))) ∨
  (B=false∧e=.returned (.tuple #[.agg #[.int .i64 0,.int .i64 0,.string { data:=#[] },.slice none 0 0,.int .i64 0,.int .i64 0],.int .i64 1])))
theorem PM {T:bT} {W:World} {a:Addr} {l:List Rl} {lo hi:Nat} {t:List Tk} {off g rc:Nat} {A:Option Addr} {n c:Nat} (E:oN T W a l lo hi t off g rc A n c) (cd dp:Int) (fr tl:Nat) (hft:fr≤tl) (hto:tl≤n) (R:List (Nat × Nat)) (hR:j8 l t fr tl=R) (Y:Bool) (hY:aX t fr tl=Y) :
  Calls Tryz.prog 25 #[uA a l.length g rc A n c,.agg #[.int .i64 cd,.int .i64 dp,.string { data:=#[] },.slice none 0 0,.int .i64 (fr:Int),.int .i64 (tl:Int)]] W (aDT cd dp fr tl R Y W):=by
 have htl:=E.EL
 have hmax:=E.qT
 have hnc:=E.nc
 have hACC:=E.acc
 have HACC:=hid hACC
 have HTL:=hid htl
 have HE:=hid E
 have hA0:=E.rS
 obtain⟨nl,hnl⟩:∃ m,l.length=m:=⟨_,rfl⟩
 have HNL:=hid hnl
 have hRl:R.length≤55000000:=by
  rw[← hR]
  exact WQ (fun x hx=>(E.fit x hx).2.2) (by rw[List.length_drop,List.length_take];omega) fr
 have HRL:=hid hRl
 have HR:=hid hR
 have HY:=hid hY
 have HLT:=hid (show ∀ z ∈ R,z.1<256 from fun z hz=>JH hACC _ _ z (by rw[← hR]at hz;exact hz))
 have HAA:=hid hA0
 unfold uA
 rw[hnl]
 clear E hR hY hRl htl hACC hA0 hnl
 go_enter Tryz.func25,Tryz.ntmps25
 go_upto_region 2 with fail
 obtain⟨hs1,hb1,hx0,hx2⟩:=NC W #[.pointer (some a),.slice (some ⟨g,0,none⟩) nl rc,.slice A n c] #[.int .i64 cd,.int .i64 dp,.string { data:=#[] },.slice none 0 0,.int .i64 (fr:Int),.int .i64 (tl:Int)] #[.int .i64 0,.int .i64 0,.string { data:=#[] },.slice none 0 0,.int .i64 0,.int .i64 0] 67 44 44
 generalize ((W.alloc _).alloc _).alloc _=w1 at hs1 hb1 hx0 hx2 ⊢
 rw[← hs1]
 obtain⟨B2,hB2⟩:∃ B2,W.heap.size+1+1=B2:=⟨_,rfl⟩
 obtain⟨B0,hB0⟩:∃ B0,W.heap.size=B0:=⟨_,rfl⟩
 rw[hB2]at hx2 ⊢
 rw[hB0]at hx0 hb1 ⊢
 obtain⟨b,hb⟩:∃ b,w1.heap.size=b:=⟨_,rfl⟩
 have hb0:B0<b:=by omega
 have hb2:B2<b:=by omega
 have hb2':B0≤B2:=by omega
 have hf3:FI b cd dp fr tl [] [] (w1.alloc (.cells #[.int .i64 cd,.int .i64 dp,.string { data:=#[] },.slice none 0 0,.int .i64 (fr:Int),.int .i64 (tl:Int),.slice none 0 0] 99)):=⟨.slice none 0 0,.slice none 0 0,by rw[← hb];exact heap_alloc_new w1 _,World.ownsRow_nil _ _ _ _,World.ownsRow_nil _ _ _ _⟩
 have hb3:=(Below.refl w1.heap.size w1).alloc (Nat.le_refl _) (.cells #[.int .i64 cd,.int .i64 dp,.string { data:=#[] },.slice none 0 0,.int .i64 (fr:Int),.int .i64 (tl:Int),.slice none 0 0] 99)
 rw[hb]at hb3 ⊢
 generalize w1.alloc _=w3 at hf3 hb3 ⊢
 have HE1:=hid (HE.out.later (by rw[hB0];exact hb1))
 have HX0:=hid (fun(V:World) (hV:Below b w1 V)=>(hV.block B0 hb0).trans hx0)
 have HX2:=hid (fun(V:World) (hV:Below b w1 V)=>(hV.block B2 hb2).trans hx2)
 have HB1:=hid hb1
 have HF3:=hid hf3
 have HB3:=hid hb3
 have HSZ:=hid hb
 have HB00:=hid hB0
 have HBB:=hid (show B0≤b∧B2<b∧B0≤B2 from ⟨by omega,hb2,hb2'⟩)
 have q4:=hf3.cells.1
 clear HE hs1 hb1 hx0 hx2 hB2 hB0 hb hb0 hb2 hb2' hf3 hb3
 go_wp2
 go_loopw [7] (fun u7 wr=>∃ (k:Nat) (D:List (Nat × Nat)),u7=.int .i64 (k:Int)∧k≤tl∧R=D++j8 l t k tl∧Y=aX t k tl∧FI b cd dp fr tl (D.map (·.1)) (D.map (·.2)) wr∧AY b w3 wr) (fun u7 _=>tl - (intOf u7).toNat)
 case atStart=>exact⟨fr,[],rfl,hft,HR.out.symm,HY.out.symm,HF3.out,AY.refl _ _⟩
 case round =>
  obtain⟨k,D,rfl,hk,hR,hY,hf,hs⟩:=hrel
  clear q4
  have HRK:=hid hR
  have HYK:=hid hY
  have HFK:=hid hf
  have HSK:=hid hs
  have HWR:=hid (HB3.out.trans hs.1)
  have hDl:D.length≤55000000:=by
   have h:=congrArg List.length hR
   rw[List.length_append]at h
   have:=HRL.out
   omega
  have q5:=hf.cells.2
  have k0:(0:Int)≤(k:Int):=by omega
  clear hR hY hs
  by_cases hlt:k<tl
  ·obtain⟨e0,e1,e2⟩:=iG (HX0.out wr HWR.out)
   have hEW:=HE1.out.later (by rw[HSZ.out];exact HWR.out)
   obtain⟨A',c',e,hA⟩:=hEW.rS
   injection e with e1' e2' e3'
   subst e1';subst e3'
   clear e2'
   have htl:=HTL.out
   obtain⟨g0,rfl,hg0,hc0⟩:=hA (by omega)
   obtain⟨x,hx⟩:∃ x,t[k]?=some x:=⟨_,List.getElem?_eq_getElem (by omega)⟩
   obtain⟨c1,c2,c3⟩:=pC hc0 k x hx
   have HSP:=hid (JD x wr)
   obtain⟨r,hr⟩:∃ r,s6 x=r:=⟨_,rfl⟩
   rw[hr]at HSP
   have HX:=hid hx
   have HRS:=hid hr
   have htn:¬ tl≤k:=by omega
   have k1:(k:Int)<(tl:Int):=by omega
   have k2:(k:Int)<(n:Int):=by omega
   have hn8:n≤1000:=hmax
   obtain⟨xk,xc,xp⟩:=x
   simp only[nS]at HSP
   simp only[]at c1 c2 c3
   clear hx hr htl hA hc0 hg0 hEW
   cases r
   case true =>
    have hsp:=M9 (l:=l) HACC.out (t:=t) hlt HX.out HRS.out
    have HRN:=hid (show R=(D++[(0,k)])++j8 l t (k+1) tl from by rw[HRK.out,hsp.1,List.append_assoc];rfl)
    have HYN:=hid (show Y=aX t (k+1) tl from by rw[HYK.out,hsp.2])
    have HPUT:=hid (fun(V:World) (hV:FI b cd dp fr tl (D.map (·.1)) (D.map (·.2)) V)=>show Calls Tryz.prog 51 #[.pointer (some ⟨b,0,none⟩),.string (bytesOf [0]),.int .i64 (k:Int)] V fun e W'=>e=.returned (.tuple #[])∧FI b cd dp fr tl ((D++[(0,k)]:List (Nat × Nat)).map (·.1)) ((D++[(0,k)]:List (Nat × Nat)).map (·.2)) W'∧AY b V W' from by
     have h:=uT hV (by rw[List.length_map];omega) (by rw[List.length_map];omega) [0] (by decide) (bytesOf [0]) rfl k
     rw[List.map_append,List.map_append]
     exact h)
    clear hsp HRK HYK
    go_wp2_with fail
    refine HSP.out.mono ?_
    rintro e w4 ⟨rfl,hb4⟩
    have HK4:=hid (HFK.out.step hb4)
    clear hb4 e0 e1 e2 c1 c2 c3 q5 hf
    have hback:=WU w4
    have ha4:=(Below.refl w4.heap.size w4).alloc (Nat.le_refl _) (.cells #[.int .u8 0] 5)
    have HK5:=hid (HK4.out.1.step ha4)
    clear ha4
    go_wp2_with fail
    refine(HPUT.out _ HK5.out.1).mono ?_
    rintro e w6 ⟨rfl,hf6,hs6⟩
    have HF6:=hid hf6
    have HS6:=hid (((HSK.out.trans HK4.out.2).trans HK5.out.2).trans hs6)
    clear hf6 hs6 hback
    go_wp2
    go_roundw
    case rel=>exact⟨k+1,D++[(0,k)],by go_num,by omega,HRN.out,HYN.out,HF6.out,HS6.out⟩
    case measure=>simp[intOf];omega
   case false =>
    have HCE:=hid (fun(V:World) (hV:Below b w1 V)=>JE (HE1.out.later (by rw[HSZ.out];exact hV)) (Below.refl V.heap.size V) k tl hlt hto)
    have HCH:=hid (fun(V:World) (hV:Below b w1 V) (hF:FI b cd dp fr tl (D.map (·.1)) (D.map (·.2)) V) (j:Nat) (hkj:k<j) (hj:j≤tl) (f:Int) (hff:rQ ((t.drop k).take (j - k))=f)=>WR HE1.out (by rw[HSZ.out];exact hV) HSZ.out hF (by rw[List.length_map];omega) (by rw[List.length_map];omega) k j hkj (by omega) _ rfl f hff _ rfl)
    unfold uA at HCE HCH
    rw[HNL.out]at HCE HCH
    go_wp2_with fail
    refine HSP.out.mono ?_
    rintro e w4 ⟨rfl,hb4⟩
    have HK4:=hid (HFK.out.step hb4)
    have HW4:=hid (HWR.out.trans HK4.out.2.1)
    have q5:=HK4.out.1.cells.2
    clear hb4 e0 e1 e2 c1 c2 c3 hf
    obtain⟨e0,e1,e2⟩:=iG (HX0.out w4 HW4.out)
    go_wp2_with fail
    refine(HCE.out _ HW4.out).mono ?_
    rintro e w5 ⟨j,rfl,hj1,hj2,hno,hyes,hb5⟩
    have hkj:k<j:=by
     rcases Nat.lt_or_ge k j with h | h
     ·exact h
     ·obtain rfl:k=j:=by omega
      have:=hyes _ hlt HX.out
      rw[HRS.out]at this
      cases this
    have HK5:=hid (HK4.out.1.step hb5)
    have HW5:=hid (HW4.out.trans HK5.out.2.1)
    have hlc:=NA (l:=l) HACC.out (t:=t) (Nat.le_of_lt hkj) hj2 (by rw[HTL.out];omega) hno hyes
    obtain⟨u,hu⟩:∃ u,(t.drop k).take (j - k)=u:=⟨_,rfl⟩
    rw[hu]at hlc
    have HLC:=hid hlc
    obtain⟨f,hff⟩:∃ f,rQ u=f:=⟨_,rfl⟩
    have HC5:=hid (HCH.out w5 HW5.out HK5.out.1 j hkj hj2 f (by rw[hu];exact hff))
    rw[hu]at HC5
    have HFF:=hid hff
    have j9:j≤1000:=by omega
    clear hb5 hno hyes hlc hu hff e0 e1 e2 q5 HCE HCH
    obtain⟨e0,e1,e2⟩:=iG (HX0.out w5 HW5.out)
    go_wp2_with fail
    refine HC5.out.mono ?_
    rintro e w6 ⟨rfl,hf6,hs6⟩
    have HF6:=hid hf6
    have HS6:=hid (((HSK.out.trans HK4.out.2).trans HK5.out.2).trans hs6)
    have HW6:=hid (HW5.out.trans hs6.1)
    clear hf6 hs6 e0 e1 e2
    obtain⟨cb,hcb⟩:∃ cb,bB u=cb:=⟨_,rfl⟩
    cases cb
    ·have hf1:(1:Int)=f:=by rw[← HFF.out];unfold rQ;rw[hcb];rfl
     subst hf1
     have HYF:=hid (show false=Y from by rw[HYK.out,HLC.out.2,hcb];rfl)
     have hx2:=HX2.out w6 HW6.out
     obtain⟨z0,z1,z2,z3,z4,z5⟩:=jV hx2
     obtain⟨y0,y1,y2,y3,y4,y5⟩:=CT hx2
     have HX6:=hid hx2
     clear hcb hx2
     go_wp2
     show bodyPost _ _ _ _ _ (mZ w6 B2 (.int .i64 0) (.int .i64 0) (.string { data:=#[] }) (.slice none 0 0) (.int .i64 0) (.int .i64 0))
     have hp:=kM HX6.out (.int .i64 0) (.int .i64 0) (.string { data:=#[] }) (.slice none 0 0) (.int .i64 0) (.int .i64 0)
     have hbb:=iX (w:=w6) (g:=B2) (HB1.out.trans (HW6.out.mono HBB.out.1)) HBB.out.2.2 (.int .i64 0) (.int .i64 0) (.string { data:=#[] }) (.slice none 0 0) (.int .i64 0) (.int .i64 0)
     clear z0 z1 z2 z3 z4 z5 y0 y1 y2 y3 y4 y5
     generalize mZ _ _ _ _ _ _ _ _=w9 at hp hbb ⊢
     obtain⟨z0,z1,z2,z3,z4,z5⟩:=jV hp
     refine bodyPost_ret (v:=.tuple #[.agg #[.int .i64 0,.int .i64 0,.string { data:=#[] },.slice none 0 0,.int .i64 0,.int .i64 0],.int .i64 1]) (by simp[results,Tryz.f25,go_sem,z0,z1,z2,z3,z4,z5]) rfl ?_
     exact⟨HB00.out▸hbb,.inr ⟨HYF.out.symm,rfl⟩⟩
    ·have hf0:(0:Int)=f:=by rw[← HFF.out];unfold rQ;rw[hcb];rfl
     subst hf0
     have hoc:PF l u=j6 l u:=by unfold PF;rw[hcb];rfl
     rw[hoc]at HF6
     have HRN:=hid (show R=(D++bJ l k (j6 l u))++j8 l t j tl from by rw[HRK.out,HLC.out.1,List.append_assoc])
     have HYN:=hid (show Y=aX t j tl from by rw[HYK.out,HLC.out.2,hcb];rfl)
     have HFN:=hid (show FI b cd dp fr tl ((D++bJ l k (j6 l u)).map (·.1)) ((D++bJ l k (j6 l u)).map (·.2)) w6 from by rw[List.map_append,List.map_append];exact HF6.out)
     clear hcb hoc
     go_wp2
     go_roundw
     case rel=>exact⟨j,_,by go_num,hj2,HRN.out,HYN.out,HFN.out,HS6.out⟩
     case measure=>simp[intOf];omega
  ·obtain rfl:k=tl:=by omega
   obtain⟨l1,l2⟩:=WO (l:=l) HACC.out t k
   have HRD:=hid (show R=D from by rw[HRK.out,l1,List.append_nil])
   have HYT:=hid (show Y=true from by rw[HYK.out,l2])
   have h256:∀ z ∈ D.map (·.1),z<256:=fun z hz=>by
    obtain⟨y,hy,rfl⟩:=List.mem_map.1 hz
    exact HLT.out y (by rw[HRD.out];exact hy)
   obtain⟨av,cv,hC⟩:=hf
   have hconv:=WT rfl h256 hC.2.2
   have hv:=hC.2.1
   have HEP:=hid hC.1
   obtain⟨-,-,d2,-,-,-,q6⟩:=hC.cells
   have y2:wr.frozen? ⟨b,2,none⟩=false:=Lib.frozen_of_heap hC.1 2
   have HOA:=hid hC.2.1
   obtain⟨Ac,cc,rfl,-,-,-⟩:=aN hC.2.2
   obtain⟨Aa,ca,rfl,-,-,-⟩:=aN hC.2.1
   obtain⟨S,hS⟩:∃ S,bytesOf (D.map (·.1))=S:=⟨_,rfl⟩
   have HS:=hid hS
   rw[hS]at hconv
   obtain⟨nc,hnc'⟩:∃ m,(D.map (·.1)).length=m:=⟨_,rfl⟩
   obtain⟨na,hna⟩:∃ m,(D.map (·.2)).length=m:=⟨_,rfl⟩
   rw[hnc']at hconv HEP q6
   rw[hna]at HEP HOA
   have HNA:=hid hna
   clear hC hv h256 l1 l2 hS hnc' hna
   go_upto_region 13 with fail
   have hp:(wr.setCell ⟨b,2,none⟩ (.string S)).heap[b]?=some (.cells #[.int .i64 cd,.int .i64 dp,.string S,.slice Aa na ca,.int .i64 (fr:Int),.int .i64 (k:Int),.slice Ac nc cc] 99 (0,0)):=by
    simp only[World.setCell,Array.getElem?_modify,HEP.out];rfl
   have ho:(wr.setCell ⟨b,2,none⟩ (.string S)).ownsRow (b+1) 3 1 (.slice Aa na ca) na (iV (D.map (·.2))):=ownsRow_setCell_below HOA.out (show b<b+1 by omega) _
   have hw7:Below b w1 (wr.setCell ⟨b,2,none⟩ (.string S)):=HWR.out.setCell (p:=⟨b,2,none⟩) (Nat.le_refl _) _
   clear d2 q6 y2 hconv q5
   generalize wr.setCell _ _=w7 at hp ho hw7 ⊢
   have HO7:=hid ho
   have HW7:=hid hw7
   have hx2:=HX2.out w7 hw7
   obtain⟨z0,z1,z2,z3,z4,z5⟩:=jV hx2
   obtain⟨y0,y1,y2,y3,y4,y5⟩:=CT hx2
   have d0:w7.cell? ⟨b,0,none⟩=some (.int .i64 cd):=by rw[Lib.cell_of_heap hp];rfl
   have d1:w7.cell? ⟨b,1,none⟩=some (.int .i64 dp):=by rw[Lib.cell_of_heap hp];rfl
   have d2:w7.cell? ⟨b,2,none⟩=some (.string S):=by rw[Lib.cell_of_heap hp];rfl
   have d3:w7.cell? ⟨b,3,none⟩=some (.slice Aa na ca):=by rw[Lib.cell_of_heap hp];rfl
   have d4:w7.cell? ⟨b,4,none⟩=some (.int .i64 (fr:Int)):=by rw[Lib.cell_of_heap hp];rfl
   have d5:w7.cell? ⟨b,5,none⟩=some (.int .i64 (k:Int)):=by rw[Lib.cell_of_heap hp];rfl
   have HX7:=hid hx2
   clear hp ho hw7 hx2
   go_wp2
   show bodyPost _ _ _ _ _ (mZ w7 B2 (.int .i64 cd) (.int .i64 dp) (.string S) (.slice Aa na ca) (.int .i64 (fr:Int)) (.int .i64 (k:Int)))
   have hq:=kM HX7.out (.int .i64 cd) (.int .i64 dp) (.string S) (.slice Aa na ca) (.int .i64 (fr:Int)) (.int .i64 (k:Int))
   have hbb:=iX (w:=w7) (g:=B2) (HB1.out.trans (HW7.out.mono HBB.out.1)) HBB.out.2.2 (.int .i64 cd) (.int .i64 dp) (.string S) (.slice Aa na ca) (.int .i64 (fr:Int)) (.int .i64 (k:Int))
   have hoo:=WS HO7.out (g:=B2) (Nat.lt_succ_of_lt HBB.out.2.1) (.int .i64 cd) (.int .i64 dp) (.string S) (.slice Aa na ca) (.int .i64 (fr:Int)) (.int .i64 (k:Int))
   clear z0 z1 z2 z3 z4 z5 y0 y1 y2 y3 y4 y5 d0 d1 d2 d3 d4 d5
   generalize mZ _ _ _ _ _ _ _ _=w9 at hq hbb hoo ⊢
   obtain⟨z0,z1,z2,z3,z4,z5⟩:=jV hq
   refine bodyPost_ret (v:=.tuple #[.agg #[.int .i64 cd,.int .i64 dp,.string S,.slice Aa na ca,.int .i64 (fr:Int),.int .i64 (k:Int)],.int .i64 0]) (by simp[results,Tryz.f25,go_sem,z0,z1,z2,z3,z4,z5]) rfl ?_
   refine⟨HB00.out▸hbb,.inl ⟨HYT.out,.slice Aa na ca,by rw[HRD.out,HS.out],?_⟩⟩
   rw[HRD.out]
   have h3:D.length=na:=by rw[← HNA.out,List.length_map]
   rw[h3]
   exact gH hoo (Nat.le_succ_of_le (by rw[HB00.out];exact HBB.out.1))
def BK (w:World) (g:Nat) (u0 u1 u2:Value):World:=((w.setCell ⟨g,0,none⟩ u0).setCell ⟨g,1,none⟩ u1).setCell ⟨g,2,none⟩ u2
theorem CX {w:World} {g:Nat} {v0 v1 v2:Value} {ty:TypeId} (h:w.heap[g]?=some (.cells #[v0,v1,v2] ty (0,0))) (u0 u1 u2:Value):(BK w g u0 u1 u2).heap[g]?=some (.cells #[u0,u1,u2] ty (0,0)):=by
 unfold BK
 simp only[World.setCell,Array.getElem?_modify,h]
 rfl
theorem WV {w:World} {g k:Nat} (h:k≠g) (u0 u1 u2:Value):(BK w g u0 u1 u2).heap[k]?=w.heap[k]? :=
 (Below.heap_setCell _ ⟨g,2,none⟩ _ _ h).trans ((Below.heap_setCell _ ⟨g,1,none⟩ _ _ h).trans (Below.heap_setCell _ ⟨g,0,none⟩ _ _ h))
theorem zM {w w0:World} {B g:Nat} (h:Below B w0 w) (hg:B≤g) (u0 u1 u2:Value):Below B w0 (BK w g u0 u1 u2) :=
 ((h.setCell (p:=⟨g,0,none⟩) hg _).setCell (p:=⟨g,1,none⟩) hg _).setCell (p:=⟨g,2,none⟩) hg _
theorem uZ {w:World} {g:Nat} {v0 v1 v2:Value} {ty:TypeId} (h:w.heap[g]?=some (.cells #[v0,v1,v2] ty (0,0))):w.cell? ⟨g,0,none⟩=some v0∧w.cell? ⟨g,1,none⟩=some v1∧w.cell? ⟨g,2,none⟩=some v2:=by
 refine⟨?_,?_,?_⟩<;>(rw[Lib.cell_of_heap h];rfl)
theorem CY (T:bT) {a:Addr} {l:List Rl} {lo hi:Nat} (A:Option Addr) (t:List Tk) (off n c:Nat) (hn:t.length=n) (hn1:n≤1000) (hf:iC t) (hnc:n≤c) (hcm:c≤maxLen) (hl:l.length≤1000) (hA:Acc dM l) (hfl:kD l) (w:World) (hL:bH w) (H:T.Is w (.pointer (some a)) l lo hi) (hr:bW off w w.heap.size (.slice A n c) t) :
  Calls Tryz.prog 24 #[.pointer (some a),.slice A n c] w fun e w'=>∃ g rc,e=.returned (.tuple #[uA a l.length g rc A n c,.int .i64 0])∧Below w.heap.size w w'∧oN T w' a l lo hi t off g rc A n c:=by
 have HRU:=hid (fun(V:World) (hV:Below w.heap.size w V)=>T.rules hl hA hfl V (hL.kept hV) (T.xJ H (Kept.dB hV (T.ptr H).2)))
 have HNE:=hid (show l≠[] from by
  obtain⟨k,x,hk,-,-⟩:=jO hA (c:=97) (by omega) (by omega)
  intro e
  rw[e]at hk
  cases hk)
 have HEN:=hid (fun(V:World) (g rc:Nat) (hV:Below w.heap.size w V) (hg:g<V.heap.size) (hc:∀ k x,l[k]?=some x→bZ V g (0+k * 5) x.aE (bytesOf x.left) (bytesOf x.cells) x.prio x.line)=>show oN T V a l lo hi t off g rc A n c from ⟨hl,hA,hfl,hn,hn1,hf,hnc,hcm,hL.kept hV,T.xJ H (Kept.dB hV (T.ptr H).2),hg,hc,(hr.below hV).mono hV.size⟩)
 obtain⟨nl,hnl⟩:∃ m,l.length=m:=⟨_,rfl⟩
 have HNL:=hid hnl
 unfold uA
 rw[hnl]
 rw[hnl]at HRU
 clear hf hl hA hfl hL H hr hn hnl
 go_enter Tryz.func24,Tryz.ntmps24
 go_upto_region 1 with fail
 obtain⟨R,hR⟩:∃ R,w.heap.size=R:=⟨_,rfl⟩
 have hx:=heap_alloc_new w (.cells #[.pointer none,.slice none 0 0,.slice none 0 0] 67)
 have hb0:=(Below.refl w.heap.size w).alloc (Nat.le_refl _) (.cells #[.pointer none,.slice none 0 0,.slice none 0 0] 67)
 generalize w.alloc _=w0 at hx hb0 ⊢
 have HB0:=hid hb0
 have HRR:=hid hR
 rw[hR]at hx ⊢
 have HX:=hid hx
 have HRU0:=hid (HRU.out w0 hb0)
 clear hx hb0 HRU hR
 go_wp2_with fail
 refine HRU0.out.mono ?_
 rintro e w1 ⟨u,rfl,hu,hb1⟩
 obtain⟨g,rc,rfl,hg,hc⟩:=lV HNE.out (HNL.out.symm▸hu)
 rw[HNL.out]at hu ⊢
 have hl0:0<nl:=by rw[← HNL.out];exact List.length_pos_iff.2 HNE.out
 have hRg:R<g:=by
  obtain⟨A',c',e,-,-,h⟩:=aN hu
  obtain⟨g',rfl,h2⟩:=h hl0
  injection e with e1 _ _
  injection e1 with e1
  injection e1 with e1 _ _
  have:=(Array.getElem?_eq_some_iff.1 HX.out).1
  omega
 have hx1:=(hb1.block R (Array.getElem?_eq_some_iff.1 HX.out).1).trans HX.out
 have HX1:=hid hx1
 have HG:=hid (And.intro hg hRg)
 have HC:=hid hc
 have HB1:=hid (chain HB0.out HB0.out.size hb1)
 have t0:((nl:Int)==0)=false:=beq_eq_false_iff_ne.2 (by omega)
 obtain⟨z0,z1,z2⟩:=uZ hx1
 have y0:w1.frozen? ⟨R,0,none⟩=false:=Lib.frozen_of_heap hx1 0
 have y1:w1.frozen? ⟨R,1,none⟩=false:=Lib.frozen_of_heap hx1 1
 have y2:w1.frozen? ⟨R,2,none⟩=false:=Lib.frozen_of_heap hx1 2
 clear hu hb1 hg hc hx1 hRg hl0
 go_wp2
 show bodyPost _ _ _ _ _ (BK w1 R (.pointer (some a)) (.slice (some ⟨g,0,none⟩) nl rc) (.slice A n c))
 have hp:=CX HX1.out (.pointer (some a)) (.slice (some ⟨g,0,none⟩) nl rc) (.slice A n c)
 have hbb:=zM (w:=w1) (g:=R) (HRR.out▸HB1.out) (Nat.le_refl R) (.pointer (some a)) (.slice (some ⟨g,0,none⟩) nl rc) (.slice A n c)
 have hfar:=WV (w:=w1) (g:=R) (k:=g) (Nat.ne_of_gt HG.out.2) (.pointer (some a)) (.slice (some ⟨g,0,none⟩) nl rc) (.slice A n c)
 have hsz:g<(BK w1 R (.pointer (some a)) (.slice (some ⟨g,0,none⟩) nl rc) (.slice A n c)).heap.size:=by
  unfold BK
  simp only[World.size_setCell]
  exact HG.out.1
 clear z0 z1 z2 y0 y1 y2
 generalize BK _ _ _ _ _=w9 at hp hbb hfar hsz ⊢
 obtain⟨z0,z1,z2⟩:=uZ hp
 refine bodyPost_ret (v:=.tuple #[.agg #[.pointer (some a),.slice (some ⟨g,0,none⟩) nl rc,.slice A n c],.int .i64 0]) (by simp[results,Tryz.f24,go_sem,z0,z1,z2]) rfl ?_
 refine⟨g,rc,rfl,HRR.out.symm▸hbb,HEN.out w9 g rc (HRR.out.symm▸hbb) hsz fun k x hx=>?_⟩
 have h:=HC.out k x hx
 have e:=fun j=>World.cell?_of_block (w:=w1) (w':=w9) (a:=⟨g,j,none⟩) hfar
 exact⟨(e _).trans h.c0,(e _).trans h.c1,(e _).trans h.c2,(e _).trans h.c3,(e _).trans h.c4⟩
section
variable {T:bT} {W:World} {a:Addr} {l:List Rl} {lo hi:Nat} {t:List Tk} {off g rc:Nat} {A:Option Addr} {n c:Nat}
theorem oN.tok (E:oN T W a l lo hi t off g rc A n c) {k:Nat} (hk:k<n) {x:Tk} (hx:t[k]?=some x):∃ g0,A=some ⟨g0,off,none⟩∧g0<W.heap.size∧W.cell? ⟨g0,off+k * 3,none⟩=some (.int .i64 x.kind)∧W.cell? ⟨g0,off+k * 3+1,none⟩=some (.int .u8 (x.ch:Int))∧W.cell? ⟨g0,off+k * 3+2,none⟩=some (.int .i64 x.place):=by
 have hl:=E.EL
 obtain⟨A',c',e,hA⟩:=E.rS
 injection e with e1 e2 e3
 subst e1
 obtain⟨g0,h1,h2,h3⟩:=hA (by omega)
 exact⟨g0,h1,h2,pC h3 k x hx⟩
theorem EO (W:World) (a:Addr) (m g rc:Nat) (A:Option Addr) (n c:Nat):(W.alloc (.cells #[.pointer (some a),.slice (some ⟨g,0,none⟩) m rc,.slice A n c] 67)).cell? ⟨W.heap.size,0,none⟩=some (.pointer (some a))∧(W.alloc (.cells #[.pointer (some a),.slice (some ⟨g,0,none⟩) m rc,.slice A n c] 67)).cell? ⟨W.heap.size,1,none⟩=some (.slice (some ⟨g,0,none⟩) m rc)∧(W.alloc (.cells #[.pointer (some a),.slice (some ⟨g,0,none⟩) m rc,.slice A n c] 67)).cell? ⟨W.heap.size,2,none⟩=some (.slice A n c) :=
 iG (heap_alloc_new W _)
theorem zO (E:oN T W a l lo hi t off g rc A n c) (i:Nat) (h1:1≤i) (hi:i≤n) (r:Bool) (hr:M4 t (i - 1)=r) :
  Calls Tryz.prog 146 #[uA a l.length g rc A n c,.int .i64 (i:Int)] W fun e W'=>e=.returned (.bool r)∧Below W.heap.size W W':=by
 have hmax:=E.qT
 have htl:=E.EL
 obtain⟨p,hp⟩:∃ p,i - 1=p:=⟨_,rfl⟩
 rw[hp]at hr
 obtain⟨x,hx⟩:∃ x,t[p]?=some x:=⟨_,List.getElem?_eq_getElem (by omega)⟩
 have hw:=(Below.refl W.heap.size W).alloc (Nat.le_refl _) (.cells #[.pointer (some a),.slice (some ⟨g,0,none⟩) l.length rc,.slice A n c] 67)
 obtain⟨g0,rfl,-,c1,-,-⟩:=(E.later hw).tok (k:=p) (by omega) hx
 have hr2:decide (x.kind=2)=r:=by
  rw[← hr]
  unfold M4
  rw[hx]
 obtain⟨e0,e1,e2⟩:=EO W a l.length g rc (some ⟨g0,off,none⟩) n c
 have HB:=hid hw
 obtain⟨m,hm⟩:∃ m,l.length=m:=⟨_,rfl⟩
 unfold uA
 rw[hm]at e0 e1 e2 c1 HB ⊢
 have p0:(0:Int)≤(p:Int):=by omega
 have p1:(p:Int)<(n:Int):=by omega
 have tw:IntKind.i64.wrap ((i:Int) - 1)=(p:Int):=by rw[show (i:Int) - 1=(p:Int) by omega];exact IntWalk.i64_in _ ⟨by omega,by omega⟩
 obtain⟨q,hq⟩:∃ q,x.kind=q:=⟨_,rfl⟩
 rw[hq]at c1 hr2
 have HQ:=hid hr2
 clear E hr hr2 hx hw hq hm hp
 go_enter Tryz.func146,Tryz.ntmps146
 by_cases h2:q=2
 ·subst h2
  have HV:=hid (show true=r from by rw[← HQ.out];rfl)
  go_wp2
  go_ret
  exact⟨Cl.aC HV.out,HB.out⟩
 ·have t1:(q==2)=false:=beq_eq_false_iff_ne.2 h2
  have HV:=hid (show false=r from by rw[← HQ.out,decide_eq_false h2])
  clear h2
  go_wp2
  go_ret
  exact⟨Cl.aC HV.out,HB.out⟩
theorem JI (E:oN T W a l lo hi t off g rc A n c) (i:Nat) (h1:1≤i) (hi:i≤n) (r:Bool) (hr:M4 t (i - 1)=r) (v:Int) (hv:(if r=true then (5:Int) else 6)=v) :
  Calls Tryz.prog 102 #[uA a l.length g rc A n c,.int .i64 (i:Int)] W fun e W'=>e=.returned (.int .i64 v)∧Below W.heap.size W W':=by
 have hw:=(Below.refl W.heap.size W).alloc (Nat.le_refl _) (.cells #[.pointer (some a),.slice (some ⟨g,0,none⟩) l.length rc,.slice A n c] 67)
 have HF:=hid (zO (E.later hw) i h1 hi r hr)
 obtain⟨e0,e1,e2⟩:=EO W a l.length g rc A n c
 have HB:=hid hw
 unfold uA at HF ⊢
 obtain⟨m,hm⟩:∃ m,l.length=m:=⟨_,rfl⟩
 rw[hm]at e0 e1 e2 HB HF ⊢
 have HV:=hid hv
 clear E hr hw hm hv
 go_enter Tryz.func102,Tryz.ntmps102
 go_wp2_with fail
 refine HF.out.mono ?_
 rintro e w2 ⟨rfl,hb2⟩
 have HB2:=hid (chain HB.out HB.out.size hb2)
 clear hb2 e0 e1 e2
 cases r
 ·have HW:=hid (show (6:Int)=v from HV.out)
  go_wp2
  go_ret
  exact⟨Ba.aI HW.out,HB2.out⟩
 ·have HW:=hid (show (5:Int)=v from HV.out)
  go_wp2
  go_ret
  exact⟨Ba.aI HW.out,HB2.out⟩
theorem JJ (E:oN T W a l lo hi t off g rc A n c) (i:Nat) (h1:1≤i) (hi:i≤n) (r s:Bool) (hr:M4 t (i - 1)=r) (h2:r=true→2≤i) (hs:M4 t (i - 2)=s) (v:Int) (hv:(if r=false then (9:Int) else if s=true then 7 else 8)=v) :
  Calls Tryz.prog 103 #[uA a l.length g rc A n c,.int .i64 (i:Int)] W fun e W'=>e=.returned (.int .i64 v)∧Below W.heap.size W W':=by
 have hmax:=E.qT
 have hw:=(Below.refl W.heap.size W).alloc (Nat.le_refl _) (.cells #[.pointer (some a),.slice (some ⟨g,0,none⟩) l.length rc,.slice A n c] 67)
 have HF:=hid (zO (E.later hw) i h1 hi r hr)
 obtain⟨p,hp⟩:∃ p,i - 1=p:=⟨_,rfl⟩
 have HF2:=hid (fun(hrt:r=true) (V:World) (hV:Below (W.alloc (.cells #[.pointer (some a),.slice (some ⟨g,0,none⟩) l.length rc,.slice A n c] 67)).heap.size (W.alloc (.cells #[.pointer (some a),.slice (some ⟨g,0,none⟩) l.length rc,.slice A n c] 67)) V)=>zO ((E.later hw).later hV) p (by have:=h2 hrt;omega) (by omega) s (by rw[show p - 1=i - 2 by omega];exact hs))
 have hx:=heap_alloc_new W (.cells #[.pointer (some a),.slice (some ⟨g,0,none⟩) l.length rc,.slice A n c] 67)
 unfold uA at HF HF2 ⊢
 obtain⟨m,hm⟩:∃ m,l.length=m:=⟨_,rfl⟩
 rw[hm]at hx hw HF HF2 ⊢
 have HV:=hid hv
 have tw:IntKind.i64.wrap ((i:Int) - 1)=(p:Int):=by rw[show (i:Int) - 1=(p:Int) by omega];exact IntWalk.i64_in _ ⟨by omega,by omega⟩
 clear E hr hm hv hs h2 hp
 go_enter Tryz.func103,Tryz.ntmps103
 go_upto_region 1 with fail
 generalize W.alloc _=w1 at hx hw HF HF2 ⊢
 obtain⟨B,hB⟩:∃ B,W.heap.size=B:=⟨_,rfl⟩
 have HBB:=hid hB
 rw[hB]at hx ⊢
 have HX:=hid hx
 have HW1:=hid hw
 obtain⟨e0,e1,e2⟩:=iG hx
 clear hx hw hB
 go_wp2_with fail
 refine HF.out.mono ?_
 rintro e w2 ⟨rfl,hb2⟩
 have HB2:=hid hb2
 clear hb2 e0 e1 e2
 cases r
 ·have HW:=hid (show (9:Int)=v from HV.out)
  have HE:=hid (chain HW1.out HW1.out.size HB2.out)
  clear HF HF2
  go_wp2
  go_ret
  exact⟨Ba.aI HW.out,HE.out⟩
 ·obtain⟨e0,e1,e2⟩:=iG ((HB2.out.block B (Array.getElem?_eq_some_iff.1 HX.out).1).trans HX.out)
  have HF3:=hid (HF2.out rfl w2 HB2.out)
  clear HF HF2
  go_wp2_with fail
  refine HF3.out.mono ?_
  rintro e w3 ⟨rfl,hb3⟩
  have HE:=hid (chain HW1.out HW1.out.size (chain HB2.out HB2.out.size hb3))
  clear hb3 e0 e1 e2
  cases s
  ·have HW:=hid (show (8:Int)=v from HV.out)
   go_wp2
   go_ret
   exact⟨Ba.aI HW.out,HE.out⟩
  ·have HW:=hid (show (7:Int)=v from HV.out)
   go_wp2
   go_ret
   exact⟨Ba.aI HW.out,HE.out⟩
end
theorem aBG (k:Int) (v:Int) (hv:(if k=2 then (1:Int) else if k=3 then -1 else 0)=v) (w:World):Calls Tryz.prog 66 #[.int .i64 k] w fun e w'=>e=.returned (.int .i64 v)∧w'=w:=by
 have HV:=hid hv
 clear hv
 go_enter Tryz.func66,Tryz.ntmps66
 by_cases h2:k=2
 ·subst h2
  have HW:=hid (show (1:Int)=v from HV.out)
  clear HV
  go_wp2
  go_ret
  exact⟨Ba.aI HW.out,rfl⟩
 ·have t2:(k==2)=false:=beq_eq_false_iff_ne.2 h2
  by_cases h3:k=3
  ·subst h3
   have HW:=hid (show (-1:Int)=v from HV.out)
   clear HV
   go_wp2
   go_ret
   exact⟨Ba.aI HW.out,rfl⟩
  ·have t3:(k==3)=false:=beq_eq_false_iff_ne.2 h3
   have HW:=hid (show (0:Int)=v from by rw[← HV.out,if_neg h2,if_neg h3])
   clear HV h2 h3
   go_wp2
   go_ret
   exact⟨Ba.aI HW.out,rfl⟩
section
variable {T:bT} {W:World} {a:Addr} {l:List Rl} {lo hi:Nat} {t:List Tk} {off g rc:Nat} {A:Option Addr} {n c:Nat}
theorem aBH (E:oN T W a l lo hi t off g rc A n c) (G:aHD t) (i:Nat) (x:Tk) (hx:t[i]?=some x) (v:Nat) (hv:codeF t i x=v) :
  Calls Tryz.prog 67 #[uA a l.length g rc A n c,.int .i64 (i:Int)] W fun e W'=>e=.returned (.int .i64 (v:Int))∧Below W.heap.size W W':=by
 have hmax:=E.qT
 have htl:=E.EL
 have hin:i<n:=by rw[← htl];exact M1 hx
 have hw:=(Below.refl W.heap.size W).alloc (Nat.le_refl _) (.cells #[.pointer (some a),.slice (some ⟨g,0,none⟩) l.length rc,.slice A n c] 67)
 obtain⟨g0,rfl,-,c1,c2,-⟩:=(E.later hw).tok (k:=i) hin hx
 obtain⟨e0,e1,e2⟩:=EO W a l.length g rc (some ⟨g0,off,none⟩) n c
 have HIT:=hid (fun(hk:x.kind=2) (hc:x.ch=105)=>show Calls Tryz.prog 102 #[uA a l.length g rc (some ⟨g0,off,none⟩) n c,.int .i64 (i:Int)] (W.alloc (.cells #[.pointer (some a),.slice (some ⟨g,0,none⟩) l.length rc,.slice (some ⟨g0,off,none⟩) n c] 67)) fun e W'=>e=.returned (.int .i64 (v:Int))∧Below (W.alloc (.cells #[.pointer (some a),.slice (some ⟨g,0,none⟩) l.length rc,.slice (some ⟨g0,off,none⟩) n c] 67)).heap.size (W.alloc (.cells #[.pointer (some a),.slice (some ⟨g,0,none⟩) l.length rc,.slice (some ⟨g0,off,none⟩) n c] 67)) W' from by
  obtain⟨h1,h2⟩:=G.item i x hx hk hc
  have hcf:codeF t i x=if mE t (i - 1) 108=true then 5 else 6:=by
   unfold codeF
   rw[if_neg (by omega),if_neg (by omega),if_neg (by omega),if_neg (by omega),if_pos hc]
  refine JI (E.later hw) i h1 (Nat.le_of_lt hin) _ h2 _ ?_
  rw[← hv,hcf]
  split<;>rfl)
 have HCE:=hid (fun(hk:x.kind=2) (hc:x.ch=99)=>show Calls Tryz.prog 103 #[uA a l.length g rc (some ⟨g0,off,none⟩) n c,.int .i64 (i:Int)] (W.alloc (.cells #[.pointer (some a),.slice (some ⟨g,0,none⟩) l.length rc,.slice (some ⟨g0,off,none⟩) n c] 67)) fun e W'=>e=.returned (.int .i64 (v:Int))∧Below (W.alloc (.cells #[.pointer (some a),.slice (some ⟨g,0,none⟩) l.length rc,.slice (some ⟨g0,off,none⟩) n c] 67)).heap.size (W.alloc (.cells #[.pointer (some a),.slice (some ⟨g,0,none⟩) l.length rc,.slice (some ⟨g0,off,none⟩) n c] 67)) W' from by
  obtain⟨h1,h2⟩:=G.cell i x hx hk hc
  refine JJ (E.later hw) i h1 (Nat.le_of_lt hin) _ (M4 t (i - 2)) h2 (fun hr=>?_) rfl _ ?_
  ·have:=(G.row _ hr).1
   omega
  ·have hcf:codeF t i x=if mE t (i - 1) 114=false then 9 else if mE t (i - 2) 116=true then 7 else 8:=by
    unfold codeF
    rw[if_neg (by omega),if_neg (by omega),if_neg (by omega),if_neg (by omega),if_neg (by omega),if_neg (by omega)]
   rw[← hv,hcf]
   cases hr:mE t (i - 1) 114 with
   | false=>rfl
   | true =>
    have h3:=(G.row _ hr).2
    rw[show i - 1 - 1=i - 2 by omega]at h3
    rw[h3]
    cases mE t (i - 2) 116<;>rfl)
 have HB:=hid hw
 have HV:=hid hv
 unfold uA at HIT HCE ⊢
 obtain⟨m,hm⟩:∃ m,l.length=m:=⟨_,rfl⟩
 rw[hm]at e0 e1 e2 c1 c2 HB HIT HCE ⊢
 have i0:(0:Int)≤(i:Int):=by omega
 have i1:(i:Int)<(n:Int):=by omega
 obtain⟨q,d,p⟩:=x
 simp only[]at c1 c2 HIT HCE
 clear E G hx hw hm hv
 go_enter Tryz.func67,Tryz.ntmps67
 by_cases k2:q=2
 rotate_left
 ·have t1:(q != 2)=true:=bne_iff_ne.2 k2
  have HW:=hid (show (0:Int)=(v:Int) from by rw[← HV.out];unfold codeF;rw[if_pos k2];rfl)
  clear k2 HIT HCE
  go_wp2
  go_ret
  exact⟨Ba.aI HW.out,HB.out⟩
 subst k2
 have HIT:=hid (HIT.out rfl)
 have HCE:=hid (HCE.out rfl)
 by_cases d49:d=49
 ·subst d49
  have HW:=hid (show (1:Int)=(v:Int) from by rw[← HV.out];rfl)
  clear HIT HCE
  go_wp2
  go_ret
  exact⟨Ba.aI HW.out,HB.out⟩
 have t49:((d:Int)==49)=false:=beq_eq_false_iff_ne.2 (by omega)
 by_cases d50:d=50
 ·subst d50
  have HW:=hid (show (2:Int)=(v:Int) from by rw[← HV.out];rfl)
  clear HIT HCE
  go_wp2
  go_ret
  exact⟨Ba.aI HW.out,HB.out⟩
 have t50:((d:Int)==50)=false:=beq_eq_false_iff_ne.2 (by omega)
 by_cases d51:d=51
 ·subst d51
  have HW:=hid (show (3:Int)=(v:Int) from by rw[← HV.out];rfl)
  clear HIT HCE
  go_wp2
  go_ret
  exact⟨Ba.aI HW.out,HB.out⟩
 have t51:((d:Int)==51)=false:=beq_eq_false_iff_ne.2 (by omega)
 by_cases d112:d=112
 ·subst d112
  have HW:=hid (show (4:Int)=(v:Int) from by rw[← HV.out];rfl)
  clear HIT HCE
  go_wp2
  go_ret
  exact⟨Ba.aI HW.out,HB.out⟩
 have t112:((d:Int)==112)=false:=beq_eq_false_iff_ne.2 (by omega)
 by_cases d105:d=105
 ·have HI:=hid (HIT.out d105)
  subst d105
  clear HIT HCE
  go_wp2_with fail
  refine HI.out.mono ?_
  rintro e w2 ⟨rfl,hb2⟩
  have HB2:=hid (chain HB.out HB.out.size hb2)
  clear hb2
  go_wp2
  go_ret
  exact⟨rfl,HB2.out⟩
 have t105:((d:Int)==105)=false:=beq_eq_false_iff_ne.2 (by omega)
 by_cases d99:d=99
 ·have HI:=hid (HCE.out d99)
  subst d99
  clear HIT HCE
  go_wp2_with fail
  refine HI.out.mono ?_
  rintro e w2 ⟨rfl,hb2⟩
  have HB2:=hid (chain HB.out HB.out.size hb2)
  clear hb2
  go_wp2
  go_ret
  exact⟨rfl,HB2.out⟩
 have t99:((d:Int)==99)=false:=beq_eq_false_iff_ne.2 (by omega)
 by_cases d107:d=107
 ·subst d107
  have HW:=hid (show (10:Int)=(v:Int) from by rw[← HV.out];rfl)
  clear HIT HCE
  go_wp2
  go_ret
  exact⟨Ba.aI HW.out,HB.out⟩
 have t107:((d:Int)==107)=false:=beq_eq_false_iff_ne.2 (by omega)
 have HW:=hid (show (0:Int)=(v:Int) from by
  rw[← HV.out]
  unfold codeF
  simp only[]
  rw[if_neg (by omega),if_neg (by omega),if_neg (by omega),if_neg (by omega),if_neg (by omega),if_pos (by omega)]
  rfl)
 clear HIT HCE d49 d50 d51 d112 d105 d99 d107
 go_wp2
 go_ret
 exact⟨Ba.aI HW.out,HB.out⟩
theorem NF (E:oN T W a l lo hi t off g rc A n c) (i J:Nat) (hiJ:i≤J) (hJ:J<n) (hno:∀ (j:Nat) (x:Tk),i≤j→j<J→t[j]?=some x→nB x=false) (hyes:∀ x,t[J]?=some x→nB x=true) :
  Calls Tryz.prog 68 #[uA a l.length g rc A n c,.int .i64 (i:Int)] W fun e W'=>e=.returned (.int .i64 (J:Int))∧Below W.heap.size W W':=by
 have hmax:=E.qT
 have htl:=E.EL
 have hnc:=E.nc
 have hcm:=E.cm
 have hw:=(Below.refl W.heap.size W).alloc (Nat.le_refl _) (.cells #[.pointer (some a),.slice (some ⟨g,0,none⟩) l.length rc,.slice A n c] 67)
 obtain⟨g0,rfl⟩:∃ g0,A=some ⟨g0,off,none⟩:=by
  obtain⟨A',c',e,h⟩:=E.rS
  injection e with e1 e2 e3
  subst e1
  obtain⟨g0,h1,-⟩:=h (by omega)
  exact⟨g0,h1⟩
 obtain⟨e0,e1,e2⟩:=EO W a l.length g rc (some ⟨g0,off,none⟩) n c
 have hIX:=M8 ((t.drop i).take (n - i)) (some ⟨g0,off+i * 3,none⟩) (off+i * 3) (n - i) (c - i) (nC (by omega)) (by omega) nB _ (uY (E.later hw).rS htl i n (c - i) (by omega) (Nat.le_refl _)) (fun y _ U _=>aBB y U)
 have HIX:=hid hIX
 have HJ:=hid (show ∀ k:Nat,k<n - i→(∀ (m:Nat) (y:Tk),m<k→((t.drop i).take (n - i))[m]?=some y→nB y=false)→(∀ y,((t.drop i).take (n - i))[k]?=some y→nB y=true)→i+k=J from fun k hk h1 h2=>by
  rcases Nat.lt_trichotomy (i+k) J with g | g | g
  ·obtain⟨y,hy⟩:∃ y,t[i+k]?=some y:=⟨_,List.getElem?_eq_getElem (by omega)⟩
   have:=h2 y (by rw[pJ hk];exact hy)
   rw[hno (i+k) y (by omega) g hy]at this
   cases this
  ·exact g
  ·obtain⟨y,hy⟩:∃ y,t[J]?=some y:=⟨_,List.getElem?_eq_getElem (by omega)⟩
   have:=h1 (J - i) y (by omega) (by rw[pJ (by omega),show i+(J - i)=J by omega];exact hy)
   rw[hyes y hy]at this
   cases this)
 have HN:=hid (show ¬ ∀ (m:Nat) (y:Tk),((t.drop i).take (n - i))[m]?=some y→nB y=false from fun h=>by
  obtain⟨y,hy⟩:∃ y,t[J]?=some y:=⟨_,List.getElem?_eq_getElem (by omega)⟩
  have:=h (J - i) y (by rw[pJ (by omega),show i+(J - i)=J by omega];exact hy)
  rw[hyes y hy]at this
  cases this)
 have HLN:=hid (show ((t.drop i).take (n - i)).length=n - i from nC (by omega))
 have HB:=hid hw
 unfold uA
 obtain⟨m,hm⟩:∃ m,l.length=m:=⟨_,rfl⟩
 rw[hm]at e0 e1 e2 HB HIX ⊢
 have jc:¬ c=i:=by omega
 have j0:(0:Int)≤(i:Int):=by omega
 have j1:(i:Int)≤(n:Int):=by omega
 have j2:(n:Int)≤(c:Int):=by omega
 clear E hw hIX hm htl hno hyes
 go_enter Tryz.func68,Tryz.ntmps68
 go_wp2_with fail
 refine HIX.out.mono ?_
 rintro e w3 ⟨h,hb3⟩
 have HB3:=hid (chain HB.out HB.out.size hb3)
 clear hb3 e0 e1 e2
 rcases h with⟨k,rfl,h1,h2,h3⟩ | ⟨rfl,h2⟩
 ·rw[HLN.out]at h1
  obtain rfl:=HJ.out k h1 h2 h3
  clear h2 h3 HN HJ
  have tw:IntKind.i64.wrap ((i:Int)+(k:Int))=(i:Int)+(k:Int):=IntWalk.i64_in _ ⟨by omega,by omega⟩
  go_wp2
  go_ret
  exact⟨by push_cast;rfl,HB3.out⟩
 ·exact absurd h2 HN.out
end
end Go.Proofs.YthbigkoihpgcfaaGreatDoor.Da
