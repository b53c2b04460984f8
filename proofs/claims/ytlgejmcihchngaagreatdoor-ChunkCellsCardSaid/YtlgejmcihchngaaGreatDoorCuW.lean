/-
  ChunkCells, whatever it is called with.
-/
import Derived.Test.YtlgejmcihchngaaGreatDoorUd
import Derived.Test.YtlgejmcihchngaaGreatDoorUb
import Derived.Test.YtlgejmcihchngaaGreatDoorCkI
namespace Go.Proofs.YtlgejmcihchngaaGreatDoor.Cu
open Go.RowKit Ba Ru Ck Ti Pa Fl
def FitQ (p:List Pq):Prop:=∀ x ∈ p,I64 x.rule∧I64 x.frm∧I64 x.len
set_option maxRecDepth 100000 in
set_option maxHeartbeats 16000000 in
theorem cells_row (T:TLands) (Q:QLands T) (l:List Rl) (A:Option Addr) (off c:Nat) (p:List Pq) (A1:Option Addr) (o1 c1:Nat) (w:World) (hL:Laid9 w) (hcl:l.length≤c) (hcm:c≤maxLen) (hf:∀ x ∈ l,FitR x) (hl:ReadsR off w w.heap.size (.slice A l.length c) l)
  (_ha1:p.length≤c1) (_ha2:c1≤maxLen) (hpf:FitQ p) (hpr:ReadsQ o1 w w.heap.size (.slice A1 p.length c1) p) :
  Calls Tryz.prog 4 #[.slice A l.length c,.slice A1 p.length c1] w fun e w'=>e=.returned (.bool true)∧Below w.heap.size w w':=by
 have HPF:=Lib.hid hpf
 have HPR:=Lib.hid hpr
 clear hpf hpr
 obtain⟨np,hnp⟩:∃ n,p.length=n:=⟨_,rfl⟩
 rw[hnp]at HPR ⊢
 have HNP:=Lib.hid hnp
 clear hnp
 have HL:=Lib.hid hL
 have HV:=Lib.hid hl
 have hlm:l.length≤maxLen:=Nat.le_trans hcl hcm
 have HF:=Lib.hid hf
 have HCAP:=Lib.hid (show CapsR (.slice A l.length c) from fun A' n' c' e=>by
  injection e with _ e1 e2
  subst e1;subst e2
  exact⟨hcl,hcm⟩)
 clear hL hl hf hcm hcl
 obtain⟨nl,hnl⟩:∃ nl,l.length=nl:=⟨_,rfl⟩
 rw[hnl]at HV HCAP hlm ⊢
 have HNL:=Lib.hid hnl
 clear hnl
 obtain⟨lb,hlb⟩:∃ lb,long9 l=lb:=⟨_,rfl⟩
 have HLB:=Lib.hid hlb
 clear hlb
 have HAW:=Lib.hid (fun(W:World) hW=>awake12 T Q W hW)
 go_enter Tryz.func4,Tryz.ntmps4
 cases lb
 case true =>
  go_wp2_with fail
  refine(long12_at _ l off (by rw[HNL.out];exact hlm) _ _ HV.out true HLB.out).mono ?_
  rintro e w' ⟨rfl,hw'⟩
  have hw':=hw'.symm
  subst hw'
  go_wp2_with fail
  refine(HAW.out _ HL.out).mono ?_
  rintro e w9 ⟨rfl,hb9⟩
  go_wp2
  go_ret
  exact⟨rfl,hb9⟩
 case false =>
 obtain⟨hl5,hl50⟩:=not_long9 HLB.out
 rw[HNL.out]at hl5
 have HFX:=Lib.hid (show FitL l from fun x hx=>⟨HF.out x hx,by have:=(hl50 x hx).1;omega,by have:=(hl50 x hx).2;omega⟩)
 have HF50:=Lib.hid (show ∀ x ∈ l,x.left.length≤50∧x.cells.length≤50 from hl50)
 clear hl50
 go_wp2_with fail
 refine(long12_at _ l off (by rw[HNL.out];exact hlm) _ _ HV.out false HLB.out).mono ?_
 rintro e w' ⟨rfl,hw'⟩
 have hw':=hw'.symm
 subst hw'
 by_cases h100:100<np
 ·have tb1:decide (100<(np:Int))=true:=decide_eq_true (by omega)
  have tb2:decide (100<np)=true:=decide_eq_true h100
  go_wp2_with fail
  refine(HAW.out _ HL.out).mono ?_
  rintro e w9 ⟨rfl,hb9⟩
  go_wp2
  go_ret
  exact⟨rfl,hb9⟩
 have tb1:decide (100<(np:Int))=false:=decide_eq_false (by omega)
 have tb2:decide (100<np)=false:=decide_eq_false h100
 obtain⟨z0,y0,hr0⟩:∃ z y,tableR prC l=(z,y):=⟨_,_,rfl⟩
 have HR0:=Lib.hid hr0
 clear hr0
 go_wp2_with fail
 refine(rtable_any _ l off (by rw[HNL.out];omega) HFX.out (z0,y0) HR0.out _ HV.out).mono ?_
 rintro e wt ⟨rfl,hbt⟩
 have HBT:=Lib.hid hbt
 clear hbt
 by_cases hy0:y0=0
 rotate_left
 ·have y1:((y0:Int)==0)=false:=beq_eq_false_iff_ne.2 (by omega)
  have y3:((y0:Int) != 0)=true:=bne_iff_ne.2 (by omega)
  go_wp2_with fail
  refine(HAW.out _ (HL.out.kept HBT.out)).mono ?_
  rintro e w9 ⟨rfl,hb9⟩
  have HE9:=Lib.hid (chain HBT.out HBT.out.size hb9)
  clear hb9
  go_wp2
  go_ret
  exact⟨rfl,HE9.out⟩
 subst hy0
 go_wp2_with fail
 refine(T.new _ l off (by rw[HNL.out];omega) HFX.out HCAP.out _ (HL.out.kept HBT.out) ((HV.out.below HBT.out).mono HBT.out.size)).mono ?_
 rintro e w1 ⟨hb1,h1⟩
 obtain⟨z,y,hr⟩:∃ z y,tableR prC l=(z,y):=⟨_,_,rfl⟩
 have HR:=Lib.hid hr
 rw[hr]at h1
 have HB1:=Lib.hid (chain HBT.out HBT.out.size hb1)
 clear hb1 hr
 rcases h1 with⟨hy,t,rfl,his⟩ | ⟨hy,rfl⟩
 rotate_left
 ·exact absurd (show (0:Nat)=y from by
   have:=HR.out
   rw[HR0.out]at this
   injection this) (fun e=>hy e.symm)
 have hy:y=0:=hy
 subst hy
 have HACC:=Lib.hid ((table_acc l).1 (by rw[HR.out]))
 obtain⟨⟨a,rfl⟩,-⟩:=T.ptr his
 have hlen:l.length≤1000:=by rw[HNL.out];omega
 have HL1:=Lib.hid (HL.out.kept HB1.out)
 have HV1:=Lib.hid ((HV.out.below HB1.out).mono HB1.out.size)
 have HCE:=Lib.hid (fun(W:World) (hW:Below w1.heap.size w1 W)=>Q.cells _ p o1 (by rw[HNP.out];omega) (fun x hx=>(HPF.out x hx).1) hlen HACC.out HFX.out W (HL1.out.kept hW) (T.keep his (Kept.of_below hW (Nat.le_refl _))) ((HPR.out.below (chain HB1.out HB1.out.size hW)).mono (Nat.le_trans HB1.out.size hW.size)))
 have HC0:=Lib.hid (fun(W:World) (hW:Below w1.heap.size w1 W)=>Q.cells0 _ p o1 (by rw[HNP.out];omega) W (HL1.out.kept hW) ((HPR.out.below (chain HB1.out HB1.out.size hW)).mono (Nat.le_trans HB1.out.size hW.size)))
 obtain⟨U,hU⟩:∃ U,bytesOf (cellsQ l p)=U:=⟨_,rfl⟩
 have HRC:=Lib.hid (fun(W:World) (hW:Below w.heap.size w W)=>rcells_any _ _ l p off o1 (by rw[HNL.out];omega) (by rw[HNP.out];omega) (fun x hx=>(HFX.out x hx).2.2) (fun x hx=>(HPF.out x hx).1) U hU W _ _ (HV.out.below hW) (HPR.out.below hW))
 rw[hU]at HCE
 clear his hlen hU
 have hue:(U.toList==U.toList)=true:=by simp
 go_wp2_with fail
 refine(HCE.out w1 (Below.refl _ _)).mono ?_
 rintro e w2 ⟨rfl,hb2⟩
 have HB2:=Lib.hid hb2
 have HE2:=Lib.hid (chain HB1.out HB1.out.size hb2)
 clear hb2
 go_wp2_with fail
 refine(HRC.out w2 HE2.out).mono ?_
 rintro e w3 ⟨rfl,hw3⟩
 have hw3:=hw3.symm
 subst hw3
 go_wp2_with fail
 refine(HC0.out w2 HB2.out).mono ?_
 rintro e w4 ⟨rfl,hb4⟩
 have HE4:=Lib.hid (chain HE2.out HE2.out.size hb4)
 clear hb4
 go_wp2_with fail
 refine(HAW.out _ (HL.out.kept HE4.out)).mono ?_
 rintro e w9 ⟨rfl,hb9⟩
 have HE9:=Lib.hid (chain HE4.out HE4.out.size hb9)
 clear hb9
 go_wp2
 go_ret
 exact⟨rfl,HE9.out⟩
end Go.Proofs.YtlgejmcihchngaaGreatDoor.Cu
