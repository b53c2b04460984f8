/-
  Put together.
-/
import Derived.Test.YthbigkoihpgcfaaGreatDoorQj
import Derived.Test.YthbigkoihpgcfaaGreatDoorTsC
import Derived.Test.YthbigkoihpgcfaaGreatDoorUj
open Go.Lib (hid)
open Go.Proofs.YthbigkoihpgcfaaGreatDoor.Rg (zP zN zA zB zC tk tu)
set_option maxRecDepth 100000
set_option maxHeartbeats 16000000
namespace Go.Proofs.YthbigkoihpgcfaaGreatDoor.Ck
open Go.RowKit Ba Ru
theorem QN {M:ByteArray} (h:M≠{ data:=#[] }):M.toList.isEmpty=false:=by
 rw[ByteArray.toList_eq,List.isEmpty_eq_false_iff]
 intro e
 apply h
 apply ByteArray.ext
 apply Array.ext'
 exact e
theorem BW:fM.length=61:=by decide +kernel
def sM (l:List Rl) (n:Nat):Prop:=∀ j,j<n→∀ v,fM[j]?=some v→hasB l v=true
theorem sM.step {l:List Rl} {n:Nat} {v:Int × List Nat} (h:sM l n) (hv:fM[n]?=some v) (hb:hasB l v=true):sM l (n+1):=fun j hj u hu=>by
 rcases Nat.lt_or_ge j n with h1 | h1
 ·exact h j h1 u hu
 ·obtain rfl:j=n:=by omega
  rw[hv]at hu;cases hu;exact hb
theorem sM.aFZ {l:List Rl} {n:Nat} {v:Int × List Nat} (h:sM l n) (hv:fM[n]?=some v) (hb:hasB l v=false):lP l=v.2:=by
 unfold lP
 have hf:fM.find? (fun w=>!hasB l w)=some v:=by
  rw[List.find?_eq_some_iff_getElem]
  obtain⟨hn,e⟩:=List.getElem?_eq_some_iff.1 hv
  refine⟨by rw[hb];rfl,n,hn,e,fun j hj=>?_⟩
  rw[h j hj _ (List.getElem?_eq_getElem (by omega))];rfl
 rw[hf]
theorem sM.all {l:List Rl} (h:sM l 61):lP l=[]:=(U1 l).2 fun w hw=>by
 obtain⟨j,hj,e⟩:=List.getElem_of_mem hw
 exact h j (by rw[← BW];exact hj) w (by rw[List.getElem?_eq_getElem hj,e])
theorem VG:∀ v ∈ fM,eN (o9 v):=by
 unfold eN oI maxLen
 decide +kernel
theorem L9 {off:Nat} {w:World} {B n c:Nat} {A:Option Addr} {l:List Rl} (h:dZ off w B (.slice A n c) l) {k:Nat} (hk:k≤l.length):dZ off w B (.slice A k c) (l.take k):=by
 obtain⟨A',c',e,hA⟩:=h
 injection e with e1 e2 e3
 subst e1;subst e3
 have hl:(l.take k).length=k:=by rw[List.length_take];omega
 refine⟨A,c,by rw[hl],fun h0=>?_⟩
 obtain⟨g,rfl,hg,hc⟩:=hA (by omega)
 refine⟨g,rfl,hg,fun j x hx u v hv=>hc j x ?_ u v hv⟩
 rw[List.getElem?_take]at hx
 split at hx
 ·exact hx
 ·cases hx
theorem G6 (v:Value) (l:List Rl) (off:Nat) (hl:l.length≤100000) (hf:∀ x ∈ l,eN x) (m:List Nat) (hm:lP l=m) (w:World) (hL:dP w) (hv:dZ off w w.heap.size v l) :
  Calls Tryz.prog 45 #[v] w fun e w'=>e=.returned (.string (bytesOf m))∧Below w.heap.size w w':=by
 have HRV:=hid hv
 have HF:=hid hf
 have HM:=hid hm
 have HWA:=hid (Q6 w hL)
 obtain⟨A,c,rfl,-⟩:=hv
 clear hf hm hL
 obtain⟨nl,hnl⟩:∃ nl,l.length=nl:=⟨_,rfl⟩
 rw[hnl]at HRV hl ⊢
 have HNL:=hid hnl
 clear hnl
 go_enter Tryz.func45,Tryz.ntmps45
 go_wp2_with fail
 refine HWA.out.mono ?_
 rintro e w1 ⟨v1,rfl,own1,hb1⟩
 have HV1:=hid (Reads.hO (f:=cR) (n:=5) iA GS own1)
 have HB1:=hid hb1
 have HRV1:=hid ((HRV.out.below hb1).mono hb1.size)
 obtain⟨g,cap,rfl,-,-,-⟩:=dS own1 (by decide)
 clear own1 hb1
 go_wp2
 go_loopw [7] (fun i wr=>∃ k:Nat,k≤61∧i=.int .i64 (k:Int)∧sM l k∧Below w1.heap.size w1 wr) (fun i _=>61 - (intOf i).toNat)
 case atStart=>exact⟨0,by omega,rfl,fun j hj=>by omega,Below.refl _ _⟩
 case round =>
  obtain⟨k,hk,rfl,hN,hB⟩:=hrel
  have HH:=hid hN
  have HBW:=hid hB
  clear hN hB
  by_cases hlt:k<61
  ·obtain⟨u,hu⟩:∃ u,fM[k]?=some u:=⟨_,List.getElem?_eq_getElem (by rw[BW];exact hlt)⟩
   have hx:GR[k]?=some (o9 u):=by unfold GR;rw[List.getElem?_map,hu];rfl
   obtain⟨A',c',e,hA⟩:=HV1.out
   injection e with e1 e2 e3
   subst e1;subst e3;clear e2
   obtain⟨g',hg',hgw,hg⟩:=hA (by rw[GS];omega)
   injection hg' with hg'
   injection hg' with e4 e5 e6
   subst e4
   obtain⟨g0,g1,g2,g3,g4⟩:=wD hg k _ hx
   have g0:=(HBW.out.cell (p:=⟨g,0+k * 5,none⟩) hgw).trans g0
   have g1:=(HBW.out.cell (p:=⟨g,0+k * 5+1,none⟩) hgw).trans g1
   have g2:=(HBW.out.cell (p:=⟨g,0+k * 5+2,none⟩) hgw).trans g2
   have g3:=(HBW.out.cell (p:=⟨g,0+k * 5+3,none⟩) hgw).trans g3
   have g4:=(HBW.out.cell (p:=⟨g,0+k * 5+4,none⟩) hgw).trans g4
   have hfu:=VG u (List.mem_of_getElem? hu)
   obtain⟨hb,hhb⟩:∃ hb,hasB l u=hb:=⟨_,rfl⟩
   have HV:=hid hu
   have HHB:=hid hhb
   obtain⟨uq,us⟩:=u
   obtain⟨S,hS⟩:∃ S,bytesOf us=S:=⟨_,rfl⟩
   have HSS:=hid hS
   obtain⟨T0,hT0⟩:∃ T,bytesOf ([]:List Nat)=T:=⟨_,rfl⟩
   have HCF:=hid (show ∀ W:World,a7 W wr.heap.size uq S T0 0 0→Below w1.heap.size w1 W→Calls Tryz.prog 75 #[.slice A nl c,.func (.func 79) #[] #[.pointer (some ⟨wr.heap.size,0,none⟩)]] W fun e w'=>e=.returned (.bool hb)∧Below W.heap.size W w' from fun W hW hbW=>by
    have hr:=(HRV1.out.below hbW).mono hbW.size
    refine BE l A off nl c HNL.out hl (kU (o9 (uq,us))) hb (by rw[QT];exact hhb) wr.heap.size W hr (fun y hy V hV=>GY (o9 (uq,us)) y hfu (HF.out y hy) wr.heap.size V ?_)
    have h:=hW.kept hV
    rw[← hS,← hT0]at h
    exact h)
   simp only[o9,hS,hT0,Nat.zero_add]at g0 g1 g2 g3 g4
   have k0:(0:Int)≤(k:Int):=by omega
   have k1:(k:Int)<61:=by omega
   clear hu hx hfu hg hA hgw hhb hS hT0 e5 e6
   go_upto_region 4 with fail
   have hSt:=a7.new wr uq S T0 0 0 48
   have hbb:=HBW.out.alloc HBW.out.size (.cells #[.int .i64 uq,.string S,.string T0,.int .i64 0,.int .i64 0] 48)
   generalize wr.alloc _=W1 at hSt hbb ⊢
   have HST:=hid hSt
   have HBB:=hid hbb
   clear hSt hbb g0 g1 g2 g3 g4
   go_wp2_with fail
   refine(HCF.out _ HST.out HBB.out).mono ?_
   rintro e w2 ⟨rfl,hb2⟩
   have HB2:=hid (chain HBB.out HBB.out.size hb2)
   cases hb
   case true =>
    have HNX:=hid (HH.out.step HV.out HHB.out)
    clear hb2
    go_wp2
    go_roundw
    case rel=>exact⟨k+1,by omega,by go_num,HNX.out,HB2.out⟩
    case measure=>simp[intOf];omega
   case false =>
    have HE:=hid (HH.out.aFZ HV.out HHB.out)
    have c1:=(HST.out.kept hb2).2.1
    clear hb2
    go_wp2
    go_ret
    exact⟨OW (by rw[← HM.out,HE.out,← HSS.out]),chain HB1.out HB1.out.size HB2.out⟩
  ·have HE:=hid (show lP l=[] from sM.all (by rw[show 61=k by omega];exact HH.out))
   have t1:decide ((k:Int)<61)=false:=decide_eq_false (by omega)
   go_wp2
   go_ret
   exact⟨OW (by rw[← HM.out,HE.out];rfl),chain HB1.out HB1.out.size HBW.out⟩
theorem Q7 (v:Value) (l:List Rl) (off:Nat) (hl:l.length≤100000) (hf:∀ x ∈ l,eN x∧x.left.length≤9000∧x.cells.length≤9000) (hcp:lS v) (r:Int × Nat) (hr:e9 dM l=r) (w:World) (hL:dP w) (hM:lQ w) (hv:dZ off w w.heap.size v l) :
  Calls Tryz.prog 21 #[v] w fun e w'=>e=.returned (.tuple #[.int .i64 r.1,.int .i64 ((r.2:Nat):Int)])∧Below w.heap.size w w':=by
 have HRV:=hid hv
 have HF:=hid hf
 have HR:=hid hr
 have hLN:=hL.1
 have HL:=hid hL
 have HM:=hid hM
 obtain⟨A,c,rfl,-⟩:=hv
 have hcc:=(hcp _ _ _ rfl).1
 have hcm:=(hcp _ _ _ rfl).2
 clear hf hr hL hM hcp
 obtain⟨nl,hnl⟩:∃ nl,l.length=nl:=⟨_,rfl⟩
 rw[hnl]at HRV hl hcc ⊢
 have HNL:=hid hnl
 clear hnl
 unfold maxLen at hcm
 go_enter Tryz.func21,Tryz.ntmps21
 go_wp2
 go_loopw [8] (fun i wr=>∃ k:Nat,k≤nl∧i=.int .i64 (k:Int)∧oZ dM l k∧Below w.heap.size w wr) (fun i _=>nl - (intOf i).toNat)
 case atStart=>exact⟨0,by omega,rfl,QL _ _,Below.refl _ _⟩
 case round =>
  obtain⟨k,hk,rfl,hN,hB⟩:=hrel
  have HG:=hid hN
  have HBW:=hid hB
  clear hN hB
  by_cases hlt:k<nl
  ·have t1:decide ((k:Int)<(nl:Int))=true:=decide_eq_true (by omega)
   have k0:(0:Int)≤(k:Int):=by omega
   have k1:(k:Int)<(nl:Int):=by omega
   have hkc:k≤c:=by omega
   obtain⟨x,hx⟩:∃ x,l[k]?=some x:=⟨_,List.getElem?_eq_getElem (by rw[HNL.out];exact hlt)⟩
   obtain⟨hfx,hfl,hfc⟩:=HF.out x (List.mem_of_getElem? hx)
   obtain⟨A',c',e,hA⟩:=HRV.out
   injection e with e1 e2 e3
   subst e1;subst e3;clear e2
   obtain⟨g,rfl,hgw,hg⟩:=hA (by rw[HNL.out];omega)
   obtain⟨g0,g1,g2,g3,g4⟩:=wD hg k x hx
   have g0:=(HBW.out.cell (p:=⟨g,off+k * 5,none⟩) hgw).trans g0
   have g1:=(HBW.out.cell (p:=⟨g,off+k * 5+1,none⟩) hgw).trans g1
   have g2:=(HBW.out.cell (p:=⟨g,off+k * 5+2,none⟩) hgw).trans g2
   have g3:=(HBW.out.cell (p:=⟨g,off+k * 5+3,none⟩) hgw).trans g3
   have g4:=(HBW.out.cell (p:=⟨g,off+k * 5+4,none⟩) hgw).trans g4
   obtain⟨ba,hba⟩:∃ ba,eF dM x=ba:=⟨_,rfl⟩
   obtain⟨bc,hbc⟩:∃ bc,(l.take k).any (bQ x)=bc:=⟨_,rfl⟩
   have HAL:=hid (fun(W:World) hW=>Q0 x hfx hfl hfc ba hba W hW)
   have HCL:=hid (fun(W:World) (hW:Below w.heap.size w W)=>L5 x hfx hfc (l.take k) (some ⟨g,off,none⟩) off k c (by rw[List.length_take,HNL.out];omega) (by omega) (fun y hy=>⟨(HF.out y (List.mem_of_mem_take hy)).1,(HF.out y (List.mem_of_mem_take hy)).2.2⟩) bc hbc W (HM.out.below hW HM.out.1) (L9 ((HRV.out.below hW).mono hW.size) (by rw[HNL.out];omega)))
   have HBA:=hid hba
   have HBC:=hid hbc
   have HX:=hid hx
   obtain⟨xq,xl,xc,xp,xn⟩:=x
   obtain⟨xs,hxs⟩:∃ s,bytesOf xl=s:=⟨_,rfl⟩
   obtain⟨xt,hxt⟩:∃ s,bytesOf xc=s:=⟨_,rfl⟩
   simp only[dE]at HAL HCL
   simp only[]at g0 g1 g2 g3 g4
   rw[hxs,hxt]at HAL HCL
   rw[hxs]at g1
   rw[hxt]at g2
   clear hx hfx hfl hfc hg hA hba hbc hxs hxt
   go_upto_region 4 with fail
   have hSt:=a7.new wr xq xs xt xp xn 48
   have hbb:=HBW.out.alloc HBW.out.size (.cells #[.int .i64 xq,.string xs,.string xt,.int .i64 xp,.int .i64 xn] 48)
   generalize wr.alloc _=W1 at hSt hbb ⊢
   obtain⟨bx,hbx⟩:∃ n,wr.heap.size=n:=⟨_,rfl⟩
   rw[hbx]at hSt ⊢
   have hS:a7 W1 bx xq xs xt xp xn∧Below w.heap.size w W1:=⟨hSt,hbb⟩
   clear hSt hbb g0 g1 g2 g3 g4 hbx
   go_cut [22] (fun u22 wx=>u22=.bool (!ba || bc)∧a7 wx bx xq xs xt xp xn∧Below w.heap.size w wx)
   case first =>
    cases ba
    case false =>
     have hS:=(⟨hS.1.kept (Below.refl _ _).drew,chain hS.2 hS.2.size (Below.refl _ _).drew⟩:a7 W1.drew bx xq xs xt xp xn∧Below w.heap.size w W1.drew)
     refine wp_region_held_drew (S:=fun W=>a7 W bx xq xs xt xp xn∧Below w.heap.size w W) (by kernel_rfl) hS (fun hHeld=>?_)
     refine tk 0 (v:=?_) ?_ ?_
     rotate_left
     ·rintro W ⟨⟨x0,x1,x2,x3,x4,x5⟩,-⟩;go_simp;all_goals (with_reducible rfl)
     try simp only[zP,zA,zB,zC]
     refine Rg.take_one 1 (by simp only[List.getElem?_toArray,List.getElem?_cons_succ,List.getElem?_cons_zero];rfl) (by kernel_rfl) (fun K hK=>?_)
     go_simp
     go_at_call 43
     refine(HAL.out _ (HL.out.below hS.2 hLN)).mono ?_
     rintro en w1 ⟨rfl,hb1⟩
     have hS1:a7 w1 bx xq xs xt xp xn∧Below w.heap.size w w1:=⟨hS.1.kept hb1,chain hS.2 hS.2.size hb1⟩
     go_wp2_with fail
     refine hK.out _ _ hS1 (fun hHeld1=>?_)
     clear hK K
     try simp only[zP,zA,zB,zC]
     try simp only[zN]
     refine tk 2 (v:=?_) ?_ ?_
     rotate_left
     ·rintro W ⟨⟨x0,x1,x2,x3,x4,x5⟩,-⟩;go_simp;all_goals (with_reducible rfl)
     try simp only[zP,zA,zB,zC]
     refine tk 3 (v:=?_) ?_ ?_
     rotate_left
     ·rintro W ⟨⟨x0,x1,x2,x3,x4,x5⟩,-⟩;go_simp;all_goals (with_reducible rfl)
     try simp only[zP,zA,zB,zC]
     refine tu 4 ?_
     try simp only[zP,zA,zB,zC]
     refine tu 5 ?_
     try simp only[zP,zA,zB,zC]
     refine tu 6 ?_
     try simp only[zP,zA,zB,zC]
     refine tu 7 ?_
     try simp only[zP,zA,zB,zC]
     refine tu 8 ?_
     try simp only[zP,zA,zB,zC]
     refine tk 9 (v:=?_) ?_ ?_
     rotate_left
     ·rintro W ⟨⟨x0,x1,x2,x3,x4,x5⟩,-⟩;go_simp;all_goals (with_reducible rfl)
     try simp only[zP,zA,zB,zC]
     refine wpAnyH_done (by kernel_rfl) ?_ _
     have HZ:=hid hS1
     go_wp2
     go_meet
     exact⟨rfl,HZ.out⟩
    case true =>
     have hS:=(⟨hS.1.kept (Below.refl _ _).drew,chain hS.2 hS.2.size (Below.refl _ _).drew⟩:a7 W1.drew bx xq xs xt xp xn∧Below w.heap.size w W1.drew)
     refine wp_region_held_drew (S:=fun W=>a7 W bx xq xs xt xp xn∧Below w.heap.size w W) (by kernel_rfl) hS (fun hHeld=>?_)
     refine tk 0 (v:=?_) ?_ ?_
     rotate_left
     ·rintro W ⟨⟨x0,x1,x2,x3,x4,x5⟩,-⟩;go_simp;all_goals (with_reducible rfl)
     try simp only[zP,zA,zB,zC]
     refine Rg.take_one 1 (by simp only[List.getElem?_toArray,List.getElem?_cons_succ,List.getElem?_cons_zero];rfl) (by kernel_rfl) (fun K hK=>?_)
     go_simp
     go_at_call 43
     refine(HAL.out _ (HL.out.below hS.2 hLN)).mono ?_
     rintro en w1 ⟨rfl,hb1⟩
     have hS1:a7 w1 bx xq xs xt xp xn∧Below w.heap.size w w1:=⟨hS.1.kept hb1,chain hS.2 hS.2.size hb1⟩
     go_wp2_with fail
     refine hK.out _ _ hS1 (fun hHeld1=>?_)
     clear hK K
     try simp only[zP,zA,zB,zC]
     try simp only[zN]
     refine tk 2 (v:=?_) ?_ ?_
     rotate_left
     ·rintro W ⟨⟨x0,x1,x2,x3,x4,x5⟩,-⟩;go_simp;all_goals (with_reducible rfl)
     try simp only[zP,zA,zB,zC]
     refine tk 3 (v:=?_) ?_ ?_
     rotate_left
     ·rintro W ⟨⟨x0,x1,x2,x3,x4,x5⟩,-⟩;go_simp;all_goals (with_reducible rfl)
     try simp only[zP,zA,zB,zC]
     refine tk 4 (v:=?_) ?_ ?_
     rotate_left
     ·rintro W ⟨⟨x0,x1,x2,x3,x4,x5⟩,-⟩;go_simp;all_goals (with_reducible rfl)
     try simp only[zP,zA,zB,zC]
     refine tk 5 (v:=?_) ?_ ?_
     rotate_left
     ·rintro W ⟨⟨x0,x1,x2,x3,x4,x5⟩,-⟩;go_simp;all_goals (with_reducible rfl)
     try simp only[zP,zA,zB,zC]
     refine tk 6 (v:=?_) ?_ ?_
     rotate_left
     ·rintro W ⟨⟨x0,x1,x2,x3,x4,x5⟩,-⟩;go_simp;all_goals (with_reducible rfl)
     try simp only[zP,zA,zB,zC]
     refine tk 7 (v:=?_) ?_ ?_
     rotate_left
     ·rintro W ⟨⟨x0,x1,x2,x3,x4,x5⟩,-⟩;go_simp;all_goals (with_reducible rfl)
     try simp only[zP,zA,zB,zC]
     refine Rg.take_one 8 (by simp only[List.getElem?_toArray,List.getElem?_cons_succ,List.getElem?_cons_zero];rfl) (by kernel_rfl) (fun K hK=>?_)
     go_simp
     go_at_call 44
     refine(HCL.out _ hS1.2).mono ?_
     rintro en w8 ⟨rfl,hb8⟩
     have hS8:a7 w8 bx xq xs xt xp xn∧Below w.heap.size w w8:=⟨hS1.1.kept hb8,chain hS1.2 hS1.2.size hb8⟩
     go_wp2_with fail
     refine hK.out _ _ hS8 (fun hHeld8=>?_)
     clear hK K
     try simp only[zP,zA,zB,zC]
     try simp only[zN]
     refine tk 9 (v:=?_) ?_ ?_
     rotate_left
     ·rintro W ⟨⟨x0,x1,x2,x3,x4,x5⟩,-⟩;go_simp;all_goals (with_reducible rfl)
     try simp only[zP,zA,zB,zC]
     refine wpAnyH_done (by kernel_rfl) ?_ _
     have HZ:=hid hS8
     go_wp2
     go_meet
     exact⟨by cases bc<;>rfl,HZ.out⟩
   case rest =>
    obtain⟨rfl,hx,hw⟩:=hcut
    have HBX:=hid hw
    obtain⟨x0,x1,x2,x3,x4,x5⟩:=hx
    clear hw hS
    obtain⟨bb,hbb⟩:∃ bb,(!ba || bc)=bb:=⟨_,rfl⟩
    rw[hbb]
    have HBB:=hid hbb
    clear hbb
    cases bb
    case false =>
     have HNX:=hid (QM HX.out HG.out (by rw[HBA.out];have:=HBB.out;revert this;cases ba<;>simp) (fun y hy=>by
      have h1:bc=false:=by have:=HBB.out;revert this;cases ba<;>simp
      have h2:=HBC.out
      rw[h1,List.any_eq_false]at h2
      simpa using h2 y hy))
     go_wp2
     go_roundw
     case rel=>exact⟨k+1,by omega,by go_num,HNX.out,HBX.out⟩
     case measure=>simp[intOf];omega
    case true =>
     have HV:=hid (U2 HX.out HG.out (by
      rw[HBA.out]
      have h1:=HBB.out
      have h2:=HBC.out
      cases ba
      ·exact .inl rfl
      ·refine .inr ?_
       have h1:bc=true:=h1
       rw[h1,List.any_eq_true]at h2
       exact h2))
     have HRZ:=hid (show r=(xn,6) from by rw[← HR.out];unfold e9;rw[HV.out])
     go_wp2
     refine bodyPost_ret (v:=.tuple #[.int .i64 xn,.int .i64 6]) (by simp[results,Tryz.f21,go_sem]) rfl ?_
     rw[HRZ.out]
     exact⟨rfl,HBX.out⟩
  ·have HV:=hid (show l8 dM [] l=none from U3 (by rw[HNL.out,show nl=k by omega];exact HG.out))
   have t1:decide (k<nl)=false:=decide_eq_false hlt
   by_cases h4:400<nl
   ·have HRZ:=hid (show r=(0,4) from by rw[← HR.out];unfold e9;rw[HV.out,HNL.out];exact if_pos h4)
    have t4:decide (400<(nl:Int))=true:=decide_eq_true (by omega)
    go_wp2
    refine bodyPost_ret (v:=.tuple #[.int .i64 0,.int .i64 4]) (by simp[results,Tryz.f21,go_sem]) rfl ?_
    rw[HRZ.out]
    exact⟨rfl,HBW.out⟩
   ·have t4:decide (400<nl)=false:=decide_eq_false h4
    obtain⟨m,hm⟩:∃ m,lP l=m:=⟨_,rfl⟩
    have HMI:=hid (G6 (.slice A nl c) l off (by rw[HNL.out];omega) (fun x hx=>(HF.out x hx).1) m hm wr (HL.out.below HBW.out hLN) ((HRV.out.below HBW.out).mono HBW.out.size))
    have HRZ:=hid (show r=if m≠[] then (0,6) else (0,0) from by rw[← HR.out];unfold e9;rw[HV.out,HNL.out,← hm];exact if_neg h4)
    obtain⟨M,hMM⟩:∃ M,bytesOf m=M:=⟨_,rfl⟩
    rw[hMM]at HMI
    have HMM:=hid hMM
    clear hm hMM
    go_wp2_with fail
    refine HMI.out.mono ?_
    rintro e w2 ⟨rfl,hb2⟩
    have HE:=hid (chain HBW.out HBW.out.size hb2)
    clear hb2
    by_cases hm0:m=[]
    ·have HRY:=hid (show r=(0,0) from HRZ.out.trans (if_neg (fun h=>h hm0)))
     obtain rfl:M={ data:=#[] }:=by rw[← HMM.out,hm0];rfl
     clear hm0
     go_wp2
     refine bodyPost_ret (v:=.tuple #[.int .i64 0,.int .i64 0]) (by simp[results,Tryz.f21,go_sem]) rfl ?_
     rw[HRY.out]
     exact⟨rfl,HE.out⟩
    ·have HRY:=hid (show r=(0,6) from HRZ.out.trans (if_pos hm0))
     have hne:M.toList.isEmpty=false:=QN (fun e=>hm0 (by
      have h:=congrArg List.length (congrArg aA e)
      rw[← HMM.out,aD,aF]at h
      exact List.length_eq_zero_iff.1 h))
     clear hm0
     go_wp2
     refine bodyPost_ret (v:=.tuple #[.int .i64 0,.int .i64 6]) (by simp[results,Tryz.f21,go_sem]) rfl ?_
     rw[HRY.out]
     exact⟨rfl,HE.out⟩
end Go.Proofs.YthbigkoihpgcfaaGreatDoor.Ck
