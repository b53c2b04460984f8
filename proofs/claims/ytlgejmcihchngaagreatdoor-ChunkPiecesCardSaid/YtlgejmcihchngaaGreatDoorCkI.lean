/-
  Layer 9's document: whether a table is accepted.
-/
import Derived.Test.YtlgejmcihchngaaGreatDoorCkG
import Derived.Test.YtlgejmcihchngaaGreatDoorUn
import Derived.Test.YtlgejmcihchngaaGreatDoorUm
import Derived.Test.YtlgejmcihchngaaGreatDoorRuG
namespace Go.Proofs.YtlgejmcihchngaaGreatDoor.Ck
open Go.RowKit Ba Ru
set_option maxRecDepth 100000 in
set_option maxHeartbeats 8000000 in
theorem rtable_any (v:Value) (l:List Rl) (off:Nat) (hl:l.length≤100000) (hf:∀ x ∈ l,FitR x∧x.left.length≤9000∧x.cells.length≤9000) (r:Int × Nat) (hr:tableR prC l=r) (w:World) (hv:ReadsR off w w.heap.size v l) :
  Calls Tryz.prog 11 #[v] w fun e w'=>e=.returned (.tuple #[.int .i64 r.1,.int .i64 ((r.2:Nat):Int)])∧Below w.heap.size w w':=by
 have HRV:=Lib.hid hv
 have HF:=Lib.hid hf
 have HR:=Lib.hid hr
 obtain⟨A,c,rfl,-⟩:=hv
 clear hf hr
 obtain⟨nl,hnl⟩:∃ nl,l.length=nl:=⟨_,rfl⟩
 rw[hnl]at HRV hl ⊢
 have HNL:=Lib.hid hnl
 clear hnl
 go_enter Tryz.func11,Tryz.ntmps11
 go_wp2
 go_loopw [4] (fun i wr=>∃ k:Nat,k≤nl∧i=.int .i64 k∧goodTo prC l k∧Below w.heap.size w wr) (fun i _=>nl - (intOf i).toNat)
 case atStart=>exact⟨0,by omega,rfl,good_zero _ _,Below.refl _ _⟩
 case round =>
  obtain⟨k,hk,rfl,hN,hB⟩:=hrel
  have HG:=Lib.hid hN
  have HBW:=Lib.hid hB
  clear hN hB
  by_cases hlt:k<nl
  ·have t1:decide ((k:Int)<(nl:Int))=true:=decide_eq_true (by omega)
   have k0:(0:Int)≤(k:Int):=by omega
   have k1:(k:Int)<(nl:Int):=by omega
   obtain⟨x,hx⟩:∃ x,l[k]?=some x:=⟨_,List.getElem?_eq_getElem (by rw[HNL.out];exact hlt)⟩
   obtain⟨hfx,hfl,hfc⟩:=HF.out x (List.mem_of_getElem? hx)
   obtain⟨A',c',e,hA⟩:=HRV.out
   injection e with e1 e2 e3
   subst e1;subst e3;clear e2
   obtain⟨g,rfl,hgw,hg⟩:=hA (by rw[HNL.out];omega)
   obtain⟨g0,g1,g2,g3,g4⟩:=rcell hg k x hx
   have HGC:=Lib.hid hg
   obtain⟨ba,hba⟩:∃ ba,aloneB prC x=ba:=⟨_,rfl⟩
   have HAL:=Lib.hid (fun W=>ralone_any x hfx (by omega) (by omega) ba hba W)
   have HBA:=Lib.hid hba
   have HFX:=Lib.hid hfx
   have HFC:=Lib.hid hfc
   have HX:=Lib.hid hx
   have HX4:=Lib.hid g4
   have g0:=(HBW.out.cell (p:=⟨g,off+k * 5,none⟩) hgw).trans g0
   have g1:=(HBW.out.cell (p:=⟨g,off+k * 5+1,none⟩) hgw).trans g1
   have g2:=(HBW.out.cell (p:=⟨g,off+k * 5+2,none⟩) hgw).trans g2
   have g3:=(HBW.out.cell (p:=⟨g,off+k * 5+3,none⟩) hgw).trans g3
   have g4:=(HBW.out.cell (p:=⟨g,off+k * 5+4,none⟩) hgw).trans g4
   obtain⟨xq,xl,xc,xp,xn⟩:=x
   simp only[aggR]at HAL
   simp only[]at g0 g1 g2 g3 g4 HX4
   clear hx hfx hfl hfc hg hA hba
   cases ba
   case false =>
    go_wp2_with fail
    refine(HAL.out _).mono ?_
    rintro e w2 ⟨rfl,hb2⟩
    have HE:=Lib.hid (chain HBW.out HBW.out.size hb2)
    have HV:=Lib.hid (bad_here HX.out HG.out (.inl HBA.out))
    have HRZ:=Lib.hid (show r=(xn,6) from by rw[← HR.out];unfold tableR;rw[HV.out])
    have e4:=(HE.out.cell (p:=⟨g,off+k * 5+4,none⟩) (by omega)).trans HX4.out
    clear hb2 g0 g1 g2 g3 g4
    go_wp2
    refine bodyPost_ret (v:=.tuple #[.int .i64 xn,.int .i64 6]) (by simp[results,Tryz.f11,go_sem]) rfl ?_
    rw[HRZ.out]
    exact⟨rfl,HE.out⟩
   case true =>
    go_wp2_with fail
    refine(HAL.out _).mono ?_
    rintro e w2 ⟨rfl,hb2⟩
    have HBW2:=Lib.hid (chain HBW.out HBW.out.size hb2)
    clear hb2 g0 g1 g2 g3 g4 HBW
    go_wp2
    go_loopw [5] (fun i wr=>∃ j:Nat,j≤k∧i=.int .i64 j∧(∀ y ∈ l.take j,clashB ⟨xq,xl,xc,xp,xn⟩ y=false)∧Below w.heap.size w wr) (fun i _=>k - (intOf i).toNat)
    case atStart=>exact⟨0,by omega,rfl,fun y hy=>by simp at hy,HBW2.out⟩
    case round =>
     obtain⟨j,hj,rfl,hNJ,hB⟩:=hrel
     have HNJ0:=Lib.hid hNJ
     have HBW:=Lib.hid hB
     clear hNJ hB
     by_cases hjk:j<k
     ·have t2:decide ((j:Int)<(k:Int))=true:=decide_eq_true (by omega)
      have j0:(0:Int)≤(j:Int):=by omega
      have j1:(j:Int)<(nl:Int):=by omega
      obtain⟨y,hy⟩:∃ y,l[j]?=some y:=⟨_,List.getElem?_eq_getElem (by rw[HNL.out];omega)⟩
      obtain⟨hfy,-,hyc⟩:=HF.out y (List.mem_of_getElem? hy)
      obtain⟨x0,x1,x2,x3,x4⟩:=rcell HGC.out k _ HX.out
      obtain⟨y0,y1,y2,y3,y4⟩:=rcell HGC.out j y hy
      have hgr:g<wr.heap.size:=Nat.lt_of_lt_of_le hgw HBW.out.size
      obtain⟨bc,hbc⟩:∃ bc,clashB ⟨xq,xl,xc,xp,xn⟩ y=bc:=⟨_,rfl⟩
      have HCL:=Lib.hid (fun W=>rclash_any ⟨xq,xl,xc,xp,xn⟩ y HFX.out hfy (show xc.length≤70000 from Nat.le_trans HFC.out (by decide)) (by omega) bc hbc W)
      have HBC:=Lib.hid hbc
      have HYM:=Lib.hid (show y ∈ l.take k from List.mem_of_getElem? (i:=j) (by rw[List.getElem?_take,if_pos hjk];exact hy))
      have HNJ:=Lib.hid (show bc=false→∀ z ∈ l.take (j+1),clashB ⟨xq,xl,xc,xp,xn⟩ z=false from fun h z hz=>by
       rw[List.take_add_one,hy,Option.toList_some]at hz
       rcases List.mem_append.1 hz with hz | hz
       ·exact HNJ0.out z hz
       ·rw[List.mem_singleton.1 hz,hbc];exact h)
      obtain⟨yq,yl,yc,yp,yn⟩:=y
      simp only[aggR]at HCL
      simp only[]at x0 x1 x2 x3 x4 y0 y1 y2 y3 y4
      obtain⟨xs,hxs⟩:∃ s,bytesOf xl=s:=⟨_,rfl⟩
      obtain⟨xt,hxt⟩:∃ s,bytesOf xc=s:=⟨_,rfl⟩
      obtain⟨ys,hys⟩:∃ s,bytesOf yl=s:=⟨_,rfl⟩
      obtain⟨yt,hyt⟩:∃ s,bytesOf yc=s:=⟨_,rfl⟩
      rw[hxs,hxt,hys,hyt]at HCL
      rw[hxs]at x1;rw[hxt]at x2;rw[hys]at y1;rw[hyt]at y2
      have HKC:=Lib.hid (show ∀ W:World,Below wr.heap.size wr W→(W.cell? ⟨g,off+k * 5,none⟩=some (.int .i64 xq)∧W.cell? ⟨g,off+k * 5+1,none⟩=some (.string xs)∧W.cell? ⟨g,off+k * 5+2,none⟩=some (.string xt)∧W.cell? ⟨g,off+k * 5+3,none⟩=some (.int .i64 xp)∧W.cell? ⟨g,off+k * 5+4,none⟩=some (.int .i64 xn))∧(W.cell? ⟨g,off+j * 5,none⟩=some (.int .i64 yq)∧W.cell? ⟨g,off+j * 5+1,none⟩=some (.string ys)∧W.cell? ⟨g,off+j * 5+2,none⟩=some (.string yt)∧W.cell? ⟨g,off+j * 5+3,none⟩=some (.int .i64 yp)∧W.cell? ⟨g,off+j * 5+4,none⟩=some (.int .i64 yn))∧Below wr.heap.size wr W from fun W hW=>by
       have hb:=chain HBW.out HBW.out.size hW
       exact⟨⟨(hb.cell (p:=⟨g,off+k * 5,none⟩) hgw).trans x0,(hb.cell (p:=⟨g,off+k * 5+1,none⟩) hgw).trans x1,(hb.cell (p:=⟨g,off+k * 5+2,none⟩) hgw).trans x2,(hb.cell (p:=⟨g,off+k * 5+3,none⟩) hgw).trans x3,(hb.cell (p:=⟨g,off+k * 5+4,none⟩) hgw).trans x4⟩,
        ⟨(hb.cell (p:=⟨g,off+j * 5,none⟩) hgw).trans y0,(hb.cell (p:=⟨g,off+j * 5+1,none⟩) hgw).trans y1,(hb.cell (p:=⟨g,off+j * 5+2,none⟩) hgw).trans y2,(hb.cell (p:=⟨g,off+j * 5+3,none⟩) hgw).trans y3,(hb.cell (p:=⟨g,off+j * 5+4,none⟩) hgw).trans y4⟩,hW⟩)
      have HCC:=Lib.hid (show ∀ W W':World,((W.cell? ⟨g,off+k * 5,none⟩=some (.int .i64 xq)∧W.cell? ⟨g,off+k * 5+1,none⟩=some (.string xs)∧W.cell? ⟨g,off+k * 5+2,none⟩=some (.string xt)∧W.cell? ⟨g,off+k * 5+3,none⟩=some (.int .i64 xp)∧W.cell? ⟨g,off+k * 5+4,none⟩=some (.int .i64 xn))∧(W.cell? ⟨g,off+j * 5,none⟩=some (.int .i64 yq)∧W.cell? ⟨g,off+j * 5+1,none⟩=some (.string ys)∧W.cell? ⟨g,off+j * 5+2,none⟩=some (.string yt)∧W.cell? ⟨g,off+j * 5+3,none⟩=some (.int .i64 yp)∧W.cell? ⟨g,off+j * 5+4,none⟩=some (.int .i64 yn))∧Below wr.heap.size wr W)→Below W.heap.size W W'→(W'.cell? ⟨g,off+k * 5,none⟩=some (.int .i64 xq)∧W'.cell? ⟨g,off+k * 5+1,none⟩=some (.string xs)∧W'.cell? ⟨g,off+k * 5+2,none⟩=some (.string xt)∧W'.cell? ⟨g,off+k * 5+3,none⟩=some (.int .i64 xp)∧W'.cell? ⟨g,off+k * 5+4,none⟩=some (.int .i64 xn))∧(W'.cell? ⟨g,off+j * 5,none⟩=some (.int .i64 yq)∧W'.cell? ⟨g,off+j * 5+1,none⟩=some (.string ys)∧W'.cell? ⟨g,off+j * 5+2,none⟩=some (.string yt)∧W'.cell? ⟨g,off+j * 5+3,none⟩=some (.int .i64 yp)∧W'.cell? ⟨g,off+j * 5+4,none⟩=some (.int .i64 yn))∧Below wr.heap.size wr W' from fun W W' h hb=>HKC.out W' (chain h.2.2 h.2.2.size hb))
      clear hy hfy hyc hbc x0 x1 x2 x3 x4 y0 y1 y2 y3 y4 hxs hxt hys hyt
      go_upto_region 9 with fail
      have hS:=HKC.out _ (Below.refl _ _).drew
      refine wp_region_held_drew (S:=fun W=>(W.cell? ⟨g,off+k * 5,none⟩=some (.int .i64 xq)∧W.cell? ⟨g,off+k * 5+1,none⟩=some (.string xs)∧W.cell? ⟨g,off+k * 5+2,none⟩=some (.string xt)∧W.cell? ⟨g,off+k * 5+3,none⟩=some (.int .i64 xp)∧W.cell? ⟨g,off+k * 5+4,none⟩=some (.int .i64 xn))∧(W.cell? ⟨g,off+j * 5,none⟩=some (.int .i64 yq)∧W.cell? ⟨g,off+j * 5+1,none⟩=some (.string ys)∧W.cell? ⟨g,off+j * 5+2,none⟩=some (.string yt)∧W.cell? ⟨g,off+j * 5+3,none⟩=some (.int .i64 yp)∧W.cell? ⟨g,off+j * 5+4,none⟩=some (.int .i64 yn))∧Below wr.heap.size wr W) (by kernel_rfl) hS (fun hHeld=>?_)
      refine wpAnyH_take (i:=0) (v:=?_) (by simp only[List.getElem?_toArray,List.getElem?_cons_zero];rfl) (by kernel_rfl) (by kernel_rfl) (by kernel_rfl) (by exact fun _ _ _ h=>h) (Or.inl ⟨by rfl,?_⟩) (by with_reducible exact hS) ?_
      rotate_left
      ·intro W hSw;(obtain⟨⟨x0,x1,x2,x3,x4⟩,⟨y0,y1,y2,y3,y4⟩,-⟩:=hSw);go_simp;all_goals (with_reducible rfl)
      try simp only[Act.put,List.setIfInBounds_toArray,List.set_cons_zero,List.set_cons_succ]
      refine wpAnyH_take (i:=1) (v:=?_) (by simp only[List.getElem?_toArray,List.getElem?_cons_succ,List.getElem?_cons_zero];rfl) (by kernel_rfl) (by kernel_rfl) (by kernel_rfl) (by exact fun _ _ _ h=>h) (Or.inl ⟨by rfl,?_⟩) (by with_reducible exact hS) ?_
      rotate_left
      ·intro W hSw;(obtain⟨⟨x0,x1,x2,x3,x4⟩,⟨y0,y1,y2,y3,y4⟩,-⟩:=hSw);go_simp;all_goals (with_reducible rfl)
      try simp only[Act.put,List.setIfInBounds_toArray,List.set_cons_zero,List.set_cons_succ]
      refine wpAnyH_take (i:=2) (v:=?_) (by simp only[List.getElem?_toArray,List.getElem?_cons_succ,List.getElem?_cons_zero];rfl) (by kernel_rfl) (by kernel_rfl) (by kernel_rfl) (by exact fun _ _ _ h=>h) (Or.inl ⟨by rfl,?_⟩) (by with_reducible exact hS) ?_
      rotate_left
      ·intro W hSw;(obtain⟨⟨x0,x1,x2,x3,x4⟩,⟨y0,y1,y2,y3,y4⟩,-⟩:=hSw);go_simp;all_goals (with_reducible rfl)
      try simp only[Act.put,List.setIfInBounds_toArray,List.set_cons_zero,List.set_cons_succ]
      refine wpAnyH_take (i:=3) (v:=?_) (by simp only[List.getElem?_toArray,List.getElem?_cons_succ,List.getElem?_cons_zero];rfl) (by kernel_rfl) (by kernel_rfl) (by kernel_rfl) (by exact fun _ _ _ h=>h) (Or.inl ⟨by rfl,?_⟩) (by with_reducible exact hS) ?_
      rotate_left
      ·intro W hSw;(obtain⟨⟨x0,x1,x2,x3,x4⟩,⟨y0,y1,y2,y3,y4⟩,-⟩:=hSw);go_simp;all_goals (with_reducible rfl)
      try simp only[Act.put,List.setIfInBounds_toArray,List.set_cons_zero,List.set_cons_succ]
      refine wpAnyH_take (i:=4) (v:=?_) (by simp only[List.getElem?_toArray,List.getElem?_cons_succ,List.getElem?_cons_zero];rfl) (by kernel_rfl) (by kernel_rfl) (by kernel_rfl) (by exact fun _ _ _ h=>h) (Or.inl ⟨by rfl,?_⟩) (by with_reducible exact hS) ?_
      rotate_left
      ·intro W hSw;(obtain⟨⟨x0,x1,x2,x3,x4⟩,⟨y0,y1,y2,y3,y4⟩,-⟩:=hSw);go_simp;all_goals (with_reducible rfl)
      try simp only[Act.put,List.setIfInBounds_toArray,List.set_cons_zero,List.set_cons_succ]
      refine wpAnyH_take (i:=5) (v:=?_) (by simp only[List.getElem?_toArray,List.getElem?_cons_succ,List.getElem?_cons_zero];rfl) (by kernel_rfl) (by kernel_rfl) (by kernel_rfl) (by exact fun _ _ _ h=>h) (Or.inl ⟨by rfl,?_⟩) (by with_reducible exact hS) ?_
      rotate_left
      ·intro W hSw;(obtain⟨⟨x0,x1,x2,x3,x4⟩,⟨y0,y1,y2,y3,y4⟩,-⟩:=hSw);go_simp;all_goals (with_reducible rfl)
      try simp only[Act.put,List.setIfInBounds_toArray,List.set_cons_zero,List.set_cons_succ]
      refine wpAnyH_take (i:=6) (v:=?_) (by simp only[List.getElem?_toArray,List.getElem?_cons_succ,List.getElem?_cons_zero];rfl) (by kernel_rfl) (by kernel_rfl) (by kernel_rfl) (by exact fun _ _ _ h=>h) (Or.inl ⟨by rfl,?_⟩) (by with_reducible exact hS) ?_
      rotate_left
      ·intro W hSw;(obtain⟨⟨x0,x1,x2,x3,x4⟩,⟨y0,y1,y2,y3,y4⟩,-⟩:=hSw);go_simp;all_goals (with_reducible rfl)
      try simp only[Act.put,List.setIfInBounds_toArray,List.set_cons_zero,List.set_cons_succ]
      refine wpAnyH_take (i:=7) (v:=?_) (by simp only[List.getElem?_toArray,List.getElem?_cons_succ,List.getElem?_cons_zero];rfl) (by kernel_rfl) (by kernel_rfl) (by kernel_rfl) (by exact fun _ _ _ h=>h) (Or.inl ⟨by rfl,?_⟩) (by with_reducible exact hS) ?_
      rotate_left
      ·intro W hSw;(obtain⟨⟨x0,x1,x2,x3,x4⟩,⟨y0,y1,y2,y3,y4⟩,-⟩:=hSw);go_simp;all_goals (with_reducible rfl)
      try simp only[Act.put,List.setIfInBounds_toArray,List.set_cons_zero,List.set_cons_succ]
      refine Rg.take_one 8 (by simp only[List.getElem?_toArray,List.getElem?_cons_succ,List.getElem?_cons_zero];rfl) (by kernel_rfl) (fun K hK=>?_)
      go_simp
      go_at_call 33
      refine(HCL.out _).mono ?_
      rintro en w8 ⟨rfl,hb8⟩
      have hS8:=HCC.out _ _ hS hb8
      go_wp2_with fail
      refine hK.out _ _ hS8 (fun hHeld8=>?_)
      clear hK K
      try simp only[Act.put,List.setIfInBounds_toArray,List.set_cons_zero,List.set_cons_succ]
      refine wpAnyH_done (by kernel_rfl) ?_ _
      have HE:=Lib.hid (chain HBW.out HBW.out.size hS8.2.2)
      clear hS hS8 hb8
      cases bc
      ·have HNX:=Lib.hid (HNJ.out rfl)
       go_wp2
       go_roundw
       case rel=>exact⟨j+1,by omega,by go_num,HNX.out,HE.out⟩
       case measure=>simp[intOf];omega
      ·have HV:=Lib.hid (bad_here HX.out HG.out (.inr ⟨_,HYM.out,HBC.out⟩))
       have HRZ:=Lib.hid (show r=(xn,6) from by rw[← HR.out];unfold tableR;rw[HV.out])
       have e4:=(HE.out.cell (p:=⟨g,off+k * 5+4,none⟩) (by omega)).trans HX4.out
       go_wp2
       refine bodyPost_ret (v:=.tuple #[.int .i64 xn,.int .i64 6]) (by simp[results,Tryz.f11,go_sem]) rfl ?_
       rw[HRZ.out]
       exact⟨rfl,HE.out⟩
     ·have HNX:=Lib.hid (good_step HX.out HG.out HBA.out (fun y hy=>HNJ0.out y (by rw[show j=k by omega];exact hy)))
      have t2:decide ((j:Int)<(k:Int))=false:=decide_eq_false (by omega)
      go_wp2
      go_roundw
      case rel=>exact⟨k+1,by omega,by go_num,HNX.out,HBW.out⟩
      case measure=>simp[intOf];omega
  ·have HV:=Lib.hid (show badF prC [] l=none from good_end (by rw[HNL.out,show nl=k by omega];exact HG.out))
   have t1:decide (k<nl)=false:=decide_eq_false hlt
   by_cases h4:400<nl
   ·have HRZ:=Lib.hid (show r=(0,4) from by rw[← HR.out];unfold tableR;rw[HV.out,HNL.out];exact if_pos h4)
    have t4:decide (400<(nl:Int))=true:=decide_eq_true (by omega)
    clear h4
    go_wp2
    refine bodyPost_ret (v:=.tuple #[.int .i64 0,.int .i64 4]) (by simp[results,Tryz.f11,go_sem]) rfl ?_
    rw[HRZ.out]
    exact⟨rfl,HBW.out⟩
   ·have t4:decide (400<(nl:Int))=false:=decide_eq_false (by omega)
    obtain⟨m,hm⟩:∃ m,missR l=m:=⟨_,rfl⟩
    have HMI:=Lib.hid (rmissing_any (.slice A nl c) l off (by rw[HNL.out];omega) (fun x hx=>(HF.out x hx).1) m hm wr ((HRV.out.below HBW.out).mono HBW.out.size))
    have HRZ:=Lib.hid (show r=if m≠[] then (0,6) else (0,0) from by rw[← HR.out];unfold tableR;rw[HV.out,HNL.out,← hm];exact if_neg h4)
    obtain⟨M,hM⟩:∃ M,bytesOf m=M:=⟨_,rfl⟩
    rw[hM]at HMI
    have HMM:=Lib.hid hM
    clear hm h4 hM
    go_wp2_with fail
    refine HMI.out.mono ?_
    rintro e w2 ⟨rfl,hb2⟩
    have HE:=Lib.hid (chain HBW.out HBW.out.size hb2)
    clear hb2
    by_cases hm0:m=[]
    ·have HRY:=Lib.hid (show r=(0,0) from HRZ.out.trans (if_neg (fun h=>h hm0)))
     obtain rfl:M={ data:=#[] }:=by rw[← HMM.out,hm0];rfl
     clear hm0
     go_wp2
     refine bodyPost_ret (v:=.tuple #[.int .i64 0,.int .i64 0]) (by simp[results,Tryz.f11,go_sem]) rfl ?_
     rw[HRY.out]
     exact⟨rfl,HE.out⟩
    ·have HRY:=Lib.hid (show r=(0,6) from HRZ.out.trans (if_pos hm0))
     have hne:M.toList.isEmpty=false:=not_empty (fun e=>hm0 (by
      have h:=congrArg List.length (congrArg bytesN e)
      rw[← HMM.out,bytesN_len,bytesOf_size]at h
      exact List.length_eq_zero_iff.1 h))
     clear hm0
     go_wp2
     refine bodyPost_ret (v:=.tuple #[.int .i64 0,.int .i64 6]) (by simp[results,Tryz.f11,go_sem]) rfl ?_
     rw[HRY.out]
     exact⟨rfl,HE.out⟩
end Go.Proofs.YtlgejmcihchngaaGreatDoor.Ck
