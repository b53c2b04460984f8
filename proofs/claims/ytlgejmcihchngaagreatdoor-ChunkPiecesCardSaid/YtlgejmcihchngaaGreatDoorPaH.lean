/-
  Layer 11's document: Best, All.
-/
import Derived.Test.YtlgejmcihchngaaGreatDoorUe
import Derived.Test.YtlgejmcihchngaaGreatDoorSj
import Derived.Test.YtlgejmcihchngaaGreatDoorSd
namespace Go.Proofs.YtlgejmcihchngaaGreatDoor.Pa
open Go.RowKit Ba Ru Ck Ti
def slI (o:Option (Nat × Rl)):Int:=match o with
 | none=>-1
 | some (k,_)=>(k:Int)
theorem sofar_best {l:List Rl} {s:List Nat} {p most:Int} {o:Option (Nat × Rl)} (h:Sofar l s p most l.length o):bestN l s p most=o.map (·.1):=by
 match o,h with
 | none,h =>
  cases hb:bestN l s p most with
  | none=>rfl
  | some k =>
   obtain⟨x,g⟩:=best_some hb
   have:=h k x (List.getElem?_eq_some_iff.1 g.at').1 g.at'
   rw[g.elig]at this
   cases this
 | some (k,x),⟨h1,h2,h3,h4⟩=>exact best_is (x:=x) ⟨h2,h3,fun i y hi=>h4 i y (List.getElem?_eq_some_iff.1 hi).1 hi⟩
theorem step_some {s:List Nat} {p most:Int} {k j:Nat} {x z:Rl} (he:eligB x s p most=true):stepB s p most (some (k,z)) j x=if aheadB x z=true then some (j,x) else some (k,z):=by
 unfold stepB
 rw[if_pos he]
set_option maxRecDepth 100000 in
set_option maxHeartbeats 8000000 in
theorem rbest_any (A:Option Addr) (nl c:Nat) (l:List Rl) (off:Nat) (hnl:l.length=nl) (hlm:nl≤100000) (hf:∀ x ∈ l,FitR x) (h9:∀ x ∈ l,x.left.length≤9000) (S:ByteArray) (p most:Int) (hS:S.size≤2000) (hp:I64 p) (hmost:I64 most) (o:Option Nat) (ho:bestN l (bytesN S) p most=o) (w:World) (hv:ReadsR off w w.heap.size (.slice A nl c) l) :
  Calls Tryz.prog 88 #[.slice A nl c,.string S,.int .i64 p,.int .i64 most] w fun e w'=>e=.returned (.tuple #[.int .i64 (numV o),.bool (okV o)])∧Below w.heap.size w w':=by
 have HV:=Lib.hid hv
 have HNL:=Lib.hid hnl
 have HO:=Lib.hid ho
 have HEL:=Lib.hid (fun(x:Rl) (hx:x ∈ l) (W:World)=>relig_any x (hf x hx) (h9 x hx) S p most hS hp hmost W)
 clear hv hnl hf h9 ho hp hmost
 go_enter Tryz.func88,Tryz.ntmps88
 go_wp2
 go_loopw [10,11] (fun b i wr=>∃ (j:Nat) (o':Option (Nat × Rl)),b=.int .i64 (slI o')∧i=.int .i64 (j:Int)∧j≤nl∧Sofar l (bytesN S) p most j o'∧Below w.heap.size w wr) (fun _ i _=>nl - (intOf i).toNat)
 case atStart=>exact⟨0,none,rfl,rfl,Nat.zero_le _,fun j y hj=>absurd hj (Nat.not_lt_zero _),Below.refl _ _⟩
 case round =>
  obtain⟨j,o',rfl,rfl,hj,hso,hBr⟩:=hrel
  have HBR:=Lib.hid hBr
  have HSO:=Lib.hid hso
  clear hBr hso
  by_cases hlt:j<nl
  ·obtain⟨x,hx⟩:∃ x,l[j]?=some x:=⟨_,List.getElem?_eq_getElem (by rw[HNL.out];exact hlt)⟩
   obtain⟨g,rfl,hgw,hcx⟩:=cellsR_at HV.out hx
   have HNS:=Lib.hid (HSO.out.step hx)
   obtain⟨eb,heb⟩:∃ eb,eligB x (bytesN S) p most=eb:=⟨_,rfl⟩
   have HEB:=Lib.hid heb
   have HEX:=Lib.hid (heb▸HEL.out x (List.mem_of_getElem? hx) wr)
   have hxs:(bytesOf x.left).size=x.left.length:=bytesOf_size _
   have HXS:=Lib.hid hxs
   have HAX:=Lib.hid (show ∀ z:Rl,∀ zp:Int,z.prio=zp→(aheadB x z=true↔x.prio<zp∨x.prio=zp∧(bytesOf z.left).size<(bytesOf x.left).size) from fun z zp hz=>by
    subst hz
    unfold aheadB
    rw[bytesOf_size,bytesOf_size]
    exact decide_eq_true_iff)
   clear hxs
   obtain⟨y,hy⟩:∃ y,x=y:=⟨_,rfl⟩
   have HY:=Lib.hid hy
   obtain⟨xq,xl,xc,xp,xn⟩:=x
   obtain⟨X,hX⟩:∃ X,bytesOf xl=X:=⟨_,rfl⟩
   obtain⟨xt,hT⟩:∃ X,bytesOf xc=X:=⟨_,rfl⟩
   simp only[aggR]at HEX
   simp only[]at hcx HAX HXS
   rw[hX,hT]at HEX hcx
   rw[hX]at HXS
   simp only[hX]at HAX
   rw[hy]at HNS HEB HAX
   have HCX:=Lib.hid (show ∀ W:World,Below w.heap.size w W→CellsR W g (off+j * 5) xq X xt xp xn from fun W hW=>hcx.below hW hgw)
   clear hx hcx heb hX hT hy
   obtain⟨x0,x1,x2,x3,x4⟩:=HCX.out wr HBR.out
   have j0:(0:Int)≤(j:Int):=by omega
   have j1:(j:Int)<(nl:Int):=by omega
   have t3:decide ((j:Int)<(nl:Int))=true:=decide_eq_true j1
   cases eb
   case false =>
    have HN:=Lib.hid (show Sofar l (bytesN S) p most (j+1) o' from by
     have h:=HNS.out
     unfold stepB at h
     rw[HEB.out,if_neg Bool.false_ne_true]at h
     exact h)
    go_wp2_with fail
    refine HEX.out.mono ?_
    rintro e w2 ⟨rfl,hb2⟩
    have HE:=Lib.hid (chain HBR.out HBR.out.size hb2)
    clear hb2
    go_wp2
    go_roundw
    case rel=>exact⟨j+1,o',rfl,by go_num,by omega,HN.out,HE.out⟩
    case measure=>simp[intOf];omega
   case true =>
    go_wp2_with fail
    refine HEX.out.mono ?_
    rintro e w2 ⟨rfl,hb2⟩
    have HB2:=Lib.hid (chain HBR.out HBR.out.size hb2)
    clear hb2 x0 x1 x2 x3 x4
    have HCC:=Lib.hid (show ∀ W:World,Below w.heap.size w W→CellsR W g (off+j * 5) xq X xt xp xn∧Below w.heap.size w W from fun W hW=>⟨HCX.out W hW,hW⟩)
    match o',HSO,HNS with
    | none,HSO,HNS =>
     have HN:=Lib.hid (show Sofar l (bytesN S) p most (j+1) (some (j,y)) from by
      have h:=HNS.out
      unfold stepB at h
      rw[if_pos HEB.out]at h
      exact h)
     simp only[slI]
     go_wp2_with fail
     have hS:=(HCC.out _ HB2.out.drew)
     refine wp_region_held_drew (S:=fun W=>CellsR W g (off+j * 5) xq X xt xp xn∧Below w.heap.size w W) (by kernel_rfl) hS (fun hHeld=>?_)
     refine wpAnyH_take (i:=0) (v:=?_) (by simp only[List.getElem?_toArray,List.getElem?_cons_zero];rfl) (by kernel_rfl) (by kernel_rfl) (by kernel_rfl) (by exact fun _ _ _ h=>h) (Or.inl ⟨by rfl,?_⟩) (by with_reducible exact hS) ?_
     rotate_left
     ·intro W hSw;(obtain⟨⟨x0,x1,x2,x3,x4⟩,-⟩:=hSw);go_simp;all_goals (with_reducible rfl)
     try simp only[Act.put,List.setIfInBounds_toArray,List.set_cons_zero,List.set_cons_succ]
     refine wpAnyH_take (i:=1) (v:=?_) (by simp only[List.getElem?_toArray,List.getElem?_cons_succ,List.getElem?_cons_zero];rfl) (by kernel_rfl) (by kernel_rfl) (by kernel_rfl) (by exact fun _ _ _ h=>h) (Or.inl ⟨by rfl,?_⟩) (by with_reducible exact hS) ?_
     rotate_left
     ·intro W hSw;(obtain⟨⟨x0,x1,x2,x3,x4⟩,-⟩:=hSw);go_simp;all_goals (with_reducible rfl)
     try simp only[Act.put,List.setIfInBounds_toArray,List.set_cons_zero,List.set_cons_succ]
     refine wpAnyH_take (i:=2) (v:=?_) (by simp only[List.getElem?_toArray,List.getElem?_cons_succ,List.getElem?_cons_zero];rfl) (by kernel_rfl) (by kernel_rfl) (by kernel_rfl) (by exact fun _ _ _ h=>h) (Or.inl ⟨by rfl,?_⟩) (by with_reducible exact hS) ?_
     rotate_left
     ·intro W hSw;(obtain⟨⟨x0,x1,x2,x3,x4⟩,-⟩:=hSw);go_simp;all_goals (with_reducible rfl)
     try simp only[Act.put,List.setIfInBounds_toArray,List.set_cons_zero,List.set_cons_succ]
     refine Rg.take_un 3 (by simp only[List.getElem?_toArray,List.getElem?_cons_succ,List.getElem?_cons_zero];rfl) (by kernel_rfl) (by kernel_rfl) (by kernel_rfl) (by exact fun _ _ _ h=>h) (by rfl) (by with_reducible exact hS) ?_
     try simp only[Act.put,List.setIfInBounds_toArray,List.set_cons_zero,List.set_cons_succ]
     refine Rg.take_un 4 (by simp only[List.getElem?_toArray,List.getElem?_cons_succ,List.getElem?_cons_zero];rfl) (by kernel_rfl) (by kernel_rfl) (by kernel_rfl) (by exact fun _ _ _ h=>h) (by rfl) (by with_reducible exact hS) ?_
     try simp only[Act.put,List.setIfInBounds_toArray,List.set_cons_zero,List.set_cons_succ]
     refine Rg.take_un 5 (by simp only[List.getElem?_toArray,List.getElem?_cons_succ,List.getElem?_cons_zero];rfl) (by kernel_rfl) (by kernel_rfl) (by kernel_rfl) (by exact fun _ _ _ h=>h) (by rfl) (by with_reducible exact hS) ?_
     try simp only[Act.put,List.setIfInBounds_toArray,List.set_cons_zero,List.set_cons_succ]
     refine Rg.take_un 6 (by simp only[List.getElem?_toArray,List.getElem?_cons_succ,List.getElem?_cons_zero];rfl) (by kernel_rfl) (by kernel_rfl) (by kernel_rfl) (by exact fun _ _ _ h=>h) (by rfl) (by with_reducible exact hS) ?_
     try simp only[Act.put,List.setIfInBounds_toArray,List.set_cons_zero,List.set_cons_succ]
     refine Rg.take_un 7 (by simp only[List.getElem?_toArray,List.getElem?_cons_succ,List.getElem?_cons_zero];rfl) (by kernel_rfl) (by kernel_rfl) (by kernel_rfl) (by exact fun _ _ _ h=>h) (by rfl) (by with_reducible exact hS) ?_
     try simp only[Act.put,List.setIfInBounds_toArray,List.set_cons_zero,List.set_cons_succ]
     refine Rg.take_un 8 (by simp only[List.getElem?_toArray,List.getElem?_cons_succ,List.getElem?_cons_zero];rfl) (by kernel_rfl) (by kernel_rfl) (by kernel_rfl) (by exact fun _ _ _ h=>h) (by rfl) (by with_reducible exact hS) ?_
     try simp only[Act.put,List.setIfInBounds_toArray,List.set_cons_zero,List.set_cons_succ]
     refine Rg.take_un 9 (by simp only[List.getElem?_toArray,List.getElem?_cons_succ,List.getElem?_cons_zero];rfl) (by kernel_rfl) (by kernel_rfl) (by kernel_rfl) (by exact fun _ _ _ h=>h) (by rfl) (by with_reducible exact hS) ?_
     try simp only[Act.put,List.setIfInBounds_toArray,List.set_cons_zero,List.set_cons_succ]
     refine Rg.take_un 10 (by simp only[List.getElem?_toArray,List.getElem?_cons_succ,List.getElem?_cons_zero];rfl) (by kernel_rfl) (by kernel_rfl) (by kernel_rfl) (by exact fun _ _ _ h=>h) (by rfl) (by with_reducible exact hS) ?_
     try simp only[Act.put,List.setIfInBounds_toArray,List.set_cons_zero,List.set_cons_succ]
     refine Rg.take_un 11 (by simp only[List.getElem?_toArray,List.getElem?_cons_succ,List.getElem?_cons_zero];rfl) (by kernel_rfl) (by kernel_rfl) (by kernel_rfl) (by exact fun _ _ _ h=>h) (by rfl) (by with_reducible exact hS) ?_
     try simp only[Act.put,List.setIfInBounds_toArray,List.set_cons_zero,List.set_cons_succ]
     refine Rg.take_un 12 (by simp only[List.getElem?_toArray,List.getElem?_cons_succ,List.getElem?_cons_zero];rfl) (by kernel_rfl) (by kernel_rfl) (by kernel_rfl) (by exact fun _ _ _ h=>h) (by rfl) (by with_reducible exact hS) ?_
     try simp only[Act.put,List.setIfInBounds_toArray,List.set_cons_zero,List.set_cons_succ]
     refine Rg.take_un 13 (by simp only[List.getElem?_toArray,List.getElem?_cons_succ,List.getElem?_cons_zero];rfl) (by kernel_rfl) (by kernel_rfl) (by kernel_rfl) (by exact fun _ _ _ h=>h) (by rfl) (by with_reducible exact hS) ?_
     try simp only[Act.put,List.setIfInBounds_toArray,List.set_cons_zero,List.set_cons_succ]
     refine wpAnyH_take (i:=14) (v:=?_) (by simp only[List.getElem?_toArray,List.getElem?_cons_succ,List.getElem?_cons_zero];rfl) (by kernel_rfl) (by kernel_rfl) (by kernel_rfl) (by exact fun _ _ _ h=>h) (Or.inl ⟨by rfl,?_⟩) (by with_reducible exact hS) ?_
     rotate_left
     ·intro W hSw;(obtain⟨⟨x0,x1,x2,x3,x4⟩,-⟩:=hSw);go_simp;all_goals (with_reducible rfl)
     try simp only[Act.put,List.setIfInBounds_toArray,List.set_cons_zero,List.set_cons_succ]
     refine wpAnyH_take (i:=15) (v:=?_) (by simp only[List.getElem?_toArray,List.getElem?_cons_succ,List.getElem?_cons_zero];rfl) (by kernel_rfl) (by kernel_rfl) (by kernel_rfl) (by exact fun _ _ _ h=>h) (Or.inl ⟨by rfl,?_⟩) (by with_reducible exact hS) ?_
     rotate_left
     ·intro W hSw;(obtain⟨⟨x0,x1,x2,x3,x4⟩,-⟩:=hSw);go_simp;all_goals (with_reducible rfl)
     try simp only[Act.put,List.setIfInBounds_toArray,List.set_cons_zero,List.set_cons_succ]
     refine Rg.take_un 16 (by simp only[List.getElem?_toArray,List.getElem?_cons_succ,List.getElem?_cons_zero];rfl) (by kernel_rfl) (by kernel_rfl) (by kernel_rfl) (by exact fun _ _ _ h=>h) (by rfl) (by with_reducible exact hS) ?_
     try simp only[Act.put,List.setIfInBounds_toArray,List.set_cons_zero,List.set_cons_succ]
     refine Rg.take_un 17 (by simp only[List.getElem?_toArray,List.getElem?_cons_succ,List.getElem?_cons_zero];rfl) (by kernel_rfl) (by kernel_rfl) (by kernel_rfl) (by exact fun _ _ _ h=>h) (by rfl) (by with_reducible exact hS) ?_
     try simp only[Act.put,List.setIfInBounds_toArray,List.set_cons_zero,List.set_cons_succ]
     refine Rg.take_un 18 (by simp only[List.getElem?_toArray,List.getElem?_cons_succ,List.getElem?_cons_zero];rfl) (by kernel_rfl) (by kernel_rfl) (by kernel_rfl) (by exact fun _ _ _ h=>h) (by rfl) (by with_reducible exact hS) ?_
     try simp only[Act.put,List.setIfInBounds_toArray,List.set_cons_zero,List.set_cons_succ]
     refine Rg.take_un 19 (by simp only[List.getElem?_toArray,List.getElem?_cons_succ,List.getElem?_cons_zero];rfl) (by kernel_rfl) (by kernel_rfl) (by kernel_rfl) (by exact fun _ _ _ h=>h) (by rfl) (by with_reducible exact hS) ?_
     try simp only[Act.put,List.setIfInBounds_toArray,List.set_cons_zero,List.set_cons_succ]
     refine Rg.take_un 20 (by simp only[List.getElem?_toArray,List.getElem?_cons_succ,List.getElem?_cons_zero];rfl) (by kernel_rfl) (by kernel_rfl) (by kernel_rfl) (by exact fun _ _ _ h=>h) (by rfl) (by with_reducible exact hS) ?_
     try simp only[Act.put,List.setIfInBounds_toArray,List.set_cons_zero,List.set_cons_succ]
     refine Rg.take_un 21 (by simp only[List.getElem?_toArray,List.getElem?_cons_succ,List.getElem?_cons_zero];rfl) (by kernel_rfl) (by kernel_rfl) (by kernel_rfl) (by exact fun _ _ _ h=>h) (by rfl) (by with_reducible exact hS) ?_
     try simp only[Act.put,List.setIfInBounds_toArray,List.set_cons_zero,List.set_cons_succ]
     refine Rg.take_un 22 (by simp only[List.getElem?_toArray,List.getElem?_cons_succ,List.getElem?_cons_zero];rfl) (by kernel_rfl) (by kernel_rfl) (by kernel_rfl) (by exact fun _ _ _ h=>h) (by rfl) (by with_reducible exact hS) ?_
     try simp only[Act.put,List.setIfInBounds_toArray,List.set_cons_zero,List.set_cons_succ]
     refine Rg.take_un 23 (by simp only[List.getElem?_toArray,List.getElem?_cons_succ,List.getElem?_cons_zero];rfl) (by kernel_rfl) (by kernel_rfl) (by kernel_rfl) (by exact fun _ _ _ h=>h) (by rfl) (by with_reducible exact hS) ?_
     try simp only[Act.put,List.setIfInBounds_toArray,List.set_cons_zero,List.set_cons_succ]
     refine Rg.take_un 24 (by simp only[List.getElem?_toArray,List.getElem?_cons_succ,List.getElem?_cons_zero];rfl) (by kernel_rfl) (by kernel_rfl) (by kernel_rfl) (by exact fun _ _ _ h=>h) (by rfl) (by with_reducible exact hS) ?_
     try simp only[Act.put,List.setIfInBounds_toArray,List.set_cons_zero,List.set_cons_succ]
     refine Rg.take_un 25 (by simp only[List.getElem?_toArray,List.getElem?_cons_succ,List.getElem?_cons_zero];rfl) (by kernel_rfl) (by kernel_rfl) (by kernel_rfl) (by exact fun _ _ _ h=>h) (by rfl) (by with_reducible exact hS) ?_
     try simp only[Act.put,List.setIfInBounds_toArray,List.set_cons_zero,List.set_cons_succ]
     refine Rg.take_un 26 (by simp only[List.getElem?_toArray,List.getElem?_cons_succ,List.getElem?_cons_zero];rfl) (by kernel_rfl) (by kernel_rfl) (by kernel_rfl) (by exact fun _ _ _ h=>h) (by rfl) (by with_reducible exact hS) ?_
     try simp only[Act.put,List.setIfInBounds_toArray,List.set_cons_zero,List.set_cons_succ]
     refine Rg.take_un 27 (by simp only[List.getElem?_toArray,List.getElem?_cons_succ,List.getElem?_cons_zero];rfl) (by kernel_rfl) (by kernel_rfl) (by kernel_rfl) (by exact fun _ _ _ h=>h) (by rfl) (by with_reducible exact hS) ?_
     try simp only[Act.put,List.setIfInBounds_toArray,List.set_cons_zero,List.set_cons_succ]
     refine Rg.take_un 28 (by simp only[List.getElem?_toArray,List.getElem?_cons_succ,List.getElem?_cons_zero];rfl) (by kernel_rfl) (by kernel_rfl) (by kernel_rfl) (by exact fun _ _ _ h=>h) (by rfl) (by with_reducible exact hS) ?_
     try simp only[Act.put,List.setIfInBounds_toArray,List.set_cons_zero,List.set_cons_succ]
     refine Rg.take_un 29 (by simp only[List.getElem?_toArray,List.getElem?_cons_succ,List.getElem?_cons_zero];rfl) (by kernel_rfl) (by kernel_rfl) (by kernel_rfl) (by exact fun _ _ _ h=>h) (by rfl) (by with_reducible exact hS) ?_
     try simp only[Act.put,List.setIfInBounds_toArray,List.set_cons_zero,List.set_cons_succ]
     refine Rg.take_un 30 (by simp only[List.getElem?_toArray,List.getElem?_cons_succ,List.getElem?_cons_zero];rfl) (by kernel_rfl) (by kernel_rfl) (by kernel_rfl) (by exact fun _ _ _ h=>h) (by rfl) (by with_reducible exact hS) ?_
     try simp only[Act.put,List.setIfInBounds_toArray,List.set_cons_zero,List.set_cons_succ]
     refine Rg.take_un 31 (by simp only[List.getElem?_toArray,List.getElem?_cons_succ,List.getElem?_cons_zero];rfl) (by kernel_rfl) (by kernel_rfl) (by kernel_rfl) (by exact fun _ _ _ h=>h) (by rfl) (by with_reducible exact hS) ?_
     try simp only[Act.put,List.setIfInBounds_toArray,List.set_cons_zero,List.set_cons_succ]
     refine Rg.take_un 32 (by simp only[List.getElem?_toArray,List.getElem?_cons_succ,List.getElem?_cons_zero];rfl) (by kernel_rfl) (by kernel_rfl) (by kernel_rfl) (by exact fun _ _ _ h=>h) (by rfl) (by with_reducible exact hS) ?_
     try simp only[Act.put,List.setIfInBounds_toArray,List.set_cons_zero,List.set_cons_succ]
     refine Rg.take_un 33 (by simp only[List.getElem?_toArray,List.getElem?_cons_succ,List.getElem?_cons_zero];rfl) (by kernel_rfl) (by kernel_rfl) (by kernel_rfl) (by exact fun _ _ _ h=>h) (by rfl) (by with_reducible exact hS) ?_
     try simp only[Act.put,List.setIfInBounds_toArray,List.set_cons_zero,List.set_cons_succ]
     refine Rg.take_un 34 (by simp only[List.getElem?_toArray,List.getElem?_cons_succ,List.getElem?_cons_zero];rfl) (by kernel_rfl) (by kernel_rfl) (by kernel_rfl) (by exact fun _ _ _ h=>h) (by rfl) (by with_reducible exact hS) ?_
     try simp only[Act.put,List.setIfInBounds_toArray,List.set_cons_zero,List.set_cons_succ]
     refine Rg.take_un 35 (by simp only[List.getElem?_toArray,List.getElem?_cons_succ,List.getElem?_cons_zero];rfl) (by kernel_rfl) (by kernel_rfl) (by kernel_rfl) (by exact fun _ _ _ h=>h) (by rfl) (by with_reducible exact hS) ?_
     try simp only[Act.put,List.setIfInBounds_toArray,List.set_cons_zero,List.set_cons_succ]
     refine Rg.take_un 36 (by simp only[List.getElem?_toArray,List.getElem?_cons_succ,List.getElem?_cons_zero];rfl) (by kernel_rfl) (by kernel_rfl) (by kernel_rfl) (by exact fun _ _ _ h=>h) (by rfl) (by with_reducible exact hS) ?_
     try simp only[Act.put,List.setIfInBounds_toArray,List.set_cons_zero,List.set_cons_succ]
     refine Rg.take_un 37 (by simp only[List.getElem?_toArray,List.getElem?_cons_succ,List.getElem?_cons_zero];rfl) (by kernel_rfl) (by kernel_rfl) (by kernel_rfl) (by exact fun _ _ _ h=>h) (by rfl) (by with_reducible exact hS) ?_
     try simp only[Act.put,List.setIfInBounds_toArray,List.set_cons_zero,List.set_cons_succ]
     refine Rg.take_un 38 (by simp only[List.getElem?_toArray,List.getElem?_cons_succ,List.getElem?_cons_zero];rfl) (by kernel_rfl) (by kernel_rfl) (by kernel_rfl) (by exact fun _ _ _ h=>h) (by rfl) (by with_reducible exact hS) ?_
     try simp only[Act.put,List.setIfInBounds_toArray,List.set_cons_zero,List.set_cons_succ]
     refine Rg.take_un 39 (by simp only[List.getElem?_toArray,List.getElem?_cons_succ,List.getElem?_cons_zero];rfl) (by kernel_rfl) (by kernel_rfl) (by kernel_rfl) (by exact fun _ _ _ h=>h) (by rfl) (by with_reducible exact hS) ?_
     try simp only[Act.put,List.setIfInBounds_toArray,List.set_cons_zero,List.set_cons_succ]
     refine Rg.take_un 40 (by simp only[List.getElem?_toArray,List.getElem?_cons_succ,List.getElem?_cons_zero];rfl) (by kernel_rfl) (by kernel_rfl) (by kernel_rfl) (by exact fun _ _ _ h=>h) (by rfl) (by with_reducible exact hS) ?_
     try simp only[Act.put,List.setIfInBounds_toArray,List.set_cons_zero,List.set_cons_succ]
     refine Rg.take_un 41 (by simp only[List.getElem?_toArray,List.getElem?_cons_succ,List.getElem?_cons_zero];rfl) (by kernel_rfl) (by kernel_rfl) (by kernel_rfl) (by exact fun _ _ _ h=>h) (by rfl) (by with_reducible exact hS) ?_
     try simp only[Act.put,List.setIfInBounds_toArray,List.set_cons_zero,List.set_cons_succ]
     refine wpAnyH_take (i:=42) (v:=?_) (by simp only[List.getElem?_toArray,List.getElem?_cons_succ,List.getElem?_cons_zero];rfl) (by kernel_rfl) (by kernel_rfl) (by kernel_rfl) (by exact fun _ _ _ h=>h) (Or.inl ⟨by rfl,?_⟩) (by with_reducible exact hS) ?_
     rotate_left
     ·intro W hSw;(obtain⟨⟨x0,x1,x2,x3,x4⟩,-⟩:=hSw);go_simp;all_goals (with_reducible rfl)
     try simp only[Act.put,List.setIfInBounds_toArray,List.set_cons_zero,List.set_cons_succ]
     refine wpAnyH_done (by kernel_rfl) ?_ _
     have HE:=Lib.hid hS.2
     clear hS
     go_wp2
     go_roundw
     case rel=>exact⟨j+1,some (j,y),by simp[slI],by go_num,by omega,HN.out,HE.out⟩
     case measure=>simp[intOf];omega
    | some (k,z),HSO,HNS =>
     have hz:=HSO.out.2.1
     have hkn:k<nl:=by have:=(List.getElem?_eq_some_iff.1 hz).1;rw[HNL.out]at this;exact this
     obtain⟨g',e,-,hcz⟩:=cellsR_at HV.out hz
     injection e with e
     injection e with e _ _
     subst e
     have HNS:=Lib.hid (step_some (k:=k) (j:=j) (z:=z) HEB.out▸HNS.out)
     have hah:=HAX.out z z.prio rfl
     obtain⟨y2,hy2⟩:∃ y,z=y:=⟨_,rfl⟩
     obtain⟨zq,zl,zc,zp,zn⟩:=z
     obtain⟨Z,hZ⟩:∃ X,bytesOf zl=X:=⟨_,rfl⟩
     obtain⟨zt,hZT⟩:∃ X,bytesOf zc=X:=⟨_,rfl⟩
     simp only[]at hcz hah
     rw[hZ,hZT]at hcz
     rw[hZ]at hah
     rw[hy2]at HNS hah
     have HC2:=Lib.hid (show ∀ W:World,Below w.heap.size w W→CellsR W g (off+j * 5) xq X xt xp xn∧CellsR W g (off+k * 5) zq Z zt zp zn∧Below w.heap.size w W from fun W hW=>⟨HCX.out W hW,hcz.below hW hgw,hW⟩)
     clear hcz hz hy2 hZ hZT
     have k0:(0:Int)≤(k:Int):=by omega
     have k1:(k:Int)<(nl:Int):=by omega
     have d1:decide ((k:Int)<0)=false:=decide_eq_false (by omega)
     simp only[slI]
     by_cases v1:xp<zp
     ·have HN:=Lib.hid (show Sofar l (bytesN S) p most (j+1) (some (j,y)) from by
       have h:=HNS.out
       rw[if_pos (hah.2 (.inl v1))]at h
       exact h)
      have u1:decide (xp<zp)=true:=decide_eq_true v1
      clear hah
      go_wp2_with fail
      have hS:=(HC2.out _ HB2.out.drew)
      refine wp_region_held_drew (S:=fun W=>CellsR W g (off+j * 5) xq X xt xp xn∧CellsR W g (off+k * 5) zq Z zt zp zn∧Below w.heap.size w W) (by kernel_rfl) hS (fun hHeld=>?_)
      refine wpAnyH_take (i:=0) (v:=?_) (by simp only[List.getElem?_toArray,List.getElem?_cons_zero];rfl) (by kernel_rfl) (by kernel_rfl) (by kernel_rfl) (by exact fun _ _ _ h=>h) (Or.inl ⟨by rfl,?_⟩) (by with_reducible exact hS) ?_
      rotate_left
      ·intro W hSw;(obtain⟨⟨x0,x1,x2,x3,x4⟩,⟨z0,z1,z2,z3,z4⟩,-⟩:=hSw);go_simp;all_goals (with_reducible rfl)
      try simp only[Act.put,List.setIfInBounds_toArray,List.set_cons_zero,List.set_cons_succ]
      refine wpAnyH_take (i:=1) (v:=?_) (by simp only[List.getElem?_toArray,List.getElem?_cons_succ,List.getElem?_cons_zero];rfl) (by kernel_rfl) (by kernel_rfl) (by kernel_rfl) (by exact fun _ _ _ h=>h) (Or.inl ⟨by rfl,?_⟩) (by with_reducible exact hS) ?_
      rotate_left
      ·intro W hSw;(obtain⟨⟨x0,x1,x2,x3,x4⟩,⟨z0,z1,z2,z3,z4⟩,-⟩:=hSw);go_simp;all_goals (with_reducible rfl)
      try simp only[Act.put,List.setIfInBounds_toArray,List.set_cons_zero,List.set_cons_succ]
      refine wpAnyH_take (i:=2) (v:=?_) (by simp only[List.getElem?_toArray,List.getElem?_cons_succ,List.getElem?_cons_zero];rfl) (by kernel_rfl) (by kernel_rfl) (by kernel_rfl) (by exact fun _ _ _ h=>h) (Or.inl ⟨by rfl,?_⟩) (by with_reducible exact hS) ?_
      rotate_left
      ·intro W hSw;(obtain⟨⟨x0,x1,x2,x3,x4⟩,⟨z0,z1,z2,z3,z4⟩,-⟩:=hSw);go_simp;all_goals (with_reducible rfl)
      try simp only[Act.put,List.setIfInBounds_toArray,List.set_cons_zero,List.set_cons_succ]
      refine wpAnyH_take (i:=3) (v:=?_) (by simp only[List.getElem?_toArray,List.getElem?_cons_succ,List.getElem?_cons_zero];rfl) (by kernel_rfl) (by kernel_rfl) (by kernel_rfl) (by exact fun _ _ _ h=>h) (Or.inl ⟨by rfl,?_⟩) (by with_reducible exact hS) ?_
      rotate_left
      ·intro W hSw;(obtain⟨⟨x0,x1,x2,x3,x4⟩,⟨z0,z1,z2,z3,z4⟩,-⟩:=hSw);go_simp;all_goals (with_reducible rfl)
      try simp only[Act.put,List.setIfInBounds_toArray,List.set_cons_zero,List.set_cons_succ]
      refine wpAnyH_take (i:=4) (v:=?_) (by simp only[List.getElem?_toArray,List.getElem?_cons_succ,List.getElem?_cons_zero];rfl) (by kernel_rfl) (by kernel_rfl) (by kernel_rfl) (by exact fun _ _ _ h=>h) (Or.inl ⟨by rfl,?_⟩) (by with_reducible exact hS) ?_
      rotate_left
      ·intro W hSw;(obtain⟨⟨x0,x1,x2,x3,x4⟩,⟨z0,z1,z2,z3,z4⟩,-⟩:=hSw);go_simp;all_goals (with_reducible rfl)
      try simp only[Act.put,List.setIfInBounds_toArray,List.set_cons_zero,List.set_cons_succ]
      refine wpAnyH_take (i:=5) (v:=?_) (by simp only[List.getElem?_toArray,List.getElem?_cons_succ,List.getElem?_cons_zero];rfl) (by kernel_rfl) (by kernel_rfl) (by kernel_rfl) (by exact fun _ _ _ h=>h) (Or.inl ⟨by rfl,?_⟩) (by with_reducible exact hS) ?_
      rotate_left
      ·intro W hSw;(obtain⟨⟨x0,x1,x2,x3,x4⟩,⟨z0,z1,z2,z3,z4⟩,-⟩:=hSw);go_simp;all_goals (with_reducible rfl)
      try simp only[Act.put,List.setIfInBounds_toArray,List.set_cons_zero,List.set_cons_succ]
      refine wpAnyH_take (i:=6) (v:=?_) (by simp only[List.getElem?_toArray,List.getElem?_cons_succ,List.getElem?_cons_zero];rfl) (by kernel_rfl) (by kernel_rfl) (by kernel_rfl) (by exact fun _ _ _ h=>h) (Or.inl ⟨by rfl,?_⟩) (by with_reducible exact hS) ?_
      rotate_left
      ·intro W hSw;(obtain⟨⟨x0,x1,x2,x3,x4⟩,⟨z0,z1,z2,z3,z4⟩,-⟩:=hSw);go_simp;all_goals (with_reducible rfl)
      try simp only[Act.put,List.setIfInBounds_toArray,List.set_cons_zero,List.set_cons_succ]
      refine wpAnyH_take (i:=7) (v:=?_) (by simp only[List.getElem?_toArray,List.getElem?_cons_succ,List.getElem?_cons_zero];rfl) (by kernel_rfl) (by kernel_rfl) (by kernel_rfl) (by exact fun _ _ _ h=>h) (Or.inl ⟨by rfl,?_⟩) (by with_reducible exact hS) ?_
      rotate_left
      ·intro W hSw;(obtain⟨⟨x0,x1,x2,x3,x4⟩,⟨z0,z1,z2,z3,z4⟩,-⟩:=hSw);go_simp;all_goals (with_reducible rfl)
      try simp only[Act.put,List.setIfInBounds_toArray,List.set_cons_zero,List.set_cons_succ]
      refine wpAnyH_take (i:=8) (v:=?_) (by simp only[List.getElem?_toArray,List.getElem?_cons_succ,List.getElem?_cons_zero];rfl) (by kernel_rfl) (by kernel_rfl) (by kernel_rfl) (by exact fun _ _ _ h=>h) (Or.inl ⟨by rfl,?_⟩) (by with_reducible exact hS) ?_
      rotate_left
      ·intro W hSw;(obtain⟨⟨x0,x1,x2,x3,x4⟩,⟨z0,z1,z2,z3,z4⟩,-⟩:=hSw);go_simp;all_goals (with_reducible rfl)
      try simp only[Act.put,List.setIfInBounds_toArray,List.set_cons_zero,List.set_cons_succ]
      refine wpAnyH_take (i:=9) (v:=?_) (by simp only[List.getElem?_toArray,List.getElem?_cons_succ,List.getElem?_cons_zero];rfl) (by kernel_rfl) (by kernel_rfl) (by kernel_rfl) (by exact fun _ _ _ h=>h) (Or.inl ⟨by rfl,?_⟩) (by with_reducible exact hS) ?_
      rotate_left
      ·intro W hSw;(obtain⟨⟨x0,x1,x2,x3,x4⟩,⟨z0,z1,z2,z3,z4⟩,-⟩:=hSw);go_simp;all_goals (with_reducible rfl)
      try simp only[Act.put,List.setIfInBounds_toArray,List.set_cons_zero,List.set_cons_succ]
      refine wpAnyH_take (i:=10) (v:=?_) (by simp only[List.getElem?_toArray,List.getElem?_cons_succ,List.getElem?_cons_zero];rfl) (by kernel_rfl) (by kernel_rfl) (by kernel_rfl) (by exact fun _ _ _ h=>h) (Or.inl ⟨by rfl,?_⟩) (by with_reducible exact hS) ?_
      rotate_left
      ·intro W hSw;(obtain⟨⟨x0,x1,x2,x3,x4⟩,⟨z0,z1,z2,z3,z4⟩,-⟩:=hSw);go_simp;all_goals (with_reducible rfl)
      try simp only[Act.put,List.setIfInBounds_toArray,List.set_cons_zero,List.set_cons_succ]
      refine wpAnyH_take (i:=11) (v:=?_) (by simp only[List.getElem?_toArray,List.getElem?_cons_succ,List.getElem?_cons_zero];rfl) (by kernel_rfl) (by kernel_rfl) (by kernel_rfl) (by exact fun _ _ _ h=>h) (Or.inl ⟨by rfl,?_⟩) (by with_reducible exact hS) ?_
      rotate_left
      ·intro W hSw;(obtain⟨⟨x0,x1,x2,x3,x4⟩,⟨z0,z1,z2,z3,z4⟩,-⟩:=hSw);go_simp;all_goals (with_reducible rfl)
      try simp only[Act.put,List.setIfInBounds_toArray,List.set_cons_zero,List.set_cons_succ]
      refine wpAnyH_take (i:=12) (v:=?_) (by simp only[List.getElem?_toArray,List.getElem?_cons_succ,List.getElem?_cons_zero];rfl) (by kernel_rfl) (by kernel_rfl) (by kernel_rfl) (by exact fun _ _ _ h=>h) (Or.inl ⟨by rfl,?_⟩) (by with_reducible exact hS) ?_
      rotate_left
      ·intro W hSw;(obtain⟨⟨x0,x1,x2,x3,x4⟩,⟨z0,z1,z2,z3,z4⟩,-⟩:=hSw);go_simp;all_goals (with_reducible rfl)
      try simp only[Act.put,List.setIfInBounds_toArray,List.set_cons_zero,List.set_cons_succ]
      refine wpAnyH_take (i:=13) (v:=?_) (by simp only[List.getElem?_toArray,List.getElem?_cons_succ,List.getElem?_cons_zero];rfl) (by kernel_rfl) (by kernel_rfl) (by kernel_rfl) (by exact fun _ _ _ h=>h) (Or.inl ⟨by rfl,?_⟩) (by with_reducible exact hS) ?_
      rotate_left
      ·intro W hSw;(obtain⟨⟨x0,x1,x2,x3,x4⟩,⟨z0,z1,z2,z3,z4⟩,-⟩:=hSw);go_simp;all_goals (with_reducible rfl)
      try simp only[Act.put,List.setIfInBounds_toArray,List.set_cons_zero,List.set_cons_succ]
      refine wpAnyH_take (i:=14) (v:=?_) (by simp only[List.getElem?_toArray,List.getElem?_cons_succ,List.getElem?_cons_zero];rfl) (by kernel_rfl) (by kernel_rfl) (by kernel_rfl) (by exact fun _ _ _ h=>h) (Or.inl ⟨by rfl,?_⟩) (by with_reducible exact hS) ?_
      rotate_left
      ·intro W hSw;(obtain⟨⟨x0,x1,x2,x3,x4⟩,⟨z0,z1,z2,z3,z4⟩,-⟩:=hSw);go_simp;all_goals (with_reducible rfl)
      try simp only[Act.put,List.setIfInBounds_toArray,List.set_cons_zero,List.set_cons_succ]
      refine wpAnyH_take (i:=15) (v:=?_) (by simp only[List.getElem?_toArray,List.getElem?_cons_succ,List.getElem?_cons_zero];rfl) (by kernel_rfl) (by kernel_rfl) (by kernel_rfl) (by exact fun _ _ _ h=>h) (Or.inl ⟨by rfl,?_⟩) (by with_reducible exact hS) ?_
      rotate_left
      ·intro W hSw;(obtain⟨⟨x0,x1,x2,x3,x4⟩,⟨z0,z1,z2,z3,z4⟩,-⟩:=hSw);go_simp;all_goals (with_reducible rfl)
      try simp only[Act.put,List.setIfInBounds_toArray,List.set_cons_zero,List.set_cons_succ]
      refine Rg.take_un 16 (by simp only[List.getElem?_toArray,List.getElem?_cons_succ,List.getElem?_cons_zero];rfl) (by kernel_rfl) (by kernel_rfl) (by kernel_rfl) (by exact fun _ _ _ h=>h) (by rfl) (by with_reducible exact hS) ?_
      try simp only[Act.put,List.setIfInBounds_toArray,List.set_cons_zero,List.set_cons_succ]
      refine Rg.take_un 17 (by simp only[List.getElem?_toArray,List.getElem?_cons_succ,List.getElem?_cons_zero];rfl) (by kernel_rfl) (by kernel_rfl) (by kernel_rfl) (by exact fun _ _ _ h=>h) (by rfl) (by with_reducible exact hS) ?_
      try simp only[Act.put,List.setIfInBounds_toArray,List.set_cons_zero,List.set_cons_succ]
      refine Rg.take_un 18 (by simp only[List.getElem?_toArray,List.getElem?_cons_succ,List.getElem?_cons_zero];rfl) (by kernel_rfl) (by kernel_rfl) (by kernel_rfl) (by exact fun _ _ _ h=>h) (by rfl) (by with_reducible exact hS) ?_
      try simp only[Act.put,List.setIfInBounds_toArray,List.set_cons_zero,List.set_cons_succ]
      refine Rg.take_un 19 (by simp only[List.getElem?_toArray,List.getElem?_cons_succ,List.getElem?_cons_zero];rfl) (by kernel_rfl) (by kernel_rfl) (by kernel_rfl) (by exact fun _ _ _ h=>h) (by rfl) (by with_reducible exact hS) ?_
      try simp only[Act.put,List.setIfInBounds_toArray,List.set_cons_zero,List.set_cons_succ]
      refine Rg.take_un 20 (by simp only[List.getElem?_toArray,List.getElem?_cons_succ,List.getElem?_cons_zero];rfl) (by kernel_rfl) (by kernel_rfl) (by kernel_rfl) (by exact fun _ _ _ h=>h) (by rfl) (by with_reducible exact hS) ?_
      try simp only[Act.put,List.setIfInBounds_toArray,List.set_cons_zero,List.set_cons_succ]
      refine Rg.take_un 21 (by simp only[List.getElem?_toArray,List.getElem?_cons_succ,List.getElem?_cons_zero];rfl) (by kernel_rfl) (by kernel_rfl) (by kernel_rfl) (by exact fun _ _ _ h=>h) (by rfl) (by with_reducible exact hS) ?_
      try simp only[Act.put,List.setIfInBounds_toArray,List.set_cons_zero,List.set_cons_succ]
      refine Rg.take_un 22 (by simp only[List.getElem?_toArray,List.getElem?_cons_succ,List.getElem?_cons_zero];rfl) (by kernel_rfl) (by kernel_rfl) (by kernel_rfl) (by exact fun _ _ _ h=>h) (by rfl) (by with_reducible exact hS) ?_
      try simp only[Act.put,List.setIfInBounds_toArray,List.set_cons_zero,List.set_cons_succ]
      refine Rg.take_un 23 (by simp only[List.getElem?_toArray,List.getElem?_cons_succ,List.getElem?_cons_zero];rfl) (by kernel_rfl) (by kernel_rfl) (by kernel_rfl) (by exact fun _ _ _ h=>h) (by rfl) (by with_reducible exact hS) ?_
      try simp only[Act.put,List.setIfInBounds_toArray,List.set_cons_zero,List.set_cons_succ]
      refine Rg.take_un 24 (by simp only[List.getElem?_toArray,List.getElem?_cons_succ,List.getElem?_cons_zero];rfl) (by kernel_rfl) (by kernel_rfl) (by kernel_rfl) (by exact fun _ _ _ h=>h) (by rfl) (by with_reducible exact hS) ?_
      try simp only[Act.put,List.setIfInBounds_toArray,List.set_cons_zero,List.set_cons_succ]
      refine Rg.take_un 25 (by simp only[List.getElem?_toArray,List.getElem?_cons_succ,List.getElem?_cons_zero];rfl) (by kernel_rfl) (by kernel_rfl) (by kernel_rfl) (by exact fun _ _ _ h=>h) (by rfl) (by with_reducible exact hS) ?_
      try simp only[Act.put,List.setIfInBounds_toArray,List.set_cons_zero,List.set_cons_succ]
      refine Rg.take_un 26 (by simp only[List.getElem?_toArray,List.getElem?_cons_succ,List.getElem?_cons_zero];rfl) (by kernel_rfl) (by kernel_rfl) (by kernel_rfl) (by exact fun _ _ _ h=>h) (by rfl) (by with_reducible exact hS) ?_
      try simp only[Act.put,List.setIfInBounds_toArray,List.set_cons_zero,List.set_cons_succ]
      refine Rg.take_un 27 (by simp only[List.getElem?_toArray,List.getElem?_cons_succ,List.getElem?_cons_zero];rfl) (by kernel_rfl) (by kernel_rfl) (by kernel_rfl) (by exact fun _ _ _ h=>h) (by rfl) (by with_reducible exact hS) ?_
      try simp only[Act.put,List.setIfInBounds_toArray,List.set_cons_zero,List.set_cons_succ]
      refine Rg.take_un 28 (by simp only[List.getElem?_toArray,List.getElem?_cons_succ,List.getElem?_cons_zero];rfl) (by kernel_rfl) (by kernel_rfl) (by kernel_rfl) (by exact fun _ _ _ h=>h) (by rfl) (by with_reducible exact hS) ?_
      try simp only[Act.put,List.setIfInBounds_toArray,List.set_cons_zero,List.set_cons_succ]
      refine Rg.take_un 29 (by simp only[List.getElem?_toArray,List.getElem?_cons_succ,List.getElem?_cons_zero];rfl) (by kernel_rfl) (by kernel_rfl) (by kernel_rfl) (by exact fun _ _ _ h=>h) (by rfl) (by with_reducible exact hS) ?_
      try simp only[Act.put,List.setIfInBounds_toArray,List.set_cons_zero,List.set_cons_succ]
      refine Rg.take_un 30 (by simp only[List.getElem?_toArray,List.getElem?_cons_succ,List.getElem?_cons_zero];rfl) (by kernel_rfl) (by kernel_rfl) (by kernel_rfl) (by exact fun _ _ _ h=>h) (by rfl) (by with_reducible exact hS) ?_
      try simp only[Act.put,List.setIfInBounds_toArray,List.set_cons_zero,List.set_cons_succ]
      refine Rg.take_un 31 (by simp only[List.getElem?_toArray,List.getElem?_cons_succ,List.getElem?_cons_zero];rfl) (by kernel_rfl) (by kernel_rfl) (by kernel_rfl) (by exact fun _ _ _ h=>h) (by rfl) (by with_reducible exact hS) ?_
      try simp only[Act.put,List.setIfInBounds_toArray,List.set_cons_zero,List.set_cons_succ]
      refine Rg.take_un 32 (by simp only[List.getElem?_toArray,List.getElem?_cons_succ,List.getElem?_cons_zero];rfl) (by kernel_rfl) (by kernel_rfl) (by kernel_rfl) (by exact fun _ _ _ h=>h) (by rfl) (by with_reducible exact hS) ?_
      try simp only[Act.put,List.setIfInBounds_toArray,List.set_cons_zero,List.set_cons_succ]
      refine Rg.take_un 33 (by simp only[List.getElem?_toArray,List.getElem?_cons_succ,List.getElem?_cons_zero];rfl) (by kernel_rfl) (by kernel_rfl) (by kernel_rfl) (by exact fun _ _ _ h=>h) (by rfl) (by with_reducible exact hS) ?_
      try simp only[Act.put,List.setIfInBounds_toArray,List.set_cons_zero,List.set_cons_succ]
      refine Rg.take_un 34 (by simp only[List.getElem?_toArray,List.getElem?_cons_succ,List.getElem?_cons_zero];rfl) (by kernel_rfl) (by kernel_rfl) (by kernel_rfl) (by exact fun _ _ _ h=>h) (by rfl) (by with_reducible exact hS) ?_
      try simp only[Act.put,List.setIfInBounds_toArray,List.set_cons_zero,List.set_cons_succ]
      refine Rg.take_un 35 (by simp only[List.getElem?_toArray,List.getElem?_cons_succ,List.getElem?_cons_zero];rfl) (by kernel_rfl) (by kernel_rfl) (by kernel_rfl) (by exact fun _ _ _ h=>h) (by rfl) (by with_reducible exact hS) ?_
      try simp only[Act.put,List.setIfInBounds_toArray,List.set_cons_zero,List.set_cons_succ]
      refine Rg.take_un 36 (by simp only[List.getElem?_toArray,List.getElem?_cons_succ,List.getElem?_cons_zero];rfl) (by kernel_rfl) (by kernel_rfl) (by kernel_rfl) (by exact fun _ _ _ h=>h) (by rfl) (by with_reducible exact hS) ?_
      try simp only[Act.put,List.setIfInBounds_toArray,List.set_cons_zero,List.set_cons_succ]
      refine Rg.take_un 37 (by simp only[List.getElem?_toArray,List.getElem?_cons_succ,List.getElem?_cons_zero];rfl) (by kernel_rfl) (by kernel_rfl) (by kernel_rfl) (by exact fun _ _ _ h=>h) (by rfl) (by with_reducible exact hS) ?_
      try simp only[Act.put,List.setIfInBounds_toArray,List.set_cons_zero,List.set_cons_succ]
      refine Rg.take_un 38 (by simp only[List.getElem?_toArray,List.getElem?_cons_succ,List.getElem?_cons_zero];rfl) (by kernel_rfl) (by kernel_rfl) (by kernel_rfl) (by exact fun _ _ _ h=>h) (by rfl) (by with_reducible exact hS) ?_
      try simp only[Act.put,List.setIfInBounds_toArray,List.set_cons_zero,List.set_cons_succ]
      refine Rg.take_un 39 (by simp only[List.getElem?_toArray,List.getElem?_cons_succ,List.getElem?_cons_zero];rfl) (by kernel_rfl) (by kernel_rfl) (by kernel_rfl) (by exact fun _ _ _ h=>h) (by rfl) (by with_reducible exact hS) ?_
      try simp only[Act.put,List.setIfInBounds_toArray,List.set_cons_zero,List.set_cons_succ]
      refine Rg.take_un 40 (by simp only[List.getElem?_toArray,List.getElem?_cons_succ,List.getElem?_cons_zero];rfl) (by kernel_rfl) (by kernel_rfl) (by kernel_rfl) (by exact fun _ _ _ h=>h) (by rfl) (by with_reducible exact hS) ?_
      try simp only[Act.put,List.setIfInBounds_toArray,List.set_cons_zero,List.set_cons_succ]
      refine Rg.take_un 41 (by simp only[List.getElem?_toArray,List.getElem?_cons_succ,List.getElem?_cons_zero];rfl) (by kernel_rfl) (by kernel_rfl) (by kernel_rfl) (by exact fun _ _ _ h=>h) (by rfl) (by with_reducible exact hS) ?_
      try simp only[Act.put,List.setIfInBounds_toArray,List.set_cons_zero,List.set_cons_succ]
      refine wpAnyH_take (i:=42) (v:=?_) (by simp only[List.getElem?_toArray,List.getElem?_cons_succ,List.getElem?_cons_zero];rfl) (by kernel_rfl) (by kernel_rfl) (by kernel_rfl) (by exact fun _ _ _ h=>h) (Or.inl ⟨by rfl,?_⟩) (by with_reducible exact hS) ?_
      rotate_left
      ·intro W hSw;(obtain⟨⟨x0,x1,x2,x3,x4⟩,⟨z0,z1,z2,z3,z4⟩,-⟩:=hSw);go_simp;all_goals (with_reducible rfl)
      try simp only[Act.put,List.setIfInBounds_toArray,List.set_cons_zero,List.set_cons_succ]
      refine wpAnyH_done (by kernel_rfl) ?_ _
      have HE:=Lib.hid hS.2.2
      clear hS
      go_wp2
      go_roundw
      case rel=>exact⟨j+1,some (j,y),by simp[slI],by go_num,by omega,HN.out,HE.out⟩
      case measure=>simp[intOf];omega
     have u1:decide (xp<zp)=false:=decide_eq_false v1
     by_cases v2:xp=zp
     rotate_left
     ·have HN:=Lib.hid (show Sofar l (bytesN S) p most (j+1) (some (k,y2)) from by
       have h:=HNS.out
       rw[if_neg fun q=>by have:=hah.1 q;omega]at h
       exact h)
      have u2:(xp==zp)=false:=beq_eq_false_iff_ne.2 v2
      clear hah
      go_wp2_with fail
      have hS:=(HC2.out _ HB2.out.drew)
      refine wp_region_held_drew (S:=fun W=>CellsR W g (off+j * 5) xq X xt xp xn∧CellsR W g (off+k * 5) zq Z zt zp zn∧Below w.heap.size w W) (by kernel_rfl) hS (fun hHeld=>?_)
      refine wpAnyH_take (i:=0) (v:=?_) (by simp only[List.getElem?_toArray,List.getElem?_cons_zero];rfl) (by kernel_rfl) (by kernel_rfl) (by kernel_rfl) (by exact fun _ _ _ h=>h) (Or.inl ⟨by rfl,?_⟩) (by with_reducible exact hS) ?_
      rotate_left
      ·intro W hSw;(obtain⟨⟨x0,x1,x2,x3,x4⟩,⟨z0,z1,z2,z3,z4⟩,-⟩:=hSw);go_simp;all_goals (with_reducible rfl)
      try simp only[Act.put,List.setIfInBounds_toArray,List.set_cons_zero,List.set_cons_succ]
      refine wpAnyH_take (i:=1) (v:=?_) (by simp only[List.getElem?_toArray,List.getElem?_cons_succ,List.getElem?_cons_zero];rfl) (by kernel_rfl) (by kernel_rfl) (by kernel_rfl) (by exact fun _ _ _ h=>h) (Or.inl ⟨by rfl,?_⟩) (by with_reducible exact hS) ?_
      rotate_left
      ·intro W hSw;(obtain⟨⟨x0,x1,x2,x3,x4⟩,⟨z0,z1,z2,z3,z4⟩,-⟩:=hSw);go_simp;all_goals (with_reducible rfl)
      try simp only[Act.put,List.setIfInBounds_toArray,List.set_cons_zero,List.set_cons_succ]
      refine wpAnyH_take (i:=2) (v:=?_) (by simp only[List.getElem?_toArray,List.getElem?_cons_succ,List.getElem?_cons_zero];rfl) (by kernel_rfl) (by kernel_rfl) (by kernel_rfl) (by exact fun _ _ _ h=>h) (Or.inl ⟨by rfl,?_⟩) (by with_reducible exact hS) ?_
      rotate_left
      ·intro W hSw;(obtain⟨⟨x0,x1,x2,x3,x4⟩,⟨z0,z1,z2,z3,z4⟩,-⟩:=hSw);go_simp;all_goals (with_reducible rfl)
      try simp only[Act.put,List.setIfInBounds_toArray,List.set_cons_zero,List.set_cons_succ]
      refine wpAnyH_take (i:=3) (v:=?_) (by simp only[List.getElem?_toArray,List.getElem?_cons_succ,List.getElem?_cons_zero];rfl) (by kernel_rfl) (by kernel_rfl) (by kernel_rfl) (by exact fun _ _ _ h=>h) (Or.inl ⟨by rfl,?_⟩) (by with_reducible exact hS) ?_
      rotate_left
      ·intro W hSw;(obtain⟨⟨x0,x1,x2,x3,x4⟩,⟨z0,z1,z2,z3,z4⟩,-⟩:=hSw);go_simp;all_goals (with_reducible rfl)
      try simp only[Act.put,List.setIfInBounds_toArray,List.set_cons_zero,List.set_cons_succ]
      refine wpAnyH_take (i:=4) (v:=?_) (by simp only[List.getElem?_toArray,List.getElem?_cons_succ,List.getElem?_cons_zero];rfl) (by kernel_rfl) (by kernel_rfl) (by kernel_rfl) (by exact fun _ _ _ h=>h) (Or.inl ⟨by rfl,?_⟩) (by with_reducible exact hS) ?_
      rotate_left
      ·intro W hSw;(obtain⟨⟨x0,x1,x2,x3,x4⟩,⟨z0,z1,z2,z3,z4⟩,-⟩:=hSw);go_simp;all_goals (with_reducible rfl)
      try simp only[Act.put,List.setIfInBounds_toArray,List.set_cons_zero,List.set_cons_succ]
      refine wpAnyH_take (i:=5) (v:=?_) (by simp only[List.getElem?_toArray,List.getElem?_cons_succ,List.getElem?_cons_zero];rfl) (by kernel_rfl) (by kernel_rfl) (by kernel_rfl) (by exact fun _ _ _ h=>h) (Or.inl ⟨by rfl,?_⟩) (by with_reducible exact hS) ?_
      rotate_left
      ·intro W hSw;(obtain⟨⟨x0,x1,x2,x3,x4⟩,⟨z0,z1,z2,z3,z4⟩,-⟩:=hSw);go_simp;all_goals (with_reducible rfl)
      try simp only[Act.put,List.setIfInBounds_toArray,List.set_cons_zero,List.set_cons_succ]
      refine wpAnyH_take (i:=6) (v:=?_) (by simp only[List.getElem?_toArray,List.getElem?_cons_succ,List.getElem?_cons_zero];rfl) (by kernel_rfl) (by kernel_rfl) (by kernel_rfl) (by exact fun _ _ _ h=>h) (Or.inl ⟨by rfl,?_⟩) (by with_reducible exact hS) ?_
      rotate_left
      ·intro W hSw;(obtain⟨⟨x0,x1,x2,x3,x4⟩,⟨z0,z1,z2,z3,z4⟩,-⟩:=hSw);go_simp;all_goals (with_reducible rfl)
      try simp only[Act.put,List.setIfInBounds_toArray,List.set_cons_zero,List.set_cons_succ]
      refine wpAnyH_take (i:=7) (v:=?_) (by simp only[List.getElem?_toArray,List.getElem?_cons_succ,List.getElem?_cons_zero];rfl) (by kernel_rfl) (by kernel_rfl) (by kernel_rfl) (by exact fun _ _ _ h=>h) (Or.inl ⟨by rfl,?_⟩) (by with_reducible exact hS) ?_
      rotate_left
      ·intro W hSw;(obtain⟨⟨x0,x1,x2,x3,x4⟩,⟨z0,z1,z2,z3,z4⟩,-⟩:=hSw);go_simp;all_goals (with_reducible rfl)
      try simp only[Act.put,List.setIfInBounds_toArray,List.set_cons_zero,List.set_cons_succ]
      refine wpAnyH_take (i:=8) (v:=?_) (by simp only[List.getElem?_toArray,List.getElem?_cons_succ,List.getElem?_cons_zero];rfl) (by kernel_rfl) (by kernel_rfl) (by kernel_rfl) (by exact fun _ _ _ h=>h) (Or.inl ⟨by rfl,?_⟩) (by with_reducible exact hS) ?_
      rotate_left
      ·intro W hSw;(obtain⟨⟨x0,x1,x2,x3,x4⟩,⟨z0,z1,z2,z3,z4⟩,-⟩:=hSw);go_simp;all_goals (with_reducible rfl)
      try simp only[Act.put,List.setIfInBounds_toArray,List.set_cons_zero,List.set_cons_succ]
      refine wpAnyH_take (i:=9) (v:=?_) (by simp only[List.getElem?_toArray,List.getElem?_cons_succ,List.getElem?_cons_zero];rfl) (by kernel_rfl) (by kernel_rfl) (by kernel_rfl) (by exact fun _ _ _ h=>h) (Or.inl ⟨by rfl,?_⟩) (by with_reducible exact hS) ?_
      rotate_left
      ·intro W hSw;(obtain⟨⟨x0,x1,x2,x3,x4⟩,⟨z0,z1,z2,z3,z4⟩,-⟩:=hSw);go_simp;all_goals (with_reducible rfl)
      try simp only[Act.put,List.setIfInBounds_toArray,List.set_cons_zero,List.set_cons_succ]
      refine wpAnyH_take (i:=10) (v:=?_) (by simp only[List.getElem?_toArray,List.getElem?_cons_succ,List.getElem?_cons_zero];rfl) (by kernel_rfl) (by kernel_rfl) (by kernel_rfl) (by exact fun _ _ _ h=>h) (Or.inl ⟨by rfl,?_⟩) (by with_reducible exact hS) ?_
      rotate_left
      ·intro W hSw;(obtain⟨⟨x0,x1,x2,x3,x4⟩,⟨z0,z1,z2,z3,z4⟩,-⟩:=hSw);go_simp;all_goals (with_reducible rfl)
      try simp only[Act.put,List.setIfInBounds_toArray,List.set_cons_zero,List.set_cons_succ]
      refine wpAnyH_take (i:=11) (v:=?_) (by simp only[List.getElem?_toArray,List.getElem?_cons_succ,List.getElem?_cons_zero];rfl) (by kernel_rfl) (by kernel_rfl) (by kernel_rfl) (by exact fun _ _ _ h=>h) (Or.inl ⟨by rfl,?_⟩) (by with_reducible exact hS) ?_
      rotate_left
      ·intro W hSw;(obtain⟨⟨x0,x1,x2,x3,x4⟩,⟨z0,z1,z2,z3,z4⟩,-⟩:=hSw);go_simp;all_goals (with_reducible rfl)
      try simp only[Act.put,List.setIfInBounds_toArray,List.set_cons_zero,List.set_cons_succ]
      refine wpAnyH_take (i:=12) (v:=?_) (by simp only[List.getElem?_toArray,List.getElem?_cons_succ,List.getElem?_cons_zero];rfl) (by kernel_rfl) (by kernel_rfl) (by kernel_rfl) (by exact fun _ _ _ h=>h) (Or.inl ⟨by rfl,?_⟩) (by with_reducible exact hS) ?_
      rotate_left
      ·intro W hSw;(obtain⟨⟨x0,x1,x2,x3,x4⟩,⟨z0,z1,z2,z3,z4⟩,-⟩:=hSw);go_simp;all_goals (with_reducible rfl)
      try simp only[Act.put,List.setIfInBounds_toArray,List.set_cons_zero,List.set_cons_succ]
      refine wpAnyH_take (i:=13) (v:=?_) (by simp only[List.getElem?_toArray,List.getElem?_cons_succ,List.getElem?_cons_zero];rfl) (by kernel_rfl) (by kernel_rfl) (by kernel_rfl) (by exact fun _ _ _ h=>h) (Or.inl ⟨by rfl,?_⟩) (by with_reducible exact hS) ?_
      rotate_left
      ·intro W hSw;(obtain⟨⟨x0,x1,x2,x3,x4⟩,⟨z0,z1,z2,z3,z4⟩,-⟩:=hSw);go_simp;all_goals (with_reducible rfl)
      try simp only[Act.put,List.setIfInBounds_toArray,List.set_cons_zero,List.set_cons_succ]
      refine wpAnyH_take (i:=14) (v:=?_) (by simp only[List.getElem?_toArray,List.getElem?_cons_succ,List.getElem?_cons_zero];rfl) (by kernel_rfl) (by kernel_rfl) (by kernel_rfl) (by exact fun _ _ _ h=>h) (Or.inl ⟨by rfl,?_⟩) (by with_reducible exact hS) ?_
      rotate_left
      ·intro W hSw;(obtain⟨⟨x0,x1,x2,x3,x4⟩,⟨z0,z1,z2,z3,z4⟩,-⟩:=hSw);go_simp;all_goals (with_reducible rfl)
      try simp only[Act.put,List.setIfInBounds_toArray,List.set_cons_zero,List.set_cons_succ]
      refine wpAnyH_take (i:=15) (v:=?_) (by simp only[List.getElem?_toArray,List.getElem?_cons_succ,List.getElem?_cons_zero];rfl) (by kernel_rfl) (by kernel_rfl) (by kernel_rfl) (by exact fun _ _ _ h=>h) (Or.inl ⟨by rfl,?_⟩) (by with_reducible exact hS) ?_
      rotate_left
      ·intro W hSw;(obtain⟨⟨x0,x1,x2,x3,x4⟩,⟨z0,z1,z2,z3,z4⟩,-⟩:=hSw);go_simp;all_goals (with_reducible rfl)
      try simp only[Act.put,List.setIfInBounds_toArray,List.set_cons_zero,List.set_cons_succ]
      refine wpAnyH_take (i:=16) (v:=?_) (by simp only[List.getElem?_toArray,List.getElem?_cons_succ,List.getElem?_cons_zero];rfl) (by kernel_rfl) (by kernel_rfl) (by kernel_rfl) (by exact fun _ _ _ h=>h) (Or.inl ⟨by rfl,?_⟩) (by with_reducible exact hS) ?_
      rotate_left
      ·intro W hSw;(obtain⟨⟨x0,x1,x2,x3,x4⟩,⟨z0,z1,z2,z3,z4⟩,-⟩:=hSw);go_simp;all_goals (with_reducible rfl)
      try simp only[Act.put,List.setIfInBounds_toArray,List.set_cons_zero,List.set_cons_succ]
      refine wpAnyH_take (i:=17) (v:=?_) (by simp only[List.getElem?_toArray,List.getElem?_cons_succ,List.getElem?_cons_zero];rfl) (by kernel_rfl) (by kernel_rfl) (by kernel_rfl) (by exact fun _ _ _ h=>h) (Or.inl ⟨by rfl,?_⟩) (by with_reducible exact hS) ?_
      rotate_left
      ·intro W hSw;(obtain⟨⟨x0,x1,x2,x3,x4⟩,⟨z0,z1,z2,z3,z4⟩,-⟩:=hSw);go_simp;all_goals (with_reducible rfl)
      try simp only[Act.put,List.setIfInBounds_toArray,List.set_cons_zero,List.set_cons_succ]
      refine wpAnyH_take (i:=18) (v:=?_) (by simp only[List.getElem?_toArray,List.getElem?_cons_succ,List.getElem?_cons_zero];rfl) (by kernel_rfl) (by kernel_rfl) (by kernel_rfl) (by exact fun _ _ _ h=>h) (Or.inl ⟨by rfl,?_⟩) (by with_reducible exact hS) ?_
      rotate_left
      ·intro W hSw;(obtain⟨⟨x0,x1,x2,x3,x4⟩,⟨z0,z1,z2,z3,z4⟩,-⟩:=hSw);go_simp;all_goals (with_reducible rfl)
      try simp only[Act.put,List.setIfInBounds_toArray,List.set_cons_zero,List.set_cons_succ]
      refine wpAnyH_take (i:=19) (v:=?_) (by simp only[List.getElem?_toArray,List.getElem?_cons_succ,List.getElem?_cons_zero];rfl) (by kernel_rfl) (by kernel_rfl) (by kernel_rfl) (by exact fun _ _ _ h=>h) (Or.inl ⟨by rfl,?_⟩) (by with_reducible exact hS) ?_
      rotate_left
      ·intro W hSw;(obtain⟨⟨x0,x1,x2,x3,x4⟩,⟨z0,z1,z2,z3,z4⟩,-⟩:=hSw);go_simp;all_goals (with_reducible rfl)
      try simp only[Act.put,List.setIfInBounds_toArray,List.set_cons_zero,List.set_cons_succ]
      refine wpAnyH_take (i:=20) (v:=?_) (by simp only[List.getElem?_toArray,List.getElem?_cons_succ,List.getElem?_cons_zero];rfl) (by kernel_rfl) (by kernel_rfl) (by kernel_rfl) (by exact fun _ _ _ h=>h) (Or.inl ⟨by rfl,?_⟩) (by with_reducible exact hS) ?_
      rotate_left
      ·intro W hSw;(obtain⟨⟨x0,x1,x2,x3,x4⟩,⟨z0,z1,z2,z3,z4⟩,-⟩:=hSw);go_simp;all_goals (with_reducible rfl)
      try simp only[Act.put,List.setIfInBounds_toArray,List.set_cons_zero,List.set_cons_succ]
      refine wpAnyH_take (i:=21) (v:=?_) (by simp only[List.getElem?_toArray,List.getElem?_cons_succ,List.getElem?_cons_zero];rfl) (by kernel_rfl) (by kernel_rfl) (by kernel_rfl) (by exact fun _ _ _ h=>h) (Or.inl ⟨by rfl,?_⟩) (by with_reducible exact hS) ?_
      rotate_left
      ·intro W hSw;(obtain⟨⟨x0,x1,x2,x3,x4⟩,⟨z0,z1,z2,z3,z4⟩,-⟩:=hSw);go_simp;all_goals (with_reducible rfl)
      try simp only[Act.put,List.setIfInBounds_toArray,List.set_cons_zero,List.set_cons_succ]
      refine wpAnyH_take (i:=22) (v:=?_) (by simp only[List.getElem?_toArray,List.getElem?_cons_succ,List.getElem?_cons_zero];rfl) (by kernel_rfl) (by kernel_rfl) (by kernel_rfl) (by exact fun _ _ _ h=>h) (Or.inl ⟨by rfl,?_⟩) (by with_reducible exact hS) ?_
      rotate_left
      ·intro W hSw;(obtain⟨⟨x0,x1,x2,x3,x4⟩,⟨z0,z1,z2,z3,z4⟩,-⟩:=hSw);go_simp;all_goals (with_reducible rfl)
      try simp only[Act.put,List.setIfInBounds_toArray,List.set_cons_zero,List.set_cons_succ]
      refine wpAnyH_take (i:=23) (v:=?_) (by simp only[List.getElem?_toArray,List.getElem?_cons_succ,List.getElem?_cons_zero];rfl) (by kernel_rfl) (by kernel_rfl) (by kernel_rfl) (by exact fun _ _ _ h=>h) (Or.inl ⟨by rfl,?_⟩) (by with_reducible exact hS) ?_
      rotate_left
      ·intro W hSw;(obtain⟨⟨x0,x1,x2,x3,x4⟩,⟨z0,z1,z2,z3,z4⟩,-⟩:=hSw);go_simp;all_goals (with_reducible rfl)
      try simp only[Act.put,List.setIfInBounds_toArray,List.set_cons_zero,List.set_cons_succ]
      refine wpAnyH_take (i:=24) (v:=?_) (by simp only[List.getElem?_toArray,List.getElem?_cons_succ,List.getElem?_cons_zero];rfl) (by kernel_rfl) (by kernel_rfl) (by kernel_rfl) (by exact fun _ _ _ h=>h) (Or.inl ⟨by rfl,?_⟩) (by with_reducible exact hS) ?_
      rotate_left
      ·intro W hSw;(obtain⟨⟨x0,x1,x2,x3,x4⟩,⟨z0,z1,z2,z3,z4⟩,-⟩:=hSw);go_simp;all_goals (with_reducible rfl)
      try simp only[Act.put,List.setIfInBounds_toArray,List.set_cons_zero,List.set_cons_succ]
      refine wpAnyH_take (i:=25) (v:=?_) (by simp only[List.getElem?_toArray,List.getElem?_cons_succ,List.getElem?_cons_zero];rfl) (by kernel_rfl) (by kernel_rfl) (by kernel_rfl) (by exact fun _ _ _ h=>h) (Or.inl ⟨by rfl,?_⟩) (by with_reducible exact hS) ?_
      rotate_left
      ·intro W hSw;(obtain⟨⟨x0,x1,x2,x3,x4⟩,⟨z0,z1,z2,z3,z4⟩,-⟩:=hSw);go_simp;all_goals (with_reducible rfl)
      try simp only[Act.put,List.setIfInBounds_toArray,List.set_cons_zero,List.set_cons_succ]
      refine wpAnyH_take (i:=26) (v:=?_) (by simp only[List.getElem?_toArray,List.getElem?_cons_succ,List.getElem?_cons_zero];rfl) (by kernel_rfl) (by kernel_rfl) (by kernel_rfl) (by exact fun _ _ _ h=>h) (Or.inl ⟨by rfl,?_⟩) (by with_reducible exact hS) ?_
      rotate_left
      ·intro W hSw;(obtain⟨⟨x0,x1,x2,x3,x4⟩,⟨z0,z1,z2,z3,z4⟩,-⟩:=hSw);go_simp;all_goals (with_reducible rfl)
      try simp only[Act.put,List.setIfInBounds_toArray,List.set_cons_zero,List.set_cons_succ]
      refine wpAnyH_take (i:=27) (v:=?_) (by simp only[List.getElem?_toArray,List.getElem?_cons_succ,List.getElem?_cons_zero];rfl) (by kernel_rfl) (by kernel_rfl) (by kernel_rfl) (by exact fun _ _ _ h=>h) (Or.inl ⟨by rfl,?_⟩) (by with_reducible exact hS) ?_
      rotate_left
      ·intro W hSw;(obtain⟨⟨x0,x1,x2,x3,x4⟩,⟨z0,z1,z2,z3,z4⟩,-⟩:=hSw);go_simp;all_goals (with_reducible rfl)
      try simp only[Act.put,List.setIfInBounds_toArray,List.set_cons_zero,List.set_cons_succ]
      refine Rg.take_un 28 (by simp only[List.getElem?_toArray,List.getElem?_cons_succ,List.getElem?_cons_zero];rfl) (by kernel_rfl) (by kernel_rfl) (by kernel_rfl) (by exact fun _ _ _ h=>h) (by rfl) (by with_reducible exact hS) ?_
      try simp only[Act.put,List.setIfInBounds_toArray,List.set_cons_zero,List.set_cons_succ]
      refine Rg.take_un 29 (by simp only[List.getElem?_toArray,List.getElem?_cons_succ,List.getElem?_cons_zero];rfl) (by kernel_rfl) (by kernel_rfl) (by kernel_rfl) (by exact fun _ _ _ h=>h) (by rfl) (by with_reducible exact hS) ?_
      try simp only[Act.put,List.setIfInBounds_toArray,List.set_cons_zero,List.set_cons_succ]
      refine Rg.take_un 30 (by simp only[List.getElem?_toArray,List.getElem?_cons_succ,List.getElem?_cons_zero];rfl) (by kernel_rfl) (by kernel_rfl) (by kernel_rfl) (by exact fun _ _ _ h=>h) (by rfl) (by with_reducible exact hS) ?_
      try simp only[Act.put,List.setIfInBounds_toArray,List.set_cons_zero,List.set_cons_succ]
      refine Rg.take_un 31 (by simp only[List.getElem?_toArray,List.getElem?_cons_succ,List.getElem?_cons_zero];rfl) (by kernel_rfl) (by kernel_rfl) (by kernel_rfl) (by exact fun _ _ _ h=>h) (by rfl) (by with_reducible exact hS) ?_
      try simp only[Act.put,List.setIfInBounds_toArray,List.set_cons_zero,List.set_cons_succ]
      refine Rg.take_un 32 (by simp only[List.getElem?_toArray,List.getElem?_cons_succ,List.getElem?_cons_zero];rfl) (by kernel_rfl) (by kernel_rfl) (by kernel_rfl) (by exact fun _ _ _ h=>h) (by rfl) (by with_reducible exact hS) ?_
      try simp only[Act.put,List.setIfInBounds_toArray,List.set_cons_zero,List.set_cons_succ]
      refine Rg.take_un 33 (by simp only[List.getElem?_toArray,List.getElem?_cons_succ,List.getElem?_cons_zero];rfl) (by kernel_rfl) (by kernel_rfl) (by kernel_rfl) (by exact fun _ _ _ h=>h) (by rfl) (by with_reducible exact hS) ?_
      try simp only[Act.put,List.setIfInBounds_toArray,List.set_cons_zero,List.set_cons_succ]
      refine Rg.take_un 34 (by simp only[List.getElem?_toArray,List.getElem?_cons_succ,List.getElem?_cons_zero];rfl) (by kernel_rfl) (by kernel_rfl) (by kernel_rfl) (by exact fun _ _ _ h=>h) (by rfl) (by with_reducible exact hS) ?_
      try simp only[Act.put,List.setIfInBounds_toArray,List.set_cons_zero,List.set_cons_succ]
      refine Rg.take_un 35 (by simp only[List.getElem?_toArray,List.getElem?_cons_succ,List.getElem?_cons_zero];rfl) (by kernel_rfl) (by kernel_rfl) (by kernel_rfl) (by exact fun _ _ _ h=>h) (by rfl) (by with_reducible exact hS) ?_
      try simp only[Act.put,List.setIfInBounds_toArray,List.set_cons_zero,List.set_cons_succ]
      refine Rg.take_un 36 (by simp only[List.getElem?_toArray,List.getElem?_cons_succ,List.getElem?_cons_zero];rfl) (by kernel_rfl) (by kernel_rfl) (by kernel_rfl) (by exact fun _ _ _ h=>h) (by rfl) (by with_reducible exact hS) ?_
      try simp only[Act.put,List.setIfInBounds_toArray,List.set_cons_zero,List.set_cons_succ]
      refine Rg.take_un 37 (by simp only[List.getElem?_toArray,List.getElem?_cons_succ,List.getElem?_cons_zero];rfl) (by kernel_rfl) (by kernel_rfl) (by kernel_rfl) (by exact fun _ _ _ h=>h) (by rfl) (by with_reducible exact hS) ?_
      try simp only[Act.put,List.setIfInBounds_toArray,List.set_cons_zero,List.set_cons_succ]
      refine Rg.take_un 38 (by simp only[List.getElem?_toArray,List.getElem?_cons_succ,List.getElem?_cons_zero];rfl) (by kernel_rfl) (by kernel_rfl) (by kernel_rfl) (by exact fun _ _ _ h=>h) (by rfl) (by with_reducible exact hS) ?_
      try simp only[Act.put,List.setIfInBounds_toArray,List.set_cons_zero,List.set_cons_succ]
      refine Rg.take_un 39 (by simp only[List.getElem?_toArray,List.getElem?_cons_succ,List.getElem?_cons_zero];rfl) (by kernel_rfl) (by kernel_rfl) (by kernel_rfl) (by exact fun _ _ _ h=>h) (by rfl) (by with_reducible exact hS) ?_
      try simp only[Act.put,List.setIfInBounds_toArray,List.set_cons_zero,List.set_cons_succ]
      refine Rg.take_un 40 (by simp only[List.getElem?_toArray,List.getElem?_cons_succ,List.getElem?_cons_zero];rfl) (by kernel_rfl) (by kernel_rfl) (by kernel_rfl) (by exact fun _ _ _ h=>h) (by rfl) (by with_reducible exact hS) ?_
      try simp only[Act.put,List.setIfInBounds_toArray,List.set_cons_zero,List.set_cons_succ]
      refine wpAnyH_take (i:=41) (v:=?_) (by simp only[List.getElem?_toArray,List.getElem?_cons_succ,List.getElem?_cons_zero];rfl) (by kernel_rfl) (by kernel_rfl) (by kernel_rfl) (by exact fun _ _ _ h=>h) (Or.inl ⟨by rfl,?_⟩) (by with_reducible exact hS) ?_
      rotate_left
      ·intro W hSw;(obtain⟨⟨x0,x1,x2,x3,x4⟩,⟨z0,z1,z2,z3,z4⟩,-⟩:=hSw);go_simp;all_goals (with_reducible rfl)
      try simp only[Act.put,List.setIfInBounds_toArray,List.set_cons_zero,List.set_cons_succ]
      refine wpAnyH_take (i:=42) (v:=?_) (by simp only[List.getElem?_toArray,List.getElem?_cons_succ,List.getElem?_cons_zero];rfl) (by kernel_rfl) (by kernel_rfl) (by kernel_rfl) (by exact fun _ _ _ h=>h) (Or.inl ⟨by rfl,?_⟩) (by with_reducible exact hS) ?_
      rotate_left
      ·intro W hSw;(obtain⟨⟨x0,x1,x2,x3,x4⟩,⟨z0,z1,z2,z3,z4⟩,-⟩:=hSw);go_simp;all_goals (with_reducible rfl)
      try simp only[Act.put,List.setIfInBounds_toArray,List.set_cons_zero,List.set_cons_succ]
      refine wpAnyH_done (by kernel_rfl) ?_ _
      have HE:=Lib.hid hS.2.2
      clear hS
      go_wp2
      go_roundw
      case rel=>exact⟨j+1,some (k,y2),by simp[slI],by go_num,by omega,HN.out,HE.out⟩
      case measure=>simp[intOf];omega
     have u2:(xp==zp)=true:=beq_iff_eq.2 v2
     by_cases v3:Z.size<X.size
     ·have HN:=Lib.hid (show Sofar l (bytesN S) p most (j+1) (some (j,y)) from by
       have h:=HNS.out
       rw[if_pos (hah.2 (.inr ⟨v2,v3⟩))]at h
       exact h)
      have u3:decide ((Z.size:Int)<(X.size:Int))=true:=decide_eq_true (by omega)
      have u3':decide (Z.size<X.size)=true:=decide_eq_true v3
      clear hah
      go_wp2_with fail
      have hS:=(HC2.out _ HB2.out.drew)
      refine wp_region_held_drew (S:=fun W=>CellsR W g (off+j * 5) xq X xt xp xn∧CellsR W g (off+k * 5) zq Z zt zp zn∧Below w.heap.size w W) (by kernel_rfl) hS (fun hHeld=>?_)
      refine wpAnyH_take (i:=0) (v:=?_) (by simp only[List.getElem?_toArray,List.getElem?_cons_zero];rfl) (by kernel_rfl) (by kernel_rfl) (by kernel_rfl) (by exact fun _ _ _ h=>h) (Or.inl ⟨by rfl,?_⟩) (by with_reducible exact hS) ?_
      rotate_left
      ·intro W hSw;(obtain⟨⟨x0,x1,x2,x3,x4⟩,⟨z0,z1,z2,z3,z4⟩,-⟩:=hSw);go_simp;all_goals (with_reducible rfl)
      try simp only[Act.put,List.setIfInBounds_toArray,List.set_cons_zero,List.set_cons_succ]
      refine wpAnyH_take (i:=1) (v:=?_) (by simp only[List.getElem?_toArray,List.getElem?_cons_succ,List.getElem?_cons_zero];rfl) (by kernel_rfl) (by kernel_rfl) (by kernel_rfl) (by exact fun _ _ _ h=>h) (Or.inl ⟨by rfl,?_⟩) (by with_reducible exact hS) ?_
      rotate_left
      ·intro W hSw;(obtain⟨⟨x0,x1,x2,x3,x4⟩,⟨z0,z1,z2,z3,z4⟩,-⟩:=hSw);go_simp;all_goals (with_reducible rfl)
      try simp only[Act.put,List.setIfInBounds_toArray,List.set_cons_zero,List.set_cons_succ]
      refine wpAnyH_take (i:=2) (v:=?_) (by simp only[List.getElem?_toArray,List.getElem?_cons_succ,List.getElem?_cons_zero];rfl) (by kernel_rfl) (by kernel_rfl) (by kernel_rfl) (by exact fun _ _ _ h=>h) (Or.inl ⟨by rfl,?_⟩) (by with_reducible exact hS) ?_
      rotate_left
      ·intro W hSw;(obtain⟨⟨x0,x1,x2,x3,x4⟩,⟨z0,z1,z2,z3,z4⟩,-⟩:=hSw);go_simp;all_goals (with_reducible rfl)
      try simp only[Act.put,List.setIfInBounds_toArray,List.set_cons_zero,List.set_cons_succ]
      refine wpAnyH_take (i:=3) (v:=?_) (by simp only[List.getElem?_toArray,List.getElem?_cons_succ,List.getElem?_cons_zero];rfl) (by kernel_rfl) (by kernel_rfl) (by kernel_rfl) (by exact fun _ _ _ h=>h) (Or.inl ⟨by rfl,?_⟩) (by with_reducible exact hS) ?_
      rotate_left
      ·intro W hSw;(obtain⟨⟨x0,x1,x2,x3,x4⟩,⟨z0,z1,z2,z3,z4⟩,-⟩:=hSw);go_simp;all_goals (with_reducible rfl)
      try simp only[Act.put,List.setIfInBounds_toArray,List.set_cons_zero,List.set_cons_succ]
      refine wpAnyH_take (i:=4) (v:=?_) (by simp only[List.getElem?_toArray,List.getElem?_cons_succ,List.getElem?_cons_zero];rfl) (by kernel_rfl) (by kernel_rfl) (by kernel_rfl) (by exact fun _ _ _ h=>h) (Or.inl ⟨by rfl,?_⟩) (by with_reducible exact hS) ?_
      rotate_left
      ·intro W hSw;(obtain⟨⟨x0,x1,x2,x3,x4⟩,⟨z0,z1,z2,z3,z4⟩,-⟩:=hSw);go_simp;all_goals (with_reducible rfl)
      try simp only[Act.put,List.setIfInBounds_toArray,List.set_cons_zero,List.set_cons_succ]
      refine wpAnyH_take (i:=5) (v:=?_) (by simp only[List.getElem?_toArray,List.getElem?_cons_succ,List.getElem?_cons_zero];rfl) (by kernel_rfl) (by kernel_rfl) (by kernel_rfl) (by exact fun _ _ _ h=>h) (Or.inl ⟨by rfl,?_⟩) (by with_reducible exact hS) ?_
      rotate_left
      ·intro W hSw;(obtain⟨⟨x0,x1,x2,x3,x4⟩,⟨z0,z1,z2,z3,z4⟩,-⟩:=hSw);go_simp;all_goals (with_reducible rfl)
      try simp only[Act.put,List.setIfInBounds_toArray,List.set_cons_zero,List.set_cons_succ]
      refine wpAnyH_take (i:=6) (v:=?_) (by simp only[List.getElem?_toArray,List.getElem?_cons_succ,List.getElem?_cons_zero];rfl) (by kernel_rfl) (by kernel_rfl) (by kernel_rfl) (by exact fun _ _ _ h=>h) (Or.inl ⟨by rfl,?_⟩) (by with_reducible exact hS) ?_
      rotate_left
      ·intro W hSw;(obtain⟨⟨x0,x1,x2,x3,x4⟩,⟨z0,z1,z2,z3,z4⟩,-⟩:=hSw);go_simp;all_goals (with_reducible rfl)
      try simp only[Act.put,List.setIfInBounds_toArray,List.set_cons_zero,List.set_cons_succ]
      refine wpAnyH_take (i:=7) (v:=?_) (by simp only[List.getElem?_toArray,List.getElem?_cons_succ,List.getElem?_cons_zero];rfl) (by kernel_rfl) (by kernel_rfl) (by kernel_rfl) (by exact fun _ _ _ h=>h) (Or.inl ⟨by rfl,?_⟩) (by with_reducible exact hS) ?_
      rotate_left
      ·intro W hSw;(obtain⟨⟨x0,x1,x2,x3,x4⟩,⟨z0,z1,z2,z3,z4⟩,-⟩:=hSw);go_simp;all_goals (with_reducible rfl)
      try simp only[Act.put,List.setIfInBounds_toArray,List.set_cons_zero,List.set_cons_succ]
      refine wpAnyH_take (i:=8) (v:=?_) (by simp only[List.getElem?_toArray,List.getElem?_cons_succ,List.getElem?_cons_zero];rfl) (by kernel_rfl) (by kernel_rfl) (by kernel_rfl) (by exact fun _ _ _ h=>h) (Or.inl ⟨by rfl,?_⟩) (by with_reducible exact hS) ?_
      rotate_left
      ·intro W hSw;(obtain⟨⟨x0,x1,x2,x3,x4⟩,⟨z0,z1,z2,z3,z4⟩,-⟩:=hSw);go_simp;all_goals (with_reducible rfl)
      try simp only[Act.put,List.setIfInBounds_toArray,List.set_cons_zero,List.set_cons_succ]
      refine wpAnyH_take (i:=9) (v:=?_) (by simp only[List.getElem?_toArray,List.getElem?_cons_succ,List.getElem?_cons_zero];rfl) (by kernel_rfl) (by kernel_rfl) (by kernel_rfl) (by exact fun _ _ _ h=>h) (Or.inl ⟨by rfl,?_⟩) (by with_reducible exact hS) ?_
      rotate_left
      ·intro W hSw;(obtain⟨⟨x0,x1,x2,x3,x4⟩,⟨z0,z1,z2,z3,z4⟩,-⟩:=hSw);go_simp;all_goals (with_reducible rfl)
      try simp only[Act.put,List.setIfInBounds_toArray,List.set_cons_zero,List.set_cons_succ]
      refine wpAnyH_take (i:=10) (v:=?_) (by simp only[List.getElem?_toArray,List.getElem?_cons_succ,List.getElem?_cons_zero];rfl) (by kernel_rfl) (by kernel_rfl) (by kernel_rfl) (by exact fun _ _ _ h=>h) (Or.inl ⟨by rfl,?_⟩) (by with_reducible exact hS) ?_
      rotate_left
      ·intro W hSw;(obtain⟨⟨x0,x1,x2,x3,x4⟩,⟨z0,z1,z2,z3,z4⟩,-⟩:=hSw);go_simp;all_goals (with_reducible rfl)
      try simp only[Act.put,List.setIfInBounds_toArray,List.set_cons_zero,List.set_cons_succ]
      refine wpAnyH_take (i:=11) (v:=?_) (by simp only[List.getElem?_toArray,List.getElem?_cons_succ,List.getElem?_cons_zero];rfl) (by kernel_rfl) (by kernel_rfl) (by kernel_rfl) (by exact fun _ _ _ h=>h) (Or.inl ⟨by rfl,?_⟩) (by with_reducible exact hS) ?_
      rotate_left
      ·intro W hSw;(obtain⟨⟨x0,x1,x2,x3,x4⟩,⟨z0,z1,z2,z3,z4⟩,-⟩:=hSw);go_simp;all_goals (with_reducible rfl)
      try simp only[Act.put,List.setIfInBounds_toArray,List.set_cons_zero,List.set_cons_succ]
      refine wpAnyH_take (i:=12) (v:=?_) (by simp only[List.getElem?_toArray,List.getElem?_cons_succ,List.getElem?_cons_zero];rfl) (by kernel_rfl) (by kernel_rfl) (by kernel_rfl) (by exact fun _ _ _ h=>h) (Or.inl ⟨by rfl,?_⟩) (by with_reducible exact hS) ?_
      rotate_left
      ·intro W hSw;(obtain⟨⟨x0,x1,x2,x3,x4⟩,⟨z0,z1,z2,z3,z4⟩,-⟩:=hSw);go_simp;all_goals (with_reducible rfl)
      try simp only[Act.put,List.setIfInBounds_toArray,List.set_cons_zero,List.set_cons_succ]
      refine wpAnyH_take (i:=13) (v:=?_) (by simp only[List.getElem?_toArray,List.getElem?_cons_succ,List.getElem?_cons_zero];rfl) (by kernel_rfl) (by kernel_rfl) (by kernel_rfl) (by exact fun _ _ _ h=>h) (Or.inl ⟨by rfl,?_⟩) (by with_reducible exact hS) ?_
      rotate_left
      ·intro W hSw;(obtain⟨⟨x0,x1,x2,x3,x4⟩,⟨z0,z1,z2,z3,z4⟩,-⟩:=hSw);go_simp;all_goals (with_reducible rfl)
      try simp only[Act.put,List.setIfInBounds_toArray,List.set_cons_zero,List.set_cons_succ]
      refine wpAnyH_take (i:=14) (v:=?_) (by simp only[List.getElem?_toArray,List.getElem?_cons_succ,List.getElem?_cons_zero];rfl) (by kernel_rfl) (by kernel_rfl) (by kernel_rfl) (by exact fun _ _ _ h=>h) (Or.inl ⟨by rfl,?_⟩) (by with_reducible exact hS) ?_
      rotate_left
      ·intro W hSw;(obtain⟨⟨x0,x1,x2,x3,x4⟩,⟨z0,z1,z2,z3,z4⟩,-⟩:=hSw);go_simp;all_goals (with_reducible rfl)
      try simp only[Act.put,List.setIfInBounds_toArray,List.set_cons_zero,List.set_cons_succ]
      refine wpAnyH_take (i:=15) (v:=?_) (by simp only[List.getElem?_toArray,List.getElem?_cons_succ,List.getElem?_cons_zero];rfl) (by kernel_rfl) (by kernel_rfl) (by kernel_rfl) (by exact fun _ _ _ h=>h) (Or.inl ⟨by rfl,?_⟩) (by with_reducible exact hS) ?_
      rotate_left
      ·intro W hSw;(obtain⟨⟨x0,x1,x2,x3,x4⟩,⟨z0,z1,z2,z3,z4⟩,-⟩:=hSw);go_simp;all_goals (with_reducible rfl)
      try simp only[Act.put,List.setIfInBounds_toArray,List.set_cons_zero,List.set_cons_succ]
      refine wpAnyH_take (i:=16) (v:=?_) (by simp only[List.getElem?_toArray,List.getElem?_cons_succ,List.getElem?_cons_zero];rfl) (by kernel_rfl) (by kernel_rfl) (by kernel_rfl) (by exact fun _ _ _ h=>h) (Or.inl ⟨by rfl,?_⟩) (by with_reducible exact hS) ?_
      rotate_left
      ·intro W hSw;(obtain⟨⟨x0,x1,x2,x3,x4⟩,⟨z0,z1,z2,z3,z4⟩,-⟩:=hSw);go_simp;all_goals (with_reducible rfl)
      try simp only[Act.put,List.setIfInBounds_toArray,List.set_cons_zero,List.set_cons_succ]
      refine wpAnyH_take (i:=17) (v:=?_) (by simp only[List.getElem?_toArray,List.getElem?_cons_succ,List.getElem?_cons_zero];rfl) (by kernel_rfl) (by kernel_rfl) (by kernel_rfl) (by exact fun _ _ _ h=>h) (Or.inl ⟨by rfl,?_⟩) (by with_reducible exact hS) ?_
      rotate_left
      ·intro W hSw;(obtain⟨⟨x0,x1,x2,x3,x4⟩,⟨z0,z1,z2,z3,z4⟩,-⟩:=hSw);go_simp;all_goals (with_reducible rfl)
      try simp only[Act.put,List.setIfInBounds_toArray,List.set_cons_zero,List.set_cons_succ]
      refine wpAnyH_take (i:=18) (v:=?_) (by simp only[List.getElem?_toArray,List.getElem?_cons_succ,List.getElem?_cons_zero];rfl) (by kernel_rfl) (by kernel_rfl) (by kernel_rfl) (by exact fun _ _ _ h=>h) (Or.inl ⟨by rfl,?_⟩) (by with_reducible exact hS) ?_
      rotate_left
      ·intro W hSw;(obtain⟨⟨x0,x1,x2,x3,x4⟩,⟨z0,z1,z2,z3,z4⟩,-⟩:=hSw);go_simp;all_goals (with_reducible rfl)
      try simp only[Act.put,List.setIfInBounds_toArray,List.set_cons_zero,List.set_cons_succ]
      refine wpAnyH_take (i:=19) (v:=?_) (by simp only[List.getElem?_toArray,List.getElem?_cons_succ,List.getElem?_cons_zero];rfl) (by kernel_rfl) (by kernel_rfl) (by kernel_rfl) (by exact fun _ _ _ h=>h) (Or.inl ⟨by rfl,?_⟩) (by with_reducible exact hS) ?_
      rotate_left
      ·intro W hSw;(obtain⟨⟨x0,x1,x2,x3,x4⟩,⟨z0,z1,z2,z3,z4⟩,-⟩:=hSw);go_simp;all_goals (with_reducible rfl)
      try simp only[Act.put,List.setIfInBounds_toArray,List.set_cons_zero,List.set_cons_succ]
      refine wpAnyH_take (i:=20) (v:=?_) (by simp only[List.getElem?_toArray,List.getElem?_cons_succ,List.getElem?_cons_zero];rfl) (by kernel_rfl) (by kernel_rfl) (by kernel_rfl) (by exact fun _ _ _ h=>h) (Or.inl ⟨by rfl,?_⟩) (by with_reducible exact hS) ?_
      rotate_left
      ·intro W hSw;(obtain⟨⟨x0,x1,x2,x3,x4⟩,⟨z0,z1,z2,z3,z4⟩,-⟩:=hSw);go_simp;all_goals (with_reducible rfl)
      try simp only[Act.put,List.setIfInBounds_toArray,List.set_cons_zero,List.set_cons_succ]
      refine wpAnyH_take (i:=21) (v:=?_) (by simp only[List.getElem?_toArray,List.getElem?_cons_succ,List.getElem?_cons_zero];rfl) (by kernel_rfl) (by kernel_rfl) (by kernel_rfl) (by exact fun _ _ _ h=>h) (Or.inl ⟨by rfl,?_⟩) (by with_reducible exact hS) ?_
      rotate_left
      ·intro W hSw;(obtain⟨⟨x0,x1,x2,x3,x4⟩,⟨z0,z1,z2,z3,z4⟩,-⟩:=hSw);go_simp;all_goals (with_reducible rfl)
      try simp only[Act.put,List.setIfInBounds_toArray,List.set_cons_zero,List.set_cons_succ]
      refine wpAnyH_take (i:=22) (v:=?_) (by simp only[List.getElem?_toArray,List.getElem?_cons_succ,List.getElem?_cons_zero];rfl) (by kernel_rfl) (by kernel_rfl) (by kernel_rfl) (by exact fun _ _ _ h=>h) (Or.inl ⟨by rfl,?_⟩) (by with_reducible exact hS) ?_
      rotate_left
      ·intro W hSw;(obtain⟨⟨x0,x1,x2,x3,x4⟩,⟨z0,z1,z2,z3,z4⟩,-⟩:=hSw);go_simp;all_goals (with_reducible rfl)
      try simp only[Act.put,List.setIfInBounds_toArray,List.set_cons_zero,List.set_cons_succ]
      refine wpAnyH_take (i:=23) (v:=?_) (by simp only[List.getElem?_toArray,List.getElem?_cons_succ,List.getElem?_cons_zero];rfl) (by kernel_rfl) (by kernel_rfl) (by kernel_rfl) (by exact fun _ _ _ h=>h) (Or.inl ⟨by rfl,?_⟩) (by with_reducible exact hS) ?_
      rotate_left
      ·intro W hSw;(obtain⟨⟨x0,x1,x2,x3,x4⟩,⟨z0,z1,z2,z3,z4⟩,-⟩:=hSw);go_simp;all_goals (with_reducible rfl)
      try simp only[Act.put,List.setIfInBounds_toArray,List.set_cons_zero,List.set_cons_succ]
      refine wpAnyH_take (i:=24) (v:=?_) (by simp only[List.getElem?_toArray,List.getElem?_cons_succ,List.getElem?_cons_zero];rfl) (by kernel_rfl) (by kernel_rfl) (by kernel_rfl) (by exact fun _ _ _ h=>h) (Or.inl ⟨by rfl,?_⟩) (by with_reducible exact hS) ?_
      rotate_left
      ·intro W hSw;(obtain⟨⟨x0,x1,x2,x3,x4⟩,⟨z0,z1,z2,z3,z4⟩,-⟩:=hSw);go_simp;all_goals (with_reducible rfl)
      try simp only[Act.put,List.setIfInBounds_toArray,List.set_cons_zero,List.set_cons_succ]
      refine wpAnyH_take (i:=25) (v:=?_) (by simp only[List.getElem?_toArray,List.getElem?_cons_succ,List.getElem?_cons_zero];rfl) (by kernel_rfl) (by kernel_rfl) (by kernel_rfl) (by exact fun _ _ _ h=>h) (Or.inl ⟨by rfl,?_⟩) (by with_reducible exact hS) ?_
      rotate_left
      ·intro W hSw;(obtain⟨⟨x0,x1,x2,x3,x4⟩,⟨z0,z1,z2,z3,z4⟩,-⟩:=hSw);go_simp;all_goals (with_reducible rfl)
      try simp only[Act.put,List.setIfInBounds_toArray,List.set_cons_zero,List.set_cons_succ]
      refine wpAnyH_take (i:=26) (v:=?_) (by simp only[List.getElem?_toArray,List.getElem?_cons_succ,List.getElem?_cons_zero];rfl) (by kernel_rfl) (by kernel_rfl) (by kernel_rfl) (by exact fun _ _ _ h=>h) (Or.inl ⟨by rfl,?_⟩) (by with_reducible exact hS) ?_
      rotate_left
      ·intro W hSw;(obtain⟨⟨x0,x1,x2,x3,x4⟩,⟨z0,z1,z2,z3,z4⟩,-⟩:=hSw);go_simp;all_goals (with_reducible rfl)
      try simp only[Act.put,List.setIfInBounds_toArray,List.set_cons_zero,List.set_cons_succ]
      refine wpAnyH_take (i:=27) (v:=?_) (by simp only[List.getElem?_toArray,List.getElem?_cons_succ,List.getElem?_cons_zero];rfl) (by kernel_rfl) (by kernel_rfl) (by kernel_rfl) (by exact fun _ _ _ h=>h) (Or.inl ⟨by rfl,?_⟩) (by with_reducible exact hS) ?_
      rotate_left
      ·intro W hSw;(obtain⟨⟨x0,x1,x2,x3,x4⟩,⟨z0,z1,z2,z3,z4⟩,-⟩:=hSw);go_simp;all_goals (with_reducible rfl)
      try simp only[Act.put,List.setIfInBounds_toArray,List.set_cons_zero,List.set_cons_succ]
      refine wpAnyH_take (i:=28) (v:=?_) (by simp only[List.getElem?_toArray,List.getElem?_cons_succ,List.getElem?_cons_zero];rfl) (by kernel_rfl) (by kernel_rfl) (by kernel_rfl) (by exact fun _ _ _ h=>h) (Or.inl ⟨by rfl,?_⟩) (by with_reducible exact hS) ?_
      rotate_left
      ·intro W hSw;(obtain⟨⟨x0,x1,x2,x3,x4⟩,⟨z0,z1,z2,z3,z4⟩,-⟩:=hSw);go_simp;all_goals (with_reducible rfl)
      try simp only[Act.put,List.setIfInBounds_toArray,List.set_cons_zero,List.set_cons_succ]
      refine wpAnyH_take (i:=29) (v:=?_) (by simp only[List.getElem?_toArray,List.getElem?_cons_succ,List.getElem?_cons_zero];rfl) (by kernel_rfl) (by kernel_rfl) (by kernel_rfl) (by exact fun _ _ _ h=>h) (Or.inl ⟨by rfl,?_⟩) (by with_reducible exact hS) ?_
      rotate_left
      ·intro W hSw;(obtain⟨⟨x0,x1,x2,x3,x4⟩,⟨z0,z1,z2,z3,z4⟩,-⟩:=hSw);go_simp;all_goals (with_reducible rfl)
      try simp only[Act.put,List.setIfInBounds_toArray,List.set_cons_zero,List.set_cons_succ]
      refine wpAnyH_take (i:=30) (v:=?_) (by simp only[List.getElem?_toArray,List.getElem?_cons_succ,List.getElem?_cons_zero];rfl) (by kernel_rfl) (by kernel_rfl) (by kernel_rfl) (by exact fun _ _ _ h=>h) (Or.inl ⟨by rfl,?_⟩) (by with_reducible exact hS) ?_
      rotate_left
      ·intro W hSw;(obtain⟨⟨x0,x1,x2,x3,x4⟩,⟨z0,z1,z2,z3,z4⟩,-⟩:=hSw);go_simp;all_goals (with_reducible rfl)
      try simp only[Act.put,List.setIfInBounds_toArray,List.set_cons_zero,List.set_cons_succ]
      refine wpAnyH_take (i:=31) (v:=?_) (by simp only[List.getElem?_toArray,List.getElem?_cons_succ,List.getElem?_cons_zero];rfl) (by kernel_rfl) (by kernel_rfl) (by kernel_rfl) (by exact fun _ _ _ h=>h) (Or.inl ⟨by rfl,?_⟩) (by with_reducible exact hS) ?_
      rotate_left
      ·intro W hSw;(obtain⟨⟨x0,x1,x2,x3,x4⟩,⟨z0,z1,z2,z3,z4⟩,-⟩:=hSw);go_simp;all_goals (with_reducible rfl)
      try simp only[Act.put,List.setIfInBounds_toArray,List.set_cons_zero,List.set_cons_succ]
      refine wpAnyH_take (i:=32) (v:=?_) (by simp only[List.getElem?_toArray,List.getElem?_cons_succ,List.getElem?_cons_zero];rfl) (by kernel_rfl) (by kernel_rfl) (by kernel_rfl) (by exact fun _ _ _ h=>h) (Or.inl ⟨by rfl,?_⟩) (by with_reducible exact hS) ?_
      rotate_left
      ·intro W hSw;(obtain⟨⟨x0,x1,x2,x3,x4⟩,⟨z0,z1,z2,z3,z4⟩,-⟩:=hSw);go_simp;all_goals (with_reducible rfl)
      try simp only[Act.put,List.setIfInBounds_toArray,List.set_cons_zero,List.set_cons_succ]
      refine wpAnyH_take (i:=33) (v:=?_) (by simp only[List.getElem?_toArray,List.getElem?_cons_succ,List.getElem?_cons_zero];rfl) (by kernel_rfl) (by kernel_rfl) (by kernel_rfl) (by exact fun _ _ _ h=>h) (Or.inl ⟨by rfl,?_⟩) (by with_reducible exact hS) ?_
      rotate_left
      ·intro W hSw;(obtain⟨⟨x0,x1,x2,x3,x4⟩,⟨z0,z1,z2,z3,z4⟩,-⟩:=hSw);go_simp;all_goals (with_reducible rfl)
      try simp only[Act.put,List.setIfInBounds_toArray,List.set_cons_zero,List.set_cons_succ]
      refine wpAnyH_take (i:=34) (v:=?_) (by simp only[List.getElem?_toArray,List.getElem?_cons_succ,List.getElem?_cons_zero];rfl) (by kernel_rfl) (by kernel_rfl) (by kernel_rfl) (by exact fun _ _ _ h=>h) (Or.inl ⟨by rfl,?_⟩) (by with_reducible exact hS) ?_
      rotate_left
      ·intro W hSw;(obtain⟨⟨x0,x1,x2,x3,x4⟩,⟨z0,z1,z2,z3,z4⟩,-⟩:=hSw);go_simp;all_goals (with_reducible rfl)
      try simp only[Act.put,List.setIfInBounds_toArray,List.set_cons_zero,List.set_cons_succ]
      refine wpAnyH_take (i:=35) (v:=?_) (by simp only[List.getElem?_toArray,List.getElem?_cons_succ,List.getElem?_cons_zero];rfl) (by kernel_rfl) (by kernel_rfl) (by kernel_rfl) (by exact fun _ _ _ h=>h) (Or.inl ⟨by rfl,?_⟩) (by with_reducible exact hS) ?_
      rotate_left
      ·intro W hSw;(obtain⟨⟨x0,x1,x2,x3,x4⟩,⟨z0,z1,z2,z3,z4⟩,-⟩:=hSw);go_simp;all_goals (with_reducible rfl)
      try simp only[Act.put,List.setIfInBounds_toArray,List.set_cons_zero,List.set_cons_succ]
      refine wpAnyH_take (i:=36) (v:=?_) (by simp only[List.getElem?_toArray,List.getElem?_cons_succ,List.getElem?_cons_zero];rfl) (by kernel_rfl) (by kernel_rfl) (by kernel_rfl) (by exact fun _ _ _ h=>h) (Or.inl ⟨by rfl,?_⟩) (by with_reducible exact hS) ?_
      rotate_left
      ·intro W hSw;(obtain⟨⟨x0,x1,x2,x3,x4⟩,⟨z0,z1,z2,z3,z4⟩,-⟩:=hSw);go_simp;all_goals (with_reducible rfl)
      try simp only[Act.put,List.setIfInBounds_toArray,List.set_cons_zero,List.set_cons_succ]
      refine wpAnyH_take (i:=37) (v:=?_) (by simp only[List.getElem?_toArray,List.getElem?_cons_succ,List.getElem?_cons_zero];rfl) (by kernel_rfl) (by kernel_rfl) (by kernel_rfl) (by exact fun _ _ _ h=>h) (Or.inl ⟨by rfl,?_⟩) (by with_reducible exact hS) ?_
      rotate_left
      ·intro W hSw;(obtain⟨⟨x0,x1,x2,x3,x4⟩,⟨z0,z1,z2,z3,z4⟩,-⟩:=hSw);go_simp;all_goals (with_reducible rfl)
      try simp only[Act.put,List.setIfInBounds_toArray,List.set_cons_zero,List.set_cons_succ]
      refine wpAnyH_take (i:=38) (v:=?_) (by simp only[List.getElem?_toArray,List.getElem?_cons_succ,List.getElem?_cons_zero];rfl) (by kernel_rfl) (by kernel_rfl) (by kernel_rfl) (by exact fun _ _ _ h=>h) (Or.inl ⟨by rfl,?_⟩) (by with_reducible exact hS) ?_
      rotate_left
      ·intro W hSw;(obtain⟨⟨x0,x1,x2,x3,x4⟩,⟨z0,z1,z2,z3,z4⟩,-⟩:=hSw);go_simp;all_goals (with_reducible rfl)
      try simp only[Act.put,List.setIfInBounds_toArray,List.set_cons_zero,List.set_cons_succ]
      refine wpAnyH_take (i:=39) (v:=?_) (by simp only[List.getElem?_toArray,List.getElem?_cons_succ,List.getElem?_cons_zero];rfl) (by kernel_rfl) (by kernel_rfl) (by kernel_rfl) (by exact fun _ _ _ h=>h) (Or.inl ⟨by rfl,?_⟩) (by with_reducible exact hS) ?_
      rotate_left
      ·intro W hSw;(obtain⟨⟨x0,x1,x2,x3,x4⟩,⟨z0,z1,z2,z3,z4⟩,-⟩:=hSw);go_simp;all_goals (with_reducible rfl)
      try simp only[Act.put,List.setIfInBounds_toArray,List.set_cons_zero,List.set_cons_succ]
      refine wpAnyH_take (i:=40) (v:=?_) (by simp only[List.getElem?_toArray,List.getElem?_cons_succ,List.getElem?_cons_zero];rfl) (by kernel_rfl) (by kernel_rfl) (by kernel_rfl) (by exact fun _ _ _ h=>h) (Or.inl ⟨by rfl,?_⟩) (by with_reducible exact hS) ?_
      rotate_left
      ·intro W hSw;(obtain⟨⟨x0,x1,x2,x3,x4⟩,⟨z0,z1,z2,z3,z4⟩,-⟩:=hSw);go_simp;all_goals (with_reducible rfl)
      try simp only[Act.put,List.setIfInBounds_toArray,List.set_cons_zero,List.set_cons_succ]
      refine wpAnyH_take (i:=41) (v:=?_) (by simp only[List.getElem?_toArray,List.getElem?_cons_succ,List.getElem?_cons_zero];rfl) (by kernel_rfl) (by kernel_rfl) (by kernel_rfl) (by exact fun _ _ _ h=>h) (Or.inl ⟨by rfl,?_⟩) (by with_reducible exact hS) ?_
      rotate_left
      ·intro W hSw;(obtain⟨⟨x0,x1,x2,x3,x4⟩,⟨z0,z1,z2,z3,z4⟩,-⟩:=hSw);go_simp;all_goals (with_reducible rfl)
      try simp only[Act.put,List.setIfInBounds_toArray,List.set_cons_zero,List.set_cons_succ]
      refine wpAnyH_take (i:=42) (v:=?_) (by simp only[List.getElem?_toArray,List.getElem?_cons_succ,List.getElem?_cons_zero];rfl) (by kernel_rfl) (by kernel_rfl) (by kernel_rfl) (by exact fun _ _ _ h=>h) (Or.inl ⟨by rfl,?_⟩) (by with_reducible exact hS) ?_
      rotate_left
      ·intro W hSw;(obtain⟨⟨x0,x1,x2,x3,x4⟩,⟨z0,z1,z2,z3,z4⟩,-⟩:=hSw);go_simp;all_goals (with_reducible rfl)
      try simp only[Act.put,List.setIfInBounds_toArray,List.set_cons_zero,List.set_cons_succ]
      refine wpAnyH_done (by kernel_rfl) ?_ _
      have HE:=Lib.hid hS.2.2
      clear hS
      go_wp2
      go_roundw
      case rel=>exact⟨j+1,some (j,y),by simp[slI],by go_num,by omega,HN.out,HE.out⟩
      case measure=>simp[intOf];omega
     have HN:=Lib.hid (show Sofar l (bytesN S) p most (j+1) (some (k,y2)) from by
      have h:=HNS.out
      rw[if_neg fun q=>by have:=hah.1 q;omega]at h
      exact h)
     have u3:decide ((Z.size:Int)<(X.size:Int))=false:=decide_eq_false (by omega)
     have u3':decide (Z.size<X.size)=false:=decide_eq_false v3
     clear hah
     go_wp2_with fail
     have hS:=(HC2.out _ HB2.out.drew)
     refine wp_region_held_drew (S:=fun W=>CellsR W g (off+j * 5) xq X xt xp xn∧CellsR W g (off+k * 5) zq Z zt zp zn∧Below w.heap.size w W) (by kernel_rfl) hS (fun hHeld=>?_)
     refine wpAnyH_take (i:=0) (v:=?_) (by simp only[List.getElem?_toArray,List.getElem?_cons_zero];rfl) (by kernel_rfl) (by kernel_rfl) (by kernel_rfl) (by exact fun _ _ _ h=>h) (Or.inl ⟨by rfl,?_⟩) (by with_reducible exact hS) ?_
     rotate_left
     ·intro W hSw;(obtain⟨⟨x0,x1,x2,x3,x4⟩,⟨z0,z1,z2,z3,z4⟩,-⟩:=hSw);go_simp;all_goals (with_reducible rfl)
     try simp only[Act.put,List.setIfInBounds_toArray,List.set_cons_zero,List.set_cons_succ]
     refine wpAnyH_take (i:=1) (v:=?_) (by simp only[List.getElem?_toArray,List.getElem?_cons_succ,List.getElem?_cons_zero];rfl) (by kernel_rfl) (by kernel_rfl) (by kernel_rfl) (by exact fun _ _ _ h=>h) (Or.inl ⟨by rfl,?_⟩) (by with_reducible exact hS) ?_
     rotate_left
     ·intro W hSw;(obtain⟨⟨x0,x1,x2,x3,x4⟩,⟨z0,z1,z2,z3,z4⟩,-⟩:=hSw);go_simp;all_goals (with_reducible rfl)
     try simp only[Act.put,List.setIfInBounds_toArray,List.set_cons_zero,List.set_cons_succ]
     refine wpAnyH_take (i:=2) (v:=?_) (by simp only[List.getElem?_toArray,List.getElem?_cons_succ,List.getElem?_cons_zero];rfl) (by kernel_rfl) (by kernel_rfl) (by kernel_rfl) (by exact fun _ _ _ h=>h) (Or.inl ⟨by rfl,?_⟩) (by with_reducible exact hS) ?_
     rotate_left
     ·intro W hSw;(obtain⟨⟨x0,x1,x2,x3,x4⟩,⟨z0,z1,z2,z3,z4⟩,-⟩:=hSw);go_simp;all_goals (with_reducible rfl)
     try simp only[Act.put,List.setIfInBounds_toArray,List.set_cons_zero,List.set_cons_succ]
     refine wpAnyH_take (i:=3) (v:=?_) (by simp only[List.getElem?_toArray,List.getElem?_cons_succ,List.getElem?_cons_zero];rfl) (by kernel_rfl) (by kernel_rfl) (by kernel_rfl) (by exact fun _ _ _ h=>h) (Or.inl ⟨by rfl,?_⟩) (by with_reducible exact hS) ?_
     rotate_left
     ·intro W hSw;(obtain⟨⟨x0,x1,x2,x3,x4⟩,⟨z0,z1,z2,z3,z4⟩,-⟩:=hSw);go_simp;all_goals (with_reducible rfl)
     try simp only[Act.put,List.setIfInBounds_toArray,List.set_cons_zero,List.set_cons_succ]
     refine wpAnyH_take (i:=4) (v:=?_) (by simp only[List.getElem?_toArray,List.getElem?_cons_succ,List.getElem?_cons_zero];rfl) (by kernel_rfl) (by kernel_rfl) (by kernel_rfl) (by exact fun _ _ _ h=>h) (Or.inl ⟨by rfl,?_⟩) (by with_reducible exact hS) ?_
     rotate_left
     ·intro W hSw;(obtain⟨⟨x0,x1,x2,x3,x4⟩,⟨z0,z1,z2,z3,z4⟩,-⟩:=hSw);go_simp;all_goals (with_reducible rfl)
     try simp only[Act.put,List.setIfInBounds_toArray,List.set_cons_zero,List.set_cons_succ]
     refine wpAnyH_take (i:=5) (v:=?_) (by simp only[List.getElem?_toArray,List.getElem?_cons_succ,List.getElem?_cons_zero];rfl) (by kernel_rfl) (by kernel_rfl) (by kernel_rfl) (by exact fun _ _ _ h=>h) (Or.inl ⟨by rfl,?_⟩) (by with_reducible exact hS) ?_
     rotate_left
     ·intro W hSw;(obtain⟨⟨x0,x1,x2,x3,x4⟩,⟨z0,z1,z2,z3,z4⟩,-⟩:=hSw);go_simp;all_goals (with_reducible rfl)
     try simp only[Act.put,List.setIfInBounds_toArray,List.set_cons_zero,List.set_cons_succ]
     refine wpAnyH_take (i:=6) (v:=?_) (by simp only[List.getElem?_toArray,List.getElem?_cons_succ,List.getElem?_cons_zero];rfl) (by kernel_rfl) (by kernel_rfl) (by kernel_rfl) (by exact fun _ _ _ h=>h) (Or.inl ⟨by rfl,?_⟩) (by with_reducible exact hS) ?_
     rotate_left
     ·intro W hSw;(obtain⟨⟨x0,x1,x2,x3,x4⟩,⟨z0,z1,z2,z3,z4⟩,-⟩:=hSw);go_simp;all_goals (with_reducible rfl)
     try simp only[Act.put,List.setIfInBounds_toArray,List.set_cons_zero,List.set_cons_succ]
     refine wpAnyH_take (i:=7) (v:=?_) (by simp only[List.getElem?_toArray,List.getElem?_cons_succ,List.getElem?_cons_zero];rfl) (by kernel_rfl) (by kernel_rfl) (by kernel_rfl) (by exact fun _ _ _ h=>h) (Or.inl ⟨by rfl,?_⟩) (by with_reducible exact hS) ?_
     rotate_left
     ·intro W hSw;(obtain⟨⟨x0,x1,x2,x3,x4⟩,⟨z0,z1,z2,z3,z4⟩,-⟩:=hSw);go_simp;all_goals (with_reducible rfl)
     try simp only[Act.put,List.setIfInBounds_toArray,List.set_cons_zero,List.set_cons_succ]
     refine wpAnyH_take (i:=8) (v:=?_) (by simp only[List.getElem?_toArray,List.getElem?_cons_succ,List.getElem?_cons_zero];rfl) (by kernel_rfl) (by kernel_rfl) (by kernel_rfl) (by exact fun _ _ _ h=>h) (Or.inl ⟨by rfl,?_⟩) (by with_reducible exact hS) ?_
     rotate_left
     ·intro W hSw;(obtain⟨⟨x0,x1,x2,x3,x4⟩,⟨z0,z1,z2,z3,z4⟩,-⟩:=hSw);go_simp;all_goals (with_reducible rfl)
     try simp only[Act.put,List.setIfInBounds_toArray,List.set_cons_zero,List.set_cons_succ]
     refine wpAnyH_take (i:=9) (v:=?_) (by simp only[List.getElem?_toArray,List.getElem?_cons_succ,List.getElem?_cons_zero];rfl) (by kernel_rfl) (by kernel_rfl) (by kernel_rfl) (by exact fun _ _ _ h=>h) (Or.inl ⟨by rfl,?_⟩) (by with_reducible exact hS) ?_
     rotate_left
     ·intro W hSw;(obtain⟨⟨x0,x1,x2,x3,x4⟩,⟨z0,z1,z2,z3,z4⟩,-⟩:=hSw);go_simp;all_goals (with_reducible rfl)
     try simp only[Act.put,List.setIfInBounds_toArray,List.set_cons_zero,List.set_cons_succ]
     refine wpAnyH_take (i:=10) (v:=?_) (by simp only[List.getElem?_toArray,List.getElem?_cons_succ,List.getElem?_cons_zero];rfl) (by kernel_rfl) (by kernel_rfl) (by kernel_rfl) (by exact fun _ _ _ h=>h) (Or.inl ⟨by rfl,?_⟩) (by with_reducible exact hS) ?_
     rotate_left
     ·intro W hSw;(obtain⟨⟨x0,x1,x2,x3,x4⟩,⟨z0,z1,z2,z3,z4⟩,-⟩:=hSw);go_simp;all_goals (with_reducible rfl)
     try simp only[Act.put,List.setIfInBounds_toArray,List.set_cons_zero,List.set_cons_succ]
     refine wpAnyH_take (i:=11) (v:=?_) (by simp only[List.getElem?_toArray,List.getElem?_cons_succ,List.getElem?_cons_zero];rfl) (by kernel_rfl) (by kernel_rfl) (by kernel_rfl) (by exact fun _ _ _ h=>h) (Or.inl ⟨by rfl,?_⟩) (by with_reducible exact hS) ?_
     rotate_left
     ·intro W hSw;(obtain⟨⟨x0,x1,x2,x3,x4⟩,⟨z0,z1,z2,z3,z4⟩,-⟩:=hSw);go_simp;all_goals (with_reducible rfl)
     try simp only[Act.put,List.setIfInBounds_toArray,List.set_cons_zero,List.set_cons_succ]
     refine wpAnyH_take (i:=12) (v:=?_) (by simp only[List.getElem?_toArray,List.getElem?_cons_succ,List.getElem?_cons_zero];rfl) (by kernel_rfl) (by kernel_rfl) (by kernel_rfl) (by exact fun _ _ _ h=>h) (Or.inl ⟨by rfl,?_⟩) (by with_reducible exact hS) ?_
     rotate_left
     ·intro W hSw;(obtain⟨⟨x0,x1,x2,x3,x4⟩,⟨z0,z1,z2,z3,z4⟩,-⟩:=hSw);go_simp;all_goals (with_reducible rfl)
     try simp only[Act.put,List.setIfInBounds_toArray,List.set_cons_zero,List.set_cons_succ]
     refine wpAnyH_take (i:=13) (v:=?_) (by simp only[List.getElem?_toArray,List.getElem?_cons_succ,List.getElem?_cons_zero];rfl) (by kernel_rfl) (by kernel_rfl) (by kernel_rfl) (by exact fun _ _ _ h=>h) (Or.inl ⟨by rfl,?_⟩) (by with_reducible exact hS) ?_
     rotate_left
     ·intro W hSw;(obtain⟨⟨x0,x1,x2,x3,x4⟩,⟨z0,z1,z2,z3,z4⟩,-⟩:=hSw);go_simp;all_goals (with_reducible rfl)
     try simp only[Act.put,List.setIfInBounds_toArray,List.set_cons_zero,List.set_cons_succ]
     refine wpAnyH_take (i:=14) (v:=?_) (by simp only[List.getElem?_toArray,List.getElem?_cons_succ,List.getElem?_cons_zero];rfl) (by kernel_rfl) (by kernel_rfl) (by kernel_rfl) (by exact fun _ _ _ h=>h) (Or.inl ⟨by rfl,?_⟩) (by with_reducible exact hS) ?_
     rotate_left
     ·intro W hSw;(obtain⟨⟨x0,x1,x2,x3,x4⟩,⟨z0,z1,z2,z3,z4⟩,-⟩:=hSw);go_simp;all_goals (with_reducible rfl)
     try simp only[Act.put,List.setIfInBounds_toArray,List.set_cons_zero,List.set_cons_succ]
     refine wpAnyH_take (i:=15) (v:=?_) (by simp only[List.getElem?_toArray,List.getElem?_cons_succ,List.getElem?_cons_zero];rfl) (by kernel_rfl) (by kernel_rfl) (by kernel_rfl) (by exact fun _ _ _ h=>h) (Or.inl ⟨by rfl,?_⟩) (by with_reducible exact hS) ?_
     rotate_left
     ·intro W hSw;(obtain⟨⟨x0,x1,x2,x3,x4⟩,⟨z0,z1,z2,z3,z4⟩,-⟩:=hSw);go_simp;all_goals (with_reducible rfl)
     try simp only[Act.put,List.setIfInBounds_toArray,List.set_cons_zero,List.set_cons_succ]
     refine wpAnyH_take (i:=16) (v:=?_) (by simp only[List.getElem?_toArray,List.getElem?_cons_succ,List.getElem?_cons_zero];rfl) (by kernel_rfl) (by kernel_rfl) (by kernel_rfl) (by exact fun _ _ _ h=>h) (Or.inl ⟨by rfl,?_⟩) (by with_reducible exact hS) ?_
     rotate_left
     ·intro W hSw;(obtain⟨⟨x0,x1,x2,x3,x4⟩,⟨z0,z1,z2,z3,z4⟩,-⟩:=hSw);go_simp;all_goals (with_reducible rfl)
     try simp only[Act.put,List.setIfInBounds_toArray,List.set_cons_zero,List.set_cons_succ]
     refine wpAnyH_take (i:=17) (v:=?_) (by simp only[List.getElem?_toArray,List.getElem?_cons_succ,List.getElem?_cons_zero];rfl) (by kernel_rfl) (by kernel_rfl) (by kernel_rfl) (by exact fun _ _ _ h=>h) (Or.inl ⟨by rfl,?_⟩) (by with_reducible exact hS) ?_
     rotate_left
     ·intro W hSw;(obtain⟨⟨x0,x1,x2,x3,x4⟩,⟨z0,z1,z2,z3,z4⟩,-⟩:=hSw);go_simp;all_goals (with_reducible rfl)
     try simp only[Act.put,List.setIfInBounds_toArray,List.set_cons_zero,List.set_cons_succ]
     refine wpAnyH_take (i:=18) (v:=?_) (by simp only[List.getElem?_toArray,List.getElem?_cons_succ,List.getElem?_cons_zero];rfl) (by kernel_rfl) (by kernel_rfl) (by kernel_rfl) (by exact fun _ _ _ h=>h) (Or.inl ⟨by rfl,?_⟩) (by with_reducible exact hS) ?_
     rotate_left
     ·intro W hSw;(obtain⟨⟨x0,x1,x2,x3,x4⟩,⟨z0,z1,z2,z3,z4⟩,-⟩:=hSw);go_simp;all_goals (with_reducible rfl)
     try simp only[Act.put,List.setIfInBounds_toArray,List.set_cons_zero,List.set_cons_succ]
     refine wpAnyH_take (i:=19) (v:=?_) (by simp only[List.getElem?_toArray,List.getElem?_cons_succ,List.getElem?_cons_zero];rfl) (by kernel_rfl) (by kernel_rfl) (by kernel_rfl) (by exact fun _ _ _ h=>h) (Or.inl ⟨by rfl,?_⟩) (by with_reducible exact hS) ?_
     rotate_left
     ·intro W hSw;(obtain⟨⟨x0,x1,x2,x3,x4⟩,⟨z0,z1,z2,z3,z4⟩,-⟩:=hSw);go_simp;all_goals (with_reducible rfl)
     try simp only[Act.put,List.setIfInBounds_toArray,List.set_cons_zero,List.set_cons_succ]
     refine wpAnyH_take (i:=20) (v:=?_) (by simp only[List.getElem?_toArray,List.getElem?_cons_succ,List.getElem?_cons_zero];rfl) (by kernel_rfl) (by kernel_rfl) (by kernel_rfl) (by exact fun _ _ _ h=>h) (Or.inl ⟨by rfl,?_⟩) (by with_reducible exact hS) ?_
     rotate_left
     ·intro W hSw;(obtain⟨⟨x0,x1,x2,x3,x4⟩,⟨z0,z1,z2,z3,z4⟩,-⟩:=hSw);go_simp;all_goals (with_reducible rfl)
     try simp only[Act.put,List.setIfInBounds_toArray,List.set_cons_zero,List.set_cons_succ]
     refine wpAnyH_take (i:=21) (v:=?_) (by simp only[List.getElem?_toArray,List.getElem?_cons_succ,List.getElem?_cons_zero];rfl) (by kernel_rfl) (by kernel_rfl) (by kernel_rfl) (by exact fun _ _ _ h=>h) (Or.inl ⟨by rfl,?_⟩) (by with_reducible exact hS) ?_
     rotate_left
     ·intro W hSw;(obtain⟨⟨x0,x1,x2,x3,x4⟩,⟨z0,z1,z2,z3,z4⟩,-⟩:=hSw);go_simp;all_goals (with_reducible rfl)
     try simp only[Act.put,List.setIfInBounds_toArray,List.set_cons_zero,List.set_cons_succ]
     refine wpAnyH_take (i:=22) (v:=?_) (by simp only[List.getElem?_toArray,List.getElem?_cons_succ,List.getElem?_cons_zero];rfl) (by kernel_rfl) (by kernel_rfl) (by kernel_rfl) (by exact fun _ _ _ h=>h) (Or.inl ⟨by rfl,?_⟩) (by with_reducible exact hS) ?_
     rotate_left
     ·intro W hSw;(obtain⟨⟨x0,x1,x2,x3,x4⟩,⟨z0,z1,z2,z3,z4⟩,-⟩:=hSw);go_simp;all_goals (with_reducible rfl)
     try simp only[Act.put,List.setIfInBounds_toArray,List.set_cons_zero,List.set_cons_succ]
     refine wpAnyH_take (i:=23) (v:=?_) (by simp only[List.getElem?_toArray,List.getElem?_cons_succ,List.getElem?_cons_zero];rfl) (by kernel_rfl) (by kernel_rfl) (by kernel_rfl) (by exact fun _ _ _ h=>h) (Or.inl ⟨by rfl,?_⟩) (by with_reducible exact hS) ?_
     rotate_left
     ·intro W hSw;(obtain⟨⟨x0,x1,x2,x3,x4⟩,⟨z0,z1,z2,z3,z4⟩,-⟩:=hSw);go_simp;all_goals (with_reducible rfl)
     try simp only[Act.put,List.setIfInBounds_toArray,List.set_cons_zero,List.set_cons_succ]
     refine wpAnyH_take (i:=24) (v:=?_) (by simp only[List.getElem?_toArray,List.getElem?_cons_succ,List.getElem?_cons_zero];rfl) (by kernel_rfl) (by kernel_rfl) (by kernel_rfl) (by exact fun _ _ _ h=>h) (Or.inl ⟨by rfl,?_⟩) (by with_reducible exact hS) ?_
     rotate_left
     ·intro W hSw;(obtain⟨⟨x0,x1,x2,x3,x4⟩,⟨z0,z1,z2,z3,z4⟩,-⟩:=hSw);go_simp;all_goals (with_reducible rfl)
     try simp only[Act.put,List.setIfInBounds_toArray,List.set_cons_zero,List.set_cons_succ]
     refine wpAnyH_take (i:=25) (v:=?_) (by simp only[List.getElem?_toArray,List.getElem?_cons_succ,List.getElem?_cons_zero];rfl) (by kernel_rfl) (by kernel_rfl) (by kernel_rfl) (by exact fun _ _ _ h=>h) (Or.inl ⟨by rfl,?_⟩) (by with_reducible exact hS) ?_
     rotate_left
     ·intro W hSw;(obtain⟨⟨x0,x1,x2,x3,x4⟩,⟨z0,z1,z2,z3,z4⟩,-⟩:=hSw);go_simp;all_goals (with_reducible rfl)
     try simp only[Act.put,List.setIfInBounds_toArray,List.set_cons_zero,List.set_cons_succ]
     refine wpAnyH_take (i:=26) (v:=?_) (by simp only[List.getElem?_toArray,List.getElem?_cons_succ,List.getElem?_cons_zero];rfl) (by kernel_rfl) (by kernel_rfl) (by kernel_rfl) (by exact fun _ _ _ h=>h) (Or.inl ⟨by rfl,?_⟩) (by with_reducible exact hS) ?_
     rotate_left
     ·intro W hSw;(obtain⟨⟨x0,x1,x2,x3,x4⟩,⟨z0,z1,z2,z3,z4⟩,-⟩:=hSw);go_simp;all_goals (with_reducible rfl)
     try simp only[Act.put,List.setIfInBounds_toArray,List.set_cons_zero,List.set_cons_succ]
     refine wpAnyH_take (i:=27) (v:=?_) (by simp only[List.getElem?_toArray,List.getElem?_cons_succ,List.getElem?_cons_zero];rfl) (by kernel_rfl) (by kernel_rfl) (by kernel_rfl) (by exact fun _ _ _ h=>h) (Or.inl ⟨by rfl,?_⟩) (by with_reducible exact hS) ?_
     rotate_left
     ·intro W hSw;(obtain⟨⟨x0,x1,x2,x3,x4⟩,⟨z0,z1,z2,z3,z4⟩,-⟩:=hSw);go_simp;all_goals (with_reducible rfl)
     try simp only[Act.put,List.setIfInBounds_toArray,List.set_cons_zero,List.set_cons_succ]
     refine wpAnyH_take (i:=28) (v:=?_) (by simp only[List.getElem?_toArray,List.getElem?_cons_succ,List.getElem?_cons_zero];rfl) (by kernel_rfl) (by kernel_rfl) (by kernel_rfl) (by exact fun _ _ _ h=>h) (Or.inl ⟨by rfl,?_⟩) (by with_reducible exact hS) ?_
     rotate_left
     ·intro W hSw;(obtain⟨⟨x0,x1,x2,x3,x4⟩,⟨z0,z1,z2,z3,z4⟩,-⟩:=hSw);go_simp;all_goals (with_reducible rfl)
     try simp only[Act.put,List.setIfInBounds_toArray,List.set_cons_zero,List.set_cons_succ]
     refine wpAnyH_take (i:=29) (v:=?_) (by simp only[List.getElem?_toArray,List.getElem?_cons_succ,List.getElem?_cons_zero];rfl) (by kernel_rfl) (by kernel_rfl) (by kernel_rfl) (by exact fun _ _ _ h=>h) (Or.inl ⟨by rfl,?_⟩) (by with_reducible exact hS) ?_
     rotate_left
     ·intro W hSw;(obtain⟨⟨x0,x1,x2,x3,x4⟩,⟨z0,z1,z2,z3,z4⟩,-⟩:=hSw);go_simp;all_goals (with_reducible rfl)
     try simp only[Act.put,List.setIfInBounds_toArray,List.set_cons_zero,List.set_cons_succ]
     refine wpAnyH_take (i:=30) (v:=?_) (by simp only[List.getElem?_toArray,List.getElem?_cons_succ,List.getElem?_cons_zero];rfl) (by kernel_rfl) (by kernel_rfl) (by kernel_rfl) (by exact fun _ _ _ h=>h) (Or.inl ⟨by rfl,?_⟩) (by with_reducible exact hS) ?_
     rotate_left
     ·intro W hSw;(obtain⟨⟨x0,x1,x2,x3,x4⟩,⟨z0,z1,z2,z3,z4⟩,-⟩:=hSw);go_simp;all_goals (with_reducible rfl)
     try simp only[Act.put,List.setIfInBounds_toArray,List.set_cons_zero,List.set_cons_succ]
     refine wpAnyH_take (i:=31) (v:=?_) (by simp only[List.getElem?_toArray,List.getElem?_cons_succ,List.getElem?_cons_zero];rfl) (by kernel_rfl) (by kernel_rfl) (by kernel_rfl) (by exact fun _ _ _ h=>h) (Or.inl ⟨by rfl,?_⟩) (by with_reducible exact hS) ?_
     rotate_left
     ·intro W hSw;(obtain⟨⟨x0,x1,x2,x3,x4⟩,⟨z0,z1,z2,z3,z4⟩,-⟩:=hSw);go_simp;all_goals (with_reducible rfl)
     try simp only[Act.put,List.setIfInBounds_toArray,List.set_cons_zero,List.set_cons_succ]
     refine wpAnyH_take (i:=32) (v:=?_) (by simp only[List.getElem?_toArray,List.getElem?_cons_succ,List.getElem?_cons_zero];rfl) (by kernel_rfl) (by kernel_rfl) (by kernel_rfl) (by exact fun _ _ _ h=>h) (Or.inl ⟨by rfl,?_⟩) (by with_reducible exact hS) ?_
     rotate_left
     ·intro W hSw;(obtain⟨⟨x0,x1,x2,x3,x4⟩,⟨z0,z1,z2,z3,z4⟩,-⟩:=hSw);go_simp;all_goals (with_reducible rfl)
     try simp only[Act.put,List.setIfInBounds_toArray,List.set_cons_zero,List.set_cons_succ]
     refine wpAnyH_take (i:=33) (v:=?_) (by simp only[List.getElem?_toArray,List.getElem?_cons_succ,List.getElem?_cons_zero];rfl) (by kernel_rfl) (by kernel_rfl) (by kernel_rfl) (by exact fun _ _ _ h=>h) (Or.inl ⟨by rfl,?_⟩) (by with_reducible exact hS) ?_
     rotate_left
     ·intro W hSw;(obtain⟨⟨x0,x1,x2,x3,x4⟩,⟨z0,z1,z2,z3,z4⟩,-⟩:=hSw);go_simp;all_goals (with_reducible rfl)
     try simp only[Act.put,List.setIfInBounds_toArray,List.set_cons_zero,List.set_cons_succ]
     refine wpAnyH_take (i:=34) (v:=?_) (by simp only[List.getElem?_toArray,List.getElem?_cons_succ,List.getElem?_cons_zero];rfl) (by kernel_rfl) (by kernel_rfl) (by kernel_rfl) (by exact fun _ _ _ h=>h) (Or.inl ⟨by rfl,?_⟩) (by with_reducible exact hS) ?_
     rotate_left
     ·intro W hSw;(obtain⟨⟨x0,x1,x2,x3,x4⟩,⟨z0,z1,z2,z3,z4⟩,-⟩:=hSw);go_simp;all_goals (with_reducible rfl)
     try simp only[Act.put,List.setIfInBounds_toArray,List.set_cons_zero,List.set_cons_succ]
     refine wpAnyH_take (i:=35) (v:=?_) (by simp only[List.getElem?_toArray,List.getElem?_cons_succ,List.getElem?_cons_zero];rfl) (by kernel_rfl) (by kernel_rfl) (by kernel_rfl) (by exact fun _ _ _ h=>h) (Or.inl ⟨by rfl,?_⟩) (by with_reducible exact hS) ?_
     rotate_left
     ·intro W hSw;(obtain⟨⟨x0,x1,x2,x3,x4⟩,⟨z0,z1,z2,z3,z4⟩,-⟩:=hSw);go_simp;all_goals (with_reducible rfl)
     try simp only[Act.put,List.setIfInBounds_toArray,List.set_cons_zero,List.set_cons_succ]
     refine wpAnyH_take (i:=36) (v:=?_) (by simp only[List.getElem?_toArray,List.getElem?_cons_succ,List.getElem?_cons_zero];rfl) (by kernel_rfl) (by kernel_rfl) (by kernel_rfl) (by exact fun _ _ _ h=>h) (Or.inl ⟨by rfl,?_⟩) (by with_reducible exact hS) ?_
     rotate_left
     ·intro W hSw;(obtain⟨⟨x0,x1,x2,x3,x4⟩,⟨z0,z1,z2,z3,z4⟩,-⟩:=hSw);go_simp;all_goals (with_reducible rfl)
     try simp only[Act.put,List.setIfInBounds_toArray,List.set_cons_zero,List.set_cons_succ]
     refine wpAnyH_take (i:=37) (v:=?_) (by simp only[List.getElem?_toArray,List.getElem?_cons_succ,List.getElem?_cons_zero];rfl) (by kernel_rfl) (by kernel_rfl) (by kernel_rfl) (by exact fun _ _ _ h=>h) (Or.inl ⟨by rfl,?_⟩) (by with_reducible exact hS) ?_
     rotate_left
     ·intro W hSw;(obtain⟨⟨x0,x1,x2,x3,x4⟩,⟨z0,z1,z2,z3,z4⟩,-⟩:=hSw);go_simp;all_goals (with_reducible rfl)
     try simp only[Act.put,List.setIfInBounds_toArray,List.set_cons_zero,List.set_cons_succ]
     refine wpAnyH_take (i:=38) (v:=?_) (by simp only[List.getElem?_toArray,List.getElem?_cons_succ,List.getElem?_cons_zero];rfl) (by kernel_rfl) (by kernel_rfl) (by kernel_rfl) (by exact fun _ _ _ h=>h) (Or.inl ⟨by rfl,?_⟩) (by with_reducible exact hS) ?_
     rotate_left
     ·intro W hSw;(obtain⟨⟨x0,x1,x2,x3,x4⟩,⟨z0,z1,z2,z3,z4⟩,-⟩:=hSw);go_simp;all_goals (with_reducible rfl)
     try simp only[Act.put,List.setIfInBounds_toArray,List.set_cons_zero,List.set_cons_succ]
     refine wpAnyH_take (i:=39) (v:=?_) (by simp only[List.getElem?_toArray,List.getElem?_cons_succ,List.getElem?_cons_zero];rfl) (by kernel_rfl) (by kernel_rfl) (by kernel_rfl) (by exact fun _ _ _ h=>h) (Or.inl ⟨by rfl,?_⟩) (by with_reducible exact hS) ?_
     rotate_left
     ·intro W hSw;(obtain⟨⟨x0,x1,x2,x3,x4⟩,⟨z0,z1,z2,z3,z4⟩,-⟩:=hSw);go_simp;all_goals (with_reducible rfl)
     try simp only[Act.put,List.setIfInBounds_toArray,List.set_cons_zero,List.set_cons_succ]
     refine wpAnyH_take (i:=40) (v:=?_) (by simp only[List.getElem?_toArray,List.getElem?_cons_succ,List.getElem?_cons_zero];rfl) (by kernel_rfl) (by kernel_rfl) (by kernel_rfl) (by exact fun _ _ _ h=>h) (Or.inl ⟨by rfl,?_⟩) (by with_reducible exact hS) ?_
     rotate_left
     ·intro W hSw;(obtain⟨⟨x0,x1,x2,x3,x4⟩,⟨z0,z1,z2,z3,z4⟩,-⟩:=hSw);go_simp;all_goals (with_reducible rfl)
     try simp only[Act.put,List.setIfInBounds_toArray,List.set_cons_zero,List.set_cons_succ]
     refine wpAnyH_take (i:=41) (v:=?_) (by simp only[List.getElem?_toArray,List.getElem?_cons_succ,List.getElem?_cons_zero];rfl) (by kernel_rfl) (by kernel_rfl) (by kernel_rfl) (by exact fun _ _ _ h=>h) (Or.inl ⟨by rfl,?_⟩) (by with_reducible exact hS) ?_
     rotate_left
     ·intro W hSw;(obtain⟨⟨x0,x1,x2,x3,x4⟩,⟨z0,z1,z2,z3,z4⟩,-⟩:=hSw);go_simp;all_goals (with_reducible rfl)
     try simp only[Act.put,List.setIfInBounds_toArray,List.set_cons_zero,List.set_cons_succ]
     refine wpAnyH_take (i:=42) (v:=?_) (by simp only[List.getElem?_toArray,List.getElem?_cons_succ,List.getElem?_cons_zero];rfl) (by kernel_rfl) (by kernel_rfl) (by kernel_rfl) (by exact fun _ _ _ h=>h) (Or.inl ⟨by rfl,?_⟩) (by with_reducible exact hS) ?_
     rotate_left
     ·intro W hSw;(obtain⟨⟨x0,x1,x2,x3,x4⟩,⟨z0,z1,z2,z3,z4⟩,-⟩:=hSw);go_simp;all_goals (with_reducible rfl)
     try simp only[Act.put,List.setIfInBounds_toArray,List.set_cons_zero,List.set_cons_succ]
     refine wpAnyH_done (by kernel_rfl) ?_ _
     have HE:=Lib.hid hS.2.2
     clear hS
     go_wp2
     go_roundw
     case rel=>exact⟨j+1,some (k,y2),by simp[slI],by go_num,by omega,HN.out,HE.out⟩
     case measure=>simp[intOf];omega
  ·obtain rfl:j=nl:=by omega
   have HE:=Lib.hid (show o=o'.map (·.1) from by
    rw[← HO.out]
    exact sofar_best (by rw[HNL.out];exact HSO.out))
   have t3:decide ((j:Int)<(j:Int))=false:=decide_eq_false (by omega)
   match o',HSO,HE with
   | none,HSO,HE =>
    simp only[slI]
    go_wp2
    go_ret2
    rw[HE.out]
    exact⟨rfl,HBR.out⟩
   | some (k,z),HSO,HE =>
    simp only[slI]
    have d1:decide ((k:Int)<0)=false:=decide_eq_false (by omega)
    go_wp2
    go_ret2
    rw[HE.out]
    exact⟨rfl,HBR.out⟩
set_option maxRecDepth 100000 in
set_option maxHeartbeats 8000000 in
theorem rall_any (A:Option Addr) (nl c:Nat) (l:List Rl) (off:Nat) (hnl:l.length=nl) (hlm:nl≤100000) (hf:∀ x ∈ l,FitR x) (h9:∀ x ∈ l,x.left.length≤9000) (hA:Acc prC l) (S:ByteArray) (p:Nat) (hS:S.size≤2000) (hpS:p≤S.size) (ks:List Nat) (hks:allN l (bytesN S) (p:Int)=ks) (w:World) (hv:ReadsR off w w.heap.size (.slice A nl c) l) :
  Calls Tryz.prog 86 #[.slice A nl c,.string S,.int .i64 (p:Int)] w fun e w'=>∃ v,e=.returned v∧w'.ownsRow w.heap.size 3 1 v ks.length (iV ks)∧Below w.heap.size w w':=by
 obtain⟨i0,hi0,hz0,hz1,hz2⟩:=info_parts infoN
 have HV:=Lib.hid hv
 have HNL:=Lib.hid hnl
 have HKS:=Lib.hid hks
 have HACC:=Lib.hid hA
 have hsl:=bytesN_len S
 have HSL:=Lib.hid hsl
 obtain⟨r,hr⟩:∃ r,runB (bytesN S)=r:=⟨_,rfl⟩
 have HR:=Lib.hid hr
 have HRN:=Lib.hid (rrun_any S hS r hr w)
 have HBE:=Lib.hid (fun(q k:Nat) (hq:q<S.size) (hk:bestN l (bytesN S) (q:Int) (S.size:Int)=some k) (W:World) (hW:Below w.heap.size w W)=>rbest_any A nl c l off hnl hlm hf h9 S (q:Int) (S.size:Int) hS (by unfold I64;omega) (by unfold I64;omega) (some k) hk W ((hv.below hW).mono hW.size))
 clear hv hnl hf h9 hks hA hsl hr
 go_enter Tryz.func86,Tryz.ntmps86
 cases r
 case false =>
  have HE:=Lib.hid (show ks=[] from by rw[← HKS.out];exact all_end fun h=>by rw[HR.out]at h;exact Bool.false_ne_true h.1)
  go_wp2_with fail
  refine HRN.out.mono ?_
  rintro e w' ⟨rfl,rfl⟩
  go_wp2
  go_ret
  rw[HE.out]
  exact⟨_,rfl,World.ownsRow_nil _ _ _ _,Below.refl _ _⟩
 case true =>
 have d1:decide ((p:Int)<0)=false:=decide_eq_false (by omega)
 go_wp2_with fail
 refine HRN.out.mono ?_
 rintro e w' ⟨rfl,rfl⟩
 go_wp2
 go_loopw [7,8] (fun v a wr=>∃ (q:Nat) (us:List Nat),a=.int .i64 (q:Int)∧q≤S.size∧us.length≤q∧ks=us++allN l (bytesN S) (q:Int)∧wr.ownsRow w.heap.size 3 1 v us.length (iV us)∧Below w.heap.size w wr) (fun _ a _=>S.size - (intOf a).toNat)
 case atStart=>exact⟨p,[],rfl,hpS,Nat.zero_le _,HKS.out.symm,World.ownsRow_nil _ _ _ _,Below.refl _ _⟩
 case round =>
  obtain⟨q,us,rfl,hq,hul,hcat,how,hBr⟩:=hrel
  have HCAT:=Lib.hid hcat
  have HBR:=Lib.hid hBr
  clear hcat
  by_cases hlt:q<S.size
  ·obtain⟨k,x,hB,hbest,hstep,hx0,hxq⟩:=all_step HACC.out HR.out (p:=q) (by rw[HSL.out];exact hlt)
   rw[HSL.out]at hbest hxq
   have hx:=hB.at'
   have hkn:k<nl:=by have:=(List.getElem?_eq_some_iff.1 hx).1;rw[HNL.out]at this;exact this
   obtain⟨g,rfl,hgw,hcx⟩:=cellsR_at HV.out hx
   obtain⟨X,hX⟩:∃ X,bytesOf x.left=X:=⟨_,rfl⟩
   have hxs:X.size=x.left.length:=by rw[← hX];exact bytesOf_size _
   rw[hX]at hcx
   rw[← hxs]at hstep hx0 hxq
   have hx1:=hcx.c1
   have HX1:=Lib.hid (show ∀ W:World,Below w.heap.size w W→W.cell? ⟨g,off+k * 5+1,none⟩=some (.string X) from fun W hW=>(hW.cell (p:=⟨g,off+k * 5+1,none⟩) hgw).trans hx1)
   have HBQ:=Lib.hid (HBE.out q k hlt hbest wr HBR.out)
   have HNX:=Lib.hid (show ks=(us++[k])++allN l (bytesN S) ((q+X.size:Nat):Int) from by rw[HCAT.out,hstep,List.append_assoc];rfl)
   obtain⟨m,hm⟩:∃ m,us.length=m:=⟨_,rfl⟩
   rw[hm]at how hul
   have HMM:=Lib.hid hm
   have HOW:=Lib.hid how
   obtain⟨A8,c8,rfl,-,-,-⟩:=own_formR how
   clear hB hbest hstep hx hcx hX hxs hx1 hgw hm how hBr
   have t3:decide ((q:Int)<(S.size:Int))=true:=decide_eq_true (by omega)
   have k0:(0:Int)≤(k:Int):=by omega
   have k1:(k:Int)<(nl:Int):=by omega
   have t4:IntKind.i64.wrap ((q:Int)+(X.size:Int))=((q+X.size:Nat):Int):=by rw[IntWalk.i64_in _ ⟨by omega,by omega⟩];omega
   go_wp2_with fail
   refine HBQ.out.mono ?_
   rintro e w2 ⟨rfl,hb2⟩
   have HB2:=Lib.hid (chain HBR.out HBR.out.size hb2)
   have HOW2:=Lib.hid (own_below HOW.out hb2)
   have HLT2:=Lib.hid HOW2.out.lt
   have hsz2:=HB2.out.size
   clear hb2
   simp only[numV,okV]
   go_wp2_with (at_builtin;refine wpList_append_own _ rfl _ _ 109 rfl w.heap.size 3 i0 _ 1 8 Tryz.underlying109 hi0 hz0 hz1 hz2 rfl (by decide) _ _ _ rfl (HOW2.out.alloc _) ⟨w2.heap.size,0,none⟩ 1 1 [.int .i64 (k:Int)] rfl rfl (World.news_of_block (cs:=#[.int .i64 (k:Int)]) (t:=3) (fr:=(0,0)) (heap_alloc_new w2 _)) (by simp[Value.oneCell']) (by unfold maxLen;omega) (by omega) (by simp;omega) ?_;intro v' w8 hown' hgrow _;have HFF:=Lib.hid (show w8.ownsRow w.heap.size 3 1 v' (us++[k]).length (iV (us++[k]))∧Below w.heap.size w w8 from ⟨by rw[iV_snoc,List.length_append,HMM.out];exact hown',(HB2.out.alloc hsz2 _).grown hgrow (by simp;omega) (fun j ej=>(HLT2.out j ej).1)⟩);have x1:=HX1.out w8 HFF.out.2;clear hown' hgrow)
   go_roundw
   case rel=>exact⟨q+X.size,us++[k],by go_num,by omega,by rw[List.length_append,HMM.out,List.length_singleton];omega,HNX.out,HFF.out.1,HFF.out.2⟩
   case measure=>simp[intOf];omega
  ·have HE:=Lib.hid (show ks=us from by
    rw[HCAT.out,all_end fun h=>by have:=h.2.2;rw[HSL.out]at this;omega,List.append_nil])
   have t3:decide ((q:Int)<(S.size:Int))=false:=decide_eq_false (by omega)
   have t3':decide (q<S.size)=false:=decide_eq_false hlt
   have HOW:=Lib.hid how
   clear how hBr
   go_wp2
   go_ret
   rw[HE.out]
   exact⟨_,rfl,HOW.out,HBR.out⟩
end Go.Proofs.YtlgejmcihchngaaGreatDoor.Pa
