/-
  Put together: CmA, CmB.
-/
import Derived.Test.YtlgejmcihchngaaGreatDoorUk
import Derived.Test.YtlgejmcihchngaaGreatDoorQc
import Derived.Test.YtlgejmcihchngaaGreatDoorUm
import Derived.BigQuiet
import Derived.Deep.RegionHeld3
namespace Go.Proofs.YtlgejmcihchngaaGreatDoor.Ck
open Go.RowKit Ba Ru
theorem bit_or:∀ (s:Fin 512) (x:Fin 9),bits .or .u64 ((s.val:Nat):Int) (IntKind.u64.wrap (2 ^ x.val))=((s.val ||| 2 ^ x.val:Nat):Int):=by decide +kernel
theorem setN_snoc (l:List Nat) (x:Nat):setN (l++[x])=setN l ||| 2 ^ x:=by
 unfold setN
 rw[List.foldl_append];rfl
theorem set_lt:∀ (l:List Nat),(∀ k ∈ l,k<9)→∀ s,s<512→l.foldl (fun s k=>s ||| 2 ^ k) s<512
 | [],_,_,hs=>hs
 | x::l,h,s,hs=>by
  refine set_lt l (fun k hk=>h k (List.mem_cons_of_mem _ hk)) _ ?_
  have hx:=h x (List.mem_cons_self ..)
  exact Nat.or_lt_two_pow (n:=9) hs (Nat.pow_lt_pow_right (by omega) hx)
theorem setN_lt {l:List Nat} (h:∀ k ∈ l,k<9):setN l<512:=set_lt l h 320 (by decide)
theorem setN_step {l:List Nat} (h:∀ k ∈ l,k<9) {k x:Nat} (hx:l[k]?=some x):bits .or .u64 ((setN (l.take k):Nat):Int) (IntKind.u64.wrap (2 ^ x))=((setN (l.take (k+1)):Nat):Int):=by
 rw[List.take_add_one,hx,Option.toList_some,setN_snoc]
 exact bit_or ⟨setN (l.take k),setN_lt fun k hk=>h k (List.mem_of_mem_take hk)⟩ ⟨x,h x (List.mem_of_getElem? hx)⟩
theorem bit_and:∀ s:Fin 512,bits .and .u64 ((s.val:Nat):Int) 1=((s.val &&& 1:Nat):Int):=by decide +kernel
theorem in_bits {x:Rl} (row:Int) (h:0<x.what):(bits .and .u64 (((whatsN row:Nat):Int) / 2 ^ min x.what.toNat 64) 1==1)=inB x row:=by
 have e:((whatsN row:Nat):Int) / 2 ^ min x.what.toNat 64=((whatsN row / 2 ^ min x.what.toNat 64:Nat):Int):=by push_cast;rfl
 have hlt:whatsN row / 2 ^ min x.what.toNat 64<512:=Nat.lt_of_le_of_lt (Nat.div_le_self _ _) (whats_lt row)
 rw[e,bit_and ⟨_,hlt⟩]
 simp only[]
 rw[← Nat.shiftRight_eq_div_pow]
 by_cases h8:x.what≤8
 ·rw[bit_small (by omega) h8 row x rfl,show min x.what.toNat 64=x.what.toNat by omega,Bool.eq_iff_iff,beq_iff_eq,decide_eq_true_eq]
  omega
 ·rw[bit_great _ (by omega),inB_no (.inr (by omega))];rfl
set_option maxHeartbeats 2000000 in
theorem withShared_at (g c:Nat) (ks:List Nat) (_hl:ks.length≤1000) (hk:∀ k ∈ ks,k<9) (w:World) (hc:∀ (j k:Nat),ks[j]?=some k→w.cell? ⟨g,j,none⟩=some (.int .i64 (k:Int))) :
  Calls Tryz.prog 144 #[.slice (some ⟨g,0,none⟩) ks.length c] w fun e w'=>e=.returned (.int .u64 ((setN ks:Nat):Int))∧w'=w:=by
 have HC:=Lib.hid hc
 have HK:=Lib.hid hk
 clear hc hk
 obtain⟨n,hn⟩:∃ n,ks.length=n:=⟨_,rfl⟩
 rw[hn]at _hl ⊢
 have HN:=Lib.hid hn
 clear hn
 go_enter Tryz.func144,Tryz.ntmps144
 go_wp2
 go_loopw [3,8] (fun s i wr=>∃ k:Nat,i=.int .i64 (k:Int)∧k≤n∧s=.int .u64 ((setN (ks.take k):Nat):Int)∧wr=w) (fun _ i _=>n - (intOf i).toNat)
 case atStart=>exact⟨0,rfl,Nat.zero_le _,rfl,rfl⟩
 case round =>
  obtain⟨k,rfl,hkn,rfl,rfl⟩:=hrel
  by_cases hlt:k<n
  ·obtain⟨x,hx⟩:∃ x,ks[k]?=some x:=⟨_,List.getElem?_eq_getElem (by rw[HN.out];exact hlt)⟩
   have hcx:=HC.out k x hx
   have hx9:=HK.out x (List.mem_of_getElem? hx)
   have HST:=Lib.hid (setN_step HK.out hx)
   have k0:(0:Int)≤(k:Int):=by omega
   have k1:(k:Int)<(n:Int):=by omega
   obtain⟨s,hs⟩:∃ s,setN (ks.take k)=s:=⟨_,rfl⟩
   rw[hs]at HST ⊢
   clear hx hs
   have x0:(0:Int)≤(x:Int):=by omega
   go_wp2
   go_roundw
   case rel=>exact⟨k+1,by go_num,by omega,by rw[HST.out],trivial⟩
   case measure=>simp[intOf];omega
  ·have HE:=Lib.hid (show setN (ks.take k)=setN ks by rw[List.take_of_length_le (by rw[HN.out];omega)])
   rw[HE.out]
   have t1:decide (k<n)=false:=decide_eq_false hlt
   go_wp2
   go_ret
   exact⟨rfl,rfl⟩
theorem cells_lit (w:World) (t:TypeId) (ks:List Nat) (j k:Nat) (h:ks[j]?=some k):(w.alloc (.cells (ks.map fun(k:Nat)=>Value.int .i64 (k:Int)).toArray t)).cell? ⟨w.heap.size,j,none⟩=some (.int .i64 (k:Int)):=by
 have:=World.news_of_block (cs:=(ks.map fun(k:Nat)=>Value.int .i64 (k:Int)).toArray) (t:=t) (fr:=(0,0)) (heap_alloc_new w _) j (.int .i64 (k:Int)) (by simp[h])
 have e:(⟨w.heap.size,0,none⟩:Addr).add j=⟨w.heap.size,j,none⟩:=by unfold Addr.add;split<;>simp_all
 rw[e]at this
 exact this
set_option maxRecDepth 100000 in
set_option maxHeartbeats 2000000 in
theorem whatsOf_at (row:Int) (w:World):Calls Tryz.prog 106 #[.int .i64 row] w fun e w'=>e=.returned (.int .u64 ((whatsN row:Nat):Int))∧Below w.heap.size w w':=by
 have call:=fun(ks:List Nat) (hl:ks.length≤1000) (hk:∀ k ∈ ks,k<9)=>withShared_at w.heap.size ks.length ks hl hk (w.alloc (.cells (ks.map fun(k:Nat)=>Value.int .i64 (k:Int)).toArray 3)) (fun j k h=>cells_lit w _ ks j k h)
 have H1:=Lib.hid (call [1,2] (by decide) (by decide))
 have H2:=Lib.hid (call [1,3,4] (by decide) (by decide))
 have H3:=Lib.hid (call [7] (by decide) (by decide))
 have HB1:=Lib.hid ((Below.refl w.heap.size w).alloc (Nat.le_refl _) (.cells #[.int .i64 1,.int .i64 2] 3))
 have HB2:=Lib.hid ((Below.refl w.heap.size w).alloc (Nat.le_refl _) (.cells #[.int .i64 1,.int .i64 3,.int .i64 4] 3))
 have HB3:=Lib.hid ((Below.refl w.heap.size w).alloc (Nat.le_refl _) (.cells #[.int .i64 7] 3))
 clear call
 go_enter Tryz.func106,Tryz.ntmps106
 by_cases r1:row=1
 ·subst r1
  go_wp2_with fail
  refine H1.out.mono ?_
  rintro e w' ⟨rfl,rfl⟩
  go_wp2
  go_ret
  exact⟨rfl,HB1.out⟩
 have t1:(row==1)=false:=beq_eq_false_iff_ne.2 r1
 by_cases r2:row=2
 ·subst r2
  go_wp2_with fail
  refine H2.out.mono ?_
  rintro e w' ⟨rfl,rfl⟩
  go_wp2
  go_ret
  exact⟨rfl,HB2.out⟩
 have t2:(row==2)=false:=beq_eq_false_iff_ne.2 r2
 by_cases r3:row=3
 ·subst r3
  go_wp2_with fail
  refine H3.out.mono ?_
  rintro e w' ⟨rfl,rfl⟩
  go_wp2
  go_ret
  exact⟨rfl,HB3.out⟩
 have t3:(row==3)=false:=beq_eq_false_iff_ne.2 r3
 have HV:=Lib.hid (show whatsN row=0 by unfold whatsN;rw[if_neg (by omega)])
 clear r1 r2 r3
 go_wp2
 go_ret
 rw[HV.out]
 exact⟨rfl,Below.refl _ _⟩
set_option maxRecDepth 100000 in
set_option maxHeartbeats 4000000 in
theorem in_at (x:Rl) (row:Int) (w:World):Calls Tryz.prog 71 #[aggR x,.int .i64 row] w fun e w'=>e=.returned (.bool (inB x row))∧Below w.heap.size w w':=by
 obtain⟨q,left,cells,p,n⟩:=x
 obtain⟨v,hv⟩:∃ v,inB ⟨q,left,cells,p,n⟩ row=v:=⟨_,rfl⟩
 rw[hv]
 simp only[aggR]
 obtain⟨S,hS⟩:∃ S,bytesOf left=S:=⟨_,rfl⟩
 obtain⟨T,hT⟩:∃ T,bytesOf cells=T:=⟨_,rfl⟩
 rw[hS,hT]
 have HV:=Lib.hid hv
 clear hS hT hv
 go_enter Tryz.func71,Tryz.ntmps71
 go_upto_region 1 with fail
 have hx:=BoxS.new w q S T p n 50
 have hw:=(Below.refl w.heap.size w).alloc (Nat.le_refl _) (.cells #[.int .i64 q,.string S,.string T,.int .i64 p,.int .i64 n] 50)
 generalize w.alloc _=w1 at hx hw ⊢
 have HX:=Lib.hid hx
 have HW:=Lib.hid hw
 clear hx hw
 by_cases hq:0<q
 ·have tq:decide (0<q)=true:=decide_eq_true hq
  have hq0:¬ (q<0):=by omega
  have HE:=Lib.hid ((in_bits (x:=⟨q,left,cells,p,n⟩) row hq).trans HV.out)
  have hS:=(⟨HX.out.kept (Below.refl _ _).drew,chain HW.out HW.out.size (Below.refl _ _).drew⟩:BoxS w1.drew w.heap.size q S T p n∧Below w.heap.size w w1.drew)
  refine wp_region_held_drew (S:=fun W=>BoxS W w.heap.size q S T p n∧Below w.heap.size w W) (by kernel_rfl) hS (fun hHeld=>?_)
  refine wpAnyH_take (i:=0) (v:=?_) (by simp only[List.getElem?_toArray,List.getElem?_cons_zero];rfl) (by kernel_rfl) (by kernel_rfl) (by kernel_rfl) (by exact fun _ _ _ h=>h) (Or.inl ⟨by rfl,?_⟩) (by with_reducible exact hS) ?_
  rotate_left
  ·intro W hSw;(obtain⟨⟨x0,x1,x2,x3,x4,x5⟩,-⟩:=hSw);go_simp;all_goals (with_reducible rfl)
  try simp only[Act.put,List.setIfInBounds_toArray,List.set_cons_zero,List.set_cons_succ]
  refine wpAnyH_take (i:=1) (v:=?_) (by simp only[List.getElem?_toArray,List.getElem?_cons_succ,List.getElem?_cons_zero];rfl) (by kernel_rfl) (by kernel_rfl) (by kernel_rfl) (by exact fun _ _ _ h=>h) (Or.inl ⟨by rfl,?_⟩) (by with_reducible exact hS) ?_
  rotate_left
  ·intro W hSw;(obtain⟨⟨x0,x1,x2,x3,x4,x5⟩,-⟩:=hSw);go_simp;all_goals (with_reducible rfl)
  try simp only[Act.put,List.setIfInBounds_toArray,List.set_cons_zero,List.set_cons_succ]
  refine wpAnyH_take (i:=2) (v:=?_) (by simp only[List.getElem?_toArray,List.getElem?_cons_succ,List.getElem?_cons_zero];rfl) (by kernel_rfl) (by kernel_rfl) (by kernel_rfl) (by exact fun _ _ _ h=>h) (Or.inl ⟨by rfl,?_⟩) (by with_reducible exact hS) ?_
  rotate_left
  ·intro W hSw;(obtain⟨⟨x0,x1,x2,x3,x4,x5⟩,-⟩:=hSw);go_simp;all_goals (with_reducible rfl)
  try simp only[Act.put,List.setIfInBounds_toArray,List.set_cons_zero,List.set_cons_succ]
  refine wpAnyH_take (i:=3) (v:=?_) (by simp only[List.getElem?_toArray,List.getElem?_cons_succ,List.getElem?_cons_zero];rfl) (by kernel_rfl) (by kernel_rfl) (by kernel_rfl) (by exact fun _ _ _ h=>h) (Or.inl ⟨by rfl,?_⟩) (by with_reducible exact hS) ?_
  rotate_left
  ·intro W hSw;(obtain⟨⟨x0,x1,x2,x3,x4,x5⟩,-⟩:=hSw);go_simp;all_goals (with_reducible rfl)
  try simp only[Act.put,List.setIfInBounds_toArray,List.set_cons_zero,List.set_cons_succ]
  refine wpAnyH_take (i:=4) (v:=?_) (by simp only[List.getElem?_toArray,List.getElem?_cons_succ,List.getElem?_cons_zero];rfl) (by kernel_rfl) (by kernel_rfl) (by kernel_rfl) (by exact fun _ _ _ h=>h) (Or.inl ⟨by rfl,?_⟩) (by with_reducible exact hS) ?_
  rotate_left
  ·intro W hSw;(obtain⟨⟨x0,x1,x2,x3,x4,x5⟩,-⟩:=hSw);go_simp;all_goals (with_reducible rfl)
  try simp only[Act.put,List.setIfInBounds_toArray,List.set_cons_zero,List.set_cons_succ]
  refine wpAnyH_take (i:=6) (v:=?_) (by simp only[List.getElem?_toArray,List.getElem?_cons_succ,List.getElem?_cons_zero];rfl) (by kernel_rfl) (by kernel_rfl) (by kernel_rfl) (by exact fun _ _ _ h=>h) (Or.inl ⟨by rfl,?_⟩) (by with_reducible exact hS) ?_
  rotate_left
  ·intro W hSw;(obtain⟨⟨x0,x1,x2,x3,x4,x5⟩,-⟩:=hSw);go_simp;all_goals (with_reducible rfl)
  try simp only[Act.put,List.setIfInBounds_toArray,List.set_cons_zero,List.set_cons_succ]
  refine wpAnyH_take (i:=7) (v:=?_) (by simp only[List.getElem?_toArray,List.getElem?_cons_succ,List.getElem?_cons_zero];rfl) (by kernel_rfl) (by kernel_rfl) (by kernel_rfl) (by exact fun _ _ _ h=>h) (Or.inl ⟨by rfl,?_⟩) (by with_reducible exact hS) ?_
  rotate_left
  ·intro W hSw;(obtain⟨⟨x0,x1,x2,x3,x4,x5⟩,-⟩:=hSw);go_simp;all_goals (with_reducible rfl)
  try simp only[Act.put,List.setIfInBounds_toArray,List.set_cons_zero,List.set_cons_succ]
  refine Rg.take_one 5 (by simp only[List.getElem?_toArray,List.getElem?_cons_succ,List.getElem?_cons_zero];rfl) (by kernel_rfl) (fun K hK=>?_)
  go_simp
  go_at_call 106
  refine(whatsOf_at row _).mono ?_
  rintro en w5 ⟨rfl,hb5⟩
  have hS5:BoxS w5 w.heap.size q S T p n∧Below w.heap.size w w5:=⟨hS.1.kept hb5,chain hS.2 hS.2.size hb5⟩
  go_wp2_with fail
  refine hK.out _ _ hS5 (fun hHeld5=>?_)
  clear hK K
  try simp only[Act.put,List.setIfInBounds_toArray,List.set_cons_zero,List.set_cons_succ]
  refine wpAnyH_take (i:=8) (v:=?_) (by simp only[List.getElem?_toArray,List.getElem?_cons_succ,List.getElem?_cons_zero];rfl) (by kernel_rfl) (by kernel_rfl) (by kernel_rfl) (by exact fun _ _ _ h=>h) (Or.inl ⟨by rfl,?_⟩) (by with_reducible exact hS5) ?_
  rotate_left
  ·intro W hSw;(obtain⟨⟨x0,x1,x2,x3,x4,x5⟩,-⟩:=hSw);go_simp;all_goals (with_reducible rfl)
  try simp only[Act.put,List.setIfInBounds_toArray,List.set_cons_zero,List.set_cons_succ]
  refine wpAnyH_take (i:=9) (v:=?_) (by simp only[List.getElem?_toArray,List.getElem?_cons_succ,List.getElem?_cons_zero];rfl) (by kernel_rfl) (by kernel_rfl) (by kernel_rfl) (by exact fun _ _ _ h=>h) (Or.inl ⟨by rfl,?_⟩) (by with_reducible exact hS5) ?_
  rotate_left
  ·intro W hSw;(obtain⟨⟨x0,x1,x2,x3,x4,x5⟩,-⟩:=hSw);go_simp;all_goals (with_reducible rfl)
  try simp only[Act.put,List.setIfInBounds_toArray,List.set_cons_zero,List.set_cons_succ]
  refine wpAnyH_take (i:=10) (v:=?_) (by simp only[List.getElem?_toArray,List.getElem?_cons_succ,List.getElem?_cons_zero];rfl) (by kernel_rfl) (by kernel_rfl) (by kernel_rfl) (by exact fun _ _ _ h=>h) (Or.inl ⟨by rfl,?_⟩) (by with_reducible exact hS5) ?_
  rotate_left
  ·intro W hSw;(obtain⟨⟨x0,x1,x2,x3,x4,x5⟩,-⟩:=hSw);go_simp;all_goals (with_reducible rfl)
  try simp only[Act.put,List.setIfInBounds_toArray,List.set_cons_zero,List.set_cons_succ]
  refine wpAnyH_take (i:=11) (v:=?_) (by simp only[List.getElem?_toArray,List.getElem?_cons_succ,List.getElem?_cons_zero];rfl) (by kernel_rfl) (by kernel_rfl) (by kernel_rfl) (by exact fun _ _ _ h=>h) (Or.inl ⟨by rfl,?_⟩) (by with_reducible exact hS5) ?_
  rotate_left
  ·intro W hSw;(obtain⟨⟨x0,x1,x2,x3,x4,x5⟩,-⟩:=hSw);go_simp;all_goals (with_reducible rfl)
  try simp only[Act.put,List.setIfInBounds_toArray,List.set_cons_zero,List.set_cons_succ]
  refine wpAnyH_take (i:=12) (v:=?_) (by simp only[List.getElem?_toArray,List.getElem?_cons_succ,List.getElem?_cons_zero];rfl) (by kernel_rfl) (by kernel_rfl) (by kernel_rfl) (by exact fun _ _ _ h=>h) (Or.inl ⟨by rfl,?_⟩) (by with_reducible exact hS5) ?_
  rotate_left
  ·intro W hSw;(obtain⟨⟨x0,x1,x2,x3,x4,x5⟩,-⟩:=hSw);go_simp;all_goals (with_reducible rfl)
  try simp only[Act.put,List.setIfInBounds_toArray,List.set_cons_zero,List.set_cons_succ]
  refine wpAnyH_done (by kernel_rfl) ?_ _
  have HB:=Lib.hid hS5.2
  go_wp2
  go_ret
  exact⟨ret_bool HE.out,HB.out⟩
 ·have tq:decide (0<q)=false:=decide_eq_false hq
  have HE:=Lib.hid (show false=v by rw[← HV.out];exact(inB_no (.inl (show q<1 by omega)) row).symm)
  have hS:=(⟨HX.out.kept (Below.refl _ _).drew,chain HW.out HW.out.size (Below.refl _ _).drew⟩:BoxS w1.drew w.heap.size q S T p n∧Below w.heap.size w w1.drew)
  refine wp_region_held_drew (S:=fun W=>BoxS W w.heap.size q S T p n∧Below w.heap.size w W) (by kernel_rfl) hS (fun hHeld=>?_)
  refine wpAnyH_take (i:=0) (v:=?_) (by simp only[List.getElem?_toArray,List.getElem?_cons_zero];rfl) (by kernel_rfl) (by kernel_rfl) (by kernel_rfl) (by exact fun _ _ _ h=>h) (Or.inl ⟨by rfl,?_⟩) (by with_reducible exact hS) ?_
  rotate_left
  ·intro W hSw;(obtain⟨⟨x0,x1,x2,x3,x4,x5⟩,-⟩:=hSw);go_simp;all_goals (with_reducible rfl)
  try simp only[Act.put,List.setIfInBounds_toArray,List.set_cons_zero,List.set_cons_succ]
  refine wpAnyH_take (i:=1) (v:=?_) (by simp only[List.getElem?_toArray,List.getElem?_cons_succ,List.getElem?_cons_zero];rfl) (by kernel_rfl) (by kernel_rfl) (by kernel_rfl) (by exact fun _ _ _ h=>h) (Or.inl ⟨by rfl,?_⟩) (by with_reducible exact hS) ?_
  rotate_left
  ·intro W hSw;(obtain⟨⟨x0,x1,x2,x3,x4,x5⟩,-⟩:=hSw);go_simp;all_goals (with_reducible rfl)
  try simp only[Act.put,List.setIfInBounds_toArray,List.set_cons_zero,List.set_cons_succ]
  refine wpAnyH_take (i:=2) (v:=?_) (by simp only[List.getElem?_toArray,List.getElem?_cons_succ,List.getElem?_cons_zero];rfl) (by kernel_rfl) (by kernel_rfl) (by kernel_rfl) (by exact fun _ _ _ h=>h) (Or.inl ⟨by rfl,?_⟩) (by with_reducible exact hS) ?_
  rotate_left
  ·intro W hSw;(obtain⟨⟨x0,x1,x2,x3,x4,x5⟩,-⟩:=hSw);go_simp;all_goals (with_reducible rfl)
  try simp only[Act.put,List.setIfInBounds_toArray,List.set_cons_zero,List.set_cons_succ]
  refine wpAnyH_take (i:=3) (v:=?_) (by simp only[List.getElem?_toArray,List.getElem?_cons_succ,List.getElem?_cons_zero];rfl) (by kernel_rfl) (by kernel_rfl) (by kernel_rfl) (by exact fun _ _ _ h=>h) (Or.inl ⟨by rfl,?_⟩) (by with_reducible exact hS) ?_
  rotate_left
  ·intro W hSw;(obtain⟨⟨x0,x1,x2,x3,x4,x5⟩,-⟩:=hSw);go_simp;all_goals (with_reducible rfl)
  try simp only[Act.put,List.setIfInBounds_toArray,List.set_cons_zero,List.set_cons_succ]
  refine Rg.take_un 4 (by simp only[List.getElem?_toArray,List.getElem?_cons_succ,List.getElem?_cons_zero];rfl) (by kernel_rfl) (by kernel_rfl) (by kernel_rfl) (by exact fun _ _ _ h=>h) (by rfl) (by with_reducible exact hS) ?_
  try simp only[Act.put,List.setIfInBounds_toArray,List.set_cons_zero,List.set_cons_succ]
  refine Rg.take_un 5 (by simp only[List.getElem?_toArray,List.getElem?_cons_succ,List.getElem?_cons_zero];rfl) (by kernel_rfl) (by kernel_rfl) (by kernel_rfl) (by exact fun _ _ _ h=>h) (by rfl) (by with_reducible exact hS) ?_
  try simp only[Act.put,List.setIfInBounds_toArray,List.set_cons_zero,List.set_cons_succ]
  refine Rg.take_un 6 (by simp only[List.getElem?_toArray,List.getElem?_cons_succ,List.getElem?_cons_zero];rfl) (by kernel_rfl) (by kernel_rfl) (by kernel_rfl) (by exact fun _ _ _ h=>h) (by rfl) (by with_reducible exact hS) ?_
  try simp only[Act.put,List.setIfInBounds_toArray,List.set_cons_zero,List.set_cons_succ]
  refine Rg.take_un 7 (by simp only[List.getElem?_toArray,List.getElem?_cons_succ,List.getElem?_cons_zero];rfl) (by kernel_rfl) (by kernel_rfl) (by kernel_rfl) (by exact fun _ _ _ h=>h) (by rfl) (by with_reducible exact hS) ?_
  try simp only[Act.put,List.setIfInBounds_toArray,List.set_cons_zero,List.set_cons_succ]
  refine Rg.take_un 8 (by simp only[List.getElem?_toArray,List.getElem?_cons_succ,List.getElem?_cons_zero];rfl) (by kernel_rfl) (by kernel_rfl) (by kernel_rfl) (by exact fun _ _ _ h=>h) (by rfl) (by with_reducible exact hS) ?_
  try simp only[Act.put,List.setIfInBounds_toArray,List.set_cons_zero,List.set_cons_succ]
  refine Rg.take_un 9 (by simp only[List.getElem?_toArray,List.getElem?_cons_succ,List.getElem?_cons_zero];rfl) (by kernel_rfl) (by kernel_rfl) (by kernel_rfl) (by exact fun _ _ _ h=>h) (by rfl) (by with_reducible exact hS) ?_
  try simp only[Act.put,List.setIfInBounds_toArray,List.set_cons_zero,List.set_cons_succ]
  refine Rg.take_un 10 (by simp only[List.getElem?_toArray,List.getElem?_cons_succ,List.getElem?_cons_zero];rfl) (by kernel_rfl) (by kernel_rfl) (by kernel_rfl) (by exact fun _ _ _ h=>h) (by rfl) (by with_reducible exact hS) ?_
  try simp only[Act.put,List.setIfInBounds_toArray,List.set_cons_zero,List.set_cons_succ]
  refine wpAnyH_take (i:=11) (v:=?_) (by simp only[List.getElem?_toArray,List.getElem?_cons_succ,List.getElem?_cons_zero];rfl) (by kernel_rfl) (by kernel_rfl) (by kernel_rfl) (by exact fun _ _ _ h=>h) (Or.inl ⟨by rfl,?_⟩) (by with_reducible exact hS) ?_
  rotate_left
  ·intro W hSw;(obtain⟨⟨x0,x1,x2,x3,x4,x5⟩,-⟩:=hSw);go_simp;all_goals (with_reducible rfl)
  try simp only[Act.put,List.setIfInBounds_toArray,List.set_cons_zero,List.set_cons_succ]
  refine wpAnyH_take (i:=12) (v:=?_) (by simp only[List.getElem?_toArray,List.getElem?_cons_succ,List.getElem?_cons_zero];rfl) (by kernel_rfl) (by kernel_rfl) (by kernel_rfl) (by exact fun _ _ _ h=>h) (Or.inl ⟨by rfl,?_⟩) (by with_reducible exact hS) ?_
  rotate_left
  ·intro W hSw;(obtain⟨⟨x0,x1,x2,x3,x4,x5⟩,-⟩:=hSw);go_simp;all_goals (with_reducible rfl)
  try simp only[Act.put,List.setIfInBounds_toArray,List.set_cons_zero,List.set_cons_succ]
  refine wpAnyH_done (by kernel_rfl) ?_ _
  have HB:=Lib.hid hS.2
  go_wp2
  go_ret
  exact⟨ret_bool HE.out,HB.out⟩
end Go.Proofs.YtlgejmcihchngaaGreatDoor.Ck
namespace Go.Proofs.YtlgejmcihchngaaGreatDoor.Ck
open Go.RowKit Ba Ru
set_option maxHeartbeats 1000000 in
theorem containsS_at (B g c n:Nat) (l:List (List Nat)) (s:ByteArray) (hn:l.length=n) (hn9:n≤1000) (hl:∀ x ∈ l,∀ b ∈ x,b<256) (b:Bool) (hb:l.contains (bytesN s)=b) (w:World) (hown:w.ownsRow B 9 1 (.slice (some ⟨g,0,none⟩) n c) n (rows cS l)) :
  Calls Tryz.prog 161 #[.slice (some ⟨g,0,none⟩) n c,.string s] w fun e w'=>e=.returned (.bool b)∧w=w':=by
 have HI:=Lib.hid (indexS_at B g c n l s hn hn9 hl w hown)
 have HB:=Lib.hid hb
 clear hown hb hn hn9 hl
 go_enter Tryz.func161,Tryz.ntmps161
 go_wp2_with fail
 refine HI.out.mono ?_
 rintro e w1 ⟨z,rfl,hz,rfl⟩
 rw[HB.out]at hz
 have HZ:=Lib.hid hz
 clear hz
 go_wp2
 go_ret
 exact⟨ret_bool HZ.out,rfl⟩
set_option maxRecDepth 100000 in
set_option maxHeartbeats 2000000 in
theorem isSign_at (x:Rl) (hf:FitR x) (B g c m:Nat) (ns:List (List Nat)) (hn:ns.length=m) (hn9:m≤1000) (hl:∀ x ∈ ns,∀ b ∈ x,b<256) (b:Bool) (hb:signB x ns=b) (w:World) (hown:w.ownsRow B 9 1 (.slice (some ⟨g,0,none⟩) m c) m (rows cS ns)) :
  Calls Tryz.prog 135 #[aggR x,.slice (some ⟨g,0,none⟩) m c] w fun e w'=>e=.returned (.bool b)∧Below w.heap.size w w':=by
 obtain⟨q,left,cells,p,n⟩:=x
 simp only[aggR]
 obtain⟨S,hS⟩:∃ S,bytesOf left=S:=⟨_,rfl⟩
 obtain⟨T,hT⟩:∃ T,bytesOf cells=T:=⟨_,rfl⟩
 have hSN:left=bytesN S:=by rw[← hS,bytesN_bytesOf _ hf.2.2.2.1]
 have hv:(decide (q=8) && ns.contains (bytesN S))=b:=by rw[← hSN];exact hb
 rw[hS,hT]
 have HO:=Lib.hid (own_below hown ((Below.refl w.heap.size w).alloc (Nat.le_refl _) (.cells #[.int .i64 q,.string S,.string T,.int .i64 p,.int .i64 n] 50)))
 obtain⟨v,hvc⟩:∃ v,ns.contains (bytesN S)=v:=⟨_,rfl⟩
 rw[hvc]at hv
 have HV:=Lib.hid hv
 have HVC:=Lib.hid hvc
 have HN:=Lib.hid hn
 have HL:=Lib.hid hl
 clear hS hT hSN hb hv hvc hf hown hn hl
 go_enter Tryz.func135,Tryz.ntmps135
 go_upto_region 1 with fail
 have hx:=BoxS.new w q S T p n 50
 have hw:=(Below.refl w.heap.size w).alloc (Nat.le_refl _) (.cells #[.int .i64 q,.string S,.string T,.int .i64 p,.int .i64 n] 50)
 generalize w.alloc _=w1 at hx hw HO ⊢
 have HW:=Lib.hid hw
 have HC:=Lib.hid (containsS_at B g c m ns S HN.out hn9 HL.out v HVC.out w1 HO.out)
 obtain⟨x0,x1,x2,x3,x4,x5⟩:=hx
 clear hw
 by_cases h8:q=8
 ·subst h8
  go_wp2_with fail
  refine HC.out.mono ?_
  rintro e w2 ⟨rfl,rfl⟩
  go_wp2
  go_ret
  exact⟨ret_bool (by rw[← HV.out];rfl),HW.out⟩
 ·have t8:(q==8)=false:=beq_eq_false_iff_ne.2 h8
  go_wp2
  go_ret
  exact⟨ret_bool (by rw[← HV.out,decide_eq_false h8];rfl),HW.out⟩
theorem kept_row:rows cS keptL=[.string { data:=#[98,108,107] },.string { data:=#[99,111,110,116] },.string { data:=#[105,110,100] }]:=by kernel_rfl
theorem short_row:rows cS shortL=[.string { data:=#[110,117,109] },.string { data:=#[108,101,116] }]:=by kernel_rfl
theorem kept_own (w:World):(w.alloc (.cells #[.string { data:=#[98,108,107] },.string { data:=#[99,111,110,116] },.string { data:=#[105,110,100] }] 9)).ownsRow w.heap.size 9 1 (.slice (some ⟨w.heap.size,0,none⟩) 3 3) 3 (rows cS keptL):=by
 rw[kept_row]
 exact World.ownsRow_lit (base:=w.heap.size) (e:=9) (size:=1) w _ 3 (Nat.le_refl _) (by decide) rfl
theorem short_own (w:World):(w.alloc (.cells #[.string { data:=#[110,117,109] },.string { data:=#[108,101,116] }] 9)).ownsRow w.heap.size 9 1 (.slice (some ⟨w.heap.size,0,none⟩) 2 2) 2 (rows cS shortL):=by
 rw[short_row]
 exact World.ownsRow_lit (base:=w.heap.size) (e:=9) (size:=1) w _ 2 (Nat.le_refl _) (by decide) rfl
theorem kept_lt:∀ x ∈ keptL,∀ b ∈ x,b<256:=by decide +kernel
theorem short_lt:∀ x ∈ shortL,∀ b ∈ x,b<256:=by decide +kernel
set_option maxRecDepth 100000 in
set_option maxHeartbeats 2000000 in
theorem laysOut_at (x:Rl) (hf:FitR x) (b:Bool) (hb:keptB x=b) (w:World) :
  Calls Tryz.prog 134 #[aggR x] w fun e w'=>e=.returned (.bool b)∧Below w.heap.size w w':=by
 rw[kept_sign]at hb
 have HS:=Lib.hid (fun(W:World)=>isSign_at x hf _ _ _ _ keptL rfl (by decide) kept_lt b hb _ (kept_own W))
 obtain⟨q,left,cells,p,n⟩:=x
 simp only[aggR]at HS ⊢
 obtain⟨S,hS⟩:∃ S,bytesOf left=S:=⟨_,rfl⟩
 obtain⟨T,hT⟩:∃ T,bytesOf cells=T:=⟨_,rfl⟩
 rw[hS,hT]at HS ⊢
 clear hS hT hf hb
 go_enter Tryz.func134,Tryz.ntmps134
 go_upto_region 1 with fail
 have hx:=BoxS.new w q S T p n 50
 have hw:=(Below.refl w.heap.size w).alloc (Nat.le_refl _) (.cells #[.int .i64 q,.string S,.string T,.int .i64 p,.int .i64 n] 50)
 generalize w.alloc _=w1 at hx hw ⊢
 have HW:=Lib.hid (hw.alloc hw.size (.cells #[.string { data:=#[98,108,107] },.string { data:=#[99,111,110,116] },.string { data:=#[105,110,100] }] 9))
 obtain⟨x0,x1,x2,x3,x4,x5⟩:=hx
 clear hw
 go_wp2_with fail
 refine(HS.out _).mono ?_
 rintro e w2 ⟨rfl,hb2⟩
 have HE:=Lib.hid (chain HW.out HW.out.size hb2)
 clear hb2
 go_wp2
 go_ret
 exact⟨rfl,HE.out⟩
set_option maxRecDepth 100000 in
set_option maxHeartbeats 4000000 in
theorem mostCells_at (x:Rl) (hf:FitR x) (w:World) :
  Calls Tryz.prog 98 #[aggR x] w fun e w'=>e=.returned (.int .i64 ((mostN x:Nat):Int))∧Below w.heap.size w w':=by
 obtain⟨k,hk⟩:∃ k,keptB x=k:=⟨_,rfl⟩
 obtain⟨z,hz⟩:∃ z,signB x shortL=z:=⟨_,rfl⟩
 obtain⟨r,hr⟩:∃ r,mostN x=r:=⟨_,rfl⟩
 have HK:=Lib.hid (fun(W:World)=>laysOut_at x hf k hk W)
 have HS:=Lib.hid (fun(W:World)=>isSign_at x hf _ _ _ _ shortL rfl (by decide) short_lt z hz _ (short_own W))
 rw[hr]
 unfold mostN at hr
 rw[hk,hz]at hr
 clear hk hz
 obtain⟨q,left,cells,p,n⟩:=x
 simp only[aggR]at HS HK hr ⊢
 obtain⟨S,hS⟩:∃ S,bytesOf left=S:=⟨_,rfl⟩
 obtain⟨T,hT⟩:∃ T,bytesOf cells=T:=⟨_,rfl⟩
 have hSz:left.length=S.size:=by rw[← hS,bytesOf_size]
 have hSm:S.size≤maxLen:=by rw[← hSz];exact hf.2.2.2.2.2.1
 unfold maxLen at hSm
 rw[hS,hT]at HS HK ⊢
 rw[hSz]at hr
 have HR:=Lib.hid hr
 clear hS hT hf hr hSz
 go_enter Tryz.func98,Tryz.ntmps98
 go_upto_region 1 with fail
 have hx:=BoxS.new w q S T p n 50
 have hw:=(Below.refl w.heap.size w).alloc (Nat.le_refl _) (.cells #[.int .i64 q,.string S,.string T,.int .i64 p,.int .i64 n] 50)
 generalize w.alloc _=w1 at hx hw ⊢
 have HX:=Lib.hid hx
 have HW:=Lib.hid hw
 obtain⟨x0,x1,x2,x3,x4,x5⟩:=hx
 clear hw
 go_wp2_with fail
 refine(HK.out _).mono ?_
 rintro e w2 ⟨rfl,hb2⟩
 have hx2:=HX.out.kept hb2
 have HW2:=Lib.hid (chain HW.out HW.out.size hb2)
 clear x0 x1 x2 x3 x4 x5 hb2 HX HW
 have HX:=Lib.hid hx2
 obtain⟨x0,x1,x2,x3,x4,x5⟩:=hx2
 have HSC:=Lib.hid (HW2.out.alloc HW2.out.size (.cells #[.string { data:=#[110,117,109] },.string { data:=#[108,101,116] }] 9))
 cases k
 case true =>
  have HE:=Lib.hid (HR.out.symm.trans (if_pos (.inl rfl)))
  go_wp2
  go_ret
  exact⟨by rw[HE.out];rfl,HW2.out⟩
 case false =>
 by_cases h7:q=7
 ·have HE:=Lib.hid (HR.out.symm.trans (if_pos (.inr (.inl h7))))
  subst h7
  go_wp2
  go_ret
  exact⟨by rw[HE.out];rfl,HW2.out⟩
 have t7:(q==7)=false:=beq_eq_false_iff_ne.2 h7
 by_cases h1:q=1
 ·by_cases hs:S.size=1
  ·have HE:=Lib.hid (HR.out.symm.trans (if_pos (.inr (.inr ⟨h1,hs⟩))))
   have ts:((S.size:Int)==1)=true:=by rw[beq_iff_eq];omega
   subst h1
   clear hs
   go_wp2
   go_ret
   exact⟨by rw[HE.out];rfl,HW2.out⟩
  ·have HE:=Lib.hid (HR.out.symm.trans (if_neg (fun h=>h.elim (fun h=>Bool.noConfusion h) (fun h=>h.elim h7 (fun h=>hs h.2)))))
   have ts:((S.size:Int)==1)=false:=beq_eq_false_iff_ne.2 (by omega)
   subst h1
   clear hs h7
   go_wp2_with fail
   refine(HS.out _).mono ?_
   rintro e w3 ⟨rfl,hb3⟩
   have HW3:=Lib.hid (chain HSC.out HSC.out.size hb3)
   clear hb3
   cases z
   all_goals
    go_wp2
    go_ret
    exact⟨by rw[HE.out];rfl,HW3.out⟩
 ·have HE:=Lib.hid (HR.out.symm.trans (if_neg (fun h=>h.elim (fun h=>Bool.noConfusion h) (fun h=>h.elim h7 (fun h=>h1 h.1)))))
  have t1:(q==1)=false:=beq_eq_false_iff_ne.2 h1
  clear h7 h1
  go_wp2_with fail
  refine(HS.out _).mono ?_
  rintro e w3 ⟨rfl,hb3⟩
  have HW3:=Lib.hid (chain HSC.out HSC.out.size hb3)
  clear hb3
  cases z
  all_goals
   go_wp2
   go_ret
   exact⟨by rw[HE.out];rfl,HW3.out⟩
set_option maxRecDepth 100000 in
set_option maxHeartbeats 4000000 in
theorem alone9_at (x:Rl) (hf:FitR x) (h1:x.left.length≤9000) (h2:x.cells.length≤9000) (b:Bool) (hb:aloneB prC x=b) (w:World) (hL:LaidR w) :
  Calls Tryz.prog 67 #[aggR x] w fun e w'=>e=.returned (.bool b)∧Below w.heap.size w w':=by
 have hLN:=hL.1
 have HL:=Lib.hid hL
 clear hL
 rw[alone_most]at hb
 obtain⟨m,hm⟩:∃ m,mayR prC x=m:=⟨_,rfl⟩
 have HM:=Lib.hid (fun W hW=>may_at x hf.2.2.2.1 hf.2.2.2.2.1 (by omega) (by omega) m hm W hW)
 have HMC:=Lib.hid (fun(W:World)=>mostCells_at x hf W)
 rw[hm]at hb
 obtain⟨r,hr⟩:∃ r,mostN x=r:=⟨_,rfl⟩
 rw[hr]at hb HMC
 clear hm hr
 obtain⟨q,left,cells,p,n⟩:=x
 simp only[aggR]at HM HMC hb h2 ⊢
 obtain⟨S,hS⟩:∃ S,bytesOf left=S:=⟨_,rfl⟩
 obtain⟨T,hT⟩:∃ T,bytesOf cells=T:=⟨_,rfl⟩
 have hTz:cells.length=T.size:=by rw[← hT,bytesOf_size]
 rw[hS,hT]at HM HMC ⊢
 rw[hTz]at hb h2
 have HB:=Lib.hid hb
 clear hS hT hf hb hTz h1
 go_enter Tryz.func67,Tryz.ntmps67
 go_upto_region 1 with fail
 have hx:=BoxS.new w q S T p n 50
 have hw:=(Below.refl w.heap.size w).alloc (Nat.le_refl _) (.cells #[.int .i64 q,.string S,.string T,.int .i64 p,.int .i64 n] 50)
 generalize w.alloc _=wa at hx hw ⊢
 have HX:=Lib.hid hx
 have HW:=Lib.hid hw
 clear hx hw
 cases m
 case true =>
  have HE:=Lib.hid (show decide (T.size≤r)=b by rw[← HB.out,Bool.true_and])
  have hS:=(⟨HX.out.kept (Below.refl _ _).drew,chain HW.out HW.out.size (Below.refl _ _).drew⟩:BoxS wa.drew w.heap.size q S T p n∧Below w.heap.size w wa.drew)
  refine wp_region_held_drew (S:=fun W=>BoxS W w.heap.size q S T p n∧Below w.heap.size w W) (by kernel_rfl) hS (fun hHeld=>?_)
  refine wpAnyH_take (i:=0) (v:=?_) (by simp only[List.getElem?_toArray,List.getElem?_cons_zero];rfl) (by kernel_rfl) (by kernel_rfl) (by kernel_rfl) (by exact fun _ _ _ h=>h) (Or.inl ⟨by rfl,?_⟩) (by with_reducible exact hS) ?_
  rotate_left
  ·intro W hSw;(obtain⟨⟨x0,x1,x2,x3,x4,x5⟩,-⟩:=hSw);go_simp;all_goals (with_reducible rfl)
  try simp only[Act.put,List.setIfInBounds_toArray,List.set_cons_zero,List.set_cons_succ]
  refine Rg.take_one 1 (by simp only[List.getElem?_toArray,List.getElem?_cons_succ,List.getElem?_cons_zero];rfl) (by kernel_rfl) (fun K hK=>?_)
  go_simp
  go_at_call 97
  refine(HM.out _ (HL.out.below hS.2 hLN)).mono ?_
  rintro en w1 ⟨rfl,hb1⟩
  have hS1:BoxS w1 w.heap.size q S T p n∧Below w.heap.size w w1:=⟨hS.1.kept hb1,chain hS.2 hS.2.size hb1⟩
  go_wp2_with fail
  refine hK.out _ _ hS1 (fun hHeld1=>?_)
  clear hK K
  try simp only[Act.put,List.setIfInBounds_toArray,List.set_cons_zero,List.set_cons_succ]
  refine wpAnyH_take (i:=2) (v:=?_) (by simp only[List.getElem?_toArray,List.getElem?_cons_succ,List.getElem?_cons_zero];rfl) (by kernel_rfl) (by kernel_rfl) (by kernel_rfl) (by exact fun _ _ _ h=>h) (Or.inl ⟨by rfl,?_⟩) (by with_reducible exact hS1) ?_
  rotate_left
  ·intro W hSw;(obtain⟨⟨x0,x1,x2,x3,x4,x5⟩,-⟩:=hSw);go_simp;all_goals (with_reducible rfl)
  try simp only[Act.put,List.setIfInBounds_toArray,List.set_cons_zero,List.set_cons_succ]
  refine wpAnyH_take (i:=3) (v:=?_) (by simp only[List.getElem?_toArray,List.getElem?_cons_succ,List.getElem?_cons_zero];rfl) (by kernel_rfl) (by kernel_rfl) (by kernel_rfl) (by exact fun _ _ _ h=>h) (Or.inl ⟨by rfl,?_⟩) (by with_reducible exact hS1) ?_
  rotate_left
  ·intro W hSw;(obtain⟨⟨x0,x1,x2,x3,x4,x5⟩,-⟩:=hSw);go_simp;all_goals (with_reducible rfl)
  try simp only[Act.put,List.setIfInBounds_toArray,List.set_cons_zero,List.set_cons_succ]
  refine wpAnyH_take (i:=4) (v:=?_) (by simp only[List.getElem?_toArray,List.getElem?_cons_succ,List.getElem?_cons_zero];rfl) (by kernel_rfl) (by kernel_rfl) (by kernel_rfl) (by exact fun _ _ _ h=>h) (Or.inl ⟨by rfl,?_⟩) (by with_reducible exact hS1) ?_
  rotate_left
  ·intro W hSw;(obtain⟨⟨x0,x1,x2,x3,x4,x5⟩,-⟩:=hSw);go_simp;all_goals (with_reducible rfl)
  try simp only[Act.put,List.setIfInBounds_toArray,List.set_cons_zero,List.set_cons_succ]
  refine wpAnyH_take (i:=5) (v:=?_) (by simp only[List.getElem?_toArray,List.getElem?_cons_succ,List.getElem?_cons_zero];rfl) (by kernel_rfl) (by kernel_rfl) (by kernel_rfl) (by exact fun _ _ _ h=>h) (Or.inl ⟨by rfl,?_⟩) (by with_reducible exact hS1) ?_
  rotate_left
  ·intro W hSw;(obtain⟨⟨x0,x1,x2,x3,x4,x5⟩,-⟩:=hSw);go_simp;all_goals (with_reducible rfl)
  try simp only[Act.put,List.setIfInBounds_toArray,List.set_cons_zero,List.set_cons_succ]
  refine wpAnyH_take (i:=6) (v:=?_) (by simp only[List.getElem?_toArray,List.getElem?_cons_succ,List.getElem?_cons_zero];rfl) (by kernel_rfl) (by kernel_rfl) (by kernel_rfl) (by exact fun _ _ _ h=>h) (Or.inl ⟨by rfl,?_⟩) (by with_reducible exact hS1) ?_
  rotate_left
  ·intro W hSw;(obtain⟨⟨x0,x1,x2,x3,x4,x5⟩,-⟩:=hSw);go_simp;all_goals (with_reducible rfl)
  try simp only[Act.put,List.setIfInBounds_toArray,List.set_cons_zero,List.set_cons_succ]
  refine Rg.take_one 7 (by simp only[List.getElem?_toArray,List.getElem?_cons_succ,List.getElem?_cons_zero];rfl) (by kernel_rfl) (fun K hK=>?_)
  go_simp
  go_at_call 98
  refine(HMC.out _).mono ?_
  rintro en w7 ⟨rfl,hb7⟩
  have hS7:BoxS w7 w.heap.size q S T p n∧Below w.heap.size w w7:=⟨hS1.1.kept hb7,chain hS1.2 hS1.2.size hb7⟩
  go_wp2_with fail
  refine hK.out _ _ hS7 (fun hHeld7=>?_)
  clear hK K
  try simp only[Act.put,List.setIfInBounds_toArray,List.set_cons_zero,List.set_cons_succ]
  refine wpAnyH_take (i:=8) (v:=?_) (by simp only[List.getElem?_toArray,List.getElem?_cons_succ,List.getElem?_cons_zero];rfl) (by kernel_rfl) (by kernel_rfl) (by kernel_rfl) (by exact fun _ _ _ h=>h) (Or.inl ⟨by rfl,?_⟩) (by with_reducible exact hS7) ?_
  rotate_left
  ·intro W hSw;(obtain⟨⟨x0,x1,x2,x3,x4,x5⟩,-⟩:=hSw);go_simp;all_goals (with_reducible rfl)
  try simp only[Act.put,List.setIfInBounds_toArray,List.set_cons_zero,List.set_cons_succ]
  refine wpAnyH_take (i:=9) (v:=?_) (by simp only[List.getElem?_toArray,List.getElem?_cons_succ,List.getElem?_cons_zero];rfl) (by kernel_rfl) (by kernel_rfl) (by kernel_rfl) (by exact fun _ _ _ h=>h) (Or.inl ⟨by rfl,?_⟩) (by with_reducible exact hS7) ?_
  rotate_left
  ·intro W hSw;(obtain⟨⟨x0,x1,x2,x3,x4,x5⟩,-⟩:=hSw);go_simp;all_goals (with_reducible rfl)
  try simp only[Act.put,List.setIfInBounds_toArray,List.set_cons_zero,List.set_cons_succ]
  refine wpAnyH_take (i:=10) (v:=?_) (by simp only[List.getElem?_toArray,List.getElem?_cons_succ,List.getElem?_cons_zero];rfl) (by kernel_rfl) (by kernel_rfl) (by kernel_rfl) (by exact fun _ _ _ h=>h) (Or.inl ⟨by rfl,?_⟩) (by with_reducible exact hS7) ?_
  rotate_left
  ·intro W hSw;(obtain⟨⟨x0,x1,x2,x3,x4,x5⟩,-⟩:=hSw);go_simp;all_goals (with_reducible rfl)
  try simp only[Act.put,List.setIfInBounds_toArray,List.set_cons_zero,List.set_cons_succ]
  refine wpAnyH_done (by kernel_rfl) ?_ _
  have HZ:=Lib.hid hS7.2
  go_wp2
  go_ret
  exact⟨ret_bool HE.out,HZ.out⟩
 case false =>
  have hS:=(⟨HX.out.kept (Below.refl _ _).drew,chain HW.out HW.out.size (Below.refl _ _).drew⟩:BoxS wa.drew w.heap.size q S T p n∧Below w.heap.size w wa.drew)
  refine wp_region_held_drew (S:=fun W=>BoxS W w.heap.size q S T p n∧Below w.heap.size w W) (by kernel_rfl) hS (fun hHeld=>?_)
  refine wpAnyH_take (i:=0) (v:=?_) (by simp only[List.getElem?_toArray,List.getElem?_cons_zero];rfl) (by kernel_rfl) (by kernel_rfl) (by kernel_rfl) (by exact fun _ _ _ h=>h) (Or.inl ⟨by rfl,?_⟩) (by with_reducible exact hS) ?_
  rotate_left
  ·intro W hSw;(obtain⟨⟨x0,x1,x2,x3,x4,x5⟩,-⟩:=hSw);go_simp;all_goals (with_reducible rfl)
  try simp only[Act.put,List.setIfInBounds_toArray,List.set_cons_zero,List.set_cons_succ]
  refine Rg.take_one 1 (by simp only[List.getElem?_toArray,List.getElem?_cons_succ,List.getElem?_cons_zero];rfl) (by kernel_rfl) (fun K hK=>?_)
  go_simp
  go_at_call 97
  refine(HM.out _ (HL.out.below hS.2 hLN)).mono ?_
  rintro en w1 ⟨rfl,hb1⟩
  have hS1:BoxS w1 w.heap.size q S T p n∧Below w.heap.size w w1:=⟨hS.1.kept hb1,chain hS.2 hS.2.size hb1⟩
  go_wp2_with fail
  refine hK.out _ _ hS1 (fun hHeld1=>?_)
  clear hK K
  try simp only[Act.put,List.setIfInBounds_toArray,List.set_cons_zero,List.set_cons_succ]
  refine wpAnyH_take (i:=2) (v:=?_) (by simp only[List.getElem?_toArray,List.getElem?_cons_succ,List.getElem?_cons_zero];rfl) (by kernel_rfl) (by kernel_rfl) (by kernel_rfl) (by exact fun _ _ _ h=>h) (Or.inl ⟨by rfl,?_⟩) (by with_reducible exact hS1) ?_
  rotate_left
  ·intro W hSw;(obtain⟨⟨x0,x1,x2,x3,x4,x5⟩,-⟩:=hSw);go_simp;all_goals (with_reducible rfl)
  try simp only[Act.put,List.setIfInBounds_toArray,List.set_cons_zero,List.set_cons_succ]
  refine Rg.take_un 3 (by simp only[List.getElem?_toArray,List.getElem?_cons_succ,List.getElem?_cons_zero];rfl) (by kernel_rfl) (by kernel_rfl) (by kernel_rfl) (by exact fun _ _ _ h=>h) (by rfl) (by with_reducible exact hS1) ?_
  try simp only[Act.put,List.setIfInBounds_toArray,List.set_cons_zero,List.set_cons_succ]
  refine Rg.take_un 4 (by simp only[List.getElem?_toArray,List.getElem?_cons_succ,List.getElem?_cons_zero];rfl) (by kernel_rfl) (by kernel_rfl) (by kernel_rfl) (by exact fun _ _ _ h=>h) (by rfl) (by with_reducible exact hS1) ?_
  try simp only[Act.put,List.setIfInBounds_toArray,List.set_cons_zero,List.set_cons_succ]
  refine Rg.take_un 5 (by simp only[List.getElem?_toArray,List.getElem?_cons_succ,List.getElem?_cons_zero];rfl) (by kernel_rfl) (by kernel_rfl) (by kernel_rfl) (by exact fun _ _ _ h=>h) (by rfl) (by with_reducible exact hS1) ?_
  try simp only[Act.put,List.setIfInBounds_toArray,List.set_cons_zero,List.set_cons_succ]
  refine Rg.take_un 6 (by simp only[List.getElem?_toArray,List.getElem?_cons_succ,List.getElem?_cons_zero];rfl) (by kernel_rfl) (by kernel_rfl) (by kernel_rfl) (by exact fun _ _ _ h=>h) (by rfl) (by with_reducible exact hS1) ?_
  try simp only[Act.put,List.setIfInBounds_toArray,List.set_cons_zero,List.set_cons_succ]
  refine Rg.take_un 7 (by simp only[List.getElem?_toArray,List.getElem?_cons_succ,List.getElem?_cons_zero];rfl) (by kernel_rfl) (by kernel_rfl) (by kernel_rfl) (by exact fun _ _ _ h=>h) (by rfl) (by with_reducible exact hS1) ?_
  try simp only[Act.put,List.setIfInBounds_toArray,List.set_cons_zero,List.set_cons_succ]
  refine Rg.take_un 8 (by simp only[List.getElem?_toArray,List.getElem?_cons_succ,List.getElem?_cons_zero];rfl) (by kernel_rfl) (by kernel_rfl) (by kernel_rfl) (by exact fun _ _ _ h=>h) (by rfl) (by with_reducible exact hS1) ?_
  try simp only[Act.put,List.setIfInBounds_toArray,List.set_cons_zero,List.set_cons_succ]
  refine wpAnyH_take (i:=9) (v:=?_) (by simp only[List.getElem?_toArray,List.getElem?_cons_succ,List.getElem?_cons_zero];rfl) (by kernel_rfl) (by kernel_rfl) (by kernel_rfl) (by exact fun _ _ _ h=>h) (Or.inl ⟨by rfl,?_⟩) (by with_reducible exact hS1) ?_
  rotate_left
  ·intro W hSw;(obtain⟨⟨x0,x1,x2,x3,x4,x5⟩,-⟩:=hSw);go_simp;all_goals (with_reducible rfl)
  try simp only[Act.put,List.setIfInBounds_toArray,List.set_cons_zero,List.set_cons_succ]
  refine wpAnyH_take (i:=10) (v:=?_) (by simp only[List.getElem?_toArray,List.getElem?_cons_succ,List.getElem?_cons_zero];rfl) (by kernel_rfl) (by kernel_rfl) (by kernel_rfl) (by exact fun _ _ _ h=>h) (Or.inl ⟨by rfl,?_⟩) (by with_reducible exact hS1) ?_
  rotate_left
  ·intro W hSw;(obtain⟨⟨x0,x1,x2,x3,x4,x5⟩,-⟩:=hSw);go_simp;all_goals (with_reducible rfl)
  try simp only[Act.put,List.setIfInBounds_toArray,List.set_cons_zero,List.set_cons_succ]
  refine wpAnyH_done (by kernel_rfl) ?_ _
  have HZ:=Lib.hid hS1.2
  go_wp2
  go_ret
  exact⟨ret_bool (by rw[← HB.out];rfl),HZ.out⟩
end Go.Proofs.YtlgejmcihchngaaGreatDoor.Ck
