/-
  Put together.
-/
import Derived.Test.YthbigkoihpgcfaaGreatDoorTsC
import Derived.Test.YthbigkoihpgcfaaGreatDoorUm
import Derived.BigQuiet
import Derived.Deep.RegionHeld3
open Go.Lib (hid)
open Go.Proofs.YthbigkoihpgcfaaGreatDoor.Rg (zP zN zA zB zC tk tu)
set_option maxRecDepth 100000
set_option maxHeartbeats 16000000
namespace Go.Proofs.YthbigkoihpgcfaaGreatDoor.Ck
open Go.RowKit Ba Ru
theorem aDK:∀ (s:Fin 512) (x:Fin 9),bits .or .u64 ((s.val:Nat):Int) (IntKind.u64.wrap (2 ^ x.val))=((s.val ||| 2 ^ x.val:Nat):Int):=by decide +kernel
theorem QV (l:List Nat) (x:Nat):uI (l++[x])=uI l ||| 2 ^ x:=by
 unfold uI
 rw[List.foldl_append];rfl
theorem U9:∀ (l:List Nat),(∀ k ∈ l,k<9)→∀ s,s<512→l.foldl (fun s k=>s ||| 2 ^ k) s<512
 | [],_,_,hs=>hs
 | x::l,h,s,hs=>by
  refine U9 l (fun k hk=>h k (List.mem_cons_of_mem _ hk)) _ ?_
  have hx:=h x (List.mem_cons_self ..)
  exact Nat.or_lt_two_pow (n:=9) hs (Nat.pow_lt_pow_right (by omega) hx)
theorem aAJ {l:List Nat} (h:∀ k ∈ l,k<9):uI l<512:=U9 l h 320 (by decide)
theorem QW {l:List Nat} (h:∀ k ∈ l,k<9) {k x:Nat} (hx:l[k]?=some x):bits .or .u64 ((uI (l.take k):Nat):Int) (IntKind.u64.wrap (2 ^ x))=((uI (l.take (k+1)):Nat):Int):=by
 rw[List.take_add_one,hx,Option.toList_some,QV]
 exact aDK ⟨uI (l.take k),aAJ fun k hk=>h k (List.mem_of_mem_take hk)⟩ ⟨x,h x (List.mem_of_getElem? hx)⟩
theorem aAK:∀ s:Fin 512,bits .and .u64 ((s.val:Nat):Int) 1=((s.val &&& 1:Nat):Int):=by decide +kernel
theorem aAL {x:Rl} (row:Int) (h:0<x.aE):(bits .and .u64 (((jT row:Nat):Int) / 2 ^ min x.aE.toNat 64) 1==1)=iL x row:=by
 have e:((jT row:Nat):Int) / 2 ^ min x.aE.toNat 64=((jT row / 2 ^ min x.aE.toNat 64:Nat):Int):=by push_cast;rfl
 have hlt:jT row / 2 ^ min x.aE.toNat 64<512:=Nat.lt_of_le_of_lt (Nat.div_le_self _ _) (GN row)
 rw[e,aAK ⟨_,hlt⟩]
 simp only[]
 rw[← Nat.shiftRight_eq_div_pow]
 by_cases h8:x.aE≤8
 ·rw[QQ (by omega) h8 row x rfl,show min x.aE.toNat 64=x.aE.toNat by omega,Bool.eq_iff_iff,beq_iff_eq,decide_eq_true_eq]
  omega
 ·rw[QR _ (by omega),U6 (.inr (by omega))];rfl
theorem BC (g c:Nat) (ks:List Nat) (_hl:ks.length≤1000) (hk:∀ k ∈ ks,k<9) (w:World) (hc:∀ (j k:Nat),ks[j]?=some k→w.cell? ⟨g,j,none⟩=some (.int .i64 (k:Int))) :
  Calls Tryz.prog 123 #[.slice (some ⟨g,0,none⟩) ks.length c] w fun e w'=>e=.returned (.int .u64 ((uI ks:Nat):Int))∧w'=w:=by
 have HC:=hid hc
 have HK:=hid hk
 clear hc hk
 obtain⟨n,hn⟩:∃ n,ks.length=n:=⟨_,rfl⟩
 rw[hn]at _hl ⊢
 have HN:=hid hn
 clear hn
 go_enter Tryz.func123,Tryz.ntmps123
 go_wp2
 go_loopw [3,8] (fun s i wr=>∃ k:Nat,i=.int .i64 (k:Int)∧k≤n∧s=.int .u64 ((uI (ks.take k):Nat):Int)∧wr=w) (fun _ i _=>n - (intOf i).toNat)
 case atStart=>exact⟨0,rfl,Nat.zero_le _,rfl,rfl⟩
 case round =>
  obtain⟨k,rfl,hkn,rfl,rfl⟩:=hrel
  by_cases hlt:k<n
  ·obtain⟨x,hx⟩:∃ x,ks[k]?=some x:=⟨_,List.getElem?_eq_getElem (by rw[HN.out];exact hlt)⟩
   have hcx:=HC.out k x hx
   have hx9:=HK.out x (List.mem_of_getElem? hx)
   have HST:=hid (QW HK.out hx)
   have k0:(0:Int)≤(k:Int):=by omega
   have k1:(k:Int)<(n:Int):=by omega
   obtain⟨s,hs⟩:∃ s,uI (ks.take k)=s:=⟨_,rfl⟩
   rw[hs]at HST ⊢
   clear hx hs
   have x0:(0:Int)≤(x:Int):=by omega
   go_wp2
   go_roundw
   case rel=>exact⟨k+1,by go_num,by omega,by rw[HST.out],trivial⟩
   case measure=>simp[intOf];omega
  ·have HE:=hid (show uI (ks.take k)=uI ks by rw[List.take_of_length_le (by rw[HN.out];omega)])
   rw[HE.out]
   have t1:decide (k<n)=false:=decide_eq_false hlt
   go_wp2
   go_ret
   exact⟨rfl,rfl⟩
theorem QX (w:World) (t:TypeId) (ks:List Nat) (j k:Nat) (h:ks[j]?=some k):(w.alloc (.cells (ks.map fun(k:Nat)=>Value.int .i64 (k:Int)).toArray t)).cell? ⟨w.heap.size,j,none⟩=some (.int .i64 (k:Int)):=by
 have:=World.news_of_block (cs:=(ks.map fun(k:Nat)=>Value.int .i64 (k:Int)).toArray) (t:=t) (fr:=(0,0)) (heap_alloc_new w _) j (.int .i64 (k:Int)) (by simp[h])
 have e:(⟨w.heap.size,0,none⟩:Addr).add j=⟨w.heap.size,j,none⟩:=by unfold Addr.add;split<;>simp_all
 rw[e]at this
 exact this
theorem L2 (row:Int) (w:World):Calls Tryz.prog 82 #[.int .i64 row] w fun e w'=>e=.returned (.int .u64 ((jT row:Nat):Int))∧Below w.heap.size w w':=by
 have call:=fun(ks:List Nat) (hl:ks.length≤1000) (hk:∀ k ∈ ks,k<9)=>BC w.heap.size ks.length ks hl hk (w.alloc (.cells (ks.map fun(k:Nat)=>Value.int .i64 (k:Int)).toArray 3)) (fun j k h=>QX w _ ks j k h)
 have H1:=hid (call [1,2] (by decide) (by decide))
 have H2:=hid (call [1,3,4] (by decide) (by decide))
 have H3:=hid (call [7] (by decide) (by decide))
 have HB1:=hid ((Below.refl w.heap.size w).alloc (Nat.le_refl _) (.cells #[.int .i64 1,.int .i64 2] 3))
 have HB2:=hid ((Below.refl w.heap.size w).alloc (Nat.le_refl _) (.cells #[.int .i64 1,.int .i64 3,.int .i64 4] 3))
 have HB3:=hid ((Below.refl w.heap.size w).alloc (Nat.le_refl _) (.cells #[.int .i64 7] 3))
 clear call
 go_enter Tryz.func82,Tryz.ntmps82
 by_cases r1:row=1
 ·subst r1
  go_wp2_with fail
  refine H1.out.mono ?_
  rintro e w' ⟨rfl,rfl⟩
  go_wp2
  go_ret
  exact⟨rfl,HB1.out⟩
 have t1:(row==1)=false:=beq_eq_false_iff_ne.2 r1
 by_cases r2:row=2
 ·subst r2
  go_wp2_with fail
  refine H2.out.mono ?_
  rintro e w' ⟨rfl,rfl⟩
  go_wp2
  go_ret
  exact⟨rfl,HB2.out⟩
 have t2:(row==2)=false:=beq_eq_false_iff_ne.2 r2
 by_cases r3:row=3
 ·subst r3
  go_wp2_with fail
  refine H3.out.mono ?_
  rintro e w' ⟨rfl,rfl⟩
  go_wp2
  go_ret
  exact⟨rfl,HB3.out⟩
 have t3:(row==3)=false:=beq_eq_false_iff_ne.2 r3
 have HV:=hid (show jT row=0 by unfold jT;rw[if_neg (by omega)])
 clear r1 r2 r3
 go_wp2
 go_ret
 rw[HV.out]
 exact⟨rfl,Below.refl _ _⟩
theorem VA (x:Rl) (row:Int) (w:World):Calls Tryz.prog 47 #[dE x,.int .i64 row] w fun e w'=>e=.returned (.bool (iL x row))∧Below w.heap.size w w':=by
 obtain⟨q,left,cells,p,n⟩:=x
 obtain⟨v,hv⟩:∃ v,iL ⟨q,left,cells,p,n⟩ row=v:=⟨_,rfl⟩
 rw[hv]
 simp only[dE]
 obtain⟨S,hS⟩:∃ S,bytesOf left=S:=⟨_,rfl⟩
 obtain⟨T,hT⟩:∃ T,bytesOf cells=T:=⟨_,rfl⟩
 rw[hS,hT]
 have HV:=hid hv
 clear hS hT hv
 go_enter Tryz.func47,Tryz.ntmps47
 go_upto_region 1 with fail
 have hx:=a7.new w q S T p n 48
 have hw:=(Below.refl w.heap.size w).alloc (Nat.le_refl _) (.cells #[.int .i64 q,.string S,.string T,.int .i64 p,.int .i64 n] 48)
 generalize w.alloc _=w1 at hx hw ⊢
 have HX:=hid hx
 have HW:=hid hw
 clear hx hw
 by_cases hq:0<q
 ·have tq:decide (0<q)=true:=decide_eq_true hq
  have hq0:¬ (q<0):=by omega
  have HE:=hid ((aAL (x:=⟨q,left,cells,p,n⟩) row hq).trans HV.out)
  have hS:=(⟨HX.out.kept (Below.refl _ _).drew,chain HW.out HW.out.size (Below.refl _ _).drew⟩:a7 w1.drew w.heap.size q S T p n∧Below w.heap.size w w1.drew)
  refine wp_region_held_drew (S:=fun W=>a7 W w.heap.size q S T p n∧Below w.heap.size w W) (by kernel_rfl) hS (fun hHeld=>?_)
  refine tk 0 (v:=?_) ?_ ?_
  rotate_left
  ·rintro W ⟨⟨x0,x1,x2,x3,x4,x5⟩,-⟩;go_simp;all_goals (with_reducible rfl)
  try simp only[zP,zA,zB,zC]
  refine tk 1 (v:=?_) ?_ ?_
  rotate_left
  ·rintro W ⟨⟨x0,x1,x2,x3,x4,x5⟩,-⟩;go_simp;all_goals (with_reducible rfl)
  try simp only[zP,zA,zB,zC]
  refine tk 2 (v:=?_) ?_ ?_
  rotate_left
  ·rintro W ⟨⟨x0,x1,x2,x3,x4,x5⟩,-⟩;go_simp;all_goals (with_reducible rfl)
  try simp only[zP,zA,zB,zC]
  refine tk 3 (v:=?_) ?_ ?_
  rotate_left
  ·rintro W ⟨⟨x0,x1,x2,x3,x4,x5⟩,-⟩;go_simp;all_goals (with_reducible rfl)
  try simp only[zP,zA,zB,zC]
  refine tk 4 (v:=?_) ?_ ?_
  rotate_left
  ·rintro W ⟨⟨x0,x1,x2,x3,x4,x5⟩,-⟩;go_simp;all_goals (with_reducible rfl)
  try simp only[zP,zA,zB,zC]
  refine tk 6 (v:=?_) ?_ ?_
  rotate_left
  ·rintro W ⟨⟨x0,x1,x2,x3,x4,x5⟩,-⟩;go_simp;all_goals (with_reducible rfl)
  try simp only[zP,zA,zB,zC]
  refine tk 7 (v:=?_) ?_ ?_
  rotate_left
  ·rintro W ⟨⟨x0,x1,x2,x3,x4,x5⟩,-⟩;go_simp;all_goals (with_reducible rfl)
  try simp only[zP,zA,zB,zC]
  refine Rg.take_one 5 (by simp only[List.getElem?_toArray,List.getElem?_cons_succ,List.getElem?_cons_zero];rfl) (by kernel_rfl) (fun K hK=>?_)
  go_simp
  go_at_call 82
  refine(L2 row _).mono ?_
  rintro en w5 ⟨rfl,hb5⟩
  have hS5:a7 w5 w.heap.size q S T p n∧Below w.heap.size w w5:=⟨hS.1.kept hb5,chain hS.2 hS.2.size hb5⟩
  go_wp2_with fail
  refine hK.out _ _ hS5 (fun hHeld5=>?_)
  clear hK K
  try simp only[zP,zA,zB,zC]
  try simp only[zN]
  refine tk 8 (v:=?_) ?_ ?_
  rotate_left
  ·rintro W ⟨⟨x0,x1,x2,x3,x4,x5⟩,-⟩;go_simp;all_goals (with_reducible rfl)
  try simp only[zP,zA,zB,zC]
  refine tk 9 (v:=?_) ?_ ?_
  rotate_left
  ·rintro W ⟨⟨x0,x1,x2,x3,x4,x5⟩,-⟩;go_simp;all_goals (with_reducible rfl)
  try simp only[zP,zA,zB,zC]
  refine tk 10 (v:=?_) ?_ ?_
  rotate_left
  ·rintro W ⟨⟨x0,x1,x2,x3,x4,x5⟩,-⟩;go_simp;all_goals (with_reducible rfl)
  try simp only[zP,zA,zB,zC]
  refine tk 11 (v:=?_) ?_ ?_
  rotate_left
  ·rintro W ⟨⟨x0,x1,x2,x3,x4,x5⟩,-⟩;go_simp;all_goals (with_reducible rfl)
  try simp only[zP,zA,zB,zC]
  refine tk 12 (v:=?_) ?_ ?_
  rotate_left
  ·rintro W ⟨⟨x0,x1,x2,x3,x4,x5⟩,-⟩;go_simp;all_goals (with_reducible rfl)
  try simp only[zP,zA,zB,zC]
  refine wpAnyH_done (by kernel_rfl) ?_ _
  have HB:=hid hS5.2
  go_wp2
  go_ret
  exact⟨aC HE.out,HB.out⟩
 ·have tq:decide (0<q)=false:=decide_eq_false hq
  have HE:=hid (show false=v by rw[← HV.out];exact(U6 (.inl (show q<1 by omega)) row).symm)
  have hS:=(⟨HX.out.kept (Below.refl _ _).drew,chain HW.out HW.out.size (Below.refl _ _).drew⟩:a7 w1.drew w.heap.size q S T p n∧Below w.heap.size w w1.drew)
  refine wp_region_held_drew (S:=fun W=>a7 W w.heap.size q S T p n∧Below w.heap.size w W) (by kernel_rfl) hS (fun hHeld=>?_)
  refine tk 0 (v:=?_) ?_ ?_
  rotate_left
  ·rintro W ⟨⟨x0,x1,x2,x3,x4,x5⟩,-⟩;go_simp;all_goals (with_reducible rfl)
  try simp only[zP,zA,zB,zC]
  refine tk 1 (v:=?_) ?_ ?_
  rotate_left
  ·rintro W ⟨⟨x0,x1,x2,x3,x4,x5⟩,-⟩;go_simp;all_goals (with_reducible rfl)
  try simp only[zP,zA,zB,zC]
  refine tk 2 (v:=?_) ?_ ?_
  rotate_left
  ·rintro W ⟨⟨x0,x1,x2,x3,x4,x5⟩,-⟩;go_simp;all_goals (with_reducible rfl)
  try simp only[zP,zA,zB,zC]
  refine tk 3 (v:=?_) ?_ ?_
  rotate_left
  ·rintro W ⟨⟨x0,x1,x2,x3,x4,x5⟩,-⟩;go_simp;all_goals (with_reducible rfl)
  try simp only[zP,zA,zB,zC]
  refine tu 4 ?_
  try simp only[zP,zA,zB,zC]
  refine tu 5 ?_
  try simp only[zP,zA,zB,zC]
  refine tu 6 ?_
  try simp only[zP,zA,zB,zC]
  refine tu 7 ?_
  try simp only[zP,zA,zB,zC]
  refine tu 8 ?_
  try simp only[zP,zA,zB,zC]
  refine tu 9 ?_
  try simp only[zP,zA,zB,zC]
  refine tu 10 ?_
  try simp only[zP,zA,zB,zC]
  refine tk 11 (v:=?_) ?_ ?_
  rotate_left
  ·rintro W ⟨⟨x0,x1,x2,x3,x4,x5⟩,-⟩;go_simp;all_goals (with_reducible rfl)
  try simp only[zP,zA,zB,zC]
  refine tk 12 (v:=?_) ?_ ?_
  rotate_left
  ·rintro W ⟨⟨x0,x1,x2,x3,x4,x5⟩,-⟩;go_simp;all_goals (with_reducible rfl)
  try simp only[zP,zA,zB,zC]
  refine wpAnyH_done (by kernel_rfl) ?_ _
  have HB:=hid hS.2
  go_wp2
  go_ret
  exact⟨aC HE.out,HB.out⟩
theorem D9 (B g c n:Nat) (l:List (List Nat)) (s:ByteArray) (hn:l.length=n) (hn9:n≤1000) (hl:∀ x ∈ l,∀ b ∈ x,b<256) (b:Bool) (hb:l.contains (aA s)=b) (w:World) (hown:w.ownsRow B 9 1 (.slice (some ⟨g,0,none⟩) n c) n (rows cS l)) :
  Calls Tryz.prog 154 #[.slice (some ⟨g,0,none⟩) n c,.string s] w fun e w'=>e=.returned (.bool b)∧w=w':=by
 have HI:=hid (BZ B g c n l s hn hn9 hl w hown)
 have HB:=hid hb
 clear hown hb hn hn9 hl
 go_enter Tryz.func154,Tryz.ntmps154
 go_wp2_with fail
 refine HI.out.mono ?_
 rintro e w1 ⟨z,rfl,hz,rfl⟩
 rw[HB.out]at hz
 have HZ:=hid hz
 clear hz
 go_wp2
 go_ret
 exact⟨aC HZ.out,rfl⟩
theorem B3 (x:Rl) (hf:eN x) (B g c m:Nat) (ns:List (List Nat)) (hn:ns.length=m) (hn9:m≤1000) (hl:∀ x ∈ ns,∀ b ∈ x,b<256) (b:Bool) (hb:rA x ns=b) (w:World) (hown:w.ownsRow B 9 1 (.slice (some ⟨g,0,none⟩) m c) m (rows cS ns)) :
  Calls Tryz.prog 114 #[dE x,.slice (some ⟨g,0,none⟩) m c] w fun e w'=>e=.returned (.bool b)∧Below w.heap.size w w':=by
 obtain⟨q,left,cells,p,n⟩:=x
 simp only[dE]
 obtain⟨S,hS⟩:∃ S,bytesOf left=S:=⟨_,rfl⟩
 obtain⟨T,hT⟩:∃ T,bytesOf cells=T:=⟨_,rfl⟩
 have hSN:left=aA S:=by rw[← hS,aB _ hf.2.2.2.1]
 have hv:(decide (q=8) && ns.contains (aA S))=b:=by rw[← hSN];exact hb
 rw[hS,hT]
 have HO:=hid (a6 hown ((Below.refl w.heap.size w).alloc (Nat.le_refl _) (.cells #[.int .i64 q,.string S,.string T,.int .i64 p,.int .i64 n] 48)))
 obtain⟨v,hvc⟩:∃ v,ns.contains (aA S)=v:=⟨_,rfl⟩
 rw[hvc]at hv
 have HV:=hid hv
 have HVC:=hid hvc
 have HN:=hid hn
 have HL:=hid hl
 clear hS hT hSN hb hv hvc hf hown hn hl
 go_enter Tryz.func114,Tryz.ntmps114
 go_upto_region 1 with fail
 have hx:=a7.new w q S T p n 48
 have hw:=(Below.refl w.heap.size w).alloc (Nat.le_refl _) (.cells #[.int .i64 q,.string S,.string T,.int .i64 p,.int .i64 n] 48)
 generalize w.alloc _=w1 at hx hw HO ⊢
 have HW:=hid hw
 have HC:=hid (D9 B g c m ns S HN.out hn9 HL.out v HVC.out w1 HO.out)
 obtain⟨x0,x1,x2,x3,x4,x5⟩:=hx
 clear hw
 by_cases h8:q=8
 ·subst h8
  go_wp2_with fail
  refine HC.out.mono ?_
  rintro e w2 ⟨rfl,rfl⟩
  go_wp2
  go_ret
  exact⟨aC (by rw[← HV.out];rfl),HW.out⟩
 ·have t8:(q==8)=false:=beq_eq_false_iff_ne.2 h8
  go_wp2
  go_ret
  exact⟨aC (by rw[← HV.out,decide_eq_false h8];rfl),HW.out⟩
theorem VB:rows cS BX=[.string { data:=#[98,108,107] },.string { data:=#[99,111,110,116] },.string { data:=#[105,110,100] }]:=by kernel_rfl
theorem QY:rows cS kT=[.string { data:=#[110,117,109] },.string { data:=#[108,101,116] }]:=by kernel_rfl
theorem VC (w:World):(w.alloc (.cells #[.string { data:=#[98,108,107] },.string { data:=#[99,111,110,116] },.string { data:=#[105,110,100] }] 9)).ownsRow w.heap.size 9 1 (.slice (some ⟨w.heap.size,0,none⟩) 3 3) 3 (rows cS BX):=by
 rw[VB]
 exact World.ownsRow_lit (base:=w.heap.size) (e:=9) (size:=1) w _ 3 (Nat.le_refl _) (by decide) rfl
theorem QZ (w:World):(w.alloc (.cells #[.string { data:=#[110,117,109] },.string { data:=#[108,101,116] }] 9)).ownsRow w.heap.size 9 1 (.slice (some ⟨w.heap.size,0,none⟩) 2 2) 2 (rows cS kT):=by
 rw[QY]
 exact World.ownsRow_lit (base:=w.heap.size) (e:=9) (size:=1) w _ 2 (Nat.le_refl _) (by decide) rfl
theorem aAM:∀ x ∈ BX,∀ b ∈ x,b<256:=by decide +kernel
theorem VD:∀ x ∈ kT,∀ b ∈ x,b<256:=by decide +kernel
theorem yL (x:Rl) (hf:eN x) (b:Bool) (hb:jF x=b) (w:World) :
  Calls Tryz.prog 113 #[dE x] w fun e w'=>e=.returned (.bool b)∧Below w.heap.size w w':=by
 rw[QS]at hb
 have HS:=hid (fun(W:World)=>B3 x hf _ _ _ _ BX rfl (by decide) aAM b hb _ (VC W))
 obtain⟨q,left,cells,p,n⟩:=x
 simp only[dE]at HS ⊢
 obtain⟨S,hS⟩:∃ S,bytesOf left=S:=⟨_,rfl⟩
 obtain⟨T,hT⟩:∃ T,bytesOf cells=T:=⟨_,rfl⟩
 rw[hS,hT]at HS ⊢
 clear hS hT hf hb
 go_enter Tryz.func113,Tryz.ntmps113
 go_upto_region 1 with fail
 have hx:=a7.new w q S T p n 48
 have hw:=(Below.refl w.heap.size w).alloc (Nat.le_refl _) (.cells #[.int .i64 q,.string S,.string T,.int .i64 p,.int .i64 n] 48)
 generalize w.alloc _=w1 at hx hw ⊢
 have HW:=hid (hw.alloc hw.size (.cells #[.string { data:=#[98,108,107] },.string { data:=#[99,111,110,116] },.string { data:=#[105,110,100] }] 9))
 obtain⟨x0,x1,x2,x3,x4,x5⟩:=hx
 clear hw
 go_wp2_with fail
 refine(HS.out _).mono ?_
 rintro e w2 ⟨rfl,hb2⟩
 have HE:=hid (chain HW.out HW.out.size hb2)
 clear hb2
 go_wp2
 go_ret
 exact⟨rfl,HE.out⟩
theorem EA (x:Rl) (hf:eN x) (w:World) :
  Calls Tryz.prog 74 #[dE x] w fun e w'=>e=.returned (.int .i64 ((eB x:Nat):Int))∧Below w.heap.size w w':=by
 obtain⟨k,hk⟩:∃ k,jF x=k:=⟨_,rfl⟩
 obtain⟨z,hz⟩:∃ z,rA x kT=z:=⟨_,rfl⟩
 obtain⟨r,hr⟩:∃ r,eB x=r:=⟨_,rfl⟩
 have HK:=hid (fun(W:World)=>yL x hf k hk W)
 have HS:=hid (fun(W:World)=>B3 x hf _ _ _ _ kT rfl (by decide) VD z hz _ (QZ W))
 rw[hr]
 unfold eB at hr
 rw[hk,hz]at hr
 clear hk hz
 obtain⟨q,left,cells,p,n⟩:=x
 simp only[dE]at HS HK hr ⊢
 obtain⟨S,hS⟩:∃ S,bytesOf left=S:=⟨_,rfl⟩
 obtain⟨T,hT⟩:∃ T,bytesOf cells=T:=⟨_,rfl⟩
 have hSz:left.length=S.size:=by rw[← hS,aF]
 have hSm:S.size≤maxLen:=by rw[← hSz];exact hf.2.2.2.2.2.1
 unfold maxLen at hSm
 rw[hS,hT]at HS HK ⊢
 rw[hSz]at hr
 have HR:=hid hr
 clear hS hT hf hr hSz
 go_enter Tryz.func74,Tryz.ntmps74
 go_upto_region 1 with fail
 have hx:=a7.new w q S T p n 48
 have hw:=(Below.refl w.heap.size w).alloc (Nat.le_refl _) (.cells #[.int .i64 q,.string S,.string T,.int .i64 p,.int .i64 n] 48)
 generalize w.alloc _=w1 at hx hw ⊢
 have HX:=hid hx
 have HW:=hid hw
 obtain⟨x0,x1,x2,x3,x4,x5⟩:=hx
 clear hw
 go_wp2_with fail
 refine(HK.out _).mono ?_
 rintro e w2 ⟨rfl,hb2⟩
 have hx2:=HX.out.kept hb2
 have HW2:=hid (chain HW.out HW.out.size hb2)
 clear x0 x1 x2 x3 x4 x5 hb2 HX HW
 have HX:=hid hx2
 obtain⟨x0,x1,x2,x3,x4,x5⟩:=hx2
 have HSC:=hid (HW2.out.alloc HW2.out.size (.cells #[.string { data:=#[110,117,109] },.string { data:=#[108,101,116] }] 9))
 cases k
 case true =>
  have HE:=hid (HR.out.symm.trans (if_pos (.inl rfl)))
  go_wp2
  go_ret
  exact⟨by rw[HE.out];rfl,HW2.out⟩
 case false =>
 by_cases h7:q=7
 ·have HE:=hid (HR.out.symm.trans (if_pos (.inr (.inl h7))))
  subst h7
  go_wp2
  go_ret
  exact⟨by rw[HE.out];rfl,HW2.out⟩
 have t7:(q==7)=false:=beq_eq_false_iff_ne.2 h7
 by_cases h1:q=1
 ·by_cases hs:S.size=1
  ·have HE:=hid (HR.out.symm.trans (if_pos (.inr (.inr ⟨h1,hs⟩))))
   have ts:((S.size:Int)==1)=true:=by rw[beq_iff_eq];omega
   subst h1
   clear hs
   go_wp2
   go_ret
   exact⟨by rw[HE.out];rfl,HW2.out⟩
  ·have HE:=hid (HR.out.symm.trans (if_neg (fun h=>h.elim (fun h=>Bool.noConfusion h) (fun h=>h.elim h7 (fun h=>hs h.2)))))
   have ts:((S.size:Int)==1)=false:=beq_eq_false_iff_ne.2 (by omega)
   subst h1
   clear hs h7
   go_wp2_with fail
   refine(HS.out _).mono ?_
   rintro e w3 ⟨rfl,hb3⟩
   have HW3:=hid (chain HSC.out HSC.out.size hb3)
   clear hb3
   cases z
   all_goals
    go_wp2
    go_ret
    exact⟨by rw[HE.out];rfl,HW3.out⟩
 ·have HE:=hid (HR.out.symm.trans (if_neg (fun h=>h.elim (fun h=>Bool.noConfusion h) (fun h=>h.elim h7 (fun h=>h1 h.1)))))
  have t1:(q==1)=false:=beq_eq_false_iff_ne.2 h1
  clear h7 h1
  go_wp2_with fail
  refine(HS.out _).mono ?_
  rintro e w3 ⟨rfl,hb3⟩
  have HW3:=hid (chain HSC.out HSC.out.size hb3)
  clear hb3
  cases z
  all_goals
   go_wp2
   go_ret
   exact⟨by rw[HE.out];rfl,HW3.out⟩
theorem Q0 (x:Rl) (hf:eN x) (h1:x.left.length≤9000) (h2:x.cells.length≤9000) (b:Bool) (hb:eF dM x=b) (w:World) (hL:dP w) :
  Calls Tryz.prog 43 #[dE x] w fun e w'=>e=.returned (.bool b)∧Below w.heap.size w w':=by
 have hLN:=hL.1
 have HL:=hid hL
 clear hL
 rw[LZ]at hb
 obtain⟨m,hm⟩:∃ m,nM dM x=m:=⟨_,rfl⟩
 have HM:=hid (fun W hW=>nP x hf.2.2.2.1 hf.2.2.2.2.1 (by omega) (by omega) m hm W hW)
 have HMC:=hid (fun(W:World)=>EA x hf W)
 rw[hm]at hb
 obtain⟨r,hr⟩:∃ r,eB x=r:=⟨_,rfl⟩
 rw[hr]at hb HMC
 clear hm hr
 obtain⟨q,left,cells,p,n⟩:=x
 simp only[dE]at HM HMC hb h2 ⊢
 obtain⟨S,hS⟩:∃ S,bytesOf left=S:=⟨_,rfl⟩
 obtain⟨T,hT⟩:∃ T,bytesOf cells=T:=⟨_,rfl⟩
 have hTz:cells.length=T.size:=by rw[← hT,aF]
 rw[hS,hT]at HM HMC ⊢
 rw[hTz]at hb h2
 have HB:=hid hb
 clear hS hT hf hb hTz h1
 go_enter Tryz.func43,Tryz.ntmps43
 go_upto_region 1 with fail
 have hx:=a7.new w q S T p n 48
 have hw:=(Below.refl w.heap.size w).alloc (Nat.le_refl _) (.cells #[.int .i64 q,.string S,.string T,.int .i64 p,.int .i64 n] 48)
 generalize w.alloc _=wa at hx hw ⊢
 have HX:=hid hx
 have HW:=hid hw
 clear hx hw
 cases m
 case true =>
  have HE:=hid (show decide (T.size≤r)=b by rw[← HB.out,Bool.true_and])
  have hS:=(⟨HX.out.kept (Below.refl _ _).drew,chain HW.out HW.out.size (Below.refl _ _).drew⟩:a7 wa.drew w.heap.size q S T p n∧Below w.heap.size w wa.drew)
  refine wp_region_held_drew (S:=fun W=>a7 W w.heap.size q S T p n∧Below w.heap.size w W) (by kernel_rfl) hS (fun hHeld=>?_)
  refine tk 0 (v:=?_) ?_ ?_
  rotate_left
  ·rintro W ⟨⟨x0,x1,x2,x3,x4,x5⟩,-⟩;go_simp;all_goals (with_reducible rfl)
  try simp only[zP,zA,zB,zC]
  refine Rg.take_one 1 (by simp only[List.getElem?_toArray,List.getElem?_cons_succ,List.getElem?_cons_zero];rfl) (by kernel_rfl) (fun K hK=>?_)
  go_simp
  go_at_call 73
  refine(HM.out _ (HL.out.below hS.2 hLN)).mono ?_
  rintro en w1 ⟨rfl,hb1⟩
  have hS1:a7 w1 w.heap.size q S T p n∧Below w.heap.size w w1:=⟨hS.1.kept hb1,chain hS.2 hS.2.size hb1⟩
  go_wp2_with fail
  refine hK.out _ _ hS1 (fun hHeld1=>?_)
  clear hK K
  try simp only[zP,zA,zB,zC]
  try simp only[zN]
  refine tk 2 (v:=?_) ?_ ?_
  rotate_left
  ·rintro W ⟨⟨x0,x1,x2,x3,x4,x5⟩,-⟩;go_simp;all_goals (with_reducible rfl)
  try simp only[zP,zA,zB,zC]
  refine tk 3 (v:=?_) ?_ ?_
  rotate_left
  ·rintro W ⟨⟨x0,x1,x2,x3,x4,x5⟩,-⟩;go_simp;all_goals (with_reducible rfl)
  try simp only[zP,zA,zB,zC]
  refine tk 4 (v:=?_) ?_ ?_
  rotate_left
  ·rintro W ⟨⟨x0,x1,x2,x3,x4,x5⟩,-⟩;go_simp;all_goals (with_reducible rfl)
  try simp only[zP,zA,zB,zC]
  refine tk 5 (v:=?_) ?_ ?_
  rotate_left
  ·rintro W ⟨⟨x0,x1,x2,x3,x4,x5⟩,-⟩;go_simp;all_goals (with_reducible rfl)
  try simp only[zP,zA,zB,zC]
  refine tk 6 (v:=?_) ?_ ?_
  rotate_left
  ·rintro W ⟨⟨x0,x1,x2,x3,x4,x5⟩,-⟩;go_simp;all_goals (with_reducible rfl)
  try simp only[zP,zA,zB,zC]
  refine Rg.take_one 7 (by simp only[List.getElem?_toArray,List.getElem?_cons_succ,List.getElem?_cons_zero];rfl) (by kernel_rfl) (fun K hK=>?_)
  go_simp
  go_at_call 74
  refine(HMC.out _).mono ?_
  rintro en w7 ⟨rfl,hb7⟩
  have hS7:a7 w7 w.heap.size q S T p n∧Below w.heap.size w w7:=⟨hS1.1.kept hb7,chain hS1.2 hS1.2.size hb7⟩
  go_wp2_with fail
  refine hK.out _ _ hS7 (fun hHeld7=>?_)
  clear hK K
  try simp only[zP,zA,zB,zC]
  try simp only[zN]
  refine tk 8 (v:=?_) ?_ ?_
  rotate_left
  ·rintro W ⟨⟨x0,x1,x2,x3,x4,x5⟩,-⟩;go_simp;all_goals (with_reducible rfl)
  try simp only[zP,zA,zB,zC]
  refine tk 9 (v:=?_) ?_ ?_
  rotate_left
  ·rintro W ⟨⟨x0,x1,x2,x3,x4,x5⟩,-⟩;go_simp;all_goals (with_reducible rfl)
  try simp only[zP,zA,zB,zC]
  refine tk 10 (v:=?_) ?_ ?_
  rotate_left
  ·rintro W ⟨⟨x0,x1,x2,x3,x4,x5⟩,-⟩;go_simp;all_goals (with_reducible rfl)
  try simp only[zP,zA,zB,zC]
  refine wpAnyH_done (by kernel_rfl) ?_ _
  have HZ:=hid hS7.2
  go_wp2
  go_ret
  exact⟨aC HE.out,HZ.out⟩
 case false =>
  have hS:=(⟨HX.out.kept (Below.refl _ _).drew,chain HW.out HW.out.size (Below.refl _ _).drew⟩:a7 wa.drew w.heap.size q S T p n∧Below w.heap.size w wa.drew)
  refine wp_region_held_drew (S:=fun W=>a7 W w.heap.size q S T p n∧Below w.heap.size w W) (by kernel_rfl) hS (fun hHeld=>?_)
  refine tk 0 (v:=?_) ?_ ?_
  rotate_left
  ·rintro W ⟨⟨x0,x1,x2,x3,x4,x5⟩,-⟩;go_simp;all_goals (with_reducible rfl)
  try simp only[zP,zA,zB,zC]
  refine Rg.take_one 1 (by simp only[List.getElem?_toArray,List.getElem?_cons_succ,List.getElem?_cons_zero];rfl) (by kernel_rfl) (fun K hK=>?_)
  go_simp
  go_at_call 73
  refine(HM.out _ (HL.out.below hS.2 hLN)).mono ?_
  rintro en w1 ⟨rfl,hb1⟩
  have hS1:a7 w1 w.heap.size q S T p n∧Below w.heap.size w w1:=⟨hS.1.kept hb1,chain hS.2 hS.2.size hb1⟩
  go_wp2_with fail
  refine hK.out _ _ hS1 (fun hHeld1=>?_)
  clear hK K
  try simp only[zP,zA,zB,zC]
  try simp only[zN]
  refine tk 2 (v:=?_) ?_ ?_
  rotate_left
  ·rintro W ⟨⟨x0,x1,x2,x3,x4,x5⟩,-⟩;go_simp;all_goals (with_reducible rfl)
  try simp only[zP,zA,zB,zC]
  refine tu 3 ?_
  try simp only[zP,zA,zB,zC]
  refine tu 4 ?_
  try simp only[zP,zA,zB,zC]
  refine tu 5 ?_
  try simp only[zP,zA,zB,zC]
  refine tu 6 ?_
  try simp only[zP,zA,zB,zC]
  refine tu 7 ?_
  try simp only[zP,zA,zB,zC]
  refine tu 8 ?_
  try simp only[zP,zA,zB,zC]
  refine tk 9 (v:=?_) ?_ ?_
  rotate_left
  ·rintro W ⟨⟨x0,x1,x2,x3,x4,x5⟩,-⟩;go_simp;all_goals (with_reducible rfl)
  try simp only[zP,zA,zB,zC]
  refine tk 10 (v:=?_) ?_ ?_
  rotate_left
  ·rintro W ⟨⟨x0,x1,x2,x3,x4,x5⟩,-⟩;go_simp;all_goals (with_reducible rfl)
  try simp only[zP,zA,zB,zC]
  refine wpAnyH_done (by kernel_rfl) ?_ _
  have HZ:=hid hS1.2
  go_wp2
  go_ret
  exact⟨aC (by rw[← HB.out];rfl),HZ.out⟩
end Go.Proofs.YthbigkoihpgcfaaGreatDoor.Ck
