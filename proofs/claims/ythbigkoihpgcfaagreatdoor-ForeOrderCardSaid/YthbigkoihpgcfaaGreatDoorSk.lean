/-
  Put together.
-/
import Derived.Test.YthbigkoihpgcfaaGreatDoorHcA
import Derived.Test.YthbigkoihpgcfaaGreatDoorQe
import Derived.Test.YthbigkoihpgcfaaGreatDoorSj
import Derived.Test.YthbigkoihpgcfaaGreatDoorUm
import Derived.BigQuiet
open Go.Lib (hid)
open Go.Proofs.YthbigkoihpgcfaaGreatDoor.Rg (zP zN zA zB zC tk tu)
set_option maxRecDepth 100000
set_option maxHeartbeats 16000000
namespace Go.Proofs.YthbigkoihpgcfaaGreatDoor.Pa
open Go.RowKit Ba Ru Ck Ti
def r6 (s:List Nat) (p:Int):Bool:=jJ s && decide (0≤p∧p<s.length)
theorem fT {s:List Nat} {p:Int}:r6 s p=true↔jJ s=true∧0≤p∧p<s.length:=by
 unfold r6
 rw[Bool.and_eq_true,decide_eq_true_eq]
theorem vI (S:ByteArray) (hS:S.size≤2000) (p:Int) (hp:oI p) (b:Bool) (hb:r6 (aA S) p=b) (w:World) (hL:bH w) :
  Calls Tryz.prog 232 #[.string S,.int .i64 p] w fun e w'=>e=.returned (.bool b)∧Below w.heap.size w w':=by
 have hsl:=aD S
 have HNO:=hid (fun(h:¬ (0≤p∧p<S.size))=>show false=b from by
  rw[← hb]
  cases hh:r6 (aA S) p with
  | false=>rfl
  | true=>have:=(fT.1 hh).2;rw[hsl]at this;exact absurd this h)
 have HYS:=hid (fun(h:0≤p∧p<S.size)=>show (Hc.j7 S==1)=b from by
  rw[← hb,Bool.eq_iff_iff,beq_iff_eq,fT,YH S,hsl]
  exact⟨fun k=>⟨k,h⟩,fun k=>k.1⟩)
 have HC:=hid (Hc.sY S hS w (kE hL.1))
 clear hb hsl hL
 go_enter Tryz.func232,Tryz.ntmps232
 by_cases f1:p<0
 ·have t1:decide (0≤p)=false:=decide_eq_false (by omega)
  have HV:=hid (HNO.out (by omega))
  go_wp2
  go_ret
  rw[← HV.out]
  exact⟨rfl,Below.refl _ _⟩
 obtain⟨p,rfl⟩:∃ n:Nat,p=(n:Int):=⟨p.toNat,by omega⟩
 have t1:decide ((0:Int)≤(p:Int))=true:=decide_eq_true (by omega)
 by_cases f2:S.size≤p
 ·have t2:decide ((p:Int)<(S.size:Int))=false:=decide_eq_false (by omega)
  have HV:=hid (HNO.out (by omega))
  go_wp2
  go_ret
  rw[← HV.out]
  exact⟨rfl,Below.refl _ _⟩
 have t2:decide ((p:Int)<(S.size:Int))=true:=decide_eq_true (by omega)
 have HV:=hid (HYS.out (by omega))
 clear HNO HYS
 obtain⟨ci,hci⟩:∃ ci,Hc.j7 S=ci:=⟨_,rfl⟩
 rw[hci]at HC HV
 clear hci
 go_wp2_with fail
 refine HC.out.mono ?_
 rintro e w2 ⟨rfl,hb2⟩
 have HB2:=hid hb2
 clear hb2
 go_wp2
 go_ret
 rw[← HV.out]
 exact⟨rfl,HB2.out⟩
structure mI (W:World) (b g o:Nat) (n:Int):Prop where
 c0:W.cell? ⟨b,0,none⟩=some (.pointer (some ⟨g,o,none⟩))
 c1:W.cell? ⟨b,1,none⟩=some (.int .i64 n)
 lt:b<W.heap.size
theorem mI.below {W W':World} {b g o:Nat} {n:Int} (h:mI W b g o n) {B:Nat} (hb:Below B W W') (hB:b<B):mI W' b g o n :=
 ⟨(hb.cell (p:=⟨b,0,none⟩) hB).trans h.c0,(hb.cell (p:=⟨b,1,none⟩) hB).trans h.c1,Nat.lt_of_lt_of_le h.lt hb.size⟩
theorem mI.kept {W W':World} {b g o:Nat} {n:Int} (h:mI W b g o n) (hb:Below W.heap.size W W'):mI W' b g o n:=h.below hb h.lt
theorem mI.new (w:World) (g o:Nat) (n:Int) (t:TypeId):mI (w.alloc (.cells #[.pointer (some ⟨g,o,none⟩),.int .i64 n] t)) w.heap.size g o n:=by
 have hb:=heap_alloc_new w (.cells #[.pointer (some ⟨g,o,none⟩),.int .i64 n] t)
 refine⟨?_,?_,by simp⟩
 ·simp only[World.cell?,hb];rfl
 ·simp only[World.cell?,hb];rfl
theorem J7 (g o:Nat) (q n pr ln:Int) (X T S:ByteArray) (p:Nat) (hS:S.size≤2000) (hX:p+X.size≤S.size) (ev:Bool) (hev:decide (q=1∨q=2∧p=0∨q=3∧p≠0∨q=4∧p≠0∧p+X.size=S.size)=ev) (w:World) (hx:bZ w g o q X T pr ln) (hg:g<w.heap.size) :
  Calls Tryz.prog 248 #[.agg #[.pointer (some ⟨g,o,none⟩),.int .i64 n],.string S,.int .i64 (p:Int)] w fun e w'=>e=.returned (.bool ev)∧Below w.heap.size w w':=by
 have HY:=hid hev.symm
 clear hev
 go_enter Tryz.func248,Tryz.ntmps248
 go_upto_region 1 with fail
 have hc:=mI.new w g o n 255
 have hw:=(Below.refl w.heap.size w).alloc (Nat.le_refl _) (.cells #[.pointer (some ⟨g,o,none⟩),.int .i64 n] 255)
 generalize w.alloc _=w1 at hc hw ⊢
 have hx:=hx.below hw hg
 have HE:=hid hw
 obtain⟨b,hb⟩:∃ b,w.heap.size=b:=⟨_,rfl⟩
 rw[hb]at hc ⊢
 clear hw hb hg
 obtain⟨c0,c1,c2⟩:=hc
 obtain⟨x0,x1,x2,x3,x4⟩:=hx
 by_cases g1:q=1
 ·subst g1
  have HV:=hid (show true=ev from by rw[HY.out];exact(decide_eq_true (by omega)).symm)
  go_wp2
  go_ret
  rw[← HV.out]
  exact⟨rfl,HE.out⟩
 have q1:(q==1)=false:=beq_eq_false_iff_ne.2 g1
 by_cases g2:q=2
 ·subst g2
  by_cases k0:p=0
  ·have v1:((p:Int)==0)=true:=beq_iff_eq.2 (by omega)
   have HV:=hid (show true=ev from by rw[HY.out];exact(decide_eq_true (by omega)).symm)
   go_wp2
   go_ret
   rw[← HV.out]
   exact⟨rfl,HE.out⟩
  ·have v1:((p:Int)==0)=false:=beq_eq_false_iff_ne.2 (by omega)
   have HV:=hid (show false=ev from by rw[HY.out];exact(decide_eq_false (by omega)).symm)
   go_wp2
   go_ret
   rw[← HV.out]
   exact⟨rfl,HE.out⟩
 have q2:(q==2)=false:=beq_eq_false_iff_ne.2 g2
 by_cases g3:q=3
 ·subst g3
  by_cases k0:p=0
  ·have v1:((p:Int) != 0)=false:=by rw[bne_eq_false_iff_eq];omega
   have HV:=hid (show false=ev from by rw[HY.out];exact(decide_eq_false (by omega)).symm)
   go_wp2
   go_ret
   rw[← HV.out]
   exact⟨rfl,HE.out⟩
  ·have v1:((p:Int) != 0)=true:=by rw[bne_iff_ne];omega
   have HV:=hid (show true=ev from by rw[HY.out];exact(decide_eq_true (by omega)).symm)
   go_wp2
   go_ret
   rw[← HV.out]
   exact⟨rfl,HE.out⟩
 have q3:(q==3)=false:=beq_eq_false_iff_ne.2 g3
 by_cases g4:q=4
 rotate_left
 ·have q4:(q==4)=false:=beq_eq_false_iff_ne.2 g4
  have HV:=hid (show false=ev from by rw[HY.out];exact(decide_eq_false (by omega)).symm)
  go_wp2
  go_ret
  rw[← HV.out]
  exact⟨rfl,HE.out⟩
 subst g4
 by_cases k0:p=0
 ·have v1:((p:Int) != 0)=false:=by rw[bne_eq_false_iff_eq];omega
  have HV:=hid (show false=ev from by rw[HY.out];exact(decide_eq_false (by omega)).symm)
  go_wp2
  go_ret
  rw[← HV.out]
  exact⟨rfl,HE.out⟩
 have v1:((p:Int) != 0)=true:=by rw[bne_iff_ne];omega
 have t4:IntKind.i64.wrap ((p:Int)+(X.size:Int))=(p:Int)+(X.size:Int):=IntWalk.i64_in _ ⟨by omega,by omega⟩
 by_cases k1:p+X.size=S.size
 ·have v3:((p:Int)+(X.size:Int)==(S.size:Int))=true:=beq_iff_eq.2 (by omega)
  have HV:=hid (show true=ev from by rw[HY.out];exact(decide_eq_true (by omega)).symm)
  go_wp2
  go_ret
  rw[← HV.out]
  exact⟨rfl,HE.out⟩
 have v3:((p:Int)+(X.size:Int)==(S.size:Int))=false:=beq_eq_false_iff_ne.2 (by omega)
 have HV:=hid (show false=ev from by rw[HY.out];exact(decide_eq_false (by omega)).symm)
 go_wp2
 go_ret
 rw[← HV.out]
 exact⟨rfl,HE.out⟩
theorem S9 (g o h u:Nat) (q n pr ln q' n' pr' ln':Int) (X T X' T':ByteArray) (_hX:X.size≤9000) (_hX':X'.size≤9000) (ev:Bool) (hev:decide (pr<pr'∨pr=pr'∧X'.size<X.size)=ev) (w:World) (hx:bZ w g o q X T pr ln) (hg:g<w.heap.size) (hy:bZ w h u q' X' T' pr' ln') (hh:h<w.heap.size) :
  Calls Tryz.prog 245 #[.agg #[.pointer (some ⟨g,o,none⟩),.int .i64 n],.agg #[.pointer (some ⟨h,u,none⟩),.int .i64 n']] w fun e w'=>e=.returned (.bool ev)∧Below w.heap.size w w':=by
 have HY:=hid hev.symm
 clear hev
 go_enter Tryz.func245,Tryz.ntmps245
 go_upto_region 1 with fail
 have hc:=mI.new w g o n 255
 have hw:=(Below.refl w.heap.size w).alloc (Nat.le_refl _) (.cells #[.pointer (some ⟨g,o,none⟩),.int .i64 n] 255)
 have hs1:(w.alloc (.cells #[.pointer (some ⟨g,o,none⟩),.int .i64 n] 255)).heap.size=w.heap.size+1:=by simp
 generalize w.alloc _=w1 at hc hw hs1 ⊢
 have hd:=mI.new w1 h u n' 255
 have hw2:=(Below.refl w1.heap.size w1).alloc (Nat.le_refl _) (.cells #[.pointer (some ⟨h,u,none⟩),.int .i64 n'] 255)
 generalize w1.alloc _=w2 at hd hw2 ⊢
 have hw3:=chain hw hw.size hw2
 have hx:=hx.below hw3 hg
 have hy:=hy.below hw3 hh
 have hc:=hc.kept hw2
 have HE:=hid hw3
 rw[hs1]at hd
 obtain⟨b,hb⟩:∃ b,w.heap.size=b:=⟨_,rfl⟩
 rw[hb]at hc hd
 try rw[hs1]
 try rw[hb]
 clear hw hw2 hw3 hb hg hh hs1
 obtain⟨c0,c1,c2⟩:=hc
 obtain⟨d0,d1,d2⟩:=hd
 obtain⟨x0,x1,x2,x3,x4⟩:=hx
 obtain⟨y0,y1,y2,y3,y4⟩:=hy
 by_cases g1:pr=pr'
 ·have v1:(pr != pr')=false:=by rw[bne_eq_false_iff_eq];exact g1
  by_cases g2:X'.size<X.size
  ·have v2:decide ((X'.size:Int)<(X.size:Int))=true:=decide_eq_true (by omega)
   have v3:decide (X'.size<X.size)=true:=decide_eq_true g2
   have HV:=hid (show true=ev from by rw[HY.out];exact(decide_eq_true (.inr ⟨g1,g2⟩)).symm)
   clear g1 g2
   go_wp2
   go_quiet (fail)
   go_wp2
   go_quiet (fail)
   go_wp2
   go_ret
   rw[← HV.out]
   exact⟨rfl,Ba.below_drewN (Ba.below_drewN HE.out _) _⟩
  ·have v2:decide ((X'.size:Int)<(X.size:Int))=false:=decide_eq_false (by omega)
   have v3:decide (X'.size<X.size)=false:=decide_eq_false g2
   have HV:=hid (show false=ev from by rw[HY.out];exact(decide_eq_false (by omega)).symm)
   clear g1 g2
   go_wp2
   go_quiet (fail)
   go_wp2
   go_quiet (fail)
   go_wp2
   go_ret
   rw[← HV.out]
   exact⟨rfl,Ba.below_drewN (Ba.below_drewN HE.out _) _⟩
 have v1:(pr != pr')=true:=by rw[bne_iff_ne];exact g1
 by_cases g2:pr<pr'
 ·have v2:decide (pr<pr')=true:=decide_eq_true g2
  have HV:=hid (show true=ev from by rw[HY.out];exact(decide_eq_true (.inl g2)).symm)
  clear g1 g2
  go_wp2
  go_quiet (fail)
  go_wp2
  go_quiet (fail)
  go_wp2
  go_ret
  rw[← HV.out]
  exact⟨rfl,Ba.below_drewN (Ba.below_drewN HE.out _) _⟩
 have v2:decide (pr<pr')=false:=decide_eq_false g2
 have HV:=hid (show false=ev from by rw[HY.out];exact(decide_eq_false (by omega)).symm)
 clear g1 g2
 go_wp2
 go_quiet (fail)
 go_wp2
 go_quiet (fail)
 go_wp2
 go_ret
 rw[← HV.out]
 exact⟨rfl,Ba.below_drewN (Ba.below_drewN HE.out _) _⟩
theorem PZ {x:Rl} {s:List Nat} {p most:Int} (h:¬ (jJ s=true∧0≤p∧p<s.length∧x.left≠[]∧(x.left.length:Int)≤most∧x.left <+: s.drop p.toNat∧rC x s p=true)):false=dH x s p most:=by
 cases hb:dH x s p most with
 | false=>rfl
 | true=>exact absurd (eP hb) h
theorem TA {x:Rl} {s:List Nat} {p most:Int} (h1:jJ s=true) (h2:0≤p) (h3:p<s.length) (h4:x.left≠[]) (h5:(x.left.length:Int)≤most) (h6:x.left <+: s.drop p.toNat):dH x s p most=rC x s p:=by
 unfold dH
 rw[h1,decide_eq_true (p:=0≤p∧p<(s.length:Int)) ⟨h2,h3⟩,decide_eq_true (p:=x.left≠[]∧(x.left.length:Int)≤most) ⟨h4,h5⟩,List.isPrefixOf_iff_prefix.2 h6]
 rfl
theorem TB {X:ByteArray} (h:X.size=0):X.toList.isEmpty=true:=by
 obtain rfl:X={ data:=#[] }:=ByteArray.ext (Array.eq_empty_of_size_eq_zero h)
 rw[ByteArray.toList_eq]
 rfl
theorem J8 (S:ByteArray) (p:Nat):aA (S.extract p S.size)=(aA S).drop p:=by
 rw[dX]
 exact List.take_of_length_le (by rw[List.length_drop,aD];exact Nat.le_refl _)
theorem KA (x:Rl) (hf:eN x) (hx9:x.left.length≤9000) (g o:Nat) (n:Int) (S:ByteArray) (p:Nat) (most:Int) (hS:S.size≤2000) (hpS:p<S.size) (_hmost:oI most) (hrun:jJ (aA S)=true) (ev:Bool) (hev:dH x (aA S) (p:Int) most=ev) (w:World) (hx:bZ w g o x.aE (bytesOf x.left) (bytesOf x.cells) x.prio x.line) (hg:g<w.heap.size) :
  Calls Tryz.prog 244 #[.agg #[.pointer (some ⟨g,o,none⟩),.int .i64 n],.string S,.int .i64 (p:Int),.int .i64 most] w fun e w'=>e=.returned (.bool ev)∧Below w.heap.size w w':=by
 have hsl:=aD S
 obtain⟨X,hX⟩:∃ X,bytesOf x.left=X:=⟨_,rfl⟩
 obtain⟨xt,hT⟩:∃ X,bytesOf x.cells=X:=⟨_,rfl⟩
 have hxN:aA X=x.left:=by rw[← hX];exact aB _ hf.2.2.2.1
 have hxs:X.size=x.left.length:=by rw[← hX];exact aF _
 have HNO:=hid (fun(h:¬ (X.size≠0∧(X.size:Int)≤most∧aA X <+: (aA S).drop p∧rC x (aA S) p=true))=>PZ (x:=x) (s:=aA S) (p:=(p:Int)) (most:=most) fun k=>h ⟨by rw[hxs];exact fun e=>k.2.2.2.1 (List.length_eq_zero_iff.1 e),by rw[hxs];exact k.2.2.2.2.1,by rw[hxN];exact k.2.2.2.2.2.1,k.2.2.2.2.2.2⟩)
 have HYS:=hid (fun(h4:X.size≠0) (h5:(X.size:Int)≤most) (h6:aA X <+: (aA S).drop p)=>TA (x:=x) (s:=aA S) (p:=(p:Int)) (most:=most) hrun (by omega) (by rw[hsl];omega) (fun e=>h4 (by rw[hxs,e];rfl)) (by rw[← hxs];exact h5) (by rw[← hxN];exact h6))
 rw[hev]at HNO HYS
 have HWB:=hid (show rC x (aA S) (p:Int)=decide (x.aE=1∨x.aE=2∧p=0∨x.aE=3∧p≠0∨x.aE=4∧p≠0∧p+X.size=S.size) from by
  unfold rC
  rw[hxs,hsl,decide_eq_decide]
  omega)
 obtain⟨wb,hwb⟩:∃ wb,rC x (aA S) (p:Int)=wb:=⟨_,rfl⟩
 rw[hwb]at HNO HYS HWB
 obtain⟨xq,xl,xc,xp,xn⟩:=x
 simp only[]at hX hT hxs HWB hx9 hx
 rw[hX,hT]at hx
 rw[← hxs]at hx9
 have HPX:=hid (show ∀ W:World,Calls Tryz.prog 156 #[.string (S.extract p S.size),.string X] W fun e w'=>e=.returned (.bool ((aA X).isPrefixOf ((aA S).drop p)))∧w'=W from fun W=>by
  have h:=Tryz.strings_HasPrefix (S.extract p S.size) X W
  rw[pZ,J8]at h
  exact h)
 clear hX hT hf hxN hxs hev hwb hsl hrun
 go_enter Tryz.func244,Tryz.ntmps244
 go_upto_region 1 with fail
 have hc:=mI.new w g o n 255
 have hw:=(Below.refl w.heap.size w).alloc (Nat.le_refl _) (.cells #[.pointer (some ⟨g,o,none⟩),.int .i64 n] 255)
 generalize w.alloc _=w1 at hc hw ⊢
 have hx1:=hx.below hw hg
 obtain⟨b,hb⟩:∃ b,w.heap.size=b:=⟨_,rfl⟩
 rw[hb]at hc hg hw ⊢
 have HBB:=hid hb
 have HKP:=hid (show ∀ W W':World,(mI W b g o n∧bZ W g o xq X xt xp xn∧Below b w W)→Below W.heap.size W W'→(mI W' b g o n∧bZ W' g o xq X xt xp xn∧Below b w W') from fun W W' h hW=>⟨h.1.kept hW,h.2.1.below hW (Nat.lt_trans hg h.1.lt),chain h.2.2 (Nat.le_of_lt h.1.lt) hW⟩)
 have HBX:=hid (show ∀ W:World,Below w1.heap.size w1 W→(mI W b g o n∧bZ W g o xq X xt xp xn∧Below b w W) from fun W hW=>HKP.out w1 W ⟨hc,hx1,hw⟩ hW)
 have HGB:=hid (show ∀ W:World,(mI W b g o n∧bZ W g o xq X xt xp xn∧Below b w W)→g<W.heap.size from fun W h=>Nat.lt_trans hg h.1.lt)
 clear hb hw hg hx
 obtain⟨x0,x1,x2,x3,x4⟩:=hx1
 obtain⟨c0,c1,c2⟩:=hc
 have z1:(0:Int)≤(p:Int):=by omega
 have z2:(p:Int)≤(S.size:Int):=by omega
 by_cases f3:X.size=0
 ·have u1:X.toList.isEmpty=true:=TB f3
  have HV:=hid (HNO.out fun h=>h.1 f3)
  go_wp2_with fail
  have hS:=HBX.out _ (Below.refl _ _).drew
  refine wp_region_held_drew (S:=fun W=>mI W b g o n∧bZ W g o xq X xt xp xn∧Below b w W) (by kernel_rfl) hS (fun hHeld=>?_)
  refine tk 0 (v:=?_) ?_ ?_
  rotate_left
  ·rintro W ⟨⟨c0,c1,c2⟩,⟨x0,x1,x2,x3,x4⟩,-⟩;go_simp;all_goals (with_reducible rfl)
  try simp only[zP,zA,zB,zC]
  refine tk 1 (v:=?_) ?_ ?_
  rotate_left
  ·rintro W ⟨⟨c0,c1,c2⟩,⟨x0,x1,x2,x3,x4⟩,-⟩;go_simp;all_goals (with_reducible rfl)
  try simp only[zP,zA,zB,zC]
  refine tk 2 (v:=?_) ?_ ?_
  rotate_left
  ·rintro W ⟨⟨c0,c1,c2⟩,⟨x0,x1,x2,x3,x4⟩,-⟩;go_simp;all_goals (with_reducible rfl)
  try simp only[zP,zA,zB,zC]
  refine tk 3 (v:=?_) ?_ ?_
  rotate_left
  ·rintro W ⟨⟨c0,c1,c2⟩,⟨x0,x1,x2,x3,x4⟩,-⟩;go_simp;all_goals (with_reducible rfl)
  try simp only[zP,zA,zB,zC]
  refine tk 4 (v:=?_) ?_ ?_
  rotate_left
  ·rintro W ⟨⟨c0,c1,c2⟩,⟨x0,x1,x2,x3,x4⟩,-⟩;go_simp;all_goals (with_reducible rfl)
  try simp only[zP,zA,zB,zC]
  refine tk 5 (v:=?_) ?_ ?_
  rotate_left
  ·rintro W ⟨⟨c0,c1,c2⟩,⟨x0,x1,x2,x3,x4⟩,-⟩;go_simp;all_goals (with_reducible rfl)
  try simp only[zP,zA,zB,zC]
  refine tk 6 (v:=?_) ?_ ?_
  rotate_left
  ·rintro W ⟨⟨c0,c1,c2⟩,⟨x0,x1,x2,x3,x4⟩,-⟩;go_simp;all_goals (with_reducible rfl)
  try simp only[zP,zA,zB,zC]
  refine tu 7 ?_
  try simp only[zP,zA,zB,zC]
  refine tu 8 ?_
  try simp only[zP,zA,zB,zC]
  refine tu 9 ?_
  try simp only[zP,zA,zB,zC]
  refine tu 10 ?_
  try simp only[zP,zA,zB,zC]
  refine tu 11 ?_
  try simp only[zP,zA,zB,zC]
  refine tu 12 ?_
  try simp only[zP,zA,zB,zC]
  refine tu 13 ?_
  try simp only[zP,zA,zB,zC]
  refine tu 14 ?_
  try simp only[zP,zA,zB,zC]
  refine tk 15 (v:=?_) ?_ ?_
  rotate_left
  ·rintro W ⟨⟨c0,c1,c2⟩,⟨x0,x1,x2,x3,x4⟩,-⟩;go_simp;all_goals (with_reducible rfl)
  try simp only[zP,zA,zB,zC]
  refine tk 16 (v:=?_) ?_ ?_
  rotate_left
  ·rintro W ⟨⟨c0,c1,c2⟩,⟨x0,x1,x2,x3,x4⟩,-⟩;go_simp;all_goals (with_reducible rfl)
  try simp only[zP,zA,zB,zC]
  refine tu 17 ?_
  try simp only[zP,zA,zB,zC]
  refine tu 18 ?_
  try simp only[zP,zA,zB,zC]
  refine tu 19 ?_
  try simp only[zP,zA,zB,zC]
  refine tu 20 ?_
  try simp only[zP,zA,zB,zC]
  refine tu 21 ?_
  try simp only[zP,zA,zB,zC]
  refine tu 22 ?_
  try simp only[zP,zA,zB,zC]
  refine tu 23 ?_
  try simp only[zP,zA,zB,zC]
  refine tu 24 ?_
  try simp only[zP,zA,zB,zC]
  refine tu 25 ?_
  try simp only[zP,zA,zB,zC]
  refine tk 26 (v:=?_) ?_ ?_
  rotate_left
  ·rintro W ⟨⟨c0,c1,c2⟩,⟨x0,x1,x2,x3,x4⟩,-⟩;go_simp;all_goals (with_reducible rfl)
  try simp only[zP,zA,zB,zC]
  refine tk 27 (v:=?_) ?_ ?_
  rotate_left
  ·rintro W ⟨⟨c0,c1,c2⟩,⟨x0,x1,x2,x3,x4⟩,-⟩;go_simp;all_goals (with_reducible rfl)
  try simp only[zP,zA,zB,zC]
  refine tu 28 ?_
  try simp only[zP,zA,zB,zC]
  refine tu 29 ?_
  try simp only[zP,zA,zB,zC]
  refine tu 30 ?_
  try simp only[zP,zA,zB,zC]
  refine tu 31 ?_
  try simp only[zP,zA,zB,zC]
  refine tk 32 (v:=?_) ?_ ?_
  rotate_left
  ·rintro W ⟨⟨c0,c1,c2⟩,⟨x0,x1,x2,x3,x4⟩,-⟩;go_simp;all_goals (with_reducible rfl)
  try simp only[zP,zA,zB,zC]
  refine tk 33 (v:=?_) ?_ ?_
  rotate_left
  ·rintro W ⟨⟨c0,c1,c2⟩,⟨x0,x1,x2,x3,x4⟩,-⟩;go_simp;all_goals (with_reducible rfl)
  try simp only[zP,zA,zB,zC]
  refine wpAnyH_done (by kernel_rfl) ?_ _
  have HZ:=hid hS.2.2
  go_wp2
  go_ret
  rw[← HV.out]
  exact⟨rfl,HBB.out▸HZ.out⟩
 have u1:X.toList.isEmpty=false:=Hc.gM X f3
 by_cases f4:most<(X.size:Int)
 ·have u2:decide ((X.size:Int)≤most)=false:=decide_eq_false (by omega)
  have HV:=hid (HNO.out fun h=>by have:=h.2.1;omega)
  go_wp2_with fail
  have hS:=HBX.out _ (Below.refl _ _).drew
  refine wp_region_held_drew (S:=fun W=>mI W b g o n∧bZ W g o xq X xt xp xn∧Below b w W) (by kernel_rfl) hS (fun hHeld=>?_)
  refine tk 0 (v:=?_) ?_ ?_
  rotate_left
  ·rintro W ⟨⟨c0,c1,c2⟩,⟨x0,x1,x2,x3,x4⟩,-⟩;go_simp;all_goals (with_reducible rfl)
  try simp only[zP,zA,zB,zC]
  refine tk 1 (v:=?_) ?_ ?_
  rotate_left
  ·rintro W ⟨⟨c0,c1,c2⟩,⟨x0,x1,x2,x3,x4⟩,-⟩;go_simp;all_goals (with_reducible rfl)
  try simp only[zP,zA,zB,zC]
  refine tk 2 (v:=?_) ?_ ?_
  rotate_left
  ·rintro W ⟨⟨c0,c1,c2⟩,⟨x0,x1,x2,x3,x4⟩,-⟩;go_simp;all_goals (with_reducible rfl)
  try simp only[zP,zA,zB,zC]
  refine tk 3 (v:=?_) ?_ ?_
  rotate_left
  ·rintro W ⟨⟨c0,c1,c2⟩,⟨x0,x1,x2,x3,x4⟩,-⟩;go_simp;all_goals (with_reducible rfl)
  try simp only[zP,zA,zB,zC]
  refine tk 4 (v:=?_) ?_ ?_
  rotate_left
  ·rintro W ⟨⟨c0,c1,c2⟩,⟨x0,x1,x2,x3,x4⟩,-⟩;go_simp;all_goals (with_reducible rfl)
  try simp only[zP,zA,zB,zC]
  refine tk 5 (v:=?_) ?_ ?_
  rotate_left
  ·rintro W ⟨⟨c0,c1,c2⟩,⟨x0,x1,x2,x3,x4⟩,-⟩;go_simp;all_goals (with_reducible rfl)
  try simp only[zP,zA,zB,zC]
  refine tk 6 (v:=?_) ?_ ?_
  rotate_left
  ·rintro W ⟨⟨c0,c1,c2⟩,⟨x0,x1,x2,x3,x4⟩,-⟩;go_simp;all_goals (with_reducible rfl)
  try simp only[zP,zA,zB,zC]
  refine tk 7 (v:=?_) ?_ ?_
  rotate_left
  ·rintro W ⟨⟨c0,c1,c2⟩,⟨x0,x1,x2,x3,x4⟩,-⟩;go_simp;all_goals (with_reducible rfl)
  try simp only[zP,zA,zB,zC]
  refine tk 8 (v:=?_) ?_ ?_
  rotate_left
  ·rintro W ⟨⟨c0,c1,c2⟩,⟨x0,x1,x2,x3,x4⟩,-⟩;go_simp;all_goals (with_reducible rfl)
  try simp only[zP,zA,zB,zC]
  refine tk 9 (v:=?_) ?_ ?_
  rotate_left
  ·rintro W ⟨⟨c0,c1,c2⟩,⟨x0,x1,x2,x3,x4⟩,-⟩;go_simp;all_goals (with_reducible rfl)
  try simp only[zP,zA,zB,zC]
  refine tk 10 (v:=?_) ?_ ?_
  rotate_left
  ·rintro W ⟨⟨c0,c1,c2⟩,⟨x0,x1,x2,x3,x4⟩,-⟩;go_simp;all_goals (with_reducible rfl)
  try simp only[zP,zA,zB,zC]
  refine tk 11 (v:=?_) ?_ ?_
  rotate_left
  ·rintro W ⟨⟨c0,c1,c2⟩,⟨x0,x1,x2,x3,x4⟩,-⟩;go_simp;all_goals (with_reducible rfl)
  try simp only[zP,zA,zB,zC]
  refine tk 12 (v:=?_) ?_ ?_
  rotate_left
  ·rintro W ⟨⟨c0,c1,c2⟩,⟨x0,x1,x2,x3,x4⟩,-⟩;go_simp;all_goals (with_reducible rfl)
  try simp only[zP,zA,zB,zC]
  refine tk 13 (v:=?_) ?_ ?_
  rotate_left
  ·rintro W ⟨⟨c0,c1,c2⟩,⟨x0,x1,x2,x3,x4⟩,-⟩;go_simp;all_goals (with_reducible rfl)
  try simp only[zP,zA,zB,zC]
  refine tk 14 (v:=?_) ?_ ?_
  rotate_left
  ·rintro W ⟨⟨c0,c1,c2⟩,⟨x0,x1,x2,x3,x4⟩,-⟩;go_simp;all_goals (with_reducible rfl)
  try simp only[zP,zA,zB,zC]
  refine tk 15 (v:=?_) ?_ ?_
  rotate_left
  ·rintro W ⟨⟨c0,c1,c2⟩,⟨x0,x1,x2,x3,x4⟩,-⟩;go_simp;all_goals (with_reducible rfl)
  try simp only[zP,zA,zB,zC]
  refine tk 16 (v:=?_) ?_ ?_
  rotate_left
  ·rintro W ⟨⟨c0,c1,c2⟩,⟨x0,x1,x2,x3,x4⟩,-⟩;go_simp;all_goals (with_reducible rfl)
  try simp only[zP,zA,zB,zC]
  refine tu 17 ?_
  try simp only[zP,zA,zB,zC]
  refine tu 18 ?_
  try simp only[zP,zA,zB,zC]
  refine tu 19 ?_
  try simp only[zP,zA,zB,zC]
  refine tu 20 ?_
  try simp only[zP,zA,zB,zC]
  refine tu 21 ?_
  try simp only[zP,zA,zB,zC]
  refine tu 22 ?_
  try simp only[zP,zA,zB,zC]
  refine tu 23 ?_
  try simp only[zP,zA,zB,zC]
  refine tu 24 ?_
  try simp only[zP,zA,zB,zC]
  refine tu 25 ?_
  try simp only[zP,zA,zB,zC]
  refine tk 26 (v:=?_) ?_ ?_
  rotate_left
  ·rintro W ⟨⟨c0,c1,c2⟩,⟨x0,x1,x2,x3,x4⟩,-⟩;go_simp;all_goals (with_reducible rfl)
  try simp only[zP,zA,zB,zC]
  refine tk 27 (v:=?_) ?_ ?_
  rotate_left
  ·rintro W ⟨⟨c0,c1,c2⟩,⟨x0,x1,x2,x3,x4⟩,-⟩;go_simp;all_goals (with_reducible rfl)
  try simp only[zP,zA,zB,zC]
  refine tu 28 ?_
  try simp only[zP,zA,zB,zC]
  refine tu 29 ?_
  try simp only[zP,zA,zB,zC]
  refine tu 30 ?_
  try simp only[zP,zA,zB,zC]
  refine tu 31 ?_
  try simp only[zP,zA,zB,zC]
  refine tk 32 (v:=?_) ?_ ?_
  rotate_left
  ·rintro W ⟨⟨c0,c1,c2⟩,⟨x0,x1,x2,x3,x4⟩,-⟩;go_simp;all_goals (with_reducible rfl)
  try simp only[zP,zA,zB,zC]
  refine tk 33 (v:=?_) ?_ ?_
  rotate_left
  ·rintro W ⟨⟨c0,c1,c2⟩,⟨x0,x1,x2,x3,x4⟩,-⟩;go_simp;all_goals (with_reducible rfl)
  try simp only[zP,zA,zB,zC]
  refine wpAnyH_done (by kernel_rfl) ?_ _
  have HZ:=hid hS.2.2
  go_wp2
  go_ret
  rw[← HV.out]
  exact⟨rfl,HBB.out▸HZ.out⟩
 have u2:decide ((X.size:Int)≤most)=true:=decide_eq_true (by omega)
 obtain⟨pb,hpb⟩:∃ pb,(aA X).isPrefixOf ((aA S).drop p)=pb:=⟨_,rfl⟩
 rw[hpb]at HPX
 cases pb
 case false =>
  have HV:=hid (HNO.out fun h=>by rw[List.isPrefixOf_iff_prefix.2 h.2.2.1]at hpb;cases hpb)
  clear hpb
  go_wp2_with fail
  have hS:=HBX.out _ (Below.refl _ _).drew
  refine wp_region_held_drew (S:=fun W=>mI W b g o n∧bZ W g o xq X xt xp xn∧Below b w W) (by kernel_rfl) hS (fun hHeld=>?_)
  refine tk 0 (v:=?_) ?_ ?_
  rotate_left
  ·rintro W ⟨⟨c0,c1,c2⟩,⟨x0,x1,x2,x3,x4⟩,-⟩;go_simp;all_goals (with_reducible rfl)
  try simp only[zP,zA,zB,zC]
  refine tk 1 (v:=?_) ?_ ?_
  rotate_left
  ·rintro W ⟨⟨c0,c1,c2⟩,⟨x0,x1,x2,x3,x4⟩,-⟩;go_simp;all_goals (with_reducible rfl)
  try simp only[zP,zA,zB,zC]
  refine tk 2 (v:=?_) ?_ ?_
  rotate_left
  ·rintro W ⟨⟨c0,c1,c2⟩,⟨x0,x1,x2,x3,x4⟩,-⟩;go_simp;all_goals (with_reducible rfl)
  try simp only[zP,zA,zB,zC]
  refine tk 3 (v:=?_) ?_ ?_
  rotate_left
  ·rintro W ⟨⟨c0,c1,c2⟩,⟨x0,x1,x2,x3,x4⟩,-⟩;go_simp;all_goals (with_reducible rfl)
  try simp only[zP,zA,zB,zC]
  refine tk 4 (v:=?_) ?_ ?_
  rotate_left
  ·rintro W ⟨⟨c0,c1,c2⟩,⟨x0,x1,x2,x3,x4⟩,-⟩;go_simp;all_goals (with_reducible rfl)
  try simp only[zP,zA,zB,zC]
  refine tk 5 (v:=?_) ?_ ?_
  rotate_left
  ·rintro W ⟨⟨c0,c1,c2⟩,⟨x0,x1,x2,x3,x4⟩,-⟩;go_simp;all_goals (with_reducible rfl)
  try simp only[zP,zA,zB,zC]
  refine tk 6 (v:=?_) ?_ ?_
  rotate_left
  ·rintro W ⟨⟨c0,c1,c2⟩,⟨x0,x1,x2,x3,x4⟩,-⟩;go_simp;all_goals (with_reducible rfl)
  try simp only[zP,zA,zB,zC]
  refine tk 7 (v:=?_) ?_ ?_
  rotate_left
  ·rintro W ⟨⟨c0,c1,c2⟩,⟨x0,x1,x2,x3,x4⟩,-⟩;go_simp;all_goals (with_reducible rfl)
  try simp only[zP,zA,zB,zC]
  refine tk 8 (v:=?_) ?_ ?_
  rotate_left
  ·rintro W ⟨⟨c0,c1,c2⟩,⟨x0,x1,x2,x3,x4⟩,-⟩;go_simp;all_goals (with_reducible rfl)
  try simp only[zP,zA,zB,zC]
  refine tk 9 (v:=?_) ?_ ?_
  rotate_left
  ·rintro W ⟨⟨c0,c1,c2⟩,⟨x0,x1,x2,x3,x4⟩,-⟩;go_simp;all_goals (with_reducible rfl)
  try simp only[zP,zA,zB,zC]
  refine tk 10 (v:=?_) ?_ ?_
  rotate_left
  ·rintro W ⟨⟨c0,c1,c2⟩,⟨x0,x1,x2,x3,x4⟩,-⟩;go_simp;all_goals (with_reducible rfl)
  try simp only[zP,zA,zB,zC]
  refine tk 11 (v:=?_) ?_ ?_
  rotate_left
  ·rintro W ⟨⟨c0,c1,c2⟩,⟨x0,x1,x2,x3,x4⟩,-⟩;go_simp;all_goals (with_reducible rfl)
  try simp only[zP,zA,zB,zC]
  refine tk 12 (v:=?_) ?_ ?_
  rotate_left
  ·rintro W ⟨⟨c0,c1,c2⟩,⟨x0,x1,x2,x3,x4⟩,-⟩;go_simp;all_goals (with_reducible rfl)
  try simp only[zP,zA,zB,zC]
  refine tk 13 (v:=?_) ?_ ?_
  rotate_left
  ·rintro W ⟨⟨c0,c1,c2⟩,⟨x0,x1,x2,x3,x4⟩,-⟩;go_simp;all_goals (with_reducible rfl)
  try simp only[zP,zA,zB,zC]
  refine tk 14 (v:=?_) ?_ ?_
  rotate_left
  ·rintro W ⟨⟨c0,c1,c2⟩,⟨x0,x1,x2,x3,x4⟩,-⟩;go_simp;all_goals (with_reducible rfl)
  try simp only[zP,zA,zB,zC]
  refine tk 15 (v:=?_) ?_ ?_
  rotate_left
  ·rintro W ⟨⟨c0,c1,c2⟩,⟨x0,x1,x2,x3,x4⟩,-⟩;go_simp;all_goals (with_reducible rfl)
  try simp only[zP,zA,zB,zC]
  refine tk 16 (v:=?_) ?_ ?_
  rotate_left
  ·rintro W ⟨⟨c0,c1,c2⟩,⟨x0,x1,x2,x3,x4⟩,-⟩;go_simp;all_goals (with_reducible rfl)
  try simp only[zP,zA,zB,zC]
  refine tk 17 (v:=?_) ?_ ?_
  rotate_left
  ·rintro W ⟨⟨c0,c1,c2⟩,⟨x0,x1,x2,x3,x4⟩,-⟩;go_simp;all_goals (with_reducible rfl)
  try simp only[zP,zA,zB,zC]
  refine tk 18 (v:=?_) ?_ ?_
  rotate_left
  ·rintro W ⟨⟨c0,c1,c2⟩,⟨x0,x1,x2,x3,x4⟩,-⟩;go_simp;all_goals (with_reducible rfl)
  try simp only[zP,zA,zB,zC]
  refine Rg.NB 19 (by simp only[List.getElem?_toArray,List.getElem?_cons_succ,List.getElem?_cons_zero];rfl) (by kernel_rfl) (by kernel_rfl) (by kernel_rfl) ((.string (S.extract p S.size))) (by exact fun _ _ _ h=>h) (by rfl) (by intro W hSw;(obtain⟨⟨c0,c1,c2⟩,⟨x0,x1,x2,x3,x4⟩,-⟩:=hSw);go_simp) (by with_reducible exact hS) ?_
  try simp only[zP,zA,zB,zC]
  refine tk 20 (v:=?_) ?_ ?_
  rotate_left
  ·rintro W ⟨⟨c0,c1,c2⟩,⟨x0,x1,x2,x3,x4⟩,-⟩;go_simp;all_goals (with_reducible rfl)
  try simp only[zP,zA,zB,zC]
  refine tk 21 (v:=?_) ?_ ?_
  rotate_left
  ·rintro W ⟨⟨c0,c1,c2⟩,⟨x0,x1,x2,x3,x4⟩,-⟩;go_simp;all_goals (with_reducible rfl)
  try simp only[zP,zA,zB,zC]
  refine tk 22 (v:=?_) ?_ ?_
  rotate_left
  ·rintro W ⟨⟨c0,c1,c2⟩,⟨x0,x1,x2,x3,x4⟩,-⟩;go_simp;all_goals (with_reducible rfl)
  try simp only[zP,zA,zB,zC]
  refine tk 23 (v:=?_) ?_ ?_
  rotate_left
  ·rintro W ⟨⟨c0,c1,c2⟩,⟨x0,x1,x2,x3,x4⟩,-⟩;go_simp;all_goals (with_reducible rfl)
  try simp only[zP,zA,zB,zC]
  refine tk 24 (v:=?_) ?_ ?_
  rotate_left
  ·rintro W ⟨⟨c0,c1,c2⟩,⟨x0,x1,x2,x3,x4⟩,-⟩;go_simp;all_goals (with_reducible rfl)
  try simp only[zP,zA,zB,zC]
  refine Rg.take_one 25 (by simp only[List.getElem?_toArray,List.getElem?_cons_succ,List.getElem?_cons_zero];rfl) (by kernel_rfl) (fun K hK=>?_)
  go_simp
  go_at_call 156
  refine(HPX.out _).mono ?_
  rintro en w25 ⟨rfl,rfl⟩
  have hS25:=hS
  go_wp2_with fail
  refine hK.out _ _ hS25 (fun hHeld25=>?_)
  clear hK K
  try simp only[zP,zA,zB,zC]
  try simp only[zN]
  refine tk 26 (v:=?_) ?_ ?_
  rotate_left
  ·rintro W ⟨⟨c0,c1,c2⟩,⟨x0,x1,x2,x3,x4⟩,-⟩;go_simp;all_goals (with_reducible rfl)
  try simp only[zP,zA,zB,zC]
  refine tk 27 (v:=?_) ?_ ?_
  rotate_left
  ·rintro W ⟨⟨c0,c1,c2⟩,⟨x0,x1,x2,x3,x4⟩,-⟩;go_simp;all_goals (with_reducible rfl)
  try simp only[zP,zA,zB,zC]
  refine tu 28 ?_
  try simp only[zP,zA,zB,zC]
  refine tu 29 ?_
  try simp only[zP,zA,zB,zC]
  refine tu 30 ?_
  try simp only[zP,zA,zB,zC]
  refine tu 31 ?_
  try simp only[zP,zA,zB,zC]
  refine tk 32 (v:=?_) ?_ ?_
  rotate_left
  ·rintro W ⟨⟨c0,c1,c2⟩,⟨x0,x1,x2,x3,x4⟩,-⟩;go_simp;all_goals (with_reducible rfl)
  try simp only[zP,zA,zB,zC]
  refine tk 33 (v:=?_) ?_ ?_
  rotate_left
  ·rintro W ⟨⟨c0,c1,c2⟩,⟨x0,x1,x2,x3,x4⟩,-⟩;go_simp;all_goals (with_reducible rfl)
  try simp only[zP,zA,zB,zC]
  refine wpAnyH_done (by kernel_rfl) ?_ _
  have HZ:=hid hS25.2.2
  go_wp2
  go_ret
  rw[← HV.out]
  exact⟨rfl,HBB.out▸HZ.out⟩
 case true =>
 have hpp:=List.isPrefixOf_iff_prefix.1 hpb
 have HV:=hid ((HYS.out f3 (by omega) hpp).trans HWB.out)
 have hpx:p+X.size≤S.size:=by have:=hpp.length_le;rw[List.length_drop,aD,aD]at this;omega
 have HAL:=hid (fun(W:World) (h:mI W b g o n∧bZ W g o xq X xt xp xn∧Below b w W)=>J7 g o xq n xp xn X xt S p hS hpx ev HV.out.symm W h.2.1 (HGB.out W h))
 clear hpb hpp hpx HV
 go_wp2_with fail
 have hS:=HBX.out _ (Below.refl _ _).drew
 refine wp_region_held_drew (S:=fun W=>mI W b g o n∧bZ W g o xq X xt xp xn∧Below b w W) (by kernel_rfl) hS (fun hHeld=>?_)
 refine tk 0 (v:=?_) ?_ ?_
 rotate_left
 ·rintro W ⟨⟨c0,c1,c2⟩,⟨x0,x1,x2,x3,x4⟩,-⟩;go_simp;all_goals (with_reducible rfl)
 try simp only[zP,zA,zB,zC]
 refine tk 1 (v:=?_) ?_ ?_
 rotate_left
 ·rintro W ⟨⟨c0,c1,c2⟩,⟨x0,x1,x2,x3,x4⟩,-⟩;go_simp;all_goals (with_reducible rfl)
 try simp only[zP,zA,zB,zC]
 refine tk 2 (v:=?_) ?_ ?_
 rotate_left
 ·rintro W ⟨⟨c0,c1,c2⟩,⟨x0,x1,x2,x3,x4⟩,-⟩;go_simp;all_goals (with_reducible rfl)
 try simp only[zP,zA,zB,zC]
 refine tk 3 (v:=?_) ?_ ?_
 rotate_left
 ·rintro W ⟨⟨c0,c1,c2⟩,⟨x0,x1,x2,x3,x4⟩,-⟩;go_simp;all_goals (with_reducible rfl)
 try simp only[zP,zA,zB,zC]
 refine tk 4 (v:=?_) ?_ ?_
 rotate_left
 ·rintro W ⟨⟨c0,c1,c2⟩,⟨x0,x1,x2,x3,x4⟩,-⟩;go_simp;all_goals (with_reducible rfl)
 try simp only[zP,zA,zB,zC]
 refine tk 5 (v:=?_) ?_ ?_
 rotate_left
 ·rintro W ⟨⟨c0,c1,c2⟩,⟨x0,x1,x2,x3,x4⟩,-⟩;go_simp;all_goals (with_reducible rfl)
 try simp only[zP,zA,zB,zC]
 refine tk 6 (v:=?_) ?_ ?_
 rotate_left
 ·rintro W ⟨⟨c0,c1,c2⟩,⟨x0,x1,x2,x3,x4⟩,-⟩;go_simp;all_goals (with_reducible rfl)
 try simp only[zP,zA,zB,zC]
 refine tk 7 (v:=?_) ?_ ?_
 rotate_left
 ·rintro W ⟨⟨c0,c1,c2⟩,⟨x0,x1,x2,x3,x4⟩,-⟩;go_simp;all_goals (with_reducible rfl)
 try simp only[zP,zA,zB,zC]
 refine tk 8 (v:=?_) ?_ ?_
 rotate_left
 ·rintro W ⟨⟨c0,c1,c2⟩,⟨x0,x1,x2,x3,x4⟩,-⟩;go_simp;all_goals (with_reducible rfl)
 try simp only[zP,zA,zB,zC]
 refine tk 9 (v:=?_) ?_ ?_
 rotate_left
 ·rintro W ⟨⟨c0,c1,c2⟩,⟨x0,x1,x2,x3,x4⟩,-⟩;go_simp;all_goals (with_reducible rfl)
 try simp only[zP,zA,zB,zC]
 refine tk 10 (v:=?_) ?_ ?_
 rotate_left
 ·rintro W ⟨⟨c0,c1,c2⟩,⟨x0,x1,x2,x3,x4⟩,-⟩;go_simp;all_goals (with_reducible rfl)
 try simp only[zP,zA,zB,zC]
 refine tk 11 (v:=?_) ?_ ?_
 rotate_left
 ·rintro W ⟨⟨c0,c1,c2⟩,⟨x0,x1,x2,x3,x4⟩,-⟩;go_simp;all_goals (with_reducible rfl)
 try simp only[zP,zA,zB,zC]
 refine tk 12 (v:=?_) ?_ ?_
 rotate_left
 ·rintro W ⟨⟨c0,c1,c2⟩,⟨x0,x1,x2,x3,x4⟩,-⟩;go_simp;all_goals (with_reducible rfl)
 try simp only[zP,zA,zB,zC]
 refine tk 13 (v:=?_) ?_ ?_
 rotate_left
 ·rintro W ⟨⟨c0,c1,c2⟩,⟨x0,x1,x2,x3,x4⟩,-⟩;go_simp;all_goals (with_reducible rfl)
 try simp only[zP,zA,zB,zC]
 refine tk 14 (v:=?_) ?_ ?_
 rotate_left
 ·rintro W ⟨⟨c0,c1,c2⟩,⟨x0,x1,x2,x3,x4⟩,-⟩;go_simp;all_goals (with_reducible rfl)
 try simp only[zP,zA,zB,zC]
 refine tk 15 (v:=?_) ?_ ?_
 rotate_left
 ·rintro W ⟨⟨c0,c1,c2⟩,⟨x0,x1,x2,x3,x4⟩,-⟩;go_simp;all_goals (with_reducible rfl)
 try simp only[zP,zA,zB,zC]
 refine tk 16 (v:=?_) ?_ ?_
 rotate_left
 ·rintro W ⟨⟨c0,c1,c2⟩,⟨x0,x1,x2,x3,x4⟩,-⟩;go_simp;all_goals (with_reducible rfl)
 try simp only[zP,zA,zB,zC]
 refine tk 17 (v:=?_) ?_ ?_
 rotate_left
 ·rintro W ⟨⟨c0,c1,c2⟩,⟨x0,x1,x2,x3,x4⟩,-⟩;go_simp;all_goals (with_reducible rfl)
 try simp only[zP,zA,zB,zC]
 refine tk 18 (v:=?_) ?_ ?_
 rotate_left
 ·rintro W ⟨⟨c0,c1,c2⟩,⟨x0,x1,x2,x3,x4⟩,-⟩;go_simp;all_goals (with_reducible rfl)
 try simp only[zP,zA,zB,zC]
 refine Rg.NB 19 (by simp only[List.getElem?_toArray,List.getElem?_cons_succ,List.getElem?_cons_zero];rfl) (by kernel_rfl) (by kernel_rfl) (by kernel_rfl) ((.string (S.extract p S.size))) (by exact fun _ _ _ h=>h) (by rfl) (by intro W hSw;(obtain⟨⟨c0,c1,c2⟩,⟨x0,x1,x2,x3,x4⟩,-⟩:=hSw);go_simp) (by with_reducible exact hS) ?_
 try simp only[zP,zA,zB,zC]
 refine tk 20 (v:=?_) ?_ ?_
 rotate_left
 ·rintro W ⟨⟨c0,c1,c2⟩,⟨x0,x1,x2,x3,x4⟩,-⟩;go_simp;all_goals (with_reducible rfl)
 try simp only[zP,zA,zB,zC]
 refine tk 21 (v:=?_) ?_ ?_
 rotate_left
 ·rintro W ⟨⟨c0,c1,c2⟩,⟨x0,x1,x2,x3,x4⟩,-⟩;go_simp;all_goals (with_reducible rfl)
 try simp only[zP,zA,zB,zC]
 refine tk 22 (v:=?_) ?_ ?_
 rotate_left
 ·rintro W ⟨⟨c0,c1,c2⟩,⟨x0,x1,x2,x3,x4⟩,-⟩;go_simp;all_goals (with_reducible rfl)
 try simp only[zP,zA,zB,zC]
 refine tk 23 (v:=?_) ?_ ?_
 rotate_left
 ·rintro W ⟨⟨c0,c1,c2⟩,⟨x0,x1,x2,x3,x4⟩,-⟩;go_simp;all_goals (with_reducible rfl)
 try simp only[zP,zA,zB,zC]
 refine tk 24 (v:=?_) ?_ ?_
 rotate_left
 ·rintro W ⟨⟨c0,c1,c2⟩,⟨x0,x1,x2,x3,x4⟩,-⟩;go_simp;all_goals (with_reducible rfl)
 try simp only[zP,zA,zB,zC]
 refine Rg.take_one 25 (by simp only[List.getElem?_toArray,List.getElem?_cons_succ,List.getElem?_cons_zero];rfl) (by kernel_rfl) (fun K hK=>?_)
 go_simp
 go_at_call 156
 refine(HPX.out _).mono ?_
 rintro en w25 ⟨rfl,rfl⟩
 have hS25:=hS
 go_wp2_with fail
 refine hK.out _ _ hS25 (fun hHeld25=>?_)
 clear hK K
 try simp only[zP,zA,zB,zC]
 try simp only[zN]
 refine tk 26 (v:=?_) ?_ ?_
 rotate_left
 ·rintro W ⟨⟨c0,c1,c2⟩,⟨x0,x1,x2,x3,x4⟩,-⟩;go_simp;all_goals (with_reducible rfl)
 try simp only[zP,zA,zB,zC]
 refine tk 27 (v:=?_) ?_ ?_
 rotate_left
 ·rintro W ⟨⟨c0,c1,c2⟩,⟨x0,x1,x2,x3,x4⟩,-⟩;go_simp;all_goals (with_reducible rfl)
 try simp only[zP,zA,zB,zC]
 refine tk 28 (v:=?_) ?_ ?_
 rotate_left
 ·rintro W ⟨⟨c0,c1,c2⟩,⟨x0,x1,x2,x3,x4⟩,-⟩;go_simp;all_goals (with_reducible rfl)
 try simp only[zP,zA,zB,zC]
 refine tk 29 (v:=?_) ?_ ?_
 rotate_left
 ·rintro W ⟨⟨c0,c1,c2⟩,⟨x0,x1,x2,x3,x4⟩,-⟩;go_simp;all_goals (with_reducible rfl)
 try simp only[zP,zA,zB,zC]
 refine tk 30 (v:=?_) ?_ ?_
 rotate_left
 ·rintro W ⟨⟨c0,c1,c2⟩,⟨x0,x1,x2,x3,x4⟩,-⟩;go_simp;all_goals (with_reducible rfl)
 try simp only[zP,zA,zB,zC]
 refine Rg.take_one 31 (by simp only[List.getElem?_toArray,List.getElem?_cons_succ,List.getElem?_cons_zero];rfl) (by kernel_rfl) (fun K hK=>?_)
 go_simp
 go_at_call 248
 refine(HAL.out _ hS25).mono ?_
 rintro en w31 ⟨rfl,hb31⟩
 have hS31:=HKP.out _ _ hS25 hb31
 go_wp2_with fail
 refine hK.out _ _ hS31 (fun hHeld31=>?_)
 clear hK K
 try simp only[zP,zA,zB,zC]
 try simp only[zN]
 refine tk 32 (v:=?_) ?_ ?_
 rotate_left
 ·rintro W ⟨⟨c0,c1,c2⟩,⟨x0,x1,x2,x3,x4⟩,-⟩;go_simp;all_goals (with_reducible rfl)
 try simp only[zP,zA,zB,zC]
 refine tk 33 (v:=?_) ?_ ?_
 rotate_left
 ·rintro W ⟨⟨c0,c1,c2⟩,⟨x0,x1,x2,x3,x4⟩,-⟩;go_simp;all_goals (with_reducible rfl)
 try simp only[zP,zA,zB,zC]
 refine wpAnyH_done (by kernel_rfl) ?_ _
 have HZ:=hid hS31.2.2
 go_wp2
 go_ret
 exact⟨rfl,HBB.out▸HZ.out⟩
end Go.Proofs.YthbigkoihpgcfaaGreatDoor.Pa
