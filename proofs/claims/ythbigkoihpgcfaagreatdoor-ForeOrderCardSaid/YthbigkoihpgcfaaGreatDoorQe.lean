/-
  Put together.
-/
import Derived.Test.YthbigkoihpgcfaaGreatDoorQd
import Derived.Test.YthbigkoihpgcfaaGreatDoorSb
import Derived.Test.YthbigkoihpgcfaaGreatDoorShelf
open Go.Lib (hid)
set_option maxRecDepth 100000
set_option maxHeartbeats 16000000
namespace Go.Proofs.YthbigkoihpgcfaaGreatDoor.Ck
open Go.RowKit Ba Ru
theorem O2:∀ (a b:List UInt8),(a.map UInt8.toNat).isPrefixOf (b.map UInt8.toNat)=a.isPrefixOf b
 | [],b=>rfl
 | x::a,[]=>rfl
 | x::a,y::b=>by
  show (x.toNat==y.toNat && (a.map UInt8.toNat).isPrefixOf (b.map UInt8.toNat))=(x==y && a.isPrefixOf b)
  rw[O2 a b]
  congr 1
  rw[Bool.eq_iff_iff,beq_iff_eq,beq_iff_eq]
  exact UInt8.toNat_inj
theorem pZ (s p:ByteArray):Lib.hasPrefix s.data.toList p.data.toList=(aA p).isPrefixOf (aA s):=(O2 _ _).symm
def lQ (w:World):Prop:=1<w.heap.size∧∃ m,w.cell? ⟨1,0,none⟩=some (.int .i64 m)
theorem lQ.below {w w':World} {B:Nat} (h:lQ w) (hb:Below B w w') (hB:1<B):lQ w':=by
 obtain⟨h0,m,hm⟩:=h
 exact⟨Nat.lt_of_lt_of_le h0 hb.size,m,(hb.cell (p:=⟨1,0,none⟩) hB).trans hm⟩
theorem lQ.kept {w w':World} (h:lQ w) (hb:Below w.heap.size w w'):lQ w':=h.below hb h.1
theorem GU (x y:Rl) (hfx:eN x) (hfy:eN y) (b:Bool) (hb:kU x y=b) (w:World) :
  Calls Tryz.prog 80 #[dE x,dE y] w fun e w'=>e=.returned (.bool b)∧Below w.heap.size w w':=by
 obtain⟨q1,l1,c1,p1,n1⟩:=x
 obtain⟨q2,l2,c2,p2,n2⟩:=y
 obtain⟨S1,hS1⟩:∃ S,bytesOf l1=S:=⟨_,rfl⟩
 obtain⟨T1,hT1⟩:∃ S,bytesOf c1=S:=⟨_,rfl⟩
 obtain⟨S2,hS2⟩:∃ S,bytesOf l2=S:=⟨_,rfl⟩
 obtain⟨T2,hT2⟩:∃ S,bytesOf c2=S:=⟨_,rfl⟩
 have eS1:l1=aA S1:=by rw[← hS1,aB _ hfx.2.2.2.1]
 have eT1:c1=aA T1:=by rw[← hT1,aB _ hfx.2.2.2.2.1]
 have eS2:l2=aA S2:=by rw[← hS2,aB _ hfy.2.2.2.1]
 have eT2:c2=aA T2:=by rw[← hT2,aB _ hfy.2.2.2.2.1]
 have hv:(decide (q1=q2) && decide (aA S1=aA S2))=b:=by rw[← hb,← eS1,← eS2];rfl
 have HV:=hid hv
 simp only[dE,hS1,hT1,hS2,hT2]
 clear hS1 hT1 hS2 hT2 eS1 eT1 eS2 eT2 hfx hfy hb hv
 go_enter Tryz.func80,Tryz.ntmps80
 go_upto_region 1 with fail
 have hx:=a7.new w q1 S1 T1 p1 n1 48
 have hw:=(Below.refl w.heap.size w).alloc (Nat.le_refl _) (.cells #[.int .i64 q1,.string S1,.string T1,.int .i64 p1,.int .i64 n1] 48)
 have hz:(w.alloc (.cells #[.int .i64 q1,.string S1,.string T1,.int .i64 p1,.int .i64 n1] 48)).heap.size=w.heap.size+1:=by simp
 generalize w.alloc _=wa at hx hw hz ⊢
 rw[← hz]
 have hy:=a7.new wa q2 S2 T2 p2 n2 48
 have hw1:=hw.alloc hw.size (.cells #[.int .i64 q2,.string S2,.string T2,.int .i64 p2,.int .i64 n2] 48)
 have hx1:=hx.below ((Below.refl wa.heap.size wa).alloc (Nat.le_refl _) (.cells #[.int .i64 q2,.string S2,.string T2,.int .i64 p2,.int .i64 n2] 48)) hx.2.2.2.2.2
 generalize wa.alloc _=w1 at hy hw1 hx1 ⊢
 obtain⟨bx,hbx⟩:∃ n,w.heap.size=n:=⟨_,rfl⟩
 obtain⟨by_,hby⟩:∃ n,wa.heap.size=n:=⟨_,rfl⟩
 rw[hbx]at hx1
 rw[hby]at hy
 rw[hbx,hby]
 clear hbx hby hz hx hw
 have HS:=hid (show a7 w1 bx q1 S1 T1 p1 n1∧a7 w1 by_ q2 S2 T2 p2 n2∧Below w.heap.size w w1 from ⟨hx1,hy,hw1⟩)
 clear hx1 hy hw1
 obtain⟨⟨x0,x1,x2,x3,x4,x5⟩,⟨y0,y1,y2,y3,y4,y5⟩,-⟩:=HS.out
 by_cases hq:q1=q2
 ·subst hq
  by_cases he:S1=S2
  ·subst he
   go_wp2
   go_ret
   exact⟨aC (by rw[← HV.out];simp),HS.out.2.2⟩
  ·have hne:=kI he
   have HE:=hid (show aA S1≠aA S2 from fun h=>he (BQ h))
   clear he
   go_wp2
   go_ret
   exact⟨aC (by rw[← HV.out,decide_eq_false HE.out,Bool.and_false]),HS.out.2.2⟩
 ·have tq:(q1==q2)=false:=beq_eq_false_iff_ne.2 hq
  go_wp2
  go_ret
  exact⟨aC (by rw[← HV.out,decide_eq_false hq];rfl),HS.out.2.2⟩
theorem EB (x y:Rl) (hfx:eN x) (hfy:eN y) (b:Bool) (hb:uJ x y=b) (w:World) :
  Calls Tryz.prog 116 #[dE x,dE y] w fun e w'=>e=.returned (.bool b)∧Below w.heap.size w w':=by
 obtain⟨q1,l1,c1,p1,n1⟩:=x
 obtain⟨q2,l2,c2,p2,n2⟩:=y
 obtain⟨S1,hS1⟩:∃ S,bytesOf l1=S:=⟨_,rfl⟩
 obtain⟨T1,hT1⟩:∃ S,bytesOf c1=S:=⟨_,rfl⟩
 obtain⟨S2,hS2⟩:∃ S,bytesOf l2=S:=⟨_,rfl⟩
 obtain⟨T2,hT2⟩:∃ S,bytesOf c2=S:=⟨_,rfl⟩
 have eS1:l1=aA S1:=by rw[← hS1,aB _ hfx.2.2.2.1]
 have eT1:c1=aA T1:=by rw[← hT1,aB _ hfx.2.2.2.2.1]
 have eS2:l2=aA S2:=by rw[← hS2,aB _ hfy.2.2.2.1]
 have eT2:c2=aA T2:=by rw[← hT2,aB _ hfy.2.2.2.2.1]
 have hv:(decide (q1=5) && (decide (q2=5) && decide (aA T1=aA T2)))=b:=by rw[← hb,← eT1,← eT2];rfl
 have HV:=hid hv
 simp only[dE,hS1,hT1,hS2,hT2]
 clear hS1 hT1 hS2 hT2 eS1 eT1 eS2 eT2 hfx hfy hb hv
 go_enter Tryz.func116,Tryz.ntmps116
 go_upto_region 1 with fail
 have hx:=a7.new w q1 S1 T1 p1 n1 48
 have hw:=(Below.refl w.heap.size w).alloc (Nat.le_refl _) (.cells #[.int .i64 q1,.string S1,.string T1,.int .i64 p1,.int .i64 n1] 48)
 have hz:(w.alloc (.cells #[.int .i64 q1,.string S1,.string T1,.int .i64 p1,.int .i64 n1] 48)).heap.size=w.heap.size+1:=by simp
 generalize w.alloc _=wa at hx hw hz ⊢
 rw[← hz]
 have hy:=a7.new wa q2 S2 T2 p2 n2 48
 have hw1:=hw.alloc hw.size (.cells #[.int .i64 q2,.string S2,.string T2,.int .i64 p2,.int .i64 n2] 48)
 have hx1:=hx.below ((Below.refl wa.heap.size wa).alloc (Nat.le_refl _) (.cells #[.int .i64 q2,.string S2,.string T2,.int .i64 p2,.int .i64 n2] 48)) hx.2.2.2.2.2
 generalize wa.alloc _=w1 at hy hw1 hx1 ⊢
 obtain⟨bx,hbx⟩:∃ n,w.heap.size=n:=⟨_,rfl⟩
 obtain⟨by_,hby⟩:∃ n,wa.heap.size=n:=⟨_,rfl⟩
 rw[hbx]at hx1
 rw[hby]at hy
 rw[hbx,hby]
 clear hbx hby hz hx hw
 have HS:=hid (show a7 w1 bx q1 S1 T1 p1 n1∧a7 w1 by_ q2 S2 T2 p2 n2∧Below w.heap.size w w1 from ⟨hx1,hy,hw1⟩)
 clear hx1 hy hw1
 obtain⟨⟨x0,x1,x2,x3,x4,x5⟩,⟨y0,y1,y2,y3,y4,y5⟩,-⟩:=HS.out
 by_cases hq1:q1=5
 ·subst hq1
  by_cases hq2:q2=5
  ·subst hq2
   by_cases he:T1=T2
   ·subst he
    go_wp2
    go_ret
    exact⟨aC (by rw[← HV.out];simp),HS.out.2.2⟩
   ·have hne:=kI he
    have HE:=hid (show aA T1≠aA T2 from fun h=>he (BQ h))
    clear he
    go_wp2
    go_ret
    exact⟨aC (by rw[← HV.out,decide_eq_false HE.out,Bool.and_false,Bool.and_false]),HS.out.2.2⟩
  ·have tq:(q2==5)=false:=beq_eq_false_iff_ne.2 hq2
   go_wp2
   go_ret
   exact⟨aC (by rw[← HV.out,decide_eq_false hq2,Bool.false_and,Bool.and_false]),HS.out.2.2⟩
 ·have tq:(q1==5)=false:=beq_eq_false_iff_ne.2 hq1
  go_wp2
  go_ret
  exact⟨aC (by rw[← HV.out,decide_eq_false hq1];rfl),HS.out.2.2⟩
theorem Q1 (x y:Rl) (b:Bool) (hb:kR x y=b) (w:World) :
  Calls Tryz.prog 196 #[dE x,dE y] w fun e w'=>e=.returned (.bool b)∧Below w.heap.size w w':=by
 have HIX:=hid (fun r W=>VA x r W)
 have HIY:=hid (fun r W=>VA y r W)
 obtain⟨q1,l1,c1,p1,n1⟩:=x
 obtain⟨q2,l2,c2,p2,n2⟩:=y
 obtain⟨S1,hS1⟩:∃ S,bytesOf l1=S:=⟨_,rfl⟩
 obtain⟨T1,hT1⟩:∃ S,bytesOf c1=S:=⟨_,rfl⟩
 obtain⟨S2,hS2⟩:∃ S,bytesOf l2=S:=⟨_,rfl⟩
 obtain⟨T2,hT2⟩:∃ S,bytesOf c2=S:=⟨_,rfl⟩
 obtain⟨X,hX⟩:∃ X:Rl,(⟨q1,l1,c1,p1,n1⟩:Rl)=X:=⟨_,rfl⟩
 obtain⟨Y,hY⟩:∃ Y:Rl,(⟨q2,l2,c2,p2,n2⟩:Rl)=Y:=⟨_,rfl⟩
 simp only[dE,hS1,hT1,hS2,hT2]at HIX HIY ⊢
 rw[hX]at HIX hb
 rw[hY]at HIY hb
 have HB:=hid hb
 clear hS1 hT1 hS2 hT2 hX hY hb
 go_enter Tryz.func196,Tryz.ntmps196
 go_upto_region 1 with fail
 have hx:=a7.new w q1 S1 T1 p1 n1 48
 have hw:=(Below.refl w.heap.size w).alloc (Nat.le_refl _) (.cells #[.int .i64 q1,.string S1,.string T1,.int .i64 p1,.int .i64 n1] 48)
 have hz:(w.alloc (.cells #[.int .i64 q1,.string S1,.string T1,.int .i64 p1,.int .i64 n1] 48)).heap.size=w.heap.size+1:=by simp
 generalize w.alloc _=wa at hx hw hz ⊢
 rw[← hz]
 have hy:=a7.new wa q2 S2 T2 p2 n2 48
 have hw1:=hw.alloc hw.size (.cells #[.int .i64 q2,.string S2,.string T2,.int .i64 p2,.int .i64 n2] 48)
 have hx1:=hx.below ((Below.refl wa.heap.size wa).alloc (Nat.le_refl _) (.cells #[.int .i64 q2,.string S2,.string T2,.int .i64 p2,.int .i64 n2] 48)) hx.2.2.2.2.2
 generalize wa.alloc _=w1 at hy hw1 hx1 ⊢
 obtain⟨bx,hbx⟩:∃ n,w.heap.size=n:=⟨_,rfl⟩
 obtain⟨by_,hby⟩:∃ n,wa.heap.size=n:=⟨_,rfl⟩
 rw[hbx]at hx1
 rw[hby]at hy
 rw[hbx,hby]
 clear hbx hby hz hx hw
 have HS:=hid (show a7 w1 bx q1 S1 T1 p1 n1∧a7 w1 by_ q2 S2 T2 p2 n2∧Below w.heap.size w w1 from ⟨hx1,hy,hw1⟩)
 clear hx1 hy hw1
 have TWO:=hid (show ∀ W W':World,(a7 W bx q1 S1 T1 p1 n1∧a7 W by_ q2 S2 T2 p2 n2∧Below w.heap.size w W)→Below W.heap.size W W'→a7 W' bx q1 S1 T1 p1 n1∧a7 W' by_ q2 S2 T2 p2 n2∧Below w.heap.size w W' from
  fun W W' h hb=>⟨h.1.kept hb,h.2.1.kept hb,chain h.2.2 h.2.2.size hb⟩)
 go_wp2
 go_loopw [5] (fun i wr=>∃ k:Nat,1≤k∧k≤4∧i=.int .i64 k∧(∀ r:Nat,1≤r→r<k→(iL X (r:Int) && iL Y (r:Int))=false)∧a7 wr bx q1 S1 T1 p1 n1∧a7 wr by_ q2 S2 T2 p2 n2∧Below w.heap.size w wr) (fun i _=>4 - (intOf i).toNat)
 case atStart=>exact⟨1,by omega,by omega,rfl,fun r h1 h2=>by omega,HS.out⟩
 case round =>
  obtain⟨k,hk1,hk4,rfl,hN,hs⟩:=hrel
  clear HS
  have HS:=hid hs
  have HN:=hid hN
  clear hs hN
  by_cases hlt:k<4
  ·have t1:decide ((k:Int)≤3)=true:=decide_eq_true (by omega)
   obtain⟨j1,hj1⟩:∃ j,iL X (k:Int)=j:=⟨_,rfl⟩
   obtain⟨j2,hj2⟩:∃ j,iL Y (k:Int)=j:=⟨_,rfl⟩
   have HJX:=hid (hj1▸HIX.out (k:Int))
   have HJY:=hid (hj2▸HIY.out (k:Int))
   have HNX:=hid (show (j1 && j2)=false→∀ r:Nat,1≤r→r<k+1→(iL X (r:Int) && iL Y (r:Int))=false from fun h r h1 h2=>by
    rcases Nat.lt_or_ge r k with h3 | h3
    ·exact HN.out r h1 h3
    ·obtain rfl:r=k:=by omega
     rw[hj1,hj2];exact h)
   have HYES:=hid (show (j1 && j2)=true→true=b from fun h=>by
    rw[← HB.out]
    rw[Bool.and_eq_true]at h
    exact(xN (row:=(k:Int)) (hj1.trans h.1) (hj2.trans h.2)).symm)
   clear hj1 hj2
   obtain⟨⟨x0,x1,x2,x3,x4,x5⟩,⟨y0,y1,y2,y3,y4,y5⟩,-⟩:=HS.out
   cases j1
   case false =>
    go_wp2_with fail
    refine(HJX.out _).mono ?_
    rintro e w2 ⟨rfl,hb2⟩
    clear x0 x1 x2 x3 x4 x5 y0 y1 y2 y3 y4 y5
    have HS2:=hid (TWO.out _ _ HS.out hb2)
    clear hb2
    go_wp2
    go_roundw
    case rel=>exact⟨k+1,by omega,by omega,by go_num,HNX.out rfl,HS2.out⟩
    case measure=>simp[intOf];omega
   case true =>
    go_wp2_with fail
    refine(HJX.out _).mono ?_
    rintro e w2 ⟨rfl,hb2⟩
    clear x0 x1 x2 x3 x4 x5 y0 y1 y2 y3 y4 y5
    have HS2:=hid (TWO.out _ _ HS.out hb2)
    clear hb2
    obtain⟨⟨x0,x1,x2,x3,x4,x5⟩,⟨y0,y1,y2,y3,y4,y5⟩,-⟩:=HS2.out
    go_wp2_with fail
    refine(HJY.out _).mono ?_
    rintro e w3 ⟨rfl,hb3⟩
    clear x0 x1 x2 x3 x4 x5 y0 y1 y2 y3 y4 y5
    have HS3:=hid (TWO.out _ _ HS2.out hb3)
    clear hb3
    cases j2
    case false =>
     go_wp2
     go_roundw
     case rel=>exact⟨k+1,by omega,by omega,by go_num,HNX.out rfl,HS3.out⟩
     case measure=>simp[intOf];omega
    case true =>
     go_wp2
     go_ret
     exact⟨aC (HYES.out rfl),HS3.out.2.2⟩
  ·have HR:=hid (show false=b from by
    rw[← HB.out]
    have e1:=HN.out 1 (by omega) (by omega)
    have e2:=HN.out 2 (by omega) (by omega)
    have e3:=HN.out 3 (by omega) (by omega)
    unfold kR
    rw[show (iL X 1 && iL Y 1)=false from e1,show (iL X 2 && iL Y 2)=false from e2,show (iL X 3 && iL Y 3)=false from e3];rfl)
   have t1:decide ((k:Int)≤3)=false:=decide_eq_false (by omega)
   have t2:decide (k≤3)=false:=decide_eq_false (by omega)
   go_wp2
   go_ret
   exact⟨aC HR.out,HS.out.2.2⟩
theorem GV (x y:Rl) (b:Bool) (hb:GO x y=b) (w:World) :
  Calls Tryz.prog 157 #[dE x,dE y] w fun e w'=>e=.returned (.bool b)∧Below w.heap.size w w':=by
 obtain⟨r,hr⟩:∃ r,kR x y=r:=⟨_,rfl⟩
 have HR:=hid (fun(W:World)=>Q1 x y r hr W)
 unfold GO at hb
 rw[hr]at hb
 clear hr
 obtain⟨q1,l1,c1,p1,n1⟩:=x
 obtain⟨q2,l2,c2,p2,n2⟩:=y
 obtain⟨S1,hS1⟩:∃ S,bytesOf l1=S:=⟨_,rfl⟩
 obtain⟨T1,hT1⟩:∃ S,bytesOf c1=S:=⟨_,rfl⟩
 obtain⟨S2,hS2⟩:∃ S,bytesOf l2=S:=⟨_,rfl⟩
 obtain⟨T2,hT2⟩:∃ S,bytesOf c2=S:=⟨_,rfl⟩
 simp only[dE,hS1,hT1,hS2,hT2]at HR hb ⊢
 have HB:=hid hb
 clear hS1 hT1 hS2 hT2 hb
 go_enter Tryz.func157,Tryz.ntmps157
 go_upto_region 1 with fail
 have hx:=a7.new w q1 S1 T1 p1 n1 48
 have hw:=(Below.refl w.heap.size w).alloc (Nat.le_refl _) (.cells #[.int .i64 q1,.string S1,.string T1,.int .i64 p1,.int .i64 n1] 48)
 have hz:(w.alloc (.cells #[.int .i64 q1,.string S1,.string T1,.int .i64 p1,.int .i64 n1] 48)).heap.size=w.heap.size+1:=by simp
 generalize w.alloc _=wa at hx hw hz ⊢
 rw[← hz]
 have hy:=a7.new wa q2 S2 T2 p2 n2 48
 have hw1:=hw.alloc hw.size (.cells #[.int .i64 q2,.string S2,.string T2,.int .i64 p2,.int .i64 n2] 48)
 have hx1:=hx.below ((Below.refl wa.heap.size wa).alloc (Nat.le_refl _) (.cells #[.int .i64 q2,.string S2,.string T2,.int .i64 p2,.int .i64 n2] 48)) hx.2.2.2.2.2
 generalize wa.alloc _=w1 at hy hw1 hx1 ⊢
 obtain⟨bx,hbx⟩:∃ n,w.heap.size=n:=⟨_,rfl⟩
 obtain⟨by_,hby⟩:∃ n,wa.heap.size=n:=⟨_,rfl⟩
 rw[hbx]at hx1
 rw[hby]at hy
 rw[hbx,hby]
 clear hbx hby hz hx hw
 have HS:=hid (show a7 w1 bx q1 S1 T1 p1 n1∧a7 w1 by_ q2 S2 T2 p2 n2∧Below w.heap.size w w1 from ⟨hx1,hy,hw1⟩)
 clear hx1 hy hw1
 have TWO:=hid (show ∀ W W':World,(a7 W bx q1 S1 T1 p1 n1∧a7 W by_ q2 S2 T2 p2 n2∧Below w.heap.size w W)→Below W.heap.size W W'→a7 W' bx q1 S1 T1 p1 n1∧a7 W' by_ q2 S2 T2 p2 n2∧Below w.heap.size w W' from
  fun W W' h hb=>⟨h.1.kept hb,h.2.1.kept hb,chain h.2.2 h.2.2.size hb⟩)
 obtain⟨⟨x0,x1,x2,x3,x4,x5⟩,⟨y0,y1,y2,y3,y4,y5⟩,-⟩:=HS.out
 go_wp2_with fail
 refine(HR.out _).mono ?_
 rintro e w2 ⟨rfl,hb2⟩
 clear x0 x1 x2 x3 x4 x5 y0 y1 y2 y3 y4 y5
 have HS2:=hid (TWO.out _ _ HS.out hb2)
 clear hb2
 obtain⟨⟨x0,x1,x2,x3,x4,x5⟩,⟨y0,y1,y2,y3,y4,y5⟩,-⟩:=HS2.out
 cases r
 case true =>
  go_wp2
  go_ret
  exact⟨aC (by rw[← HB.out];rfl),HS2.out.2.2⟩
 case false =>
  by_cases h8:q1=8
  ·subst h8
   by_cases h5:q2=5
   ·subst h5
    go_wp2
    go_ret
    exact⟨aC (by rw[← HB.out];rfl),HS2.out.2.2⟩
   ·have t5:(q2==5)=false:=beq_eq_false_iff_ne.2 h5
    go_wp2
    go_ret
    exact⟨aC (by rw[← HB.out,decide_eq_false h5];rfl),HS2.out.2.2⟩
  ·have t8:(q1==8)=false:=beq_eq_false_iff_ne.2 h8
   go_wp2
   go_ret
   exact⟨aC (by rw[← HB.out,decide_eq_false h8];rfl),HS2.out.2.2⟩
theorem GW (x y:Rl) (hfx:eN x) (hfy:eN y) (hy2:y.cells.length≤70000) (b:Bool) (hb:rI x y=b) (w:World) (hM:lQ w) :
  Calls Tryz.prog 117 #[dE x,dE y] w fun e w'=>e=.returned (.bool b)∧Below w.heap.size w w':=by
 obtain⟨k,hk⟩:∃ k,jF x=k:=⟨_,rfl⟩
 obtain⟨r,hr⟩:∃ r,GO x y=r:=⟨_,rfl⟩
 have HK:=hid (fun(W:World)=>yL x hfx k hk W)
 have HR:=hid (fun(W:World)=>GV x y r hr W)
 unfold rI at hb
 rw[hk,hr]at hb
 clear hk hr
 obtain⟨q1,l1,c1,p1,n1⟩:=x
 obtain⟨q2,l2,c2,p2,n2⟩:=y
 obtain⟨S1,hS1⟩:∃ S,bytesOf l1=S:=⟨_,rfl⟩
 obtain⟨T1,hT1⟩:∃ S,bytesOf c1=S:=⟨_,rfl⟩
 obtain⟨S2,hS2⟩:∃ S,bytesOf l2=S:=⟨_,rfl⟩
 obtain⟨T2,hT2⟩:∃ S,bytesOf c2=S:=⟨_,rfl⟩
 have eS1:l1=aA S1:=by rw[← hS1,aB _ hfx.2.2.2.1]
 have eT1:c1=aA T1:=by rw[← hT1,aB _ hfx.2.2.2.2.1]
 have eS2:l2=aA S2:=by rw[← hS2,aB _ hfy.2.2.2.1]
 have eT2:c2=aA T2:=by rw[← hT2,aB _ hfy.2.2.2.2.1]
 have hT2s:T2.size<4294967281:=by rw[← hT2,aF];exact Nat.lt_of_le_of_lt hy2 (by decide)
 simp only[dE,hS1,hT1,hS2,hT2]at HR HK ⊢
 simp only[]at hb
 rw[eT1,eT2]at hb
 obtain⟨g,hg⟩:∃ g,(aA T1).isPrefixOf (aA T2)=g:=⟨_,rfl⟩
 obtain⟨i,hi⟩:∃ g,fF (aA T1) (aA T2)=g:=⟨_,rfl⟩
 have HP:=hid (show ∀ W:World,Calls Tryz.prog 156 #[.string T2,.string T1] W fun e w'=>e=.returned (.bool g)∧w'=W from fun W=>by
  have h:=Tryz.strings_HasPrefix T2 T1 W
  rw[pZ,hg]at h
  exact h)
 have HC:=hid (show ∀ W:World,lQ W→Calls Tryz.prog 155 #[.string T2,.string T1] W fun e w'=>e=.returned (.bool i)∧w'=W from fun W hW=>by
  obtain⟨-,m,hm⟩:=hW
  have h:=Tryz.strings_Contains T2 T1 m W hT2s hm
  rw[GQ,hi]at h
  exact h)
 rw[hg,hi]at hb
 have HB:=hid hb
 have HM:=hid hM
 clear hS1 hT1 hS2 hT2 eS1 eT1 eS2 eT2 hfx hfy hy2 hb hg hi hM hT2s
 go_enter Tryz.func117,Tryz.ntmps117
 go_upto_region 1 with fail
 have hx:=a7.new w q1 S1 T1 p1 n1 48
 have hw:=(Below.refl w.heap.size w).alloc (Nat.le_refl _) (.cells #[.int .i64 q1,.string S1,.string T1,.int .i64 p1,.int .i64 n1] 48)
 have hz:(w.alloc (.cells #[.int .i64 q1,.string S1,.string T1,.int .i64 p1,.int .i64 n1] 48)).heap.size=w.heap.size+1:=by simp
 generalize w.alloc _=wa at hx hw hz ⊢
 rw[← hz]
 have hy:=a7.new wa q2 S2 T2 p2 n2 48
 have hw1:=hw.alloc hw.size (.cells #[.int .i64 q2,.string S2,.string T2,.int .i64 p2,.int .i64 n2] 48)
 have hx1:=hx.below ((Below.refl wa.heap.size wa).alloc (Nat.le_refl _) (.cells #[.int .i64 q2,.string S2,.string T2,.int .i64 p2,.int .i64 n2] 48)) hx.2.2.2.2.2
 generalize wa.alloc _=w1 at hy hw1 hx1 ⊢
 obtain⟨bx,hbx⟩:∃ n,w.heap.size=n:=⟨_,rfl⟩
 obtain⟨by_,hby⟩:∃ n,wa.heap.size=n:=⟨_,rfl⟩
 rw[hbx]at hx1
 rw[hby]at hy
 rw[hbx,hby]
 clear hbx hby hz hx hw
 have HS:=hid (show a7 w1 bx q1 S1 T1 p1 n1∧a7 w1 by_ q2 S2 T2 p2 n2∧Below w.heap.size w w1 from ⟨hx1,hy,hw1⟩)
 clear hx1 hy hw1
 have TWO:=hid (show ∀ W W':World,(a7 W bx q1 S1 T1 p1 n1∧a7 W by_ q2 S2 T2 p2 n2∧Below w.heap.size w W)→Below W.heap.size W W'→a7 W' bx q1 S1 T1 p1 n1∧a7 W' by_ q2 S2 T2 p2 n2∧Below w.heap.size w W' from
  fun W W' h hb=>⟨h.1.kept hb,h.2.1.kept hb,chain h.2.2 h.2.2.size hb⟩)
 obtain⟨⟨x0,x1,x2,x3,x4,x5⟩,⟨y0,y1,y2,y3,y4,y5⟩,-⟩:=HS.out
 go_wp2_with fail
 refine(HK.out _).mono ?_
 rintro e w2 ⟨rfl,hb2⟩
 clear x0 x1 x2 x3 x4 x5 y0 y1 y2 y3 y4 y5
 have HS2:=hid (TWO.out _ _ HS.out hb2)
 clear hb2
 obtain⟨⟨x0,x1,x2,x3,x4,x5⟩,⟨y0,y1,y2,y3,y4,y5⟩,-⟩:=HS2.out
 cases k
 case true =>
  go_wp2_with fail
  refine(HC.out _ (HM.out.below HS2.out.2.2 HM.out.1)).mono ?_
  rintro e w3 ⟨rfl,rfl⟩
  go_wp2
  go_ret
  exact⟨aC (by rw[← HB.out];rfl),HS2.out.2.2⟩
 case false =>
  go_wp2_with fail
  refine(HP.out _).mono ?_
  rintro e w3 ⟨rfl,rfl⟩
  cases g
  case false =>
   go_wp2
   go_ret
   exact⟨aC (by rw[← HB.out];rfl),HS2.out.2.2⟩
  case true =>
   go_wp2_with fail
   refine(HR.out _).mono ?_
   rintro e w4 ⟨rfl,hb4⟩
   clear x0 x1 x2 x3 x4 x5 y0 y1 y2 y3 y4 y5
   have HS4:=hid (TWO.out _ _ HS2.out hb4)
   clear hb4
   go_wp2
   go_ret
   exact⟨aC (by rw[← HB.out];rfl),HS4.out.2.2⟩
theorem Q2 (x y:Rl) (hfx:eN x) (hfy:eN y) (hx2:x.cells.length≤70000) (hy2:y.cells.length≤70000) (b:Bool) (hb:bQ x y=b) (w:World) (hM:lQ w) :
  Calls Tryz.prog 77 #[dE x,dE y] w fun e w'=>e=.returned (.bool b)∧Below w.heap.size w w':=by
 rw[GP]at hb
 obtain⟨a1,h1⟩:∃ a,kU x y=a:=⟨_,rfl⟩
 obtain⟨a2,h2⟩:∃ a,uJ x y=a:=⟨_,rfl⟩
 obtain⟨a3,h3⟩:∃ a,rI x y=a:=⟨_,rfl⟩
 obtain⟨a4,h4⟩:∃ a,rI y x=a:=⟨_,rfl⟩
 have H1:=hid (fun(W:World)=>GU x y hfx hfy a1 h1 W)
 have H2:=hid (fun(W:World)=>EB x y hfx hfy a2 h2 W)
 have H3:=hid (fun(W:World) hW=>GW x y hfx hfy hy2 a3 h3 W hW)
 have H4:=hid (fun(W:World) hW=>GW y x hfy hfx hx2 a4 h4 W hW)
 rw[h1,h2,h3,h4]at hb
 have HB:=hid hb
 have HM:=hid hM
 clear h1 h2 h3 h4 hb hM hfx hfy hx2 hy2
 obtain⟨q1,l1,c1,p1,n1⟩:=x
 obtain⟨q2,l2,c2,p2,n2⟩:=y
 obtain⟨S1,hS1⟩:∃ S,bytesOf l1=S:=⟨_,rfl⟩
 obtain⟨T1,hT1⟩:∃ S,bytesOf c1=S:=⟨_,rfl⟩
 obtain⟨S2,hS2⟩:∃ S,bytesOf l2=S:=⟨_,rfl⟩
 obtain⟨T2,hT2⟩:∃ S,bytesOf c2=S:=⟨_,rfl⟩
 simp only[dE,hS1,hT1,hS2,hT2]at H1 H2 H3 H4 ⊢
 clear hS1 hT1 hS2 hT2
 go_enter Tryz.func77,Tryz.ntmps77
 go_upto_region 1 with fail
 have hx:=a7.new w q1 S1 T1 p1 n1 48
 have hw:=(Below.refl w.heap.size w).alloc (Nat.le_refl _) (.cells #[.int .i64 q1,.string S1,.string T1,.int .i64 p1,.int .i64 n1] 48)
 have hz:(w.alloc (.cells #[.int .i64 q1,.string S1,.string T1,.int .i64 p1,.int .i64 n1] 48)).heap.size=w.heap.size+1:=by simp
 generalize w.alloc _=wa at hx hw hz ⊢
 rw[← hz]
 have hy:=a7.new wa q2 S2 T2 p2 n2 48
 have hw1:=hw.alloc hw.size (.cells #[.int .i64 q2,.string S2,.string T2,.int .i64 p2,.int .i64 n2] 48)
 have hx1:=hx.below ((Below.refl wa.heap.size wa).alloc (Nat.le_refl _) (.cells #[.int .i64 q2,.string S2,.string T2,.int .i64 p2,.int .i64 n2] 48)) hx.2.2.2.2.2
 generalize wa.alloc _=w1 at hy hw1 hx1 ⊢
 obtain⟨bx,hbx⟩:∃ n,w.heap.size=n:=⟨_,rfl⟩
 obtain⟨by_,hby⟩:∃ n,wa.heap.size=n:=⟨_,rfl⟩
 rw[hbx]at hx1
 rw[hby]at hy
 rw[hbx,hby]
 clear hbx hby hz hx hw
 have HS:=hid (show a7 w1 bx q1 S1 T1 p1 n1∧a7 w1 by_ q2 S2 T2 p2 n2∧Below w.heap.size w w1 from ⟨hx1,hy,hw1⟩)
 clear hx1 hy hw1
 have TWO:=hid (show ∀ W W':World,(a7 W bx q1 S1 T1 p1 n1∧a7 W by_ q2 S2 T2 p2 n2∧Below w.heap.size w W)→Below W.heap.size W W'→a7 W' bx q1 S1 T1 p1 n1∧a7 W' by_ q2 S2 T2 p2 n2∧Below w.heap.size w W' from
  fun W W' h hb=>⟨h.1.kept hb,h.2.1.kept hb,chain h.2.2 h.2.2.size hb⟩)
 obtain⟨⟨x0,x1,x2,x3,x4,x5⟩,⟨y0,y1,y2,y3,y4,y5⟩,-⟩:=HS.out
 go_wp2_with fail
 refine(H1.out _).mono ?_
 rintro e w2 ⟨rfl,hb2⟩
 clear x0 x1 x2 x3 x4 x5 y0 y1 y2 y3 y4 y5
 have HS2:=hid (TWO.out _ _ HS.out hb2)
 clear hb2
 obtain⟨⟨x0,x1,x2,x3,x4,x5⟩,⟨y0,y1,y2,y3,y4,y5⟩,-⟩:=HS2.out
 cases a1
 case true =>
  go_wp2
  go_ret
  exact⟨aC (by rw[← HB.out];rfl),HS2.out.2.2⟩
 case false =>
 go_wp2_with fail
 refine(H2.out _).mono ?_
 rintro e w3 ⟨rfl,hb3⟩
 clear x0 x1 x2 x3 x4 x5 y0 y1 y2 y3 y4 y5
 have HS3:=hid (TWO.out _ _ HS2.out hb3)
 clear hb3
 obtain⟨⟨x0,x1,x2,x3,x4,x5⟩,⟨y0,y1,y2,y3,y4,y5⟩,-⟩:=HS3.out
 cases a2
 case true =>
  go_wp2
  go_ret
  exact⟨aC (by rw[← HB.out];rfl),HS3.out.2.2⟩
 case false =>
 go_wp2_with fail
 refine(H3.out _ (HM.out.below HS3.out.2.2 HM.out.1)).mono ?_
 rintro e w4 ⟨rfl,hb4⟩
 clear x0 x1 x2 x3 x4 x5 y0 y1 y2 y3 y4 y5
 have HS4:=hid (TWO.out _ _ HS3.out hb4)
 clear hb4
 obtain⟨⟨x0,x1,x2,x3,x4,x5⟩,⟨y0,y1,y2,y3,y4,y5⟩,-⟩:=HS4.out
 cases a3
 case true =>
  go_wp2
  go_ret
  exact⟨aC (by rw[← HB.out];rfl),HS4.out.2.2⟩
 case false =>
 go_wp2_with fail
 refine(H4.out _ (HM.out.below HS4.out.2.2 HM.out.1)).mono ?_
 rintro e w5 ⟨rfl,hb5⟩
 clear x0 x1 x2 x3 x4 x5 y0 y1 y2 y3 y4 y5
 have HS5:=hid (TWO.out _ _ HS4.out hb5)
 clear hb5
 go_wp2
 go_ret
 exact⟨aC (by rw[← HB.out];rfl),HS5.out.2.2⟩
theorem wB {l:List Rl} {q:Rl→Bool} {x:Rl} (h:l.find? q=some x):l.any q=true:=List.any_eq_true.2 ⟨x,List.mem_of_find?_eq_some h,List.find?_some h⟩
theorem wC {l:List Rl} {q:Rl→Bool} (h:l.find? q=none):l.any q=false:=by
 rw[List.any_eq_false]
 exact fun x hx=>List.find?_eq_none.1 h x hx
theorem L3 (l:List Rl) (A:Option Addr) (off n c:Nat) (hn:l.length=n) (hn9:n≤100000) (q:Rl→Bool) (bx:Nat) (w:World) (hl:dZ off w w.heap.size (.slice A n c) l)
  (hq:∀ y ∈ l,∀ W:World,Below w.heap.size w W→Calls Tryz.prog 76 #[dE y,.pointer (some ⟨bx,0,none⟩)] W fun e w'=>e=.returned (.bool (q y))∧Below W.heap.size W w') :
  Calls Tryz.prog 115 #[.slice A n c,.func (.func 76) #[] #[.pointer (some ⟨bx,0,none⟩)]] w (O3 l q w):=by
 obtain⟨A',c',e,hA⟩:=hl
 injection e with e1 e2 e3
 subst e1;subst e3
 have HA:=hid hA
 have HN:=hid hn
 have HPQ:=hid hq
 clear hA hn hq e2
 go_enter Tryz.func115,Tryz.ntmps115
 go_wp2
 go_loopw [8] (fun u8 wr=>∃ j:Nat,u8=.int .i64 (j:Int)∧j≤n∧(∀ i y,i<j→l[i]?=some y→q y=false)∧Below w.heap.size w wr) (fun u8 _=>n - (intOf u8).toNat)
 case atStart=>exact⟨0,rfl,Nat.zero_le _,fun i y h=>by omega,Below.refl _ _⟩
 case round =>
  obtain⟨j,rfl,hj,hjq,hB⟩:=hrel
  have HQ:=hid hjq
  have HB:=hid hB
  have j0:(0:Int)≤(j:Int):=by omega
  clear hjq
  by_cases hlt:j<n
  ·obtain⟨g,rfl,hgw,hg⟩:=HA.out (by rw[HN.out];omega)
   obtain⟨x,hx⟩:∃ x,l[j]?=some x:=⟨_,List.getElem?_eq_getElem (by rw[HN.out];exact hlt)⟩
   obtain⟨g0,g1,g2,g3,g4⟩:=wD hg j x hx
   have g0:=(hB.cell (p:=⟨g,off+j * 5,none⟩) hgw).trans g0
   have g1:=(hB.cell (p:=⟨g,off+j * 5+1,none⟩) hgw).trans g1
   have g2:=(hB.cell (p:=⟨g,off+j * 5+2,none⟩) hgw).trans g2
   have g3:=(hB.cell (p:=⟨g,off+j * 5+3,none⟩) hgw).trans g3
   have g4:=(hB.cell (p:=⟨g,off+j * 5+4,none⟩) hgw).trans g4
   obtain⟨bq,hbq⟩:∃ bq,q x=bq:=⟨_,rfl⟩
   have hir:=HPQ.out x (List.mem_of_getElem? hx) wr hB
   rw[hbq]at hir
   have HIR:=hid hir
   have HX:=hid hx
   have HBQ:=hid hbq
   have j1:(j:Int)<(n:Int):=by omega
   obtain⟨xw,xl,xc,xp,xn⟩:=x
   simp only[dE]at HIR
   simp only[]at g0 g1 g2 g3 g4
   clear hx hg hgw hir hbq hB
   cases bq
   ·have HNX:=hid (show ∀ i y,i<j+1→l[i]?=some y→q y=false from fun i y h1 h2=>by
     rcases Nat.lt_or_ge i j with h | h
     ·exact HQ.out i y h h2
     ·obtain rfl:i=j:=by omega
      rw[HX.out]at h2;cases h2;exact HBQ.out)
    go_wp2_with fail
    refine HIR.out.mono ?_
    rintro e w2 ⟨rfl,hb2⟩
    have HB2:=hid (chain HB.out HB.out.size hb2)
    clear hb2
    go_wp2
    go_roundw
    case rel=>exact⟨j+1,by go_num,by omega,HNX.out,HB2.out⟩
    case measure=>simp[intOf];omega
   ·have HFI:=hid (O4 HX.out HBQ.out HQ.out)
    go_wp2_with fail
    refine HIR.out.mono ?_
    rintro e w2 ⟨rfl,hb2⟩
    have HB2:=hid (chain HB.out HB.out.size hb2)
    clear hb2
    go_wp2
    go_ret
    exact⟨.inl ⟨j,_,rfl,HX.out,HFI.out⟩,HB2.out⟩
  ·obtain rfl:j=n:=by omega
   have HFI:=hid (O5 (l:=l) (q:=q) (fun i y h1 h2=>HQ.out i y (by rw[← HN.out];exact h1) h2))
   clear hB
   go_wp2
   go_ret
   exact⟨.inr ⟨rfl,HFI.out⟩,HB.out⟩
theorem BD (l:List Rl) (A:Option Addr) (off n c:Nat) (hn:l.length=n) (hn9:n≤100000) (q:Rl→Bool) (b:Bool) (hb:l.any q=b) (bx:Nat) (w:World) (hl:dZ off w w.heap.size (.slice A n c) l)
  (hq:∀ y ∈ l,∀ W:World,Below w.heap.size w W→Calls Tryz.prog 76 #[dE y,.pointer (some ⟨bx,0,none⟩)] W fun e w'=>e=.returned (.bool (q y))∧Below W.heap.size W w') :
  Calls Tryz.prog 75 #[.slice A n c,.func (.func 76) #[] #[.pointer (some ⟨bx,0,none⟩)]] w fun e w'=>e=.returned (.bool b)∧Below w.heap.size w w':=by
 have HI:=hid (L3 l A off n c hn hn9 q bx w hl hq)
 have HB:=hid hb
 clear hn hn9 hl hq hb
 go_enter Tryz.func75,Tryz.ntmps75
 go_wp2_with fail
 refine HI.out.mono ?_
 rintro e w2 ⟨hres,hb2⟩
 have HB2:=hid hb2
 clear hb2
 rcases hres with⟨j,x,rfl,-,hfi⟩ | ⟨rfl,hfi⟩
 ·have HE:=hid (HB.out.symm.trans (wB hfi))
  have j2:decide ((0:Int)≤(j:Int))=true:=decide_eq_true (by omega)
  clear hfi
  go_wp2
  go_ret
  exact⟨aC HE.out.symm,HB2.out⟩
 ·have HE:=hid (HB.out.symm.trans (wC hfi))
  clear hfi
  go_wp2
  go_ret
  exact⟨aC HE.out.symm,HB2.out⟩
theorem L4 (l:List Rl) (A:Option Addr) (off n c:Nat) (hn:l.length=n) (hn9:n≤100000) (q:Rl→Bool) (bx:Nat) (w:World) (hl:dZ off w w.heap.size (.slice A n c) l)
  (hq:∀ y ∈ l,∀ W:World,Below w.heap.size w W→Calls Tryz.prog 79 #[dE y,.pointer (some ⟨bx,0,none⟩)] W fun e w'=>e=.returned (.bool (q y))∧Below W.heap.size W w') :
  Calls Tryz.prog 115 #[.slice A n c,.func (.func 79) #[] #[.pointer (some ⟨bx,0,none⟩)]] w (O3 l q w):=by
 obtain⟨A',c',e,hA⟩:=hl
 injection e with e1 e2 e3
 subst e1;subst e3
 have HA:=hid hA
 have HN:=hid hn
 have HPQ:=hid hq
 clear hA hn hq e2
 go_enter Tryz.func115,Tryz.ntmps115
 go_wp2
 go_loopw [8] (fun u8 wr=>∃ j:Nat,u8=.int .i64 (j:Int)∧j≤n∧(∀ i y,i<j→l[i]?=some y→q y=false)∧Below w.heap.size w wr) (fun u8 _=>n - (intOf u8).toNat)
 case atStart=>exact⟨0,rfl,Nat.zero_le _,fun i y h=>by omega,Below.refl _ _⟩
 case round =>
  obtain⟨j,rfl,hj,hjq,hB⟩:=hrel
  have HQ:=hid hjq
  have HB:=hid hB
  have j0:(0:Int)≤(j:Int):=by omega
  clear hjq
  by_cases hlt:j<n
  ·obtain⟨g,rfl,hgw,hg⟩:=HA.out (by rw[HN.out];omega)
   obtain⟨x,hx⟩:∃ x,l[j]?=some x:=⟨_,List.getElem?_eq_getElem (by rw[HN.out];exact hlt)⟩
   obtain⟨g0,g1,g2,g3,g4⟩:=wD hg j x hx
   have g0:=(hB.cell (p:=⟨g,off+j * 5,none⟩) hgw).trans g0
   have g1:=(hB.cell (p:=⟨g,off+j * 5+1,none⟩) hgw).trans g1
   have g2:=(hB.cell (p:=⟨g,off+j * 5+2,none⟩) hgw).trans g2
   have g3:=(hB.cell (p:=⟨g,off+j * 5+3,none⟩) hgw).trans g3
   have g4:=(hB.cell (p:=⟨g,off+j * 5+4,none⟩) hgw).trans g4
   obtain⟨bq,hbq⟩:∃ bq,q x=bq:=⟨_,rfl⟩
   have hir:=HPQ.out x (List.mem_of_getElem? hx) wr hB
   rw[hbq]at hir
   have HIR:=hid hir
   have HX:=hid hx
   have HBQ:=hid hbq
   have j1:(j:Int)<(n:Int):=by omega
   obtain⟨xw,xl,xc,xp,xn⟩:=x
   simp only[dE]at HIR
   simp only[]at g0 g1 g2 g3 g4
   clear hx hg hgw hir hbq hB
   cases bq
   ·have HNX:=hid (show ∀ i y,i<j+1→l[i]?=some y→q y=false from fun i y h1 h2=>by
     rcases Nat.lt_or_ge i j with h | h
     ·exact HQ.out i y h h2
     ·obtain rfl:i=j:=by omega
      rw[HX.out]at h2;cases h2;exact HBQ.out)
    go_wp2_with fail
    refine HIR.out.mono ?_
    rintro e w2 ⟨rfl,hb2⟩
    have HB2:=hid (chain HB.out HB.out.size hb2)
    clear hb2
    go_wp2
    go_roundw
    case rel=>exact⟨j+1,by go_num,by omega,HNX.out,HB2.out⟩
    case measure=>simp[intOf];omega
   ·have HFI:=hid (O4 HX.out HBQ.out HQ.out)
    go_wp2_with fail
    refine HIR.out.mono ?_
    rintro e w2 ⟨rfl,hb2⟩
    have HB2:=hid (chain HB.out HB.out.size hb2)
    clear hb2
    go_wp2
    go_ret
    exact⟨.inl ⟨j,_,rfl,HX.out,HFI.out⟩,HB2.out⟩
  ·obtain rfl:j=n:=by omega
   have HFI:=hid (O5 (l:=l) (q:=q) (fun i y h1 h2=>HQ.out i y (by rw[← HN.out];exact h1) h2))
   clear hB
   go_wp2
   go_ret
   exact⟨.inr ⟨rfl,HFI.out⟩,HB.out⟩
theorem BE (l:List Rl) (A:Option Addr) (off n c:Nat) (hn:l.length=n) (hn9:n≤100000) (q:Rl→Bool) (b:Bool) (hb:l.any q=b) (bx:Nat) (w:World) (hl:dZ off w w.heap.size (.slice A n c) l)
  (hq:∀ y ∈ l,∀ W:World,Below w.heap.size w W→Calls Tryz.prog 79 #[dE y,.pointer (some ⟨bx,0,none⟩)] W fun e w'=>e=.returned (.bool (q y))∧Below W.heap.size W w') :
  Calls Tryz.prog 75 #[.slice A n c,.func (.func 79) #[] #[.pointer (some ⟨bx,0,none⟩)]] w fun e w'=>e=.returned (.bool b)∧Below w.heap.size w w':=by
 have HI:=hid (L4 l A off n c hn hn9 q bx w hl hq)
 have HB:=hid hb
 clear hn hn9 hl hq hb
 go_enter Tryz.func75,Tryz.ntmps75
 go_wp2_with fail
 refine HI.out.mono ?_
 rintro e w2 ⟨hres,hb2⟩
 have HB2:=hid hb2
 clear hb2
 rcases hres with⟨j,x,rfl,-,hfi⟩ | ⟨rfl,hfi⟩
 ·have HE:=hid (HB.out.symm.trans (wB hfi))
  have j2:decide ((0:Int)≤(j:Int))=true:=decide_eq_true (by omega)
  clear hfi
  go_wp2
  go_ret
  exact⟨aC HE.out.symm,HB2.out⟩
 ·have HE:=hid (HB.out.symm.trans (wC hfi))
  clear hfi
  go_wp2
  go_ret
  exact⟨aC HE.out.symm,HB2.out⟩
theorem GX (x y:Rl) (hfx:eN x) (hfy:eN y) (hx2:x.cells.length≤70000) (hy2:y.cells.length≤70000) (bx:Nat) (w:World) (hX:a7 w bx x.aE (bytesOf x.left) (bytesOf x.cells) x.prio x.line) (hM:lQ w) :
  Calls Tryz.prog 76 #[dE y,.pointer (some ⟨bx,0,none⟩)] w fun e w'=>e=.returned (.bool (bQ x y))∧Below w.heap.size w w':=by
 obtain⟨b,hb⟩:∃ b,bQ x y=b:=⟨_,rfl⟩
 rw[hb]
 have H1:=hid (fun(W:World) hW=>Q2 x y hfx hfy hx2 hy2 b hb W hW)
 have HM:=hid hM
 clear hb hfx hfy hx2 hy2 hM
 obtain⟨q1,l1,c1,p1,n1⟩:=x
 obtain⟨q2,l2,c2,p2,n2⟩:=y
 obtain⟨S1,hS1⟩:∃ S,bytesOf l1=S:=⟨_,rfl⟩
 obtain⟨T1,hT1⟩:∃ S,bytesOf c1=S:=⟨_,rfl⟩
 obtain⟨S2,hS2⟩:∃ S,bytesOf l2=S:=⟨_,rfl⟩
 obtain⟨T2,hT2⟩:∃ S,bytesOf c2=S:=⟨_,rfl⟩
 simp only[dE,hS1,hT1,hS2,hT2]at H1 hX ⊢
 clear hS1 hT1 hS2 hT2
 have HX:=hid hX
 clear hX
 go_enter Tryz.func76,Tryz.ntmps76
 go_upto_region 1 with fail
 have hy:=a7.new w q2 S2 T2 p2 n2 48
 have hw:=(Below.refl w.heap.size w).alloc (Nat.le_refl _) (.cells #[.int .i64 q2,.string S2,.string T2,.int .i64 p2,.int .i64 n2] 48)
 generalize w.alloc _=w1 at hy hw ⊢
 obtain⟨x0,x1,x2,x3,x4,x5⟩:=HX.out.kept hw
 obtain⟨y0,y1,y2,y3,y4,y5⟩:=hy
 have HW:=hid hw
 clear hw
 go_wp2_with fail
 refine(H1.out _ (HM.out.kept HW.out)).mono ?_
 rintro e w2 ⟨rfl,hb2⟩
 have HE:=hid (chain HW.out HW.out.size hb2)
 clear hb2
 go_wp2
 go_ret
 exact⟨rfl,HE.out⟩
theorem GY (x y:Rl) (hfx:eN x) (hfy:eN y) (bx:Nat) (w:World) (hX:a7 w bx x.aE (bytesOf x.left) (bytesOf x.cells) x.prio x.line) :
  Calls Tryz.prog 79 #[dE y,.pointer (some ⟨bx,0,none⟩)] w fun e w'=>e=.returned (.bool (kU x y))∧Below w.heap.size w w':=by
 obtain⟨b,hb⟩:∃ b,kU x y=b:=⟨_,rfl⟩
 rw[hb]
 have H1:=hid (fun(W:World)=>GU x y hfx hfy b hb W)
 clear hb hfx hfy
 obtain⟨q1,l1,c1,p1,n1⟩:=x
 obtain⟨q2,l2,c2,p2,n2⟩:=y
 obtain⟨S1,hS1⟩:∃ S,bytesOf l1=S:=⟨_,rfl⟩
 obtain⟨T1,hT1⟩:∃ S,bytesOf c1=S:=⟨_,rfl⟩
 obtain⟨S2,hS2⟩:∃ S,bytesOf l2=S:=⟨_,rfl⟩
 obtain⟨T2,hT2⟩:∃ S,bytesOf c2=S:=⟨_,rfl⟩
 simp only[dE,hS1,hT1,hS2,hT2]at H1 hX ⊢
 clear hS1 hT1 hS2 hT2
 have HX:=hid hX
 clear hX
 go_enter Tryz.func79,Tryz.ntmps79
 go_upto_region 1 with fail
 have hy:=a7.new w q2 S2 T2 p2 n2 48
 have hw:=(Below.refl w.heap.size w).alloc (Nat.le_refl _) (.cells #[.int .i64 q2,.string S2,.string T2,.int .i64 p2,.int .i64 n2] 48)
 generalize w.alloc _=w1 at hy hw ⊢
 obtain⟨x0,x1,x2,x3,x4,x5⟩:=HX.out.kept hw
 obtain⟨y0,y1,y2,y3,y4,y5⟩:=hy
 have HW:=hid hw
 clear hw
 go_wp2_with fail
 refine(H1.out _).mono ?_
 rintro e w2 ⟨rfl,hb2⟩
 have HE:=hid (chain HW.out HW.out.size hb2)
 clear hb2
 go_wp2
 go_ret
 exact⟨rfl,HE.out⟩
theorem L5 (x:Rl) (hfx:eN x) (hx2:x.cells.length≤9000) (l:List Rl) (A:Option Addr) (off n c:Nat) (hn:l.length=n) (hn9:n≤100000) (hf:∀ y ∈ l,eN y∧y.cells.length≤9000) (b:Bool) (hb:l.any (bQ x)=b) (w:World) (hM:lQ w) (hl:dZ off w w.heap.size (.slice A n c) l) :
  Calls Tryz.prog 44 #[dE x,.slice A n c] w fun e w'=>e=.returned (.bool b)∧Below w.heap.size w w':=by
 have H1:=hid (fun(W:World) (hW:a7 W w.heap.size x.aE (bytesOf x.left) (bytesOf x.cells) x.prio x.line) (hMW:lQ W) (hlW:dZ off W W.heap.size (.slice A n c) l) =>
  BD l A off n c hn hn9 (bQ x) b hb w.heap.size W hlW (fun y hy V hV=>GX x y hfx (hf y hy).1 (by omega) (by have:=(hf y hy).2;omega) w.heap.size V (hW.kept hV) (hMW.kept hV)))
 have HM:=hid hM
 have HL:=hid hl
 clear hn hn9 hf hb hM hl hfx hx2
 obtain⟨q1,l1,c1,p1,n1⟩:=x
 obtain⟨S1,hS1⟩:∃ S,bytesOf l1=S:=⟨_,rfl⟩
 obtain⟨T1,hT1⟩:∃ S,bytesOf c1=S:=⟨_,rfl⟩
 simp only[dE,hS1,hT1]at H1 ⊢
 clear hS1 hT1
 go_enter Tryz.func44,Tryz.ntmps44
 go_upto_region 1 with fail
 have hx:=a7.new w q1 S1 T1 p1 n1 48
 have hw:=(Below.refl w.heap.size w).alloc (Nat.le_refl _) (.cells #[.int .i64 q1,.string S1,.string T1,.int .i64 p1,.int .i64 n1] 48)
 generalize w.alloc _=w1 at hx hw ⊢
 have HC:=hid (H1.out w1 hx (HM.out.kept hw) ((HL.out.below hw).mono hw.size))
 have HW:=hid hw
 clear hx hw
 go_wp2_with fail
 refine HC.out.mono ?_
 rintro e w2 ⟨rfl,hb2⟩
 have HE:=hid (chain HW.out HW.out.size hb2)
 clear hb2
 go_wp2
 go_ret
 exact⟨rfl,HE.out⟩
end Go.Proofs.YthbigkoihpgcfaaGreatDoor.Ck
