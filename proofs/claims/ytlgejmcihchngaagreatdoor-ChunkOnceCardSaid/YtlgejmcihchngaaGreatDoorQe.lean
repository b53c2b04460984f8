/-
  Put together: CmC, CmD.
-/
import Derived.Test.YtlgejmcihchngaaGreatDoorQd
import Derived.Test.YtlgejmcihchngaaGreatDoorShelf
import Derived.Test.YtlgejmcihchngaaGreatDoorRuG
namespace Go.Proofs.YtlgejmcihchngaaGreatDoor.Ck
open Go.RowKit Ba Ru
theorem pre_map:∀ (a b:List UInt8),(a.map UInt8.toNat).isPrefixOf (b.map UInt8.toNat)=a.isPrefixOf b
 | [],b=>rfl
 | x::a,[]=>rfl
 | x::a,y::b=>by
  show (x.toNat==y.toNat && (a.map UInt8.toNat).isPrefixOf (b.map UInt8.toNat))=(x==y && a.isPrefixOf b)
  rw[pre_map a b]
  congr 1
  rw[Bool.eq_iff_iff,beq_iff_eq,beq_iff_eq]
  exact UInt8.toNat_inj
theorem prefix_is (s p:ByteArray):Lib.hasPrefix s.data.toList p.data.toList=(bytesN p).isPrefixOf (bytesN s):=(pre_map _ _).symm
def LaidM (w:World):Prop:=3<w.heap.size∧∃ m,w.cell? ⟨3,0,none⟩=some (.int .i64 m)
theorem LaidM.below {w w':World} {B:Nat} (h:LaidM w) (hb:Below B w w') (hB:3<B):LaidM w':=by
 obtain⟨h0,m,hm⟩:=h
 exact⟨Nat.lt_of_lt_of_le h0 hb.size,m,(hb.cell (p:=⟨3,0,none⟩) hB).trans hm⟩
theorem LaidM.kept {w w':World} (h:LaidM w) (hb:Below w.heap.size w w'):LaidM w':=h.below hb h.1
set_option maxRecDepth 100000 in
set_option maxHeartbeats 4000000 in
theorem about_at (x y:Rl) (hfx:FitR x) (hfy:FitR y) (b:Bool) (hb:aboutB x y=b) (w:World) :
  Calls Tryz.prog 104 #[aggR x,aggR y] w fun e w'=>e=.returned (.bool b)∧Below w.heap.size w w':=by
 obtain⟨q1,l1,c1,p1,n1⟩:=x
 obtain⟨q2,l2,c2,p2,n2⟩:=y
 obtain⟨S1,hS1⟩:∃ S,bytesOf l1=S:=⟨_,rfl⟩
 obtain⟨T1,hT1⟩:∃ S,bytesOf c1=S:=⟨_,rfl⟩
 obtain⟨S2,hS2⟩:∃ S,bytesOf l2=S:=⟨_,rfl⟩
 obtain⟨T2,hT2⟩:∃ S,bytesOf c2=S:=⟨_,rfl⟩
 have eS1:l1=bytesN S1:=by rw[← hS1,bytesN_bytesOf _ hfx.2.2.2.1]
 have eT1:c1=bytesN T1:=by rw[← hT1,bytesN_bytesOf _ hfx.2.2.2.2.1]
 have eS2:l2=bytesN S2:=by rw[← hS2,bytesN_bytesOf _ hfy.2.2.2.1]
 have eT2:c2=bytesN T2:=by rw[← hT2,bytesN_bytesOf _ hfy.2.2.2.2.1]
 have hv:(decide (q1=q2) && decide (bytesN S1=bytesN S2))=b:=by rw[← hb,← eS1,← eS2];rfl
 have HV:=Lib.hid hv
 simp only[aggR,hS1,hT1,hS2,hT2]
 clear hS1 hT1 hS2 hT2 eS1 eT1 eS2 eT2 hfx hfy hb hv
 go_enter Tryz.func104,Tryz.ntmps104
 go_upto_region 1 with fail
 have hx:=BoxS.new w q1 S1 T1 p1 n1 50
 have hw:=(Below.refl w.heap.size w).alloc (Nat.le_refl _) (.cells #[.int .i64 q1,.string S1,.string T1,.int .i64 p1,.int .i64 n1] 50)
 have hz:(w.alloc (.cells #[.int .i64 q1,.string S1,.string T1,.int .i64 p1,.int .i64 n1] 50)).heap.size=w.heap.size+1:=by simp
 generalize w.alloc _=wa at hx hw hz ⊢
 rw[← hz]
 have hy:=BoxS.new wa q2 S2 T2 p2 n2 50
 have hw1:=hw.alloc hw.size (.cells #[.int .i64 q2,.string S2,.string T2,.int .i64 p2,.int .i64 n2] 50)
 have hx1:=hx.below ((Below.refl wa.heap.size wa).alloc (Nat.le_refl _) (.cells #[.int .i64 q2,.string S2,.string T2,.int .i64 p2,.int .i64 n2] 50)) hx.2.2.2.2.2
 generalize wa.alloc _=w1 at hy hw1 hx1 ⊢
 obtain⟨bx,hbx⟩:∃ n,w.heap.size=n:=⟨_,rfl⟩
 obtain⟨by_,hby⟩:∃ n,wa.heap.size=n:=⟨_,rfl⟩
 rw[hbx]at hx1
 rw[hby]at hy
 rw[hbx,hby]
 clear hbx hby hz hx hw
 have HS:=Lib.hid (show BoxS w1 bx q1 S1 T1 p1 n1∧BoxS w1 by_ q2 S2 T2 p2 n2∧Below w.heap.size w w1 from ⟨hx1,hy,hw1⟩)
 clear hx1 hy hw1
 obtain⟨⟨x0,x1,x2,x3,x4,x5⟩,⟨y0,y1,y2,y3,y4,y5⟩,-⟩:=HS.out
 by_cases hq:q1=q2
 ·subst hq
  by_cases he:S1=S2
  ·subst he
   go_wp2
   go_ret
   exact⟨ret_bool (by rw[← HV.out];simp),HS.out.2.2⟩
  ·have hne:=toList_ne he
   have HE:=Lib.hid (show bytesN S1≠bytesN S2 from fun h=>he (bytes_ext h))
   clear he
   go_wp2
   go_ret
   exact⟨ret_bool (by rw[← HV.out,decide_eq_false HE.out,Bool.and_false]),HS.out.2.2⟩
 ·have tq:(q1==q2)=false:=beq_eq_false_iff_ne.2 hq
  go_wp2
  go_ret
  exact⟨ret_bool (by rw[← HV.out,decide_eq_false hq];rfl),HS.out.2.2⟩
set_option maxRecDepth 100000 in
set_option maxHeartbeats 4000000 in
theorem sameWords_at (x y:Rl) (hfx:FitR x) (hfy:FitR y) (b:Bool) (hb:wordsB x y=b) (w:World) :
  Calls Tryz.prog 137 #[aggR x,aggR y] w fun e w'=>e=.returned (.bool b)∧Below w.heap.size w w':=by
 obtain⟨q1,l1,c1,p1,n1⟩:=x
 obtain⟨q2,l2,c2,p2,n2⟩:=y
 obtain⟨S1,hS1⟩:∃ S,bytesOf l1=S:=⟨_,rfl⟩
 obtain⟨T1,hT1⟩:∃ S,bytesOf c1=S:=⟨_,rfl⟩
 obtain⟨S2,hS2⟩:∃ S,bytesOf l2=S:=⟨_,rfl⟩
 obtain⟨T2,hT2⟩:∃ S,bytesOf c2=S:=⟨_,rfl⟩
 have eS1:l1=bytesN S1:=by rw[← hS1,bytesN_bytesOf _ hfx.2.2.2.1]
 have eT1:c1=bytesN T1:=by rw[← hT1,bytesN_bytesOf _ hfx.2.2.2.2.1]
 have eS2:l2=bytesN S2:=by rw[← hS2,bytesN_bytesOf _ hfy.2.2.2.1]
 have eT2:c2=bytesN T2:=by rw[← hT2,bytesN_bytesOf _ hfy.2.2.2.2.1]
 have hv:(decide (q1=5) && (decide (q2=5) && decide (bytesN T1=bytesN T2)))=b:=by rw[← hb,← eT1,← eT2];rfl
 have HV:=Lib.hid hv
 simp only[aggR,hS1,hT1,hS2,hT2]
 clear hS1 hT1 hS2 hT2 eS1 eT1 eS2 eT2 hfx hfy hb hv
 go_enter Tryz.func137,Tryz.ntmps137
 go_upto_region 1 with fail
 have hx:=BoxS.new w q1 S1 T1 p1 n1 50
 have hw:=(Below.refl w.heap.size w).alloc (Nat.le_refl _) (.cells #[.int .i64 q1,.string S1,.string T1,.int .i64 p1,.int .i64 n1] 50)
 have hz:(w.alloc (.cells #[.int .i64 q1,.string S1,.string T1,.int .i64 p1,.int .i64 n1] 50)).heap.size=w.heap.size+1:=by simp
 generalize w.alloc _=wa at hx hw hz ⊢
 rw[← hz]
 have hy:=BoxS.new wa q2 S2 T2 p2 n2 50
 have hw1:=hw.alloc hw.size (.cells #[.int .i64 q2,.string S2,.string T2,.int .i64 p2,.int .i64 n2] 50)
 have hx1:=hx.below ((Below.refl wa.heap.size wa).alloc (Nat.le_refl _) (.cells #[.int .i64 q2,.string S2,.string T2,.int .i64 p2,.int .i64 n2] 50)) hx.2.2.2.2.2
 generalize wa.alloc _=w1 at hy hw1 hx1 ⊢
 obtain⟨bx,hbx⟩:∃ n,w.heap.size=n:=⟨_,rfl⟩
 obtain⟨by_,hby⟩:∃ n,wa.heap.size=n:=⟨_,rfl⟩
 rw[hbx]at hx1
 rw[hby]at hy
 rw[hbx,hby]
 clear hbx hby hz hx hw
 have HS:=Lib.hid (show BoxS w1 bx q1 S1 T1 p1 n1∧BoxS w1 by_ q2 S2 T2 p2 n2∧Below w.heap.size w w1 from ⟨hx1,hy,hw1⟩)
 clear hx1 hy hw1
 obtain⟨⟨x0,x1,x2,x3,x4,x5⟩,⟨y0,y1,y2,y3,y4,y5⟩,-⟩:=HS.out
 by_cases hq1:q1=5
 ·subst hq1
  by_cases hq2:q2=5
  ·subst hq2
   by_cases he:T1=T2
   ·subst he
    go_wp2
    go_ret
    exact⟨ret_bool (by rw[← HV.out];simp),HS.out.2.2⟩
   ·have hne:=toList_ne he
    have HE:=Lib.hid (show bytesN T1≠bytesN T2 from fun h=>he (bytes_ext h))
    clear he
    go_wp2
    go_ret
    exact⟨ret_bool (by rw[← HV.out,decide_eq_false HE.out,Bool.and_false,Bool.and_false]),HS.out.2.2⟩
  ·have tq:(q2==5)=false:=beq_eq_false_iff_ne.2 hq2
   go_wp2
   go_ret
   exact⟨ret_bool (by rw[← HV.out,decide_eq_false hq2,Bool.false_and,Bool.and_false]),HS.out.2.2⟩
 ·have tq:(q1==5)=false:=beq_eq_false_iff_ne.2 hq1
  go_wp2
  go_ret
  exact⟨ret_bool (by rw[← HV.out,decide_eq_false hq1];rfl),HS.out.2.2⟩
set_option maxRecDepth 100000 in
set_option maxHeartbeats 4000000 in
theorem oneRow_at (x y:Rl) (b:Bool) (hb:rowsB x y=b) (w:World) :
  Calls Tryz.prog 176 #[aggR x,aggR y] w fun e w'=>e=.returned (.bool b)∧Below w.heap.size w w':=by
 have HIX:=Lib.hid (fun r W=>in_at x r W)
 have HIY:=Lib.hid (fun r W=>in_at y r W)
 obtain⟨q1,l1,c1,p1,n1⟩:=x
 obtain⟨q2,l2,c2,p2,n2⟩:=y
 obtain⟨S1,hS1⟩:∃ S,bytesOf l1=S:=⟨_,rfl⟩
 obtain⟨T1,hT1⟩:∃ S,bytesOf c1=S:=⟨_,rfl⟩
 obtain⟨S2,hS2⟩:∃ S,bytesOf l2=S:=⟨_,rfl⟩
 obtain⟨T2,hT2⟩:∃ S,bytesOf c2=S:=⟨_,rfl⟩
 obtain⟨X,hX⟩:∃ X:Rl,(⟨q1,l1,c1,p1,n1⟩:Rl)=X:=⟨_,rfl⟩
 obtain⟨Y,hY⟩:∃ Y:Rl,(⟨q2,l2,c2,p2,n2⟩:Rl)=Y:=⟨_,rfl⟩
 simp only[aggR,hS1,hT1,hS2,hT2]at HIX HIY ⊢
 rw[hX]at HIX hb
 rw[hY]at HIY hb
 have HB:=Lib.hid hb
 clear hS1 hT1 hS2 hT2 hX hY hb
 go_enter Tryz.func176,Tryz.ntmps176
 go_upto_region 1 with fail
 have hx:=BoxS.new w q1 S1 T1 p1 n1 50
 have hw:=(Below.refl w.heap.size w).alloc (Nat.le_refl _) (.cells #[.int .i64 q1,.string S1,.string T1,.int .i64 p1,.int .i64 n1] 50)
 have hz:(w.alloc (.cells #[.int .i64 q1,.string S1,.string T1,.int .i64 p1,.int .i64 n1] 50)).heap.size=w.heap.size+1:=by simp
 generalize w.alloc _=wa at hx hw hz ⊢
 rw[← hz]
 have hy:=BoxS.new wa q2 S2 T2 p2 n2 50
 have hw1:=hw.alloc hw.size (.cells #[.int .i64 q2,.string S2,.string T2,.int .i64 p2,.int .i64 n2] 50)
 have hx1:=hx.below ((Below.refl wa.heap.size wa).alloc (Nat.le_refl _) (.cells #[.int .i64 q2,.string S2,.string T2,.int .i64 p2,.int .i64 n2] 50)) hx.2.2.2.2.2
 generalize wa.alloc _=w1 at hy hw1 hx1 ⊢
 obtain⟨bx,hbx⟩:∃ n,w.heap.size=n:=⟨_,rfl⟩
 obtain⟨by_,hby⟩:∃ n,wa.heap.size=n:=⟨_,rfl⟩
 rw[hbx]at hx1
 rw[hby]at hy
 rw[hbx,hby]
 clear hbx hby hz hx hw
 have HS:=Lib.hid (show BoxS w1 bx q1 S1 T1 p1 n1∧BoxS w1 by_ q2 S2 T2 p2 n2∧Below w.heap.size w w1 from ⟨hx1,hy,hw1⟩)
 clear hx1 hy hw1
 have TWO:=Lib.hid (show ∀ W W':World,(BoxS W bx q1 S1 T1 p1 n1∧BoxS W by_ q2 S2 T2 p2 n2∧Below w.heap.size w W)→Below W.heap.size W W'→BoxS W' bx q1 S1 T1 p1 n1∧BoxS W' by_ q2 S2 T2 p2 n2∧Below w.heap.size w W' from
  fun W W' h hb=>⟨h.1.kept hb,h.2.1.kept hb,chain h.2.2 h.2.2.size hb⟩)
 go_wp2
 go_loopw [5] (fun i wr=>∃ k:Nat,1≤k∧k≤4∧i=.int .i64 k∧(∀ r:Nat,1≤r→r<k→(inB X (r:Int) && inB Y (r:Int))=false)∧BoxS wr bx q1 S1 T1 p1 n1∧BoxS wr by_ q2 S2 T2 p2 n2∧Below w.heap.size w wr) (fun i _=>4 - (intOf i).toNat)
 case atStart=>exact⟨1,by omega,by omega,rfl,fun r h1 h2=>by omega,HS.out⟩
 case round =>
  obtain⟨k,hk1,hk4,rfl,hN,hs⟩:=hrel
  clear HS
  have HS:=Lib.hid hs
  have HN:=Lib.hid hN
  clear hs hN
  by_cases hlt:k<4
  ·have t1:decide ((k:Int)≤3)=true:=decide_eq_true (by omega)
   obtain⟨j1,hj1⟩:∃ j,inB X (k:Int)=j:=⟨_,rfl⟩
   obtain⟨j2,hj2⟩:∃ j,inB Y (k:Int)=j:=⟨_,rfl⟩
   have HJX:=Lib.hid (hj1▸HIX.out (k:Int))
   have HJY:=Lib.hid (hj2▸HIY.out (k:Int))
   have HNX:=Lib.hid (show (j1 && j2)=false→∀ r:Nat,1≤r→r<k+1→(inB X (r:Int) && inB Y (r:Int))=false from fun h r h1 h2=>by
    rcases Nat.lt_or_ge r k with h3 | h3
    ·exact HN.out r h1 h3
    ·obtain rfl:r=k:=by omega
     rw[hj1,hj2];exact h)
   have HYES:=Lib.hid (show (j1 && j2)=true→true=b from fun h=>by
    rw[← HB.out]
    rw[Bool.and_eq_true]at h
    exact(rows_of (row:=(k:Int)) (hj1.trans h.1) (hj2.trans h.2)).symm)
   clear hj1 hj2
   obtain⟨⟨x0,x1,x2,x3,x4,x5⟩,⟨y0,y1,y2,y3,y4,y5⟩,-⟩:=HS.out
   cases j1
   case false =>
    go_wp2_with fail
    refine(HJX.out _).mono ?_
    rintro e w2 ⟨rfl,hb2⟩
    clear x0 x1 x2 x3 x4 x5 y0 y1 y2 y3 y4 y5
    have HS2:=Lib.hid (TWO.out _ _ HS.out hb2)
    clear hb2
    go_wp2
    go_roundw
    case rel=>exact⟨k+1,by omega,by omega,by go_num,HNX.out rfl,HS2.out⟩
    case measure=>simp[intOf];omega
   case true =>
    go_wp2_with fail
    refine(HJX.out _).mono ?_
    rintro e w2 ⟨rfl,hb2⟩
    clear x0 x1 x2 x3 x4 x5 y0 y1 y2 y3 y4 y5
    have HS2:=Lib.hid (TWO.out _ _ HS.out hb2)
    clear hb2
    obtain⟨⟨x0,x1,x2,x3,x4,x5⟩,⟨y0,y1,y2,y3,y4,y5⟩,-⟩:=HS2.out
    go_wp2_with fail
    refine(HJY.out _).mono ?_
    rintro e w3 ⟨rfl,hb3⟩
    clear x0 x1 x2 x3 x4 x5 y0 y1 y2 y3 y4 y5
    have HS3:=Lib.hid (TWO.out _ _ HS2.out hb3)
    clear hb3
    cases j2
    case false =>
     go_wp2
     go_roundw
     case rel=>exact⟨k+1,by omega,by omega,by go_num,HNX.out rfl,HS3.out⟩
     case measure=>simp[intOf];omega
    case true =>
     go_wp2
     go_ret
     exact⟨ret_bool (HYES.out rfl),HS3.out.2.2⟩
  ·have HR:=Lib.hid (show false=b from by
    rw[← HB.out]
    have e1:=HN.out 1 (by omega) (by omega)
    have e2:=HN.out 2 (by omega) (by omega)
    have e3:=HN.out 3 (by omega) (by omega)
    unfold rowsB
    rw[show (inB X 1 && inB Y 1)=false from e1,show (inB X 2 && inB Y 2)=false from e2,show (inB X 3 && inB Y 3)=false from e3];rfl)
   have t1:decide ((k:Int)≤3)=false:=decide_eq_false (by omega)
   have t2:decide (k≤3)=false:=decide_eq_false (by omega)
   go_wp2
   go_ret
   exact⟨ret_bool HR.out,HS.out.2.2⟩
set_option maxRecDepth 100000 in
set_option maxHeartbeats 4000000 in
theorem together_at (x y:Rl) (b:Bool) (hb:nearB x y=b) (w:World) :
  Calls Tryz.prog 164 #[aggR x,aggR y] w fun e w'=>e=.returned (.bool b)∧Below w.heap.size w w':=by
 obtain⟨r,hr⟩:∃ r,rowsB x y=r:=⟨_,rfl⟩
 have HR:=Lib.hid (fun(W:World)=>oneRow_at x y r hr W)
 unfold nearB at hb
 rw[hr]at hb
 clear hr
 obtain⟨q1,l1,c1,p1,n1⟩:=x
 obtain⟨q2,l2,c2,p2,n2⟩:=y
 obtain⟨S1,hS1⟩:∃ S,bytesOf l1=S:=⟨_,rfl⟩
 obtain⟨T1,hT1⟩:∃ S,bytesOf c1=S:=⟨_,rfl⟩
 obtain⟨S2,hS2⟩:∃ S,bytesOf l2=S:=⟨_,rfl⟩
 obtain⟨T2,hT2⟩:∃ S,bytesOf c2=S:=⟨_,rfl⟩
 simp only[aggR,hS1,hT1,hS2,hT2]at HR hb ⊢
 have HB:=Lib.hid hb
 clear hS1 hT1 hS2 hT2 hb
 go_enter Tryz.func164,Tryz.ntmps164
 go_upto_region 1 with fail
 have hx:=BoxS.new w q1 S1 T1 p1 n1 50
 have hw:=(Below.refl w.heap.size w).alloc (Nat.le_refl _) (.cells #[.int .i64 q1,.string S1,.string T1,.int .i64 p1,.int .i64 n1] 50)
 have hz:(w.alloc (.cells #[.int .i64 q1,.string S1,.string T1,.int .i64 p1,.int .i64 n1] 50)).heap.size=w.heap.size+1:=by simp
 generalize w.alloc _=wa at hx hw hz ⊢
 rw[← hz]
 have hy:=BoxS.new wa q2 S2 T2 p2 n2 50
 have hw1:=hw.alloc hw.size (.cells #[.int .i64 q2,.string S2,.string T2,.int .i64 p2,.int .i64 n2] 50)
 have hx1:=hx.below ((Below.refl wa.heap.size wa).alloc (Nat.le_refl _) (.cells #[.int .i64 q2,.string S2,.string T2,.int .i64 p2,.int .i64 n2] 50)) hx.2.2.2.2.2
 generalize wa.alloc _=w1 at hy hw1 hx1 ⊢
 obtain⟨bx,hbx⟩:∃ n,w.heap.size=n:=⟨_,rfl⟩
 obtain⟨by_,hby⟩:∃ n,wa.heap.size=n:=⟨_,rfl⟩
 rw[hbx]at hx1
 rw[hby]at hy
 rw[hbx,hby]
 clear hbx hby hz hx hw
 have HS:=Lib.hid (show BoxS w1 bx q1 S1 T1 p1 n1∧BoxS w1 by_ q2 S2 T2 p2 n2∧Below w.heap.size w w1 from ⟨hx1,hy,hw1⟩)
 clear hx1 hy hw1
 have TWO:=Lib.hid (show ∀ W W':World,(BoxS W bx q1 S1 T1 p1 n1∧BoxS W by_ q2 S2 T2 p2 n2∧Below w.heap.size w W)→Below W.heap.size W W'→BoxS W' bx q1 S1 T1 p1 n1∧BoxS W' by_ q2 S2 T2 p2 n2∧Below w.heap.size w W' from
  fun W W' h hb=>⟨h.1.kept hb,h.2.1.kept hb,chain h.2.2 h.2.2.size hb⟩)
 obtain⟨⟨x0,x1,x2,x3,x4,x5⟩,⟨y0,y1,y2,y3,y4,y5⟩,-⟩:=HS.out
 go_wp2_with fail
 refine(HR.out _).mono ?_
 rintro e w2 ⟨rfl,hb2⟩
 clear x0 x1 x2 x3 x4 x5 y0 y1 y2 y3 y4 y5
 have HS2:=Lib.hid (TWO.out _ _ HS.out hb2)
 clear hb2
 obtain⟨⟨x0,x1,x2,x3,x4,x5⟩,⟨y0,y1,y2,y3,y4,y5⟩,-⟩:=HS2.out
 cases r
 case true =>
  go_wp2
  go_ret
  exact⟨ret_bool (by rw[← HB.out];rfl),HS2.out.2.2⟩
 case false =>
  by_cases h8:q1=8
  ·subst h8
   by_cases h5:q2=5
   ·subst h5
    go_wp2
    go_ret
    exact⟨ret_bool (by rw[← HB.out];rfl),HS2.out.2.2⟩
   ·have t5:(q2==5)=false:=beq_eq_false_iff_ne.2 h5
    go_wp2
    go_ret
    exact⟨ret_bool (by rw[← HB.out,decide_eq_false h5];rfl),HS2.out.2.2⟩
  ·have t8:(q1==8)=false:=beq_eq_false_iff_ne.2 h8
   go_wp2
   go_ret
   exact⟨ret_bool (by rw[← HB.out,decide_eq_false h8];rfl),HS2.out.2.2⟩
set_option maxRecDepth 100000 in
set_option maxHeartbeats 4000000 in
theorem hides_at (x y:Rl) (hfx:FitR x) (hfy:FitR y) (hy2:y.cells.length≤70000) (b:Bool) (hb:hidesB x y=b) (w:World) (hM:LaidM w) :
  Calls Tryz.prog 138 #[aggR x,aggR y] w fun e w'=>e=.returned (.bool b)∧Below w.heap.size w w':=by
 obtain⟨k,hk⟩:∃ k,keptB x=k:=⟨_,rfl⟩
 obtain⟨r,hr⟩:∃ r,nearB x y=r:=⟨_,rfl⟩
 have HK:=Lib.hid (fun(W:World)=>laysOut_at x hfx k hk W)
 have HR:=Lib.hid (fun(W:World)=>together_at x y r hr W)
 unfold hidesB at hb
 rw[hk,hr]at hb
 clear hk hr
 obtain⟨q1,l1,c1,p1,n1⟩:=x
 obtain⟨q2,l2,c2,p2,n2⟩:=y
 obtain⟨S1,hS1⟩:∃ S,bytesOf l1=S:=⟨_,rfl⟩
 obtain⟨T1,hT1⟩:∃ S,bytesOf c1=S:=⟨_,rfl⟩
 obtain⟨S2,hS2⟩:∃ S,bytesOf l2=S:=⟨_,rfl⟩
 obtain⟨T2,hT2⟩:∃ S,bytesOf c2=S:=⟨_,rfl⟩
 have eS1:l1=bytesN S1:=by rw[← hS1,bytesN_bytesOf _ hfx.2.2.2.1]
 have eT1:c1=bytesN T1:=by rw[← hT1,bytesN_bytesOf _ hfx.2.2.2.2.1]
 have eS2:l2=bytesN S2:=by rw[← hS2,bytesN_bytesOf _ hfy.2.2.2.1]
 have eT2:c2=bytesN T2:=by rw[← hT2,bytesN_bytesOf _ hfy.2.2.2.2.1]
 have hT2s:T2.size<4294967281:=by rw[← hT2,bytesOf_size];exact Nat.lt_of_le_of_lt hy2 (by decide)
 simp only[aggR,hS1,hT1,hS2,hT2]at HR HK ⊢
 simp only[]at hb
 rw[eT1,eT2]at hb
 obtain⟨g,hg⟩:∃ g,(bytesN T1).isPrefixOf (bytesN T2)=g:=⟨_,rfl⟩
 obtain⟨i,hi⟩:∃ g,withinB (bytesN T1) (bytesN T2)=g:=⟨_,rfl⟩
 have HP:=Lib.hid (show ∀ W:World,Calls Tryz.prog 163 #[.string T2,.string T1] W fun e w'=>e=.returned (.bool g)∧w'=W from fun W=>by
  have h:=Tryz.strings_HasPrefix T2 T1 W
  rw[prefix_is,hg]at h
  exact h)
 have HC:=Lib.hid (show ∀ W:World,LaidM W→Calls Tryz.prog 162 #[.string T2,.string T1] W fun e w'=>e=.returned (.bool i)∧w'=W from fun W hW=>by
  obtain⟨-,m,hm⟩:=hW
  have h:=Tryz.strings_Contains T2 T1 m W hT2s hm
  rw[contains_is,hi]at h
  exact h)
 rw[hg,hi]at hb
 have HB:=Lib.hid hb
 have HM:=Lib.hid hM
 clear hS1 hT1 hS2 hT2 eS1 eT1 eS2 eT2 hfx hfy hy2 hb hg hi hM hT2s
 go_enter Tryz.func138,Tryz.ntmps138
 go_upto_region 1 with fail
 have hx:=BoxS.new w q1 S1 T1 p1 n1 50
 have hw:=(Below.refl w.heap.size w).alloc (Nat.le_refl _) (.cells #[.int .i64 q1,.string S1,.string T1,.int .i64 p1,.int .i64 n1] 50)
 have hz:(w.alloc (.cells #[.int .i64 q1,.string S1,.string T1,.int .i64 p1,.int .i64 n1] 50)).heap.size=w.heap.size+1:=by simp
 generalize w.alloc _=wa at hx hw hz ⊢
 rw[← hz]
 have hy:=BoxS.new wa q2 S2 T2 p2 n2 50
 have hw1:=hw.alloc hw.size (.cells #[.int .i64 q2,.string S2,.string T2,.int .i64 p2,.int .i64 n2] 50)
 have hx1:=hx.below ((Below.refl wa.heap.size wa).alloc (Nat.le_refl _) (.cells #[.int .i64 q2,.string S2,.string T2,.int .i64 p2,.int .i64 n2] 50)) hx.2.2.2.2.2
 generalize wa.alloc _=w1 at hy hw1 hx1 ⊢
 obtain⟨bx,hbx⟩:∃ n,w.heap.size=n:=⟨_,rfl⟩
 obtain⟨by_,hby⟩:∃ n,wa.heap.size=n:=⟨_,rfl⟩
 rw[hbx]at hx1
 rw[hby]at hy
 rw[hbx,hby]
 clear hbx hby hz hx hw
 have HS:=Lib.hid (show BoxS w1 bx q1 S1 T1 p1 n1∧BoxS w1 by_ q2 S2 T2 p2 n2∧Below w.heap.size w w1 from ⟨hx1,hy,hw1⟩)
 clear hx1 hy hw1
 have TWO:=Lib.hid (show ∀ W W':World,(BoxS W bx q1 S1 T1 p1 n1∧BoxS W by_ q2 S2 T2 p2 n2∧Below w.heap.size w W)→Below W.heap.size W W'→BoxS W' bx q1 S1 T1 p1 n1∧BoxS W' by_ q2 S2 T2 p2 n2∧Below w.heap.size w W' from
  fun W W' h hb=>⟨h.1.kept hb,h.2.1.kept hb,chain h.2.2 h.2.2.size hb⟩)
 obtain⟨⟨x0,x1,x2,x3,x4,x5⟩,⟨y0,y1,y2,y3,y4,y5⟩,-⟩:=HS.out
 go_wp2_with fail
 refine(HK.out _).mono ?_
 rintro e w2 ⟨rfl,hb2⟩
 clear x0 x1 x2 x3 x4 x5 y0 y1 y2 y3 y4 y5
 have HS2:=Lib.hid (TWO.out _ _ HS.out hb2)
 clear hb2
 obtain⟨⟨x0,x1,x2,x3,x4,x5⟩,⟨y0,y1,y2,y3,y4,y5⟩,-⟩:=HS2.out
 cases k
 case true =>
  go_wp2_with fail
  refine(HC.out _ (HM.out.below HS2.out.2.2 HM.out.1)).mono ?_
  rintro e w3 ⟨rfl,rfl⟩
  go_wp2
  go_ret
  exact⟨ret_bool (by rw[← HB.out];rfl),HS2.out.2.2⟩
 case false =>
  go_wp2_with fail
  refine(HP.out _).mono ?_
  rintro e w3 ⟨rfl,rfl⟩
  cases g
  case false =>
   go_wp2
   go_ret
   exact⟨ret_bool (by rw[← HB.out];rfl),HS2.out.2.2⟩
  case true =>
   go_wp2_with fail
   refine(HR.out _).mono ?_
   rintro e w4 ⟨rfl,hb4⟩
   clear x0 x1 x2 x3 x4 x5 y0 y1 y2 y3 y4 y5
   have HS4:=Lib.hid (TWO.out _ _ HS2.out hb4)
   clear hb4
   go_wp2
   go_ret
   exact⟨ret_bool (by rw[← HB.out];rfl),HS4.out.2.2⟩
set_option maxRecDepth 100000 in
set_option maxHeartbeats 4000000 in
theorem clash9_at (x y:Rl) (hfx:FitR x) (hfy:FitR y) (hx2:x.cells.length≤70000) (hy2:y.cells.length≤70000) (b:Bool) (hb:clashB x y=b) (w:World) (hM:LaidM w) :
  Calls Tryz.prog 101 #[aggR x,aggR y] w fun e w'=>e=.returned (.bool b)∧Below w.heap.size w w':=by
 rw[clash_hides]at hb
 obtain⟨a1,h1⟩:∃ a,aboutB x y=a:=⟨_,rfl⟩
 obtain⟨a2,h2⟩:∃ a,wordsB x y=a:=⟨_,rfl⟩
 obtain⟨a3,h3⟩:∃ a,hidesB x y=a:=⟨_,rfl⟩
 obtain⟨a4,h4⟩:∃ a,hidesB y x=a:=⟨_,rfl⟩
 have H1:=Lib.hid (fun(W:World)=>about_at x y hfx hfy a1 h1 W)
 have H2:=Lib.hid (fun(W:World)=>sameWords_at x y hfx hfy a2 h2 W)
 have H3:=Lib.hid (fun(W:World) hW=>hides_at x y hfx hfy hy2 a3 h3 W hW)
 have H4:=Lib.hid (fun(W:World) hW=>hides_at y x hfy hfx hx2 a4 h4 W hW)
 rw[h1,h2,h3,h4]at hb
 have HB:=Lib.hid hb
 have HM:=Lib.hid hM
 clear h1 h2 h3 h4 hb hM hfx hfy hx2 hy2
 obtain⟨q1,l1,c1,p1,n1⟩:=x
 obtain⟨q2,l2,c2,p2,n2⟩:=y
 obtain⟨S1,hS1⟩:∃ S,bytesOf l1=S:=⟨_,rfl⟩
 obtain⟨T1,hT1⟩:∃ S,bytesOf c1=S:=⟨_,rfl⟩
 obtain⟨S2,hS2⟩:∃ S,bytesOf l2=S:=⟨_,rfl⟩
 obtain⟨T2,hT2⟩:∃ S,bytesOf c2=S:=⟨_,rfl⟩
 simp only[aggR,hS1,hT1,hS2,hT2]at H1 H2 H3 H4 ⊢
 clear hS1 hT1 hS2 hT2
 go_enter Tryz.func101,Tryz.ntmps101
 go_upto_region 1 with fail
 have hx:=BoxS.new w q1 S1 T1 p1 n1 50
 have hw:=(Below.refl w.heap.size w).alloc (Nat.le_refl _) (.cells #[.int .i64 q1,.string S1,.string T1,.int .i64 p1,.int .i64 n1] 50)
 have hz:(w.alloc (.cells #[.int .i64 q1,.string S1,.string T1,.int .i64 p1,.int .i64 n1] 50)).heap.size=w.heap.size+1:=by simp
 generalize w.alloc _=wa at hx hw hz ⊢
 rw[← hz]
 have hy:=BoxS.new wa q2 S2 T2 p2 n2 50
 have hw1:=hw.alloc hw.size (.cells #[.int .i64 q2,.string S2,.string T2,.int .i64 p2,.int .i64 n2] 50)
 have hx1:=hx.below ((Below.refl wa.heap.size wa).alloc (Nat.le_refl _) (.cells #[.int .i64 q2,.string S2,.string T2,.int .i64 p2,.int .i64 n2] 50)) hx.2.2.2.2.2
 generalize wa.alloc _=w1 at hy hw1 hx1 ⊢
 obtain⟨bx,hbx⟩:∃ n,w.heap.size=n:=⟨_,rfl⟩
 obtain⟨by_,hby⟩:∃ n,wa.heap.size=n:=⟨_,rfl⟩
 rw[hbx]at hx1
 rw[hby]at hy
 rw[hbx,hby]
 clear hbx hby hz hx hw
 have HS:=Lib.hid (show BoxS w1 bx q1 S1 T1 p1 n1∧BoxS w1 by_ q2 S2 T2 p2 n2∧Below w.heap.size w w1 from ⟨hx1,hy,hw1⟩)
 clear hx1 hy hw1
 have TWO:=Lib.hid (show ∀ W W':World,(BoxS W bx q1 S1 T1 p1 n1∧BoxS W by_ q2 S2 T2 p2 n2∧Below w.heap.size w W)→Below W.heap.size W W'→BoxS W' bx q1 S1 T1 p1 n1∧BoxS W' by_ q2 S2 T2 p2 n2∧Below w.heap.size w W' from
  fun W W' h hb=>⟨h.1.kept hb,h.2.1.kept hb,chain h.2.2 h.2.2.size hb⟩)
 obtain⟨⟨x0,x1,x2,x3,x4,x5⟩,⟨y0,y1,y2,y3,y4,y5⟩,-⟩:=HS.out
 go_wp2_with fail
 refine(H1.out _).mono ?_
 rintro e w2 ⟨rfl,hb2⟩
 clear x0 x1 x2 x3 x4 x5 y0 y1 y2 y3 y4 y5
 have HS2:=Lib.hid (TWO.out _ _ HS.out hb2)
 clear hb2
 obtain⟨⟨x0,x1,x2,x3,x4,x5⟩,⟨y0,y1,y2,y3,y4,y5⟩,-⟩:=HS2.out
 cases a1
 case true =>
  go_wp2
  go_ret
  exact⟨ret_bool (by rw[← HB.out];rfl),HS2.out.2.2⟩
 case false =>
 go_wp2_with fail
 refine(H2.out _).mono ?_
 rintro e w3 ⟨rfl,hb3⟩
 clear x0 x1 x2 x3 x4 x5 y0 y1 y2 y3 y4 y5
 have HS3:=Lib.hid (TWO.out _ _ HS2.out hb3)
 clear hb3
 obtain⟨⟨x0,x1,x2,x3,x4,x5⟩,⟨y0,y1,y2,y3,y4,y5⟩,-⟩:=HS3.out
 cases a2
 case true =>
  go_wp2
  go_ret
  exact⟨ret_bool (by rw[← HB.out];rfl),HS3.out.2.2⟩
 case false =>
 go_wp2_with fail
 refine(H3.out _ (HM.out.below HS3.out.2.2 HM.out.1)).mono ?_
 rintro e w4 ⟨rfl,hb4⟩
 clear x0 x1 x2 x3 x4 x5 y0 y1 y2 y3 y4 y5
 have HS4:=Lib.hid (TWO.out _ _ HS3.out hb4)
 clear hb4
 obtain⟨⟨x0,x1,x2,x3,x4,x5⟩,⟨y0,y1,y2,y3,y4,y5⟩,-⟩:=HS4.out
 cases a3
 case true =>
  go_wp2
  go_ret
  exact⟨ret_bool (by rw[← HB.out];rfl),HS4.out.2.2⟩
 case false =>
 go_wp2_with fail
 refine(H4.out _ (HM.out.below HS4.out.2.2 HM.out.1)).mono ?_
 rintro e w5 ⟨rfl,hb5⟩
 clear x0 x1 x2 x3 x4 x5 y0 y1 y2 y3 y4 y5
 have HS5:=Lib.hid (TWO.out _ _ HS4.out hb5)
 clear hb5
 go_wp2
 go_ret
 exact⟨ret_bool (by rw[← HB.out];rfl),HS5.out.2.2⟩
end Go.Proofs.YtlgejmcihchngaaGreatDoor.Ck
namespace Go.Proofs.YtlgejmcihchngaaGreatDoor.Ck
open Go.RowKit Ba Ru
theorem any_of_find {l:List Rl} {q:Rl→Bool} {x:Rl} (h:l.find? q=some x):l.any q=true:=List.any_eq_true.2 ⟨x,List.mem_of_find?_eq_some h,List.find?_some h⟩
theorem any_of_none {l:List Rl} {q:Rl→Bool} (h:l.find? q=none):l.any q=false:=by
 rw[List.any_eq_false]
 exact fun x hx=>List.find?_eq_none.1 h x hx
set_option maxRecDepth 100000 in
set_option maxHeartbeats 4000000 in
theorem indexFC_at (l:List Rl) (A:Option Addr) (off n c:Nat) (hn:l.length=n) (hn9:n≤100000) (q:Rl→Bool) (bx:Nat) (w:World) (hl:ReadsR off w w.heap.size (.slice A n c) l)
  (hq:∀ y ∈ l,∀ W:World,Below w.heap.size w W→Calls Tryz.prog 100 #[aggR y,.pointer (some ⟨bx,0,none⟩)] W fun e w'=>e=.returned (.bool (q y))∧Below W.heap.size W w') :
  Calls Tryz.prog 136 #[.slice A n c,.func (.func 100) #[] #[.pointer (some ⟨bx,0,none⟩)]] w (FirstTo l q w):=by
 obtain⟨A',c',e,hA⟩:=hl
 injection e with e1 e2 e3
 subst e1;subst e3
 have HA:=Lib.hid hA
 have HN:=Lib.hid hn
 have HPQ:=Lib.hid hq
 clear hA hn hq e2
 go_enter Tryz.func136,Tryz.ntmps136
 go_wp2
 go_loopw [8] (fun u8 wr=>∃ j:Nat,u8=.int .i64 (j:Int)∧j≤n∧(∀ i y,i<j→l[i]?=some y→q y=false)∧Below w.heap.size w wr) (fun u8 _=>n - (intOf u8).toNat)
 case atStart=>exact⟨0,rfl,Nat.zero_le _,fun i y h=>by omega,Below.refl _ _⟩
 case round =>
  obtain⟨j,rfl,hj,hjq,hB⟩:=hrel
  have HQ:=Lib.hid hjq
  have HB:=Lib.hid hB
  have j0:(0:Int)≤(j:Int):=by omega
  clear hjq
  by_cases hlt:j<n
  ·obtain⟨g,rfl,hgw,hg⟩:=HA.out (by rw[HN.out];omega)
   obtain⟨x,hx⟩:∃ x,l[j]?=some x:=⟨_,List.getElem?_eq_getElem (by rw[HN.out];exact hlt)⟩
   obtain⟨g0,g1,g2,g3,g4⟩:=rcell hg j x hx
   have g0:=(hB.cell (p:=⟨g,off+j * 5,none⟩) hgw).trans g0
   have g1:=(hB.cell (p:=⟨g,off+j * 5+1,none⟩) hgw).trans g1
   have g2:=(hB.cell (p:=⟨g,off+j * 5+2,none⟩) hgw).trans g2
   have g3:=(hB.cell (p:=⟨g,off+j * 5+3,none⟩) hgw).trans g3
   have g4:=(hB.cell (p:=⟨g,off+j * 5+4,none⟩) hgw).trans g4
   obtain⟨bq,hbq⟩:∃ bq,q x=bq:=⟨_,rfl⟩
   have hir:=HPQ.out x (List.mem_of_getElem? hx) wr hB
   rw[hbq]at hir
   have HIR:=Lib.hid hir
   have HX:=Lib.hid hx
   have HBQ:=Lib.hid hbq
   have j1:(j:Int)<(n:Int):=by omega
   obtain⟨xw,xl,xc,xp,xn⟩:=x
   simp only[aggR]at HIR
   simp only[]at g0 g1 g2 g3 g4
   clear hx hg hgw hir hbq hB
   cases bq
   ·have HNX:=Lib.hid (show ∀ i y,i<j+1→l[i]?=some y→q y=false from fun i y h1 h2=>by
     rcases Nat.lt_or_ge i j with h | h
     ·exact HQ.out i y h h2
     ·obtain rfl:i=j:=by omega
      rw[HX.out]at h2;cases h2;exact HBQ.out)
    go_wp2_with fail
    refine HIR.out.mono ?_
    rintro e w2 ⟨rfl,hb2⟩
    have HB2:=Lib.hid (chain HB.out HB.out.size hb2)
    clear hb2
    go_wp2
    go_roundw
    case rel=>exact⟨j+1,by go_num,by omega,HNX.out,HB2.out⟩
    case measure=>simp[intOf];omega
   ·have HFI:=Lib.hid (find_at HX.out HBQ.out HQ.out)
    go_wp2_with fail
    refine HIR.out.mono ?_
    rintro e w2 ⟨rfl,hb2⟩
    have HB2:=Lib.hid (chain HB.out HB.out.size hb2)
    clear hb2
    go_wp2
    go_ret
    exact⟨.inl ⟨j,_,rfl,HX.out,HFI.out⟩,HB2.out⟩
  ·obtain rfl:j=n:=by omega
   have HFI:=Lib.hid (find_no (l:=l) (q:=q) (fun i y h1 h2=>HQ.out i y (by rw[← HN.out];exact h1) h2))
   clear hB
   go_wp2
   go_ret
   exact⟨.inr ⟨rfl,HFI.out⟩,HB.out⟩
set_option maxHeartbeats 2000000 in
theorem containsFC_at (l:List Rl) (A:Option Addr) (off n c:Nat) (hn:l.length=n) (hn9:n≤100000) (q:Rl→Bool) (b:Bool) (hb:l.any q=b) (bx:Nat) (w:World) (hl:ReadsR off w w.heap.size (.slice A n c) l)
  (hq:∀ y ∈ l,∀ W:World,Below w.heap.size w W→Calls Tryz.prog 100 #[aggR y,.pointer (some ⟨bx,0,none⟩)] W fun e w'=>e=.returned (.bool (q y))∧Below W.heap.size W w') :
  Calls Tryz.prog 99 #[.slice A n c,.func (.func 100) #[] #[.pointer (some ⟨bx,0,none⟩)]] w fun e w'=>e=.returned (.bool b)∧Below w.heap.size w w':=by
 have HI:=Lib.hid (indexFC_at l A off n c hn hn9 q bx w hl hq)
 have HB:=Lib.hid hb
 clear hn hn9 hl hq hb
 go_enter Tryz.func99,Tryz.ntmps99
 go_wp2_with fail
 refine HI.out.mono ?_
 rintro e w2 ⟨hres,hb2⟩
 have HB2:=Lib.hid hb2
 clear hb2
 rcases hres with⟨j,x,rfl,-,hfi⟩ | ⟨rfl,hfi⟩
 ·have HE:=Lib.hid (HB.out.symm.trans (any_of_find hfi))
  have j2:decide ((0:Int)≤(j:Int))=true:=decide_eq_true (by omega)
  clear hfi
  go_wp2
  go_ret
  exact⟨ret_bool HE.out.symm,HB2.out⟩
 ·have HE:=Lib.hid (HB.out.symm.trans (any_of_none hfi))
  clear hfi
  go_wp2
  go_ret
  exact⟨ret_bool HE.out.symm,HB2.out⟩
set_option maxRecDepth 100000 in
set_option maxHeartbeats 4000000 in
theorem indexFM_at (l:List Rl) (A:Option Addr) (off n c:Nat) (hn:l.length=n) (hn9:n≤100000) (q:Rl→Bool) (bx:Nat) (w:World) (hl:ReadsR off w w.heap.size (.slice A n c) l)
  (hq:∀ y ∈ l,∀ W:World,Below w.heap.size w W→Calls Tryz.prog 103 #[aggR y,.pointer (some ⟨bx,0,none⟩)] W fun e w'=>e=.returned (.bool (q y))∧Below W.heap.size W w') :
  Calls Tryz.prog 136 #[.slice A n c,.func (.func 103) #[] #[.pointer (some ⟨bx,0,none⟩)]] w (FirstTo l q w):=by
 obtain⟨A',c',e,hA⟩:=hl
 injection e with e1 e2 e3
 subst e1;subst e3
 have HA:=Lib.hid hA
 have HN:=Lib.hid hn
 have HPQ:=Lib.hid hq
 clear hA hn hq e2
 go_enter Tryz.func136,Tryz.ntmps136
 go_wp2
 go_loopw [8] (fun u8 wr=>∃ j:Nat,u8=.int .i64 (j:Int)∧j≤n∧(∀ i y,i<j→l[i]?=some y→q y=false)∧Below w.heap.size w wr) (fun u8 _=>n - (intOf u8).toNat)
 case atStart=>exact⟨0,rfl,Nat.zero_le _,fun i y h=>by omega,Below.refl _ _⟩
 case round =>
  obtain⟨j,rfl,hj,hjq,hB⟩:=hrel
  have HQ:=Lib.hid hjq
  have HB:=Lib.hid hB
  have j0:(0:Int)≤(j:Int):=by omega
  clear hjq
  by_cases hlt:j<n
  ·obtain⟨g,rfl,hgw,hg⟩:=HA.out (by rw[HN.out];omega)
   obtain⟨x,hx⟩:∃ x,l[j]?=some x:=⟨_,List.getElem?_eq_getElem (by rw[HN.out];exact hlt)⟩
   obtain⟨g0,g1,g2,g3,g4⟩:=rcell hg j x hx
   have g0:=(hB.cell (p:=⟨g,off+j * 5,none⟩) hgw).trans g0
   have g1:=(hB.cell (p:=⟨g,off+j * 5+1,none⟩) hgw).trans g1
   have g2:=(hB.cell (p:=⟨g,off+j * 5+2,none⟩) hgw).trans g2
   have g3:=(hB.cell (p:=⟨g,off+j * 5+3,none⟩) hgw).trans g3
   have g4:=(hB.cell (p:=⟨g,off+j * 5+4,none⟩) hgw).trans g4
   obtain⟨bq,hbq⟩:∃ bq,q x=bq:=⟨_,rfl⟩
   have hir:=HPQ.out x (List.mem_of_getElem? hx) wr hB
   rw[hbq]at hir
   have HIR:=Lib.hid hir
   have HX:=Lib.hid hx
   have HBQ:=Lib.hid hbq
   have j1:(j:Int)<(n:Int):=by omega
   obtain⟨xw,xl,xc,xp,xn⟩:=x
   simp only[aggR]at HIR
   simp only[]at g0 g1 g2 g3 g4
   clear hx hg hgw hir hbq hB
   cases bq
   ·have HNX:=Lib.hid (show ∀ i y,i<j+1→l[i]?=some y→q y=false from fun i y h1 h2=>by
     rcases Nat.lt_or_ge i j with h | h
     ·exact HQ.out i y h h2
     ·obtain rfl:i=j:=by omega
      rw[HX.out]at h2;cases h2;exact HBQ.out)
    go_wp2_with fail
    refine HIR.out.mono ?_
    rintro e w2 ⟨rfl,hb2⟩
    have HB2:=Lib.hid (chain HB.out HB.out.size hb2)
    clear hb2
    go_wp2
    go_roundw
    case rel=>exact⟨j+1,by go_num,by omega,HNX.out,HB2.out⟩
    case measure=>simp[intOf];omega
   ·have HFI:=Lib.hid (find_at HX.out HBQ.out HQ.out)
    go_wp2_with fail
    refine HIR.out.mono ?_
    rintro e w2 ⟨rfl,hb2⟩
    have HB2:=Lib.hid (chain HB.out HB.out.size hb2)
    clear hb2
    go_wp2
    go_ret
    exact⟨.inl ⟨j,_,rfl,HX.out,HFI.out⟩,HB2.out⟩
  ·obtain rfl:j=n:=by omega
   have HFI:=Lib.hid (find_no (l:=l) (q:=q) (fun i y h1 h2=>HQ.out i y (by rw[← HN.out];exact h1) h2))
   clear hB
   go_wp2
   go_ret
   exact⟨.inr ⟨rfl,HFI.out⟩,HB.out⟩
set_option maxHeartbeats 2000000 in
theorem containsFM_at (l:List Rl) (A:Option Addr) (off n c:Nat) (hn:l.length=n) (hn9:n≤100000) (q:Rl→Bool) (b:Bool) (hb:l.any q=b) (bx:Nat) (w:World) (hl:ReadsR off w w.heap.size (.slice A n c) l)
  (hq:∀ y ∈ l,∀ W:World,Below w.heap.size w W→Calls Tryz.prog 103 #[aggR y,.pointer (some ⟨bx,0,none⟩)] W fun e w'=>e=.returned (.bool (q y))∧Below W.heap.size W w') :
  Calls Tryz.prog 99 #[.slice A n c,.func (.func 103) #[] #[.pointer (some ⟨bx,0,none⟩)]] w fun e w'=>e=.returned (.bool b)∧Below w.heap.size w w':=by
 have HI:=Lib.hid (indexFM_at l A off n c hn hn9 q bx w hl hq)
 have HB:=Lib.hid hb
 clear hn hn9 hl hq hb
 go_enter Tryz.func99,Tryz.ntmps99
 go_wp2_with fail
 refine HI.out.mono ?_
 rintro e w2 ⟨hres,hb2⟩
 have HB2:=Lib.hid hb2
 clear hb2
 rcases hres with⟨j,x,rfl,-,hfi⟩ | ⟨rfl,hfi⟩
 ·have HE:=Lib.hid (HB.out.symm.trans (any_of_find hfi))
  have j2:decide ((0:Int)≤(j:Int))=true:=decide_eq_true (by omega)
  clear hfi
  go_wp2
  go_ret
  exact⟨ret_bool HE.out.symm,HB2.out⟩
 ·have HE:=Lib.hid (HB.out.symm.trans (any_of_none hfi))
  clear hfi
  go_wp2
  go_ret
  exact⟨ret_bool HE.out.symm,HB2.out⟩
set_option maxRecDepth 100000 in
set_option maxHeartbeats 4000000 in
theorem clashesF_at (x y:Rl) (hfx:FitR x) (hfy:FitR y) (hx2:x.cells.length≤70000) (hy2:y.cells.length≤70000) (bx:Nat) (w:World) (hX:BoxS w bx x.what (bytesOf x.left) (bytesOf x.cells) x.prio x.line) (hM:LaidM w) :
  Calls Tryz.prog 100 #[aggR y,.pointer (some ⟨bx,0,none⟩)] w fun e w'=>e=.returned (.bool (clashB x y))∧Below w.heap.size w w':=by
 obtain⟨b,hb⟩:∃ b,clashB x y=b:=⟨_,rfl⟩
 rw[hb]
 have H1:=Lib.hid (fun(W:World) hW=>clash9_at x y hfx hfy hx2 hy2 b hb W hW)
 have HM:=Lib.hid hM
 clear hb hfx hfy hx2 hy2 hM
 obtain⟨q1,l1,c1,p1,n1⟩:=x
 obtain⟨q2,l2,c2,p2,n2⟩:=y
 obtain⟨S1,hS1⟩:∃ S,bytesOf l1=S:=⟨_,rfl⟩
 obtain⟨T1,hT1⟩:∃ S,bytesOf c1=S:=⟨_,rfl⟩
 obtain⟨S2,hS2⟩:∃ S,bytesOf l2=S:=⟨_,rfl⟩
 obtain⟨T2,hT2⟩:∃ S,bytesOf c2=S:=⟨_,rfl⟩
 simp only[aggR,hS1,hT1,hS2,hT2]at H1 hX ⊢
 clear hS1 hT1 hS2 hT2
 have HX:=Lib.hid hX
 clear hX
 go_enter Tryz.func100,Tryz.ntmps100
 go_upto_region 1 with fail
 have hy:=BoxS.new w q2 S2 T2 p2 n2 50
 have hw:=(Below.refl w.heap.size w).alloc (Nat.le_refl _) (.cells #[.int .i64 q2,.string S2,.string T2,.int .i64 p2,.int .i64 n2] 50)
 generalize w.alloc _=w1 at hy hw ⊢
 obtain⟨x0,x1,x2,x3,x4,x5⟩:=HX.out.kept hw
 obtain⟨y0,y1,y2,y3,y4,y5⟩:=hy
 have HW:=Lib.hid hw
 clear hw
 go_wp2_with fail
 refine(H1.out _ (HM.out.kept HW.out)).mono ?_
 rintro e w2 ⟨rfl,hb2⟩
 have HE:=Lib.hid (chain HW.out HW.out.size hb2)
 clear hb2
 go_wp2
 go_ret
 exact⟨rfl,HE.out⟩
set_option maxRecDepth 100000 in
set_option maxHeartbeats 4000000 in
theorem missingF_at (x y:Rl) (hfx:FitR x) (hfy:FitR y) (bx:Nat) (w:World) (hX:BoxS w bx x.what (bytesOf x.left) (bytesOf x.cells) x.prio x.line) :
  Calls Tryz.prog 103 #[aggR y,.pointer (some ⟨bx,0,none⟩)] w fun e w'=>e=.returned (.bool (aboutB x y))∧Below w.heap.size w w':=by
 obtain⟨b,hb⟩:∃ b,aboutB x y=b:=⟨_,rfl⟩
 rw[hb]
 have H1:=Lib.hid (fun(W:World)=>about_at x y hfx hfy b hb W)
 clear hb hfx hfy
 obtain⟨q1,l1,c1,p1,n1⟩:=x
 obtain⟨q2,l2,c2,p2,n2⟩:=y
 obtain⟨S1,hS1⟩:∃ S,bytesOf l1=S:=⟨_,rfl⟩
 obtain⟨T1,hT1⟩:∃ S,bytesOf c1=S:=⟨_,rfl⟩
 obtain⟨S2,hS2⟩:∃ S,bytesOf l2=S:=⟨_,rfl⟩
 obtain⟨T2,hT2⟩:∃ S,bytesOf c2=S:=⟨_,rfl⟩
 simp only[aggR,hS1,hT1,hS2,hT2]at H1 hX ⊢
 clear hS1 hT1 hS2 hT2
 have HX:=Lib.hid hX
 clear hX
 go_enter Tryz.func103,Tryz.ntmps103
 go_upto_region 1 with fail
 have hy:=BoxS.new w q2 S2 T2 p2 n2 50
 have hw:=(Below.refl w.heap.size w).alloc (Nat.le_refl _) (.cells #[.int .i64 q2,.string S2,.string T2,.int .i64 p2,.int .i64 n2] 50)
 generalize w.alloc _=w1 at hy hw ⊢
 obtain⟨x0,x1,x2,x3,x4,x5⟩:=HX.out.kept hw
 obtain⟨y0,y1,y2,y3,y4,y5⟩:=hy
 have HW:=Lib.hid hw
 clear hw
 go_wp2_with fail
 refine(H1.out _).mono ?_
 rintro e w2 ⟨rfl,hb2⟩
 have HE:=Lib.hid (chain HW.out HW.out.size hb2)
 clear hb2
 go_wp2
 go_ret
 exact⟨rfl,HE.out⟩
set_option maxRecDepth 100000 in
set_option maxHeartbeats 4000000 in
theorem clashes_at (x:Rl) (hfx:FitR x) (hx2:x.cells.length≤9000) (l:List Rl) (A:Option Addr) (off n c:Nat) (hn:l.length=n) (hn9:n≤100000) (hf:∀ y ∈ l,FitR y∧y.cells.length≤9000) (b:Bool) (hb:l.any (clashB x)=b) (w:World) (hM:LaidM w) (hl:ReadsR off w w.heap.size (.slice A n c) l) :
  Calls Tryz.prog 68 #[aggR x,.slice A n c] w fun e w'=>e=.returned (.bool b)∧Below w.heap.size w w':=by
 have H1:=Lib.hid (fun(W:World) (hW:BoxS W w.heap.size x.what (bytesOf x.left) (bytesOf x.cells) x.prio x.line) (hMW:LaidM W) (hlW:ReadsR off W W.heap.size (.slice A n c) l) =>
  containsFC_at l A off n c hn hn9 (clashB x) b hb w.heap.size W hlW (fun y hy V hV=>clashesF_at x y hfx (hf y hy).1 (by omega) (by have:=(hf y hy).2;omega) w.heap.size V (hW.kept hV) (hMW.kept hV)))
 have HM:=Lib.hid hM
 have HL:=Lib.hid hl
 clear hn hn9 hf hb hM hl hfx hx2
 obtain⟨q1,l1,c1,p1,n1⟩:=x
 obtain⟨S1,hS1⟩:∃ S,bytesOf l1=S:=⟨_,rfl⟩
 obtain⟨T1,hT1⟩:∃ S,bytesOf c1=S:=⟨_,rfl⟩
 simp only[aggR,hS1,hT1]at H1 ⊢
 clear hS1 hT1
 go_enter Tryz.func68,Tryz.ntmps68
 go_upto_region 1 with fail
 have hx:=BoxS.new w q1 S1 T1 p1 n1 50
 have hw:=(Below.refl w.heap.size w).alloc (Nat.le_refl _) (.cells #[.int .i64 q1,.string S1,.string T1,.int .i64 p1,.int .i64 n1] 50)
 generalize w.alloc _=w1 at hx hw ⊢
 have HC:=Lib.hid (H1.out w1 hx (HM.out.kept hw) ((HL.out.below hw).mono hw.size))
 have HW:=Lib.hid hw
 clear hx hw
 go_wp2_with fail
 refine HC.out.mono ?_
 rintro e w2 ⟨rfl,hb2⟩
 have HE:=Lib.hid (chain HW.out HW.out.size hb2)
 clear hb2
 go_wp2
 go_ret
 exact⟨rfl,HE.out⟩
end Go.Proofs.YtlgejmcihchngaaGreatDoor.Ck
