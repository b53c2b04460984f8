/-
  Layer 9's document: whether two rules clash.
-/
import Derived.Test.YtlgejmcihchngaaGreatDoorQc
namespace Go.Proofs.YtlgejmcihchngaaGreatDoor.Ck
open Go.RowKit Ba Ru
set_option maxRecDepth 100000 in
set_option maxHeartbeats 8000000 in
theorem rclash_any (x y:Rl) (hfx:FitR x) (hfy:FitR y) (hx2:x.cells.length≤70000) (hy2:y.cells.length≤70000) (b:Bool) (hb:clashB x y=b) (w:World) :
  Calls Tryz.prog 33 #[aggR x,aggR y] w fun e w'=>e=.returned (.bool b)∧Below w.heap.size w w':=by
 obtain⟨q1,l1,c1,p1,n1⟩:=x
 obtain⟨q2,l2,c2,p2,n2⟩:=y
 have HKX:=Lib.hid (fun W=>rkept_any ⟨q1,l1,c1,p1,n1⟩ hfx W)
 have HKY:=Lib.hid (fun W=>rkept_any ⟨q2,l2,c2,p2,n2⟩ hfy W)
 have HIX:=Lib.hid (fun r W=>rin_any ⟨q1,l1,c1,p1,n1⟩ r W)
 have HIY:=Lib.hid (fun r W=>rin_any ⟨q2,l2,c2,p2,n2⟩ r W)
 obtain⟨S1,hS1⟩:∃ S,bytesOf l1=S:=⟨_,rfl⟩
 obtain⟨T1,hT1⟩:∃ S,bytesOf c1=S:=⟨_,rfl⟩
 obtain⟨S2,hS2⟩:∃ S,bytesOf l2=S:=⟨_,rfl⟩
 obtain⟨T2,hT2⟩:∃ S,bytesOf c2=S:=⟨_,rfl⟩
 have eS1:l1=bytesN S1:=by rw[← hS1,bytesN_bytesOf _ hfx.2.2.2.1]
 have eT1:c1=bytesN T1:=by rw[← hT1,bytesN_bytesOf _ hfx.2.2.2.2.1]
 have eS2:l2=bytesN S2:=by rw[← hS2,bytesN_bytesOf _ hfy.2.2.2.1]
 have eT2:c2=bytesN T2:=by rw[← hT2,bytesN_bytesOf _ hfy.2.2.2.2.1]
 have hT1s:T1.size≤70000:=by rw[← hT1,bytesOf_size];exact hx2
 have hT2s:T2.size≤70000:=by rw[← hT2,bytesOf_size];exact hy2
 obtain⟨X,hX⟩:∃ X:Rl,(⟨q1,l1,c1,p1,n1⟩:Rl)=X:=⟨_,rfl⟩
 obtain⟨Y,hY⟩:∃ Y:Rl,(⟨q2,l2,c2,p2,n2⟩:Rl)=Y:=⟨_,rfl⟩
 simp only[aggR,hS1,hT1,hS2,hT2]at HKX HKY HIX HIY ⊢
 rw[hX]at HKX HIX hb
 rw[hY]at HKY HIY hb
 have hcl:clashB X Y=(decide (q1=q2∧bytesN S1=bytesN S2) || decide (q1=5∧q2=5∧bytesN T1=bytesN T2) || (rowsB X Y && ((bytesN T1).isPrefixOf (bytesN T2) || (bytesN T2).isPrefixOf (bytesN T1)))
   || (keptB X && withinB (bytesN T1) (bytesN T2)) || (keptB Y && withinB (bytesN T2) (bytesN T1))
   || (decide (q1=8∧q2=5) && (bytesN T1).isPrefixOf (bytesN T2)) || (decide (q2=8∧q1=5) && (bytesN T2).isPrefixOf (bytesN T1))):=by
  rw[← hX,← hY,eS1,eT1,eS2,eT2];rfl
 rw[hcl]at hb
 clear hcl hX hY eS1 eT1 eS2 eT2 hS1 hT1 hS2 hT2 hfx hfy hx2 hy2
 obtain⟨g1,hg1⟩:∃ g,(bytesN T1).isPrefixOf (bytesN T2)=g:=⟨_,rfl⟩
 obtain⟨g2,hg2⟩:∃ g,(bytesN T2).isPrefixOf (bytesN T1)=g:=⟨_,rfl⟩
 obtain⟨i1,hi1⟩:∃ g,withinB (bytesN T1) (bytesN T2)=g:=⟨_,rfl⟩
 obtain⟨i2,hi2⟩:∃ g,withinB (bytesN T2) (bytesN T1)=g:=⟨_,rfl⟩
 obtain⟨a1,ha1⟩:∃ g,decide (q1=q2∧bytesN S1=bytesN S2)=g:=⟨_,rfl⟩
 obtain⟨a2,ha2⟩:∃ g,decide (q1=5∧q2=5∧bytesN T1=bytesN T2)=g:=⟨_,rfl⟩
 obtain⟨k1,hk1⟩:∃ g,keptB X=g:=⟨_,rfl⟩
 obtain⟨k2,hk2⟩:∃ g,keptB Y=g:=⟨_,rfl⟩
 have HG1:=Lib.hid (hg1▸rbegins_any T1 T2 (by omega) (by omega))
 have HG2:=Lib.hid (hg2▸rbegins_any T2 T1 (by omega) (by omega))
 have HN1:=Lib.hid (hi1▸rwithin_any T1 T2 (by omega) (by omega))
 have HN2:=Lib.hid (hi2▸rwithin_any T2 T1 (by omega) (by omega))
 rw[hk1]at HKX
 rw[hk2]at HKY
 rw[hg1,hg2,hi1,hi2,ha1,ha2,hk1,hk2]at hb
 have HA1:=Lib.hid ha1
 have HA2:=Lib.hid ha2
 have HB:=Lib.hid hb
 clear hg1 hg2 hi1 hi2 ha1 ha2 hk1 hk2 hb
 go_enter Tryz.func33,Tryz.ntmps33
 go_upto_region 1 with fail
 have hx:=BoxS.new w q1 S1 T1 p1 n1 50
 have hw:=(Below.refl w.heap.size w).alloc (Nat.le_refl _) (.cells #[.int .i64 q1,.string S1,.string T1,.int .i64 p1,.int .i64 n1] 50)
 have hz:(w.alloc (.cells #[.int .i64 q1,.string S1,.string T1,.int .i64 p1,.int .i64 n1] 50)).heap.size=w.heap.size+1:=by simp
 generalize w.alloc _=wa at hx hw hz ⊢
 rw[← hz]
 have hy:=BoxS.new wa q2 S2 T2 p2 n2 50
 have hw1:=hw.alloc hw.size (.cells #[.int .i64 q2,.string S2,.string T2,.int .i64 p2,.int .i64 n2] 50)
 have hx1:=hx.below ((Below.refl wa.heap.size wa).alloc (Nat.le_refl _) (.cells #[.int .i64 q2,.string S2,.string T2,.int .i64 p2,.int .i64 n2] 50)) hx.2.2.2.2.2
 generalize wa.alloc _=w1 at hy hw1 hx1 ⊢
 obtain⟨bx,hbx⟩:∃ n,w.heap.size=n:=⟨_,rfl⟩
 obtain⟨by_,hby⟩:∃ n,wa.heap.size=n:=⟨_,rfl⟩
 rw[hbx]at hx1
 rw[hby]at hy
 rw[hbx,hby]
 clear hbx hby hz hx hw
 have HS:=Lib.hid (show BoxS w1 bx q1 S1 T1 p1 n1∧BoxS w1 by_ q2 S2 T2 p2 n2∧Below w.heap.size w w1 from ⟨hx1,hy,hw1⟩)
 clear hx1 hy hw1
 have TWO:=Lib.hid (show ∀ W W':World,(BoxS W bx q1 S1 T1 p1 n1∧BoxS W by_ q2 S2 T2 p2 n2∧Below w.heap.size w W)→Below W.heap.size W W'→BoxS W' bx q1 S1 T1 p1 n1∧BoxS W' by_ q2 S2 T2 p2 n2∧Below w.heap.size w W' from
  fun W W' h hb=>⟨h.1.kept hb,h.2.1.kept hb,chain h.2.2 h.2.2.size hb⟩)
 go_cut [17] (fun u17 wx=>u17=.bool a1∧BoxS wx bx q1 S1 T1 p1 n1∧BoxS wx by_ q2 S2 T2 p2 n2∧Below w.heap.size w wx)
 case first =>
  obtain⟨⟨x0,x1,x2,x3,x4,x5⟩,⟨y0,y1,y2,y3,y4,y5⟩,-⟩:=HS.out
  by_cases hq:q1=q2
  ·subst hq
   by_cases he:S1=S2
   ·subst he
    go_wp2
    go_meet
    exact⟨by rw[← HA1.out,decide_eq_true ⟨by trivial,by trivial⟩],HS.out⟩
   ·have hne:=toList_ne he
    have HE:=Lib.hid he
    clear he
    go_wp2
    go_meet
    exact⟨by rw[← HA1.out,decide_eq_false (fun h=>HE.out (bytes_ext h.2))],HS.out⟩
  ·have tq:(q1==q2)=false:=beq_eq_false_iff_ne.2 hq
   go_wp2
   go_meet
   exact⟨by rw[← HA1.out,decide_eq_false (fun h=>hq h.1)],HS.out⟩
 case rest =>
 obtain⟨rfl,hs⟩:=hcut
 clear HS
 have HS:=Lib.hid hs
 clear hs
 cases a1
 case true =>
  go_wp2
  go_ret
  exact⟨ret_bool (by rw[← HB.out];rfl),HS.out.2.2⟩
 case false =>
 go_upto_region 3 with fail
 go_cut [32] (fun u32 wx=>u32=.bool a2∧BoxS wx bx q1 S1 T1 p1 n1∧BoxS wx by_ q2 S2 T2 p2 n2∧Below w.heap.size w wx)
 case first =>
  obtain⟨⟨x0,x1,x2,x3,x4,x5⟩,⟨y0,y1,y2,y3,y4,y5⟩,-⟩:=HS.out
  by_cases hq1:q1=5
  ·subst hq1
   by_cases hq2:q2=5
   ·subst hq2
    by_cases he:T1=T2
    ·subst he
     go_wp2
     go_meet
     exact⟨by rw[← HA2.out,decide_eq_true ⟨by trivial,by trivial,by trivial⟩],HS.out⟩
    ·have hne:=toList_ne he
     have HE:=Lib.hid he
     clear he
     go_wp2
     go_meet
     exact⟨by rw[← HA2.out,decide_eq_false (fun h=>HE.out (bytes_ext h.2.2))],HS.out⟩
   ·have tq:(q2==5)=false:=beq_eq_false_iff_ne.2 hq2
    go_wp2
    go_meet
    exact⟨by rw[← HA2.out,decide_eq_false (fun h=>hq2 h.2.1)],HS.out⟩
  ·have tq:(q1==5)=false:=beq_eq_false_iff_ne.2 hq1
   go_wp2
   go_meet
   exact⟨by rw[← HA2.out,decide_eq_false (fun h=>hq1 h.1)],HS.out⟩
 case rest =>
 obtain⟨rfl,hs⟩:=hcut
 clear HS
 have HS:=Lib.hid hs
 clear hs
 cases a2
 case true =>
  go_wp2
  go_ret
  exact⟨ret_bool (by rw[← HB.out];rfl),HS.out.2.2⟩
 case false =>
 go_wp2
 go_loopw [5] (fun i wr=>∃ k:Nat,1≤k∧k≤4∧i=.int .i64 k∧(∀ r:Nat,1≤r→r<k→(inB X (r:Int) && inB Y (r:Int) && (g1 || g2))=false)∧BoxS wr bx q1 S1 T1 p1 n1∧BoxS wr by_ q2 S2 T2 p2 n2∧Below w.heap.size w wr) (fun i _=>4 - (intOf i).toNat)
 case atStart=>exact⟨1,by omega,by omega,rfl,fun r h1 h2=>by omega,HS.out⟩
 case round =>
  obtain⟨k,hk1,hk4,rfl,hN,hs⟩:=hrel
  clear HS
  have HS:=Lib.hid hs
  have HN:=Lib.hid hN
  clear hs hN
  by_cases hlt:k<4
  ·have t1:decide ((k:Int)≤3)=true:=decide_eq_true (by omega)
   obtain⟨j1,hj1⟩:∃ j,inB X (k:Int)=j:=⟨_,rfl⟩
   obtain⟨j2,hj2⟩:∃ j,inB Y (k:Int)=j:=⟨_,rfl⟩
   have HJX:=Lib.hid (hj1▸HIX.out (k:Int))
   have HJY:=Lib.hid (hj2▸HIY.out (k:Int))
   have HNX:=Lib.hid (show (j1 && j2 && (g1 || g2))=false→∀ r:Nat,1≤r→r<k+1→(inB X (r:Int) && inB Y (r:Int) && (g1 || g2))=false from fun h r h1 h2=>by
    rcases Nat.lt_or_ge r k with h3 | h3
    ·exact HN.out r h1 h3
    ·obtain rfl:r=k:=by omega
     rw[hj1,hj2];exact h)
   have HYES:=Lib.hid (show (j1 && j2 && (g1 || g2))=true→true=b from fun h=>by
    rw[← HB.out]
    have hr:rowsB X Y=true:=by
     rw[Bool.and_eq_true,Bool.and_eq_true]at h
     exact rows_of (row:=(k:Int)) (hj1.trans h.1.1) (hj2.trans h.1.2)
    have hg:(g1 || g2)=true:=by rw[Bool.and_eq_true]at h;exact h.2
    rw[hr,hg];rfl)
   clear hj1 hj2
   obtain⟨⟨x0,x1,x2,x3,x4,x5⟩,⟨y0,y1,y2,y3,y4,y5⟩,-⟩:=HS.out
   cases j1
   case false =>
    go_wp2_with fail
    refine(HJX.out _).mono ?_
    rintro e w2 ⟨rfl,hb2⟩
    clear x0 x1 x2 x3 x4 x5 y0 y1 y2 y3 y4 y5
    have HS2:=Lib.hid (TWO.out _ _ HS.out hb2)
    clear hb2
    go_wp2
    go_roundw
    case rel=>exact⟨k+1,by omega,by omega,by go_num,HNX.out rfl,HS2.out⟩
    case measure=>simp[intOf];omega
   case true =>
    go_wp2_with fail
    refine(HJX.out _).mono ?_
    rintro e w2 ⟨rfl,hb2⟩
    clear x0 x1 x2 x3 x4 x5 y0 y1 y2 y3 y4 y5
    have HS2:=Lib.hid (TWO.out _ _ HS.out hb2)
    clear hb2
    obtain⟨⟨x0,x1,x2,x3,x4,x5⟩,⟨y0,y1,y2,y3,y4,y5⟩,-⟩:=HS2.out
    go_wp2_with fail
    refine(HJY.out _).mono ?_
    rintro e w3 ⟨rfl,hb3⟩
    clear x0 x1 x2 x3 x4 x5 y0 y1 y2 y3 y4 y5
    have HS3:=Lib.hid (TWO.out _ _ HS2.out hb3)
    clear hb3
    obtain⟨⟨x0,x1,x2,x3,x4,x5⟩,⟨y0,y1,y2,y3,y4,y5⟩,-⟩:=HS3.out
    cases j2
    case false =>
     go_wp2
     go_roundw
     case rel=>exact⟨k+1,by omega,by omega,by go_num,HNX.out rfl,HS3.out⟩
     case measure=>simp[intOf];omega
    case true =>
     go_wp2_with fail
     refine(HG1.out _).mono ?_
     rintro e w4 ⟨rfl,rfl⟩
     cases g1
     case true =>
      go_wp2
      go_ret
      exact⟨ret_bool (HYES.out rfl),HS3.out.2.2⟩
     case false =>
      go_wp2_with fail
      refine(HG2.out _).mono ?_
      rintro e w4 ⟨rfl,rfl⟩
      cases g2
      case true =>
       go_wp2
       go_ret
       exact⟨ret_bool (HYES.out rfl),HS3.out.2.2⟩
      case false =>
       go_wp2
       go_roundw
       case rel=>exact⟨k+1,by omega,by omega,by go_num,HNX.out rfl,HS3.out⟩
       case measure=>simp[intOf];omega
  ·obtain rfl:k=4:=by omega
   have HR:=Lib.hid (show (rowsB X Y && (g1 || g2))=false from by
    have e1:=HN.out 1 (by omega) (by omega)
    have e2:=HN.out 2 (by omega) (by omega)
    have e3:=HN.out 3 (by omega) (by omega)
    cases hg:(g1 || g2) with
    | false=>rw[Bool.and_false]
    | true =>
     rw[hg,Bool.and_true]at e1 e2 e3
     unfold rowsB
     rw[Bool.and_true]
     rw[show (inB X 1 && inB Y 1)=false from e1,show (inB X 2 && inB Y 2)=false from e2,show (inB X 3 && inB Y 3)=false from e3];rfl)
   have HB2:=Lib.hid (show ((k1 && i1) || (k2 && i2) || (decide (q1=8∧q2=5) && g1) || (decide (q2=8∧q1=5) && g2))=b from by
    rw[← HB.out,HR.out];simp[Bool.or_assoc])
   clear HN hlt hk1 hk4
   go_upto_region 10 with fail
   go_cut [78] (fun u78 wx=>u78=.bool ((k1 && i1) || (k2 && i2))∧BoxS wx bx q1 S1 T1 p1 n1∧BoxS wx by_ q2 S2 T2 p2 n2∧Below w.heap.size w wx)
   case first =>
    obtain⟨⟨x0,x1,x2,x3,x4,x5⟩,⟨y0,y1,y2,y3,y4,y5⟩,-⟩:=HS.out
    go_wp2_with fail
    refine(HKX.out _).mono ?_
    rintro e w2 ⟨rfl,hb2⟩
    clear x0 x1 x2 x3 x4 x5 y0 y1 y2 y3 y4 y5
    have HS2:=Lib.hid (TWO.out _ _ HS.out hb2)
    clear hb2
    obtain⟨⟨x0,x1,x2,x3,x4,x5⟩,⟨y0,y1,y2,y3,y4,y5⟩,-⟩:=HS2.out
    cases k1
    case false =>
     go_wp2_with fail
     refine(HKY.out _).mono ?_
     rintro e w3 ⟨rfl,hb3⟩
     clear x0 x1 x2 x3 x4 x5 y0 y1 y2 y3 y4 y5
     have HS3:=Lib.hid (TWO.out _ _ HS2.out hb3)
     clear hb3
     obtain⟨⟨x0,x1,x2,x3,x4,x5⟩,⟨y0,y1,y2,y3,y4,y5⟩,-⟩:=HS3.out
     cases k2
     case false =>
      go_wp2
      go_meet
      exact⟨rfl,HS3.out⟩
     case true =>
      go_wp2_with fail
      refine(HN2.out _).mono ?_
      rintro e w4 ⟨rfl,rfl⟩
      go_wp2
      go_meet
      exact⟨by cases i2<;>rfl,HS3.out⟩
    case true =>
     go_wp2_with fail
     refine(HN1.out _).mono ?_
     rintro e w4 ⟨rfl,rfl⟩
     cases i1
     case true =>
      go_wp2
      go_meet
      exact⟨rfl,HS2.out⟩
     case false =>
      go_wp2_with fail
      refine(HKY.out _).mono ?_
      rintro e w3 ⟨rfl,hb3⟩
      clear x0 x1 x2 x3 x4 x5 y0 y1 y2 y3 y4 y5
      have HS3:=Lib.hid (TWO.out _ _ HS2.out hb3)
      clear hb3
      obtain⟨⟨x0,x1,x2,x3,x4,x5⟩,⟨y0,y1,y2,y3,y4,y5⟩,-⟩:=HS3.out
      cases k2
      case false =>
       go_wp2
       go_meet
       exact⟨rfl,HS3.out⟩
      case true =>
       go_wp2_with fail
       refine(HN2.out _).mono ?_
       rintro e w4 ⟨rfl,rfl⟩
       go_wp2
       go_meet
       exact⟨by cases i2<;>rfl,HS3.out⟩
   case rest =>
    obtain⟨rfl,hs⟩:=hcut
    clear HS
    have HS:=Lib.hid hs
    clear hs
    obtain⟨kk,hkk⟩:∃ kk,((k1 && i1) || (k2 && i2))=kk:=⟨_,rfl⟩
    rw[hkk]
    have HB3:=Lib.hid (show (kk || (decide (q1=8∧q2=5) && g1) || (decide (q2=8∧q1=5) && g2))=b from by rw[← hkk];exact HB2.out)
    clear hkk HB2
    cases kk
    case true =>
     go_wp2
     go_ret
     exact⟨ret_bool (by rw[← HB3.out];rfl),HS.out.2.2⟩
    case false =>
    obtain⟨⟨x0,x1,x2,x3,x4,x5⟩,⟨y0,y1,y2,y3,y4,y5⟩,-⟩:=HS.out
    by_cases h18:q1=8
    ·subst h18
     by_cases h25:q2=5
     ·subst h25
      go_wp2_with fail
      refine(HG1.out _).mono ?_
      rintro e w4 ⟨rfl,rfl⟩
      cases g1
      all_goals
       go_wp2
       go_ret
       exact⟨ret_bool (by rw[← HB3.out];rfl),HS.out.2.2⟩
     ·have t25:(q2==5)=false:=beq_eq_false_iff_ne.2 h25
      by_cases h28:q2=8
      ·subst h28
       go_wp2
       go_ret
       exact⟨ret_bool (by rw[← HB3.out];rfl),HS.out.2.2⟩
      ·have t28:(q2==8)=false:=beq_eq_false_iff_ne.2 h28
       go_wp2
       go_ret
       exact⟨ret_bool (by rw[← HB3.out,decide_eq_false (fun h=>h25 h.2),decide_eq_false (fun h=>h28 h.1)];rfl),HS.out.2.2⟩
    ·have t18:(q1==8)=false:=beq_eq_false_iff_ne.2 h18
     by_cases h28:q2=8
     ·subst h28
      by_cases h15:q1=5
      ·subst h15
       go_wp2_with fail
       refine(HG2.out _).mono ?_
       rintro e w4 ⟨rfl,rfl⟩
       go_wp2
       go_ret
       exact⟨ret_bool (by rw[← HB3.out];cases g2<;>rfl),HS.out.2.2⟩
      ·have t15:(q1==5)=false:=beq_eq_false_iff_ne.2 h15
       go_wp2
       go_ret
       exact⟨ret_bool (by rw[← HB3.out,decide_eq_false (fun h=>h18 h.1),decide_eq_false (fun h=>h15 h.2)];rfl),HS.out.2.2⟩
     ·have t28:(q2==8)=false:=beq_eq_false_iff_ne.2 h28
      go_wp2
      go_ret
      exact⟨ret_bool (by rw[← HB3.out,decide_eq_false (fun h=>h18 h.1),decide_eq_false (fun h=>h28 h.1)];rfl),HS.out.2.2⟩
end Go.Proofs.YtlgejmcihchngaaGreatDoor.Ck
