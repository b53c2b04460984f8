/-
  tree.Parse of any source; tree.Same.
-/
import Derived.Test.YtgpihfacmpbpaaaGreatDoorTsV
namespace Go.Proofs.YtgpihfacmpbpaaaGreatDoor.Tr
open Go.RowKit
set_option maxRecDepth 100000 in
set_option maxHeartbeats 4000000 in
theorem TG (s:ByteArray) (hs:s.size≤maxLen) (w:World) (hL:Ka.Laid w) :
  Calls Tryz.prog 16 #[.string s] w fun e w' =>
  ∃ v,e=.returned (.tuple #[v,.int .i64 (((bH s).2.1:Nat):Int),.int .i64 (((bH s).2.2:Nat):Int)])∧aS 0 w' w'.heap.size v (bH s).1∧Below w.heap.size w w':=by
 by_cases h0:Lx.nD s=0
 ·exact TF s hs h0 w hL
 ·obtain⟨la,hla⟩:∃ la,Lx.qR s=la:=⟨_,rfl⟩
  obtain⟨le,hle⟩:∃ le,Lx.nD s=le:=⟨_,rfl⟩
  have HPA:=Lib.hid (show bH s=([],la,le) by unfold bH;rw[if_pos h0,hla,hle])
  have HC:=Lib.hid ((PZ s hs w hL).mono (R':=fun e w'=>∃ v,e=.returned (.tuple #[v,.int .i64 (la:Int),.int .i64 (le:Int)])∧Below w.heap.size w w') (fun e w' ⟨⟨v,he,_⟩,hb⟩=>⟨v,by rw[he,hla,hle],hb⟩))
  rw[hle]at h0
  have t1:((le:Int) != 0)=true:=by rw[bne,show ((le:Int)==0)=false from fD h0];rfl
  clear hla hle h0
  go_enter Tryz.func16,Tryz.ntmps16
  go_wp2_with (first
   |(go_at_call 34;refine HC.out.mono ?_;rintro e w1 ⟨v,rfl,hb1⟩;replace hb1:=Lib.hid hb1))
  go_ret3
  exact⟨.slice none 0 0,by rw[HPA.out];rfl,by rw[HPA.out];exact Ba.Reads.nil _ _ _,hb1.out⟩
set_option maxHeartbeats 2000000 in
theorem K4 (xk yk:Nat) (xt yt:ByteArray) (xp yp xs ys:Int) (z:Bool) (hz:kI ⟨xk,xt,xp,xs⟩ ⟨yk,yt,yp,ys⟩=z) (w:World) :
  Calls Tryz.prog 31 #[.agg #[.int .u8 (xk:Int),.string xt,.int .i64 xp,.int .i64 xs],.agg #[.int .u8 (yk:Int),.string yt,.int .i64 yp,.int .i64 ys]] w fun e w'=>e=.returned (.bool z)∧Below w.heap.size w w':=by
 have hb:=Lib.hid (((Below.refl w.heap.size w).alloc (Nat.le_refl _) (.cells #[.int .u8 (xk:Int),.string xt,.int .i64 xp,.int .i64 xs] 41)).alloc (by simp) (.cells #[.int .u8 (yk:Int),.string yt,.int .i64 yp,.int .i64 ys] 41))
 by_cases e1:xk=yk
 ·subst e1
  by_cases e2:xt=yt
  ·subst e2
   by_cases e3:xs=ys
   ·subst e3
    have HZ:=Lib.hid (show true=z by rw[← hz];exact(decide_eq_true ⟨rfl,rfl,rfl⟩).symm)
    clear hz
    go_enter Tryz.func31,Tryz.ntmps31
    go_wp2
    go_ret
    exact⟨Ba.aC HZ.out,hb.out⟩
   ·have t3:(xs==ys)=false:=beq_eq_false_iff_ne.2 e3
    have HZ:=Lib.hid (show false=z by rw[← hz];exact(decide_eq_false fun h=>e3 h.2.2).symm)
    clear hz e3
    go_enter Tryz.func31,Tryz.ntmps31
    go_wp2
    go_ret
    exact⟨Ba.aC HZ.out,hb.out⟩
  ·have t2:=XE e2
   have HZ:=Lib.hid (show false=z by rw[← hz];exact(decide_eq_false fun h=>e2 h.2.1).symm)
   clear hz e2
   go_enter Tryz.func31,Tryz.ntmps31
   go_wp2
   go_ret
   exact⟨Ba.aC HZ.out,hb.out⟩
 ·have t1:((xk:Int)==(yk:Int))=false:=beq_eq_false_iff_ne.2 (by omega)
  have HZ:=Lib.hid (show false=z by rw[← hz];exact(decide_eq_false fun h=>e1 h.1).symm)
  clear hz e1
  go_enter Tryz.func31,Tryz.ntmps31
  go_wp2
  go_ret
  exact⟨Ba.aC HZ.out,hb.out⟩
set_option maxHeartbeats 4000000 in
theorem YA (a b:Nat) (u v:Value) (t s:List Nd) (ht:t.length≤9000) (_hs:s.length≤9000) (w:World) (hu:aS a w w.heap.size u t) (hv:aS b w w.heap.size v s) (z:Bool) (hz:gU t s=z) :
  Calls Tryz.prog 30 #[u,v,.func (.func 31) #[] #[]] w fun e w'=>e=.returned (.bool z)∧Below w.heap.size w w':=by
 obtain⟨A,c,rfl,hA⟩:=hu
 obtain⟨B,d,rfl,hB⟩:=hv
 have HZ:=Lib.hid hz
 have HA:=Lib.hid hA
 have HB:=Lib.hid hB
 clear hz hA hB
 by_cases hL:t.length=s.length
 ·have HL:=Lib.hid hL
  rw[← hL]
  clear hL
  go_enter Tryz.func30,Tryz.ntmps30
  go_wp2
  go_loopw [17] (fun i wr=>∃ k:Nat,k≤t.length∧i=.int .i64 k∧Below w.heap.size w wr∧∀ (j:Nat) (x y:Nd),j<k→t[j]?=some x→s[j]?=some y→kI x y=true) (fun i _=>t.length - (intOf i).toNat)
  case atStart=>exact⟨0,by omega,rfl,Below.refl _ _,fun j x y h=>by omega⟩
  case round =>
   obtain⟨k,hk,rfl,hbw,hj⟩:=hrel
   have HJ:=Lib.hid hj
   clear hj
   by_cases hlt:k<t.length
   ·obtain⟨g,rfl,gl,hg⟩:=HA.out (by omega)
    obtain⟨h,rfl,hl,hh⟩:=HB.out (by have:=HL.out;omega)
    obtain⟨⟨xk,xt,xp,xs⟩,hx⟩:=dM hlt
    obtain⟨⟨yk,yt,yp,ys⟩,hy⟩:=dM (l:=s) (i:=k) (by have:=HL.out;omega)
    have HX:=Lib.hid hx
    have HY:=Lib.hid hy
    obtain⟨g1,g2,g3,g4⟩:=cE hg k _ hx
    obtain⟨h1,h2,h3,h4⟩:=cE hh k _ hy
    simp only[]at g1 g2 g3 g4 h1 h2 h3 h4
    rw[← hbw.cell (p:=⟨g,_,none⟩) gl]at g1 g2 g3 g4
    rw[← hbw.cell (p:=⟨h,_,none⟩) hl]at h1 h2 h3 h4
    have hsz:=hbw.size
    have gl':g<wr.heap.size:=by omega
    have hl':h<wr.heap.size:=by omega
    have HBW:=Lib.hid hbw
    obtain⟨r,hr⟩:∃ r,kI ⟨xk,xt,xp,xs⟩ ⟨yk,yt,yp,ys⟩=r:=⟨_,rfl⟩
    have HR:=Lib.hid hr
    have j0:(0:Int)≤(k:Int):=by omega
    have j1:(k:Int)<(t.length:Int):=by omega
    have i0:a+k * 4=a+k * 4:=rfl
    clear hg hh hx hy HA HB hbw hr i0
    cases r
    ·go_wp2_with (first
      |(go_at_call 31;refine(K4 xk yk xt yt xp yp xs ys false HR.out _).mono ?_;rintro e w5 ⟨rfl,hb5⟩;replace hb5:=Lib.hid hb5))
     go_ret
     refine⟨Ba.aC ((sD t s k _ _ HX.out HY.out HR.out).symm.trans HZ.out),?_⟩
     exact(HBW.out.trans ((((Below.refl w.heap.size wr).alloc hsz _).alloc (by simp;omega) _))).trans (hb5.out.mono (by simp;omega))
    ·go_wp2_with (first
      |(go_at_call 31;refine(K4 xk yk xt yt xp yp xs ys true HR.out _).mono ?_;rintro e w5 ⟨rfl,hb5⟩;replace hb5:=Lib.hid hb5))
     go_roundw
     case rel =>
      refine⟨k+1,by omega,by go_num,(HBW.out.trans ((((Below.refl w.heap.size wr).alloc hsz _).alloc (by simp;omega) _))).trans (hb5.out.mono (by simp;omega)),fun j x y h3 h5 h6=>?_⟩
      rcases Nat.lt_or_ge j k with h7 | h7
      ·exact HJ.out j x y h7 h5 h6
      ·obtain rfl:j=k:=by omega
       obtain rfl:=Option.some.inj (HX.out.symm.trans h5)
       obtain rfl:=Option.some.inj (HY.out.symm.trans h6)
       exact HR.out
     case measure=>simp[intOf];omega
   ·obtain rfl:k=t.length:=by omega
    have HR:=Lib.hid (xU t s HL.out (fun j x y h1 h2=>HJ.out j x y (List.getElem?_eq_some_iff.1 h1).1 h1 h2))
    have HBW:=Lib.hid hbw
    clear hbw
    go_wp2
    go_ret
    exact⟨Ba.aC (HR.out.symm.trans HZ.out),HBW.out⟩
 ·have t1:((t.length:Int)==(s.length:Int))=false:=beq_eq_false_iff_ne.2 (by omega)
  have t2:((t.length:Int) != (s.length:Int))=true:=bne_iff_ne.2 (by omega)
  have HR:=Lib.hid (EK hL)
  clear hL
  go_enter Tryz.func30,Tryz.ntmps30
  go_wp2
  go_ret
  exact⟨Ba.aC (HR.out.symm.trans HZ.out),Below.refl _ _⟩
set_option maxHeartbeats 2000000 in
theorem YB (a b:Nat) (u v:Value) (t s:List Nd) (ht:t.length≤9000) (hs:s.length≤9000) (w:World) (hu:aS a w w.heap.size u t) (hv:aS b w w.heap.size v s) :
  Calls Tryz.prog 13 #[u,v] w fun e w'=>e=.returned (.bool (gU t s))∧Below w.heap.size w w':=by
 obtain⟨z,hz⟩:∃ z,gU t s=z:=⟨_,rfl⟩
 have HC:=Lib.hid (YA a b u v t s ht hs w hu hv z hz)
 rw[hz]
 clear hu hv hz
 go_enter Tryz.func13,Tryz.ntmps13
 go_wp2_with (first
  |(go_at_call 30;refine HC.out.mono ?_;rintro e w5 ⟨rfl,hb5⟩;replace hb5:=Lib.hid hb5))
 go_ret
 exact⟨rfl,hb5.out⟩
end Go.Proofs.YtgpihfacmpbpaaaGreatDoor.Tr
