/-
  The document's Same of two rows of nodes, wherever they lie.
-/
import Derived.Test.YtgpihfacmpbpaaaGreatDoorVc
import Derived.Test.YtgpihfacmpbpaaaGreatDoorTrA
namespace Go.Proofs.YtgpihfacmpbpaaaGreatDoor.Tr
open Go.RowKit
abbrev aS (off:Nat) (w:World) (B:Nat) (v:Value) (t:List Nd):Prop:=Ba.Reads cN 4 off w B v t
theorem cE {off g:Nat} {w:World} {t:List Nd} (h:∀ k x,t[k]?=some x→∀ j u,(cN x)[j]?=some u→w.cell? ⟨g,off+(k * 4+j),none⟩=some u) (k:Nat) (x:Nd) (hx:t[k]?=some x) :
  w.cell? ⟨g,off+k * 4,none⟩=some (.int .u8 (x.kind:Int))∧w.cell? ⟨g,off+k * 4+1,none⟩=some (.string x.text)∧w.cell? ⟨g,off+k * 4+2,none⟩=some (.int .i64 x.place) ∧
   w.cell? ⟨g,off+k * 4+3,none⟩=some (.int .i64 x.size):=by
 have e:=h k x hx
 simp only[← Nat.add_assoc]at e
 exact⟨e 0 _ rfl,e 1 _ rfl,e 2 _ rfl,e 3 _ rfl⟩
theorem _root_.Go.Proofs.YtgpihfacmpbpaaaGreatDoor.Ba.Reads.drewN {α:Type} {f:α→List Value} {n off:Nat} {w:World} {B:Nat} {v:Value} {l:List α} (h:Ba.Reads f n off w B v l) (m:Nat):Ba.Reads f n off (w.drewN m) B v l:=h
theorem xU:∀ (t s:List Nd),t.length=s.length→(∀ (j:Nat) (x y:Nd),t[j]?=some x→s[j]?=some y→kI x y=true)→gU t s=true
 | [],[],_,_=>rfl
 | [],_::_,h,_=>by simp at h
 | _::_,[],h,_=>by simp at h
 | x::t,y::s,h,hj=>by
  have ih:=xU t s (by simpa using h) (fun j a b ha hb=>hj (j+1) a b (by simpa using ha) (by simpa using hb))
  have h0:=hj 0 x y rfl rfl
  unfold gU at ih ⊢
  rw[Bool.and_eq_true]at ih ⊢
  refine⟨decide_eq_true h,?_⟩
  rw[List.zip_cons_cons,List.all_cons,h0,ih.2];rfl
theorem sD:∀ (t s:List Nd) (j:Nat) (x y:Nd),t[j]?=some x→s[j]?=some y→kI x y=false→gU t s=false
 | [],_,j,x,y,h,_,_=>by simp at h
 | _::_,[],j,x,y,_,h,_=>by simp at h
 | a::t,b::s,0,x,y,h1,h2,hj=>by
  simp at h1 h2;subst h1 h2
  unfold gU
  rw[List.zip_cons_cons,List.all_cons,hj,Bool.false_and,Bool.and_false]
 | a::t,b::s,j+1,x,y,h1,h2,hj=>by
  have ih:=sD t s j x y (by simpa using h1) (by simpa using h2) hj
  unfold gU at ih ⊢
  rw[List.zip_cons_cons,List.all_cons]
  rw[Bool.and_eq_false_iff]at ih ⊢
  rcases ih with ih | ih
  ·exact .inl (by rw[decide_eq_false_iff_not]at ih ⊢;intro h;exact ih (by simpa using h))
  ·exact .inr (by rw[ih,Bool.and_false])
theorem EK {t s:List Nd} (h:t.length≠s.length):gU t s=false:=by
 unfold gU
 rw[decide_eq_false h,Bool.false_and]
theorem XE {a b:ByteArray} (h:a≠b):(a.toList==b.toList)=false:=by
 rw[beq_eq_false_iff_ne]
 intro e
 refine h (ByteArray.ext ?_)
 rw[ByteArray.toList_eq,ByteArray.toList_eq]at e
 exact Array.ext' e
set_option maxHeartbeats 4000000 in
theorem KE (a b:Nat) (u v:Value) (t s:List Nd) (ht:t.length≤70000) (_hs:s.length≤70000) (w:World) (B1 B2:Nat) (hu:aS a w B1 u t) (hv:aS b w B2 v s) (z:Bool) (hz:gU t s=z) :
  Calls Tryz.prog 26 #[u,v] w fun e w'=>e=.returned (.bool z)∧∃ n,w'=w.drewN n:=by
 obtain⟨A,c,rfl,hA⟩:=hu
 obtain⟨B,d,rfl,hB⟩:=hv
 have HZ:=Lib.hid hz
 have HA:=Lib.hid hA
 have HB:=Lib.hid hB
 clear hz hA hB
 by_cases hL:t.length=s.length
 ·have HL:=Lib.hid hL
  rw[← hL]
  clear hL
  go_enter Tryz.func26,Tryz.ntmps26
  go_wp2
  go_loopw [5] (fun i wr=>∃ (k n:Nat),k≤t.length∧i=.int .i64 k∧wr=w.drewN n∧∀ (j:Nat) (x y:Nd),j<k→t[j]?=some x→s[j]?=some y→kI x y=true) (fun i _=>t.length - (intOf i).toNat)
  case atStart=>exact⟨0,0,by omega,rfl,rfl,fun j x y h=>by omega⟩
  case round =>
   obtain⟨k,n,hk,rfl,rfl,hj⟩:=hrel
   have HJ:=Lib.hid hj
   clear hj
   by_cases hlt:k<t.length
   ·obtain⟨g,rfl,-,hg⟩:=HA.out (by omega)
    obtain⟨h,rfl,-,hh⟩:=HB.out (by have:=HL.out;omega)
    have hx:t[k]?=some (t[k]'hlt):=List.getElem?_eq_getElem hlt
    have hy:s[k]?=some (s[k]'(by have:=HL.out;omega)):=List.getElem?_eq_getElem _
    obtain⟨⟨xk,xt,xp,xs⟩,hx⟩:∃ x,t[k]?=some x:=⟨_,hx⟩
    obtain⟨⟨yk,yt,yp,ys⟩,hy⟩:∃ y,s[k]?=some y:=⟨_,hy⟩
    have HX:=Lib.hid hx
    have HY:=Lib.hid hy
    obtain⟨g1,g2,-,g4⟩:=cE hg k _ hx
    obtain⟨h1,h2,-,h4⟩:=cE hh k _ hy
    clear hg hh hx hy HA HB
    simp only[]at g1 g2 g4 h1 h2 h4
    by_cases e1:xk=yk
    ·subst e1
     by_cases e2:xt=yt
     ·subst e2
      by_cases e3:xs=ys
      ·subst e3
       have HN:=Lib.hid (show kI ⟨xk,xt,xp,xs⟩ ⟨xk,xt,yp,xs⟩=true from decide_eq_true ⟨rfl,rfl,rfl⟩)
       go_wp2
       go_big_quiet (fail)
       go_wp2
       go_roundw
       case rel =>
        refine⟨k+1,n+nq,by omega,by go_num,rfl,fun j x y h3 h5 h6=>?_⟩
        rcases Nat.lt_or_ge j k with h7 | h7
        ·exact HJ.out j x y h7 h5 h6
        ·obtain rfl:j=k:=by omega
         obtain rfl:=Option.some.inj (HX.out.symm.trans h5)
         obtain rfl:=Option.some.inj (HY.out.symm.trans h6)
         exact HN.out
       case measure=>simp[intOf];omega
      ·have t3:(xs==ys)=false:=beq_eq_false_iff_ne.2 e3
       have HN:=Lib.hid (sD t s k _ _ HX.out HY.out (show kI ⟨xk,xt,xp,xs⟩ ⟨xk,xt,yp,ys⟩=false from decide_eq_false fun h=>e3 h.2.2))
       clear e3
       go_wp2
       go_big_quiet (fail)
       go_wp2
       go_ret
       exact⟨Ba.aC (HN.out.symm.trans HZ.out),n+nq,World.drewN_drewN _ _ _⟩
     ·have t2:=XE e2
      have HN:=Lib.hid (sD t s k _ _ HX.out HY.out (show kI ⟨xk,xt,xp,xs⟩ ⟨xk,yt,yp,ys⟩=false from decide_eq_false fun h=>e2 h.2.1))
      clear e2
      go_wp2
      go_big_quiet (fail)
      go_wp2
      go_ret
      exact⟨Ba.aC (HN.out.symm.trans HZ.out),n+nq,World.drewN_drewN _ _ _⟩
    ·have t1:((xk:Int)==(yk:Int))=false:=beq_eq_false_iff_ne.2 (by omega)
     have t2:((xk:Int) != (yk:Int))=true:=bne_iff_ne.2 (by omega)
     have HN:=Lib.hid (sD t s k _ _ HX.out HY.out (show kI ⟨xk,xt,xp,xs⟩ ⟨yk,yt,yp,ys⟩=false from decide_eq_false fun h=>e1 h.1))
     clear e1
     go_wp2
     go_big_quiet (fail)
     go_wp2
     go_ret
     exact⟨Ba.aC (HN.out.symm.trans HZ.out),n+nq,World.drewN_drewN _ _ _⟩
   ·obtain rfl:k=t.length:=by omega
    have HR:=Lib.hid (xU t s HL.out (fun j x y h1 h2=>HJ.out j x y (List.getElem?_eq_some_iff.1 h1).1 h1 h2))
    go_wp2
    go_ret
    exact⟨Ba.aC (HR.out.symm.trans HZ.out),n,rfl⟩
 ·have t1:((t.length:Int)==(s.length:Int))=false:=beq_eq_false_iff_ne.2 (by omega)
  have HN:=Lib.hid (EK hL)
  clear hL
  go_enter Tryz.func26,Tryz.ntmps26
  go_wp2
  go_ret
  exact⟨Ba.aC (HN.out.symm.trans HZ.out),0,rfl⟩
set_option maxHeartbeats 4000000 in
theorem UN (a b:Nat) (u v:Value) (t:List Nd) (ht:t.length≤70000) (w:World) (B1 B2:Nat) (hu:aS a w B1 u t) (hv:aS b w B2 v t) :
  Calls Tryz.prog 11 #[u,v] w fun e w'=>e=.returned (.bool true)∧∃ n,w'=w.drewN n:=by
 have HU:=Lib.hid hu
 have HV:=Lib.hid hv
 obtain⟨A,c,rfl,hA⟩:=hu
 obtain⟨B,d,rfl,hB⟩:=hv
 have HA:=Lib.hid hA
 have HB:=Lib.hid hB
 clear hA hB
 go_enter Tryz.func11,Tryz.ntmps11
 go_wp2
 go_loopw [5] (fun i wr=>∃ (k n:Nat),k≤t.length∧i=.int .i64 k∧wr=w.drewN n) (fun i _=>t.length - (intOf i).toNat)
 case atStart=>exact⟨0,0,by omega,rfl,rfl⟩
 case round =>
  obtain⟨k,n,hk,rfl,rfl⟩:=hrel
  by_cases hlt:k<t.length
  ·obtain⟨g,rfl,-,hg⟩:=HA.out (by omega)
   obtain⟨h,rfl,-,hh⟩:=HB.out (by omega)
   obtain⟨⟨xk,xt,xp,xs⟩,hx⟩:∃ x,t[k]?=some x:=⟨_,List.getElem?_eq_getElem hlt⟩
   obtain⟨-,-,g3,-⟩:=cE hg k _ hx
   obtain⟨-,-,h3,-⟩:=cE hh k _ hx
   clear hg hh hx HA HB HU HV
   simp only[]at g3 h3
   go_wp2
   go_big_quiet (fail)
   go_wp2
   go_roundw
   case rel=>exact⟨k+1,n+nq,by omega,by go_num,rfl⟩
   case measure=>simp[intOf];omega
  ·obtain rfl:k=t.length:=by omega
   go_wp2_with fail
   refine(KE a b _ _ t t ht ht (w.drewN n) B1 B2 (HU.out.drewN n) (HV.out.drewN n) true (CF t)).mono ?_
   rintro e w' ⟨rfl,m,rfl⟩
   go_wp2
   go_ret
   exact⟨rfl,n+m,rfl⟩
end Go.Proofs.YtgpihfacmpbpaaaGreatDoor.Tr
