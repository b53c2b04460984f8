/-
  The document's Step of layer 4.
-/
import Derived.Test.YtgpihfacmpbpaaaGreatDoorVi
import Derived.Test.YtgpihfacmpbpaaaGreatDoorVa
namespace Go.Proofs.YtgpihfacmpbpaaaGreatDoor.Tr
open Go.RowKit
theorem YF {s:ByteArray} {i:Nat} (h:lA s=some i):i<s.size∧Lx.iD (Lx.bT s i)=false∧∀ j,j<i→Lx.iD (Lx.bT s j)=true:=by
 unfold lA at h
 rw[List.find?_range_eq_some]at h
 obtain⟨h1,h2,h3⟩:=h
 exact⟨List.mem_range.1 h2,by simpa using h1,fun j hj=>by simpa using h3 j hj⟩
theorem YG {s:ByteArray} (h:lA s=none):∀ i,i<s.size→Lx.iD (Lx.bT s i)=true:=fun i hi=>by
 unfold lA at h
 have:=List.find?_eq_none.1 h i (List.mem_range.2 hi)
 simpa using this
theorem TS {t:List Nd} {p:List Op} {x:Lx.Lx} (h1:x.kind=1):aD t p x=if aJ p=false then (match lA x.text with | some i=>(x.place+i,2) | none=>(0,0)) else if 2000≤t.length∨(0<aN p bU∧60<(p.getD (aN p bU) root).text.size+x.text.size) then (x.place,4) else (0,0):=by
 unfold aD;rw[if_pos h1];rfl
theorem TT {t:List Nd} {p:List Op} {x:Lx.Lx} (h2:x.kind=2):aD t p x=if eH p x.name=false then (x.place,2) else if 32<p.length∨(x.name=108∧8≤bG p 108) then (x.place,5) else if 2000≤t.length then (x.place,4) else (0,0):=by
 unfold aD;rw[if_neg (by omega),if_pos h2]
theorem CY {t:List Nd} {p:List Op} {x:Lx.Lx} (h1:x.kind≠1) (h2:x.kind≠2):aD t p x=if p.length=1∨(cM (aZ p).kind q7=true∧(aZ p).kids.size=0) then (x.place,2) else if (aZ p).kind=114∧0<(p.getD (p.length - 2) root).first∧(p.getD (p.length - 2) root).first≠(aZ p).kids.size then (x.place,2) else (0,0):=by
 unfold aD;rw[if_neg h1,if_neg h2]
theorem qM (k:Nat) (hk:k<256) (v:Bool) (hv:cM k q7=v) (w:World) :
  Calls Tryz.prog 84 #[.int .u8 (k:Int),.string { data:=#[108,116,114] }] w fun e w'=>e=.returned (.bool v)∧w=w':=zC k hk q7 (by decide) v hv w
theorem lS {w:World} {B g m c:Nat} {p:List Op} (h:dR w B (.slice (some ⟨g,0,none⟩) m c) p) {n:Nat} {o:Op} (ho:p[n]?=some o):w.cell? ⟨g,n * 6+5,none⟩=some (.string o.text):=by
 have h0:0<p.length:=by have:=(List.getElem?_eq_some_iff.1 ho).1;omega
 obtain⟨g',c',hv,_,hc⟩:=h.cells h0
 injection hv with e1 _ _
 injection e1 with e1
 injection e1 with e1 _ _
 subst e1
 exact(hc n o ho).2.2.2.2.2
theorem GW {w:World} {B g m c:Nat} {p:List Op} (h:dR w B (.slice (some ⟨g,0,none⟩) m c) p) {n:Nat} {o:Op} (ho:p[n]?=some o):w.cell? ⟨g,n * 6+4,none⟩=some (.int .i64 (o.first:Int)):=by
 have h0:0<p.length:=by have:=(List.getElem?_eq_some_iff.1 ho).1;omega
 obtain⟨g',c',hv,_,hc⟩:=h.cells h0
 injection hv with e1 _ _
 injection e1 with e1
 injection e1 with e1 _ _
 subst e1
 exact(hc n o ho).2.2.2.2.1
theorem _root_.Go.Proofs.YtgpihfacmpbpaaaGreatDoor.Lx.P8 (X:ByteArray) (h:0<X.size):X.toList.isEmpty=false∧(!X.toList.isEmpty)=true:=by
 have:X.toList.isEmpty=false:=by
  cases hX:X.toList with
  | nil =>
   rw[ByteArray.toList_eq]at hX
   have:=congrArg List.length hX
   rw[Array.length_toList]at this
   have h2:X.size=X.data.size:=rfl
   rw[h2]at h;simp at this;rw[this]at h;simp at h
  | cons a l=>rfl
 exact⟨this,by rw[this];rfl⟩
structure StB (w:World) (b g m c:Nat) (x:Lx.Lx) (o:Op) (p:List Op):Prop where
 x0:w.cell? ⟨b,0,none⟩=some (.int .i64 (x.kind:Int))
 x1:w.cell? ⟨b,1,none⟩=some (.int .u8 (x.name:Int))
 x2:w.cell? ⟨b,2,none⟩=some (.string x.text)
 x3:w.cell? ⟨b,3,none⟩=some (.int .i64 (x.place:Int))
 o0:w.cell? ⟨b+1,0,none⟩=some (.int .u8 (o.kind:Int))
 o1:w.cell? ⟨b+1,1,none⟩=some (.string o.kids)
 rd:dR w w.heap.size (.slice (some ⟨g,0,none⟩) (m+1) c) p
 lb:b+1<w.heap.size
theorem StB.below {w w':World} {b g m c:Nat} {x:Lx.Lx} {o:Op} {p:List Op} (h:StB w b g m c x o p) (hb:Below w.heap.size w w'):StB w' b g m c x o p:=by
 have l:=h.lb
 have e:∀ q i,q<w.heap.size→w'.cell? ⟨q,i,none⟩=w.cell? ⟨q,i,none⟩:=fun q i hq=>hb.cell (p:=⟨q,i,none⟩) hq
 exact⟨(e _ _ (by omega)).trans h.x0,(e _ _ (by omega)).trans h.x1,(e _ _ (by omega)).trans h.x2,(e _ _ (by omega)).trans h.x3,(e _ _ (by omega)).trans h.o0,(e _ _ (by omega)).trans h.o1,(h.rd.below hb).mono hb.size,by have:=hb.size;omega⟩
set_option maxRecDepth 100000 in
set_option maxHeartbeats 16000000 in
theorem nV (V:Value) (AT:Option Addr) (cT:Nat) (t:List Nd) (p:List Op) (xk xn xp:Nat) (xt:ByteArray) (px:yI ⟨xk,xn,xt,xp⟩) (k:Nat) (hk9:k≤9000) (hg:zM k (t,p)) (w:World) (hv:dR w w.heap.size V p) (a e:Nat) (hae:aD t p ⟨xk,xn,xt,xp⟩=(a,e)) :
  Calls Tryz.prog 54 #[.slice AT t.length cT,V,.agg #[.int .i64 (xk:Int),.int .u8 (xn:Int),.string xt,.int .i64 (xp:Int)]] w fun en w'=>en=.returned (.tuple #[.int .i64 (a:Int),.int .i64 (e:Int)])∧Below w.heap.size w w':=by
 obtain⟨q1,q2,q3,q4,q5⟩:=hg
 simp only[]at q1 q2 q3 q4 q5
 obtain⟨px1,px2,px3,px4⟩:=px
 simp only[]at px1 px2 px3 px4
 obtain⟨m,hm⟩:∃ m,p.length=m+1:=⟨p.length - 1,by omega⟩
 obtain⟨o,ho⟩:=e9 (l:=p) (i:=m) (by omega)
 obtain⟨n,hn⟩:∃ n,t.length=n:=⟨_,rfl⟩
 obtain⟨g,c,rfl,hgw,hcp⟩:=hv.cells q1
 obtain⟨c0,c1,c2,c3,c4,c5⟩:=hcp m o ho
 have hT:=vY hm ho
 have hko:=q4 o (List.mem_of_getElem? ho)
 have hb1:=((Below.refl w.heap.size w).alloc (Nat.le_refl _) (.cells #[.int .i64 (xk:Int),.int .u8 (xn:Int),.string xt,.int .i64 (xp:Int)] 71))
 have hb2:=hb1.alloc (by simp) (.cells #[.int .u8 (o.kind:Int),.string o.kids,.int .i64 (o.spot:Int),.int .i64 (o.notes:Int),.int .i64 (o.first:Int),.string o.text] 135)
 rw[hm]at hv ⊢
 have HST:=Lib.hid (show StB ((w.alloc (.cells #[.int .i64 (xk:Int),.int .u8 (xn:Int),.string xt,.int .i64 (xp:Int)] 71)).alloc (.cells #[.int .u8 (o.kind:Int),.string o.kids,.int .i64 (o.spot:Int),.int .i64 (o.notes:Int),.int .i64 (o.first:Int),.string o.text] 135)) w.heap.size g m c ⟨xk,xn,xt,xp⟩ o p from
  ⟨by simp,by simp,by simp,by simp,by simp,by simp,(hv.below hb2).mono hb2.size,by simp⟩)
 have HB2:=Lib.hid hb2
 have HM:=Lib.hid hm
 have HO:=Lib.hid ho
 have HN:=Lib.hid hn
 have HT:=Lib.hid hT
 have HAE:=Lib.hid hae
 have HK:=Lib.hid (o8 hk9 q4)
 have HP0:=Lib.hid q1
 have HPL:=Lib.hid (show p.length≤70000 by omega)
 have HQ4:=Lib.hid q4
 have hm9:m≤9000:=by omega
 have hn9:n≤9000:=by omega
 have hok:o.kind<256:=hko.1
 have hks:o.kids.size≤9000:=by have:=hko.2.1;omega
 have j2:(0:Int)≤(m:Int):=by omega
 have j3:(m:Int)<(m:Int)+1:=by omega
 rw[hn]
 clear hb1 hb2 hm ho hn hT hae q1 q2 q3 q4 q5 hko hv hcp
 go_enter Tryz.func54,Tryz.ntmps54
 go_upto_region 2 with fail
 have hst:=HST.out
 have hbw:=HB2.out
 clear HST HB2 c0 c1 c2 c3 c4 c5
 generalize (w.alloc (.cells #[.int .i64 (xk:Int),.int .u8 (xn:Int),.string xt,.int .i64 (xp:Int)] 71)).alloc (.cells #[.int .u8 (o.kind:Int),.string o.kids,.int .i64 (o.spot:Int),.int .i64 (o.notes:Int),.int .i64 (o.first:Int),.string o.text] 135)=w2 at *
 obtain⟨b,hb⟩:∃ b,w.heap.size=b:=⟨_,rfl⟩
 have HBW:=Lib.hid hbw
 have hsz2:b≤w2.heap.size:=hb▸hbw.size
 rw[hb]at hst hgw ⊢
 obtain⟨x0,x1,x2,x3,o0,o1,rd,lb⟩:=id hst
 simp only[]at x0 x1 x2 x3
 have HST:=Lib.hid hst
 clear hst hbw rd hb
 by_cases e1:xk=1
 ·have t1:((xk:Int)==1)=true:=nE e1
  have HE:=Lib.hid ((TS (t:=t) (p:=p) (x:=⟨xk,xn,xt,xp⟩) e1).symm.trans HAE.out)
  clear e1
  obtain⟨bt,hbt⟩:∃ bt,aJ p=bt:=⟨_,rfl⟩
  have HTX:=Lib.hid hbt
  clear hbt
  cases bt
  ·have HE2:=Lib.hid (show (match lA xt with | some i=>(xp+i,2) | none=>(0,0))=(a,e) by have:=HE.out;rw[if_pos HTX.out]at this;exact this)
   cases hd:lA xt with
   | some i =>
    obtain⟨d1,d2,d3⟩:=YF hd
    obtain⟨rfl,rfl⟩:xp+i=a∧2=e:=by have:=HE2.out;rw[hd]at this;cases this;exact⟨rfl,rfl⟩
    have D2:=Lib.hid d2
    have D3:=Lib.hid d3
    clear hd HE HE2 d2 d3
    go_wp2_with (go_at_call 53;refine(aO _ p HP0.out HPL.out HK.out _ _ HST.out.rd false HTX.out).mono ?_;rintro en w3 ⟨rfl,hb3⟩;have hs3:=HST.out.below hb3;obtain⟨v0,v1,v2,v3,-,-,-,-⟩:=hs3;simp only[]at v0 v1 v2 v3;replace hb3:=Lib.hid hb3)
    go_loop [9] (fun u=>∃ j:Nat,j≤i∧u=.int .i64 j) (fun u=>xt.size - (intOf u).toNat)
    case atStart=>exact⟨0,by omega,rfl⟩
    case round =>
     obtain⟨j,hj,rfl⟩:=hrel
     have E1:=Lx.cJ xt j (by omega)
     have hb256:=Lx.eF xt j
     have j1:j<xt.size:=by omega
     by_cases hji:j=i
     ·have HW:=Lib.hid (show Ka.cF ((Lx.bT xt j:Nat):Int)=false by have:=D2.out;rw[← hji]at this;exact this)
      have HJ:=Lib.hid hji
      clear hji
      generalize Lx.bT xt j=bb at *
      go_wp2_with (go_at_call 50;refine(Ka.eP bb false hb256 HW.out _).mono ?_;rintro en w' ⟨rfl,rfl⟩)
      go_ret2
      exact⟨by rw[← HJ.out];rfl,Ba.chain HBW.out HBW.out.size hb3.out⟩
     ·have HW:=Lib.hid (show Ka.cF ((Lx.bT xt j:Nat):Int)=true from D3.out j (by omega))
      generalize Lx.bT xt j=bb at *
      go_wp2_with (go_at_call 50;refine(Ka.eP bb true hb256 HW.out _).mono ?_;rintro en w' ⟨rfl,rfl⟩)
      go_round
      case rel=>exact⟨j+1,by omega,by go_num⟩
      case measure=>simp[intOf];omega
   | none =>
    have D3:=Lib.hid (YG hd)
    obtain⟨rfl,rfl⟩:0=a∧0=e:=by have:=HE2.out;rw[hd]at this;cases this;exact⟨rfl,rfl⟩
    clear hd HE HE2
    go_wp2_with (go_at_call 53;refine(aO _ p HP0.out HPL.out HK.out _ _ HST.out.rd false HTX.out).mono ?_;rintro en w3 ⟨rfl,hb3⟩;have hs3:=HST.out.below hb3;obtain⟨v0,v1,v2,v3,-,-,-,-⟩:=hs3;simp only[]at v0 v1 v2 v3;replace hb3:=Lib.hid hb3)
    go_loop [9] (fun u=>∃ j:Nat,j≤xt.size∧u=.int .i64 j) (fun u=>xt.size - (intOf u).toNat)
    case atStart=>exact⟨0,by omega,rfl⟩
    case round =>
     obtain⟨j,hj,rfl⟩:=hrel
     by_cases j1:j<xt.size
     ·have E1:=Lx.cJ xt j j1
      have hb256:=Lx.eF xt j
      have HW:=Lib.hid (show Ka.cF ((Lx.bT xt j:Nat):Int)=true from D3.out j (by omega))
      generalize Lx.bT xt j=bb at *
      go_wp2_with (go_at_call 50;refine(Ka.eP bb true hb256 HW.out _).mono ?_;rintro en w' ⟨rfl,rfl⟩)
      go_round
      case rel=>exact⟨j+1,by omega,by go_num⟩
      case measure=>simp[intOf];omega
     ·obtain rfl:j=xt.size:=by omega
      go_wp2
      go_ret2
      exact⟨rfl,Ba.chain HBW.out HBW.out.size hb3.out⟩
  ·obtain⟨z,hz⟩:∃ z,aN p bU=z:=⟨_,rfl⟩
   have hzl:z<m+1:=by rw[← hz,← HM.out];exact oF bU HP0.out
   obtain⟨oz,hoz⟩:=e9 (l:=p) (i:=z) (by have:=HM.out;omega)
   have hts:oz.text.size≤81000000:=by have:=(HQ4.out oz (List.mem_of_getElem? hoz)).2.2.2.2.1;omega
   have HE2:=Lib.hid (show (if 2000≤n∨(0<z∧60<oz.text.size+xt.size) then (xp,4) else (0,0))=(a,e) by have:=HE.out;rw[if_neg (by rw[HTX.out];exact fun h=>Bool.noConfusion h),HN.out,hz,GS hoz]at this;exact this)
   have HZL:=Lib.hid hz
   have HOZ:=Lib.hid hoz
   clear HE hz hoz
   -- leaves
   by_cases h2:2000≤n
   ·obtain⟨rfl,rfl⟩:xp=a∧4=e:=by have:=HE2.out;rw[if_pos (.inl h2)]at this;cases this;exact⟨rfl,rfl⟩
    clear HE2
    by_cases hz0:z=0
    ·skip
     have g1:decide ((2000:Int)≤(n:Int))=true:=decide_eq_true (by omega)
     have HZ0:=Lib.hid (lP (HZL.out.trans hz0))
     clear hz0
     go_wp2_with (first | (go_at_call 53;refine(aO _ p HP0.out HPL.out HK.out _ _ HST.out.rd true HTX.out).mono ?_;rintro en w3 ⟨rfl,hb3⟩;have hs3:=HST.out.below hb3;obtain⟨v0,v1,v2,v3,-,-,rd3,-⟩:=hs3;have y5:=lS rd3 HOZ.out;simp only[]at v0 v1 v2 v3;replace hb3:=Lib.hid hb3;replace rd3:=Lib.hid rd3) | (go_at_call 83;refine(kY _ p HP0.out HPL.out HK.out _ _ rd3.out (-1) HZ0.out).mono ?_;rintro en w6 ⟨rfl,rfl⟩))
     go_big_quiet (fail)
     go_wp2
     go_ret2
     exact⟨rfl,Lx.below_drewN (Ba.chain HBW.out HBW.out.size hb3.out) _⟩
    ·skip
     have g1:decide ((2000:Int)≤(n:Int))=true:=decide_eq_true (by omega)
     have HZ0:=Lib.hid (eQ HZL.out (by omega))
     have zj0:(0:Int)≤(z:Int):=by omega
     have zj1:(z:Int)<(m:Int)+1:=by omega
     have zj2:decide ((0:Int)<(z:Int))=true:=decide_eq_true (by omega)
     have zj3:0<z:=by omega
     have hwr:IntKind.i64.wrap ((oz.text.size:Int)+(xt.size:Int))=(oz.text.size:Int)+(xt.size:Int):=IntWalk.i64_in _ ⟨by omega,by omega⟩
     clear hz0
     go_wp2_with (first | (go_at_call 53;refine(aO _ p HP0.out HPL.out HK.out _ _ HST.out.rd true HTX.out).mono ?_;rintro en w3 ⟨rfl,hb3⟩;have hs3:=HST.out.below hb3;obtain⟨v0,v1,v2,v3,-,-,rd3,-⟩:=hs3;have y5:=lS rd3 HOZ.out;simp only[]at v0 v1 v2 v3;replace hb3:=Lib.hid hb3;replace rd3:=Lib.hid rd3) | (go_at_call 83;refine(kY _ p HP0.out HPL.out HK.out _ _ rd3.out (z:Int) HZ0.out).mono ?_;rintro en w6 ⟨rfl,rfl⟩))
     go_big_quiet (fail)
     go_wp2
     go_ret2
     exact⟨rfl,Lx.below_drewN (Ba.chain HBW.out HBW.out.size hb3.out) _⟩
   ·by_cases hz0:z=0
    ·obtain⟨rfl,rfl⟩:0=a∧0=e:=by have:=HE2.out;rw[if_neg (by omega)]at this;cases this;exact⟨rfl,rfl⟩
     clear HE2
     have g1:decide ((2000:Int)≤(n:Int))=false:=decide_eq_false (by omega)
     have HZ0:=Lib.hid (lP (HZL.out.trans hz0))
     clear hz0
     go_wp2_with (first | (go_at_call 53;refine(aO _ p HP0.out HPL.out HK.out _ _ HST.out.rd true HTX.out).mono ?_;rintro en w3 ⟨rfl,hb3⟩;have hs3:=HST.out.below hb3;obtain⟨v0,v1,v2,v3,-,-,rd3,-⟩:=hs3;have y5:=lS rd3 HOZ.out;simp only[]at v0 v1 v2 v3;replace hb3:=Lib.hid hb3;replace rd3:=Lib.hid rd3) | (go_at_call 83;refine(kY _ p HP0.out HPL.out HK.out _ _ rd3.out (-1) HZ0.out).mono ?_;rintro en w6 ⟨rfl,rfl⟩))
     go_big_quiet (fail)
     go_wp2
     go_ret2
     exact⟨rfl,Lx.below_drewN (Ba.chain HBW.out HBW.out.size hb3.out) _⟩
    ·by_cases h6:60<oz.text.size+xt.size
     ·obtain⟨rfl,rfl⟩:xp=a∧4=e:=by have:=HE2.out;rw[if_pos (by omega)]at this;cases this;exact⟨rfl,rfl⟩
      clear HE2
      have g1:decide ((2000:Int)≤(n:Int))=false:=decide_eq_false (by omega)
      have HZ0:=Lib.hid (eQ HZL.out (by omega))
      have zj0:(0:Int)≤(z:Int):=by omega
      have zj1:(z:Int)<(m:Int)+1:=by omega
      have zj2:decide ((0:Int)<(z:Int))=true:=decide_eq_true (by omega)
      have zj3:0<z:=by omega
      have hwr:IntKind.i64.wrap ((oz.text.size:Int)+(xt.size:Int))=(oz.text.size:Int)+(xt.size:Int):=IntWalk.i64_in _ ⟨by omega,by omega⟩
      clear hz0
      have g2:decide ((60:Int)<(oz.text.size:Int)+(xt.size:Int))=true:=decide_eq_true (by omega)
      go_wp2_with (first | (go_at_call 53;refine(aO _ p HP0.out HPL.out HK.out _ _ HST.out.rd true HTX.out).mono ?_;rintro en w3 ⟨rfl,hb3⟩;have hs3:=HST.out.below hb3;obtain⟨v0,v1,v2,v3,-,-,rd3,-⟩:=hs3;have y5:=lS rd3 HOZ.out;simp only[]at v0 v1 v2 v3;replace hb3:=Lib.hid hb3;replace rd3:=Lib.hid rd3) | (go_at_call 83;refine(kY _ p HP0.out HPL.out HK.out _ _ rd3.out (z:Int) HZ0.out).mono ?_;rintro en w6 ⟨rfl,rfl⟩))
      go_big_quiet (fail)
      go_wp2
      go_ret2
      exact⟨rfl,Lx.below_drewN (Ba.chain HBW.out HBW.out.size hb3.out) _⟩
     ·obtain⟨rfl,rfl⟩:0=a∧0=e:=by have:=HE2.out;rw[if_neg (by omega)]at this;cases this;exact⟨rfl,rfl⟩
      clear HE2
      have g1:decide ((2000:Int)≤(n:Int))=false:=decide_eq_false (by omega)
      have HZ0:=Lib.hid (eQ HZL.out (by omega))
      have zj0:(0:Int)≤(z:Int):=by omega
      have zj1:(z:Int)<(m:Int)+1:=by omega
      have zj2:decide ((0:Int)<(z:Int))=true:=decide_eq_true (by omega)
      have zj3:0<z:=by omega
      have hwr:IntKind.i64.wrap ((oz.text.size:Int)+(xt.size:Int))=(oz.text.size:Int)+(xt.size:Int):=IntWalk.i64_in _ ⟨by omega,by omega⟩
      clear hz0
      have g2:decide ((60:Int)<(oz.text.size:Int)+(xt.size:Int))=false:=decide_eq_false (by omega)
      go_wp2_with (first | (go_at_call 53;refine(aO _ p HP0.out HPL.out HK.out _ _ HST.out.rd true HTX.out).mono ?_;rintro en w3 ⟨rfl,hb3⟩;have hs3:=HST.out.below hb3;obtain⟨v0,v1,v2,v3,-,-,rd3,-⟩:=hs3;have y5:=lS rd3 HOZ.out;simp only[]at v0 v1 v2 v3;replace hb3:=Lib.hid hb3;replace rd3:=Lib.hid rd3) | (go_at_call 83;refine(kY _ p HP0.out HPL.out HK.out _ _ rd3.out (z:Int) HZ0.out).mono ?_;rintro en w6 ⟨rfl,rfl⟩))
      go_big_quiet (fail)
      go_wp2
      go_ret2
      exact⟨rfl,Lx.below_drewN (Ba.chain HBW.out HBW.out.size hb3.out) _⟩
 ·have t1:((xk:Int)==1)=false:=kZ e1
  by_cases e2:xk=2
  ·have t2:((xk:Int)==2)=true:=nE e2
   have HE:=Lib.hid ((TT (t:=t) (p:=p) (x:=⟨xk,xn,xt,xp⟩) e2).symm.trans HAE.out)
   clear e1 e2
   obtain⟨bo,hbo⟩:∃ bo,eH p xn=bo:=⟨_,rfl⟩
   have HOP:=Lib.hid hbo
   obtain⟨y,hy⟩:∃ y,bG p 108=y:=⟨_,rfl⟩
   have HE2:=Lib.hid (show (if bo=false then (xp,2) else if 32<m+1∨(xn=108∧8≤y) then (xp,5) else if 2000≤n then (xp,4) else (0,0))=(a,e) by have:=HE.out;simp only[]at this;rw[hbo,HM.out,hy,HN.out]at this;exact this)
   have HY:=Lib.hid hy
   clear hbo hy HE
   cases bo
   ·skip
    obtain⟨rfl,rfl⟩:xp=a∧2=e:=by have:=HE2.out;rw[if_pos rfl]at this;cases this;exact⟨rfl,rfl⟩
    clear HE2
    go_wp2_with (first | (go_at_call 85;refine(mV _ p xn px1 HP0.out HPL.out HK.out _ HST.out.rd false HOP.out).mono ?_;rintro en w3 ⟨rfl,hb3⟩;have hs3:=HST.out.below hb3;obtain⟨v0,v1,v2,v3,-,-,rd3,-⟩:=hs3;simp only[]at v0 v1 v2 v3;replace hb3:=Lib.hid hb3;replace rd3:=Lib.hid rd3))
    go_ret2
    exact⟨rfl,Ba.chain HBW.out HBW.out.size hb3.out⟩
   ·by_cases h3:32<m+1
    ·skip
     obtain⟨rfl,rfl⟩:xp=a∧5=e:=by have:=HE2.out;rw[if_neg (fun h=>Bool.noConfusion h),if_pos (.inl h3)]at this;cases this;exact⟨rfl,rfl⟩
     clear HE2
     have g1:decide ((32:Int)<(m:Int)+1)=true:=decide_eq_true (by omega)
     go_wp2_with (first | (go_at_call 85;refine(mV _ p xn px1 HP0.out HPL.out HK.out _ HST.out.rd true HOP.out).mono ?_;rintro en w3 ⟨rfl,hb3⟩;have hs3:=HST.out.below hb3;obtain⟨v0,v1,v2,v3,-,-,rd3,-⟩:=hs3;simp only[]at v0 v1 v2 v3;replace hb3:=Lib.hid hb3;replace rd3:=Lib.hid rd3))
     go_ret2
     exact⟨rfl,Ba.chain HBW.out HBW.out.size hb3.out⟩
    ·have g1:decide ((32:Int)<(m:Int)+1)=false:=decide_eq_false (by omega)
     by_cases h8:xn=108
     ·have t8:((xn:Int)==108)=true:=nE h8
      by_cases h9:8≤y
      ·skip
       obtain⟨rfl,rfl⟩:xp=a∧5=e:=by have:=HE2.out;rw[if_neg (fun h=>Bool.noConfusion h),if_pos (.inr ⟨h8,h9⟩)]at this;cases this;exact⟨rfl,rfl⟩
       clear HE2
       have g2:decide ((8:Int)≤(y:Int))=true:=decide_eq_true (by omega)
       clear h8
       go_wp2_with (first | (go_at_call 85;refine(mV _ p xn px1 HP0.out HPL.out HK.out _ HST.out.rd true HOP.out).mono ?_;rintro en w3 ⟨rfl,hb3⟩;have hs3:=HST.out.below hb3;obtain⟨v0,v1,v2,v3,-,-,rd3,-⟩:=hs3;simp only[]at v0 v1 v2 v3;replace hb3:=Lib.hid hb3;replace rd3:=Lib.hid rd3) | (go_at_call 86;refine(CE _ p HP0.out HPL.out _ _ rd3.out y HY.out).mono ?_;rintro en w6 ⟨rfl,rfl⟩))
       go_ret2
       exact⟨rfl,Ba.chain HBW.out HBW.out.size hb3.out⟩
      ·have g2:decide ((8:Int)≤(y:Int))=false:=decide_eq_false (by omega)
       by_cases h2:2000≤n
       ·skip
        obtain⟨rfl,rfl⟩:xp=a∧4=e:=by have:=HE2.out;rw[if_neg (fun h=>Bool.noConfusion h),if_neg (by omega),if_pos h2]at this;cases this;exact⟨rfl,rfl⟩
        clear HE2
        have g3:decide ((2000:Int)≤(n:Int))=true:=decide_eq_true (by omega)
        clear h8
        go_wp2_with (first | (go_at_call 85;refine(mV _ p xn px1 HP0.out HPL.out HK.out _ HST.out.rd true HOP.out).mono ?_;rintro en w3 ⟨rfl,hb3⟩;have hs3:=HST.out.below hb3;obtain⟨v0,v1,v2,v3,-,-,rd3,-⟩:=hs3;simp only[]at v0 v1 v2 v3;replace hb3:=Lib.hid hb3;replace rd3:=Lib.hid rd3) | (go_at_call 86;refine(CE _ p HP0.out HPL.out _ _ rd3.out y HY.out).mono ?_;rintro en w6 ⟨rfl,rfl⟩))
        go_ret2
        exact⟨rfl,Ba.chain HBW.out HBW.out.size hb3.out⟩
       ·skip
        obtain⟨rfl,rfl⟩:0=a∧0=e:=by have:=HE2.out;rw[if_neg (fun h=>Bool.noConfusion h),if_neg (by omega),if_neg h2]at this;cases this;exact⟨rfl,rfl⟩
        clear HE2
        have g3:decide ((2000:Int)≤(n:Int))=false:=decide_eq_false (by omega)
        clear h8
        go_wp2_with (first | (go_at_call 85;refine(mV _ p xn px1 HP0.out HPL.out HK.out _ HST.out.rd true HOP.out).mono ?_;rintro en w3 ⟨rfl,hb3⟩;have hs3:=HST.out.below hb3;obtain⟨v0,v1,v2,v3,-,-,rd3,-⟩:=hs3;simp only[]at v0 v1 v2 v3;replace hb3:=Lib.hid hb3;replace rd3:=Lib.hid rd3) | (go_at_call 86;refine(CE _ p HP0.out HPL.out _ _ rd3.out y HY.out).mono ?_;rintro en w6 ⟨rfl,rfl⟩))
        go_ret2
        exact⟨rfl,Ba.chain HBW.out HBW.out.size hb3.out⟩
     ·have t8:((xn:Int)==108)=false:=kZ h8
      by_cases h2:2000≤n
      ·skip
       obtain⟨rfl,rfl⟩:xp=a∧4=e:=by have:=HE2.out;rw[if_neg (fun h=>Bool.noConfusion h),if_neg (by omega),if_pos h2]at this;cases this;exact⟨rfl,rfl⟩
       clear HE2
       have g3:decide ((2000:Int)≤(n:Int))=true:=decide_eq_true (by omega)
       clear h8
       go_wp2_with (first | (go_at_call 85;refine(mV _ p xn px1 HP0.out HPL.out HK.out _ HST.out.rd true HOP.out).mono ?_;rintro en w3 ⟨rfl,hb3⟩;have hs3:=HST.out.below hb3;obtain⟨v0,v1,v2,v3,-,-,rd3,-⟩:=hs3;simp only[]at v0 v1 v2 v3;replace hb3:=Lib.hid hb3;replace rd3:=Lib.hid rd3))
       go_ret2
       exact⟨rfl,Ba.chain HBW.out HBW.out.size hb3.out⟩
      ·skip
       obtain⟨rfl,rfl⟩:0=a∧0=e:=by have:=HE2.out;rw[if_neg (fun h=>Bool.noConfusion h),if_neg (by omega),if_neg h2]at this;cases this;exact⟨rfl,rfl⟩
       clear HE2
       have g3:decide ((2000:Int)≤(n:Int))=false:=decide_eq_false (by omega)
       clear h8
       go_wp2_with (first | (go_at_call 85;refine(mV _ p xn px1 HP0.out HPL.out HK.out _ HST.out.rd true HOP.out).mono ?_;rintro en w3 ⟨rfl,hb3⟩;have hs3:=HST.out.below hb3;obtain⟨v0,v1,v2,v3,-,-,rd3,-⟩:=hs3;simp only[]at v0 v1 v2 v3;replace hb3:=Lib.hid hb3;replace rd3:=Lib.hid rd3))
       go_ret2
       exact⟨rfl,Ba.chain HBW.out HBW.out.size hb3.out⟩
  ·have t2:((xk:Int)==2)=false:=kZ e2
   have HE:=Lib.hid ((CY (t:=t) (p:=p) (x:=⟨xk,xn,xt,xp⟩) e1 e2).symm.trans HAE.out)
   clear e1 e2
   by_cases h0:m=0
   ·obtain⟨rfl,rfl⟩:xp=a∧2=e:=by have:=HE.out;rw[if_pos (.inl (by have:=HM.out;omega))]at this;cases this;exact⟨rfl,rfl⟩
    have g1:((m:Int)+1==1)=true:=beq_iff_eq.2 (by omega)
    clear h0 HE
    go_wp2
    go_ret2
    exact⟨rfl,HBW.out⟩
   ·obtain⟨m',hm'⟩:∃ m',m=m'+1:=⟨m - 1,by omega⟩
    have g1:((m:Int)+1==1)=false:=beq_eq_false_iff_ne.2 (by omega)
    obtain⟨o',ho'⟩:=e9 (l:=p) (i:=m') (by have:=HM.out;omega)
    have y4:=GW HST.out.rd ho'
    have hfi:o'.first≤9000:=by have:=(HQ4.out o' (List.mem_of_getElem? ho')).2.2.2.1;omega
    obtain⟨bi,hbi⟩:∃ bi,cM o.kind q7=bi:=⟨_,rfl⟩
    have HE2:=Lib.hid (show (if bi=true∧o.kids.size=0 then (xp,2) else if o.kind=114∧0<o'.first∧o'.first≠o.kids.size then (xp,2) else (0,0))=(a,e) by
     have:=HE.out
     rw[HT.out,hbi,show p.length - 2=m' by have:=HM.out;omega,GS ho']at this
     rw[← this]
     have hp1:p.length≠1:=by have:=HM.out;omega
     simp only[hp1,false_or])
    have HBI:=Lib.hid hbi
    have i1:(m:Int) - 1=(m':Int):=by omega
    have i2:IntKind.i64.wrap (m':Int)=(m':Int):=IntWalk.i64_in _ ⟨by omega,by omega⟩
    have i3:IntKind.i64.wrap ((m:Int)+1 - 2)=(m':Int):=by rw[show (m:Int)+1 - 2=(m':Int) by omega];exact i2
    have i4:IntKind.i64.wrap ((m:Int) - 1)=(m':Int):=by rw[show (m:Int) - 1=(m':Int) by omega];exact i2
    have m0:(0:Int)≤(m':Int):=by omega
    have m1:(m':Int)<(m:Int)+1:=by omega
    clear hbi HE ho' h0 hm'
    cases bi
    ·skip
     by_cases h4:o.kind=114
     ·have t4:((o.kind:Int)==114)=true:=nE h4
      by_cases h5:0<o'.first
      ·have g5:decide ((0:Int)<(o'.first:Int))=true:=decide_eq_true (by omega)
       by_cases h6:o'.first=o.kids.size
       ·have t6:((o'.first:Int) != (o.kids.size:Int))=false:=by rw[bne,nE h6];rfl
        obtain⟨rfl,rfl⟩:0=a∧0=e:=by have:=HE2.out;rw[if_neg (fun h=>Bool.noConfusion h.1),if_neg (fun h=>h.2.2 h6)]at this;cases this;exact⟨rfl,rfl⟩
        clear HE2
        clear h4 h6
        go_wp2_with (first | (go_at_call 84;((with_reducible refine(qM o.kind hok false HBI.out _).mono ?_);rintro en w' ⟨rfl,rfl⟩)))
        go_big_quiet (fail)
        go_wp2
        go_ret2
        exact⟨rfl,Lx.below_drewN HBW.out _⟩
       ·have t6:((o'.first:Int) != (o.kids.size:Int))=true:=by rw[bne,kZ h6];rfl
        obtain⟨rfl,rfl⟩:xp=a∧2=e:=by have:=HE2.out;rw[if_neg (fun h=>Bool.noConfusion h.1),if_pos ⟨h4,h5,h6⟩]at this;cases this;exact⟨rfl,rfl⟩
        clear HE2
        clear h4 h6
        go_wp2_with (first | (go_at_call 84;((with_reducible refine(qM o.kind hok false HBI.out _).mono ?_);rintro en w' ⟨rfl,rfl⟩)))
        go_big_quiet (fail)
        go_wp2
        go_ret2
        exact⟨rfl,Lx.below_drewN HBW.out _⟩
      ·have g5:decide ((0:Int)<(o'.first:Int))=false:=decide_eq_false (by omega)
       have g6:o'.first=0:=by omega
       have g7:(o'.first:Int)=0:=by omega
       rw[g7]at y4
       obtain⟨rfl,rfl⟩:0=a∧0=e:=by have:=HE2.out;rw[if_neg (fun h=>Bool.noConfusion h.1),if_neg (fun h=>h5 h.2.1)]at this;cases this;exact⟨rfl,rfl⟩
       clear HE2
       clear h4 h5 g5 g6 g7
       go_wp2_with (first | (go_at_call 84;((with_reducible refine(qM o.kind hok false HBI.out _).mono ?_);rintro en w' ⟨rfl,rfl⟩)))
       go_big_quiet (fail)
       go_wp2
       go_ret2
       exact⟨rfl,Lx.below_drewN HBW.out _⟩
     ·have t4:((o.kind:Int)==114)=false:=kZ h4
      obtain⟨rfl,rfl⟩:0=a∧0=e:=by have:=HE2.out;rw[if_neg (fun h=>Bool.noConfusion h.1),if_neg (fun h=>h4 h.1)]at this;cases this;exact⟨rfl,rfl⟩
      clear HE2
      clear h4
      go_wp2_with (first | (go_at_call 84;((with_reducible refine(qM o.kind hok false HBI.out _).mono ?_);rintro en w' ⟨rfl,rfl⟩)))
      go_big_quiet (fail)
      go_wp2
      go_ret2
      exact⟨rfl,Lx.below_drewN HBW.out _⟩
    ·by_cases h7:o.kids.size=0
     ·skip
      obtain⟨rfl,rfl⟩:xp=a∧2=e:=by have:=HE2.out;rw[if_pos ⟨rfl,h7⟩]at this;cases this;exact⟨rfl,rfl⟩
      clear HE2
      have k1:o.kids.toList.isEmpty=true:=by rw[ByteArray.toList_eq,List.isEmpty_iff,Array.toList_eq_nil_iff];exact Array.eq_empty_of_size_eq_zero h7
      have k2:(!o.kids.toList.isEmpty)=false:=by rw[k1];rfl
      clear h7
      go_wp2_with (first | (go_at_call 84;((with_reducible refine(qM o.kind hok true HBI.out _).mono ?_);rintro en w' ⟨rfl,rfl⟩)))
      go_ret2
      exact⟨rfl,HBW.out⟩
     ·obtain⟨k1,k2⟩:=Lx.P8 o.kids (by omega)
      by_cases h4:o.kind=114
      ·have t4:((o.kind:Int)==114)=true:=nE h4
       by_cases h5:0<o'.first
       ·have g5:decide ((0:Int)<(o'.first:Int))=true:=decide_eq_true (by omega)
        by_cases h6:o'.first=o.kids.size
        ·have t6:((o'.first:Int) != (o.kids.size:Int))=false:=by rw[bne,nE h6];rfl
         obtain⟨rfl,rfl⟩:0=a∧0=e:=by have:=HE2.out;rw[if_neg (fun h=>h7 h.2),if_neg (fun h=>h.2.2 h6)]at this;cases this;exact⟨rfl,rfl⟩
         clear HE2
         clear h4 h6
         go_wp2_with (first | (go_at_call 84;((with_reducible refine(qM o.kind hok true HBI.out _).mono ?_);rintro en w' ⟨rfl,rfl⟩)))
         go_big_quiet (fail)
         go_wp2
         go_ret2
         exact⟨rfl,Lx.below_drewN HBW.out _⟩
        ·have t6:((o'.first:Int) != (o.kids.size:Int))=true:=by rw[bne,kZ h6];rfl
         obtain⟨rfl,rfl⟩:xp=a∧2=e:=by have:=HE2.out;rw[if_neg (fun h=>h7 h.2),if_pos ⟨h4,h5,h6⟩]at this;cases this;exact⟨rfl,rfl⟩
         clear HE2
         clear h4 h6
         go_wp2_with (first | (go_at_call 84;((with_reducible refine(qM o.kind hok true HBI.out _).mono ?_);rintro en w' ⟨rfl,rfl⟩)))
         go_big_quiet (fail)
         go_wp2
         go_ret2
         exact⟨rfl,Lx.below_drewN HBW.out _⟩
       ·have g5:decide ((0:Int)<(o'.first:Int))=false:=decide_eq_false (by omega)
        have g6:o'.first=0:=by omega
        have g7:(o'.first:Int)=0:=by omega
        rw[g7]at y4
        obtain⟨rfl,rfl⟩:0=a∧0=e:=by have:=HE2.out;rw[if_neg (fun h=>h7 h.2),if_neg (fun h=>h5 h.2.1)]at this;cases this;exact⟨rfl,rfl⟩
        clear HE2
        clear h4 h5 g5 g6 g7
        go_wp2_with (first | (go_at_call 84;((with_reducible refine(qM o.kind hok true HBI.out _).mono ?_);rintro en w' ⟨rfl,rfl⟩)))
        go_big_quiet (fail)
        go_wp2
        go_ret2
        exact⟨rfl,Lx.below_drewN HBW.out _⟩
      ·have t4:((o.kind:Int)==114)=false:=kZ h4
       obtain⟨rfl,rfl⟩:0=a∧0=e:=by have:=HE2.out;rw[if_neg (fun h=>h7 h.2),if_neg (fun h=>h4 h.1)]at this;cases this;exact⟨rfl,rfl⟩
       clear HE2
       clear h4
       go_wp2_with (first | (go_at_call 84;((with_reducible refine(qM o.kind hok true HBI.out _).mono ?_);rintro en w' ⟨rfl,rfl⟩)))
       go_big_quiet (fail)
       go_wp2
       go_ret2
       exact⟨rfl,Lx.below_drewN HBW.out _⟩
end Go.Proofs.YtgpihfacmpbpaaaGreatDoor.Tr
