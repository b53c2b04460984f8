/-
  What lex's reader hands out: a source's parts, up to its end or its first fault.
-/
import Derived.Test.YtgpihfacmpbpaaaGreatDoorVe
import Derived.Sort.QuietIn
import Derived.Stop.RegionWithIn
namespace Go.Proofs.YtgpihfacmpbpaaaGreatDoor.Lx
open Go.RowKit Go.Shelf
attribute [local go_sem] Oper.semAt_some
theorem VP {s:ByteArray} {p z:Nat} (h:dB s p=.inr z):z=2∨z=3:=by
 unfold dB at h
 split at h
 ·cases h
 ·split at h
  ·split at h
   ·cases h;exact .inl rfl
   ·cases h
  ·split at h
   ·cases h
   ·cases h;exact .inr rfl
theorem JT (t:ByteArray) (h0:0<t.size) (h1:t.size≤70000) (kd nm q:Nat) (tx:ByteArray) (hs:dB t 0=.inl (⟨kd,nm,tx,0⟩,q)) (w:World) (hL:Ka.Laid w) :
  Calls Tryz.prog 96 #[.string t] w fun e w'=>e=.returned (.tuple #[.agg #[.int .i64 ((kd:Nat):Int),.int .u8 ((nm:Nat):Int),.string tx,.int .i64 0],.int .i64 ((q:Nat):Int),.int .i64 0])∧Below w.heap.size w w':=RN t h0 h1 _ q hs w hL
theorem xM (s:ByteArray) (p:Nat) (hp:p<s.size):dB s p=ML p (dB (s.extract p s.size) 0):=by
 have h:=MM (s.extract 0 p) (s.extract p s.size) 0 (by rw[fH _ _ _ (Nat.le_refl _)];omega)
 rwa [DX s p (by omega),O0 s p (by omega),Nat.add_zero]at h
def RS (R:Nat) (s:ByteArray) (p:Nat) (W:World):Prop :=
 W.cell? ⟨R,1,none⟩=some (.int .i64 (p:Int))∧W.cell? ⟨R,2,none⟩=some (.int .i64 0)∧W.cell? ⟨R,3,none⟩=some (.string s)∧W.frozen? ⟨R,1,none⟩=false∧W.frozen? ⟨R,2,none⟩=false∧Ka.Laid W∧R<W.heap.size
def rX (R:Nat) (W W':World):Prop :=
 (∀ i,1≤i→W'.cell? ⟨R,i,none⟩=W.cell? ⟨R,i,none⟩)∧(∀ i,W'.frozen? ⟨R,i,none⟩=W.frozen? ⟨R,i,none⟩)∧(Ka.Laid W→Ka.Laid W')∧W.heap.size≤W'.heap.size
theorem rX.trans {R:Nat} {A B C:World} (h:rX R A B) (k:rX R B C):rX R A C :=
 ⟨fun i hi=>(k.1 i hi).trans (h.1 i hi),fun i=>(k.2.1 i).trans (h.2.1 i),fun x=>k.2.2.1 (h.2.2.1 x),Nat.le_trans h.2.2.2 k.2.2.2⟩
theorem RS.vM {R:Nat} {s:ByteArray} {p:Nat} {W W':World} (h:RS R s p W) (k:rX R W W'):RS R s p W':=by
 obtain⟨a1,a2,a3,a4,a5,a6,a7⟩:=h
 exact⟨(k.1 1 (by omega)).trans a1,(k.1 2 (by omega)).trans a2,(k.1 3 (by omega)).trans a3,(k.2.1 1).trans a4,(k.2.1 2).trans a5,k.2.2.1 a6,Nat.lt_of_lt_of_le a7 k.2.2.2⟩
theorem RS.below {R:Nat} {s:ByteArray} {p:Nat} {W W':World} (h:RS R s p W) (hb:Below W.heap.size W W'):RS R s p W':=by
 obtain⟨a1,a2,a3,a4,a5,a6,a7⟩:=h
 exact⟨(hb.cell (p:=⟨R,1,none⟩) a7).trans a1,(hb.cell (p:=⟨R,2,none⟩) a7).trans a2,(hb.cell (p:=⟨R,3,none⟩) a7).trans a3,(hb.frozen (p:=⟨R,1,none⟩) a7).trans a4,(hb.frozen (p:=⟨R,2,none⟩) a7).trans a5,a6.below hb a6.1,Nat.lt_of_lt_of_le a7 hb.size⟩
def RE (R:Nat) (s:ByteArray) (W:World):Prop :=
 ∃ p z:Nat,W.cell? ⟨R,1,none⟩=some (.int .i64 (p:Int))∧W.cell? ⟨R,2,none⟩=some (.int .i64 (z:Int))∧(((iG s 0).2=some (p,z)∧(z=2∨z=3))∨((iG s 0).2=none∧z=0))
theorem VQ {W:World} (h:Ka.Laid W) {R i:Nat} (hR:0<R) (v:Value):Ka.Laid (W.setCell ⟨R,i,none⟩ v) :=
 h.below ((Below.refl R W).setCell (p:=⟨R,i,none⟩) (Nat.le_refl R) v) hR
theorem RS.set {R:Nat} {s:ByteArray} {p p':Nat} {W:World} (h:RS R s p W) (hR:0<R):RS R s p' (W.setCell ⟨R,1,none⟩ (.int .i64 (p':Int))):=by
 obtain⟨a1,a2,a3,a4,a5,a6,a7⟩:=h
 have n2:(⟨R,1,none⟩:Addr)≠⟨R,2,none⟩:=fun e=>by injection e with _ e _;omega
 have n3:(⟨R,1,none⟩:Addr)≠⟨R,3,none⟩:=fun e=>by injection e with _ e _;omega
 have hb:=(Below.refl R W).setCell (p:=⟨R,1,none⟩) (Nat.le_refl R) (.int .i64 (p':Int))
 exact⟨World.cell?_setCell_same' _ _ _ (by rw[a1];rfl),(World.cell?_setCell_other _ _ _ _ n2).trans a2,(World.cell?_setCell_other _ _ _ _ n3).trans a3,by rw[World.frozen?_setCell];exact a4,by rw[World.frozen?_setCell];exact a5,VQ a6 hR _,Nat.lt_of_lt_of_le a7 hb.size⟩
def placeOf (R:Nat) (W:World):Nat:=match W.cell? ⟨R,1,none⟩with | some v=>(intOf v).toNat | none=>0
theorem BH {R:Nat} {s:ByteArray} {p:Nat} {W:World} (h:RS R s p W):placeOf R W=p:=by unfold placeOf;rw[h.1];simp[intOf]
def ZY (x:Lx):Array Value:=#[RM x]
theorem yU {w w2:World} (hb:Below (w.heap.size+1) (w.drew.alloc (.cells #[.int .i64 0,.int .u8 0,.string { data:=#[] },.int .i64 0] 71)) w2) :
  w2.cell? ⟨w.heap.size,0,none⟩=some (.int .i64 0)∧w2.cell? ⟨w.heap.size,1,none⟩=some (.int .u8 0)∧w2.cell? ⟨w.heap.size,2,none⟩=some (.string { data:=#[] })∧w2.cell? ⟨w.heap.size,3,none⟩=some (.int .i64 0)∧∀ i,w2.frozen? ⟨w.heap.size,i,none⟩=false :=
 gN (w:=w.drew) hb
def PC (g kd nm:Nat) (tx:ByteArray) (W:World):Prop :=
 W.cell? ⟨g,0,none⟩=some (.int .i64 (kd:Int))∧W.cell? ⟨g,1,none⟩=some (.int .u8 (nm:Int))∧W.cell? ⟨g,2,none⟩=some (.string tx)∧W.cell? ⟨g,3,none⟩=some (.int .i64 0)∧W.frozen? ⟨g,3,none⟩=false
theorem PC.new (w2:World) (kd nm:Nat) (tx:ByteArray):PC w2.heap.size kd nm tx (w2.alloc (.cells #[.int .i64 (kd:Int),.int .u8 (nm:Int),.string tx,.int .i64 0] 71)):=by
 refine⟨?_,?_,?_,?_,?_⟩<;>simp
theorem PC.set {w2:World} {g:Nat} (k0:w2.cell? ⟨g,0,none⟩=some (.int .i64 0)) (k1:w2.cell? ⟨g,1,none⟩=some (.int .u8 0)) (k2:w2.cell? ⟨g,2,none⟩=some (.string { data:=#[] })) (k3:w2.cell? ⟨g,3,none⟩=some (.int .i64 0)) (g0:w2.frozen? ⟨g,3,none⟩=false) (kd nm:Nat) (tx:ByteArray) :
  PC g kd nm tx ((((w2.setCell ⟨g,0,none⟩ (.int .i64 (kd:Int))).setCell ⟨g,1,none⟩ (.int .u8 (nm:Int))).setCell ⟨g,2,none⟩ (.string tx)).setCell ⟨g,3,none⟩ (.int .i64 0)):=by
 refine⟨?_,?_,?_,?_,?_⟩<;>simp[go_sem,k0,k1,k2,k3,g0]
set_option maxRecDepth 100000 in
set_option maxHeartbeats 4000000 in
theorem ZZ (n:Nat) (l R:Nat) (hR0:0<R) (s:ByteArray) (hs:s.size≤70000) (J Jx:List Lx→World→Prop)
  (hJo:∀ pre V a v,(a=⟨R,1,none⟩∨a=⟨R,2,none⟩)→J pre V→J pre (V.setCell a v)) (hJb:∀ pre V V',Below V.heap.size V V'→J pre V→J pre V')
  (hY:∀ pre x W,J pre W→pre++[x] <+: (iG s 0).1→YieldAt Fence.wide (n - 1) Tryz.prog l (ZY x) W fun e W' =>
   (e=.returned (.bool true)∧J (pre++[x]) W'∧rX R W W')∨(e=.returned (.bool false)∧Jx (pre++[x]) W'))
  (W:World) (hB:RS R s 0 W) (h0:J [] W) :
  CallsIn Fence.wide n Tryz.prog 62 #[.pointer (some ⟨R,0,none⟩),.func (.yield l) #[] #[]] W fun e W'=>(∃ v,e=.returned v) ∧
   ((J (iG s 0).1 W'∧RE R s W')∨(∃ pre,pre <+: (iG s 0).1∧Jx pre W')):=by
 have hfn:∀ f,Fence.wide.fn f:=fun _=>trivial
 refine callsIn_of_wp Tryz.func62 rfl trivial ?_ rfl
 simp only[Tryz.ntmps62,List.size_toArray,List.length_cons,List.length_nil,Nat.reduceAdd,Nat.reduceSub,Array.replicate_succ,Array.replicate_zero,List.push_toArray,List.append_toArray,List.nil_append,List.cons_append]
 gi_wp2
 gi_loopw [] (fun wr=>∃ (pre:List Lx) (p:Nat),p≤s.size∧Reach s p pre∧J pre wr∧RS R s p wr) (fun wr=>s.size - placeOf R wr)
 case atStart=>exact⟨[],0,by omega,Reach.zero s,h0,hB⟩
 case round =>
  obtain⟨pre,p,hp,hR,hJs,hRS⟩:=hrel
  obtain⟨c1,c2,c3,f1,f2,hL,hlt7⟩:=id hRS
  by_cases hlt:p<s.size
  ·cases hst:dB (s.extract p s.size) 0 with
   | inr z =>
    have hes:=fH s p s.size (Nat.le_refl _)
    have he0:0<(s.extract p s.size).size:=by omega
    have he1:(s.extract p s.size).size≤70000:=by omega
    have j0:(p:Int)≤(s.size:Int):=by omega
    have HF:=Lib.hid hst
    obtain⟨t,ht⟩:∃ t,s.extract p s.size=t:=⟨_,rfl⟩
    clear hes hst
    gi_wp2
    gi_quiet (fail)
    generalize hw1:wr.drewN _=w1
    have hb1:Below wr.heap.size wr w1:=by rw[← hw1];exact Ba.below_drewN (Below.refl wr.heap.size wr) _
    clear hw1
    have hRS1:=hRS.below hb1
    have hJ1:=hJb _ _ _ hb1 hJs
    clear c1 c2 c3 f1 f2 hL hlt7
    obtain⟨c1,c2,c3,f1,f2,hL,hlt7⟩:=id hRS1
    have hRw:=hlt7
    rw[ht]at he0 he1 HF
    have HL:=Lib.hid hL
    have HJ1:=Lib.hid hJ1
    have HRS1:=Lib.hid hRS1
    clear hL hJ1 hRS1 hRS hJs hb1
    gi_wp2
    gi_region_with (refine⟨fun h=>Bool.noConfusion h,?_⟩;first
     |(refine(callsIn_wide.2 (JS t he0 he1 z HF.out w1.drew (HL.out.below (Below.refl _ w1).drew HL.out.1))).mono ?_;rintro e w2 ⟨rfl,hb2⟩;have hbw:Below w1.heap.size w1 w2:=(Below.refl _ w1).drew.trans hb2)
     |(refine(callsIn_wide.2 (JS t he0 he1 z HF.out _ (HL.out.below ((Below.refl w1.heap.size w1).drew.alloc (Nat.le_refl _) _) HL.out.1))).mono ?_;rintro e w2 ⟨rfl,hb2⟩;have hbw:Below w1.heap.size w1 w2:=((Below.refl w1.heap.size w1).drew.alloc (Nat.le_refl _) _).trans (hb2.mono (by simp));obtain⟨k0,k1,k2,k3,kf⟩:=yU (w:=w1) (hb2.mono (by simp));have g0:=kf 0;have g1:=kf 1;have g2:=kf 2;have g3:=kf 3;clear kf))
    all_goals
     first
      |(generalize hW3:w2.alloc _=W3
        have hb3:Below w1.heap.size w1 W3:=by rw[← hW3];exact hbw.alloc hbw.size _
        clear hW3)
      |(generalize hW3:World.setCell _ _ _=W3
        have hb3:Below w1.heap.size w1 W3:=by rw[← hW3];exact jN _ hbw (Nat.le_refl _) _ _ _ _
        clear hW3)
     have hRS3:=HRS1.out.below hb3
     have hJ3:=hJb _ _ _ hb3 HJ1.out
     clear c1 c2 c3 f1 f2 hlt7
     obtain⟨c1,c2,c3,f1,f2,hL,hlt7⟩:=id hRS3
     have HS:=Lib.hid (hR.bad hlt (by rw[xM s p hlt,ht,HF.out];rfl))
     have HWS:=Lib.hid (show (iG s 0).1=pre by
      obtain⟨_,h⟩:=hR
      rw[h,tA s p hlt,xM s p hlt,ht,HF.out]
      simp[ML])
     have HZ:=Lib.hid (VP HF.out)
     have hRE:RE R s (W3.setCell ⟨R,2,none⟩ (.int .i64 (z:Int))):=by
      have n2:(⟨R,2,none⟩:Addr)≠⟨R,1,none⟩:=fun e=>by injection e with _ e _;omega
      exact⟨p,z,(World.cell?_setCell_other _ _ _ _ n2).trans c1,World.cell?_setCell_same' _ _ _ (by rw[c2];rfl),.inl ⟨HS.out,HZ.out⟩⟩
     have HRE:=Lib.hid hRE
     have HJ4:=Lib.hid (hJo pre W3 ⟨R,2,none⟩ (.int .i64 (z:Int)) (.inr rfl) hJ3)
     clear hRE hJ3 hR
     have z0:((z:Int)==0)=false:=beq_eq_false_iff_ne.2 (by have:=HZ.out;omega)
     have z1:((z:Int) != 0)=true:=by rw[bne,z0];rfl
     gi_wp2
     refine bodyPost_ret (results_none rfl _ _ _) rfl ?_
     exact⟨⟨_,rfl⟩,.inl ⟨by rw[HWS.out];exact HJ4.out,HRE.out⟩⟩
   | inl xq =>
    obtain⟨⟨kd,nm,tx,pl⟩,q⟩:=xq
    have hes:=fH s p s.size (Nat.le_refl _)
    have he0:0<(s.extract p s.size).size:=by omega
    have he1:(s.extract p s.size).size≤70000:=by omega
    have j0:(p:Int)≤(s.size:Int):=by omega
    obtain⟨hq,hpl⟩:=IK he0 hst
    have hq0:=oK he0 hst
    simp only[]at hpl
    subst hpl
    rw[hes]at hq
    have hpq:p+q≤s.size:=by omega
    have HF:=Lib.hid hst
    have HST:=Lib.hid (show dB s p=.inl (⟨kd,nm,tx,p⟩,p+q) by rw[xM s p hlt,hst];rfl)
    obtain⟨t,ht⟩:∃ t,s.extract p s.size=t:=⟨_,rfl⟩
    clear hes hst hq
    gi_wp2
    gi_quiet (fail)
    generalize hw1:wr.drewN _=w1
    have hb1:Below wr.heap.size wr w1:=by rw[← hw1];exact Ba.below_drewN (Below.refl wr.heap.size wr) _
    clear hw1
    have HP0:=Lib.hid (BH hRS)
    have hRS1:=hRS.below hb1
    have hJ1:=hJb _ _ _ hb1 hJs
    clear c1 c2 c3 f1 f2 hL hlt7
    obtain⟨c1,c2,c3,f1,f2,hL,hlt7⟩:=id hRS1
    have hRw:=hlt7
    rw[ht]at he0 he1 HF
    have HL:=Lib.hid hL
    have HJ1:=Lib.hid hJ1
    have HRS1:=Lib.hid hRS1
    clear hL hJ1 hRS1 hRS hJs hb1
    gi_wp2
    gi_region_with (refine⟨fun h=>Bool.noConfusion h,?_⟩;first
     |(refine(callsIn_wide.2 (JT t he0 he1 kd nm q tx HF.out w1.drew (HL.out.below (Below.refl _ w1).drew HL.out.1))).mono ?_;rintro e w2 ⟨rfl,hb2⟩;have hbw:Below w1.heap.size w1 w2:=(Below.refl _ w1).drew.trans hb2)
     |(refine(callsIn_wide.2 (JT t he0 he1 kd nm q tx HF.out _ (HL.out.below ((Below.refl w1.heap.size w1).drew.alloc (Nat.le_refl _) _) HL.out.1))).mono ?_;rintro e w2 ⟨rfl,hb2⟩;have hbw:Below w1.heap.size w1 w2:=((Below.refl w1.heap.size w1).drew.alloc (Nat.le_refl _) _).trans (hb2.mono (by simp));obtain⟨k0,k1,k2,k3,kf⟩:=yU (w:=w1) (hb2.mono (by simp));have g0:=kf 0;have g1:=kf 1;have g2:=kf 2;have g3:=kf 3;clear kf))
    all_goals
     first
      |(generalize hW3:w2.alloc _=W3
        have hb3:Below w1.heap.size w1 W3:=by rw[← hW3];exact hbw.alloc hbw.size _
        have hK:PC w2.heap.size kd nm tx W3:=by rw[← hW3];exact PC.new _ _ _ _
        have hg:w1.heap.size≤w2.heap.size:=hbw.size
        clear hW3 hbw
        generalize w2.heap.size=g at *)
      |(generalize hW3:World.setCell _ _ _=W3
        have hb3:Below w1.heap.size w1 W3:=by rw[← hW3];exact jN _ hbw (Nat.le_refl _) _ _ _ _
        have hK:PC w1.heap.size kd nm tx W3:=by rw[← hW3];exact PC.set k0 k1 k2 k3 g3 _ _ _
        clear hW3 k0 k1 k2 k3 g0 g1 g2 g3 hbw
        obtain⟨g,hgg⟩:∃ g,w1.heap.size=g:=⟨_,rfl⟩
        have hg:w1.heap.size≤g:=by omega
        rw[hgg]at hK ⊢
        clear hgg)
     obtain⟨k0,k1,k2,k3,g3⟩:=hK
     have hRS3:=HRS1.out.below hb3
     have hJ3:=hJb _ _ _ hb3 HJ1.out
     clear c1 c2 c3 f1 f2 hlt7
     have hb4:Below w1.heap.size w1 (W3.setCell ⟨g,3,none⟩ (.int .i64 (p:Int))):=hb3.setCell (p:=⟨g,3,none⟩) hg _
     have hRS4:=HRS1.out.below hb4
     have hJ4:=hJb _ _ _ hb4 HJ1.out
     have hRS5:=hRS4.set (p':=p+q) hR0
     have hJ5:=hJo pre _ ⟨R,1,none⟩ (.int .i64 ((p+q:Nat):Int)) (.inl rfl) hJ4
     have HP:=Lib.hid (show pre++[⟨kd,nm,tx,p⟩] <+: (iG s 0).1 by
      obtain⟨_,h⟩:=hR.step hlt HST.out hpq
      rw[h];exact⟨_,rfl⟩)
     have HRQ:=Lib.hid (hR.step hlt HST.out hpq)
     obtain⟨fn,tmps,assign,body,hy,hRd⟩:=hY pre ⟨kd,nm,tx,p⟩ _ hJ5 HP.out
     dsimp only[ZY,RM]at hy
     rw[show ((p+q:Nat):Int)=(p:Int)+(q:Int) from by omega]at hy hRd hRS5
     have HRd:=Lib.hid hRd
     have HRS5:=Lib.hid hRS5
     obtain⟨c1,c2,c3,f1,f2,hL,hlt7⟩:=id hRS3
     have hgR:¬ g=R:=by omega
     have hRg:¬ R=g:=by omega
     have q9:q≤70000:=by omega
     have p9:p≤70000:=by omega
     clear hL hRS3 hJ3 hRS4 hJ4 hRS5 hJ5 hRd hR hb3 hb4 ht hlt7
     gi_wp2
     refine⟨fun h=>Bool.noConfusion h,HRd.out.mono ?_⟩
     rintro e W6 (⟨rfl,hJ6,hk6⟩ | ⟨rfl,hJx6⟩)
     ·have HRS6:=Lib.hid (HRS5.out.vM hk6)
      gi_wp2
      go_roundw
      case rel=>exact⟨_,p+q,hpq,HRQ.out,hJ6,HRS6.out⟩
      case measure=>rw[HP0.out,BH HRS6.out];omega
     ·gi_wp2
      refine bodyPost_ret (results_none rfl _ _ _) rfl ?_
      exact⟨⟨_,rfl⟩,.inr ⟨_,HP.out,hJx6⟩⟩
  ·have hnl:decide (p<s.size)=false:=decide_eq_false hlt
   obtain rfl:p=s.size:=by omega
   have hall:=hR.all
   have HWS:=Lib.hid (show (iG s 0).1=pre by rw[hall])
   have HNO:=Lib.hid (show (iG s 0).2=none by rw[hall])
   have hRS1:=fun m=>hRS.below (Ba.below_drewN (Below.refl wr.heap.size wr) m)
   have hJ1:=fun m=>hJb pre _ _ (Ba.below_drewN (Below.refl wr.heap.size wr) m) hJs
   have HRS1:=Lib.hid hRS1
   have HJ1:=Lib.hid hJ1
   clear hall hRS1 hJ1 hJs hRS hR hL hlt
   gi_wp2
   gi_quiet (fail)
   gi_wp2
   go_end0
   exact⟨⟨_,rfl⟩,.inl ⟨by rw[HWS.out];exact HJ1.out _,⟨s.size,0,(HRS1.out _).1,(HRS1.out _).2.1,.inr ⟨HNO.out,rfl⟩⟩⟩⟩
end Go.Proofs.YtgpihfacmpbpaaaGreatDoor.Lx
