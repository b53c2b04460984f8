/-
  Put together: LaA, LaB, LaC, LaD.
-/
import Derived.Test.YtgpihfacmpbpaaaGreatDoorVa
import Derived.Test.YtgpihfacmpbpaaaGreatDoorVh
import Derived.Deep.QuietTactic
import Derived.BigQuiet
import Derived.Maps.AppendAt
import Derived.Shelf.Abstract
import Derived.Shelf.RegionOpen
import Derived.OwnWalkIn
import Derived.TacticsInMore
import Derived.LoopNIn
import Derived.LoopIn
namespace Go.Proofs.YtgpihfacmpbpaaaGreatDoor.Lx
open Go.RowKit
def iA:ByteArray:={ data:=#[104,49,32,104,50,32,104,51,32,112,32,108,32,105,32,116,32,114,32,99,32,110,32,101,32,115,32,107] }
def ptS (x:Sp.Pt iA):ByteArray:=iA.extract x.1.1 x.1.2
theorem DV:(Sp.dD 32 iA 0).map ptS=(List.range 13).map (fun k=>bE (aY k)):=by decide +kernel
theorem DW:(Sp.dD 32 iA 0).length=13:=by
 have:=congrArg List.length DV
 simpa using this
theorem VK {pre:List (Sp.Pt iA)} {x:Sp.Pt iA} (h:pre++[x] <+: Sp.dD 32 iA 0):pre.length<13∧ptS x=bE (aY pre.length):=by
 obtain⟨r,hr⟩:=h
 have hl:pre.length<13:=by
  have:=congrArg List.length hr
  rw[DW]at this
  simp at this;omega
 refine⟨hl,?_⟩
 have h1:=DV
 rw[← hr]at h1
 have h2:=congrArg (fun l=>l[pre.length]?) h1
 simp only[List.map_append,List.append_assoc,List.map_cons,List.map_nil]at h2
 rw[List.getElem?_append_right (by simp)]at h2
 simpa[hl] using h2
def vK (f:Nat→Bool):ByteArray:=match (List.range 13).find? f with | some k=>bE (aY k) | none=>aA
theorem VL {f:Nat→Bool} {k:Nat} (h:∀ j,j<k→f j=false) (hk:k<13) (hf:f k=true):vK f=bE (aY k):=by
 unfold vK
 have:(List.range 13).find? f=some k:=by
  rw[List.find?_range_eq_some]
  exact⟨hf,by simpa using hk,fun j hj=>by simpa using h j hj⟩
 rw[this]
theorem MG {f:Nat→Bool} (h:∀ j,j<13→f j=false):vK f=aA:=by
 unfold vK
 have:(List.range 13).find? f=none:=by
  rw[List.find?_eq_none]
  intro j hj
  have:=h j (List.mem_range.1 hj)
  simpa using this
 rw[this]
theorem BE:bE 0=aA:=by decide +kernel
theorem MH (s:ByteArray) (p:Nat):vK (fun k=>decide (fits s p (aY k)))=bE (cZ s p):=by
 unfold vK cZ
 cases (List.range 13).find? (fun k=>decide (fits s p (aY k))) with
 | none=>exact BE.symm
 | some k=>rfl
theorem aB1:∀ k:Fin 13,bT (bE (aY k.val)) ((bE (aY k.val)).size - 1)=aY k.val∧0<(bE (aY k.val)).size∧(bE (aY k.val)).size≤2∧aY k.val<256:=by decide +kernel
set_option maxHeartbeats 1000000 in
theorem rV (t:ByteArray) (c:Nat) (h0:0<t.size) (h1:t.size≤70000) (hc:bT t (t.size - 1)=c) (w:World) :
  Calls Tryz.prog 123 #[.string t] w fun e w'=>e=.returned (.int .u8 (c:Int))∧w=w':=by
 have hz:t.size - 1<t.size:=by omega
 have E1:=cJ t (t.size - 1) hz
 rw[hc]at E1
 have j0:(1:Int)≤(t.size:Int):=by omega
 have j1:(0:Int)≤(t.size:Int) - 1:=by omega
 have j2:(t.size:Int) - 1<(t.size:Int):=by omega
 have j3:((t.size:Int) - 1).toNat=t.size - 1:=by omega
 clear hc
 go_enter Tryz.func123,Tryz.ntmps123
 go_wp2
 go_ret
 exact⟨rfl,rfl⟩
theorem JN (b:ByteArray) (c:Nat):Lib.hasPrefix b.data.toList (bE c).data.toList=decide (fits b 0 c):=by
 rw[← Lib.hasPrefix_raw]
 unfold fits
 by_cases h1:(bE c).size≤b.size
 ·by_cases h2:b.extract 0 (bE c).size=bE c
  ·have h3:0+(bE c).size≤b.size∧b.extract 0 (0+(bE c).size)=bE c:=⟨by omega,by rw[Nat.zero_add];exact h2⟩
   rw[h2];simp only[h3,and_self,decide_true];simp[h1]
  ·have h3:¬ (0+(bE c).size≤b.size∧b.extract 0 (0+(bE c).size)=bE c):=fun h=>h2 (by have:=h.2;rwa [Nat.zero_add]at this)
   rw[wJ h2,decide_eq_false h3,Bool.and_false]
 ·have h3:¬ (0+(bE c).size≤b.size∧b.extract 0 (0+(bE c).size)=bE c):=fun h=>h1 (by have:=h.1;omega)
  rw[decide_eq_false h1,decide_eq_false h3,Bool.false_and]
set_option maxHeartbeats 1000000 in
theorem VM (b n:ByteArray) (v:Bool) (hv:Lib.hasPrefix b.data.toList n.data.toList=v) (B:Nat) (w:World) (hB:w.cell? ⟨B,0,none⟩=some (.string b)) :
  Calls Tryz.prog 121 #[.string n,.pointer (some ⟨B,0,none⟩)] w fun e w'=>e=.returned (.bool v)∧Below w.heap.size w w':=by
 have HV:=Lib.hid hv
 clear hv
 go_enter Tryz.func121,Tryz.ntmps121
 go_wp2_with (go_at_call 122;refine(Tryz.strings_HasPrefix b n _).mono ?_;rintro e w' ⟨rfl,rfl⟩)
 go_ret
 exact⟨Ba.aC HV.out,Below.refl _ _⟩
end Go.Proofs.YtgpihfacmpbpaaaGreatDoor.Lx
namespace Go.Proofs.YtgpihfacmpbpaaaGreatDoor.Lx
open Go.RowKit Go.Shelf
attribute [local go_sem] Oper.semAt_some
def FI (w:World) (FV:Value) (f:Nat→Bool) (n:Nat) (W:World):Prop :=
 (∀ j,j<n→f j=false)∧Boxed W w.heap.size 42 FV∧Boxed W (w.heap.size+1) 9 (.string { data:=#[] })∧Below w.heap.size w W∧w.heap.size+5≤W.heap.size
theorem FI.n7 {w:World} {FV:Value} {f:Nat→Bool} {n:Nat} {W W':World} {row:Option Nat} (h:FI w FV f n W) (hg:W.grownBy W' row) (hr:∀ r,row=some r→w.heap.size+5≤r):FI w FV f n W':=by
 obtain⟨h0,h1,h2,h3,h4⟩:=h
 exact⟨h0,h1.kept hg (fun e=>by have:=hr _ e.symm;omega),h2.kept hg (fun e=>by have:=hr _ e.symm;omega),h3.grown hg h3.size (fun j ej=>by have:=hr _ ej;omega),Nat.le_trans h4 hg.size⟩
theorem FI.below {w:World} {FV:Value} {f:Nat→Bool} {n:Nat} {W W':World} (h:FI w FV f n W) (hb:Below W.heap.size W W'):FI w FV f n W':=by
 obtain⟨h0,h1,h2,h3,h4⟩:=h
 exact⟨h0,(hb.block _ h1.lt).trans h1,(hb.block _ h2.lt).trans h2,h3.trans (hb.mono h3.size),Nat.le_trans h4 hb.size⟩
theorem FI.own {w:World} {FV:Value} {f:Nat→Bool} {n:Nat} {W:World} (h:FI w FV f n W) (x:Value):FI w FV f n (W.setCell ⟨w.heap.size+1+1,0,none⟩ x):=by
 obtain⟨h0,h1,h2,h3,h4⟩:=h
 exact⟨h0,h1.other (by omega) _,h2.other (by omega) _,h3.setCell (p:=⟨w.heap.size+1+1,0,none⟩) (by show w.heap.size≤w.heap.size+1+1;omega) _,Nat.le_trans h4 (KeepsOthers.setCell W _ x).size⟩
def FX (w:World) (f:Nat→Bool) (n:Nat) (W:World):Prop :=
 ∃ k,n=k+1∧k<13∧(∀ j,j<k→f j=false)∧f k=true∧Boxed W (w.heap.size+1) 9 (.string (bE (aY k)))∧Below w.heap.size w W
theorem FX.n7 {w:World} {f:Nat→Bool} {n:Nat} {W W':World} {row:Option Nat} (h:FX w f n W) (hg:W.grownBy W' row) (hr:∀ r,row=some r→w.heap.size+5≤r):FX w f n W':=by
 obtain⟨k,hn,hk,h0,h1,h2,h3⟩:=h
 exact⟨k,hn,hk,h0,h1,h2.kept hg (fun e=>by have:=hr _ e.symm;omega),h3.grown hg h3.size (fun j ej=>by have:=hr _ ej;omega)⟩
theorem JO {Bs:Nat} {W W':World} (h:Below W.heap.size W W') (hB:Bs+3≤W.heap.size):Sp.tN Bs W W':=fun k _ h2=>h.block k (by omega)
set_option maxRecDepth 100000 in
set_option maxHeartbeats 2000000 in
theorem RL (B:Nat) (f:Nat→Bool) (w:World) (hBw:B<w.heap.size)
  (hf:∀ k,k<13→∀ v,f k=v→∀ W:World,W.cell? ⟨B,0,none⟩=w.cell? ⟨B,0,none⟩→Calls Tryz.prog 121 #[.string (bE (aY k)),.pointer (some ⟨B,0,none⟩)] W fun e W'=>e=.returned (.bool v)∧Below W.heap.size W W') :
  Calls Tryz.prog 120 #[.func (.func 121) #[] #[.pointer (some ⟨B,0,none⟩)]] w fun e w'=>e=.returned (.string (vK f))∧Below w.heap.size w w':=by
 have hfn:∀ f,Fence.wide.fn f:=fun _=>trivial
 refine(callsIn_wide (n:=3)).1 ?_
 refine callsIn_of_wp_marks Tryz.func120 rfl trivial ?_ rfl
 simp only[Tryz.ntmps120,List.size_toArray,List.length_cons,List.length_nil,Nat.reduceAdd,Nat.reduceSub,Array.replicate_succ,Array.replicate_zero,List.push_toArray,List.append_toArray,List.nil_append,List.cons_append]
 gi_wp2_with (gi_at_call 127;refine(callsIn_wide.2 (Sp.MI 32 iA _)).mono ?_;rintro e w' ⟨rfl,rfl⟩)
 obtain⟨W0,hW0⟩:∃ W0,(((((w.alloc (.cells #[.func (.func 121) #[] #[.pointer (some ⟨B,0,none⟩)]] 42)).alloc (.cells #[.string { data:=#[] }] 9)).alloc
  (.cells #[.string iA] 9)).alloc (.cells #[.string { data:=#[32] }] 9)).alloc (.cells #[.int .i64 0] 3))=W0:=⟨_,rfl⟩
 have hsz:W0.heap.size=w.heap.size+5:=by rw[← hW0];simp
 have hP0:FI w (.func (.func 121) #[] #[.pointer (some ⟨B,0,none⟩)]) f 0 W0:=by
  rw[← hW0]
  refine⟨fun j hj=>by omega,((((Boxed.new w _ _).alloc _).alloc _).alloc _).alloc _,?_,?_,by simp⟩
  ·have:=(((Boxed.new (w.alloc (.cells #[(.func (.func 121) #[] #[.pointer (some ⟨B,0,none⟩)])] 42)) 9 (.string { data:=#[] })).alloc (.cells #[.string iA] 9)).alloc (.cells #[.string { data:=#[32] }] 9)).alloc (.cells #[.int .i64 0] 3)
   rwa [World.size_alloc]at this
  ·exact(((((Below.refl _ w).alloc (Nat.le_refl _) _).alloc (by simp) _).alloc (by simp;omega) _).alloc (by simp;omega) _).alloc (by simp;omega) _
 have hX0:Sp.qQ 32 (w.heap.size+1+1) iA W0:=by
  have hz:((w.alloc (.cells #[.func (.func 121) #[] #[.pointer (some ⟨B,0,none⟩)]] 42)).alloc (.cells #[.string { data:=#[] }] 9)).heap.size=w.heap.size+1+1:=by simp
  obtain⟨V,hV⟩:∃ V,((w.alloc (.cells #[.func (.func 121) #[] #[.pointer (some ⟨B,0,none⟩)]] 42)).alloc (.cells #[.string { data:=#[] }] 9))=V:=⟨_,rfl⟩
  rw[hV]at hz hW0
  rw[← hW0,← hz]
  have x1:=((Boxed.new V 9 (.string iA)).alloc (.cells #[.string { data:=#[32] }] 9)).alloc (.cells #[.int .i64 0] 3)
  have x2:=(Boxed.new (V.alloc (.cells #[.string iA] 9)) 9 (.string { data:=#[32] })).alloc (.cells #[.int .i64 0] 3)
  have x3:=Boxed.new ((V.alloc (.cells #[.string iA] 9)).alloc (.cells #[.string { data:=#[32] }] 9)) 3 (.int .i64 0)
  rw[World.size_alloc]at x2
  rw[World.size_alloc,World.size_alloc]at x3
  exact⟨x1.cell,x1.frozen,x2.cell,x3.cell⟩
 rw[hW0]
 clear hW0
 refine Ra.qP (own:=fun a=>a=⟨w.heap.size+1+1,0,none⟩) (by omega) (gf:=131) (fa:=#[]) (lb:=#[.pointer (some ⟨w.heap.size+1+1+1,0,none⟩),.pointer (some ⟨w.heap.size+1+1,0,none⟩),.pointer (some ⟨w.heap.size+1+1+2,0,none⟩)]) rfl (enters_of Tryz.func131 (by kernel_rfl) rfl) (fun a ha=>by subst ha;show w.heap.size+1+1<W0.heap.size;omega)
  (Sp.JP 32 2 (w.heap.size+1+1) iA (by decide) W0 (by omega) hX0) Sp.tN.trans (Sp.ZW (by omega)) (fun _ _ _ _ h=>h) (fun _=>rfl)
  (fun pre W=>FI w (.func (.func 121) #[] #[.pointer (some ⟨B,0,none⟩)]) f pre.length W) (fun pre W=>FX w f pre.length W)
  (fun pre A B' row hs hg hr=>FI.n7 hs hg (fun r e=>by have:=(hr r e).1;omega))
  (fun pre A B' row hs hg hr=>FX.n7 hs hg (fun r e=>by have:=(hr r e).1;omega))
  (fun pre V a v ha hs=>by subst ha;exact FI.own hs v)
  (fun pre V V' hb hs=>FI.below hs hb)
  hP0
  (fun x=>{ tmps:=#[.func (.func 121) #[] #[.pointer (some ⟨B,0,none⟩)],.pointer (some ⟨w.heap.size,0,none⟩),.pointer (some ⟨w.heap.size+1,0,none⟩),.string (iA.extract x.1.1 x.1.2),
   .func (.func 131) #[] #[.pointer (some ⟨w.heap.size+1+1+1,0,none⟩),.pointer (some ⟨w.heap.size+1+1,0,none⟩),.pointer (some ⟨w.heap.size+1+1+2,0,none⟩)],
   .string (iA.extract x.1.1 x.1.2),undef,undef,undef,undef],defers:=[] }) ?assign ?body ?done ?stop
 case assign =>
  intro l x W K hK
  dsimp only[Sp.L5]
  gi_wp2
  exact hK
 case body =>
  rintro l pre x W hI hpre
  obtain⟨hk,hx⟩:=VK hpre
  have hx':iA.extract x.1.1 x.1.2=bE (aY pre.length):=hx
  have hlen:=(aB1 ⟨_,hk⟩).2.2.1
  simp only[]at hlen
  obtain⟨k,hk'⟩:∃ k,pre.length=k:=⟨_,rfl⟩
  rw[hk']at hk hx' hI hlen
  have HPL:=Lib.hid (show (pre++[x]).length=k+1 by rw[List.length_append,hk'];rfl)
  obtain⟨t,ht⟩:∃ t,bE (aY k)=t:=⟨_,rfl⟩
  have HT:=Lib.hid ht
  rw[hx',ht]
  rw[ht]at hlen
  clear hx hx' hk' ht hpre
  have hcell:W.cell? ⟨B,0,none⟩=w.cell? ⟨B,0,none⟩:=hI.2.2.2.1.cell (p:=⟨B,0,none⟩) hBw
  obtain⟨v,hv⟩:∃ v,f k=v:=⟨_,rfl⟩
  have hC:=hf k hk v hv W hcell
  rw[HT.out]at hC
  have HC:=Lib.hid hC
  have HV:=Lib.hid hv
  obtain⟨b0,b1,b2,hB2,hsW⟩:=id hI
  have c1:=b1.cell
  clear hC hv hcell b0
  cases v
  ·gi_wp2_with (gi_at_call 121;refine(CallsIn.inRound l (callsIn_wide.2 HC.out)).mono ?_;rintro e W2 ⟨rfl,hb2⟩)
   have h2:=hI.below hb2
   refine⟨Ba.qN hb2,JO hb2 (by omega),?_⟩
   show FI w _ f (pre++[x]).length _
   rw[HPL.out]
   exact⟨fun j hj=>by
    rcases Nat.lt_or_ge j k with h3 | h3
    ·exact h2.1 j h3
    ·obtain rfl:j=k:=by omega
     exact HV.out,h2.2⟩
  ·gi_wp2_with (gi_at_call 121;refine(CallsIn.inRound l (callsIn_wide.2 HC.out)).mono ?_;rintro e W2 ⟨rfl,hb2⟩;have d2:=(show Boxed W2 _ _ _ from (hb2.block _ b2.lt).trans b2);have e2:=d2.cell;have e3:=d2.frozen)
   have h2:=hI.below hb2
   refine⟨(Ba.qN hb2).trans ((KeepsOthers.setCell _ _ _).from _),?_⟩
   show FX w f (pre++[x]).length _
   rw[HPL.out]
   exact⟨k,rfl,hk,h2.1,HV.out,by rw[HT.out];exact d2.set _,h2.2.2.2.1.setCell (p:=⟨w.heap.size+1,0,none⟩) (by show w.heap.size≤w.heap.size+1;omega) _⟩
 case done =>
  rintro D W hD hI _ hK
  rw[DW]at hI
  obtain⟨a0,a1,a2,aB,hsW⟩:=hI
  have R:=Lib.hid (show ({ data:=#[] }:ByteArray)=vK f from (MG a0).symm)
  have c2:=a2.cell
  have f2:=a2.frozen
  clear a0
  gi_wp2
  have hK':=(KeepsOthers.setCell W ⟨w.heap.size+1,0,none⟩ (.string { data:=#[] })).same D _ hK rfl
  refine⟨by simp,.inl ⟨_,_,rfl,run_takeDeferred hK',?_⟩⟩
  have k2:=cell_kept ((a2.set (.string { data:=#[] }))).cell (grownBy_putObj' _ D (.deferred none)) (fun r e=>by cases e;exact⟨_,hK',rfl⟩)
  refine⟨.string { data:=#[] },?_,Ba.OD R.out,?_⟩
  ·simp[results,Tryz.f120,go_sem,k2]
  ·exact(aB.setCell (p:=⟨w.heap.size+1,0,none⟩) (by show w.heap.size≤w.heap.size+1;omega) _).trans (belowK_b (w:=w) (Nat.le_refl _) _ D _ _ (by omega) hK' rfl rfl)
 case stop =>
  rintro D pre W hD hpre ⟨k,hn,hk,h0,h1,a2,aB⟩ hK
  have R:=Lib.hid (show bE (aY k)=vK f from (VL h0 hk h1).symm)
  clear h0 h1 hpre hn
  gi_wp2
  refine⟨by simp,.inl ⟨_,_,rfl,run_takeDeferred hK,?_⟩⟩
  have k2:=cell_kept a2.cell (grownBy_putObj' _ D (.deferred none)) (fun r e=>by cases e;exact⟨_,hK,rfl⟩)
  refine⟨.string (bE (aY k)),?_,Ba.OD R.out,aB.trans (belowK_b (w:=w) (Nat.le_refl _) W D _ _ (by omega) hK rfl rfl)⟩
  simp[results,Tryz.f120,go_sem,k2]
end Go.Proofs.YtgpihfacmpbpaaaGreatDoor.Lx
namespace Go.Proofs.YtgpihfacmpbpaaaGreatDoor.Lx
open Go.RowKit
theorem aCT (X:ByteArray) (h:0<X.size):X.toList.isEmpty=false∧(!X.toList.isEmpty)=true:=by
 have:X.toList.isEmpty=false:=by
  cases hX:X.toList with
  | nil =>
   rw[ByteArray.toList_eq]at hX
   have:=congrArg List.length hX
   rw[Array.length_toList]at this
   have h2:X.size=X.data.size:=rfl
   rw[h2]at h;simp at this;rw[this]at h;simp at h
  | cons a l=>rfl
 exact⟨this,by rw[this];rfl⟩
theorem aE2 (b:ByteArray) (B:Nat) (w0:World) (h:w0.cell? ⟨B,0,none⟩=some (.string b)):∀ k,k<13→∀ v,decide (fits b 0 (aY k))=v→∀ W:World,W.cell? ⟨B,0,none⟩=w0.cell? ⟨B,0,none⟩ →
  Calls Tryz.prog 121 #[.string (bE (aY k)),.pointer (some ⟨B,0,none⟩)] W fun e W'=>e=.returned (.bool v)∧Below W.heap.size W W':=fun k hk v hv W hW =>
 VM b (bE (aY k)) v (by rw[JN];exact hv) B W (hW.trans h)
theorem JQ (b:ByteArray) (n:ByteArray) (hn:bE (cZ b 0)=n) (B:Nat) (w:World) (hBw:B<w.heap.size) (h:w.cell? ⟨B,0,none⟩=some (.string b)) :
  Calls Tryz.prog 120 #[.func (.func 121) #[] #[.pointer (some ⟨B,0,none⟩)]] w fun e w'=>e=.returned (.string n)∧Below w.heap.size w w':=by
 have:=RL B (fun k=>decide (fits b 0 (aY k))) w hBw (aE2 b B w h)
 rwa [MH,hn]at this
theorem DX (s:ByteArray) (p:Nat) (h:p≤s.size):s.extract 0 p++s.extract p s.size=s:=by
 rw[OZ s 0 p s.size (Nat.zero_le _) h];exact Ba.OE s
theorem O0 (s:ByteArray) (p:Nat) (h:p≤s.size):(s.extract 0 p).size=p:=by rw[fH _ _ _ h];omega
theorem vL (t:ByteArray) (h:0<t.size):cZ (t.extract 1 t.size) 0=cZ t 1:=by
 apply yT
 intro k _
 have:=BF (t.extract 0 1) (t.extract 1 t.size) 0 (aY k)
 rw[DX t 1 h,O0 t 1 h]at this
 exact this.symm
theorem F1 {s:ByteArray} {p c:Nat} (h:cZ s p=c) (hc:c≠0):∃ k:Fin 13,aY k.val=c:=by
 subst h
 unfold cZ at hc ⊢
 cases hff:(List.range 13).find? (fun k=>decide (fits s p (aY k))) with
 | none=>rw[hff]at hc;exact absurd rfl hc
 | some k=>exact⟨⟨k,List.mem_range.1 (List.mem_of_find?_eq_some hff)⟩,rfl⟩
theorem gY (c:Nat) (v:Bool) (h:c<256) (hv:Ka.cF (c:Int)=v) (w:World) (hL:Ka.Laid w) :
  Calls Tryz.prog 67 #[.int .u8 (c:Int)] w fun e w'=>e=.returned (.bool v)∧w=w':=hv▸Ka.RH (c:Int) (by omega) (by omega) w hL
theorem BG (c:Nat) (v:Bool) (h:c<256) (hv:Ka.JK (c:Int)=v) (w:World) (hL:Ka.Laid w) :
  Calls Tryz.prog 107 #[.int .u8 (c:Int)] w fun e w'=>e=.returned (.bool v)∧w=w':=hv▸Ka.aCS (c:Int) (by omega) (by omega) w hL
theorem gN {w w2:World} (hb:Below (w.heap.size+1) (w.alloc (.cells #[.int .i64 0,.int .u8 0,.string { data:=#[] },.int .i64 0] 71)) w2) :
  w2.cell? ⟨w.heap.size,0,none⟩=some (.int .i64 0)∧w2.cell? ⟨w.heap.size,1,none⟩=some (.int .u8 0)∧w2.cell? ⟨w.heap.size,2,none⟩=some (.string { data:=#[] })∧w2.cell? ⟨w.heap.size,3,none⟩=some (.int .i64 0)∧∀ i,w2.frozen? ⟨w.heap.size,i,none⟩=false:=by
 have hlt:w.heap.size<w.heap.size+1:=by omega
 exact⟨(hb.cell (p:=⟨w.heap.size,0,none⟩) hlt).trans (by simp),(hb.cell (p:=⟨w.heap.size,1,none⟩) hlt).trans (by simp),(hb.cell (p:=⟨w.heap.size,2,none⟩) hlt).trans (by simp),(hb.cell (p:=⟨w.heap.size,3,none⟩) hlt).trans (by simp),
  fun i=>(hb.frozen (p:=⟨w.heap.size,i,none⟩) hlt).trans (by simp)⟩
theorem MJ {a:Value} {x y z z':Int} (h:x=y) (h':z=z'):Ending.returned (.tuple #[a,.int .i64 x,.int .i64 z])=.returned (.tuple #[a,.int .i64 y,.int .i64 z']):=by rw[h,h']
theorem VN {k x y:Int} {m p:Int} {u v:ByteArray} {z:Int} (h:x=y) (hu:u=v):Ending.returned (.tuple #[.agg #[.int .i64 k,.int .u8 m,.string u,.int .i64 p],.int .i64 x,.int .i64 z])=.returned (.tuple #[.agg #[.int .i64 k,.int .u8 m,.string v,.int .i64 p],.int .i64 y,.int .i64 z]):=by rw[h,hu]
set_option maxHeartbeats 2000000 in
theorem MK (t:ByteArray) (h0:0<t.size) (h1:t.size≤70000) (hc:cZ t 1=0) (w:World) :
  Calls Tryz.prog 114 #[.string t] w fun e w'=>e=.returned (.tuple #[.agg #[.int .i64 0,.int .u8 0,.string { data:=#[] },.int .i64 0],.int .i64 0,.int .i64 2])∧Below w.heap.size w w':=by
 have HN:=Lib.hid (show bE (cZ (t.extract 1 t.size) 0)={ data:=#[] } by rw[vL t h0,hc];exact BE)
 clear hc
 go_enter Tryz.func114,Tryz.ntmps114
 go_wp2_with fail
 refine(JQ (t.extract 1 t.size) _ HN.out (w.heap.size+1) _ (by simp) (by simp)).mono ?_
 rintro e w2 ⟨rfl,hb2⟩
 have hb1:=((Below.refl (w.heap.size+1) (w.alloc (.cells #[.int .i64 0,.int .u8 0,.string { data:=#[] },.int .i64 0] 71))).alloc (by simp) (.cells #[.string (t.extract 1 t.size)] 9)).trans (hb2.mono (by simp))
 have hb0:=((Below.refl w.heap.size w).alloc (Nat.le_refl _) (.cells #[.int .i64 0,.int .u8 0,.string { data:=#[] },.int .i64 0] 71)).trans (hb1.mono (by omega))
 obtain⟨k0,k1,k2,k3,kf⟩:=gN hb1
 have f0:=kf 0
 have f1:=kf 1
 have f2:=kf 2
 have f3:=kf 3
 clear kf hb1 hb2
 go_wp2
 refine bodyPost_ret (v:=.tuple #[.agg #[.int .i64 0,.int .u8 0,.string { data:=#[] },.int .i64 0],.int .i64 0,.int .i64 2]) (by simp[results,Tryz.f114,go_sem,k0,k1,k2,k3]) rfl ⟨rfl,?_⟩
 exact(((hb0.setCell (Nat.le_refl _) _).setCell (Nat.le_refl _) _).setCell (Nat.le_refl _) _).setCell (Nat.le_refl _) _
set_option maxHeartbeats 4000000 in
theorem JR (t:ByteArray) (h0:0<t.size) (h1:t.size≤70000) (c q:Nat) (hc:cZ t 1=c) (hc0:c≠0) (hq:skip t (1+(bE c).size)=q) (w:World) (hL:Ka.Laid w) :
  Calls Tryz.prog 114 #[.string t] w fun e w'=>e=.returned (.tuple #[.agg #[.int .i64 2,.int .u8 ((c:Nat):Int),.string { data:=#[] },.int .i64 0],.int .i64 ((q:Nat):Int),.int .i64 0])∧Below w.heap.size w w':=by
 obtain⟨n,hn⟩:∃ n,bE c=n:=⟨_,rfl⟩
 have hfit:=uG (s:=t) (p:=1) (by rw[hc];exact hc0)
 obtain⟨kl,hkl⟩:=F1 hc hc0
 obtain⟨l1,l2,l3,l4⟩:=aB1 kl
 rw[hkl,hn]at l1 l2 l3
 rw[hkl]at l4
 rw[hc]at hfit
 have hf1:=hfit.1
 rw[hn]at hf1 hq
 have HN:=Lib.hid (show bE (cZ (t.extract 1 t.size) 0)=n by rw[vL t h0,hc];exact hn)
 have HL1:=Lib.hid l1
 have HQ:=Lib.hid hq
 obtain⟨e1,e2⟩:=aCT n l2
 clear hfit hkl hn hc hc0 l1 hq
 go_enter Tryz.func114,Tryz.ntmps114
 go_wp2_with fail
 refine(JQ (t.extract 1 t.size) _ HN.out (w.heap.size+1) _ (by simp) (by simp)).mono ?_
 rintro e w2 ⟨rfl,hb2⟩
 have hb1:=((Below.refl (w.heap.size+1) (w.alloc (.cells #[.int .i64 0,.int .u8 0,.string { data:=#[] },.int .i64 0] 71))).alloc (by simp) (.cells #[.string (t.extract 1 t.size)] 9)).trans (hb2.mono (by simp))
 have hb0:=((Below.refl w.heap.size w).alloc (Nat.le_refl _) (.cells #[.int .i64 0,.int .u8 0,.string { data:=#[] },.int .i64 0] 71)).trans (hb1.mono (by omega))
 have hL2:=hL.below hb0 hL.1
 obtain⟨k0,k1,k2,k3,kf⟩:=gN hb1
 have f0:=kf 0
 have f1:=kf 1
 have f2:=kf 2
 have f3:=kf 3
 clear kf hb1 hb2
 by_cases hlt:1+n.size<t.size
 ·have E2:=cJ t (1+n.size) hlt
  have h2:=eF t (1+n.size)
  have j0:(0:Int)≤1+(n.size:Int):=by omega
  have j1:(1:Int)+(n.size:Int)<(t.size:Int):=by omega
  have j2:((1:Int)+(n.size:Int)).toNat=1+n.size:=by omega
  obtain⟨d,hd⟩:∃ d,bT t (1+n.size)=d:=⟨_,rfl⟩
  rw[hd]at E2 h2
  by_cases hw:Ka.cF (d:Int)=true
  ·have HK:=Lib.hid (show q=1+n.size+1 by
    rw[← HQ.out];unfold skip iD;rw[hd,if_pos ⟨hlt,hw⟩])
   have HW:=Lib.hid hw
   clear hd hw
   go_wp2_with (first
    |(go_at_call 67;refine(gY d true h2 HW.out _ hL2).mono ?_;rintro e w' ⟨rfl,rfl⟩)
    |(go_at_call 123;refine(rV n c l2 (by omega) HL1.out _).mono ?_;rintro e w' ⟨rfl,rfl⟩))
   refine bodyPost_ret (v:=.tuple #[.agg #[.int .i64 2,.int .u8 ((c:Nat):Int),.string { data:=#[] },.int .i64 0],.int .i64 (1+(n.size:Int)+1),.int .i64 0]) (by simp[results,Tryz.f114,go_sem,k0,k1,k2,k3]) rfl ⟨MJ (by have:=HK.out;omega) rfl,?_⟩
   exact(((hb0.setCell (Nat.le_refl _) _).setCell (Nat.le_refl _) _).setCell (Nat.le_refl _) _).setCell (Nat.le_refl _) _
  ·have hw':Ka.cF (d:Int)=false:=by simpa using hw
   have HK:=Lib.hid (show q=1+n.size by
    rw[← HQ.out];unfold skip iD;rw[hd,if_neg (fun h=>hw h.2)])
   have HW:=Lib.hid hw'
   clear hd hw hw'
   go_wp2_with (first
    |(go_at_call 67;refine(gY d false h2 HW.out _ hL2).mono ?_;rintro e w' ⟨rfl,rfl⟩)
    |(go_at_call 123;refine(rV n c l2 (by omega) HL1.out _).mono ?_;rintro e w' ⟨rfl,rfl⟩))
   refine bodyPost_ret (v:=.tuple #[.agg #[.int .i64 2,.int .u8 ((c:Nat):Int),.string { data:=#[] },.int .i64 0],.int .i64 (1+(n.size:Int)),.int .i64 0]) (by simp[results,Tryz.f114,go_sem,k0,k1,k2,k3]) rfl ⟨MJ (by have:=HK.out;omega) rfl,?_⟩
   exact(((hb0.setCell (Nat.le_refl _) _).setCell (Nat.le_refl _) _).setCell (Nat.le_refl _) _).setCell (Nat.le_refl _) _
 ·have HK:=Lib.hid (show q=1+n.size by
   rw[← HQ.out];unfold skip;rw[if_neg (fun h=>hlt h.1)])
  have j1:decide ((1:Int)+(n.size:Int)<(t.size:Int))=false:=decide_eq_false (by omega)
  go_wp2_with (go_at_call 123;refine(rV n c l2 (by omega) HL1.out _).mono ?_;rintro e w' ⟨rfl,rfl⟩)
  refine bodyPost_ret (v:=.tuple #[.agg #[.int .i64 2,.int .u8 ((c:Nat):Int),.string { data:=#[] },.int .i64 0],.int .i64 (1+(n.size:Int)),.int .i64 0]) (by simp[results,Tryz.f114,go_sem,k0,k1,k2,k3]) rfl ⟨MJ (by have:=HK.out;omega) rfl,?_⟩
  exact(((hb0.setCell (Nat.le_refl _) _).setCell (Nat.le_refl _) _).setCell (Nat.le_refl _) _).setCell (Nat.le_refl _) _
end Go.Proofs.YtgpihfacmpbpaaaGreatDoor.Lx
namespace Go.Proofs.YtgpihfacmpbpaaaGreatDoor.Lx
open Go.RowKit
set_option maxHeartbeats 1000000 in
theorem DY (s:ByteArray) (h:s.size≤70000) (w:World):Calls Tryz.prog 124 #[.string s] w fun e w'=>e=.returned (.string s)∧Below w.heap.size w w':=by
 go_enter Tryz.func124,Tryz.ntmps124
 go_wp2_with (go_at_call 129;refine(Tryz.stringslite_Clone s _ (by omega)).mono ?_;rintro e w' ⟨rfl,hb⟩)
 go_ret
 exact⟨rfl,hb⟩
set_option maxHeartbeats 2000000 in
theorem ZX (t:ByteArray) (h0:0<t.size) (_h1:t.size≤70000) (h:jD (bT t 0)=false) (w:World) (hL:Ka.Laid w) :
  Calls Tryz.prog 115 #[.string t] w fun e w'=>e=.returned (.tuple #[.agg #[.int .i64 0,.int .u8 0,.string { data:=#[] },.int .i64 0],.int .i64 0,.int .i64 3])∧Below w.heap.size w w':=by
 have E1:=cJ t 0 h0
 have h256:=eF t 0
 obtain⟨b,hb⟩:∃ b,bT t 0=b:=⟨_,rfl⟩
 rw[hb]at E1 h256 h
 have hI:Ka.JK (b:Int)=false∧Ka.cF (b:Int)=false:=by unfold jD at h;simpa using h
 have HI:=Lib.hid hI.1
 have HW:=Lib.hid hI.2
 have hb0:Below w.heap.size w (w.alloc (.cells #[.int .i64 0,.int .u8 0,.string { data:=#[] },.int .i64 0] 71)):=(Below.refl w.heap.size w).alloc (Nat.le_refl _) _
 have hL2:=hL.below hb0 hL.1
 clear hb h hI
 go_enter Tryz.func115,Tryz.ntmps115
 go_wp2
 go_loop [3] (fun i=>i=.int .i64 0) (fun _=>0)
 case atStart=>rfl
 case round =>
  subst hrel
  go_wp2_with (first
   |(go_at_call 67;refine(gY b false h256 HW.out _ hL2).mono ?_;rintro e w' ⟨rfl,rfl⟩)
   |(go_at_call 107;refine(BG b false h256 HI.out _ hL2).mono ?_;rintro e w' ⟨rfl,rfl⟩))
  refine bodyPost_ret (v:=.tuple #[.agg #[.int .i64 0,.int .u8 0,.string { data:=#[] },.int .i64 0],.int .i64 0,.int .i64 3]) (by simp[results,Tryz.f115,go_sem]) rfl ⟨rfl,?_⟩
  exact hb0
set_option maxHeartbeats 4000000 in
theorem VO (t:ByteArray) (h0:0<t.size) (h1:t.size≤70000) (z:Nat) (h:jD (bT t 0)=true) (hz:C5 t 0=z) (w:World) (hL:Ka.Laid w) :
  Calls Tryz.prog 115 #[.string t] w fun e w'=>e=.returned (.tuple #[.agg #[.int .i64 1,.int .u8 0,.string (t.extract 0 z),.int .i64 0],.int .i64 ((z:Nat):Int),.int .i64 0])∧Below w.heap.size w w':=by
 have hT:=pP t 0 (Nat.zero_le _)
 rw[hz]at hT
 have hz0:0<z:=by
  rcases Nat.eq_zero_or_pos z with e | e
  ·have:=hT.2.2.2 (by omega)
   rw[e,h]at this;cases this
  ·exact e
 have HT:=Lib.hid hT
 have hb0:Below w.heap.size w (w.alloc (.cells #[.int .i64 0,.int .u8 0,.string { data:=#[] },.int .i64 0] 71)):=(Below.refl w.heap.size w).alloc (Nat.le_refl _) _
 have hL2:=hL.below hb0 hL.1
 clear h hz hT
 go_enter Tryz.func115,Tryz.ntmps115
 go_wp2
 go_loop [3] (fun i=>∃ k:Nat,k≤t.size∧i=.int .i64 k∧∀ j,j<k→jD (bT t j)=true) (fun i=>t.size - (intOf i).toNat)
 case atStart=>exact⟨0,by omega,rfl,fun j hj=>by omega⟩
 case round =>
  obtain⟨k,hk,rfl,hj⟩:=hrel
  have HJ:=Lib.hid hj
  clear hj
  have fin:(k<t.size→jD (bT t k)=false)→k=z:=fun h=>by
   obtain⟨a1,a2,a3,a4⟩:=HT.out
   exact(show xL t 0 k from ⟨Nat.zero_le _,hk,fun j _ h2=>HJ.out j h2,h⟩).unique ⟨a1,a2,a3,a4⟩
  by_cases hlt:k<t.size
  ·have E1:=cJ t k hlt
   have h256:=eF t k
   obtain⟨b,hb⟩:∃ b,bT t k=b:=⟨_,rfl⟩
   rw[hb]at E1 h256
   by_cases hok:jD b=true
   ·have HJ2:=Lib.hid (show ∀ j,j<k+1→jD (bT t j)=true from fun j h2=>by
     rcases Nat.lt_or_ge j k with h3 | h3
     ·exact HJ.out j h3
     ·obtain rfl:j=k:=by omega
      rw[hb];exact hok)
    obtain⟨v1,hv1⟩:∃ v1,Ka.JK (b:Int)=v1:=⟨_,rfl⟩
    have HV1:=Lib.hid hv1
    have HV2:v1=false→Hid (Ka.cF (b:Int)=true):=fun e=>Lib.hid (by
     unfold jD at hok;rw[hv1,e]at hok;simpa using hok)
    clear hb hok hv1 fin
    cases v1
    ·have HV:=HV2 rfl
     clear HV2
     go_wp2_with (first
      |(go_at_call 67;refine(gY b true h256 HV.out _ hL2).mono ?_;rintro e w' ⟨rfl,rfl⟩)
      |(go_at_call 107;refine(BG b false h256 HV1.out _ hL2).mono ?_;rintro e w' ⟨rfl,rfl⟩))
     go_round
     case rel=>exact⟨k+1,by omega,by go_num,HJ2.out⟩
     case measure=>simp[intOf];omega
    ·clear HV2
     go_wp2_with (go_at_call 107;refine(BG b true h256 HV1.out _ hL2).mono ?_;rintro e w' ⟨rfl,rfl⟩)
     go_round
     case rel=>exact⟨k+1,by omega,by go_num,HJ2.out⟩
     case measure=>simp[intOf];omega
   ·have hok':jD b=false:=by simpa using hok
    have hkz:=fin (fun _=>by rw[hb];exact hok')
    have hI:Ka.JK (b:Int)=false∧Ka.cF (b:Int)=false:=by unfold jD at hok';simpa using hok'
    have HI:=Lib.hid hI.1
    have HW:=Lib.hid hI.2
    have HK:=Lib.hid hkz
    have hk0:0<k:=by omega
    have t0:((k:Int)==0)=false:=beq_eq_false_iff_ne.2 (by omega)
    have hes:=fH t 0 k (by omega)
    have hes2:(t.extract 0 k).size≤70000:=by omega
    clear hI hkz hb hok hok' fin hes
    go_wp2_with (first
     |(go_at_call 67;refine(gY b false h256 HW.out _ hL2).mono ?_;rintro e w' ⟨rfl,rfl⟩)
     |(go_at_call 107;refine(BG b false h256 HI.out _ hL2).mono ?_;rintro e w' ⟨rfl,rfl⟩)
     |(go_at_call 124;refine(DY _ hes2 _).mono ?_;rintro e w2 ⟨rfl,hb2⟩;have hb1:=hb2.mono (B':=w.heap.size+1) (by simp);obtain⟨k0,k1,k2,k3,kf⟩:=gN hb1;have f0:=kf 0;have f1:=kf 1;have f2:=kf 2;have f3:=kf 3;clear kf))
    refine bodyPost_ret (v:=.tuple #[.agg #[.int .i64 1,.int .u8 0,.string (t.extract 0 k),.int .i64 0],.int .i64 (k:Int),.int .i64 0]) (by simp[results,Tryz.f115,go_sem,k0,k1,k2,k3]) rfl ⟨VN (by rw[HK.out]) (by rw[HK.out]),?_⟩
    exact((((hb0.trans (hb2.mono (by simp))).setCell (Nat.le_refl _) _).setCell (Nat.le_refl _) _).setCell (Nat.le_refl _) _).setCell (Nat.le_refl _) _
  ·have hkz:=fin (fun h=>absurd h hlt)
   have HK:=Lib.hid hkz
   have hk0:0<k:=by omega
   have t0:((k:Int)==0)=false:=beq_eq_false_iff_ne.2 (by omega)
   have j1:decide (k<t.size)=false:=decide_eq_false hlt
   have hes:=fH t 0 k (by omega)
   have hes2:(t.extract 0 k).size≤70000:=by omega
   clear hkz fin hes
   go_wp2_with (go_at_call 124;refine(DY _ hes2 _).mono ?_;rintro e w2 ⟨rfl,hb2⟩;have hb1:=hb2.mono (B':=w.heap.size+1) (by simp);obtain⟨k0,k1,k2,k3,kf⟩:=gN hb1;have f0:=kf 0;have f1:=kf 1;have f2:=kf 2;have f3:=kf 3;clear kf)
   refine bodyPost_ret (v:=.tuple #[.agg #[.int .i64 1,.int .u8 0,.string (t.extract 0 k),.int .i64 0],.int .i64 (k:Int),.int .i64 0]) (by simp[results,Tryz.f115,go_sem,k0,k1,k2,k3]) rfl ⟨VN (by rw[HK.out]) (by rw[HK.out]),?_⟩
   exact((((hb0.trans (hb2.mono (by simp))).setCell (Nat.le_refl _) _).setCell (Nat.le_refl _) _).setCell (Nat.le_refl _) _).setCell (Nat.le_refl _) _
def RM (x:Lx):Value:=.agg #[.int .i64 ((x.kind:Nat):Int),.int .u8 ((x.name:Nat):Int),.string x.text,.int .i64 ((x.place:Nat):Int)]
theorem jN {B:Nat} {w W:World} (g:Nat) (h:Below B w W) (hg:B≤g) (a b c d:Value):Below B w ((((W.setCell ⟨g,0,none⟩ a).setCell ⟨g,1,none⟩ b).setCell ⟨g,2,none⟩ c).setCell ⟨g,3,none⟩ d) :=
 (((h.setCell (p:=⟨g,0,none⟩) hg _).setCell (p:=⟨g,1,none⟩) hg _).setCell (p:=⟨g,2,none⟩) hg _).setCell (p:=⟨g,3,none⟩) hg _
set_option maxHeartbeats 4000000 in
theorem RN (t:ByteArray) (h0:0<t.size) (h1:t.size≤70000) (x:Lx) (q:Nat) (hs:dB t 0=.inl (x,q)) (w:World) (hL:Ka.Laid w) :
  Calls Tryz.prog 96 #[.string t] w fun e w'=>e=.returned (.tuple #[RM x,.int .i64 ((q:Nat):Int),.int .i64 0])∧Below w.heap.size w w':=by
 have E1:=cJ t 0 h0
 have hb0:Below w.heap.size w (w.alloc (.cells #[.int .i64 0,.int .u8 0,.string { data:=#[] },.int .i64 0] 71)):=(Below.refl w.heap.size w).alloc (Nat.le_refl _) _
 have hL2:=hL.below hb0 hL.1
 obtain⟨b,hb⟩:∃ b,bT t 0=b:=⟨_,rfl⟩
 rw[hb]at E1
 by_cases b1:b=125
 ·rw[mO (by rw[hb,b1])]at hs
  simp only[Sum.inl.injEq,Prod.mk.injEq]at hs
  obtain⟨rfl,rfl⟩:=hs
  have t1:((b:Int)==123)=false:=beq_eq_false_iff_ne.2 (by omega)
  have t2:((b:Int)==125)=true:=beq_iff_eq.2 (by omega)
  clear hb b1
  go_enter Tryz.func96,Tryz.ntmps96
  go_wp2
  refine bodyPost_ret (v:=.tuple #[.agg #[.int .i64 3,.int .u8 0,.string { data:=#[] },.int .i64 0],.int .i64 1,.int .i64 0]) (by simp[results,Tryz.f96,go_sem]) rfl ⟨rfl,?_⟩
  first
   | exact jN w.heap.size hb0 (Nat.le_refl _) _ _ _ _
   | exact(Below.refl w.heap.size w).alloc (Nat.le_refl _) _
 ·by_cases b2:b=123
  ·obtain⟨c,hc⟩:∃ c,cZ t 1=c:=⟨_,rfl⟩
   by_cases c0:c=0
   ·rw[oQ (by rw[hb,b2]) (by rw[Nat.zero_add,hc,c0])]at hs;cases hs
   rw[jV (by rw[hb,b2]) (by rw[Nat.zero_add,hc];exact c0)]at hs
   simp only[Sum.inl.injEq,Prod.mk.injEq,Nat.zero_add,hc]at hs
   obtain⟨rfl,hq⟩:=hs
   have HC:=Lib.hid hc
   have HQ:=Lib.hid hq
   have C0:=Lib.hid c0
   have t1:((b:Int)==123)=true:=beq_iff_eq.2 (by omega)
   clear hb b1 b2 hc hq c0
   go_enter Tryz.func96,Tryz.ntmps96
   go_wp2_with fail
   refine(JR t h0 h1 c q HC.out C0.out HQ.out _ hL2).mono ?_
   rintro e w2 ⟨rfl,hb2⟩
   obtain⟨k0,k1,k2,k3,kf⟩:=gN (hb2.mono (by simp))
   have f0:=kf 0;have f1:=kf 1;have f2:=kf 2;have f3:=kf 3
   clear kf
   go_wp2
   refine bodyPost_ret (v:=.tuple #[.agg #[.int .i64 2,.int .u8 ((c:Nat):Int),.string { data:=#[] },.int .i64 0],.int .i64 ((q:Nat):Int),.int .i64 0]) (by simp[results,Tryz.f96,go_sem,k0,k1,k2,k3]) rfl ⟨rfl,?_⟩
   exact jN w.heap.size (hb0.trans (hb2.mono (by simp))) (Nat.le_refl _) _ _ _ _
  ·have t1:((b:Int)==123)=false:=beq_eq_false_iff_ne.2 (by omega)
   have t2:((b:Int)==125)=false:=beq_eq_false_iff_ne.2 (by omega)
   by_cases hok:jD b=true
   ·rw[iZ (by rw[hb];exact hok)]at hs
    simp only[Sum.inl.injEq,Prod.mk.injEq]at hs
    obtain⟨rfl,hq⟩:=hs
    rw[hq]
    have HQ:=Lib.hid hq
    have HO:=Lib.hid (show jD (bT t 0)=true by rw[hb];exact hok)
    clear hb b1 b2 hq hok
    go_enter Tryz.func96,Tryz.ntmps96
    go_wp2_with fail
    refine(VO t h0 h1 q HO.out HQ.out _ hL2).mono ?_
    rintro e w2 ⟨rfl,hb2⟩
    obtain⟨k0,k1,k2,k3,kf⟩:=gN (hb2.mono (by simp))
    have f0:=kf 0;have f1:=kf 1;have f2:=kf 2;have f3:=kf 3
    clear kf
    go_wp2
    refine bodyPost_ret (v:=.tuple #[.agg #[.int .i64 1,.int .u8 0,.string (t.extract 0 q),.int .i64 0],.int .i64 ((q:Nat):Int),.int .i64 0]) (by simp[results,Tryz.f96,go_sem,k0,k1,k2,k3]) rfl ⟨rfl,?_⟩
    exact jN w.heap.size (hb0.trans (hb2.mono (by simp))) (Nat.le_refl _) _ _ _ _
   ·rw[rW (by rw[hb];exact b1) (by rw[hb];exact b2) (by rw[hb];simpa using hok)]at hs;cases hs
set_option maxHeartbeats 4000000 in
theorem JS (t:ByteArray) (h0:0<t.size) (h1:t.size≤70000) (z:Nat) (hs:dB t 0=.inr z) (w:World) (hL:Ka.Laid w) :
  Calls Tryz.prog 96 #[.string t] w fun e w'=>e=.returned (.tuple #[.agg #[.int .i64 0,.int .u8 0,.string { data:=#[] },.int .i64 0],.int .i64 0,.int .i64 ((z:Nat):Int)])∧Below w.heap.size w w':=by
 have E1:=cJ t 0 h0
 have hb0:Below w.heap.size w (w.alloc (.cells #[.int .i64 0,.int .u8 0,.string { data:=#[] },.int .i64 0] 71)):=(Below.refl w.heap.size w).alloc (Nat.le_refl _) _
 have hL2:=hL.below hb0 hL.1
 obtain⟨b,hb⟩:∃ b,bT t 0=b:=⟨_,rfl⟩
 rw[hb]at E1
 by_cases b1:b=125
 ·rw[mO (by rw[hb,b1])]at hs;cases hs
 by_cases b2:b=123
 ·by_cases c0:cZ t 1=0
  ·rw[oQ (by rw[hb,b2]) (by rw[Nat.zero_add];exact c0)]at hs
   cases hs
   have C0:=Lib.hid c0
   have t1:((b:Int)==123)=true:=beq_iff_eq.2 (by omega)
   clear hb b1 b2 c0
   go_enter Tryz.func96,Tryz.ntmps96
   go_wp2_with fail
   refine(MK t h0 h1 C0.out _).mono ?_
   rintro e w2 ⟨rfl,hb2⟩
   obtain⟨k0,k1,k2,k3,kf⟩:=gN (hb2.mono (by simp))
   have f0:=kf 0;have f1:=kf 1;have f2:=kf 2;have f3:=kf 3
   clear kf
   go_wp2
   refine bodyPost_ret (v:=.tuple #[.agg #[.int .i64 0,.int .u8 0,.string { data:=#[] },.int .i64 0],.int .i64 0,.int .i64 2]) (by simp[results,Tryz.f96,go_sem,k0,k1,k2,k3]) rfl ⟨rfl,?_⟩
   exact jN w.heap.size (hb0.trans (hb2.mono (by simp))) (Nat.le_refl _) _ _ _ _
  ·rw[jV (by rw[hb,b2]) (by rw[Nat.zero_add];exact c0)]at hs;cases hs
 ·have t1:((b:Int)==123)=false:=beq_eq_false_iff_ne.2 (by omega)
  have t2:((b:Int)==125)=false:=beq_eq_false_iff_ne.2 (by omega)
  by_cases hok:jD b=true
  ·rw[iZ (by rw[hb];exact hok)]at hs;cases hs
  ·rw[rW (by rw[hb];exact b1) (by rw[hb];exact b2) (by rw[hb];simpa using hok)]at hs
   cases hs
   have HO:=Lib.hid (show jD (bT t 0)=false by rw[hb];simpa using hok)
   clear hb b1 b2 hok
   go_enter Tryz.func96,Tryz.ntmps96
   go_wp2_with fail
   refine(ZX t h0 h1 HO.out _ hL2).mono ?_
   rintro e w2 ⟨rfl,hb2⟩
   obtain⟨k0,k1,k2,k3,kf⟩:=gN (hb2.mono (by simp))
   have f0:=kf 0;have f1:=kf 1;have f2:=kf 2;have f3:=kf 3
   clear kf
   go_wp2
   refine bodyPost_ret (v:=.tuple #[.agg #[.int .i64 0,.int .u8 0,.string { data:=#[] },.int .i64 0],.int .i64 0,.int .i64 3]) (by simp[results,Tryz.f96,go_sem,k0,k1,k2,k3]) rfl ⟨rfl,?_⟩
   exact jN w.heap.size (hb0.trans (hb2.mono (by simp))) (Nat.le_refl _) _ _ _ _
end Go.Proofs.YtgpihfacmpbpaaaGreatDoor.Lx
