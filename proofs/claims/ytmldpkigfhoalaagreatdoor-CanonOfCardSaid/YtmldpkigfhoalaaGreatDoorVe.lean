/-
  Put together: LaA, LaB, LaC, LaD.
-/
import Derived.Test.YtmldpkigfhoalaaGreatDoorVa
import Derived.Test.YtmldpkigfhoalaaGreatDoorVh
import Derived.Deep.QuietTactic
import Derived.BigQuiet
import Derived.Maps.AppendAt
import Derived.Shelf.Abstract
import Derived.Shelf.RegionOpen
import Derived.OwnWalkIn
import Derived.TacticsInMore
import Derived.LoopNIn
import Derived.LoopIn
namespace Go.Proofs.YtmldpkigfhoalaaGreatDoor.Lx
open Go.RowKit
def namesS:ByteArray:={ data:=#[104,49,32,104,50,32,104,51,32,112,32,108,32,105,32,116,32,114,32,99,32,110,32,101,32,115,32,107] }
def ptS (x:Sp.Pt namesS):ByteArray:=namesS.extract x.1.1 x.1.2
theorem names_all:(Sp.partsA 32 namesS 0).map ptS=(List.range 13).map (fun k=>nameS (letterN k)):=by decide +kernel
theorem names_len:(Sp.partsA 32 namesS 0).length=13:=by
 have:=congrArg List.length names_all
 simpa using this
theorem names_at {pre:List (Sp.Pt namesS)} {x:Sp.Pt namesS} (h:pre++[x] <+: Sp.partsA 32 namesS 0):pre.length<13∧ptS x=nameS (letterN pre.length):=by
 obtain ⟨r,hr⟩:=h
 have hl:pre.length<13:=by
  have:=congrArg List.length hr
  rw [names_len] at this
  simp at this;omega
 refine ⟨hl,?_⟩
 have h1:=names_all
 rw [← hr] at h1
 have h2:=congrArg (fun l=>l[pre.length]?) h1
 simp only [List.map_append,List.append_assoc,List.map_cons,List.map_nil] at h2
 rw [List.getElem?_append_right (by simp)] at h2
 simpa [hl] using h2
def findS (f:Nat→Bool):ByteArray:=match (List.range 13).find? f with | some k=>nameS (letterN k) | none=>emptyS
theorem findS_at {f:Nat→Bool} {k:Nat} (h:∀ j,j<k→f j=false) (hk:k<13) (hf:f k=true):findS f=nameS (letterN k):=by
 unfold findS
 have:(List.range 13).find? f=some k:=by
  rw [List.find?_range_eq_some]
  exact ⟨hf,by simpa using hk,fun j hj=>by simpa using h j hj⟩
 rw [this]
theorem findS_none {f:Nat→Bool} (h:∀ j,j<13→f j=false):findS f=emptyS:=by
 unfold findS
 have:(List.range 13).find? f=none:=by
  rw [List.find?_eq_none]
  intro j hj
  have:=h j (List.mem_range.1 hj)
  simpa using this
 rw [this]
theorem nameS_none:nameS 0=emptyS:=by decide +kernel
theorem findS_open (s:ByteArray) (p:Nat):findS (fun k=>decide (fits s p (letterN k)))=nameS (openC s p):=by
 unfold findS openC
 cases (List.range 13).find? (fun k=>decide (fits s p (letterN k))) with
 | none=>exact nameS_none.symm
 | some k=>rfl
theorem letterN_inj:∀ j k:Fin 13,letterN j.val=letterN k.val→j=k:=by decide +kernel
theorem findS_name (c:Nat) (hc:c<256):findS (fun k=>decide (letterN k=c))=nameS c:=by
 by_cases h:c ∈ lettersL
 ·obtain ⟨k,hk⟩:=(letter_mem ⟨c,hc⟩).1 h
  rw [findS_at (k:=k.val) (fun j hj=>?_) k.isLt (by simpa using hk)]
  ·rw [hk]
  ·have hjk:letterN j≠c:=fun e=>by
    have:=letterN_inj ⟨j,by omega⟩ k (by rw [hk];exact e)
    have:=congrArg Fin.val this
    simp at this;omega
   simpa using hjk
 ·rw [findS_none (fun j hj=>?_)]
  ·unfold nameS nameL
   rw [if_neg,if_neg h];rfl
   intro h2;apply h
   rcases h2 with rfl | rfl | rfl<;>decide
  ·have hjc:letterN j≠c:=fun e=>h ((letter_mem ⟨c,hc⟩).2 ⟨⟨j,hj⟩,e⟩)
   simpa using hjc
theorem lastN:∀ k:Fin 13,bAt (nameS (letterN k.val)) ((nameS (letterN k.val)).size - 1)=letterN k.val∧0<(nameS (letterN k.val)).size∧(nameS (letterN k.val)).size≤2∧letterN k.val<256:=by decide +kernel
set_option maxHeartbeats 1000000 in
theorem letterOf_at (t:ByteArray) (c:Nat) (h0:0<t.size) (h1:t.size≤70000) (hc:bAt t (t.size - 1)=c) (w:World) :
  Calls Tryz.prog 95 #[.string t] w fun e w'=>e=.returned (.int .u8 (c:Int))∧w=w':=by
 have hz:t.size - 1<t.size:=by omega
 have E1:=bAt_get t (t.size - 1) hz
 rw [hc] at E1
 have j0:(1:Int)≤(t.size:Int):=by omega
 have j1:(0:Int)≤(t.size:Int) - 1:=by omega
 have j2:(t.size:Int) - 1<(t.size:Int):=by omega
 have j3:((t.size:Int) - 1).toNat=t.size - 1:=by omega
 clear hc
 go_enter Tryz.func95,Tryz.ntmps95
 go_wp2
 go_ret
 exact ⟨rfl,rfl⟩
theorem prefix_fits (b:ByteArray) (c:Nat):Lib.hasPrefix b.data.toList (nameS c).data.toList=decide (fits b 0 c):=by
 rw [← Lib.hasPrefix_raw]
 unfold fits
 by_cases h1:(nameS c).size≤b.size
 ·by_cases h2:b.extract 0 (nameS c).size=nameS c
  ·have h3:0+(nameS c).size≤b.size∧b.extract 0 (0+(nameS c).size)=nameS c:=⟨by omega,by rw [Nat.zero_add];exact h2⟩
   rw [h2];simp only [h3,and_self,decide_true];simp [h1]
  ·have h3:¬ (0+(nameS c).size≤b.size∧b.extract 0 (0+(nameS c).size)=nameS c):=fun h=>h2 (by have:=h.2;rwa [Nat.zero_add] at this)
   rw [toList_ne h2,decide_eq_false h3,Bool.and_false]
 ·have h3:¬ (0+(nameS c).size≤b.size∧b.extract 0 (0+(nameS c).size)=nameS c):=fun h=>h1 (by have:=h.1;omega)
  rw [decide_eq_false h1,decide_eq_false h3,Bool.false_and]
set_option maxHeartbeats 1000000 in
theorem asksO_at (b n:ByteArray) (v:Bool) (hv:Lib.hasPrefix b.data.toList n.data.toList=v) (B:Nat) (w:World) (hB:w.cell? ⟨B,0,none⟩=some (.string b)) :
  Calls Tryz.prog 116 #[.string n,.pointer (some ⟨B,0,none⟩)] w fun e w'=>e=.returned (.bool v)∧Below w.heap.size w w':=by
 have HV:=Lib.hid hv
 clear hv
 go_enter Tryz.func116,Tryz.ntmps116
 go_wp2_with (go_at_call 117;refine (Tryz.strings_HasPrefix b n _).mono ?_;rintro e w' ⟨rfl,rfl⟩)
 go_ret
 exact ⟨Ba.ret_bool HV.out,Below.refl _ _⟩
set_option maxHeartbeats 1000000 in
theorem asksN_at (t:ByteArray) (c d:Nat) (h0:0<t.size) (h1:t.size≤70000) (ht:bAt t (t.size - 1)=d) (v:Bool) (hv:decide (d=c)=v) (B:Nat) (w:World) (hB:w.cell? ⟨B,0,none⟩=some (.int .u8 (c:Int))) :
  Calls Tryz.prog 94 #[.string t,.pointer (some ⟨B,0,none⟩)] w fun e w'=>e=.returned (.bool v)∧Below w.heap.size w w':=by
 have HT:=Lib.hid ht
 have HV:=Lib.hid (show ((d:Int)==(c:Int))=v by
  rw [← hv]
  by_cases e:d=c
  ·subst e;simp
  ·rw [decide_eq_false e];exact beq_eq_false_iff_ne.2 (by omega))
 clear ht hv
 go_enter Tryz.func94,Tryz.ntmps94
 go_wp2
 go_quiet ((go_at_call 95;exact Calls.quiet_of_same ((letterOf_at t d h0 h1 HT.out _).mono fun _ _ h=>⟨h.1,h.2.symm⟩)))
 go_wp2
 go_ret
 exact ⟨Ba.ret_bool HV.out,Ba.below_drewN (Below.refl _ _) _⟩
end Go.Proofs.YtmldpkigfhoalaaGreatDoor.Lx
namespace Go.Proofs.YtmldpkigfhoalaaGreatDoor.Lx
open Go.RowKit Go.Shelf
attribute [local go_sem] Oper.semAt_some
def FI (w:World) (FV:Value) (f:Nat→Bool) (n:Nat) (W:World):Prop :=
 (∀ j,j<n→f j=false)∧Boxed W w.heap.size 31 FV∧Boxed W (w.heap.size+1) 9 (.string { data:=#[] })∧Below w.heap.size w W∧w.heap.size+5≤W.heap.size
theorem FI.turn {w:World} {FV:Value} {f:Nat→Bool} {n:Nat} {W W':World} {row:Option Nat} (h:FI w FV f n W) (hg:W.grownBy W' row) (hr:∀ r,row=some r→w.heap.size+5≤r):FI w FV f n W':=by
 obtain ⟨h0,h1,h2,h3,h4⟩:=h
 exact ⟨h0,h1.kept hg (fun e=>by have:=hr _ e.symm;omega),h2.kept hg (fun e=>by have:=hr _ e.symm;omega),h3.grown hg h3.size (fun j ej=>by have:=hr _ ej;omega),Nat.le_trans h4 hg.size⟩
theorem FI.below {w:World} {FV:Value} {f:Nat→Bool} {n:Nat} {W W':World} (h:FI w FV f n W) (hb:Below W.heap.size W W'):FI w FV f n W':=by
 obtain ⟨h0,h1,h2,h3,h4⟩:=h
 exact ⟨h0,(hb.block _ h1.lt).trans h1,(hb.block _ h2.lt).trans h2,h3.trans (hb.mono h3.size),Nat.le_trans h4 hb.size⟩
theorem FI.own {w:World} {FV:Value} {f:Nat→Bool} {n:Nat} {W:World} (h:FI w FV f n W) (x:Value):FI w FV f n (W.setCell ⟨w.heap.size+1+1,0,none⟩ x):=by
 obtain ⟨h0,h1,h2,h3,h4⟩:=h
 exact ⟨h0,h1.other (by omega) _,h2.other (by omega) _,h3.setCell (p:=⟨w.heap.size+1+1,0,none⟩) (by show w.heap.size≤w.heap.size+1+1;omega) _,Nat.le_trans h4 (KeepsOthers.setCell W _ x).size⟩
def FX (w:World) (f:Nat→Bool) (n:Nat) (W:World):Prop :=
 ∃ k,n=k+1∧k<13∧(∀ j,j<k→f j=false)∧f k=true∧Boxed W (w.heap.size+1) 9 (.string (nameS (letterN k)))∧Below w.heap.size w W
theorem FX.turn {w:World} {f:Nat→Bool} {n:Nat} {W W':World} {row:Option Nat} (h:FX w f n W) (hg:W.grownBy W' row) (hr:∀ r,row=some r→w.heap.size+5≤r):FX w f n W':=by
 obtain ⟨k,hn,hk,h0,h1,h2,h3⟩:=h
 exact ⟨k,hn,hk,h0,h1,h2.kept hg (fun e=>by have:=hr _ e.symm;omega),h3.grown hg h3.size (fun j ej=>by have:=hr _ ej;omega)⟩
theorem keepB_below {Bs:Nat} {W W':World} (h:Below W.heap.size W W') (hB:Bs+3≤W.heap.size):Sp.KeepB Bs W W':=fun k _ h2=>h.block k (by omega)
set_option maxRecDepth 100000 in
set_option maxHeartbeats 2000000 in
theorem findO_any (B:Nat) (f:Nat→Bool) (w:World) (hBw:B<w.heap.size)
  (hf:∀ k,k<13→∀ v,f k=v→∀ W:World,W.cell? ⟨B,0,none⟩=w.cell? ⟨B,0,none⟩→Calls Tryz.prog 116 #[.string (nameS (letterN k)),.pointer (some ⟨B,0,none⟩)] W fun e W'=>e=.returned (.bool v)∧Below W.heap.size W W') :
  Calls Tryz.prog 93 #[.func (.func 116) #[] #[.pointer (some ⟨B,0,none⟩)]] w fun e w'=>e=.returned (.string (findS f))∧Below w.heap.size w w':=by
 have hfn:∀ f,Fence.wide.fn f:=fun _=>trivial
 refine (callsIn_wide (n:=3)).1 ?_
 refine callsIn_of_wp_marks Tryz.func93 rfl trivial ?_ rfl
 simp only [Tryz.ntmps93,List.size_toArray,List.length_cons,List.length_nil,Nat.reduceAdd,Nat.reduceSub,Array.replicate_succ,Array.replicate_zero,List.push_toArray,List.append_toArray,List.nil_append,List.cons_append]
 gi_wp2_with (gi_at_call 108;refine (callsIn_wide.2 (Sp.split0_any 32 namesS _)).mono ?_;rintro e w' ⟨rfl,rfl⟩)
 obtain ⟨W0,hW0⟩:∃ W0,(((((w.alloc (.cells #[.func (.func 116) #[] #[.pointer (some ⟨B,0,none⟩)]] 31)).alloc (.cells #[.string { data:=#[] }] 9)).alloc
  (.cells #[.string namesS] 9)).alloc (.cells #[.string { data:=#[32] }] 9)).alloc (.cells #[.int .i64 0] 3))=W0:=⟨_,rfl⟩
 have hsz:W0.heap.size=w.heap.size+5:=by rw [← hW0];simp
 have hP0:FI w (.func (.func 116) #[] #[.pointer (some ⟨B,0,none⟩)]) f 0 W0:=by
  rw [← hW0]
  refine ⟨fun j hj=>by omega,((((Boxed.new w _ _).alloc _).alloc _).alloc _).alloc _,?_,?_,by simp⟩
  ·have:=(((Boxed.new (w.alloc (.cells #[(.func (.func 116) #[] #[.pointer (some ⟨B,0,none⟩)])] 31)) 9 (.string { data:=#[] })).alloc (.cells #[.string namesS] 9)).alloc (.cells #[.string { data:=#[32] }] 9)).alloc (.cells #[.int .i64 0] 3)
   rwa [World.size_alloc] at this
  ·exact (((((Below.refl _ w).alloc (Nat.le_refl _) _).alloc (by simp) _).alloc (by simp;omega) _).alloc (by simp;omega) _).alloc (by simp;omega) _
 have hX0:Sp.Boxes 32 (w.heap.size+1+1) namesS W0:=by
  have hz:((w.alloc (.cells #[.func (.func 116) #[] #[.pointer (some ⟨B,0,none⟩)]] 31)).alloc (.cells #[.string { data:=#[] }] 9)).heap.size=w.heap.size+1+1:=by simp
  obtain ⟨V,hV⟩:∃ V,((w.alloc (.cells #[.func (.func 116) #[] #[.pointer (some ⟨B,0,none⟩)]] 31)).alloc (.cells #[.string { data:=#[] }] 9))=V:=⟨_,rfl⟩
  rw [hV] at hz hW0
  rw [← hW0,← hz]
  have x1:=((Boxed.new V 9 (.string namesS)).alloc (.cells #[.string { data:=#[32] }] 9)).alloc (.cells #[.int .i64 0] 3)
  have x2:=(Boxed.new (V.alloc (.cells #[.string namesS] 9)) 9 (.string { data:=#[32] })).alloc (.cells #[.int .i64 0] 3)
  have x3:=Boxed.new ((V.alloc (.cells #[.string namesS] 9)).alloc (.cells #[.string { data:=#[32] }] 9)) 3 (.int .i64 0)
  rw [World.size_alloc] at x2
  rw [World.size_alloc,World.size_alloc] at x3
  exact ⟨x1.cell,x1.frozen,x2.cell,x3.cell⟩
 rw [hW0]
 clear hW0
 refine Ra.wpIn_range_made (own:=fun a=>a=⟨w.heap.size+1+1,0,none⟩) (by omega) (gf:=122) (fa:=#[]) (lb:=#[.pointer (some ⟨w.heap.size+1+1+1,0,none⟩),.pointer (some ⟨w.heap.size+1+1,0,none⟩),.pointer (some ⟨w.heap.size+1+1+2,0,none⟩)]) rfl (enters_of Tryz.func122 (by kernel_rfl) rfl) (fun a ha=>by subst ha;show w.heap.size+1+1<W0.heap.size;omega)
  (Sp.split_hands 32 2 (w.heap.size+1+1) namesS (by decide) W0 (by omega) hX0) Sp.KeepB.trans (Sp.keepB_b (by omega)) (fun _ _ _ _ h=>h) (fun _=>rfl)
  (fun pre W=>FI w (.func (.func 116) #[] #[.pointer (some ⟨B,0,none⟩)]) f pre.length W) (fun pre W=>FX w f pre.length W)
  (fun pre A B' row hs hg hr=>FI.turn hs hg (fun r e=>by have:=(hr r e).1;omega))
  (fun pre A B' row hs hg hr=>FX.turn hs hg (fun r e=>by have:=(hr r e).1;omega))
  (fun pre V a v ha hs=>by subst ha;exact FI.own hs v)
  (fun pre V V' hb hs=>FI.below hs hb)
  hP0
  (fun x=>{ tmps:=#[.func (.func 116) #[] #[.pointer (some ⟨B,0,none⟩)],.pointer (some ⟨w.heap.size,0,none⟩),.pointer (some ⟨w.heap.size+1,0,none⟩),.string (namesS.extract x.1.1 x.1.2),
   .func (.func 122) #[] #[.pointer (some ⟨w.heap.size+1+1+1,0,none⟩),.pointer (some ⟨w.heap.size+1+1,0,none⟩),.pointer (some ⟨w.heap.size+1+1+2,0,none⟩)],
   .string (namesS.extract x.1.1 x.1.2),undef,undef,undef,undef],defers:=[] }) ?assign ?body ?done ?stop
 case assign =>
  intro l x W K hK
  dsimp only [Sp.encP]
  gi_wp2
  exact hK
 case body =>
  rintro l pre x W hI hpre
  obtain ⟨hk,hx⟩:=names_at hpre
  have hx':namesS.extract x.1.1 x.1.2=nameS (letterN pre.length):=hx
  have hlen:=(lastN ⟨_,hk⟩).2.2.1
  simp only [] at hlen
  obtain ⟨k,hk'⟩:∃ k,pre.length=k:=⟨_,rfl⟩
  rw [hk'] at hk hx' hI hlen
  have HPL:=Lib.hid (show (pre++[x]).length=k+1 by rw [List.length_append,hk'];rfl)
  obtain ⟨t,ht⟩:∃ t,nameS (letterN k)=t:=⟨_,rfl⟩
  have HT:=Lib.hid ht
  rw [hx',ht]
  rw [ht] at hlen
  clear hx hx' hk' ht hpre
  have hcell:W.cell? ⟨B,0,none⟩=w.cell? ⟨B,0,none⟩:=hI.2.2.2.1.cell (p:=⟨B,0,none⟩) hBw
  obtain ⟨v,hv⟩:∃ v,f k=v:=⟨_,rfl⟩
  have hC:=hf k hk v hv W hcell
  rw [HT.out] at hC
  have HC:=Lib.hid hC
  have HV:=Lib.hid hv
  obtain ⟨b0,b1,b2,hB2,hsW⟩:=id hI
  have c1:=b1.cell
  clear hC hv hcell b0
  cases v
  ·gi_wp2_with (gi_at_call 116;refine (CallsIn.inRound l (callsIn_wide.2 HC.out)).mono ?_;rintro e W2 ⟨rfl,hb2⟩)
   have h2:=hI.below hb2
   refine ⟨Ba.keepsFrom_below hb2,keepB_below hb2 (by omega),?_⟩
   show FI w _ f (pre++[x]).length _
   rw [HPL.out]
   exact ⟨fun j hj=>by
    rcases Nat.lt_or_ge j k with h3 | h3
    ·exact h2.1 j h3
    ·obtain rfl:j=k:=by omega
     exact HV.out,h2.2⟩
  ·gi_wp2_with (gi_at_call 116;refine (CallsIn.inRound l (callsIn_wide.2 HC.out)).mono ?_;rintro e W2 ⟨rfl,hb2⟩;have d2:=(show Boxed W2 _ _ _ from (hb2.block _ b2.lt).trans b2);have e2:=d2.cell;have e3:=d2.frozen)
   have h2:=hI.below hb2
   refine ⟨(Ba.keepsFrom_below hb2).trans ((KeepsOthers.setCell _ _ _).from _),?_⟩
   show FX w f (pre++[x]).length _
   rw [HPL.out]
   exact ⟨k,rfl,hk,h2.1,HV.out,by rw [HT.out];exact d2.set _,h2.2.2.2.1.setCell (p:=⟨w.heap.size+1,0,none⟩) (by show w.heap.size≤w.heap.size+1;omega) _⟩
 case done =>
  rintro D W hD hI _ hK
  rw [names_len] at hI
  obtain ⟨a0,a1,a2,aB,hsW⟩:=hI
  have R:=Lib.hid (show ({ data:=#[] }:ByteArray)=findS f from (findS_none a0).symm)
  have c2:=a2.cell
  have f2:=a2.frozen
  clear a0
  gi_wp2
  have hK':=(KeepsOthers.setCell W ⟨w.heap.size+1,0,none⟩ (.string { data:=#[] })).same D _ hK rfl
  refine ⟨by simp,.inl ⟨_,_,rfl,run_takeDeferred hK',?_⟩⟩
  have k2:=cell_kept ((a2.set (.string { data:=#[] }))).cell (grownBy_putObj' _ D (.deferred none)) (fun r e=>by cases e;exact ⟨_,hK',rfl⟩)
  refine ⟨.string { data:=#[] },?_,Ba.ret_str R.out,?_⟩
  ·simp [results,Tryz.f93,go_sem,k2]
  ·exact (aB.setCell (p:=⟨w.heap.size+1,0,none⟩) (by show w.heap.size≤w.heap.size+1;omega) _).trans (belowK_b (w:=w) (Nat.le_refl _) _ D _ _ (by omega) hK' rfl rfl)
 case stop =>
  rintro D pre W hD hpre ⟨k,hn,hk,h0,h1,a2,aB⟩ hK
  have R:=Lib.hid (show nameS (letterN k)=findS f from (findS_at h0 hk h1).symm)
  clear h0 h1 hpre hn
  gi_wp2
  refine ⟨by simp,.inl ⟨_,_,rfl,run_takeDeferred hK,?_⟩⟩
  have k2:=cell_kept a2.cell (grownBy_putObj' _ D (.deferred none)) (fun r e=>by cases e;exact ⟨_,hK,rfl⟩)
  refine ⟨.string (nameS (letterN k)),?_,Ba.ret_str R.out,aB.trans (belowK_b (w:=w) (Nat.le_refl _) W D _ _ (by omega) hK rfl rfl)⟩
  simp [results,Tryz.f93,go_sem,k2]
set_option maxRecDepth 100000 in
set_option maxHeartbeats 2000000 in
theorem findN_any (B:Nat) (f:Nat→Bool) (w:World) (hBw:B<w.heap.size)
  (hf:∀ k,k<13→∀ v,f k=v→∀ W:World,W.cell? ⟨B,0,none⟩=w.cell? ⟨B,0,none⟩→Calls Tryz.prog 94 #[.string (nameS (letterN k)),.pointer (some ⟨B,0,none⟩)] W fun e W'=>e=.returned (.bool v)∧Below W.heap.size W W') :
  Calls Tryz.prog 93 #[.func (.func 94) #[] #[.pointer (some ⟨B,0,none⟩)]] w fun e w'=>e=.returned (.string (findS f))∧Below w.heap.size w w':=by
 have hfn:∀ f,Fence.wide.fn f:=fun _=>trivial
 refine (callsIn_wide (n:=3)).1 ?_
 refine callsIn_of_wp_marks Tryz.func93 rfl trivial ?_ rfl
 simp only [Tryz.ntmps93,List.size_toArray,List.length_cons,List.length_nil,Nat.reduceAdd,Nat.reduceSub,Array.replicate_succ,Array.replicate_zero,List.push_toArray,List.append_toArray,List.nil_append,List.cons_append]
 gi_wp2_with (gi_at_call 108;refine (callsIn_wide.2 (Sp.split0_any 32 namesS _)).mono ?_;rintro e w' ⟨rfl,rfl⟩)
 obtain ⟨W0,hW0⟩:∃ W0,(((((w.alloc (.cells #[.func (.func 94) #[] #[.pointer (some ⟨B,0,none⟩)]] 31)).alloc (.cells #[.string { data:=#[] }] 9)).alloc
  (.cells #[.string namesS] 9)).alloc (.cells #[.string { data:=#[32] }] 9)).alloc (.cells #[.int .i64 0] 3))=W0:=⟨_,rfl⟩
 have hsz:W0.heap.size=w.heap.size+5:=by rw [← hW0];simp
 have hP0:FI w (.func (.func 94) #[] #[.pointer (some ⟨B,0,none⟩)]) f 0 W0:=by
  rw [← hW0]
  refine ⟨fun j hj=>by omega,((((Boxed.new w _ _).alloc _).alloc _).alloc _).alloc _,?_,?_,by simp⟩
  ·have:=(((Boxed.new (w.alloc (.cells #[(.func (.func 94) #[] #[.pointer (some ⟨B,0,none⟩)])] 31)) 9 (.string { data:=#[] })).alloc (.cells #[.string namesS] 9)).alloc (.cells #[.string { data:=#[32] }] 9)).alloc (.cells #[.int .i64 0] 3)
   rwa [World.size_alloc] at this
  ·exact (((((Below.refl _ w).alloc (Nat.le_refl _) _).alloc (by simp) _).alloc (by simp;omega) _).alloc (by simp;omega) _).alloc (by simp;omega) _
 have hX0:Sp.Boxes 32 (w.heap.size+1+1) namesS W0:=by
  have hz:((w.alloc (.cells #[.func (.func 94) #[] #[.pointer (some ⟨B,0,none⟩)]] 31)).alloc (.cells #[.string { data:=#[] }] 9)).heap.size=w.heap.size+1+1:=by simp
  obtain ⟨V,hV⟩:∃ V,((w.alloc (.cells #[.func (.func 94) #[] #[.pointer (some ⟨B,0,none⟩)]] 31)).alloc (.cells #[.string { data:=#[] }] 9))=V:=⟨_,rfl⟩
  rw [hV] at hz hW0
  rw [← hW0,← hz]
  have x1:=((Boxed.new V 9 (.string namesS)).alloc (.cells #[.string { data:=#[32] }] 9)).alloc (.cells #[.int .i64 0] 3)
  have x2:=(Boxed.new (V.alloc (.cells #[.string namesS] 9)) 9 (.string { data:=#[32] })).alloc (.cells #[.int .i64 0] 3)
  have x3:=Boxed.new ((V.alloc (.cells #[.string namesS] 9)).alloc (.cells #[.string { data:=#[32] }] 9)) 3 (.int .i64 0)
  rw [World.size_alloc] at x2
  rw [World.size_alloc,World.size_alloc] at x3
  exact ⟨x1.cell,x1.frozen,x2.cell,x3.cell⟩
 rw [hW0]
 clear hW0
 refine Ra.wpIn_range_made (own:=fun a=>a=⟨w.heap.size+1+1,0,none⟩) (by omega) (gf:=122) (fa:=#[]) (lb:=#[.pointer (some ⟨w.heap.size+1+1+1,0,none⟩),.pointer (some ⟨w.heap.size+1+1,0,none⟩),.pointer (some ⟨w.heap.size+1+1+2,0,none⟩)]) rfl (enters_of Tryz.func122 (by kernel_rfl) rfl) (fun a ha=>by subst ha;show w.heap.size+1+1<W0.heap.size;omega)
  (Sp.split_hands 32 2 (w.heap.size+1+1) namesS (by decide) W0 (by omega) hX0) Sp.KeepB.trans (Sp.keepB_b (by omega)) (fun _ _ _ _ h=>h) (fun _=>rfl)
  (fun pre W=>FI w (.func (.func 94) #[] #[.pointer (some ⟨B,0,none⟩)]) f pre.length W) (fun pre W=>FX w f pre.length W)
  (fun pre A B' row hs hg hr=>FI.turn hs hg (fun r e=>by have:=(hr r e).1;omega))
  (fun pre A B' row hs hg hr=>FX.turn hs hg (fun r e=>by have:=(hr r e).1;omega))
  (fun pre V a v ha hs=>by subst ha;exact FI.own hs v)
  (fun pre V V' hb hs=>FI.below hs hb)
  hP0
  (fun x=>{ tmps:=#[.func (.func 94) #[] #[.pointer (some ⟨B,0,none⟩)],.pointer (some ⟨w.heap.size,0,none⟩),.pointer (some ⟨w.heap.size+1,0,none⟩),.string (namesS.extract x.1.1 x.1.2),
   .func (.func 122) #[] #[.pointer (some ⟨w.heap.size+1+1+1,0,none⟩),.pointer (some ⟨w.heap.size+1+1,0,none⟩),.pointer (some ⟨w.heap.size+1+1+2,0,none⟩)],
   .string (namesS.extract x.1.1 x.1.2),undef,undef,undef,undef],defers:=[] }) ?assign ?body ?done ?stop
 case assign =>
  intro l x W K hK
  dsimp only [Sp.encP]
  gi_wp2
  exact hK
 case body =>
  rintro l pre x W hI hpre
  obtain ⟨hk,hx⟩:=names_at hpre
  have hx':namesS.extract x.1.1 x.1.2=nameS (letterN pre.length):=hx
  have hlen:=(lastN ⟨_,hk⟩).2.2.1
  simp only [] at hlen
  obtain ⟨k,hk'⟩:∃ k,pre.length=k:=⟨_,rfl⟩
  rw [hk'] at hk hx' hI hlen
  have HPL:=Lib.hid (show (pre++[x]).length=k+1 by rw [List.length_append,hk'];rfl)
  obtain ⟨t,ht⟩:∃ t,nameS (letterN k)=t:=⟨_,rfl⟩
  have HT:=Lib.hid ht
  rw [hx',ht]
  rw [ht] at hlen
  clear hx hx' hk' ht hpre
  have hcell:W.cell? ⟨B,0,none⟩=w.cell? ⟨B,0,none⟩:=hI.2.2.2.1.cell (p:=⟨B,0,none⟩) hBw
  obtain ⟨v,hv⟩:∃ v,f k=v:=⟨_,rfl⟩
  have hC:=hf k hk v hv W hcell
  rw [HT.out] at hC
  have HC:=Lib.hid hC
  have HV:=Lib.hid hv
  obtain ⟨b0,b1,b2,hB2,hsW⟩:=id hI
  have c1:=b1.cell
  clear hC hv hcell b0
  cases v
  ·gi_wp2_with (gi_at_call 94;refine (CallsIn.inRound l (callsIn_wide.2 HC.out)).mono ?_;rintro e W2 ⟨rfl,hb2⟩)
   have h2:=hI.below hb2
   refine ⟨Ba.keepsFrom_below hb2,keepB_below hb2 (by omega),?_⟩
   show FI w _ f (pre++[x]).length _
   rw [HPL.out]
   exact ⟨fun j hj=>by
    rcases Nat.lt_or_ge j k with h3 | h3
    ·exact h2.1 j h3
    ·obtain rfl:j=k:=by omega
     exact HV.out,h2.2⟩
  ·gi_wp2_with (gi_at_call 94;refine (CallsIn.inRound l (callsIn_wide.2 HC.out)).mono ?_;rintro e W2 ⟨rfl,hb2⟩;have d2:=(show Boxed W2 _ _ _ from (hb2.block _ b2.lt).trans b2);have e2:=d2.cell;have e3:=d2.frozen)
   have h2:=hI.below hb2
   refine ⟨(Ba.keepsFrom_below hb2).trans ((KeepsOthers.setCell _ _ _).from _),?_⟩
   show FX w f (pre++[x]).length _
   rw [HPL.out]
   exact ⟨k,rfl,hk,h2.1,HV.out,by rw [HT.out];exact d2.set _,h2.2.2.2.1.setCell (p:=⟨w.heap.size+1,0,none⟩) (by show w.heap.size≤w.heap.size+1;omega) _⟩
 case done =>
  rintro D W hD hI _ hK
  rw [names_len] at hI
  obtain ⟨a0,a1,a2,aB,hsW⟩:=hI
  have R:=Lib.hid (show ({ data:=#[] }:ByteArray)=findS f from (findS_none a0).symm)
  have c2:=a2.cell
  have f2:=a2.frozen
  clear a0
  gi_wp2
  have hK':=(KeepsOthers.setCell W ⟨w.heap.size+1,0,none⟩ (.string { data:=#[] })).same D _ hK rfl
  refine ⟨by simp,.inl ⟨_,_,rfl,run_takeDeferred hK',?_⟩⟩
  have k2:=cell_kept ((a2.set (.string { data:=#[] }))).cell (grownBy_putObj' _ D (.deferred none)) (fun r e=>by cases e;exact ⟨_,hK',rfl⟩)
  refine ⟨.string { data:=#[] },?_,Ba.ret_str R.out,?_⟩
  ·simp [results,Tryz.f93,go_sem,k2]
  ·exact (aB.setCell (p:=⟨w.heap.size+1,0,none⟩) (by show w.heap.size≤w.heap.size+1;omega) _).trans (belowK_b (w:=w) (Nat.le_refl _) _ D _ _ (by omega) hK' rfl rfl)
 case stop =>
  rintro D pre W hD hpre ⟨k,hn,hk,h0,h1,a2,aB⟩ hK
  have R:=Lib.hid (show nameS (letterN k)=findS f from (findS_at h0 hk h1).symm)
  clear h0 h1 hpre hn
  gi_wp2
  refine ⟨by simp,.inl ⟨_,_,rfl,run_takeDeferred hK,?_⟩⟩
  have k2:=cell_kept a2.cell (grownBy_putObj' _ D (.deferred none)) (fun r e=>by cases e;exact ⟨_,hK,rfl⟩)
  refine ⟨.string (nameS (letterN k)),?_,Ba.ret_str R.out,aB.trans (belowK_b (w:=w) (Nat.le_refl _) W D _ _ (by omega) hK rfl rfl)⟩
  simp [results,Tryz.f93,go_sem,k2]
end Go.Proofs.YtmldpkigfhoalaaGreatDoor.Lx
namespace Go.Proofs.YtmldpkigfhoalaaGreatDoor.Lx
open Go.RowKit
theorem nonE (X:ByteArray) (h:0<X.size):X.toList.isEmpty=false∧(!X.toList.isEmpty)=true:=by
 have:X.toList.isEmpty=false:=by
  cases hX:X.toList with
  | nil =>
   rw [ByteArray.toList_eq] at hX
   have:=congrArg List.length hX
   rw [Array.length_toList] at this
   have h2:X.size=X.data.size:=rfl
   rw [h2] at h;simp at this;rw [this] at h;simp at h
  | cons a l=>rfl
 exact ⟨this,by rw [this];rfl⟩
theorem askN (c B:Nat) (w0:World) (h:w0.cell? ⟨B,0,none⟩=some (.int .u8 (c:Int))):∀ k,k<13→∀ v,decide (letterN k=c)=v→∀ W:World,W.cell? ⟨B,0,none⟩=w0.cell? ⟨B,0,none⟩ →
  Calls Tryz.prog 94 #[.string (nameS (letterN k)),.pointer (some ⟨B,0,none⟩)] W fun e W'=>e=.returned (.bool v)∧Below W.heap.size W W':=fun k hk v hv W hW=>by
 obtain ⟨l1,l2,l3,_⟩:=lastN ⟨k,hk⟩
 exact asksN_at (nameS (letterN k)) c (letterN k) l2 (by simp only [] at l3;omega) l1 v hv B W (hW.trans h)
theorem askO (b:ByteArray) (B:Nat) (w0:World) (h:w0.cell? ⟨B,0,none⟩=some (.string b)):∀ k,k<13→∀ v,decide (fits b 0 (letterN k))=v→∀ W:World,W.cell? ⟨B,0,none⟩=w0.cell? ⟨B,0,none⟩ →
  Calls Tryz.prog 116 #[.string (nameS (letterN k)),.pointer (some ⟨B,0,none⟩)] W fun e W'=>e=.returned (.bool v)∧Below W.heap.size W W':=fun k hk v hv W hW =>
 asksO_at b (nameS (letterN k)) v (by rw [prefix_fits];exact hv) B W (hW.trans h)
theorem findN_at (c:Nat) (hc:c<256) (B:Nat) (w:World) (hBw:B<w.heap.size) (h:w.cell? ⟨B,0,none⟩=some (.int .u8 (c:Int))) :
  Calls Tryz.prog 93 #[.func (.func 94) #[] #[.pointer (some ⟨B,0,none⟩)]] w fun e w'=>e=.returned (.string (nameS c))∧Below w.heap.size w w':=by
 have:=findN_any B (fun k=>decide (letterN k=c)) w hBw (askN c B w h)
 rwa [findS_name c hc] at this
theorem findO_at (b:ByteArray) (n:ByteArray) (hn:nameS (openC b 0)=n) (B:Nat) (w:World) (hBw:B<w.heap.size) (h:w.cell? ⟨B,0,none⟩=some (.string b)) :
  Calls Tryz.prog 93 #[.func (.func 116) #[] #[.pointer (some ⟨B,0,none⟩)]] w fun e w'=>e=.returned (.string n)∧Below w.heap.size w w':=by
 have:=findO_any B (fun k=>decide (fits b 0 (letterN k))) w hBw (askO b B w h)
 rwa [findS_open,hn] at this
set_option maxHeartbeats 1000000 in
theorem cname_any (c:Nat) (hc:c<256) (w:World) :
  Calls Tryz.prog 60 #[.int .u8 (c:Int)] w fun e w'=>e=.returned (.string (nameS c))∧Below w.heap.size w w':=by
 have hb0:Below w.heap.size w (w.alloc (.cells #[.int .u8 (c:Int)] 5)):=(Below.refl _ w).alloc (Nat.le_refl _) _
 go_enter Tryz.func60,Tryz.ntmps60
 go_wp2_with (go_at_call 93;refine (findN_at c hc w.heap.size _ (by simp) (by simp)).mono ?_;rintro e w2 ⟨rfl,hb2⟩)
 go_ret
 exact ⟨rfl,chain hb0 (by simp) hb2⟩
theorem ext_split (s:ByteArray) (p:Nat) (h:p≤s.size):s.extract 0 p++s.extract p s.size=s:=by
 rw [ext_cat s 0 p s.size (Nat.zero_le _) h];exact Ba.ext_all s
theorem ext_len (s:ByteArray) (p:Nat) (h:p≤s.size):(s.extract 0 p).size=p:=by rw [ext_size _ _ _ h];omega
theorem openC_behind (t:ByteArray) (h:0<t.size):openC (t.extract 1 t.size) 0=openC t 1:=by
 apply openC_congr
 intro k _
 have:=fits_right (t.extract 0 1) (t.extract 1 t.size) 0 (letterN k)
 rw [ext_split t 1 h,ext_len t 1 h] at this
 exact this.symm
theorem openC_letter {s:ByteArray} {p c:Nat} (h:openC s p=c) (hc:c≠0):∃ k:Fin 13,letterN k.val=c:=by
 subst h
 unfold openC at hc ⊢
 cases hff:(List.range 13).find? (fun k=>decide (fits s p (letterN k))) with
 | none=>rw [hff] at hc;exact absurd rfl hc
 | some k=>exact ⟨⟨k,List.mem_range.1 (List.mem_of_find?_eq_some hff)⟩,rfl⟩
theorem cwhite_at (c:Nat) (v:Bool) (h:c<256) (hv:Ka.whiteB (c:Int)=v) (w:World) (hL:Ka.Laid w) :
  Calls Tryz.prog 75 #[.int .u8 (c:Int)] w fun e w'=>e=.returned (.bool v)∧w=w':=hv▸Ka.white_any (c:Int) (by omega) (by omega) w hL
theorem cis_at (c:Nat) (v:Bool) (h:c<256) (hv:Ka.isB (c:Int)=v) (w:World) (hL:Ka.Laid w) :
  Calls Tryz.prog 89 #[.int .u8 (c:Int)] w fun e w'=>e=.returned (.bool v)∧w=w':=hv▸Ka.is_any (c:Int) (by omega) (by omega) w hL
theorem zero_cells {w w2:World} (hb:Below (w.heap.size+1) (w.alloc (.cells #[.int .i64 0,.int .u8 0,.string { data:=#[] },.int .i64 0] 62)) w2) :
  w2.cell? ⟨w.heap.size,0,none⟩=some (.int .i64 0)∧w2.cell? ⟨w.heap.size,1,none⟩=some (.int .u8 0)∧w2.cell? ⟨w.heap.size,2,none⟩=some (.string { data:=#[] })∧w2.cell? ⟨w.heap.size,3,none⟩=some (.int .i64 0)∧∀ i,w2.frozen? ⟨w.heap.size,i,none⟩=false:=by
 have hlt:w.heap.size<w.heap.size+1:=by omega
 exact ⟨(hb.cell (p:=⟨w.heap.size,0,none⟩) hlt).trans (by simp),(hb.cell (p:=⟨w.heap.size,1,none⟩) hlt).trans (by simp),(hb.cell (p:=⟨w.heap.size,2,none⟩) hlt).trans (by simp),(hb.cell (p:=⟨w.heap.size,3,none⟩) hlt).trans (by simp),
  fun i=>(hb.frozen (p:=⟨w.heap.size,i,none⟩) hlt).trans (by simp)⟩
theorem ret_ai {a:Value} {x y z z':Int} (h:x=y) (h':z=z'):Ending.returned (.tuple #[a,.int .i64 x,.int .i64 z])=.returned (.tuple #[a,.int .i64 y,.int .i64 z']):=by rw [h,h']
theorem ret_ag {k x y:Int} {m p:Int} {u v:ByteArray} {z:Int} (h:x=y) (hu:u=v):Ending.returned (.tuple #[.agg #[.int .i64 k,.int .u8 m,.string u,.int .i64 p],.int .i64 x,.int .i64 z])=.returned (.tuple #[.agg #[.int .i64 k,.int .u8 m,.string v,.int .i64 p],.int .i64 y,.int .i64 z]):=by rw [h,hu]
set_option maxHeartbeats 2000000 in
theorem opening_no (t:ByteArray) (h0:0<t.size) (h1:t.size≤70000) (hc:openC t 1=0) (w:World) :
  Calls Tryz.prog 110 #[.string t] w fun e w'=>e=.returned (.tuple #[.agg #[.int .i64 0,.int .u8 0,.string { data:=#[] },.int .i64 0],.int .i64 0,.int .i64 2])∧Below w.heap.size w w':=by
 have HN:=Lib.hid (show nameS (openC (t.extract 1 t.size) 0)={ data:=#[] } by rw [openC_behind t h0,hc];exact nameS_none)
 clear hc
 go_enter Tryz.func110,Tryz.ntmps110
 go_wp2_with fail
 refine (findO_at (t.extract 1 t.size) _ HN.out (w.heap.size+1) _ (by simp) (by simp)).mono ?_
 rintro e w2 ⟨rfl,hb2⟩
 have hb1:=((Below.refl (w.heap.size+1) (w.alloc (.cells #[.int .i64 0,.int .u8 0,.string { data:=#[] },.int .i64 0] 62))).alloc (by simp) (.cells #[.string (t.extract 1 t.size)] 9)).trans (hb2.mono (by simp))
 have hb0:=((Below.refl w.heap.size w).alloc (Nat.le_refl _) (.cells #[.int .i64 0,.int .u8 0,.string { data:=#[] },.int .i64 0] 62)).trans (hb1.mono (by omega))
 obtain ⟨k0,k1,k2,k3,kf⟩:=zero_cells hb1
 have f0:=kf 0
 have f1:=kf 1
 have f2:=kf 2
 have f3:=kf 3
 clear kf hb1 hb2
 go_wp2
 refine bodyPost_ret (v:=.tuple #[.agg #[.int .i64 0,.int .u8 0,.string { data:=#[] },.int .i64 0],.int .i64 0,.int .i64 2]) (by simp [results,Tryz.f110,go_sem,k0,k1,k2,k3]) rfl ⟨rfl,?_⟩
 exact (((hb0.setCell (Nat.le_refl _) _).setCell (Nat.le_refl _) _).setCell (Nat.le_refl _) _).setCell (Nat.le_refl _) _
set_option maxHeartbeats 4000000 in
theorem opening_yes (t:ByteArray) (h0:0<t.size) (h1:t.size≤70000) (c q:Nat) (hc:openC t 1=c) (hc0:c≠0) (hq:skip t (1+(nameS c).size)=q) (w:World) (hL:Ka.Laid w) :
  Calls Tryz.prog 110 #[.string t] w fun e w'=>e=.returned (.tuple #[.agg #[.int .i64 2,.int .u8 ((c:Nat):Int),.string { data:=#[] },.int .i64 0],.int .i64 ((q:Nat):Int),.int .i64 0])∧Below w.heap.size w w':=by
 obtain ⟨n,hn⟩:∃ n,nameS c=n:=⟨_,rfl⟩
 have hfit:=openC_fits (s:=t) (p:=1) (by rw [hc];exact hc0)
 obtain ⟨kl,hkl⟩:=openC_letter hc hc0
 obtain ⟨l1,l2,l3,l4⟩:=lastN kl
 rw [hkl,hn] at l1 l2 l3
 rw [hkl] at l4
 rw [hc] at hfit
 have hf1:=hfit.1
 rw [hn] at hf1 hq
 have HN:=Lib.hid (show nameS (openC (t.extract 1 t.size) 0)=n by rw [openC_behind t h0,hc];exact hn)
 have HL1:=Lib.hid l1
 have HQ:=Lib.hid hq
 obtain ⟨e1,e2⟩:=nonE n l2
 clear hfit hkl hn hc hc0 l1 hq
 go_enter Tryz.func110,Tryz.ntmps110
 go_wp2_with fail
 refine (findO_at (t.extract 1 t.size) _ HN.out (w.heap.size+1) _ (by simp) (by simp)).mono ?_
 rintro e w2 ⟨rfl,hb2⟩
 have hb1:=((Below.refl (w.heap.size+1) (w.alloc (.cells #[.int .i64 0,.int .u8 0,.string { data:=#[] },.int .i64 0] 62))).alloc (by simp) (.cells #[.string (t.extract 1 t.size)] 9)).trans (hb2.mono (by simp))
 have hb0:=((Below.refl w.heap.size w).alloc (Nat.le_refl _) (.cells #[.int .i64 0,.int .u8 0,.string { data:=#[] },.int .i64 0] 62)).trans (hb1.mono (by omega))
 have hL2:=hL.below hb0 hL.1
 obtain ⟨k0,k1,k2,k3,kf⟩:=zero_cells hb1
 have f0:=kf 0
 have f1:=kf 1
 have f2:=kf 2
 have f3:=kf 3
 clear kf hb1 hb2
 by_cases hlt:1+n.size<t.size
 ·have E2:=bAt_get t (1+n.size) hlt
  have h2:=bAt_lt t (1+n.size)
  have j0:(0:Int)≤1+(n.size:Int):=by omega
  have j1:(1:Int)+(n.size:Int)<(t.size:Int):=by omega
  have j2:((1:Int)+(n.size:Int)).toNat=1+n.size:=by omega
  obtain ⟨d,hd⟩:∃ d,bAt t (1+n.size)=d:=⟨_,rfl⟩
  rw [hd] at E2 h2
  by_cases hw:Ka.whiteB (d:Int)=true
  ·have HK:=Lib.hid (show q=1+n.size+1 by
    rw [← HQ.out];unfold skip white;rw [hd,if_pos ⟨hlt,hw⟩])
   have HW:=Lib.hid hw
   clear hd hw
   go_wp2_with (first
    |(go_at_call 75;refine (cwhite_at d true h2 HW.out _ hL2).mono ?_;rintro e w' ⟨rfl,rfl⟩)
    |(go_at_call 95;refine (letterOf_at n c l2 (by omega) HL1.out _).mono ?_;rintro e w' ⟨rfl,rfl⟩))
   refine bodyPost_ret (v:=.tuple #[.agg #[.int .i64 2,.int .u8 ((c:Nat):Int),.string { data:=#[] },.int .i64 0],.int .i64 (1+(n.size:Int)+1),.int .i64 0]) (by simp [results,Tryz.f110,go_sem,k0,k1,k2,k3]) rfl ⟨ret_ai (by have:=HK.out;omega) rfl,?_⟩
   exact (((hb0.setCell (Nat.le_refl _) _).setCell (Nat.le_refl _) _).setCell (Nat.le_refl _) _).setCell (Nat.le_refl _) _
  ·have hw':Ka.whiteB (d:Int)=false:=by simpa using hw
   have HK:=Lib.hid (show q=1+n.size by
    rw [← HQ.out];unfold skip white;rw [hd,if_neg (fun h=>hw h.2)])
   have HW:=Lib.hid hw'
   clear hd hw hw'
   go_wp2_with (first
    |(go_at_call 75;refine (cwhite_at d false h2 HW.out _ hL2).mono ?_;rintro e w' ⟨rfl,rfl⟩)
    |(go_at_call 95;refine (letterOf_at n c l2 (by omega) HL1.out _).mono ?_;rintro e w' ⟨rfl,rfl⟩))
   refine bodyPost_ret (v:=.tuple #[.agg #[.int .i64 2,.int .u8 ((c:Nat):Int),.string { data:=#[] },.int .i64 0],.int .i64 (1+(n.size:Int)),.int .i64 0]) (by simp [results,Tryz.f110,go_sem,k0,k1,k2,k3]) rfl ⟨ret_ai (by have:=HK.out;omega) rfl,?_⟩
   exact (((hb0.setCell (Nat.le_refl _) _).setCell (Nat.le_refl _) _).setCell (Nat.le_refl _) _).setCell (Nat.le_refl _) _
 ·have HK:=Lib.hid (show q=1+n.size by
   rw [← HQ.out];unfold skip;rw [if_neg (fun h=>hlt h.1)])
  have j1:decide ((1:Int)+(n.size:Int)<(t.size:Int))=false:=decide_eq_false (by omega)
  go_wp2_with (go_at_call 95;refine (letterOf_at n c l2 (by omega) HL1.out _).mono ?_;rintro e w' ⟨rfl,rfl⟩)
  refine bodyPost_ret (v:=.tuple #[.agg #[.int .i64 2,.int .u8 ((c:Nat):Int),.string { data:=#[] },.int .i64 0],.int .i64 (1+(n.size:Int)),.int .i64 0]) (by simp [results,Tryz.f110,go_sem,k0,k1,k2,k3]) rfl ⟨ret_ai (by have:=HK.out;omega) rfl,?_⟩
  exact (((hb0.setCell (Nat.le_refl _) _).setCell (Nat.le_refl _) _).setCell (Nat.le_refl _) _).setCell (Nat.le_refl _) _
end Go.Proofs.YtmldpkigfhoalaaGreatDoor.Lx
namespace Go.Proofs.YtmldpkigfhoalaaGreatDoor.Lx
open Go.RowKit
set_option maxHeartbeats 1000000 in
theorem clone_any (s:ByteArray) (h:s.size≤70000) (w:World):Calls Tryz.prog 118 #[.string s] w fun e w'=>e=.returned (.string s)∧Below w.heap.size w w':=by
 go_enter Tryz.func118,Tryz.ntmps118
 go_wp2_with (go_at_call 126;refine (Tryz.stringslite_Clone s _ (by omega)).mono ?_;rintro e w' ⟨rfl,hb⟩)
 go_ret
 exact ⟨rfl,hb⟩
set_option maxHeartbeats 2000000 in
theorem text_no (t:ByteArray) (h0:0<t.size) (_h1:t.size≤70000) (h:okT (bAt t 0)=false) (w:World) (hL:Ka.Laid w) :
  Calls Tryz.prog 111 #[.string t] w fun e w'=>e=.returned (.tuple #[.agg #[.int .i64 0,.int .u8 0,.string { data:=#[] },.int .i64 0],.int .i64 0,.int .i64 3])∧Below w.heap.size w w':=by
 have E1:=bAt_get t 0 h0
 have h256:=bAt_lt t 0
 obtain ⟨b,hb⟩:∃ b,bAt t 0=b:=⟨_,rfl⟩
 rw [hb] at E1 h256 h
 have hI:Ka.isB (b:Int)=false∧Ka.whiteB (b:Int)=false:=by unfold okT at h;simpa using h
 have HI:=Lib.hid hI.1
 have HW:=Lib.hid hI.2
 have hb0:Below w.heap.size w (w.alloc (.cells #[.int .i64 0,.int .u8 0,.string { data:=#[] },.int .i64 0] 62)):=(Below.refl w.heap.size w).alloc (Nat.le_refl _) _
 have hL2:=hL.below hb0 hL.1
 clear hb h hI
 go_enter Tryz.func111,Tryz.ntmps111
 go_wp2
 go_loop [3] (fun i=>i=.int .i64 0) (fun _=>0)
 case atStart=>rfl
 case round =>
  subst hrel
  go_wp2_with (first
   |(go_at_call 75;refine (cwhite_at b false h256 HW.out _ hL2).mono ?_;rintro e w' ⟨rfl,rfl⟩)
   |(go_at_call 89;refine (cis_at b false h256 HI.out _ hL2).mono ?_;rintro e w' ⟨rfl,rfl⟩))
  refine bodyPost_ret (v:=.tuple #[.agg #[.int .i64 0,.int .u8 0,.string { data:=#[] },.int .i64 0],.int .i64 0,.int .i64 3]) (by simp [results,Tryz.f111,go_sem]) rfl ⟨rfl,?_⟩
  exact hb0
set_option maxHeartbeats 4000000 in
theorem text_yes (t:ByteArray) (h0:0<t.size) (h1:t.size≤70000) (z:Nat) (h:okT (bAt t 0)=true) (hz:tend t 0=z) (w:World) (hL:Ka.Laid w) :
  Calls Tryz.prog 111 #[.string t] w fun e w'=>e=.returned (.tuple #[.agg #[.int .i64 1,.int .u8 0,.string (t.extract 0 z),.int .i64 0],.int .i64 ((z:Nat):Int),.int .i64 0])∧Below w.heap.size w w':=by
 have hT:=tend_is t 0 (Nat.zero_le _)
 rw [hz] at hT
 have hz0:0<z:=by
  rcases Nat.eq_zero_or_pos z with e | e
  ·have:=hT.2.2.2 (by omega)
   rw [e,h] at this;cases this
  ·exact e
 have HT:=Lib.hid hT
 have hb0:Below w.heap.size w (w.alloc (.cells #[.int .i64 0,.int .u8 0,.string { data:=#[] },.int .i64 0] 62)):=(Below.refl w.heap.size w).alloc (Nat.le_refl _) _
 have hL2:=hL.below hb0 hL.1
 clear h hz hT
 go_enter Tryz.func111,Tryz.ntmps111
 go_wp2
 go_loop [3] (fun i=>∃ k:Nat,k≤t.size∧i=.int .i64 k∧∀ j,j<k→okT (bAt t j)=true) (fun i=>t.size - (intOf i).toNat)
 case atStart=>exact ⟨0,by omega,rfl,fun j hj=>by omega⟩
 case round =>
  obtain ⟨k,hk,rfl,hj⟩:=hrel
  have HJ:=Lib.hid hj
  clear hj
  have fin:(k<t.size→okT (bAt t k)=false)→k=z:=fun h=>by
   obtain ⟨a1,a2,a3,a4⟩:=HT.out
   exact (show IsTend t 0 k from ⟨Nat.zero_le _,hk,fun j _ h2=>HJ.out j h2,h⟩).unique ⟨a1,a2,a3,a4⟩
  by_cases hlt:k<t.size
  ·have E1:=bAt_get t k hlt
   have h256:=bAt_lt t k
   obtain ⟨b,hb⟩:∃ b,bAt t k=b:=⟨_,rfl⟩
   rw [hb] at E1 h256
   by_cases hok:okT b=true
   ·have HJ2:=Lib.hid (show ∀ j,j<k+1→okT (bAt t j)=true from fun j h2=>by
     rcases Nat.lt_or_ge j k with h3 | h3
     ·exact HJ.out j h3
     ·obtain rfl:j=k:=by omega
      rw [hb];exact hok)
    obtain ⟨v1,hv1⟩:∃ v1,Ka.isB (b:Int)=v1:=⟨_,rfl⟩
    have HV1:=Lib.hid hv1
    have HV2:v1=false→Hid (Ka.whiteB (b:Int)=true):=fun e=>Lib.hid (by
     unfold okT at hok;rw [hv1,e] at hok;simpa using hok)
    clear hb hok hv1 fin
    cases v1
    ·have HV:=HV2 rfl
     clear HV2
     go_wp2_with (first
      |(go_at_call 75;refine (cwhite_at b true h256 HV.out _ hL2).mono ?_;rintro e w' ⟨rfl,rfl⟩)
      |(go_at_call 89;refine (cis_at b false h256 HV1.out _ hL2).mono ?_;rintro e w' ⟨rfl,rfl⟩))
     go_round
     case rel=>exact ⟨k+1,by omega,by go_num,HJ2.out⟩
     case measure=>simp [intOf];omega
    ·clear HV2
     go_wp2_with (go_at_call 89;refine (cis_at b true h256 HV1.out _ hL2).mono ?_;rintro e w' ⟨rfl,rfl⟩)
     go_round
     case rel=>exact ⟨k+1,by omega,by go_num,HJ2.out⟩
     case measure=>simp [intOf];omega
   ·have hok':okT b=false:=by simpa using hok
    have hkz:=fin (fun _=>by rw [hb];exact hok')
    have hI:Ka.isB (b:Int)=false∧Ka.whiteB (b:Int)=false:=by unfold okT at hok';simpa using hok'
    have HI:=Lib.hid hI.1
    have HW:=Lib.hid hI.2
    have HK:=Lib.hid hkz
    have hk0:0<k:=by omega
    have t0:((k:Int)==0)=false:=beq_eq_false_iff_ne.2 (by omega)
    have hes:=ext_size t 0 k (by omega)
    have hes2:(t.extract 0 k).size≤70000:=by omega
    clear hI hkz hb hok hok' fin hes
    go_wp2_with (first
     |(go_at_call 75;refine (cwhite_at b false h256 HW.out _ hL2).mono ?_;rintro e w' ⟨rfl,rfl⟩)
     |(go_at_call 89;refine (cis_at b false h256 HI.out _ hL2).mono ?_;rintro e w' ⟨rfl,rfl⟩)
     |(go_at_call 118;refine (clone_any _ hes2 _).mono ?_;rintro e w2 ⟨rfl,hb2⟩;have hb1:=hb2.mono (B':=w.heap.size+1) (by simp);obtain ⟨k0,k1,k2,k3,kf⟩:=zero_cells hb1;have f0:=kf 0;have f1:=kf 1;have f2:=kf 2;have f3:=kf 3;clear kf))
    refine bodyPost_ret (v:=.tuple #[.agg #[.int .i64 1,.int .u8 0,.string (t.extract 0 k),.int .i64 0],.int .i64 (k:Int),.int .i64 0]) (by simp [results,Tryz.f111,go_sem,k0,k1,k2,k3]) rfl ⟨ret_ag (by rw [HK.out]) (by rw [HK.out]),?_⟩
    exact ((((hb0.trans (hb2.mono (by simp))).setCell (Nat.le_refl _) _).setCell (Nat.le_refl _) _).setCell (Nat.le_refl _) _).setCell (Nat.le_refl _) _
  ·have hkz:=fin (fun h=>absurd h hlt)
   have HK:=Lib.hid hkz
   have hk0:0<k:=by omega
   have t0:((k:Int)==0)=false:=beq_eq_false_iff_ne.2 (by omega)
   have j1:decide (k<t.size)=false:=decide_eq_false hlt
   have hes:=ext_size t 0 k (by omega)
   have hes2:(t.extract 0 k).size≤70000:=by omega
   clear hkz fin hes
   go_wp2_with (go_at_call 118;refine (clone_any _ hes2 _).mono ?_;rintro e w2 ⟨rfl,hb2⟩;have hb1:=hb2.mono (B':=w.heap.size+1) (by simp);obtain ⟨k0,k1,k2,k3,kf⟩:=zero_cells hb1;have f0:=kf 0;have f1:=kf 1;have f2:=kf 2;have f3:=kf 3;clear kf)
   refine bodyPost_ret (v:=.tuple #[.agg #[.int .i64 1,.int .u8 0,.string (t.extract 0 k),.int .i64 0],.int .i64 (k:Int),.int .i64 0]) (by simp [results,Tryz.f111,go_sem,k0,k1,k2,k3]) rfl ⟨ret_ag (by rw [HK.out]) (by rw [HK.out]),?_⟩
   exact ((((hb0.trans (hb2.mono (by simp))).setCell (Nat.le_refl _) _).setCell (Nat.le_refl _) _).setCell (Nat.le_refl _) _).setCell (Nat.le_refl _) _
def aggX (x:Lx):Value:=.agg #[.int .i64 ((x.kind:Nat):Int),.int .u8 ((x.name:Nat):Int),.string x.text,.int .i64 ((x.place:Nat):Int)]
theorem below_set4 {B:Nat} {w W:World} (g:Nat) (h:Below B w W) (hg:B≤g) (a b c d:Value):Below B w ((((W.setCell ⟨g,0,none⟩ a).setCell ⟨g,1,none⟩ b).setCell ⟨g,2,none⟩ c).setCell ⟨g,3,none⟩ d) :=
 (((h.setCell (p:=⟨g,0,none⟩) hg _).setCell (p:=⟨g,1,none⟩) hg _).setCell (p:=⟨g,2,none⟩) hg _).setCell (p:=⟨g,3,none⟩) hg _
set_option maxHeartbeats 4000000 in
theorem first_yes (t:ByteArray) (h0:0<t.size) (h1:t.size≤70000) (x:Lx) (q:Nat) (hs:stepF t 0=.inl (x,q)) (w:World) (hL:Ka.Laid w) :
  Calls Tryz.prog 99 #[.string t] w fun e w'=>e=.returned (.tuple #[aggX x,.int .i64 ((q:Nat):Int),.int .i64 0])∧Below w.heap.size w w':=by
 have E1:=bAt_get t 0 h0
 have hb0:Below w.heap.size w (w.alloc (.cells #[.int .i64 0,.int .u8 0,.string { data:=#[] },.int .i64 0] 62)):=(Below.refl w.heap.size w).alloc (Nat.le_refl _) _
 have hL2:=hL.below hb0 hL.1
 obtain ⟨b,hb⟩:∃ b,bAt t 0=b:=⟨_,rfl⟩
 rw [hb] at E1
 by_cases b1:b=125
 ·rw [step_close (by rw [hb,b1])] at hs
  simp only [Sum.inl.injEq,Prod.mk.injEq] at hs
  obtain ⟨rfl,rfl⟩:=hs
  have t1:((b:Int)==123)=false:=beq_eq_false_iff_ne.2 (by omega)
  have t2:((b:Int)==125)=true:=beq_iff_eq.2 (by omega)
  clear hb b1
  go_enter Tryz.func99,Tryz.ntmps99
  go_wp2
  refine bodyPost_ret (v:=.tuple #[.agg #[.int .i64 3,.int .u8 0,.string { data:=#[] },.int .i64 0],.int .i64 1,.int .i64 0]) (by simp [results,Tryz.f99,go_sem]) rfl ⟨rfl,?_⟩
  first
   | exact below_set4 w.heap.size hb0 (Nat.le_refl _) _ _ _ _
   | exact (Below.refl w.heap.size w).alloc (Nat.le_refl _) _
 ·by_cases b2:b=123
  ·obtain ⟨c,hc⟩:∃ c,openC t 1=c:=⟨_,rfl⟩
   by_cases c0:c=0
   ·rw [step_none (by rw [hb,b2]) (by rw [Nat.zero_add,hc,c0])] at hs;cases hs
   rw [step_open (by rw [hb,b2]) (by rw [Nat.zero_add,hc];exact c0)] at hs
   simp only [Sum.inl.injEq,Prod.mk.injEq,Nat.zero_add,hc] at hs
   obtain ⟨rfl,hq⟩:=hs
   have HC:=Lib.hid hc
   have HQ:=Lib.hid hq
   have C0:=Lib.hid c0
   have t1:((b:Int)==123)=true:=beq_iff_eq.2 (by omega)
   clear hb b1 b2 hc hq c0
   go_enter Tryz.func99,Tryz.ntmps99
   go_wp2_with fail
   refine (opening_yes t h0 h1 c q HC.out C0.out HQ.out _ hL2).mono ?_
   rintro e w2 ⟨rfl,hb2⟩
   obtain ⟨k0,k1,k2,k3,kf⟩:=zero_cells (hb2.mono (by simp))
   have f0:=kf 0;have f1:=kf 1;have f2:=kf 2;have f3:=kf 3
   clear kf
   go_wp2
   refine bodyPost_ret (v:=.tuple #[.agg #[.int .i64 2,.int .u8 ((c:Nat):Int),.string { data:=#[] },.int .i64 0],.int .i64 ((q:Nat):Int),.int .i64 0]) (by simp [results,Tryz.f99,go_sem,k0,k1,k2,k3]) rfl ⟨rfl,?_⟩
   exact below_set4 w.heap.size (hb0.trans (hb2.mono (by simp))) (Nat.le_refl _) _ _ _ _
  ·have t1:((b:Int)==123)=false:=beq_eq_false_iff_ne.2 (by omega)
   have t2:((b:Int)==125)=false:=beq_eq_false_iff_ne.2 (by omega)
   by_cases hok:okT b=true
   ·rw [step_text (by rw [hb];exact hok)] at hs
    simp only [Sum.inl.injEq,Prod.mk.injEq] at hs
    obtain ⟨rfl,hq⟩:=hs
    rw [hq]
    have HQ:=Lib.hid hq
    have HO:=Lib.hid (show okT (bAt t 0)=true by rw [hb];exact hok)
    clear hb b1 b2 hq hok
    go_enter Tryz.func99,Tryz.ntmps99
    go_wp2_with fail
    refine (text_yes t h0 h1 q HO.out HQ.out _ hL2).mono ?_
    rintro e w2 ⟨rfl,hb2⟩
    obtain ⟨k0,k1,k2,k3,kf⟩:=zero_cells (hb2.mono (by simp))
    have f0:=kf 0;have f1:=kf 1;have f2:=kf 2;have f3:=kf 3
    clear kf
    go_wp2
    refine bodyPost_ret (v:=.tuple #[.agg #[.int .i64 1,.int .u8 0,.string (t.extract 0 q),.int .i64 0],.int .i64 ((q:Nat):Int),.int .i64 0]) (by simp [results,Tryz.f99,go_sem,k0,k1,k2,k3]) rfl ⟨rfl,?_⟩
    exact below_set4 w.heap.size (hb0.trans (hb2.mono (by simp))) (Nat.le_refl _) _ _ _ _
   ·rw [step_bad (by rw [hb];exact b1) (by rw [hb];exact b2) (by rw [hb];simpa using hok)] at hs;cases hs
set_option maxHeartbeats 4000000 in
theorem first_no (t:ByteArray) (h0:0<t.size) (h1:t.size≤70000) (z:Nat) (hs:stepF t 0=.inr z) (w:World) (hL:Ka.Laid w) :
  Calls Tryz.prog 99 #[.string t] w fun e w'=>e=.returned (.tuple #[.agg #[.int .i64 0,.int .u8 0,.string { data:=#[] },.int .i64 0],.int .i64 0,.int .i64 ((z:Nat):Int)])∧Below w.heap.size w w':=by
 have E1:=bAt_get t 0 h0
 have hb0:Below w.heap.size w (w.alloc (.cells #[.int .i64 0,.int .u8 0,.string { data:=#[] },.int .i64 0] 62)):=(Below.refl w.heap.size w).alloc (Nat.le_refl _) _
 have hL2:=hL.below hb0 hL.1
 obtain ⟨b,hb⟩:∃ b,bAt t 0=b:=⟨_,rfl⟩
 rw [hb] at E1
 by_cases b1:b=125
 ·rw [step_close (by rw [hb,b1])] at hs;cases hs
 by_cases b2:b=123
 ·by_cases c0:openC t 1=0
  ·rw [step_none (by rw [hb,b2]) (by rw [Nat.zero_add];exact c0)] at hs
   cases hs
   have C0:=Lib.hid c0
   have t1:((b:Int)==123)=true:=beq_iff_eq.2 (by omega)
   clear hb b1 b2 c0
   go_enter Tryz.func99,Tryz.ntmps99
   go_wp2_with fail
   refine (opening_no t h0 h1 C0.out _).mono ?_
   rintro e w2 ⟨rfl,hb2⟩
   obtain ⟨k0,k1,k2,k3,kf⟩:=zero_cells (hb2.mono (by simp))
   have f0:=kf 0;have f1:=kf 1;have f2:=kf 2;have f3:=kf 3
   clear kf
   go_wp2
   refine bodyPost_ret (v:=.tuple #[.agg #[.int .i64 0,.int .u8 0,.string { data:=#[] },.int .i64 0],.int .i64 0,.int .i64 2]) (by simp [results,Tryz.f99,go_sem,k0,k1,k2,k3]) rfl ⟨rfl,?_⟩
   exact below_set4 w.heap.size (hb0.trans (hb2.mono (by simp))) (Nat.le_refl _) _ _ _ _
  ·rw [step_open (by rw [hb,b2]) (by rw [Nat.zero_add];exact c0)] at hs;cases hs
 ·have t1:((b:Int)==123)=false:=beq_eq_false_iff_ne.2 (by omega)
  have t2:((b:Int)==125)=false:=beq_eq_false_iff_ne.2 (by omega)
  by_cases hok:okT b=true
  ·rw [step_text (by rw [hb];exact hok)] at hs;cases hs
  ·rw [step_bad (by rw [hb];exact b1) (by rw [hb];exact b2) (by rw [hb];simpa using hok)] at hs
   cases hs
   have HO:=Lib.hid (show okT (bAt t 0)=false by rw [hb];simpa using hok)
   clear hb b1 b2 hok
   go_enter Tryz.func99,Tryz.ntmps99
   go_wp2_with fail
   refine (text_no t h0 h1 HO.out _ hL2).mono ?_
   rintro e w2 ⟨rfl,hb2⟩
   obtain ⟨k0,k1,k2,k3,kf⟩:=zero_cells (hb2.mono (by simp))
   have f0:=kf 0;have f1:=kf 1;have f2:=kf 2;have f3:=kf 3
   clear kf
   go_wp2
   refine bodyPost_ret (v:=.tuple #[.agg #[.int .i64 0,.int .u8 0,.string { data:=#[] },.int .i64 0],.int .i64 0,.int .i64 3]) (by simp [results,Tryz.f99,go_sem,k0,k1,k2,k3]) rfl ⟨rfl,?_⟩
   exact below_set4 w.heap.size (hb0.trans (hb2.mono (by simp))) (Nat.le_refl _) _ _ _ _
end Go.Proofs.YtmldpkigfhoalaaGreatDoor.Lx
