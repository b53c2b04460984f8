/-
  Put together: SpL, SpN.
-/
import Derived.Test.YtgpihfacmpbpaaaGreatDoorVg
import Derived.Test.YtgpihfacmpbpaaaGreatDoorShelf
import Derived.Shelf.Abstract
import Derived.Shelf.RegionOpen
import Derived.OwnWalkIn
import Derived.TacticsInMore
import Derived.LoopNIn
import Derived.LoopIn
namespace Go.Proofs.YtgpihfacmpbpaaaGreatDoor.Sp
open Go.RowKit Ba
def dsh (c:UInt8) (s:ByteArray):Nat→Nat→Nat
 | 0,e=>e
 | n+1,e=>if e<s.size∧bT s e≠c.toNat then dsh c s n (e+1) else e
def dash (c:UInt8) (s:ByteArray) (f:Nat):Nat:=dsh c s s.size f
def CB (c:UInt8) (s:ByteArray) (f e:Nat):Prop:=f≤e∧e≤s.size∧(∀ j,f≤j→j<e→bT s j≠c.toNat)∧(e<s.size→bT s e=c.toNat)
theorem XC (c:UInt8) (s:ByteArray) (f:Nat):∀ n e,s.size - e≤n→f≤e→e≤s.size→(∀ j,f≤j→j<e→bT s j≠c.toNat)→CB c s f (dsh c s n e)
 | 0,e,hn,hf,he,hj=>⟨hf,he,hj,fun h=>by have:dsh c s 0 e=e:=rfl;omega⟩
 | n+1,e,hn,hf,he,hj=>by
  unfold dsh
  by_cases h:e<s.size∧bT s e≠c.toNat
  ·rw[if_pos h]
   refine XC c s f n (e+1) (by omega) (by omega) (by omega) (fun j h1 h2=>?_)
   rcases Nat.lt_or_ge j e with h3 | h3
   ·exact hj j h1 h3
   ·obtain rfl:j=e:=by omega
    exact h.2
  ·rw[if_neg h]
   exact⟨hf,he,hj,fun h3=>Classical.byContradiction fun h4=>h ⟨h3,h4⟩⟩
theorem gO (c:UInt8) (s:ByteArray) (f:Nat) (h:f≤s.size):CB c s f (dash c s f):=XC c s f s.size f (by omega) (Nat.le_refl _) h (fun j h1 h2=>by omega)
theorem CB.unique {c:UInt8} {s:ByteArray} {f e e':Nat} (h:CB c s f e) (h':CB c s f e'):e=e':=by
 obtain⟨a1,a2,a3,a4⟩:=h
 obtain⟨b1,b2,b3,b4⟩:=h'
 rcases Nat.lt_trichotomy e e' with h | h | h
 ·exact absurd (a4 (by omega)) (b3 e (by omega) h)
 ·exact h
 ·exact absurd (b4 (by omega)) (a3 e' (by omega) h)
theorem NL (c:UInt8) (s:ByteArray) (f:Nat) (hf:f≤s.size) :
  Lib.indexByte (s.extract f s.size).data.toList c=if dash c s f<s.size then (((dash c s f - f:Nat)):Int) else -1:=by
 have hD:=gO c s f hf
 have hz:=fH s f s.size (Nat.le_refl _)
 have hge:=Lib.indexByte_ge (s.extract f s.size).data.toList c
 have val:∀ k (hk:k<(s.extract f s.size).size),((s.extract f s.size)[k]'hk).toNat=bT s (f+k):=fun k hk=>by
  rw[cJ _ k hk,YW s f s.size k (Nat.le_refl _) (by omega)]
 by_cases h1:Lib.indexByte (s.extract f s.size).data.toList c = -1
 ·have hn:=Lib.indexByte_none h1
  have he:dash c s f=s.size:=hD.unique ⟨hf,Nat.le_refl _,fun j h2 h3 h4=>by
   have hk:j - f<(s.extract f s.size).size:=by omega
   refine hn (j - f) ?_
   rw[wK _ _ hk]
   have:=val (j - f) hk
   rw[show f+(j - f)=j from by omega,h4]at this
   exact congrArg some (UInt8.toNat_inj.1 this),fun h=>absurd h (by omega)⟩
  rw[h1,if_neg (by omega)]
 ·obtain⟨o,ho⟩:∃ o:Nat,Lib.indexByte (s.extract f s.size).data.toList c=o:=⟨_,(Int.toNat_of_nonneg (by omega)).symm⟩
  obtain⟨hs1,hs2⟩:=Lib.indexByte_some ho
  have hlt:o<(s.extract f s.size).size:=by
   have:=(List.getElem?_eq_some_iff.1 hs1).1
   simpa using this
  have e1:bT s (f+o)=c.toNat:=by
   rw[wK _ _ hlt]at hs1
   rw[← val o hlt,Option.some.inj hs1]
  have he:dash c s f=f+o:=hD.unique ⟨by omega,by omega,fun j h2 h3 h4=>by
   have hk:j - f<(s.extract f s.size).size:=by omega
   refine hs2 (j - f) (by omega) ?_
   rw[wK _ _ hk]
   have:=val (j - f) hk
   rw[show f+(j - f)=j from by omega,h4]at this
   exact congrArg some (UInt8.toNat_inj.1 this),fun _=>e1⟩
  rw[ho,if_pos (by omega),he,Nat.add_sub_cancel_left]
abbrev Pt (s:ByteArray):={ x:Nat × Nat // x.1≤x.2∧x.2≤s.size }
def hH (c:UInt8) (s:ByteArray):Nat→Nat→List (Pt s)
 | 0,_=>[]
 | n+1,f=>if h:f≤s.size then ⟨(f,dash c s f),(gO c s f h).1,(gO c s f h).2.1⟩::(if dash c s f<s.size then hH c s n (dash c s f+1) else []) else []
def dD (c:UInt8) (s:ByteArray) (f:Nat):List (Pt s):=hH c s (s.size+1) f
theorem zB (c:UInt8) (s:ByteArray):∀ n m f,s.size+1 - f≤n→s.size+1 - f≤m→hH c s n f=hH c s m f
 | 0,0,_,_,_=>rfl
 | 0,m+1,f,hn,hm=>by unfold hH;rw[dif_neg (by omega)]
 | n+1,0,f,hn,hm=>by unfold hH;rw[dif_neg (by omega)]
 | n+1,m+1,f,hn,hm=>by
  unfold hH
  by_cases h:f≤s.size
  ·rw[dif_pos h,dif_pos h]
   have:=(gO c s f h).1
   congr 1
   split
   ·exact zB c s n m (dash c s f+1) (by omega) (by omega)
   ·rfl
  ·rw[dif_neg h,dif_neg h]
theorem iL (c:UInt8) (s:ByteArray) (f:Nat) (h:f≤s.size):dD c s f=⟨(f,dash c s f),(gO c s f h).1,(gO c s f h).2.1⟩::(if dash c s f<s.size then dD c s (dash c s f+1) else []):=by
 have h1:=(gO c s f h).1
 have h2:=(gO c s f h).2.1
 unfold dD
 conv=>lhs;unfold hH
 rw[dif_pos h]
 congr 1
 split
 ·exact zB c s _ _ _ (by omega) (by omega)
 ·rfl
def fC (c:UInt8) (s:ByteArray) (pre:List (Pt s)) (f:Nat):Prop:=dD c s 0=pre++dD c s f
theorem fC.zero (c:UInt8) (s:ByteArray):fC c s [] 0:=rfl
theorem fC.succ {c:UInt8} {s:ByteArray} {pre:List (Pt s)} {f:Nat} (h:fC c s pre f) (hf:f≤s.size) (hd:dash c s f<s.size) :
  fC c s (pre++[⟨(f,dash c s f),(gO c s f hf).1,(gO c s f hf).2.1⟩]) (dash c s f+1):=by
 unfold fC at h ⊢;rw[h,iL c s f hf,if_pos hd];simp
theorem fC.last {c:UInt8} {s:ByteArray} {pre:List (Pt s)} {f:Nat} (h:fC c s pre f) (hf:f≤s.size) (hd:¬ dash c s f<s.size) :
  dD c s 0=pre++[⟨(f,dash c s f),(gO c s f hf).1,(gO c s f hf).2.1⟩]:=by
 unfold fC at h;rw[h,iL c s f hf,if_neg hd]
theorem fC.next {c:UInt8} {s:ByteArray} {pre:List (Pt s)} {f:Nat} (h:fC c s pre f) (hf:f≤s.size):pre++[⟨(f,dash c s f),(gO c s f hf).1,(gO c s f hf).2.1⟩] <+: dD c s 0:=by
 unfold fC at h;rw[h,iL c s f hf];exact⟨_,by rw[List.append_assoc];rfl⟩
end Go.Proofs.YtgpihfacmpbpaaaGreatDoor.Sp
namespace Go.Proofs.YtgpihfacmpbpaaaGreatDoor.Sp
open Go.RowKit Go.Shelf Ba Ra
attribute [local go_sem] Oper.semAt_some
def L5 (s:ByteArray) (x:Pt s):Array Value:=#[.string (s.extract x.1.1 x.1.2)]
def tN (Bs:Nat) (W W':World):Prop:=∀ k,Bs≤k→k<Bs+3→W'.heap[k]?=W.heap[k]?
theorem tN.trans {Bs:Nat} {A B C:World} (h:tN Bs A B) (k:tN Bs B C):tN Bs A C:=fun i h1 h2=>(k i h1 h2).trans (h i h1 h2)
theorem ZW {Bs:Nat} {w:World} (hn:Bs+3≤w.heap.size) (W:World) (l:Nat) (o o':Obj) (hl:w.heap.size≤l) (_:W.heap[l]?=some o) (_:o.isCells=false) (_:o.isWalk=false):tN Bs W (W.putObj l o') :=
 fun i _ h2=>World.putObj_heap_other (by omega)
def qQ (c:UInt8) (Bs:Nat) (t:ByteArray) (W:World):Prop :=
 W.cell? ⟨Bs,0,none⟩=some (.string t)∧W.frozen? ⟨Bs,0,none⟩=false∧W.cell? ⟨Bs+1,0,none⟩=some (.string { data:=#[c] })∧W.cell? ⟨Bs+2,0,none⟩=some (.int .i64 0)
theorem qQ.vM {c:UInt8} {Bs:Nat} {t:ByteArray} {W W':World} (h:qQ c Bs t W) (k:tN Bs W W'):qQ c Bs t W' :=
 ⟨(World.cell?_of_block (w:=W) (k Bs (by omega) (by omega))).trans h.1,(World.frozen?_of_block (w:=W) (k Bs (by omega) (by omega))).trans h.2.1,(World.cell?_of_block (w:=W) (k (Bs+1) (by omega) (by omega))).trans h.2.2.1,(World.cell?_of_block (w:=W) (k (Bs+2) (by omega) (by omega))).trans h.2.2.2⟩
theorem qQ.set {c:UInt8} {Bs:Nat} {t:ByteArray} {W:World} (h:qQ c Bs t W) (t':ByteArray):qQ c Bs t' (W.setCell ⟨Bs,0,none⟩ (.string t')) :=
 ⟨World.cell?_setCell_same' _ _ _ (by rw[h.1];rfl),by rw[World.frozen?_setCell];exact h.2.1,
  (World.cell?_setCell_other _ _ _ _ (fun he=>by injection he with h1 _;omega)).trans h.2.2.1,(World.cell?_setCell_other _ _ _ _ (fun he=>by injection he with h1 _;omega)).trans h.2.2.2⟩
def GC (Bs:Nat) (W:World):Nat:=match W.cell? ⟨Bs,0,none⟩with | some (.string t)=>t.size | _=>0
theorem CC {c:UInt8} {Bs:Nat} {t:ByteArray} {W:World} (h:qQ c Bs t W):GC Bs W=t.size:=by unfold GC;rw[h.1]
theorem vJ (c:UInt8) (t:ByteArray) (z:Int) (hz:Lib.indexByte t.data.toList c=z) (w:World) :
  Calls Tryz.prog 133 #[.string t,.string { data:=#[c] }] w fun e w'=>e=.returned (.int .i64 z)∧w=w' :=
 (Tryz.strings_Index_one t c w).mono fun _ _ ⟨he,hw⟩=>⟨by rw[he,hz],hw.symm⟩
set_option maxRecDepth 100000 in
set_option maxHeartbeats 2000000 in
theorem SS (c:UInt8) (n:Nat) (l Bs:Nat) (s:ByteArray) (hs:s.size≤70000) (J Jx:List (Pt s)→World→Prop)
  (hJo:∀ pre V a v,a=⟨Bs,0,none⟩→J pre V→J pre (V.setCell a v))
  (hY:∀ pre x W,J pre W→pre++[x] <+: dD c s 0→YieldAt Fence.wide (n - 1) Tryz.prog l (L5 s x) W fun e W' =>
   (e=.returned (.bool true)∧J (pre++[x]) W'∧tN Bs W W')∨(e=.returned (.bool false)∧Jx (pre++[x]) W'))
  (W:World) (hB:qQ c Bs s W) (h0:J [] W) :
  CallsIn Fence.wide n Tryz.prog 131 #[.func (.yield l) #[] #[],.pointer (some ⟨Bs+1,0,none⟩),.pointer (some ⟨Bs,0,none⟩),.pointer (some ⟨Bs+2,0,none⟩)] W fun e W'=>(∃ v,e=.returned v) ∧
   ((J (dD c s 0) W'∧True)∨(∃ pre,pre <+: dD c s 0∧Jx pre W')):=by
 have hsep:=hB.2.2.1
 refine callsIn_of_wp Tryz.func131 rfl trivial ?_ rfl
 simp only[Tryz.ntmps131,List.size_toArray,List.length_cons,List.length_nil,Nat.reduceAdd,Nat.reduceSub,Array.replicate_succ,Array.replicate_zero,List.push_toArray,List.append_toArray,List.nil_append,List.cons_append]
 gi_wp2
 clear hsep
 gi_loopw [] (fun wr=>∃ (pre:List (Pt s)) (f:Nat),f≤s.size∧fC c s pre f∧J pre wr∧qQ c Bs (s.extract f s.size) wr)
  (fun wr=>GC Bs wr)
 case atStart=>exact⟨[],0,by omega,fC.zero c s,h0,by rw[OE];exact hB⟩
 case round =>
  obtain⟨pre,f,hf,hcm,hJs,hBr⟩:=hrel
  obtain⟨c1,c2,c3,c4⟩:=hBr
  have hI:=NL c s f hf
  obtain⟨d1,d2,_,_⟩:=gO c s f hf
  have hz:=fH s f s.size (Nat.le_refl _)
  obtain⟨fn,tmps,assign,body,hy,hR⟩:=hY pre ⟨(f,dash c s f),d1,d2⟩ wr hJs (hcm.next hf)
  dsimp only[L5]at hy
  by_cases hlt:dash c s f<s.size
  ·rw[if_pos hlt]at hI
   have hcs:=hcm.succ hf hlt
   rw[← QB s f (dash c s f) d1 d2]at hy
   have HB:=Lib.hid (T4 s f (dash c s f - f+1) hf)
   obtain⟨t,ht⟩:∃ t,s.extract f s.size=t:=⟨_,rfl⟩
   have hBr:qQ c Bs t wr:=by rw[← ht];exact⟨c1,c2,c3,c4⟩
   rw[ht]at c1 hI hy hz HB
   obtain⟨o,ho⟩:∃ o,dash c s f - f=o:=⟨_,rfl⟩
   rw[ho]at hI hy HB
   have hot:o+1≤t.size:=by omega
   have hts:t.size≤70000:=by omega
   have HI:=Lib.hid hI
   have HO:=Lib.hid ho
   have HZ:=Lib.hid hz
   clear hI ht ho hz
   gi_wp2_with (refine⟨trivial,fun h=>Bool.noConfusion h,?_⟩;gi_at_call 133;refine(callsIn_wide.2 (vJ c t _ HI.out wr)).mono ?_;rintro e w' ⟨rfl,rfl⟩)
   refine⟨fun h=>Bool.noConfusion h,hR.mono ?_⟩
   rintro e W3 (⟨rfl,hJ3,hk3⟩ | ⟨rfl,hJx3⟩)
   ·have hB3:=hBr.vM hk3
    obtain⟨e1,e2,e3,e4⟩:=id hB3
    gi_wp2
    go_roundw
    case rel=>exact⟨_,_,by omega,hcs,hJo _ _ _ _ rfl hJ3,by
     have h2:t.extract (o+1) t.size=s.extract (dash c s f+1) s.size:=by
      rw[HB.out]
      congr 1
      have:=HO.out
      omega
     rw[← h2]
     exact hB3.set _⟩
    case measure =>
     have hm:(t.extract (o+1) t.size).size<t.size:=by rw[fH _ _ _ (Nat.le_refl _)];omega
     rw[CC hBr]
     exact(CC (hB3.set _)).symm▸hm
   ·gi_wp2
    refine bodyPost_ret (results_none rfl _ _ _) rfl ?_
    exact⟨⟨_,rfl⟩,.inr ⟨_,hcm.next hf,hJx3⟩⟩
  ·rw[if_neg hlt]at hI
   have hall:=hcm.last hf hlt
   have hds:dash c s f=s.size:=by omega
   obtain⟨t,ht⟩:∃ t,s.extract f s.size=t:=⟨_,rfl⟩
   have hpt:s.extract f (dash c s f)=t:=by rw[hds,ht]
   rw[hpt]at hy
   rw[ht]at c1 hI
   have HI:=Lib.hid hI
   clear hI ht hds hpt
   gi_wp2_with (refine⟨trivial,fun h=>Bool.noConfusion h,?_⟩;gi_at_call 133;refine(callsIn_wide.2 (vJ c t _ HI.out wr)).mono ?_;rintro e w' ⟨rfl,rfl⟩)
   refine⟨fun h=>Bool.noConfusion h,hR.mono ?_⟩
   rintro e W3 (⟨rfl,hJ3,hk3⟩ | ⟨rfl,hJx3⟩)
   ·gi_wp2
    go_end0
    exact⟨⟨_,rfl⟩,.inl ⟨by rw[hall];exact hJ3,trivial⟩⟩
   ·gi_wp2
    go_end0
    exact⟨⟨_,rfl⟩,.inr ⟨_,hcm.next hf,hJx3⟩⟩
set_option maxHeartbeats 1000000 in
theorem MI (c:UInt8) (s:ByteArray) (w:World) :
  Calls Tryz.prog 127 #[.string s,.string { data:=#[c] }] w fun e w'=>e=.returned (.func (.func 131) #[] #[.pointer (some ⟨w.heap.size+1,0,none⟩),.pointer (some ⟨w.heap.size,0,none⟩),.pointer (some ⟨w.heap.size+2,0,none⟩)]) ∧
   w'=((w.alloc (.cells #[.string s] 9)).alloc (.cells #[.string { data:=#[c] }] 9)).alloc (.cells #[.int .i64 0] 3):=by
 go_enter Tryz.func127,Tryz.ntmps127
 go_wp2
 go_ret
 exact⟨rfl,rfl⟩
theorem JP (c:UInt8) (n:Nat) (Bs:Nat) (s:ByteArray) (hs:s.size≤70000) (w:World) (hw:Bs+3≤w.heap.size) (hB:qQ c Bs s w) :
  DS Tryz.prog n 131 #[] #[.pointer (some ⟨Bs+1,0,none⟩),.pointer (some ⟨Bs,0,none⟩),.pointer (some ⟨Bs+2,0,none⟩)] (fun a=>a=⟨Bs,0,none⟩) (L5 s) (tN Bs) (dD c s 0) (fun _=>True) w:=fun l J Jx W hW hJo _ hY h0 =>
 SS c n l Bs s hs J Jx hJo hY W (hB.vM fun k _ h2=>hW.block k (by omega)) h0
end Go.Proofs.YtgpihfacmpbpaaaGreatDoor.Sp
