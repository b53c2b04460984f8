/-
  Put together.
-/
import Derived.Test.YthbigkoihpgcfaaGreatDoorRows
import Derived.WalkKit
import Derived.WalkSpells
import Derived.WalkLawsBesides
import Derived.Lib.Hide
import Derived.Outline
import Derived.RangeFuncNested
import Derived.RangeFuncBound
import Derived.RangeFuncCalls
import Derived.RangeFuncLeaves
import Derived.RangeFuncBox
import Derived.Shelf.Abstract
import Derived.Shelf.RegionOpen
import Derived.OwnWalkIn
import Derived.TacticsInMore
import Derived.LoopNIn
import Derived.LoopIn
import Derived.Maps.AppendAt
open Go.Lib (hid)
set_option maxRecDepth 100000
set_option maxHeartbeats 16000000
namespace Go.Proofs.YthbigkoihpgcfaaGreatDoor.Hc
open Go.RowKit
def fZ:List Nat:=[46,44,59,58,33,63,39,34,45,40,41,47]
def fJ (n:Nat):Nat :=
 if 97≤n∧n≤122 then 1 else if 65≤n∧n≤90 then 2 else if 48≤n∧n≤57 then 3
 else if n=32 then 5 else if n=10 then 6 else if fZ.contains n then 4 else 0
def cls (c:Int):Int:=(fJ c.toNat:Int)
def yJ (i:Nat):Nat:=[6597069766656,0,4919056986126943301,4611761005120402227,2459565876494606880,2345624805922,1229782938247303440,1172812402961,0,0,0,0,0,0,0,0].getD i 0
def Laid (w:World):Prop:=2<w.heap.size∧∀ i:Nat,i<16→w.cell? ⟨2,i,none⟩=some (.int .u64 (yJ i:Int))
theorem Laid.below {w w':World} {B:Nat} (h:Laid w) (hb:Below B w w') (hB:2<B):Laid w' :=
 ⟨Nat.lt_of_lt_of_le h.1 hb.size,fun i hi=>(hb.cell (p:=⟨2,i,none⟩) hB).trans (h.2 i hi)⟩
theorem Laid.cell {w:World} (h:Laid w) {i:Nat} (hi:i<16):w.cell? ⟨2,i,none⟩=some (.int .u64 (yJ i:Int)):=h.2 i hi
theorem E5:∀ n:Fin 256,wrap64 (bits .and .u64 ((yJ ((((n.val:Nat):Int) / 16).toNat):Int) / 2 ^ (((n.val:Nat):Int) % 16 * 4).toNat) 15)=cls (n.val:Int):=by decide +kernel
theorem E6 (c:Int) (h0:0≤c) (h1:c<256):wrap64 (bits .and .u64 ((yJ ((c / 16).toNat):Int) / 2 ^ (c % 16 * 4).toNat) 15)=cls c:=by
 obtain⟨n,rfl⟩:=Int.eq_ofNat_of_zero_le h0
 exact E5 ⟨n,by omega⟩
theorem aI {k:IntKind} {a b:Int} (h:a=b):Ending.returned (.int k a)=.returned (.int k b):=by rw[h]
theorem fQ (c k:Int) (h0:0≤c) (h1:c<256) (hk:cls c=k) (w:World) (hL:Laid w) :
  Calls Tryz.prog 191 #[.int .u8 c] w fun e w'=>e=.returned (.int .i64 k)∧w=w':=by
 have hc:=hL.cell (i:=(c / 16).toNat) (by omega)
 have HK:=hid hk;clear hk
 have HT:=hid (E6 c h0 h1)
 go_enter Tryz.func191,Tryz.ntmps191
 go_wp2
 go_ret
 exact⟨aI (HT.out.trans HK.out),rfl⟩
def mH (k:Nat):Int:=((fZ.getD k 0:Nat):Int)
def xM (c:Int) (k:Nat):Prop:=∀ j,j<k→c≠mH j
theorem xM.succ {c:Int} {k:Nat} (h:xM c k) (hne:c≠mH k):xM c (k+1):=fun j hj=>by
 rcases Nat.lt_or_ge j k with h' | h'
 ·exact h j h'
 ·obtain rfl:j=k:=by omega
  exact hne
def aV (s:ByteArray) (i:Nat):Int:=((s.data.toList.getD i 0).toNat:Int)
def kc (s:ByteArray) (i:Nat):Int:=cls (aV s i)
theorem dQ (s:ByteArray) (i:Nat):0≤aV s i∧aV s i<256:=by
 unfold aV;have:=UInt8.toNat_lt (s.data.toList.getD i 0);omega
theorem bP (s:ByteArray) (k:Nat) (h:k<s.size):((s[k].toNat:Nat):Int)=aV s k:=by
 unfold aV
 have hl:k<s.data.toList.length:=by simpa using h
 rw[List.getD_eq_getElem?_getD,List.getElem?_eq_getElem hl]
 rfl
def nxt (s:ByteArray) (f:Nat):Nat→Nat→Nat
 | 0,e=>e
 | n+1,e=>if e<s.size∧kc s e=kc s f then nxt s f n (e+1) else e
def dW (s:ByteArray) (f:Nat):Nat:=nxt s f s.size (f+1)
def wW (s:ByteArray) (f e:Nat):Prop:=f<e∧e≤s.size∧(∀ j,f≤j→j<e→kc s j=kc s f)∧(e<s.size→kc s e≠kc s f)
theorem XW (s:ByteArray) (f:Nat):∀ n e,s.size - e≤n→f<e→e≤s.size→(∀ j,f≤j→j<e→kc s j=kc s f)→wW s f (nxt s f n e)
 | 0,e,hn,hf,he,hj=>by
  show wW s f e
  exact⟨hf,he,hj,fun h=>by omega⟩
 | n+1,e,hn,hf,he,hj=>by
  unfold nxt
  by_cases h:e<s.size∧kc s e=kc s f
  ·rw[if_pos h]
   refine XW s f n (e+1) (by omega) (by omega) (by omega) (fun j h1 h2=>?_)
   rcases Nat.lt_or_ge j e with h3 | h3
   ·exact hj j h1 h3
   ·obtain rfl:j=e:=by omega
    exact h.2
  ·rw[if_neg h]
   exact⟨hf,he,hj,fun h3 h4=>h ⟨h3,h4⟩⟩
theorem cP (s:ByteArray) (f:Nat) (h:f<s.size):wW s f (dW s f) :=
 XW s f s.size (f+1) (by omega) (by omega) (by omega) (fun j h1 h2=>by
  have e:j=f:=by omega
  rw[e])
theorem wW.unique {s:ByteArray} {f e e':Nat} (h:wW s f e) (h':wW s f e'):e=e':=by
 obtain⟨a1,a2,a3,a4⟩:=h
 obtain⟨b1,b2,b3,b4⟩:=h'
 rcases Nat.lt_trichotomy e e' with h | h | h
 ·exact absurd (b3 e (by omega) h) (a4 (by omega))
 ·exact h
 ·exact absurd (a3 e' (by omega) h) (b4 (by omega))
def lZ (s:ByteArray):Nat→Nat→List (Nat × Nat)
 | 0,_=>[]
 | n+1,f=>if f<s.size then (f,dW s f)::lZ s n (dW s f) else []
def iH (s:ByteArray) (f:Nat):List (Nat × Nat):=lZ s s.size f
def XX (s:ByteArray):List (Nat × Nat):=iH s 0
theorem rY (s:ByteArray):∀ n m f,s.size - f≤n→s.size - f≤m→lZ s n f=lZ s m f
 | 0,0,_,_,_=>rfl
 | 0,m+1,f,h,_=>by unfold lZ;rw[if_neg (by omega)]
 | n+1,0,f,_,h=>by unfold lZ;rw[if_neg (by omega)]
 | n+1,m+1,f,h1,h2=>by
  unfold lZ
  by_cases h:f<s.size
  ·rw[if_pos h,if_pos h]
   have:=(cP s f h).1
   rw[rY s n m (dW s f) (by omega) (by omega)]
  ·rw[if_neg h,if_neg h]
theorem BM (s:ByteArray) (f:Nat) (h:f<s.size):iH s f=(f,dW s f)::iH s (dW s f):=by
 have h':=(cP s f h).1
 unfold iH
 rw[rY s s.size (s.size+1) f (by omega) (by omega),lZ,if_pos h]
theorem E7 (s:ByteArray) (f:Nat) (h:s.size≤f):iH s f=[]:=by
 unfold iH
 rw[rY s s.size 0 f (by omega) (by omega)]
 rfl
theorem C7 (s:ByteArray):∀ n f x,x ∈ lZ s n f→x.1<x.2∧x.2≤s.size
 | 0,f,x,h=>by simp[lZ]at h
 | n+1,f,x,h=>by
  unfold lZ at h
  by_cases hf:f<s.size
  ·rw[if_pos hf]at h
   rcases List.mem_cons.1 h with rfl | h
   ·exact⟨(cP s f hf).1,(cP s f hf).2.1⟩
   ·exact C7 s n _ x h
  ·rw[if_neg hf]at h;simp at h
theorem C8 (s:ByteArray):∀ n f,(lZ s n f).length≤s.size - f
 | 0,f=>by simp[lZ]
 | n+1,f=>by
  unfold lZ
  by_cases hf:f<s.size
  ·rw[if_pos hf]
   have h1:=(cP s f hf).1
   have h2:=(cP s f hf).2.1
   have:=C8 s n (dW s f)
   simp only[List.length_cons];omega
  ·rw[if_neg hf];simp
theorem S4 (s:ByteArray):(XX s).length≤s.size:=by have:=C8 s s.size 0;unfold XX iH;omega
abbrev Rn (s:ByteArray):={ x:Nat × Nat // x.1<x.2∧x.2≤s.size }
def gI (s:ByteArray) (f:Nat):List (Rn s):=(iH s f).attachWith _ (fun x h=>C7 s s.size f x h)
theorem qQ (s:ByteArray) (f:Nat):(gI s f).map (·.1)=iH s f:=by unfold gI;exact List.attachWith_map_subtype_val _
theorem S5 (s:ByteArray):(gI s 0).length≤s.size:=by have:=S4 s;have h:=congrArg List.length (qQ s 0);simp at h;unfold XX at this;omega
theorem oA (s:ByteArray) (f:Nat) (h:f<s.size):gI s f=⟨(f,dW s f),(cP s f h).1,(cP s f h).2.1⟩::gI s (dW s f):=by
 have e:∀ (l l':List (Rn s)),l.map (·.1)=l'.map (·.1)→l=l':=fun l l' h=>(List.map_inj_right (fun a b h=>Subtype.ext h)).1 h
 apply e
 rw[qQ,List.map_cons,qQ,BM s f h]
theorem vG (s:ByteArray) (f:Nat) (h:s.size≤f):gI s f=[]:=by
 have:=congrArg List.length (qQ s f);rw[E7 s f h]at this;simp at this;exact this
end Go.Proofs.YthbigkoihpgcfaaGreatDoor.Hc
namespace Go.Proofs.YthbigkoihpgcfaaGreatDoor.Hc
open Go.RowKit Go.Shelf
theorem eQ (s:ByteArray) (k:Nat) (h:k<s.size) (v:Int) (hv:kc s k=v) (w:World) (hL:Laid w) :
  Calls Tryz.prog 191 #[.int .u8 ((s[k].toNat:Nat):Int)] w fun e w'=>e=.returned (.int .i64 v)∧w=w':=by
 have hb:=dQ s k
 rw[bP s k h]
 exact fQ _ v hb.1 hb.2 hv w hL
def rZ (s:ByteArray) (f k:Nat):Prop:=∀ j,f≤j→j<k→kc s j=kc s f
theorem rZ.one (s:ByteArray) (f:Nat):rZ s f (f+1):=fun j h1 h2=>by
 have e:j=f:=by omega
 rw[e]
theorem rZ.succ {s:ByteArray} {f k:Nat} (h:rZ s f k) (hc:kc s k=kc s f):rZ s f (k+1):=fun j h1 h2=>by
 rcases Nat.lt_or_ge j k with h3 | h3
 ·exact h j h1 h3
 ·have e:j=k:=by omega
  rw[e];exact hc
theorem N0 (s:ByteArray) (f:Nat) (hf:f<s.size) (hs:s.size≤maxLen) (w:World) (hL:Laid w) :
  Calls Tryz.prog 223 #[.string s,.int .i64 (f:Int)] w fun e w'=>e=.returned (.int .i64 ((dW s f:Nat):Int))∧w=w':=by
 unfold maxLen at hs
 have HE:=hid (cP s f hf)
 go_enter Tryz.func223,Tryz.ntmps223
 go_wp2_with (go_at_call 191;refine(eQ s f hf _ rfl w hL).mono ?_;rintro e w' ⟨rfl,rfl⟩)
 go_loop [6] (fun t=>∃ k:Nat,f<k∧k≤s.size∧t=.int .i64 k∧rZ s f k) (fun t=>s.size - (intOf t).toNat)
 case atStart =>
  exact⟨f+1,by omega,by omega,by go_num,rZ.one s f⟩
 case round =>
  obtain⟨k,hk1,hk2,rfl,hj⟩:=hrel
  by_cases hlt:k<s.size
  ·by_cases hc:kc s k=kc s f
   ·have HN:=hj.succ hc
    have HC:=hid hc;clear hc
    go_wp2_with (go_at_call 191;refine(eQ s k hlt _ HC.out w hL).mono ?_;rintro e w' ⟨rfl,rfl⟩)
    go_round
    case rel=>exact⟨k+1,by omega,by omega,by go_num,HN⟩
    case measure=>simp[intOf];omega
   ·have HR:=hid (wW.unique (s:=s) ⟨hk1,by omega,hj,fun _=>hc⟩ HE.out)
    have hb:(kc s k==kc s f)=false:=by simpa using hc
    clear hc
    go_wp2_with (go_at_call 191;refine(eQ s k hlt _ rfl w hL).mono ?_;rintro e w' ⟨rfl,rfl⟩)
    go_ret
    exact⟨aI (by rw[HR.out]),rfl⟩
  ·have HR:=hid (wW.unique (s:=s) ⟨hk1,by omega,hj,fun h=>absurd h hlt⟩ HE.out)
   go_wp2
   go_ret
   exact⟨aI (by rw[HR.out]),rfl⟩
attribute [local go_sem] Oper.semAt_some
def qU (s:ByteArray) (pre:List (Rn s)) (f:Nat):Prop:=gI s 0=pre++gI s f
theorem qU.zero (s:ByteArray):qU s [] 0:=rfl
theorem qU.succ {s:ByteArray} {pre:List (Rn s)} {f:Nat} (h:qU s pre f) (hf:f<s.size) :
  qU s (pre++[⟨(f,dW s f),(cP s f hf).1,(cP s f hf).2.1⟩]) (dW s f):=by
 unfold qU at h ⊢;rw[h,oA s f hf];simp
theorem qU.lt {s:ByteArray} {pre:List (Rn s)} {f:Nat} (h:qU s pre f) (hf:f<s.size):pre.length<(gI s 0).length:=by
 unfold qU at h;rw[h,oA s f hf];simp
theorem qU.front {s:ByteArray} {pre:List (Rn s)} {f:Nat} (h:qU s pre f):pre <+: gI s 0:=⟨_,h.symm⟩
theorem qU.all {s:ByteArray} {pre:List (Rn s)} {f:Nat} (h:qU s pre f) (hf:s.size≤f):pre=gI s 0:=by
 unfold qU at h;rw[h,vG s f hf];simp
def nH (n₀ Bn:Nat) (W W':World):Prop:=Below n₀ W W'∧W'.heap[Bn]?=W.heap[Bn]?
theorem nH.refl (n₀ Bn:Nat) (W:World):nH n₀ Bn W W:=⟨Below.refl _ _,rfl⟩
theorem nH.trans {n₀ Bn:Nat} {A B C:World} (h:nH n₀ Bn A B) (k:nH n₀ Bn B C):nH n₀ Bn A C:=⟨h.1.trans k.1,k.2.trans h.2⟩
theorem aBR {n₀ Bn:Nat} {w:World} (hn:n₀≤w.heap.size) (hB:Bn<w.heap.size) (W:World) (l:Nat) (o o':Obj) (hl:w.heap.size≤l) (h:W.heap[l]?=some o) (_:o.isCells=false) (_:o.isWalk=false):nH n₀ Bn W (W.putObj l o') :=
 ⟨(Below.refl n₀ W).grown (grownBy_putObj' W l o') (by have:=(Array.getElem?_eq_some_iff.1 h).1;omega) (fun k e=>by cases e;omega),World.putObj_heap_other (by omega)⟩
def aBS (s:ByteArray) (x:Rn s):Array Value:=#[.int .i64 ((x.1.1:Nat):Int),.string (s.extract x.1.1 x.1.2)]
theorem XY (n:Nat) (l Bn n₀:Nat) (s:ByteArray) (hs:s.size≤maxLen) (h0n:2<n₀) (J Jx:List (Rn s)→World→Prop)
  (hY:∀ pre x W,J pre W→pre.length<(gI s 0).length→YieldAt Fence.wide (n - 1) Tryz.prog l (aBS s x) W fun e W' =>
   (e=.returned (.bool true)∧J (pre++[x]) W'∧nH n₀ Bn W W')∨(e=.returned (.bool false)∧Jx (pre++[x]) W'))
  (W:World) (hBn:W.cell? ⟨Bn,0,none⟩=some (.string s)) (hL:Laid W) (h0:J [] W) :
  CallsIn Fence.wide n Tryz.prog 222 #[.func (.yield l) #[] #[],.pointer (some ⟨Bn,0,none⟩)] W fun e W'=>(∃ v,e=.returned v) ∧
   ((∃ ys,ys=gI s 0∧J ys W')∨(∃ pre,pre <+: gI s 0∧Jx pre W')):=by
 unfold maxLen at hs
 refine callsIn_of_wp Tryz.func222 rfl trivial ?_ rfl
 simp only[Tryz.ntmps222,List.size_toArray,List.length_cons,List.length_nil,Nat.reduceAdd,Nat.reduceSub,Array.replicate_succ,Array.replicate_zero,List.push_toArray,List.append_toArray,List.nil_append,List.cons_append]
 gi_wp2
 gi_loopw [3] (fun i wr=>∃ (pre:List (Rn s)) (f:Nat),i=.int .i64 f∧f≤s.size∧qU s pre f∧J pre wr∧nH n₀ Bn W wr)
  (fun i _=>s.size - (intOf i).toNat)
 case atStart=>exact⟨[],0,rfl,by omega,qU.zero s,h0,nH.refl _ _ _⟩
 case round =>
  obtain⟨pre,f,rfl,hf,hcm,hJs,hnx⟩:=hrel
  have hLr:Laid wr:=hL.below hnx.1 h0n
  have hcr:wr.cell? ⟨Bn,0,none⟩=some (.string s):=(World.cell?_of_block (w:=W) hnx.2).trans hBn
  by_cases hlt:f<s.size
  ·obtain⟨he1,he2,_,_⟩:=cP s f hlt
   have hcs:=hcm.succ hlt
   obtain⟨fn,tmps,assign,body,hy,hR⟩:=hY pre ⟨(f,dW s f),he1,he2⟩ wr hJs (hcm.lt hlt)
   dsimp only[aBS]at hy
   gi_wp2_with (refine⟨trivial,fun h=>Bool.noConfusion h,?_⟩;gi_at_call 223;refine(callsIn_wide.2 (N0 s f hlt hs wr hLr)).mono ?_;rintro e w' ⟨rfl,rfl⟩)
   refine⟨fun h=>Bool.noConfusion h,hR.mono ?_⟩
   rintro e W3 (⟨rfl,hJ3,hk3⟩ | ⟨rfl,hJx3⟩)
   ·gi_wp2
    go_roundw
    case rel=>exact⟨_,_,rfl,he2,hcs,hJ3,hnx.trans hk3⟩
    case measure=>simp[intOf];omega
   ·gi_wp2
    refine bodyPost_ret (results_none rfl _ _ _) rfl ?_
    exact⟨⟨_,rfl⟩,.inr ⟨_,hcs.front,hJx3⟩⟩
  ·gi_wp2
   go_end0
   exact⟨⟨_,rfl⟩,.inl ⟨_,hcm.all (by omega),hJs⟩⟩
theorem S6 (s:ByteArray) (w:World) :
  Calls Tryz.prog 190 #[.string s] w fun e w'=>e=.returned (.func (.func 222) #[] #[.pointer (some ⟨w.heap.size,0,none⟩)])∧w'=w.alloc (.cells #[.string s] 9):=by
 go_enter Tryz.func190,Tryz.ntmps190
 go_wp2
 go_ret
 exact⟨rfl,rfl⟩
theorem N1 (n:Nat) (Bn n₀:Nat) (s:ByteArray) (hs:s.size≤maxLen) (h0n:2<n₀) (w:World) (hB:Bn<w.heap.size) (hc:w.cell? ⟨Bn,0,none⟩=some (.string s)) (hL:Laid w) :
  SeqStopsK Fence.wide n Tryz.prog 222 #[.pointer (some ⟨Bn,0,none⟩)] (aBS s) (nH n₀ Bn) (fun ys=>ys=gI s 0) (fun pre=>pre <+: gI s 0) (gI s 0).length w:=fun l J Jx W hW _ _ hY h0 =>
 XY n l Bn n₀ s hs h0n J Jx hY W ((hW.cell (p:=⟨Bn,0,none⟩) hB).trans hc) (hL.below hW hL.1) h0
end Go.Proofs.YthbigkoihpgcfaaGreatDoor.Hc
namespace Go.Proofs.YthbigkoihpgcfaaGreatDoor.Hc
open Go.RowKit Go.Shelf
attribute [local go_sem] Oper.semAt_some
end Go.Proofs.YthbigkoihpgcfaaGreatDoor.Hc
namespace Go.Proofs.YthbigkoihpgcfaaGreatDoor.Hc
open Go.RowKit Go.Shelf
attribute [local go_sem] Oper.semAt_some
def up (s:ByteArray):Nat→Nat
 | 0=>0
 | n+1=>up s n+if kc s n=2 then 1 else 0
def BH (s:ByteArray) (n:Nat):Prop:=∀ j,j<n→kc s j=1∨kc s j=2
def eY (s:ByteArray) (k:Nat):Int:=if s.size=0 then 0 else if k=0 then 1 else if k=1∧kc s 0=2 then 2 else if k=s.size then 3 else 4
def XZ (s:ByteArray):Nat→Bool
 | 0=>true
 | n+1=>XZ s n && (kc s n==1 || kc s n==2)
theorem AD (s:ByteArray):∀ n,XZ s n=true↔BH s n
 | 0=>by simp[XZ,BH]
 | n+1=>by
  have ih:=AD s n
  simp only[XZ,Bool.and_eq_true,ih,Bool.or_eq_true,beq_iff_eq]
  constructor
  ·rintro⟨h1,h2⟩ j hj
   rcases Nat.lt_or_ge j n with h3 | h3
   ·exact h1 j h3
   ·have e:j=n:=by omega
    rw[e];exact h2
  ·exact fun h=>⟨fun j hj=>h j (by omega),h n (by omega)⟩
def j7 (s:ByteArray):Int:=if s.size=0 then 0 else if XZ s s.size then eY s (up s s.size) else 0
theorem mV (s:ByteArray) (h:BH s s.size):j7 s=eY s (up s s.size):=by
 unfold j7
 by_cases h0:s.size=0
 ·rw[if_pos h0];unfold eY;rw[if_pos h0]
 ·rw[if_neg h0,if_pos ((AD s s.size).2 h)]
theorem sS (s:ByteArray) (h:¬ BH s s.size):j7 s=0:=by
 unfold j7
 by_cases h0:s.size=0
 ·rw[if_pos h0]
 ·rw[if_neg h0,if_neg (fun hb=>h ((AD s s.size).1 hb))]
theorem aC7 (s:ByteArray):∀ n,up s n≤n
 | 0=>Nat.le_refl _
 | n+1=>by have:=aC7 s n;unfold up;split<;>omega
theorem X5 (s:ByteArray) (f:Nat):∀ e,f≤e→(∀ j,f≤j→j<e→kc s j=kc s f)→up s e=up s f+if kc s f=2 then e - f else 0
 | 0,h,_=>by
  obtain rfl:f=0:=by omega
  simp
 | e+1,h,hj=>by
  rcases Nat.lt_or_ge f (e+1)with h1 | h1
  ·have ih:=X5 s f e (by omega) (fun j h2 h3=>hj j h2 (by omega))
   have he:=hj e (by omega) (by omega)
   rw[up,ih,he]
   split<;>omega
  ·obtain rfl:f=e+1:=by omega
   simp
def oP (s:ByteArray) (l:List (Rn s)):Nat:=(l.map fun x=>if kc s x.1.1=2 then x.1.2 - x.1.1 else 0).sum
theorem C9 (s:ByteArray) (l:List (Rn s)) (x:Rn s):oP s (l++[x])=oP s l+if kc s x.1.1=2 then x.1.2 - x.1.1 else 0:=by simp[oP]
theorem PV (s:ByteArray):∀ l:List (Rn s),oP s l≤l.length * s.size
 | []=>by simp[oP]
 | x::l=>by
  have ih:=PV s l
  have e:oP s (x::l)=(if kc s x.1.1=2 then x.1.2 - x.1.1 else 0)+oP s l:=by simp[oP]
  rw[e,List.length_cons,Nat.succ_mul]
  have:=x.2
  split<;>omega
theorem DA (s:ByteArray):∀ n f,s.size - f≤n→f≤s.size→oP s (gI s f)+up s f=up s s.size
 | 0,f,hn,hf=>by
  obtain rfl:f=s.size:=by omega
  rw[vG s s.size (Nat.le_refl _)];simp[oP]
 | n+1,f,hn,hf=>by
  rcases Nat.lt_or_ge f s.size with h | h
  ·obtain⟨h1,h2,h3,_⟩:=cP s f h
   have ih:=DA s n (dW s f) (by omega) h2
   have hu:=X5 s f (dW s f) (by omega) h3
   rw[oA s f h]
   have e:∀ (x:Rn s) l,oP s (x::l)=(if kc s x.1.1=2 then x.1.2 - x.1.1 else 0)+oP s l:=fun x l=>by simp[oP]
   rw[e]
   simp only[]
   omega
  ·obtain rfl:f=s.size:=by omega
   rw[vG s s.size (Nat.le_refl _)];simp[oP]
theorem X6 (s:ByteArray):oP s (gI s 0)=up s s.size:=by have:=DA s s.size 0 (by omega) (by omega);simpa[up] using this
theorem wX (s:ByteArray) (j:Nat) (hj:j<s.size):∀ n f,s.size - f≤n→f≤j→∃ x ∈ gI s f,kc s j=kc s x.1.1
 | 0,f,hn,hf=>by omega
 | n+1,f,hn,hf=>by
  have hlt:f<s.size:=by omega
  obtain⟨h1,h2,h3,_⟩:=cP s f hlt
  rw[oA s f hlt]
  rcases Nat.lt_or_ge j (dW s f)with h | h
  ·exact⟨_,List.mem_cons_self,h3 j hf h⟩
  ·obtain⟨x,hx,he⟩:=wX s j hj n (dW s f) (by omega) h
   exact⟨x,List.mem_cons_of_mem _ hx,he⟩
def aGT (s:ByteArray) (l:List (Rn s)):Prop:=∀ x ∈ l,kc s x.1.1=1∨kc s x.1.1=2
theorem aGT.snoc {s:ByteArray} {l:List (Rn s)} {x:Rn s} (h:aGT s l) (hx:kc s x.1.1=1∨kc s x.1.1=2):aGT s (l++[x]):=fun y hy=>by
 rcases List.mem_append.1 hy with hy | hy
 ·exact h y hy
 ·simp at hy;subst hy;exact hx
theorem aBT (s:ByteArray) (h:aGT s (gI s 0)):BH s s.size:=fun j hj=>by
 obtain⟨x,hx,he⟩:=wX s j hj s.size 0 (by omega) (by omega)
 rw[he];exact h x hx
theorem X7 (s:ByteArray) {pre:List (Rn s)} (x:Rn s) (_:x ∈ pre) (h1:¬ (kc s x.1.1=1∨kc s x.1.1=2)):¬ BH s s.size:=fun h=>h1 (h _ (by have:=x.2;omega))
theorem ext_get (s:ByteArray) (a b:Nat) (h:a<b) (hb:b≤s.size) (h0:0<(s.extract a b).size):(s.extract a b)[0]=s[a]:=by
 rw[ByteArray.getElem_extract];rfl
theorem oS (s:ByteArray) (a b:Nat) (hb:b≤s.size):(s.extract a b).size=b - a:=by
 rw[ByteArray.size_extract];omega
theorem vH (s:ByteArray) (a b:Nat) (h:a<b) (hb:b≤s.size) (h0:0<(s.extract a b).size) (v:Int) (hv:kc s a=v) (w:World) (hL:Laid w) :
  Calls Tryz.prog 191 #[.int .u8 (((s.extract a b)[0].toNat:Nat):Int)] w fun e w'=>e=.returned (.int .i64 v)∧w=w':=by
 rw[ext_get s a b h hb h0];exact eQ s a (by omega) v hv w hL
theorem gM (s:ByteArray) (h:¬ s.size=0):s.toList.isEmpty=false:=by
 have:=Classical.propDecidable (s=ByteArray.empty)
 rw[← decide_eq_emptyBytes]
 simp only[decide_eq_false_iff_not]
 rintro rfl
 exact h rfl
theorem N2 (s:ByteArray) (k:Nat) (hk:k≤s.size) (hs:s.size≤2000) (w:World) (hL:Laid w) :
  Calls Tryz.prog 192 #[.string s,.int .i64 (k:Int)] w fun e w'=>e=.returned (.int .i64 (eY s k))∧w=w':=by
 by_cases h0:s.size=0
 ·have HV:=hid (show (0:Int)=eY s k by unfold eY;rw[if_pos h0])
  obtain rfl:s={ data:=#[] }:=ByteArray.size_eq_zero_iff.1 h0
  clear h0
  go_enter Tryz.func192,Tryz.ntmps192
  go_wp2
  go_ret
  exact⟨aI HV.out,rfl⟩
 have hpos:0<s.size:=by omega
 have e1:s.toList.isEmpty=false:=gM s h0
 by_cases k0:k=0
 ·have HV:=hid (show (1:Int)=eY s k by unfold eY;rw[if_neg h0,if_pos k0])
  subst k0
  clear h0
  show Calls _ _ #[.string s,.int .i64 0] _ _
  go_enter Tryz.func192,Tryz.ntmps192
  go_wp2
  go_ret
  exact⟨aI HV.out,rfl⟩
 have b0:(((k:Nat):Int)==0)=false:=by simp;omega
 by_cases k1:k=1
 ·subst k1
  have hi:(0:Int)<(s.size:Int):=by omega
  by_cases hc:kc s 0=2
  ·have HV:=hid (show (2:Int)=eY s 1 by unfold eY;rw[if_neg h0,if_neg (by omega),if_pos ⟨rfl,hc⟩])
   have HC:=hid hc
   clear h0 k0 b0 hc
   show Calls _ _ #[.string s,.int .i64 1] _ _
   go_enter Tryz.func192,Tryz.ntmps192
   go_wp2_with (go_at_call 191;refine(eQ s 0 hpos _ HC.out w hL).mono ?_;rintro e w' ⟨rfl,rfl⟩)
   go_ret
   exact⟨aI HV.out,rfl⟩
  ·have hb:(kc s 0==2)=false:=by simpa using hc
   by_cases h1:s.size=1
   ·have HV:=hid (show (3:Int)=eY s 1 by unfold eY;rw[if_neg h0,if_neg (by omega),if_neg (fun h=>hc h.2),if_pos h1.symm])
    have b1:((1:Int)==(s.size:Int))=true:=by rw[h1];rfl
    clear h0 k0 b0 hc h1
    show Calls _ _ #[.string s,.int .i64 1] _ _
    go_enter Tryz.func192,Tryz.ntmps192
    go_wp2_with (go_at_call 191;refine(eQ s 0 hpos _ rfl w hL).mono ?_;rintro e w' ⟨rfl,rfl⟩)
    go_ret
    exact⟨aI HV.out,rfl⟩
   ·have HV:=hid (show (4:Int)=eY s 1 by unfold eY;rw[if_neg h0,if_neg (by omega),if_neg (fun h=>hc h.2),if_neg (fun h=>h1 h.symm)])
    have b1:((1:Int)==(s.size:Int))=false:=by simp;omega
    clear h0 k0 b0 hc h1
    show Calls _ _ #[.string s,.int .i64 1] _ _
    go_enter Tryz.func192,Tryz.ntmps192
    go_wp2_with (go_at_call 191;refine(eQ s 0 hpos _ rfl w hL).mono ?_;rintro e w' ⟨rfl,rfl⟩)
    go_ret
    exact⟨aI HV.out,rfl⟩
 ·have b2:(((k:Nat):Int)==1)=false:=by simp;omega
  by_cases h1:k=s.size
  ·have HV:=hid (show (3:Int)=eY s k by unfold eY;rw[if_neg h0,if_neg k0,if_neg (fun h=>k1 h.1),if_pos h1])
   have b1:(((k:Nat):Int)==(s.size:Int))=true:=by rw[h1];simp
   clear h0 k0 k1 h1
   go_enter Tryz.func192,Tryz.ntmps192
   go_wp2
   go_ret
   exact⟨aI HV.out,rfl⟩
  ·have HV:=hid (show (4:Int)=eY s k by unfold eY;rw[if_neg h0,if_neg k0,if_neg (fun h=>k1 h.1),if_neg h1])
   have b1:(((k:Nat):Int)==(s.size:Int))=false:=by simp;omega
   clear h0 k0 k1 h1
   go_enter Tryz.func192,Tryz.ntmps192
   go_wp2
   go_ret
   exact⟨aI HV.out,rfl⟩
theorem sY (s:ByteArray) (hs:s.size≤2000) (w:World) (hL:Laid w) :
  Calls Tryz.prog 152 #[.string s] w fun e w'=>e=.returned (.int .i64 (j7 s))∧Below w.heap.size w w':=by
 have hfn:∀ f,Fence.wide.fn f:=fun _=>trivial
 refine(callsIn_wide (n:=3)).1 ?_
 refine callsIn_of_wp_marks Tryz.func152 rfl trivial ?_ rfl
 simp only[Tryz.ntmps152,List.size_toArray,List.length_cons,List.length_nil,Nat.reduceAdd,Nat.reduceSub,Array.replicate_succ,Array.replicate_zero,List.push_toArray,List.append_toArray,List.nil_append,List.cons_append]
 gi_wp2_with (gi_at_call 190;refine(callsIn_wide.2 (S6 s _)).mono ?_;rintro e w' ⟨rfl,rfl⟩)
 obtain⟨W0,hW0⟩:∃ W0,(((w.alloc (.cells #[.int .i64 0] 3)).alloc (.cells #[.int .i64 0] 3)).alloc (.cells #[.string s] 9))=W0:=⟨_,rfl⟩
 have hsz:W0.heap.size=w.heap.size+1+1+1:=by rw[← hW0];simp
 have bR:Boxed W0 w.heap.size 3 (.int .i64 0):=by rw[← hW0];exact((Boxed.new w _ _).alloc _).alloc _
 have bC:Boxed W0 (w.heap.size+1) 3 (.int .i64 0):=by
  rw[← hW0];have:=(Boxed.new (w.alloc (.cells #[.int .i64 0] 3)) 3 (.int .i64 0)).alloc (.cells #[.string s] 9);rwa [World.size_alloc]at this
 have bN:Boxed W0 (w.heap.size+1+1) 9 (.string s):=by
  rw[← hW0];have:=Boxed.new ((w.alloc (.cells #[.int .i64 0] 3)).alloc (.cells #[.int .i64 0] 3)) 9 (.string s);rwa [World.size_alloc,World.size_alloc]at this
 have hB0:Below w.heap.size w W0:=by
  rw[← hW0];exact(((Below.refl _ w).alloc (Nat.le_refl _) _).alloc (by simp) _).alloc (by simp;omega) _
 have hL0:Laid W0:=hL.below hB0 hL.1
 have hwp:=hL.1
 rw[hW0]
 have hN:=S5 s
 clear hW0
 refine wpIn_rangeFunc_ownG rfl (by omega) (gf:=222) (lb:=#[.pointer (some ⟨w.heap.size+1+1,0,none⟩)]) rfl trivial (enters_of Tryz.func222 (by kernel_rfl) rfl)
  (N1 2 (w.heap.size+1+1) w.heap.size s (by unfold maxLen;omega) hL.1 W0 (by omega) bN.cell hL0) nH.trans (aBR (by omega) (by omega)) (Below.refl _ _) (fun _=>rfl)
  (fun pre W=>(Boxed W w.heap.size 3 (.int .i64 0)∧Boxed W (w.heap.size+1) 3 (.int .i64 ((oP s pre:Nat):Int))∧aGT s pre)∧Below w.heap.size w W)
  (fun c pre W=>(c=.ret∧(∃ x ∈ pre,¬ (kc s x.1.1=1∨kc s x.1.1=2))∧Boxed W w.heap.size 3 (.int .i64 0))∧Below w.heap.size w W)
  (OwnFrom.and (Own.from (fun pre A B row hs hg hr=>⟨boxed_own _ _ (fun _:List (Rn s)=>_) pre A B row hs.1 hg hr,boxed_own _ _ (fun pre:List (Rn s)=>.int .i64 ((oP s pre:Nat):Int)) pre A B row hs.2.1 hg hr,hs.2.2⟩) _) (ownFrom_below (by omega) (by omega)))
  (fun c=>OwnFrom.and (Own.from (fun pre A B row hs hg hr=>⟨hs.1,hs.2.1,boxed_own _ _ (fun _:List (Rn s)=>_) pre A B row hs.2.2 hg hr⟩) _) (ownFrom_below (by omega) (by omega)))
  ⟨⟨bR,bC,fun x hx=>by simp at hx⟩,hB0⟩
  (fun x=>{ tmps:=#[.string s,undef,.pointer (some ⟨w.heap.size,0,none⟩),.pointer (some ⟨w.heap.size+1,0,none⟩),undef,.string (s.extract x.1.1 x.1.2),.string s,
   .func (.func 222) #[] #[.pointer (some ⟨w.heap.size+1+1,0,none⟩)],.int .i64 ((x.1.1:Nat):Int),.string (s.extract x.1.1 x.1.2),
   undef,undef,undef,undef,undef,undef,undef,undef,undef,undef,undef,undef,undef,undef],defers:=[] }) ?assign ?body ?done ?stop
 case assign =>
  intro l x W K hK
  dsimp only[aBS]
  gi_wp2
  exact hK
 case body =>
  rintro l pre x W ⟨⟨h0,h1,h2⟩,hB⟩ hlt
  have hLW:=hL.below hB hL.1
  obtain⟨x1,x2⟩:=x.2
  have hes:=oS s x.1.1 x.1.2 x2
  have he0:0<(s.extract x.1.1 x.1.2).size:=by omega
  have he1:(s.extract x.1.1 x.1.2).size≤2000:=by omega
  have hcn:=PV s pre
  have hcn2:oP s pre≤4000000:=Nat.le_trans hcn (Nat.le_trans (Nat.mul_le_mul (show pre.length≤2000 by omega) hs) (by omega))
  have HS:=hid hes;clear hes hcn
  have hc1:=h1.cell
  have hf1:=h1.frozen
  have hc0:=h0.cell
  have hf0:=h0.frozen
  by_cases k2:kc s x.1.1=2
  ·have HK:=hid k2;clear k2
   gi_wp2_with (gi_at_call 191;refine(CallsIn.inRound l (callsIn_wide.2 (vH s x.1.1 x.1.2 x1 x2 he0 _ HK.out W hLW))).mono ?_;rintro e w' ⟨rfl,rfl⟩)
   have hx:=aGT.snoc h2 (.inr HK.out)
   exact⟨(KeepsOthers.setCell _ _ _).from _,⟨(Below.refl w.heap.size W).setCell (p:=⟨w.heap.size+1,0,none⟩) (by simp) _,Below.heap_setCell W ⟨w.heap.size+1,0,none⟩ _ _ (by simp)⟩,
    ⟨h0.other (by omega) _,by rw[C9,if_pos HK.out,Int.natCast_add];exact h1.set _,hx⟩,hB.setCell (p:=⟨w.heap.size+1,0,none⟩) (by simp) _⟩
  ·have b2:(kc s x.1.1==2)=false:=by simpa using k2
   by_cases k1:kc s x.1.1=1
   ·have hx:=aGT.snoc h2 (.inl k1)
    have HK:=hid k1;clear k1 b2
    have HK2:=hid k2;clear k2
    gi_wp2_with (gi_at_call 191;refine(CallsIn.inRound l (callsIn_wide.2 (vH s x.1.1 x.1.2 x1 x2 he0 _ HK.out W hLW))).mono ?_;rintro e w' ⟨rfl,rfl⟩)
    exact⟨KeepsFrom.refl _ _,nH.refl _ _ _,⟨h0,by rw[C9,if_neg HK2.out];exact h1,hx⟩,hB⟩
   ·have b1:(kc s x.1.1==1)=false:=by simpa using k1
    have HK:=hid (show ¬ (kc s x.1.1=1∨kc s x.1.1=2) from fun h=>h.elim k1 k2)
    clear k1 k2
    gi_wp2_with (gi_at_call 191;refine(CallsIn.inRound l (callsIn_wide.2 (vH s x.1.1 x.1.2 x1 x2 he0 _ rfl W hLW))).mono ?_;rintro e w' ⟨rfl,rfl⟩)
    exact⟨(KeepsOthers.setCell _ _ _).from _,⟨rfl,⟨x,List.mem_append.2 (.inr (by simp)),HK.out⟩,h0.set _⟩,hB.setCell (p:=⟨w.heap.size,0,none⟩) (Nat.le_refl _) _⟩
 case done =>
  rintro D ys W hD rfl ⟨⟨h0,h1,h2⟩,hB⟩ hK
  have hLW:=hL.below hB hL.1
  have hall:=aBT s h2
  have HV:=hid (mV s hall)
  rw[X6]at h1
  have hul:=aC7 s s.size
  have hc1:=h1.cell
  have hc0:=h0.cell
  have hf0:=h0.frozen
  gi_wp2_with (gi_at_call 192;refine(callsIn_wide.2 (N2 s (up s s.size) hul hs W hLW)).mono ?_;rintro e w' ⟨rfl,rfl⟩)
  have hK':=(KeepsOthers.setCell W ⟨w.heap.size,0,none⟩ (.int .i64 (eY s (up s s.size)))).same D _ hK rfl
  refine⟨by simp,.inl ⟨_,_,rfl,run_takeDeferred hK',?_⟩⟩
  have hc5:=cell_kept (h0.set (.int .i64 (eY s (up s s.size)))).cell (grownBy_putObj' _ D (.deferred none)) (fun r e=>by cases e;exact⟨_,hK',rfl⟩)
  refine⟨.int .i64 (eY s (up s s.size)),?_,aI HV.out.symm,(hB.setCell (p:=⟨w.heap.size,0,none⟩) (Nat.le_refl _) _).trans (belowK_b (w:=w) (Nat.le_refl _) _ D _ _ (by omega) hK' rfl rfl)⟩
  simp[results,Tryz.f152,go_sem,hc5]
 case stop =>
  rintro D c pre W hD hpre ⟨⟨rfl,⟨x,hx,hn⟩,h0⟩,hB⟩ hK
  have HV:=hid (sS s (X7 s x hx hn))
  clear hn
  have hc0:=h0.cell
  gi_wp2
  refine⟨by simp,.inl ⟨_,_,rfl,run_takeDeferred hK,?_⟩⟩
  have hc5:=cell_kept hc0 (grownBy_putObj' _ D (.deferred none)) (fun r e=>by cases e;exact⟨_,hK,rfl⟩)
  refine⟨.int .i64 0,?_,aI HV.out.symm,hB.trans (belowK_b (w:=w) (Nat.le_refl _) W D _ _ (by omega) hK rfl rfl)⟩
  simp[results,Tryz.f152,go_sem,hc5]
end Go.Proofs.YthbigkoihpgcfaaGreatDoor.Hc
