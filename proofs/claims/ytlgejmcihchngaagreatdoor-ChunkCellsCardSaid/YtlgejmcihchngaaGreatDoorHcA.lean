/-
  chars.Case answers how a text is cased (ChA to ChF, what of them it needs, in a namespace of its own).
-/
import Derived.Test.YtlgejmcihchngaaGreatDoorRows
import Derived.WalkKit
import Derived.WalkSpells
import Derived.WalkLawsBesides
import Derived.Lib.Hide
import Derived.Outline
import Derived.RangeFuncNested
import Derived.RangeFuncBound
import Derived.RangeFuncCalls
import Derived.RangeFuncLeaves
import Derived.RangeFuncBox
import Derived.Shelf.Abstract
import Derived.Shelf.RegionOpen
import Derived.OwnWalkIn
import Derived.TacticsInMore
import Derived.LoopNIn
import Derived.LoopIn
import Derived.Maps.AppendAt
namespace Go.Proofs.YtlgejmcihchngaaGreatDoor.Hc
open Go.RowKit
def markL:List Nat:=[46,44,59,58,33,63,39,34,45,40,41,47]
def clsN (n:Nat):Nat :=
 if 97≤n∧n≤122 then 1 else if 65≤n∧n≤90 then 2 else if 48≤n∧n≤57 then 3
 else if n=32 then 5 else if n=10 then 6 else if markL.contains n then 4 else 0
def cls (c:Int):Int:=(clsN c.toNat:Int)
def tabN (i:Nat):Nat:=[6597069766656,0,4919056986126943301,4611761005120402227,2459565876494606880,2345624805922,1229782938247303440,1172812402961,0,0,0,0,0,0,0,0].getD i 0
def Laid (w:World):Prop:=0<w.heap.size∧∀ i:Nat,i<16→w.cell? ⟨0,i,none⟩=some (.int .u64 (tabN i:Int))
theorem Laid.below {w w':World} {B:Nat} (h:Laid w) (hb:Below B w w') (hB:0<B):Laid w' :=
 ⟨Nat.lt_of_lt_of_le h.1 hb.size,fun i hi=>(hb.cell (p:=⟨0,i,none⟩) hB).trans (h.2 i hi)⟩
theorem Laid.cell {w:World} (h:Laid w) {i:Nat} (hi:i<16):w.cell? ⟨0,i,none⟩=some (.int .u64 (tabN i:Int)):=h.2 i hi
theorem tab_all:∀ n:Fin 256,wrap64 (bits .and .u64 ((tabN ((((n.val:Nat):Int) / 16).toNat):Int) / 2 ^ (((n.val:Nat):Int) % 16 * 4).toNat) 15)=cls (n.val:Int):=by decide +kernel
theorem tab_cls (c:Int) (h0:0≤c) (h1:c<256):wrap64 (bits .and .u64 ((tabN ((c / 16).toNat):Int) / 2 ^ (c % 16 * 4).toNat) 15)=cls c:=by
 obtain⟨n,rfl⟩:=Int.eq_ofNat_of_zero_le h0
 exact tab_all ⟨n,by omega⟩
theorem ret_int {k:IntKind} {a b:Int} (h:a=b):Ending.returned (.int k a)=.returned (.int k b):=by rw[h]
set_option maxHeartbeats 400000 in
theorem class_at (c k:Int) (h0:0≤c) (h1:c<256) (hk:cls c=k) (w:World) (hL:Laid w) :
  Calls Tryz.prog 51 #[.int .u8 c] w fun e w'=>e=.returned (.int .i64 k)∧w=w':=by
 have hc:=hL.cell (i:=(c / 16).toNat) (by omega)
 have HK:=Lib.hid hk;clear hk
 have HT:=Lib.hid (tab_cls c h0 h1)
 go_enter Tryz.func51,Tryz.ntmps51
 go_wp2
 go_ret
 exact⟨ret_int (HT.out.trans HK.out),rfl⟩
end Go.Proofs.YtlgejmcihchngaaGreatDoor.Hc
namespace Go.Proofs.YtlgejmcihchngaaGreatDoor.Hc
open Go.RowKit
def markAt (k:Nat):Int:=((markL.getD k 0:Nat):Int)
def Past (c:Int) (k:Nat):Prop:=∀ j,j<k→c≠markAt j
theorem Past.zero (c:Int):Past c 0:=fun _ h=>absurd h (by omega)
theorem Past.succ {c:Int} {k:Nat} (h:Past c k) (hne:c≠markAt k):Past c (k+1):=fun j hj=>by
 rcases Nat.lt_or_ge j k with h' | h'
 ·exact h j h'
 ·obtain rfl:j=k:=by omega
  exact hne
end Go.Proofs.YtlgejmcihchngaaGreatDoor.Hc
namespace Go.Proofs.YtlgejmcihchngaaGreatDoor.Hc
open Go.RowKit
def bAt (s:ByteArray) (i:Nat):Int:=((s.data.toList.getD i 0).toNat:Int)
def kc (s:ByteArray) (i:Nat):Int:=cls (bAt s i)
theorem bAt_lt (s:ByteArray) (i:Nat):0≤bAt s i∧bAt s i<256:=by
 unfold bAt;have:=UInt8.toNat_lt (s.data.toList.getD i 0);omega
theorem bAt_get (s:ByteArray) (k:Nat) (h:k<s.size):((s[k].toNat:Nat):Int)=bAt s k:=by
 unfold bAt
 have hl:k<s.data.toList.length:=by simpa using h
 rw[List.getD_eq_getElem?_getD,List.getElem?_eq_getElem hl]
 rfl
def nxt (s:ByteArray) (f:Nat):Nat→Nat→Nat
 | 0,e=>e
 | n+1,e=>if e<s.size∧kc s e=kc s f then nxt s f n (e+1) else e
def nextEnd (s:ByteArray) (f:Nat):Nat:=nxt s f s.size (f+1)
def IsEnd (s:ByteArray) (f e:Nat):Prop:=f<e∧e≤s.size∧(∀ j,f≤j→j<e→kc s j=kc s f)∧(e<s.size→kc s e≠kc s f)
theorem nxt_is (s:ByteArray) (f:Nat):∀ n e,s.size - e≤n→f<e→e≤s.size→(∀ j,f≤j→j<e→kc s j=kc s f)→IsEnd s f (nxt s f n e)
 | 0,e,hn,hf,he,hj=>by
  show IsEnd s f e
  exact⟨hf,he,hj,fun h=>by omega⟩
 | n+1,e,hn,hf,he,hj=>by
  unfold nxt
  by_cases h:e<s.size∧kc s e=kc s f
  ·rw[if_pos h]
   refine nxt_is s f n (e+1) (by omega) (by omega) (by omega) (fun j h1 h2=>?_)
   rcases Nat.lt_or_ge j e with h3 | h3
   ·exact hj j h1 h3
   ·obtain rfl:j=e:=by omega
    exact h.2
  ·rw[if_neg h]
   exact⟨hf,he,hj,fun h3 h4=>h ⟨h3,h4⟩⟩
theorem nextEnd_is (s:ByteArray) (f:Nat) (h:f<s.size):IsEnd s f (nextEnd s f) :=
 nxt_is s f s.size (f+1) (by omega) (by omega) (by omega) (fun j h1 h2=>by
  have e:j=f:=by omega
  rw[e])
theorem IsEnd.unique {s:ByteArray} {f e e':Nat} (h:IsEnd s f e) (h':IsEnd s f e'):e=e':=by
 obtain⟨a1,a2,a3,a4⟩:=h
 obtain⟨b1,b2,b3,b4⟩:=h'
 rcases Nat.lt_trichotomy e e' with h | h | h
 ·exact absurd (b3 e (by omega) h) (a4 (by omega))
 ·exact h
 ·exact absurd (a3 e' (by omega) h) (b4 (by omega))
def runsF (s:ByteArray):Nat→Nat→List (Nat × Nat)
 | 0,_=>[]
 | n+1,f=>if f<s.size then (f,nextEnd s f)::runsF s n (nextEnd s f) else []
def runsFrom (s:ByteArray) (f:Nat):List (Nat × Nat):=runsF s s.size f
def runsL (s:ByteArray):List (Nat × Nat):=runsFrom s 0
theorem runsF_fuel (s:ByteArray):∀ n m f,s.size - f≤n→s.size - f≤m→runsF s n f=runsF s m f
 | 0,0,_,_,_=>rfl
 | 0,m+1,f,h,_=>by unfold runsF;rw[if_neg (by omega)]
 | n+1,0,f,_,h=>by unfold runsF;rw[if_neg (by omega)]
 | n+1,m+1,f,h1,h2=>by
  unfold runsF
  by_cases h:f<s.size
  ·rw[if_pos h,if_pos h]
   have:=(nextEnd_is s f h).1
   rw[runsF_fuel s n m (nextEnd s f) (by omega) (by omega)]
  ·rw[if_neg h,if_neg h]
theorem runsFrom_step (s:ByteArray) (f:Nat) (h:f<s.size):runsFrom s f=(f,nextEnd s f)::runsFrom s (nextEnd s f):=by
 have h':=(nextEnd_is s f h).1
 unfold runsFrom
 rw[runsF_fuel s s.size (s.size+1) f (by omega) (by omega),runsF,if_pos h]
theorem runsFrom_end (s:ByteArray) (f:Nat) (h:s.size≤f):runsFrom s f=[]:=by
 unfold runsFrom
 rw[runsF_fuel s s.size 0 f (by omega) (by omega)]
 rfl
theorem runsF_mem (s:ByteArray):∀ n f x,x ∈ runsF s n f→x.1<x.2∧x.2≤s.size
 | 0,f,x,h=>by simp[runsF]at h
 | n+1,f,x,h=>by
  unfold runsF at h
  by_cases hf:f<s.size
  ·rw[if_pos hf]at h
   rcases List.mem_cons.1 h with rfl | h
   ·exact⟨(nextEnd_is s f hf).1,(nextEnd_is s f hf).2.1⟩
   ·exact runsF_mem s n _ x h
  ·rw[if_neg hf]at h;simp at h
theorem runsF_len (s:ByteArray):∀ n f,(runsF s n f).length≤s.size - f
 | 0,f=>by simp[runsF]
 | n+1,f=>by
  unfold runsF
  by_cases hf:f<s.size
  ·rw[if_pos hf]
   have h1:=(nextEnd_is s f hf).1
   have h2:=(nextEnd_is s f hf).2.1
   have:=runsF_len s n (nextEnd s f)
   simp only[List.length_cons];omega
  ·rw[if_neg hf];simp
theorem runsL_len (s:ByteArray):(runsL s).length≤s.size:=by have:=runsF_len s s.size 0;unfold runsL runsFrom;omega
abbrev Rn (s:ByteArray):={ x:Nat × Nat // x.1<x.2∧x.2≤s.size }
def runsA (s:ByteArray) (f:Nat):List (Rn s):=(runsFrom s f).attachWith _ (fun x h=>runsF_mem s s.size f x h)
theorem runsA_val (s:ByteArray) (f:Nat):(runsA s f).map (·.1)=runsFrom s f:=by unfold runsA;exact List.attachWith_map_subtype_val _
theorem runsA_len (s:ByteArray):(runsA s 0).length≤s.size:=by have:=runsL_len s;have h:=congrArg List.length (runsA_val s 0);simp at h;unfold runsL at this;omega
theorem runsA_step (s:ByteArray) (f:Nat) (h:f<s.size):runsA s f=⟨(f,nextEnd s f),(nextEnd_is s f h).1,(nextEnd_is s f h).2.1⟩::runsA s (nextEnd s f):=by
 have e:∀ (l l':List (Rn s)),l.map (·.1)=l'.map (·.1)→l=l':=fun l l' h=>(List.map_inj_right (fun a b h=>Subtype.ext h)).1 h
 apply e
 rw[runsA_val,List.map_cons,runsA_val,runsFrom_step s f h]
theorem runsA_end (s:ByteArray) (f:Nat) (h:s.size≤f):runsA s f=[]:=by
 have:=congrArg List.length (runsA_val s f);rw[runsFrom_end s f h]at this;simp at this;exact this
end Go.Proofs.YtlgejmcihchngaaGreatDoor.Hc
namespace Go.Proofs.YtlgejmcihchngaaGreatDoor.Hc
open Go.RowKit Go.Shelf
theorem class_byte (s:ByteArray) (k:Nat) (h:k<s.size) (v:Int) (hv:kc s k=v) (w:World) (hL:Laid w) :
  Calls Tryz.prog 51 #[.int .u8 ((s[k].toNat:Nat):Int)] w fun e w'=>e=.returned (.int .i64 v)∧w=w':=by
 have hb:=bAt_lt s k
 rw[bAt_get s k h]
 exact class_at _ v hb.1 hb.2 hv w hL
def Alike1 (s:ByteArray) (f k:Nat):Prop:=∀ j,f≤j→j<k→kc s j=kc s f
theorem Alike1.one (s:ByteArray) (f:Nat):Alike1 s f (f+1):=fun j h1 h2=>by
 have e:j=f:=by omega
 rw[e]
theorem Alike1.succ {s:ByteArray} {f k:Nat} (h:Alike1 s f k) (hc:kc s k=kc s f):Alike1 s f (k+1):=fun j h1 h2=>by
 rcases Nat.lt_or_ge j k with h3 | h3
 ·exact h j h1 h3
 ·have e:j=k:=by omega
  rw[e];exact hc
set_option maxHeartbeats 1000000 in
theorem runEnd_any (s:ByteArray) (f:Nat) (hf:f<s.size) (hs:s.size≤maxLen) (w:World) (hL:Laid w) :
  Calls Tryz.prog 146 #[.string s,.int .i64 (f:Int)] w fun e w'=>e=.returned (.int .i64 ((nextEnd s f:Nat):Int))∧w=w':=by
 unfold maxLen at hs
 have HE:=Lib.hid (nextEnd_is s f hf)
 go_enter Tryz.func146,Tryz.ntmps146
 go_wp2_with (go_at_call 51;refine(class_byte s f hf _ rfl w hL).mono ?_;rintro e w' ⟨rfl,rfl⟩)
 go_loop [6] (fun t=>∃ k:Nat,f<k∧k≤s.size∧t=.int .i64 k∧Alike1 s f k) (fun t=>s.size - (intOf t).toNat)
 case atStart =>
  exact⟨f+1,by omega,by omega,by go_num,Alike1.one s f⟩
 case round =>
  obtain⟨k,hk1,hk2,rfl,hj⟩:=hrel
  by_cases hlt:k<s.size
  ·by_cases hc:kc s k=kc s f
   ·have HN:=hj.succ hc
    have HC:=Lib.hid hc;clear hc
    go_wp2_with (go_at_call 51;refine(class_byte s k hlt _ HC.out w hL).mono ?_;rintro e w' ⟨rfl,rfl⟩)
    go_round
    case rel=>exact⟨k+1,by omega,by omega,by go_num,HN⟩
    case measure=>simp[intOf];omega
   ·have HR:=Lib.hid (IsEnd.unique (s:=s) ⟨hk1,by omega,hj,fun _=>hc⟩ HE.out)
    have hb:(kc s k==kc s f)=false:=by simpa using hc
    clear hc
    go_wp2_with (go_at_call 51;refine(class_byte s k hlt _ rfl w hL).mono ?_;rintro e w' ⟨rfl,rfl⟩)
    go_ret
    exact⟨ret_int (by rw[HR.out]),rfl⟩
  ·have HR:=Lib.hid (IsEnd.unique (s:=s) ⟨hk1,by omega,hj,fun h=>absurd h hlt⟩ HE.out)
   go_wp2
   go_ret
   exact⟨ret_int (by rw[HR.out]),rfl⟩
attribute [local go_sem] Oper.semAt_some
def Come (s:ByteArray) (pre:List (Rn s)) (f:Nat):Prop:=runsA s 0=pre++runsA s f
theorem Come.zero (s:ByteArray):Come s [] 0:=rfl
theorem Come.succ {s:ByteArray} {pre:List (Rn s)} {f:Nat} (h:Come s pre f) (hf:f<s.size) :
  Come s (pre++[⟨(f,nextEnd s f),(nextEnd_is s f hf).1,(nextEnd_is s f hf).2.1⟩]) (nextEnd s f):=by
 unfold Come at h ⊢;rw[h,runsA_step s f hf];simp
theorem Come.lt {s:ByteArray} {pre:List (Rn s)} {f:Nat} (h:Come s pre f) (hf:f<s.size):pre.length<(runsA s 0).length:=by
 unfold Come at h;rw[h,runsA_step s f hf];simp
theorem Come.front {s:ByteArray} {pre:List (Rn s)} {f:Nat} (h:Come s pre f):pre <+: runsA s 0:=⟨_,h.symm⟩
theorem Come.all {s:ByteArray} {pre:List (Rn s)} {f:Nat} (h:Come s pre f) (hf:s.size≤f):pre=runsA s 0:=by
 unfold Come at h;rw[h,runsA_end s f hf];simp
def KeepN (n₀ Bn:Nat) (W W':World):Prop:=Below n₀ W W'∧W'.heap[Bn]?=W.heap[Bn]?
theorem KeepN.refl (n₀ Bn:Nat) (W:World):KeepN n₀ Bn W W:=⟨Below.refl _ _,rfl⟩
theorem KeepN.trans {n₀ Bn:Nat} {A B C:World} (h:KeepN n₀ Bn A B) (k:KeepN n₀ Bn B C):KeepN n₀ Bn A C:=⟨h.1.trans k.1,k.2.trans h.2⟩
theorem KeepN.of {n₀ Bn:Nat} {A B:World} (h:Below n₀ A B) (hB:Bn<n₀):KeepN n₀ Bn A B:=⟨h,h.block Bn hB⟩
theorem keepN_b {n₀ Bn:Nat} {w:World} (hn:n₀≤w.heap.size) (hB:Bn<w.heap.size) (W:World) (l:Nat) (o o':Obj) (hl:w.heap.size≤l) (h:W.heap[l]?=some o) (_:o.isCells=false) (_:o.isWalk=false):KeepN n₀ Bn W (W.putObj l o') :=
 ⟨(Below.refl n₀ W).grown (grownBy_putObj' W l o') (by have:=(Array.getElem?_eq_some_iff.1 h).1;omega) (fun k e=>by cases e;omega),World.putObj_heap_other (by omega)⟩
def encR (s:ByteArray) (x:Rn s):Array Value:=#[.int .i64 ((x.1.1:Nat):Int),.string (s.extract x.1.1 x.1.2)]
set_option maxRecDepth 100000 in
set_option maxHeartbeats 1000000 in
theorem runs1_in (n:Nat) (l Bn n₀:Nat) (s:ByteArray) (hs:s.size≤maxLen) (h0n:0<n₀) (J Jx:List (Rn s)→World→Prop)
  (hY:∀ pre x W,J pre W→pre.length<(runsA s 0).length→YieldAt Fence.wide (n - 1) Tryz.prog l (encR s x) W fun e W' =>
   (e=.returned (.bool true)∧J (pre++[x]) W'∧KeepN n₀ Bn W W')∨(e=.returned (.bool false)∧Jx (pre++[x]) W'))
  (W:World) (hBn:W.cell? ⟨Bn,0,none⟩=some (.string s)) (hL:Laid W) (h0:J [] W) :
  CallsIn Fence.wide n Tryz.prog 145 #[.func (.yield l) #[] #[],.pointer (some ⟨Bn,0,none⟩)] W fun e W'=>(∃ v,e=.returned v) ∧
   ((∃ ys,ys=runsA s 0∧J ys W')∨(∃ pre,pre <+: runsA s 0∧Jx pre W')):=by
 unfold maxLen at hs
 refine callsIn_of_wp Tryz.func145 rfl trivial ?_ rfl
 simp only[Tryz.ntmps145,List.size_toArray,List.length_cons,List.length_nil,Nat.reduceAdd,Nat.reduceSub,Array.replicate_succ,Array.replicate_zero,List.push_toArray,List.append_toArray,List.nil_append,List.cons_append]
 gi_wp2
 gi_loopw [3] (fun i wr=>∃ (pre:List (Rn s)) (f:Nat),i=.int .i64 f∧f≤s.size∧Come s pre f∧J pre wr∧KeepN n₀ Bn W wr)
  (fun i _=>s.size - (intOf i).toNat)
 case atStart=>exact⟨[],0,rfl,by omega,Come.zero s,h0,KeepN.refl _ _ _⟩
 case round =>
  obtain⟨pre,f,rfl,hf,hcm,hJs,hnx⟩:=hrel
  have hLr:Laid wr:=hL.below hnx.1 h0n
  have hcr:wr.cell? ⟨Bn,0,none⟩=some (.string s):=(World.cell?_of_block (w:=W) hnx.2).trans hBn
  by_cases hlt:f<s.size
  ·obtain⟨he1,he2,_,_⟩:=nextEnd_is s f hlt
   have hcs:=hcm.succ hlt
   obtain⟨fn,tmps,assign,body,hy,hR⟩:=hY pre ⟨(f,nextEnd s f),he1,he2⟩ wr hJs (hcm.lt hlt)
   dsimp only[encR]at hy
   gi_wp2_with (refine⟨trivial,fun h=>Bool.noConfusion h,?_⟩;gi_at_call 146;refine(callsIn_wide.2 (runEnd_any s f hlt hs wr hLr)).mono ?_;rintro e w' ⟨rfl,rfl⟩)
   refine⟨fun h=>Bool.noConfusion h,hR.mono ?_⟩
   rintro e W3 (⟨rfl,hJ3,hk3⟩ | ⟨rfl,hJx3⟩)
   ·gi_wp2
    go_roundw
    case rel=>exact⟨_,_,rfl,he2,hcs,hJ3,hnx.trans hk3⟩
    case measure=>simp[intOf];omega
   ·gi_wp2
    refine bodyPost_ret (results_none rfl _ _ _) rfl ?_
    exact⟨⟨_,rfl⟩,.inr ⟨_,hcs.front,hJx3⟩⟩
  ·gi_wp2
   go_end0
   exact⟨⟨_,rfl⟩,.inl ⟨_,hcm.all (by omega),hJs⟩⟩
set_option maxHeartbeats 1000000 in
theorem runs0_any (s:ByteArray) (w:World) :
  Calls Tryz.prog 109 #[.string s] w fun e w'=>e=.returned (.func (.func 145) #[] #[.pointer (some ⟨w.heap.size,0,none⟩)])∧w'=w.alloc (.cells #[.string s] 9):=by
 go_enter Tryz.func109,Tryz.ntmps109
 go_wp2
 go_ret
 exact⟨rfl,rfl⟩
theorem runs_stops (n:Nat) (Bn n₀:Nat) (s:ByteArray) (hs:s.size≤maxLen) (h0n:0<n₀) (w:World) (hB:Bn<w.heap.size) (hc:w.cell? ⟨Bn,0,none⟩=some (.string s)) (hL:Laid w) :
  SeqStopsK Fence.wide n Tryz.prog 145 #[.pointer (some ⟨Bn,0,none⟩)] (encR s) (KeepN n₀ Bn) (fun ys=>ys=runsA s 0) (fun pre=>pre <+: runsA s 0) (runsA s 0).length w:=fun l J Jx W hW _ _ hY h0 =>
 runs1_in n l Bn n₀ s hs h0n J Jx hY W ((hW.cell (p:=⟨Bn,0,none⟩) hB).trans hc) (hL.below hW hL.1) h0
end Go.Proofs.YtlgejmcihchngaaGreatDoor.Hc
namespace Go.Proofs.YtlgejmcihchngaaGreatDoor.Hc
open Go.RowKit Go.Shelf
attribute [local go_sem] Oper.semAt_some
end Go.Proofs.YtlgejmcihchngaaGreatDoor.Hc
namespace Go.Proofs.YtlgejmcihchngaaGreatDoor.Hc
open Go.RowKit Go.Shelf
attribute [local go_sem] Oper.semAt_some
def up (s:ByteArray):Nat→Nat
 | 0=>0
 | n+1=>up s n+if kc s n=2 then 1 else 0
def allL (s:ByteArray) (n:Nat):Prop:=∀ j,j<n→kc s j=1∨kc s j=2
def caseV (s:ByteArray) (k:Nat):Int:=if s.size=0 then 0 else if k=0 then 1 else if k=1∧kc s 0=2 then 2 else if k=s.size then 3 else 4
def allB (s:ByteArray):Nat→Bool
 | 0=>true
 | n+1=>allB s n && (kc s n==1 || kc s n==2)
theorem allB_iff (s:ByteArray):∀ n,allB s n=true↔allL s n
 | 0=>by simp[allB,allL]
 | n+1=>by
  have ih:=allB_iff s n
  simp only[allB,Bool.and_eq_true,ih,Bool.or_eq_true,beq_iff_eq]
  constructor
  ·rintro⟨h1,h2⟩ j hj
   rcases Nat.lt_or_ge j n with h3 | h3
   ·exact h1 j h3
   ·have e:j=n:=by omega
    rw[e];exact h2
  ·exact fun h=>⟨fun j hj=>h j (by omega),h n (by omega)⟩
def caseI (s:ByteArray):Int:=if s.size=0 then 0 else if allB s s.size then caseV s (up s s.size) else 0
theorem caseI_yes (s:ByteArray) (h:allL s s.size):caseI s=caseV s (up s s.size):=by
 unfold caseI
 by_cases h0:s.size=0
 ·rw[if_pos h0];unfold caseV;rw[if_pos h0]
 ·rw[if_neg h0,if_pos ((allB_iff s s.size).2 h)]
theorem caseI_no (s:ByteArray) (h:¬ allL s s.size):caseI s=0:=by
 unfold caseI
 by_cases h0:s.size=0
 ·rw[if_pos h0]
 ·rw[if_neg h0,if_neg (fun hb=>h ((allB_iff s s.size).1 hb))]
theorem up_le (s:ByteArray):∀ n,up s n≤n
 | 0=>Nat.le_refl _
 | n+1=>by have:=up_le s n;unfold up;split<;>omega
theorem up_run (s:ByteArray) (f:Nat):∀ e,f≤e→(∀ j,f≤j→j<e→kc s j=kc s f)→up s e=up s f+if kc s f=2 then e - f else 0
 | 0,h,_=>by
  obtain rfl:f=0:=by omega
  simp
 | e+1,h,hj=>by
  rcases Nat.lt_or_ge f (e+1)with h1 | h1
  ·have ih:=up_run s f e (by omega) (fun j h2 h3=>hj j h2 (by omega))
   have he:=hj e (by omega) (by omega)
   rw[up,ih,he]
   split<;>omega
  ·obtain rfl:f=e+1:=by omega
   simp
def capN (s:ByteArray) (l:List (Rn s)):Nat:=(l.map fun x=>if kc s x.1.1=2 then x.1.2 - x.1.1 else 0).sum
theorem capN_snoc (s:ByteArray) (l:List (Rn s)) (x:Rn s):capN s (l++[x])=capN s l+if kc s x.1.1=2 then x.1.2 - x.1.1 else 0:=by simp[capN]
theorem capN_le (s:ByteArray):∀ l:List (Rn s),capN s l≤l.length * s.size
 | []=>by simp[capN]
 | x::l=>by
  have ih:=capN_le s l
  have e:capN s (x::l)=(if kc s x.1.1=2 then x.1.2 - x.1.1 else 0)+capN s l:=by simp[capN]
  rw[e,List.length_cons,Nat.succ_mul]
  have:=x.2
  split<;>omega
theorem capN_from (s:ByteArray):∀ n f,s.size - f≤n→f≤s.size→capN s (runsA s f)+up s f=up s s.size
 | 0,f,hn,hf=>by
  obtain rfl:f=s.size:=by omega
  rw[runsA_end s s.size (Nat.le_refl _)];simp[capN]
 | n+1,f,hn,hf=>by
  rcases Nat.lt_or_ge f s.size with h | h
  ·obtain⟨h1,h2,h3,_⟩:=nextEnd_is s f h
   have ih:=capN_from s n (nextEnd s f) (by omega) h2
   have hu:=up_run s f (nextEnd s f) (by omega) h3
   rw[runsA_step s f h]
   have e:∀ (x:Rn s) l,capN s (x::l)=(if kc s x.1.1=2 then x.1.2 - x.1.1 else 0)+capN s l:=fun x l=>by simp[capN]
   rw[e]
   simp only[]
   omega
  ·obtain rfl:f=s.size:=by omega
   rw[runsA_end s s.size (Nat.le_refl _)];simp[capN]
theorem capN_all (s:ByteArray):capN s (runsA s 0)=up s s.size:=by have:=capN_from s s.size 0 (by omega) (by omega);simpa[up] using this
theorem mem_of_byte (s:ByteArray) (j:Nat) (hj:j<s.size):∀ n f,s.size - f≤n→f≤j→∃ x ∈ runsA s f,kc s j=kc s x.1.1
 | 0,f,hn,hf=>by omega
 | n+1,f,hn,hf=>by
  have hlt:f<s.size:=by omega
  obtain⟨h1,h2,h3,_⟩:=nextEnd_is s f hlt
  rw[runsA_step s f hlt]
  rcases Nat.lt_or_ge j (nextEnd s f)with h | h
  ·exact⟨_,List.mem_cons_self,h3 j hf h⟩
  ·obtain⟨x,hx,he⟩:=mem_of_byte s j hj n (nextEnd s f) (by omega) h
   exact⟨x,List.mem_cons_of_mem _ hx,he⟩
def runsL2 (s:ByteArray) (l:List (Rn s)):Prop:=∀ x ∈ l,kc s x.1.1=1∨kc s x.1.1=2
theorem runsL2.snoc {s:ByteArray} {l:List (Rn s)} {x:Rn s} (h:runsL2 s l) (hx:kc s x.1.1=1∨kc s x.1.1=2):runsL2 s (l++[x]):=fun y hy=>by
 rcases List.mem_append.1 hy with hy | hy
 ·exact h y hy
 ·simp at hy;subst hy;exact hx
theorem allL_of (s:ByteArray) (h:runsL2 s (runsA s 0)):allL s s.size:=fun j hj=>by
 obtain⟨x,hx,he⟩:=mem_of_byte s j hj s.size 0 (by omega) (by omega)
 rw[he];exact h x hx
theorem not_allL (s:ByteArray) {pre:List (Rn s)} (x:Rn s) (_:x ∈ pre) (h1:¬ (kc s x.1.1=1∨kc s x.1.1=2)):¬ allL s s.size:=fun h=>h1 (h _ (by have:=x.2;omega))
theorem ext_get (s:ByteArray) (a b:Nat) (h:a<b) (hb:b≤s.size) (h0:0<(s.extract a b).size):(s.extract a b)[0]=s[a]:=by
 rw[ByteArray.getElem_extract];rfl
theorem ext_size (s:ByteArray) (a b:Nat) (hb:b≤s.size):(s.extract a b).size=b - a:=by
 rw[ByteArray.size_extract];omega
theorem class_ext (s:ByteArray) (a b:Nat) (h:a<b) (hb:b≤s.size) (h0:0<(s.extract a b).size) (v:Int) (hv:kc s a=v) (w:World) (hL:Laid w) :
  Calls Tryz.prog 51 #[.int .u8 (((s.extract a b)[0].toNat:Nat):Int)] w fun e w'=>e=.returned (.int .i64 v)∧w=w':=by
 rw[ext_get s a b h hb h0];exact class_byte s a (by omega) v hv w hL
theorem isEmpty_no (s:ByteArray) (h:¬ s.size=0):s.toList.isEmpty=false:=by
 have:=Classical.propDecidable (s=ByteArray.empty)
 rw[← decide_eq_emptyBytes]
 simp only[decide_eq_false_iff_not]
 rintro rfl
 exact h rfl
set_option maxHeartbeats 1000000 in
theorem caseOf_any (s:ByteArray) (k:Nat) (hk:k≤s.size) (hs:s.size≤2000) (w:World) (hL:Laid w) :
  Calls Tryz.prog 110 #[.string s,.int .i64 (k:Int)] w fun e w'=>e=.returned (.int .i64 (caseV s k))∧w=w':=by
 by_cases h0:s.size=0
 ·have HV:=Lib.hid (show (0:Int)=caseV s k by unfold caseV;rw[if_pos h0])
  obtain rfl:s={ data:=#[] }:=ByteArray.size_eq_zero_iff.1 h0
  clear h0
  go_enter Tryz.func110,Tryz.ntmps110
  go_wp2
  go_ret
  exact⟨ret_int HV.out,rfl⟩
 have hpos:0<s.size:=by omega
 have e1:s.toList.isEmpty=false:=isEmpty_no s h0
 by_cases k0:k=0
 ·have HV:=Lib.hid (show (1:Int)=caseV s k by unfold caseV;rw[if_neg h0,if_pos k0])
  subst k0
  clear h0
  show Calls _ _ #[.string s,.int .i64 0] _ _
  go_enter Tryz.func110,Tryz.ntmps110
  go_wp2
  go_ret
  exact⟨ret_int HV.out,rfl⟩
 have b0:(((k:Nat):Int)==0)=false:=by simp;omega
 by_cases k1:k=1
 ·subst k1
  have hi:(0:Int)<(s.size:Int):=by omega
  by_cases hc:kc s 0=2
  ·have HV:=Lib.hid (show (2:Int)=caseV s 1 by unfold caseV;rw[if_neg h0,if_neg (by omega),if_pos ⟨rfl,hc⟩])
   have HC:=Lib.hid hc
   clear h0 k0 b0 hc
   show Calls _ _ #[.string s,.int .i64 1] _ _
   go_enter Tryz.func110,Tryz.ntmps110
   go_wp2_with (go_at_call 51;refine(class_byte s 0 hpos _ HC.out w hL).mono ?_;rintro e w' ⟨rfl,rfl⟩)
   go_ret
   exact⟨ret_int HV.out,rfl⟩
  ·have hb:(kc s 0==2)=false:=by simpa using hc
   by_cases h1:s.size=1
   ·have HV:=Lib.hid (show (3:Int)=caseV s 1 by unfold caseV;rw[if_neg h0,if_neg (by omega),if_neg (fun h=>hc h.2),if_pos h1.symm])
    have b1:((1:Int)==(s.size:Int))=true:=by rw[h1];rfl
    clear h0 k0 b0 hc h1
    show Calls _ _ #[.string s,.int .i64 1] _ _
    go_enter Tryz.func110,Tryz.ntmps110
    go_wp2_with (go_at_call 51;refine(class_byte s 0 hpos _ rfl w hL).mono ?_;rintro e w' ⟨rfl,rfl⟩)
    go_ret
    exact⟨ret_int HV.out,rfl⟩
   ·have HV:=Lib.hid (show (4:Int)=caseV s 1 by unfold caseV;rw[if_neg h0,if_neg (by omega),if_neg (fun h=>hc h.2),if_neg (fun h=>h1 h.symm)])
    have b1:((1:Int)==(s.size:Int))=false:=by simp;omega
    clear h0 k0 b0 hc h1
    show Calls _ _ #[.string s,.int .i64 1] _ _
    go_enter Tryz.func110,Tryz.ntmps110
    go_wp2_with (go_at_call 51;refine(class_byte s 0 hpos _ rfl w hL).mono ?_;rintro e w' ⟨rfl,rfl⟩)
    go_ret
    exact⟨ret_int HV.out,rfl⟩
 ·have b2:(((k:Nat):Int)==1)=false:=by simp;omega
  by_cases h1:k=s.size
  ·have HV:=Lib.hid (show (3:Int)=caseV s k by unfold caseV;rw[if_neg h0,if_neg k0,if_neg (fun h=>k1 h.1),if_pos h1])
   have b1:(((k:Nat):Int)==(s.size:Int))=true:=by rw[h1];simp
   clear h0 k0 k1 h1
   go_enter Tryz.func110,Tryz.ntmps110
   go_wp2
   go_ret
   exact⟨ret_int HV.out,rfl⟩
  ·have HV:=Lib.hid (show (4:Int)=caseV s k by unfold caseV;rw[if_neg h0,if_neg k0,if_neg (fun h=>k1 h.1),if_neg h1])
   have b1:(((k:Nat):Int)==(s.size:Int))=false:=by simp;omega
   clear h0 k0 k1 h1
   go_enter Tryz.func110,Tryz.ntmps110
   go_wp2
   go_ret
   exact⟨ret_int HV.out,rfl⟩
set_option maxRecDepth 100000 in
set_option maxHeartbeats 1000000 in
theorem case_any (s:ByteArray) (hs:s.size≤2000) (w:World) (hL:Laid w) :
  Calls Tryz.prog 76 #[.string s] w fun e w'=>e=.returned (.int .i64 (caseI s))∧Below w.heap.size w w':=by
 have hfn:∀ f,Fence.wide.fn f:=fun _=>trivial
 refine(callsIn_wide (n:=3)).1 ?_
 refine callsIn_of_wp_marks Tryz.func76 rfl trivial ?_ rfl
 simp only[Tryz.ntmps76,List.size_toArray,List.length_cons,List.length_nil,Nat.reduceAdd,Nat.reduceSub,Array.replicate_succ,Array.replicate_zero,List.push_toArray,List.append_toArray,List.nil_append,List.cons_append]
 gi_wp2_with (gi_at_call 109;refine(callsIn_wide.2 (runs0_any s _)).mono ?_;rintro e w' ⟨rfl,rfl⟩)
 obtain⟨W0,hW0⟩:∃ W0,(((w.alloc (.cells #[.int .i64 0] 3)).alloc (.cells #[.int .i64 0] 3)).alloc (.cells #[.string s] 9))=W0:=⟨_,rfl⟩
 have hsz:W0.heap.size=w.heap.size+1+1+1:=by rw[← hW0];simp
 have bR:Boxed W0 w.heap.size 3 (.int .i64 0):=by rw[← hW0];exact((Boxed.new w _ _).alloc _).alloc _
 have bC:Boxed W0 (w.heap.size+1) 3 (.int .i64 0):=by
  rw[← hW0];have:=(Boxed.new (w.alloc (.cells #[.int .i64 0] 3)) 3 (.int .i64 0)).alloc (.cells #[.string s] 9);rwa [World.size_alloc]at this
 have bN:Boxed W0 (w.heap.size+1+1) 9 (.string s):=by
  rw[← hW0];have:=Boxed.new ((w.alloc (.cells #[.int .i64 0] 3)).alloc (.cells #[.int .i64 0] 3)) 9 (.string s);rwa [World.size_alloc,World.size_alloc]at this
 have hB0:Below w.heap.size w W0:=by
  rw[← hW0];exact(((Below.refl _ w).alloc (Nat.le_refl _) _).alloc (by simp) _).alloc (by simp;omega) _
 have hL0:Laid W0:=hL.below hB0 hL.1
 have hwp:=hL.1
 rw[hW0]
 have hN:=runsA_len s
 clear hW0
 refine wpIn_rangeFunc_ownG rfl (by omega) (gf:=145) (lb:=#[.pointer (some ⟨w.heap.size+1+1,0,none⟩)]) rfl trivial (enters_of Tryz.func145 (by kernel_rfl) rfl)
  (runs_stops 2 (w.heap.size+1+1) w.heap.size s (by unfold maxLen;omega) hL.1 W0 (by omega) bN.cell hL0) KeepN.trans (keepN_b (by omega) (by omega)) (Below.refl _ _) (fun _=>rfl)
  (fun pre W=>(Boxed W w.heap.size 3 (.int .i64 0)∧Boxed W (w.heap.size+1) 3 (.int .i64 ((capN s pre:Nat):Int))∧runsL2 s pre)∧Below w.heap.size w W)
  (fun c pre W=>(c=.ret∧(∃ x ∈ pre,¬ (kc s x.1.1=1∨kc s x.1.1=2))∧Boxed W w.heap.size 3 (.int .i64 0))∧Below w.heap.size w W)
  (OwnFrom.and (Own.from (fun pre A B row hs hg hr=>⟨boxed_own _ _ (fun _:List (Rn s)=>_) pre A B row hs.1 hg hr,boxed_own _ _ (fun pre:List (Rn s)=>.int .i64 ((capN s pre:Nat):Int)) pre A B row hs.2.1 hg hr,hs.2.2⟩) _) (ownFrom_below (by omega) (by omega)))
  (fun c=>OwnFrom.and (Own.from (fun pre A B row hs hg hr=>⟨hs.1,hs.2.1,boxed_own _ _ (fun _:List (Rn s)=>_) pre A B row hs.2.2 hg hr⟩) _) (ownFrom_below (by omega) (by omega)))
  ⟨⟨bR,bC,fun x hx=>by simp at hx⟩,hB0⟩
  (fun x=>{ tmps:=#[.string s,undef,.pointer (some ⟨w.heap.size,0,none⟩),.pointer (some ⟨w.heap.size+1,0,none⟩),undef,.string (s.extract x.1.1 x.1.2),.string s,
   .func (.func 145) #[] #[.pointer (some ⟨w.heap.size+1+1,0,none⟩)],.int .i64 ((x.1.1:Nat):Int),.string (s.extract x.1.1 x.1.2),
   undef,undef,undef,undef,undef,undef,undef,undef,undef,undef,undef,undef,undef,undef],defers:=[] }) ?assign ?body ?done ?stop
 case assign =>
  intro l x W K hK
  dsimp only[encR]
  gi_wp2
  exact hK
 case body =>
  rintro l pre x W ⟨⟨h0,h1,h2⟩,hB⟩ hlt
  have hLW:=hL.below hB hL.1
  obtain⟨x1,x2⟩:=x.2
  have hes:=ext_size s x.1.1 x.1.2 x2
  have he0:0<(s.extract x.1.1 x.1.2).size:=by omega
  have he1:(s.extract x.1.1 x.1.2).size≤2000:=by omega
  have hcn:=capN_le s pre
  have hcn2:capN s pre≤4000000:=Nat.le_trans hcn (Nat.le_trans (Nat.mul_le_mul (show pre.length≤2000 by omega) hs) (by omega))
  have HS:=Lib.hid hes;clear hes hcn
  have hc1:=h1.cell
  have hf1:=h1.frozen
  have hc0:=h0.cell
  have hf0:=h0.frozen
  by_cases k2:kc s x.1.1=2
  ·have HK:=Lib.hid k2;clear k2
   gi_wp2_with (gi_at_call 51;refine(CallsIn.inRound l (callsIn_wide.2 (class_ext s x.1.1 x.1.2 x1 x2 he0 _ HK.out W hLW))).mono ?_;rintro e w' ⟨rfl,rfl⟩)
   have hx:=runsL2.snoc h2 (.inr HK.out)
   exact⟨(KeepsOthers.setCell _ _ _).from _,⟨(Below.refl w.heap.size W).setCell (p:=⟨w.heap.size+1,0,none⟩) (by simp) _,Below.heap_setCell W ⟨w.heap.size+1,0,none⟩ _ _ (by simp)⟩,
    ⟨h0.other (by omega) _,by rw[capN_snoc,if_pos HK.out,Int.natCast_add];exact h1.set _,hx⟩,hB.setCell (p:=⟨w.heap.size+1,0,none⟩) (by simp) _⟩
  ·have b2:(kc s x.1.1==2)=false:=by simpa using k2
   by_cases k1:kc s x.1.1=1
   ·have hx:=runsL2.snoc h2 (.inl k1)
    have HK:=Lib.hid k1;clear k1 b2
    have HK2:=Lib.hid k2;clear k2
    gi_wp2_with (gi_at_call 51;refine(CallsIn.inRound l (callsIn_wide.2 (class_ext s x.1.1 x.1.2 x1 x2 he0 _ HK.out W hLW))).mono ?_;rintro e w' ⟨rfl,rfl⟩)
    exact⟨KeepsFrom.refl _ _,KeepN.refl _ _ _,⟨h0,by rw[capN_snoc,if_neg HK2.out];exact h1,hx⟩,hB⟩
   ·have b1:(kc s x.1.1==1)=false:=by simpa using k1
    have HK:=Lib.hid (show ¬ (kc s x.1.1=1∨kc s x.1.1=2) from fun h=>h.elim k1 k2)
    clear k1 k2
    gi_wp2_with (gi_at_call 51;refine(CallsIn.inRound l (callsIn_wide.2 (class_ext s x.1.1 x.1.2 x1 x2 he0 _ rfl W hLW))).mono ?_;rintro e w' ⟨rfl,rfl⟩)
    exact⟨(KeepsOthers.setCell _ _ _).from _,⟨rfl,⟨x,List.mem_append.2 (.inr (by simp)),HK.out⟩,h0.set _⟩,hB.setCell (p:=⟨w.heap.size,0,none⟩) (Nat.le_refl _) _⟩
 case done =>
  rintro D ys W hD rfl ⟨⟨h0,h1,h2⟩,hB⟩ hK
  have hLW:=hL.below hB hL.1
  have hall:=allL_of s h2
  have HV:=Lib.hid (caseI_yes s hall)
  rw[capN_all]at h1
  have hul:=up_le s s.size
  have hc1:=h1.cell
  have hc0:=h0.cell
  have hf0:=h0.frozen
  gi_wp2_with (gi_at_call 110;refine(callsIn_wide.2 (caseOf_any s (up s s.size) hul hs W hLW)).mono ?_;rintro e w' ⟨rfl,rfl⟩)
  have hK':=(KeepsOthers.setCell W ⟨w.heap.size,0,none⟩ (.int .i64 (caseV s (up s s.size)))).same D _ hK rfl
  refine⟨by simp,.inl ⟨_,_,rfl,run_takeDeferred hK',?_⟩⟩
  have hc5:=cell_kept (h0.set (.int .i64 (caseV s (up s s.size)))).cell (grownBy_putObj' _ D (.deferred none)) (fun r e=>by cases e;exact⟨_,hK',rfl⟩)
  refine⟨.int .i64 (caseV s (up s s.size)),?_,ret_int HV.out.symm,(hB.setCell (p:=⟨w.heap.size,0,none⟩) (Nat.le_refl _) _).trans (belowK_b (w:=w) (Nat.le_refl _) _ D _ _ (by omega) hK' rfl rfl)⟩
  simp[results,Tryz.f76,go_sem,hc5]
 case stop =>
  rintro D c pre W hD hpre ⟨⟨rfl,⟨x,hx,hn⟩,h0⟩,hB⟩ hK
  have HV:=Lib.hid (caseI_no s (not_allL s x hx hn))
  clear hn
  have hc0:=h0.cell
  gi_wp2
  refine⟨by simp,.inl ⟨_,_,rfl,run_takeDeferred hK,?_⟩⟩
  have hc5:=cell_kept hc0 (grownBy_putObj' _ D (.deferred none)) (fun r e=>by cases e;exact⟨_,hK,rfl⟩)
  refine⟨.int .i64 0,?_,ret_int HV.out.symm,hB.trans (belowK_b (w:=w) (Nat.le_refl _) W D _ _ (by omega) hK rfl rfl)⟩
  simp[results,Tryz.f76,go_sem,hc5]
end Go.Proofs.YtlgejmcihchngaaGreatDoor.Hc
