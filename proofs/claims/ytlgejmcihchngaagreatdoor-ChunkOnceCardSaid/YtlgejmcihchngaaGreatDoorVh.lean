/-
  Put together: SpL, SpN.
-/
import Derived.Test.YtlgejmcihchngaaGreatDoorVg
import Derived.Test.YtlgejmcihchngaaGreatDoorShelf
import Derived.Shelf.Abstract
import Derived.Shelf.RegionOpen
import Derived.OwnWalkIn
import Derived.TacticsInMore
import Derived.LoopNIn
import Derived.LoopIn
namespace Go.Proofs.YtlgejmcihchngaaGreatDoor.Sp
open Go.RowKit Ba
def dsh (c:UInt8) (s:ByteArray):Nat→Nat→Nat
 | 0,e=>e
 | n+1,e=>if e<s.size∧bAt s e≠c.toNat then dsh c s n (e+1) else e
def dash (c:UInt8) (s:ByteArray) (f:Nat):Nat:=dsh c s s.size f
def IsDash (c:UInt8) (s:ByteArray) (f e:Nat):Prop:=f≤e∧e≤s.size∧(∀ j,f≤j→j<e→bAt s j≠c.toNat)∧(e<s.size→bAt s e=c.toNat)
theorem dsh_is (c:UInt8) (s:ByteArray) (f:Nat):∀ n e,s.size - e≤n→f≤e→e≤s.size→(∀ j,f≤j→j<e→bAt s j≠c.toNat)→IsDash c s f (dsh c s n e)
 | 0,e,hn,hf,he,hj=>⟨hf,he,hj,fun h=>by have:dsh c s 0 e=e:=rfl;omega⟩
 | n+1,e,hn,hf,he,hj=>by
  unfold dsh
  by_cases h:e<s.size∧bAt s e≠c.toNat
  ·rw[if_pos h]
   refine dsh_is c s f n (e+1) (by omega) (by omega) (by omega) (fun j h1 h2=>?_)
   rcases Nat.lt_or_ge j e with h3 | h3
   ·exact hj j h1 h3
   ·obtain rfl:j=e:=by omega
    exact h.2
  ·rw[if_neg h]
   exact⟨hf,he,hj,fun h3=>Classical.byContradiction fun h4=>h ⟨h3,h4⟩⟩
theorem dash_is (c:UInt8) (s:ByteArray) (f:Nat) (h:f≤s.size):IsDash c s f (dash c s f):=dsh_is c s f s.size f (by omega) (Nat.le_refl _) h (fun j h1 h2=>by omega)
theorem IsDash.unique {c:UInt8} {s:ByteArray} {f e e':Nat} (h:IsDash c s f e) (h':IsDash c s f e'):e=e':=by
 obtain⟨a1,a2,a3,a4⟩:=h
 obtain⟨b1,b2,b3,b4⟩:=h'
 rcases Nat.lt_trichotomy e e' with h | h | h
 ·exact absurd (a4 (by omega)) (b3 e (by omega) h)
 ·exact h
 ·exact absurd (b4 (by omega)) (a3 e' (by omega) h)
abbrev Pt (s:ByteArray):={ x:Nat × Nat // x.1≤x.2∧x.2≤s.size }
def partsF (c:UInt8) (s:ByteArray):Nat→Nat→List (Pt s)
 | 0,_=>[]
 | n+1,f=>if h:f≤s.size then ⟨(f,dash c s f),(dash_is c s f h).1,(dash_is c s f h).2.1⟩::(if dash c s f<s.size then partsF c s n (dash c s f+1) else []) else []
def partsA (c:UInt8) (s:ByteArray) (f:Nat):List (Pt s):=partsF c s (s.size+1) f
theorem partsF_more (c:UInt8) (s:ByteArray):∀ n m f,s.size+1 - f≤n→s.size+1 - f≤m→partsF c s n f=partsF c s m f
 | 0,0,_,_,_=>rfl
 | 0,m+1,f,hn,hm=>by unfold partsF;rw[dif_neg (by omega)]
 | n+1,0,f,hn,hm=>by unfold partsF;rw[dif_neg (by omega)]
 | n+1,m+1,f,hn,hm=>by
  unfold partsF
  by_cases h:f≤s.size
  ·rw[dif_pos h,dif_pos h]
   have:=(dash_is c s f h).1
   congr 1
   split
   ·exact partsF_more c s n m (dash c s f+1) (by omega) (by omega)
   ·rfl
  ·rw[dif_neg h,dif_neg h]
theorem partsA_step (c:UInt8) (s:ByteArray) (f:Nat) (h:f≤s.size):partsA c s f=⟨(f,dash c s f),(dash_is c s f h).1,(dash_is c s f h).2.1⟩::(if dash c s f<s.size then partsA c s (dash c s f+1) else []):=by
 have h1:=(dash_is c s f h).1
 have h2:=(dash_is c s f h).2.1
 unfold partsA
 conv=>lhs;unfold partsF
 rw[dif_pos h]
 congr 1
 split
 ·exact partsF_more c s _ _ _ (by omega) (by omega)
 ·rfl
def ComeP (c:UInt8) (s:ByteArray) (pre:List (Pt s)) (f:Nat):Prop:=partsA c s 0=pre++partsA c s f
theorem ComeP.zero (c:UInt8) (s:ByteArray):ComeP c s [] 0:=rfl
theorem ComeP.succ {c:UInt8} {s:ByteArray} {pre:List (Pt s)} {f:Nat} (h:ComeP c s pre f) (hf:f≤s.size) (hd:dash c s f<s.size) :
  ComeP c s (pre++[⟨(f,dash c s f),(dash_is c s f hf).1,(dash_is c s f hf).2.1⟩]) (dash c s f+1):=by
 unfold ComeP at h ⊢;rw[h,partsA_step c s f hf,if_pos hd];simp
theorem ComeP.last {c:UInt8} {s:ByteArray} {pre:List (Pt s)} {f:Nat} (h:ComeP c s pre f) (hf:f≤s.size) (hd:¬ dash c s f<s.size) :
  partsA c s 0=pre++[⟨(f,dash c s f),(dash_is c s f hf).1,(dash_is c s f hf).2.1⟩]:=by
 unfold ComeP at h;rw[h,partsA_step c s f hf,if_neg hd]
theorem ComeP.next {c:UInt8} {s:ByteArray} {pre:List (Pt s)} {f:Nat} (h:ComeP c s pre f) (hf:f≤s.size):pre++[⟨(f,dash c s f),(dash_is c s f hf).1,(dash_is c s f hf).2.1⟩] <+: partsA c s 0:=by
 unfold ComeP at h;rw[h,partsA_step c s f hf];exact⟨_,by rw[List.append_assoc];rfl⟩
end Go.Proofs.YtlgejmcihchngaaGreatDoor.Sp
namespace Go.Proofs.YtlgejmcihchngaaGreatDoor.Sp
open Go.RowKit Go.Shelf Ba Ra
attribute [local go_sem] Oper.semAt_some
def KeepB (Bs:Nat) (W W':World):Prop:=∀ k,Bs≤k→k<Bs+3→W'.heap[k]?=W.heap[k]?
theorem KeepB.trans {Bs:Nat} {A B C:World} (h:KeepB Bs A B) (k:KeepB Bs B C):KeepB Bs A C:=fun i h1 h2=>(k i h1 h2).trans (h i h1 h2)
def Boxes (c:UInt8) (Bs:Nat) (t:ByteArray) (W:World):Prop :=
 W.cell? ⟨Bs,0,none⟩=some (.string t)∧W.frozen? ⟨Bs,0,none⟩=false∧W.cell? ⟨Bs+1,0,none⟩=some (.string { data:=#[c] })∧W.cell? ⟨Bs+2,0,none⟩=some (.int .i64 0)
theorem Boxes.keep {c:UInt8} {Bs:Nat} {t:ByteArray} {W W':World} (h:Boxes c Bs t W) (k:KeepB Bs W W'):Boxes c Bs t W' :=
 ⟨(World.cell?_of_block (w:=W) (k Bs (by omega) (by omega))).trans h.1,(World.frozen?_of_block (w:=W) (k Bs (by omega) (by omega))).trans h.2.1,(World.cell?_of_block (w:=W) (k (Bs+1) (by omega) (by omega))).trans h.2.2.1,(World.cell?_of_block (w:=W) (k (Bs+2) (by omega) (by omega))).trans h.2.2.2⟩
theorem Boxes.set {c:UInt8} {Bs:Nat} {t:ByteArray} {W:World} (h:Boxes c Bs t W) (t':ByteArray):Boxes c Bs t' (W.setCell ⟨Bs,0,none⟩ (.string t')) :=
 ⟨World.cell?_setCell_same' _ _ _ (by rw[h.1];rfl),by rw[World.frozen?_setCell];exact h.2.1,
  (World.cell?_setCell_other _ _ _ _ (fun he=>by injection he with h1 _;omega)).trans h.2.2.1,(World.cell?_setCell_other _ _ _ _ (fun he=>by injection he with h1 _;omega)).trans h.2.2.2⟩
end Go.Proofs.YtlgejmcihchngaaGreatDoor.Sp
