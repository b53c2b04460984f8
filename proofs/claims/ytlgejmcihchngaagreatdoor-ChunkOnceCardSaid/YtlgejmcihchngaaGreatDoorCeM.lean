/-
  Plain facts on cells: dots, signs, the cell of a text of dots. No program stands in it but for its name.
-/
import Derived.Test.YtlgejmcihchngaaGreatDoorRows
import Derived.WalkKit
import Derived.WalkSpells
import Derived.WalkLawsBesides
import Derived.Lib.Hide
import Derived.Outline
namespace Go.Proofs.YtlgejmcihchngaaGreatDoor.Ce
open Go.RowKit
theorem ret_int {k:IntKind} {a b:Int} (h:a=b):Ending.returned (.int k a)=.returned (.int k b):=by rw[h]
theorem ret_bool {a b:Bool} (h:a=b):Ending.returned (.bool a)=.returned (.bool b):=by rw[h]
theorem ret_ib {k:IntKind} {a b:Int} {x y:Bool} (h:a=b) (h':x=y):Ending.returned (.tuple #[.int k a,.bool x])=.returned (.tuple #[.int k b,.bool y]):=by rw[h,h']
def signL:List Nat:=[32,65,49,66,39,75,50,76,64,67,73,70,47,77,83,80,34,69,51,72,57,79,54,82,94,68,74,71,62,78,84,81,44,42,53,60,45,85,56,86,46,37,91,36,43,88,33,38,59,58,52,92,48,90,55,40,95,63,87,93,35,89,41,61]
def fromN (b:Nat):Nat:=signL.idxOf b
def Past (b:Nat) (k:Nat):Prop:=k≤fromN b
theorem Past.zero (b:Nat):Past b 0:=Nat.zero_le _
def bitN (d:Nat):Nat:=if 49≤d∧d≤54 then 2 ^ (d - 49) else 0
def dotsN (c k:Nat):List Nat:=((List.range k).filter fun i=>c / 2 ^ i % 2==1).map (49+·)
def bytesOf (l:List Nat):ByteArray:=⟨(l.map UInt8.ofNat).toArray⟩
def dotsS (c:Nat):ByteArray:=bytesOf (dotsN c 6)
def popN (c:Nat):Nat:=(dotsN c 6).length
theorem dotsN_yes (c k:Nat) (h:c / 2 ^ k % 2=1):dotsN c (k+1)=dotsN c k++[49+k]:=by
 unfold dotsN;rw[List.range_succ,List.filter_append,List.map_append];simp[h]
theorem dotsN_no (c k:Nat) (h:¬ c / 2 ^ k % 2=1):dotsN c (k+1)=dotsN c k:=by
 unfold dotsN;rw[List.range_succ,List.filter_append,List.map_append];simp[h]
theorem dotsN_len (c k:Nat):(dotsN c k).length≤k:=by
 unfold dotsN;rw[List.length_map]
 exact Nat.le_trans (List.length_filter_le _ _) (by simp)
theorem bytesOf_size (l:List Nat):(bytesOf l).size=l.length:=by
 show ((l.map UInt8.ofNat).toArray).size=_
 simp
def bytesN (s:ByteArray):List Nat:=s.data.toList.map UInt8.toNat
theorem bytesN_len (s:ByteArray):(bytesN s).length=s.size:=by unfold bytesN;rw[List.length_map,Array.length_toList];rfl
def bAt (s:ByteArray) (i:Nat):Nat:=(bytesN s).getD i 0
theorem bAt_lt (s:ByteArray) (i:Nat):bAt s i<256:=by
 unfold bAt bytesN
 rw[List.getD_eq_getElem?_getD,List.getElem?_map]
 cases h:s.data.toList[i]? with
 | none=>simp
 | some x=>simpa using UInt8.toNat_lt x
theorem bAt_get (s:ByteArray) (k:Nat) (h:k<s.size):s[k].toNat=bAt s k:=by
 unfold bAt bytesN
 have hl:k<s.data.toList.length:=by simpa using h
 rw[List.getD_eq_getElem?_getD,List.getElem?_map,List.getElem?_eq_getElem hl]
 rfl
theorem bytesN_bytesOf (l:List Nat) (h:∀ x ∈ l,x<256):bytesN (bytesOf l)=l:=by
 unfold bytesN bytesOf
 rw[List.toList_toArray,List.map_map]
 conv=>rhs;rw[← List.map_id l]
 apply List.map_congr_left
 intro x hx
 have:=h x hx
 simp[Nat.mod_eq_of_lt this]
theorem bytesOf_bytesN (s:ByteArray):bytesOf (bytesN s)=s:=by
 unfold bytesN bytesOf
 rw[List.map_map]
 have:(UInt8.ofNat ∘ UInt8.toNat)=id:=by funext x;simp
 rw[this,List.map_id,Array.toArray_toList]
theorem take_snoc (s:ByteArray) (k:Nat) (h:k<s.size):(bytesN s).take (k+1)=(bytesN s).take k++[bAt s k]:=by
 have hl:k<(bytesN s).length:=by rw[bytesN_len];exact h
 rw[List.take_succ_eq_append_getElem hl]
 unfold bAt
 rw[List.getD_eq_getElem?_getD,List.getElem?_eq_getElem hl];rfl
def ofStep (o:Option Nat) (b:Nat):Option Nat:=o.bind fun c=>if c<bitN b then some (c+bitN b) else none
def ofL (l:List Nat):Option Nat:=l.foldl ofStep (some 0)
def ofN (l:List Nat):Nat:=(ofL l).getD 0
def ofS (s:ByteArray):Nat:=ofN (bytesN s)
def ofB (s:ByteArray):Bool:=decide (ofS s≠0)
theorem ofL_snoc (l:List Nat) (b:Nat):ofL (l++[b])=ofStep (ofL l) b:=by unfold ofL;rw[List.foldl_append];rfl
theorem ofStep_none (l:List Nat):l.foldl ofStep none=none:=by
 induction l with
 | nil=>rfl
 | cons x l ih=>exact ih
theorem ofL_stop (l r:List Nat) (h:ofL l=none):ofL (l++r)=none:=by
 unfold ofL at *;rw[List.foldl_append,h];exact ofStep_none r
theorem bitN_le (d:Nat):bitN d≤32:=by
 unfold bitN;split
 ·have:d=49∨d=50∨d=51∨d=52∨d=53∨d=54:=by omega
  rcases this with rfl | rfl | rfl | rfl | rfl | rfl<;>decide
 ·omega
theorem bitN_cases (d:Nat):bitN d=0∨(d=49∧bitN d=1)∨(d=50∧bitN d=2)∨(d=51∧bitN d=4)∨(d=52∧bitN d=8)∨(d=53∧bitN d=16)∨(d=54∧bitN d=32):=by
 unfold bitN;split
 ·have:d=49∨d=50∨d=51∨d=52∨d=53∨d=54:=by omega
  rcases this with rfl | rfl | rfl | rfl | rfl | rfl<;>decide
 ·exact .inl rfl
theorem ofL_lt (l:List Nat):∀ c,ofL l=some c→c<64:=by
 suffices h:∀ (l:List Nat) (a c:Nat),a<64→l.foldl ofStep (some a)=some c→c<64 from fun c hc=>h l 0 c (by omega) hc
 intro l
 induction l with
 | nil=>intro a c ha h;cases h;exact ha
 | cons x l ih =>
  intro a c ha h
  rw[List.foldl_cons]at h
  by_cases hx:a<bitN x
  ·have e:ofStep (some a) x=some (a+bitN x):=by simp[ofStep,hx]
   rw[e]at h
   have:=bitN_le x
   exact ih _ c (by omega) h
  ·have e:ofStep (some a) x=none:=by simp[ofStep,hx]
   rw[e,ofStep_none]at h;cases h
theorem ofS_lt (s:ByteArray):ofS s<64:=by
 unfold ofS ofN
 cases h:ofL (bytesN s) with
 | none=>simp
 | some c=>exact ofL_lt _ c h
end Go.Proofs.YtlgejmcihchngaaGreatDoor.Ce
