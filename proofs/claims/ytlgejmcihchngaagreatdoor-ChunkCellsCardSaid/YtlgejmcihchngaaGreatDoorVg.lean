/-
  Put together: BaA, BaR, BaQ, RaK.
-/
import Derived.Test.YtlgejmcihchngaaGreatDoorRows
import Derived.WalkKit
import Derived.WalkSpells
import Derived.WalkLawsBesides
import Derived.Lib.Hide
import Derived.Lib.IndexLaws
import Derived.OwnWalk
import Derived.RangeFuncBox
import Derived.Maps.AppendAt
import Derived.Laws.OwnMore
import Derived.RangeFuncNested
import Derived.RangeFuncBound
import Derived.RangeFuncCalls
import Derived.RangeFuncLeaves
namespace Go.Proofs.YtlgejmcihchngaaGreatDoor.Ba
open Go.RowKit
theorem ret_int {k:IntKind} {a b:Int} (h:a=b):Ending.returned (.int k a)=.returned (.int k b):=by rw[h]
theorem ret_bool {a b:Bool} (h:a=b):Ending.returned (.bool a)=.returned (.bool b):=by rw[h]
theorem ret_str {a b:ByteArray} (h:a=b):Ending.returned (.string a)=.returned (.string b):=by rw[h]
theorem chain {B:Nat} {a b c:World} (h:Below B a b) (hB:B≤b.heap.size) (k:Below b.heap.size b c):Below B a c:=h.trans (k.mono hB)
theorem below_drewN {B:Nat} {a w:World} (h:Below B a w) (n:Nat):Below B a (w.drewN n):=h.trans ⟨rfl,rfl,rfl,Nat.le_refl _,fun _ _=>rfl⟩
theorem own_below {W W':World} {B e size n:Nat} {v:Value} {xs:List Value} (h:W.ownsRow B e size v n xs) (hb:Below W.heap.size W W'):W'.ownsRow B e size v n xs:=by
 refine⟨h.1,?_⟩
 rcases h.2 with hn | ⟨g,cap,cur,hv,hbg,hg,rest⟩
 ·exact .inl hn
 ·exact .inr ⟨g,cap,cur,hv,hbg,(hb.block g (Array.getElem?_eq_some_iff.1 hg).1).trans hg,rest⟩
def bytesOf (l:List Nat):ByteArray:=⟨(l.map UInt8.ofNat).toArray⟩
theorem bytesOf_size (l:List Nat):(bytesOf l).size=l.length:=by
 show ((l.map UInt8.ofNat).toArray).size=_
 simp
def bytesN (s:ByteArray):List Nat:=s.data.toList.map UInt8.toNat
theorem bytesN_len (s:ByteArray):(bytesN s).length=s.size:=by unfold bytesN;rw[List.length_map,Array.length_toList];rfl
def bAt (s:ByteArray) (i:Nat):Nat:=(bytesN s).getD i 0
theorem bAt_lt (s:ByteArray) (i:Nat):bAt s i<256:=by
 unfold bAt bytesN
 rw[List.getD_eq_getElem?_getD,List.getElem?_map]
 cases h:s.data.toList[i]? with
 | none=>simp
 | some x=>simpa using UInt8.toNat_lt x
theorem bAt_get (s:ByteArray) (k:Nat) (h:k<s.size):s[k].toNat=bAt s k:=by
 unfold bAt bytesN
 have hl:k<s.data.toList.length:=by simpa using h
 rw[List.getD_eq_getElem?_getD,List.getElem?_map,List.getElem?_eq_getElem hl]
 rfl
theorem bytesN_bytesOf (l:List Nat) (h:∀ x ∈ l,x<256):bytesN (bytesOf l)=l:=by
 unfold bytesN bytesOf
 rw[List.toList_toArray,List.map_map]
 conv=>rhs;rw[← List.map_id l]
 apply List.map_congr_left
 intro x hx
 have:=h x hx
 simp[Nat.mod_eq_of_lt this]
theorem bytesOf_bytesN (s:ByteArray):bytesOf (bytesN s)=s:=by
 unfold bytesN bytesOf
 rw[List.map_map]
 have:(UInt8.ofNat ∘ UInt8.toNat)=id:=by funext x;simp
 rw[this,List.map_id,Array.toArray_toList]
theorem bytes_ext {s t:ByteArray} (h:bytesN s=bytesN t):s=t:=by rw[← bytesOf_bytesN s,h,bytesOf_bytesN]
theorem bytesN_ext (s:ByteArray) (f e:Nat):bytesN (s.extract f e)=((bytesN s).drop f).take (e - f):=by
 unfold bytesN
 rw[ByteArray.data_extract,Array.toList_extract,List.extract_eq_take_drop,List.map_take,List.map_drop]
theorem toList_ne {d d':ByteArray} (h:d≠d'):(d.toList==d'.toList)=false:=by
 rw[beq_eq_false_iff_ne]
 intro e
 rw[ByteArray.toList_eq,ByteArray.toList_eq]at e
 exact h (ByteArray.ext (Array.toList_inj.1 e))
theorem ext_size (s:ByteArray) (a b:Nat) (hb:b≤s.size):(s.extract a b).size=b - a:=by
 rw[ByteArray.size_extract];omega
end Go.Proofs.YtlgejmcihchngaaGreatDoor.Ba
namespace Go.Proofs.YtlgejmcihchngaaGreatDoor.Ba
open Go.RowKit
section
variable {α:Type} (f:α→List Value)
def rows (l:List α):List Value:=l.flatMap f
theorem rows_snoc (l:List α) (x:α):rows f (l++[x])=rows f l++f x:=by simp[rows]
theorem rows_cons (x:α) (l:List α):rows f (x::l)=f x++rows f l:=by simp[rows]
theorem rows_append (l m:List α):rows f (l++m)=rows f l++rows f m:=by simp[rows]
variable {n:Nat} (hn:∀ x,(f x).length=n)
include hn
theorem rows_length:∀ l:List α,(rows f l).length=l.length * n
 | []=>by simp[rows]
 | x::l=>by rw[rows_cons,List.length_append,hn,rows_length l,List.length_cons,Nat.succ_mul];omega
theorem rows_at:∀ (l:List α) (k:Nat) (x:α),l[k]?=some x→∀ j,j<n→(rows f l)[k * n+j]?=(f x)[j]?
 | [],k,x,h=>by simp at h
 | y::l,0,x,h=>fun j hj=>by
  simp at h;subst h
  rw[rows_cons,Nat.zero_mul,Nat.zero_add,List.getElem?_append_left (by rw[hn];exact hj)]
 | y::l,k+1,x,h=>fun j hj=>by
  rw[rows_cons,List.getElem?_append_right (by rw[hn,Nat.succ_mul];omega),hn,show (k+1) * n+j - n=k * n+j from by rw[Nat.succ_mul];omega]
  exact rows_at l k x (by simpa using h) j hj
end
def Reads {α:Type} (f:α→List Value) (n off:Nat) (w:World) (B:Nat) (v:Value) (l:List α):Prop :=
 ∃ A c,v=.slice A l.length c∧(0<l.length→∃ g,A=some ⟨g,off,none⟩∧g<B∧∀ k x,l[k]?=some x→∀ j u,(f x)[j]?=some u→w.cell? ⟨g,off+(k * n+j),none⟩=some u)
section
variable {α:Type} {f:α→List Value} {n off:Nat}
theorem Reads.nil (w:World) (B c:Nat):Reads f n off w B (.slice none 0 c) []:=⟨none,c,rfl,fun h=>absurd h (by simp)⟩
theorem Reads.below {w w':World} {B:Nat} {v:Value} {l:List α} (h:Reads f n off w B v l) (hb:Below B w w'):Reads f n off w' B v l:=by
 obtain⟨A,c,rfl,hA⟩:=h
 refine⟨A,c,rfl,fun h0=>?_⟩
 obtain⟨g,rfl,hg,hk⟩:=hA h0
 exact⟨g,rfl,hg,fun k x hx j u hu=>(hb.cell (p:=⟨g,off+(k * n+j),none⟩) hg).trans (hk k x hx j u hu)⟩
theorem Reads.mono {w:World} {B B':Nat} {v:Value} {l:List α} (h:Reads f n off w B v l) (hB:B≤B'):Reads f n off w B' v l:=by
 obtain⟨A,c,rfl,hA⟩:=h
 refine⟨A,c,rfl,fun h0=>?_⟩
 obtain⟨g,rfl,hg,hk⟩:=hA h0
 exact⟨g,rfl,by omega,hk⟩
theorem Reads.at {w:World} {B:Nat} {v:Value} {l:List α} (h:Reads f n off w B v l) (h0:0<l.length) :
  ∃ g c,v=.slice (some ⟨g,off,none⟩) l.length c∧g<B∧∀ k x,l[k]?=some x→∀ j u,(f x)[j]?=some u→w.cell? ⟨g,off+(k * n+j),none⟩=some u:=by
 obtain⟨A,c,rfl,hA⟩:=h
 obtain⟨g,rfl,hg,hk⟩:=hA h0
 exact⟨g,c,rfl,hg,hk⟩
theorem Reads.of_own {w:World} {base m:Nat} {e:TypeId} {v:Value} {l:List α} (hn:∀ x,(f x).length=n) (hm:l.length=m) (h:w.ownsRow base e n v m (rows f l)):Reads f n 0 w w.heap.size v l:=by
 subst hm
 rcases h.2 with⟨rfl,h0⟩ | ⟨g,cap,cur,rfl,hbg,hg,hrest⟩
 ·exact⟨none,0,by rw[h0],fun h=>by omega⟩
 ·refine⟨some ⟨g,0,none⟩,cap,rfl,fun h0=>⟨g,rfl,(Array.getElem?_eq_some_iff.1 hg).1,fun k x hx j u hu=>?_⟩⟩
  have hj:j<n:=by have:=(List.getElem?_eq_some_iff.1 hu).1;rwa [hn]at this
  have hk:k<l.length:=(List.getElem?_eq_some_iff.1 hx).1
  have hlt:k * n+j<l.length * n:=by
   have:(k+1) * n≤l.length * n:=Nat.mul_le_mul_right n hk
   rw[Nat.succ_mul]at this;omega
  have:=h.cellAt (k * n+j) hlt
  rw[Nat.zero_add,this,rows_at f hn l k x hx j hj,hu]
end
end Go.Proofs.YtlgejmcihchngaaGreatDoor.Ba
namespace Go.Proofs.YtlgejmcihchngaaGreatDoor.Ba
open Go.RowKit
theorem own_slice {W:World} {base e n k:Nat} {v:Value} {xs:List Value} (h:W.ownsRow base e n v k xs) (hk:0<k):∃ g cap,v=.slice (some ⟨g,0,none⟩) k cap∧g<W.heap.size∧base≤g∧k≤cap:=by
 rcases h.2 with⟨_,h0⟩ | ⟨g,cap,cur,rfl,hb,hg,h1,_⟩
 ·omega
 ·exact⟨g,cap,rfl,(Array.getElem?_eq_some_iff.1 hg).1,hb,h1⟩
theorem own_far {W:World} {base e n k:Nat} {v:Value} {xs:List Value} (h:W.ownsRow base e n v k xs) {a:Addr} (u:Value) (hne:v.ownBlock≠some a.block):(W.setCell a u).ownsRow base e n v k xs:=by
 refine⟨h.1,?_⟩
 rcases h.2 with hn | ⟨g,cap,cur,rfl,hb,hg,rest⟩
 ·exact .inl hn
 ·refine .inr ⟨g,cap,cur,rfl,hb,?_,rest⟩
  rw[Below.heap_setCell _ _ _ _ (fun e=>hne (by rw[← e];rfl))]
  exact hg
end Go.Proofs.YtlgejmcihchngaaGreatDoor.Ba
namespace Go.Proofs.YtlgejmcihchngaaGreatDoor.Ra
open Go.RowKit
end Go.Proofs.YtlgejmcihchngaaGreatDoor.Ra
