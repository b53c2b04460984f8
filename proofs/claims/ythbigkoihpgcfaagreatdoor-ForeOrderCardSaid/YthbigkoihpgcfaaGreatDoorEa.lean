/-
  Put together.
-/
import Derived.Test.YthbigkoihpgcfaaGreatDoorRows
import Derived.WalkKit
import Derived.WalkSpells
import Derived.WalkLawsBesides
import Derived.Lib.Hide
import Derived.Outline
import Derived.Test.YthbigkoihpgcfaaGreatDoorShelf
import Derived.Lib.OthersKept
import Derived.BigCall
import Derived.Maps.AppendAt
import Derived.OwnWalk
import Derived.Lib.ConvBytes
import Derived.Laws.IdiomStrings
open Go.Lib (hid)
set_option maxRecDepth 100000
set_option maxHeartbeats 16000000
namespace Go.Proofs.YthbigkoihpgcfaaGreatDoor.Ce
open Go.RowKit
theorem aI {k:IntKind} {a b:Int} (h:a=b):Ending.returned (.int k a)=.returned (.int k b):=by rw[h]
theorem yA {k:IntKind} {a b:Int} {x y:Bool} (h:a=b) (h':x=y):Ending.returned (.tuple #[.int k a,.bool x])=.returned (.tuple #[.int k b,.bool y]):=by rw[h,h']
def eK (d:Nat):Nat:=if 49≤d∧d≤54 then 2 ^ (d - 49) else 0
def cE (c k:Nat):List Nat:=((List.range k).filter fun i=>c / 2 ^ i % 2==1).map (49+·)
def bytesOf (l:List Nat):ByteArray:=⟨(l.map UInt8.ofNat).toArray⟩
def lO (c:Nat):ByteArray:=bytesOf (cE c 6)
theorem QF (c k:Nat) (h:c / 2 ^ k % 2=1):cE c (k+1)=cE c k++[49+k]:=by
 unfold cE;rw[List.range_succ,List.filter_append,List.map_append];simp[h]
theorem UT (c k:Nat) (h:¬ c / 2 ^ k % 2=1):cE c (k+1)=cE c k:=by
 unfold cE;rw[List.range_succ,List.filter_append,List.map_append];simp[h]
theorem uC (c k:Nat):(cE c k).length≤k:=by
 unfold cE;rw[List.length_map]
 exact Nat.le_trans (List.length_filter_le _ _) (by simp)
theorem aF (l:List Nat):(bytesOf l).size=l.length:=by
 show ((l.map UInt8.ofNat).toArray).size=_
 simp
def aA (s:ByteArray):List Nat:=s.data.toList.map UInt8.toNat
theorem aD (s:ByteArray):(aA s).length=s.size:=by unfold aA;rw[List.length_map,Array.length_toList];rfl
def aV (s:ByteArray) (i:Nat):Nat:=(aA s).getD i 0
theorem dQ (s:ByteArray) (i:Nat):aV s i<256:=by
 unfold aV aA
 rw[List.getD_eq_getElem?_getD,List.getElem?_map]
 cases h:s.data.toList[i]? with
 | none=>simp
 | some x=>simpa using UInt8.toNat_lt x
theorem bP (s:ByteArray) (k:Nat) (h:k<s.size):s[k].toNat=aV s k:=by
 unfold aV aA
 have hl:k<s.data.toList.length:=by simpa using h
 rw[List.getD_eq_getElem?_getD,List.getElem?_map,List.getElem?_eq_getElem hl]
 rfl
theorem aB (l:List Nat) (h:∀ x ∈ l,x<256):aA (bytesOf l)=l:=by
 unfold aA bytesOf
 rw[List.toList_toArray,List.map_map]
 conv=>rhs;rw[← List.map_id l]
 apply List.map_congr_left
 intro x hx
 have:=h x hx
 simp[Nat.mod_eq_of_lt this]
theorem aP (s:ByteArray):bytesOf (aA s)=s:=by
 unfold aA bytesOf
 rw[List.map_map]
 have:(UInt8.ofNat ∘ UInt8.toNat)=id:=by funext x;simp
 rw[this,List.map_id,Array.toArray_toList]
theorem BR (s:ByteArray) (k:Nat) (h:k<s.size):(aA s).take (k+1)=(aA s).take k++[aV s k]:=by
 have hl:k<(aA s).length:=by rw[aD];exact h
 rw[List.take_succ_eq_append_getElem hl]
 unfold aV
 rw[List.getD_eq_getElem?_getD,List.getElem?_eq_getElem hl];rfl
def gK (o:Option Nat) (b:Nat):Option Nat:=o.bind fun c=>if c<eK b then some (c+eK b) else none
def DX (l:List Nat):Option Nat:=l.foldl gK (some 0)
def Z0 (l:List Nat):Nat:=(DX l).getD 0
def FZ (s:ByteArray):Nat:=Z0 (aA s)
def F4 (s:ByteArray):Bool:=decide (FZ s≠0)
theorem F7 (l:List Nat) (b:Nat):DX (l++[b])=gK (DX l) b:=by unfold DX;rw[List.foldl_append];rfl
theorem oW (l:List Nat):l.foldl gK none=none:=by
 induction l with
 | nil=>rfl
 | cons x l ih=>exact ih
theorem UP (l r:List Nat) (h:DX l=none):DX (l++r)=none:=by
 unfold DX at *;rw[List.foldl_append,h];exact oW r
theorem DY (d:Nat):eK d≤32:=by
 unfold eK;split
 ·have:d=49∨d=50∨d=51∨d=52∨d=53∨d=54:=by omega
  rcases this with rfl | rfl | rfl | rfl | rfl | rfl<;>decide
 ·omega
theorem LP (d:Nat):eK d=0∨(d=49∧eK d=1)∨(d=50∧eK d=2)∨(d=51∧eK d=4)∨(d=52∧eK d=8)∨(d=53∧eK d=16)∨(d=54∧eK d=32):=by
 unfold eK;split
 ·have:d=49∨d=50∨d=51∨d=52∨d=53∨d=54:=by omega
  rcases this with rfl | rfl | rfl | rfl | rfl | rfl<;>decide
 ·exact .inl rfl
theorem LN (l:List Nat):∀ c,DX l=some c→c<64:=by
 suffices h:∀ (l:List Nat) (a c:Nat),a<64→l.foldl gK (some a)=some c→c<64 from fun c hc=>h l 0 c (by omega) hc
 intro l
 induction l with
 | nil=>intro a c ha h;cases h;exact ha
 | cons x l ih =>
  intro a c ha h
  rw[List.foldl_cons]at h
  by_cases hx:a<eK x
  ·have e:gK (some a) x=some (a+eK x):=by simp[gK,hx]
   rw[e]at h
   have:=DY x
   exact ih _ c (by omega) h
  ·have e:gK (some a) x=none:=by simp[gK,hx]
   rw[e,oW]at h;cases h
theorem UZ (s:ByteArray):FZ s<64:=by
 unfold FZ Z0
 cases h:DX (aA s) with
 | none=>simp
 | some c=>exact LN _ c h
theorem QD (d:Int) (h0:0≤d) (h1:d<2147483648) (w:World) :
  Calls Tryz.prog 186 #[.int .i32 d] w fun e w'=>e=.returned (.int .u8 ((eK d.toNat:Nat):Int))∧w=w':=by
 by_cases a:d<49
 ·have HR:=hid (show (0:Int)=((eK d.toNat:Nat):Int) by unfold eK;rw[if_neg (by omega)];rfl)
  go_enter Tryz.func186,Tryz.ntmps186
  go_wp2
  go_ret
  exact⟨aI HR.out,rfl⟩
 by_cases b:54<d
 ·have HR:=hid (show (0:Int)=((eK d.toNat:Nat):Int) by unfold eK;rw[if_neg (by omega)];rfl)
  have ha:decide (d<49)=false:=by simpa using a
  go_enter Tryz.func186,Tryz.ntmps186
  go_wp2
  go_ret
  exact⟨aI HR.out,rfl⟩
 have hd:d=49∨d=50∨d=51∨d=52∨d=53∨d=54:=by omega
 clear a b h0 h1
 rcases hd with rfl | rfl | rfl | rfl | rfl | rfl
 all_goals
  go_enter Tryz.func186,Tryz.ntmps186
  go_wp2
  go_ret
  exact⟨rfl,rfl⟩
theorem F6 (d:Int) (k:Nat) (h0:0≤d) (h1:d<2147483648) (hk:eK d.toNat=k) (w:World) :
  Calls Tryz.prog 186 #[.int .i32 d] w fun e w'=>e=.returned (.int .u8 ((k:Nat):Int))∧w=w':=hk▸QD d h0 h1 w
def DW (d:Nat):Nat:=2 ^ (d - 1)
theorem Z2 (d:Nat) (h:d≤6):DW d≤32:=by
 have:d=0∨d=1∨d=2∨d=3∨d=4∨d=5∨d=6:=by omega
 rcases this with rfl | rfl | rfl | rfl | rfl | rfl | rfl<;>decide
theorem QE (d:Nat) (h:1≤d):DW (d+1)=2 * DW d:=by
 unfold DW
 obtain⟨e,rfl⟩:∃ e,d=e+1:=⟨d - 1,by omega⟩
 show 2 ^ (e+1)=2 * 2 ^ e
 rw[Nat.pow_succ,Nat.mul_comm]
theorem LL (d:Nat) (h1:1≤d) (h6:d≤6) (w:World) :
  Calls Tryz.prog 148 #[.int .i64 (d:Int)] w fun e w'=>e=.returned (.int .i64 ((DW d:Nat):Int))∧w=w':=by
 go_enter Tryz.func148,Tryz.ntmps148
 go_wp2
 go_loop [3,4] (fun n i=>∃ k p:Nat,1≤k∧k≤d∧i=.int .i64 k∧n=.int .i64 p∧p≤32∧DW k=p) (fun _ i=>d - (intOf i).toNat)
 case atStart=>exact⟨1,1,by omega,by omega,rfl,rfl,by omega,rfl⟩
 case round =>
  obtain⟨k,p,hk1,hk2,rfl,rfl,hp,hpk⟩:=hrel
  by_cases hlt:k<d
  ·have HP:=hid (show DW (k+1)=2 * p by rw[QE k hk1,hpk])
   have hle:=Z2 (k+1) (by omega)
   have hp2:2 * p≤32:=by have:=HP.out;omega
   clear hle hpk
   go_wp2
   exact⟨⟨k+1,2 * p,by omega,by omega,by go_num,by go_num,by omega,HP.out⟩,by simp[intOf];omega⟩
  ·obtain rfl:k=d:=by omega
   have HP:=hid hpk;clear hpk
   go_wp2
   go_ret
   exact⟨aI (by rw[HP.out]),rfl⟩
theorem UN (s:ByteArray) (k c:Nat) (hk:k<s.size) (h:DX ((aA s).take k)=some c) (hb:c<eK (aV s k)):DX ((aA s).take (k+1))=some (c+eK (aV s k)):=by
 rw[BR s k hk,F7,h];simp[gK,hb]
theorem UO (s:ByteArray) (k c:Nat) (hk:k<s.size) (h:DX ((aA s).take k)=some c) (hb:¬ c<eK (aV s k)):FZ s=0:=by
 have h1:DX ((aA s).take (k+1))=none:=by rw[BR s k hk,F7,h];simp[gK,hb]
 have h2:=UP _ ((aA s).drop (k+1)) h1
 rw[List.take_append_drop]at h2
 unfold FZ Z0;rw[h2];rfl
theorem Z3 (s:ByteArray) (c:Nat) (h:DX ((aA s).take s.size)=some c):FZ s=c:=by
 unfold FZ Z0
 rw[← aD,List.take_length]at h
 rw[h];rfl
theorem infoByte:(Tryz.prog.info? 5).map (fun i=>(i.zero,i.size,i.bytes))=some (some (.int .u8 0),1,1):=by kernel_rfl
def sJ:ByteArray:={ data:=#[49,50,51,52,53,54] }
theorem aDG:∀ k:Fin 6,((sJ[k.val]'(k.isLt)).toNat:Int)=((49+k.val:Nat):Int):=by decide +kernel
theorem Z4:∀ k:Fin 6,(sJ[k.val]'(k.isLt)).toNat<128:=by decide +kernel
theorem Z5:∀ k:Fin 6,eK (((49+k.val:Nat):Int).toNat)=2 ^ k.val:=by decide +kernel
theorem Z6:∀ c:Fin 256,∀ j:Fin 6,(bits .and .u8 ((c.val:Nat):Int) ((2 ^ j.val:Nat):Int)==0)=!(c.val / 2 ^ j.val % 2==1):=by decide +kernel
def oT (l:List Nat):List Value:=l.map fun d:Nat=>Value.int .u8 ((d:Nat):Int)
theorem oU (l:List Nat) (d:Nat):oT (l++[d])=oT l++[.int .u8 (d:Int)]:=by simp[oT]
theorem UQ (c k:Nat) (hk:k≤6):∀ x ∈ cE c k,x<128:=by
 intro x hx
 simp only[cE,List.mem_map,List.mem_filter,List.mem_range]at hx
 obtain⟨i,⟨hi,_⟩,rfl⟩:=hx
 omega
theorem UR {w:World} {base:Nat} {e:TypeId} {size:Nat} {v:Value} {n:Nat} {xs:List Value} (h:w.ownsRow base e size v n xs) {k:Nat} (hk:k<base) (s:ByteArray) (p:Nat):(w.iterAt k s p).ownsRow base e size v n xs:=by
 refine⟨h.1,?_⟩
 rcases h.2 with hn | ⟨g,cap,cur,hv,hb,hg,rest⟩
 ·exact .inl hn
 ·exact .inr ⟨g,cap,cur,hv,hb,(Lib.iterAt_other w k g s p (by omega)).trans hg,rest⟩
theorem oV {w:World} {v:Value} {n base:Nat} (l:List Nat) (hl:∀ x ∈ l,x<256) (h:w.ownsRow base 5 1 v n (oT l)) :
  (convert 89 9 v).run Tryz.prog w=.ok (.string (bytesOf l)) w:=by
 have hln:l.length=n:=by have:=h.1;simpa[oT] using this
 rcases h.2 with⟨rfl,h0⟩ | ⟨g,cap,cur,rfl,_⟩
 ·have hnil:l=[]:=List.eq_nil_of_length_eq_zero (by omega)
  subst hnil
  exact run_convert_bytes_nil (P:=Tryz.prog) w 89 5 Tryz.underlying89 Tryz.underlying5 0 0 9 Tryz.underlying9
 ·have hback:=run_convert_bytes_back (P:=Tryz.prog) w 89 9 5 ⟨g,0,none⟩ cap (l.map UInt8.ofNat) Tryz.underlying89 Tryz.underlying5 Tryz.underlying9 (fun j hj=>by
   have hj':j<l.length:=by simpa using hj
   have e:(⟨g,0,none⟩:Addr).add j=⟨g,j,none⟩:=by unfold Addr.add;split<;>simp_all
   rw[e,h.cellAt j (by omega)]
   have h256:=hl l[j] (List.getElem_mem hj')
   simp only[oT,List.getElem?_map,List.getElem?_eq_getElem hj',Option.map_some,List.getElem_map]
   have e3:(UInt8.ofNat l[j]).toNat=l[j]:=by simp[Nat.mod_eq_of_lt h256]
   rw[e3])
  rw[List.length_map,hln]at hback
  exact hback
theorem US (c:Nat) (hc:c<256) (w:World) :
  Calls Tryz.prog 149 #[.int .u8 (c:Int)] w fun e w'=>e=.returned (.string (lO c))∧Below w.heap.size w w':=by
 obtain⟨i0,hi,hz0,hz1,hz2⟩:=info_parts infoByte
 go_enter Tryz.func149,Tryz.ntmps149
 go_wp2
 go_loopw [3] (fun v wr=>∃ (k n:Nat),k≤6∧wr.heap[w.heap.size]?=some (.stringIter sJ k)∧Below w.heap.size w wr∧(cE c k).length=n∧wr.ownsRow (w.heap.size+1) 5 1 v n (oT (cE c k))) (fun _ wr=>6 - wr.iterPos w.heap.size)
 case atStart =>
  refine⟨0,0,by omega,?_,(Below.refl _ w).alloc (Nat.le_refl _) _,rfl,?_⟩
  ·exact World.iter_heap w sJ 0
  ·exact World.ownsRow_nil _ _ _ _
 case round =>
  obtain⟨k,n,hk,hit,hB,hn,hown⟩:=hrel
  have hsz:w.heap.size<wr.heap.size:=(Array.getElem?_eq_some_iff.1 hit).1
  have hn6:n≤6:=by have:=uC c k;omega
  by_cases hp:k<6
  ·have hnx:∀ ty,(Instr.next (.pointer (some ⟨w.heap.size,0,none⟩)) true ty).run Tryz.prog wr=.ok (.tuple #[.bool true,.int .i64 k,.int .i32 ((49+k:Nat):Int)]) (wr.iterAt w.heap.size sJ (k+1)):=fun ty=>by
    rw[Lib.run_next_ascii_at wr w.heap.size sJ k ty hit hp (Z4 ⟨k,hp⟩),aDG ⟨k,hp⟩]
   have hit2:=Lib.iterAt_heap wr w.heap.size sJ k (k+1) hit
   have hB2:=Lib.below_iterAt hB (k:=w.heap.size) (by omega) sJ (k+1)
   have hown2:=UR hown (k:=w.heap.size) (by omega) sJ (k+1)
   have hba:=Z5 ⟨k,hp⟩
   have hand:=Z6 ⟨c,hc⟩ ⟨k,hp⟩
   simp only[]at hba hand
   have HP:=hid (show 6 - (wr.iterAt w.heap.size sJ (k+1)).iterPos w.heap.size<6 - wr.iterPos w.heap.size by
    simp only[World.iterPos,hit2,hit];omega)
   have hsz2:w.heap.size<(wr.iterAt w.heap.size sJ (k+1)).heap.size:=by rw[Lib.iterAt_size];exact hsz
   have hns:=hid hn;clear hn
   obtain⟨q,hq⟩:∃ q,2 ^ k=q:=⟨_,rfl⟩
   by_cases hb:c / 2 ^ k % 2=1
   ·have HD:=hid (QF c k hb)
    have hand2:(bits .and .u8 ((c:Nat):Int) ((q:Nat):Int)==0)=false:=by rw[← hq,hand];simp[hb]
    rw[hq]at hba
    have HQ:=hid hba
    clear hand hb hba hq hown hB
    go_wp2_with (first
     |(go_at_call 186;refine(F6 (((49+k:Nat):Int)) q (by omega) (by omega) HQ.out _).mono ?_;rintro e w' ⟨rfl,rfl⟩)
     |(at_builtin;refine wpList_append_own _ rfl _ _ 89 rfl (w.heap.size+1) 5 i0 (.int .u8 0) 1 1 Tryz.underlying89 hi hz0 hz1 hz2 rfl (by decide) _ _ _ rfl (hown2.alloc _) ⟨(wr.iterAt w.heap.size sJ (k+1)).heap.size,0,none⟩ 1 1 [.int .u8 (49+(k:Int))] rfl rfl (cell_one_new _ _ _) (by simp[Value.oneCell']) (by unfold maxLen;omega) (by omega) (by simp;omega) ?_;intro v' w1 hown' hgrow _))
    have hB3:Below w.heap.size w w1:=(hB2.alloc (by omega) _).grown hgrow (by simp;omega) (fun j ej=>by have:=(hown2.lt j ej).1;omega)
    have hit3:w1.heap[w.heap.size]?=some (.stringIter sJ (k+1)):=by
     rw[hgrow.block w.heap.size (by simp;omega) (fun e=>by have:=(hown2.lt _ e.symm).1;omega)]
     exact(Below.heap_alloc _ _ _ hsz2).trans hit2
    refine⟨⟨k+1,n+1,by omega,hit3,hB3,by rw[HD.out,List.length_append,hns.out];rfl,?_⟩,?_⟩
    ·rw[HD.out,oU];exact hown'
    ·have:=HP.out
     simp only[World.iterPos,hit3,hit2]at this ⊢;exact this
   ·have HD:=hid (UT c k hb)
    have hand2:(bits .and .u8 ((c:Nat):Int) ((q:Nat):Int)==0)=true:=by rw[← hq,hand];simp[hb]
    rw[hq]at hba
    have HQ:=hid hba
    clear hand hb hba hq hown hB
    go_wp2_with (go_at_call 186;refine(F6 (((49+k:Nat):Int)) q (by omega) (by omega) HQ.out _).mono ?_;rintro e w' ⟨rfl,rfl⟩)
    exact⟨⟨k+1,n,by omega,hit2,hB2,by rw[HD.out];exact hns.out,by rw[HD.out];exact hown2⟩,HP.out⟩
  ·have hnx:∀ ty,(Instr.next (.pointer (some ⟨w.heap.size,0,none⟩)) true ty).run Tryz.prog wr=_:=fun ty=>Lib.run_next_end_at wr w.heap.size sJ k ty hit hp
   obtain rfl:k=6:=by omega
   rcases hown.2 with⟨rfl,h0⟩ | ⟨g,cap,cur,rfl,_⟩
   all_goals
    have hback:=oV (cE c 6) (fun x hx=>Nat.lt_trans (UQ c 6 (Nat.le_refl _) x hx) (by decide)) hown
    go_wp2
    go_ret
    exact⟨rfl,hB⟩
def vY (p:Nat→Bool) (s:ByteArray):Nat:=(List.range s.size).findIdx fun j=>!p (aV s j)
def BA (p:Nat→Bool) (s:ByteArray) (k:Nat):Prop:=∀ j,j<k→p (aV s j)=true
theorem BA.zero (p:Nat→Bool) (s:ByteArray):BA p s 0:=fun _ h=>absurd h (by omega)
theorem BA.succ {p:Nat→Bool} {s:ByteArray} {k:Nat} (h:BA p s k) (hp:p (aV s k)=true):BA p s (k+1):=fun j hj=>by
 rcases Nat.lt_or_ge j k with h1 | h1
 ·exact h j h1
 ·have e:j=k:=by omega
  rw[e];exact hp
theorem BS {p:Nat→Bool} {s:ByteArray} (h:BA p s s.size):vY p s=s.size:=by
 unfold vY
 have:(List.range s.size).findIdx (fun j=>!p (aV s j))=(List.range s.size).length:=List.findIdx_eq_length.2 (fun x hx=>by simp[h x (List.mem_range.1 hx)])
 rw[this,List.length_range]
theorem UU {p:Nat→Bool} {s:ByteArray} {k:Nat} (h:BA p s k) (hk:k<s.size) (hp:p (aV s k)=false):vY p s=k:=by
 unfold vY
 refine(List.findIdx_eq (by simpa using hk)).2 ⟨by simp[hp],fun j hj=>?_⟩
 simp[h j hj]
theorem Z7 {p:Nat→Bool} {s:ByteArray} (h:vY p s=s.size):BA p s s.size:=fun j hj=>by
 unfold vY at h
 have h1:(List.range s.size).findIdx (fun j=>!p (aV s j))=(List.range s.size).length:=by rw[h,List.length_range]
 have:=List.findIdx_eq_length.1 h1 j (List.mem_range.2 hj)
 simpa using this
def LM (g:Nat→Nat) (w:World) (s:ByteArray) (k:Nat) (wr:World):Prop :=
 (∀ j,j<s.size→wr.cell? ⟨w.heap.size,j,none⟩=some (.int .u8 (((if j<k then g (aV s j) else aV s j):Nat):Int)))∧(∀ j,j<s.size→wr.frozen? ⟨w.heap.size,j,none⟩=false)∧Below w.heap.size w wr
theorem LM.zero (g:Nat→Nat) (w:World) (s:ByteArray):LM g w s 0 (Lib.bytesWorld w 5 s):=by
 refine⟨fun j hj=>?_,fun j hj=>?_,?_⟩
 ·rw[Lib.bytesWorld_cell w _ s j hj,if_neg (by omega)]
  have hl:j<s.data.toList.length:=by simpa using hj
  simp only[aV,aA,List.getD_eq_getElem?_getD,List.getElem?_map,List.getElem?_eq_getElem hl,Option.getD_some,Option.map_some]
 ·have hs:s.size≤(Lib.bytesCells w 5 s).size:=by simp[Lib.bytesCells]
  simp[World.frozen?,Lib.bytesWorld_at_new]
  omega
 ·exact⟨rfl,rfl,rfl,by rw[Lib.bytesWorld_size];omega,fun k hk=>Lib.bytesWorld_at_old w _ s k hk⟩
def cJ:ByteArray:=⟨#[]⟩
theorem x8 {x y:ByteArray} {a b:Int} (h:x=y) (h':a=b):Ending.returned (.tuple #[.string x,.int .i64 a])=.returned (.tuple #[.string y,.int .i64 b]):=by rw[h,h']
theorem Z8 (s:ByteArray) (k:Nat) (h:k<s.size):((s[k].toNat:Nat):Int)=((aV s k:Nat):Int):=by rw[bP s k h]
def OX (c l:Nat):Prop:=l≤6∧c<2 ^ l∧(l=0∨2 ^ (l - 1)≤c)
theorem UW:∀ l:Fin 7,∀ d:Fin 7,∀ c:Fin 64,1≤d.val→OX c.val l.val→(c.val<2 ^ (d.val - 1)↔l.val<d.val)∧(l.val<d.val→OX (c.val+2 ^ (d.val - 1)) d.val):=by
 unfold OX;decide +kernel
theorem Z9 (b:Nat) (h1:49≤b) (h2:b≤54):eK b=DW (b - 48):=by
 unfold eK DW;rw[if_pos ⟨h1,h2⟩,show b - 48 - 1=b - 49 from by omega]
theorem aAA (s:ByteArray) (hs:s.size≤70000) (w:World) :
  Calls Tryz.prog 147 #[.string s] w fun e w'=>e=.returned (.tuple #[.int .u8 ((FZ s:Nat):Int),.bool (F4 s)])∧w=w':=by
 go_enter Tryz.func147,Tryz.ntmps147
 go_wp2
 go_loop [4,5,6] (fun u v i=>∃ k c l:Nat,k≤s.size∧i=.int .i64 k∧u=.int .i64 c∧v=.int .i64 l∧DX ((aA s).take k)=some c∧OX c l∧(k=0∨1≤l)) (fun _ _ i=>s.size - (intOf i).toNat)
 case atStart=>exact⟨0,0,0,by omega,rfl,rfl,rfl,by simp[DX],⟨by omega,by decide,.inl rfl⟩,.inl rfl⟩
 case round =>
  obtain⟨k,c,l,hk,rfl,rfl,rfl,hc,hL,hkl⟩:=hrel
  have hc64:=LN _ c hc
  have hl6:=hL.1
  by_cases hlt:k<s.size
  ·have E1:=hid (Z8 s k hlt)
   have h256:=dQ s k
   have hbb:c<eK (aV s k)→DX ((aA s).take (k+1))=some (c+eK (aV s k)):=UN s k c hlt hc
   have hno:¬ c<eK (aV s k)→FZ s=0:=fun h=>UO s k c hlt hc h
   obtain⟨b,hb⟩:∃ b,aV s k=b:=⟨_,rfl⟩
   rw[hb]at h256 hbb hno E1
   clear hb hc
   have E2:=E1.out
   by_cases d1:b<49
   ·have h0:=hno (by unfold eK;rw[if_neg (by omega)];omega)
    have HR:=hid h0
    have HR2:=hid (show false=F4 s by unfold F4;rw[HR.out];rfl)
    have t1:decide ((b:Int) - 48<1)=true:=by simp;omega
    clear hno hbb h0
    go_wp2
    go_ret2
    exact⟨yA (by rw[HR.out];rfl) HR2.out,rfl⟩
   ·by_cases d2:54<b
    ·have h0:=hno (by unfold eK;rw[if_neg (by omega)];omega)
     have HR:=hid h0
     have HR2:=hid (show false=F4 s by unfold F4;rw[HR.out];rfl)
     have t1:decide ((b:Int) - 48<1)=false:=by simp;omega
     have t2:decide (6<(b:Int) - 48)=true:=by simp;omega
     clear hno hbb h0
     go_wp2
     go_ret2
     exact⟨yA (by rw[HR.out];rfl) HR2.out,rfl⟩
    ·obtain⟨d,rfl⟩:∃ d,b=d+48:=⟨b - 48,by omega⟩
     have hbit:=Z9 (d+48) (by omega) (by omega)
     rw[Nat.add_sub_cancel]at hbit
     have hla:=UW ⟨l,by omega⟩ ⟨d,by omega⟩ ⟨c,hc64⟩ (show 1≤d by omega) hL
     simp only[]at hla
     have hpw:2 ^ (d - 1)=eK (d+48):=by rw[hbit];rfl
     rw[hpw]at hla
     obtain⟨q,hq⟩:∃ q,eK (d+48)=q:=⟨_,rfl⟩
     have hq32:=DY (d+48)
     rw[hq]at hla hbb hno hbit hq32
     have HW:=hid hbit
     have e2:(((s[k]'hlt).toNat:Nat):Int)=(d:Int)+48:=by rw[E1.out];omega
     have g1:1≤d:=by omega
     have g6:d≤6:=by omega
     clear E2 hbit hpw hq d1 d2 h256
     by_cases hlt2:l<d
     ·have HN:=hid (hbb (hla.1.2 hlt2))
      have HL2:=hla.2 hlt2
      have hc2:=LN _ _ HN.out
      clear hbb hno hla
      go_wp2_with (go_at_call 148;refine((LL d g1 g6 _).mono (fun _ _ h=>(HW.out▸h))).mono ?_;rintro e w' ⟨rfl,rfl⟩)
      exact⟨⟨k+1,c+q,d,by omega,by go_num,by go_num,rfl,HN.out,HL2,.inr g1⟩,by simp[intOf];omega⟩
     ·have HR:=hid (hno (fun h=>hlt2 (hla.1.1 h)))
      have HR2:=hid (show false=F4 s by unfold F4;rw[HR.out];rfl)
      have hdl:d≤l:=by omega
      clear hbb hno hla hlt2
      go_wp2
      go_ret2
      exact⟨yA (by rw[HR.out];rfl) HR2.out,rfl⟩
  ·obtain rfl:k=s.size:=by omega
   have HR:=hid (Z3 s c hc)
   clear hc
   by_cases hz:s.size=0
   ·have hc0:c=0:=by
     have:=HR.out
     unfold FZ Z0 DX at this
     rw[List.eq_nil_of_length_eq_zero (show (aA s).length=0 by rw[aD];exact hz)]at this
     simpa using this.symm
    have HR2:=hid (show false=F4 s by unfold F4;rw[HR.out,hc0];rfl)
    have hz2:decide (0<s.size)=false:=decide_eq_false (by omega)
    have hZ:=hid hz
    clear hz hc0
    go_wp2
    go_ret2
    exact⟨yA (by rw[HR.out]) (by rw[← HR2.out]),rfl⟩
   ·have hl1:1≤l:=by omega
    have hc1:c≠0:=by
     have h3:=hL.2.2
     have:=Nat.one_le_two_pow (n:=l - 1)
     omega
    have HR2:=hid (show true=F4 s by unfold F4;rw[HR.out];simp[hc1])
    have hz2:decide (0<s.size)=true:=decide_eq_true (by omega)
    clear hz hc1
    go_wp2
    go_ret2
    exact⟨yA (by rw[HR.out]) (by rw[← HR2.out]),rfl⟩
theorem yB (a b:List Nat):bytesOf (a++b)=bytesOf a++bytesOf b:=by
 apply ByteArray.ext
 simp[bytesOf]
end Go.Proofs.YthbigkoihpgcfaaGreatDoor.Ce
