/-
  Put together.
-/
import Derived.Test.YthbigkoihpgcfaaGreatDoorVa
import Derived.Test.YthbigkoihpgcfaaGreatDoorVb
import Derived.Test.YthbigkoihpgcfaaGreatDoorVg
import Derived.OwnWalk
import Derived.Deep.QuietTactic
import Derived.BigQuiet
import Derived.BigRegion
import Derived.Deep.AppendLies
import Derived.Deep.RegionLaw
import Derived.Deep.DeepCutAuto
import Derived.Test.YthbigkoihpgcfaaGreatDoorRows
import Derived.WalkKit
import Derived.WalkSpells
import Derived.WalkLawsBesides
import Derived.Lib.Hide
import Derived.Outline
import Derived.Test.YthbigkoihpgcfaaGreatDoorShelf
import Derived.Lib.OthersKept
import Derived.BigCall
import Derived.Maps.AppendAt
set_option maxRecDepth 100000
set_option maxHeartbeats 16000000
namespace Go.Proofs.YthbigkoihpgcfaaGreatDoor.Tr
open Go.RowKit
end Go.Proofs.YthbigkoihpgcfaaGreatDoor.Tr
namespace Go.Proofs.YthbigkoihpgcfaaGreatDoor.Tr
open Go.RowKit
end Go.Proofs.YthbigkoihpgcfaaGreatDoor.Tr
namespace Go.Proofs.YthbigkoihpgcfaaGreatDoor.Tr
open Go.RowKit
end Go.Proofs.YthbigkoihpgcfaaGreatDoor.Tr
namespace Go.Proofs.YthbigkoihpgcfaaGreatDoor.Tr
open Go.RowKit
def aEL (x y:Nd):Bool:=decide (x.kind=y.kind∧x.text=y.text∧x.size=y.size)
def aFL (t u:List Nd):Bool:=decide (t.length=u.length) && (List.zip t u).all fun z=>aEL z.1 z.2
end Go.Proofs.YthbigkoihpgcfaaGreatDoor.Tr
namespace Go.Proofs.YthbigkoihpgcfaaGreatDoor.Tr
open Go.RowKit Lx
end Go.Proofs.YthbigkoihpgcfaaGreatDoor.Tr
namespace Go.Proofs.YthbigkoihpgcfaaGreatDoor.Tr
open Go.RowKit Lx
end Go.Proofs.YthbigkoihpgcfaaGreatDoor.Tr
namespace Go.Proofs.YthbigkoihpgcfaaGreatDoor.Tr
open Go.RowKit Lx
end Go.Proofs.YthbigkoihpgcfaaGreatDoor.Tr
namespace Go.Proofs.YthbigkoihpgcfaaGreatDoor.Tr
open Go.RowKit
def cO (o:Op):List Value:=[.int .u8 (o.kind:Int),.string o.kids,.int .i64 (o.spot:Int),.int .i64 (o.notes:Int),.int .i64 (o.first:Int),.string o.text]
def cN (x:Nd):List Value:=[.int .u8 (x.kind:Int),.string x.text,.int .i64 x.place,.int .i64 x.size]
theorem vC (o:Op):(cO o).length=6:=rfl
theorem NL (x:Nd):(cN x).length=4:=rfl
end Go.Proofs.YthbigkoihpgcfaaGreatDoor.Tr
namespace Go.Proofs.YthbigkoihpgcfaaGreatDoor.Tr
open Go.RowKit
abbrev pK (off:Nat) (w:World) (B:Nat) (v:Value) (t:List Nd):Prop:=Ba.Reads cN 4 off w B v t
theorem ZD {off g:Nat} {w:World} {t:List Nd} (h:∀ k x,t[k]?=some x→∀ j u,(cN x)[j]?=some u→w.cell? ⟨g,off+(k * 4+j),none⟩=some u) (k:Nat) (x:Nd) (hx:t[k]?=some x) :
  w.cell? ⟨g,off+k * 4,none⟩=some (.int .u8 (x.kind:Int))∧w.cell? ⟨g,off+k * 4+1,none⟩=some (.string x.text)∧w.cell? ⟨g,off+k * 4+2,none⟩=some (.int .i64 x.place) ∧
   w.cell? ⟨g,off+k * 4+3,none⟩=some (.int .i64 x.size):=by
 have e:=h k x hx
 simp only[← Nat.add_assoc]at e
 exact⟨e 0 _ rfl,e 1 _ rfl,e 2 _ rfl,e 3 _ rfl⟩
end Go.Proofs.YthbigkoihpgcfaaGreatDoor.Tr
namespace Go.Proofs.YthbigkoihpgcfaaGreatDoor.Nu
open Go.RowKit Tr
def dF (k:Nat):Bool:=k==49 || k==50 || k==51 || k==112 || k==105 || k==99 || k==110
end Go.Proofs.YthbigkoihpgcfaaGreatDoor.Nu
namespace Go.Proofs.YthbigkoihpgcfaaGreatDoor.Nu
open Go.RowKit Tr
end Go.Proofs.YthbigkoihpgcfaaGreatDoor.Nu
namespace Go.Proofs.YthbigkoihpgcfaaGreatDoor.Nu
open Go.RowKit Tr
end Go.Proofs.YthbigkoihpgcfaaGreatDoor.Nu
namespace Go.Proofs.YthbigkoihpgcfaaGreatDoor.Nu
open Go.RowKit Tr
theorem SS {α:Type} {l:List α} {i:Nat} {b:α} (hb:l[i]?=some b) (f:α→α):l.set i (f b)=l.modify i f:=by
 apply List.ext_getElem?
 intro j
 rw[List.getElem?_set,List.getElem?_modify]
 by_cases h:i=j
 ·subst h
  have:=(List.getElem?_eq_some_iff.1 hb).1
  rw[if_pos rfl,if_pos this,hb];simp
 ·rw[if_neg h];simp only[if_neg h];cases l[j]?<;>rfl
theorem SZ {w:World} {N g k c i:Nat} {l:List Nd} (hk:l.length=k) (own:w.ownsRow N 188 4 (.slice (some ⟨g,0,none⟩) k c) k (Ba.rows cN l)) {x:Nd} (hx:l[i]?=some x) :
  w.cell? ⟨g,i * 4,none⟩=some (.int .u8 (x.kind:Int))∧w.cell? ⟨g,i * 4+1,none⟩=some (.string x.text)∧w.cell? ⟨g,i * 4+2,none⟩=some (.int .i64 x.place)∧w.cell? ⟨g,i * 4+3,none⟩=some (.int .i64 x.size):=by
 have hi:=(List.getElem?_eq_some_iff.1 hx).1
 have key:∀ j,j<4→w.cell? ⟨g,i * 4+j,none⟩=(cN x)[j]?:=fun j hj=>by
  rw[own.cellAt _ (by omega),Ba.fE cN NL _ _ _ hx j hj]
 exact⟨key 0 (by omega),key 1 (by omega),key 2 (by omega),key 3 (by omega)⟩
end Go.Proofs.YthbigkoihpgcfaaGreatDoor.Nu
namespace Go.Proofs.YthbigkoihpgcfaaGreatDoor.Nu
open Go.RowKit Tr
end Go.Proofs.YthbigkoihpgcfaaGreatDoor.Nu
namespace Go.Proofs.YthbigkoihpgcfaaGreatDoor.Nu
open Go.RowKit Tr
end Go.Proofs.YthbigkoihpgcfaaGreatDoor.Nu
namespace Go.Proofs.YthbigkoihpgcfaaGreatDoor.Nu
open Go.RowKit Tr
end Go.Proofs.YthbigkoihpgcfaaGreatDoor.Nu
namespace Go.Proofs.YthbigkoihpgcfaaGreatDoor.Tr
open Go.RowKit
def Fit (t:List Nd):Prop:=∀ x ∈ t,x.kind<256∧x.text.size≤maxLen∧(-9223372036854775808≤x.place∧x.place≤9223372036854775807)∧(-9223372036854775808≤x.size∧x.size≤9223372036854775807)
end Go.Proofs.YthbigkoihpgcfaaGreatDoor.Tr
namespace Go.Proofs.YthbigkoihpgcfaaGreatDoor.Ce
open Go.RowKit
theorem aI {k:IntKind} {a b:Int} (h:a=b):Ending.returned (.int k a)=.returned (.int k b):=by rw[h]
theorem yA {k:IntKind} {a b:Int} {x y:Bool} (h:a=b) (h':x=y):Ending.returned (.tuple #[.int k a,.bool x])=.returned (.tuple #[.int k b,.bool y]):=by rw[h,h']
def eK (d:Nat):Nat:=if 49≤d∧d≤54 then 2 ^ (d - 49) else 0
def cE (c k:Nat):List Nat:=((List.range k).filter fun i=>c / 2 ^ i % 2==1).map (49+·)
def bytesOf (l:List Nat):ByteArray:=⟨(l.map UInt8.ofNat).toArray⟩
def lO (c:Nat):ByteArray:=bytesOf (cE c 6)
theorem QF (c k:Nat) (h:c / 2 ^ k % 2=1):cE c (k+1)=cE c k++[49+k]:=by
 unfold cE;rw[List.range_succ,List.filter_append,List.map_append];simp[h]
theorem UT (c k:Nat) (h:¬ c / 2 ^ k % 2=1):cE c (k+1)=cE c k:=by
 unfold cE;rw[List.range_succ,List.filter_append,List.map_append];simp[h]
theorem uC (c k:Nat):(cE c k).length≤k:=by
 unfold cE;rw[List.length_map]
 exact Nat.le_trans (List.length_filter_le _ _) (by simp)
theorem aF (l:List Nat):(bytesOf l).size=l.length:=by
 show ((l.map UInt8.ofNat).toArray).size=_
 simp
def aA (s:ByteArray):List Nat:=s.data.toList.map UInt8.toNat
theorem aD (s:ByteArray):(aA s).length=s.size:=by unfold aA;rw[List.length_map,Array.length_toList];rfl
def aV (s:ByteArray) (i:Nat):Nat:=(aA s).getD i 0
theorem dQ (s:ByteArray) (i:Nat):aV s i<256:=by
 unfold aV aA
 rw[List.getD_eq_getElem?_getD,List.getElem?_map]
 cases h:s.data.toList[i]? with
 | none=>simp
 | some x=>simpa using UInt8.toNat_lt x
theorem bP (s:ByteArray) (k:Nat) (h:k<s.size):s[k].toNat=aV s k:=by
 unfold aV aA
 have hl:k<s.data.toList.length:=by simpa using h
 rw[List.getD_eq_getElem?_getD,List.getElem?_map,List.getElem?_eq_getElem hl]
 rfl
theorem aB (l:List Nat) (h:∀ x ∈ l,x<256):aA (bytesOf l)=l:=by
 unfold aA bytesOf
 rw[List.toList_toArray,List.map_map]
 conv=>rhs;rw[← List.map_id l]
 apply List.map_congr_left
 intro x hx
 have:=h x hx
 simp[Nat.mod_eq_of_lt this]
theorem aP (s:ByteArray):bytesOf (aA s)=s:=by
 unfold aA bytesOf
 rw[List.map_map]
 have:(UInt8.ofNat ∘ UInt8.toNat)=id:=by funext x;simp
 rw[this,List.map_id,Array.toArray_toList]
theorem BR (s:ByteArray) (k:Nat) (h:k<s.size):(aA s).take (k+1)=(aA s).take k++[aV s k]:=by
 have hl:k<(aA s).length:=by rw[aD];exact h
 rw[List.take_succ_eq_append_getElem hl]
 unfold aV
 rw[List.getD_eq_getElem?_getD,List.getElem?_eq_getElem hl];rfl
def gK (o:Option Nat) (b:Nat):Option Nat:=o.bind fun c=>if c<eK b then some (c+eK b) else none
def DX (l:List Nat):Option Nat:=l.foldl gK (some 0)
def Z0 (l:List Nat):Nat:=(DX l).getD 0
def FZ (s:ByteArray):Nat:=Z0 (aA s)
def F4 (s:ByteArray):Bool:=decide (FZ s≠0)
theorem F7 (l:List Nat) (b:Nat):DX (l++[b])=gK (DX l) b:=by unfold DX;rw[List.foldl_append];rfl
theorem oW (l:List Nat):l.foldl gK none=none:=by
 induction l with
 | nil=>rfl
 | cons x l ih=>exact ih
theorem UP (l r:List Nat) (h:DX l=none):DX (l++r)=none:=by
 unfold DX at *;rw[List.foldl_append,h];exact oW r
theorem DY (d:Nat):eK d≤32:=by
 unfold eK;split
 ·have:d=49∨d=50∨d=51∨d=52∨d=53∨d=54:=by omega
  rcases this with rfl | rfl | rfl | rfl | rfl | rfl<;>decide
 ·omega
theorem LP (d:Nat):eK d=0∨(d=49∧eK d=1)∨(d=50∧eK d=2)∨(d=51∧eK d=4)∨(d=52∧eK d=8)∨(d=53∧eK d=16)∨(d=54∧eK d=32):=by
 unfold eK;split
 ·have:d=49∨d=50∨d=51∨d=52∨d=53∨d=54:=by omega
  rcases this with rfl | rfl | rfl | rfl | rfl | rfl<;>decide
 ·exact .inl rfl
theorem LN (l:List Nat):∀ c,DX l=some c→c<64:=by
 suffices h:∀ (l:List Nat) (a c:Nat),a<64→l.foldl gK (some a)=some c→c<64 from fun c hc=>h l 0 c (by omega) hc
 intro l
 induction l with
 | nil=>intro a c ha h;cases h;exact ha
 | cons x l ih =>
  intro a c ha h
  rw[List.foldl_cons]at h
  by_cases hx:a<eK x
  ·have e:gK (some a) x=some (a+eK x):=by simp[gK,hx]
   rw[e]at h
   have:=DY x
   exact ih _ c (by omega) h
  ·have e:gK (some a) x=none:=by simp[gK,hx]
   rw[e,oW]at h;cases h
theorem UZ (s:ByteArray):FZ s<64:=by
 unfold FZ Z0
 cases h:DX (aA s) with
 | none=>simp
 | some c=>exact LN _ c h
end Go.Proofs.YthbigkoihpgcfaaGreatDoor.Ce
namespace Go.Proofs.YthbigkoihpgcfaaGreatDoor.Ce
open Go.RowKit
theorem QD (d:Int) (h0:0≤d) (h1:d<2147483648) (w:World) :
  Calls Tryz.prog 186 #[.int .i32 d] w fun e w'=>e=.returned (.int .u8 ((eK d.toNat:Nat):Int))∧w=w':=by
 by_cases a:d<49
 ·have HR:=Lib.hid (show (0:Int)=((eK d.toNat:Nat):Int) by unfold eK;rw[if_neg (by omega)];rfl)
  go_enter Tryz.func186,Tryz.ntmps186
  go_wp2
  go_ret
  exact⟨aI HR.out,rfl⟩
 by_cases b:54<d
 ·have HR:=Lib.hid (show (0:Int)=((eK d.toNat:Nat):Int) by unfold eK;rw[if_neg (by omega)];rfl)
  have ha:decide (d<49)=false:=by simpa using a
  go_enter Tryz.func186,Tryz.ntmps186
  go_wp2
  go_ret
  exact⟨aI HR.out,rfl⟩
 have hd:d=49∨d=50∨d=51∨d=52∨d=53∨d=54:=by omega
 clear a b h0 h1
 rcases hd with rfl | rfl | rfl | rfl | rfl | rfl
 all_goals
  go_enter Tryz.func186,Tryz.ntmps186
  go_wp2
  go_ret
  exact⟨rfl,rfl⟩
theorem F6 (d:Int) (k:Nat) (h0:0≤d) (h1:d<2147483648) (hk:eK d.toNat=k) (w:World) :
  Calls Tryz.prog 186 #[.int .i32 d] w fun e w'=>e=.returned (.int .u8 ((k:Nat):Int))∧w=w':=hk▸QD d h0 h1 w
end Go.Proofs.YthbigkoihpgcfaaGreatDoor.Ce
namespace Go.Proofs.YthbigkoihpgcfaaGreatDoor.Ce
open Go.RowKit
def DW (d:Nat):Nat:=2 ^ (d - 1)
theorem Z2 (d:Nat) (h:d≤6):DW d≤32:=by
 have:d=0∨d=1∨d=2∨d=3∨d=4∨d=5∨d=6:=by omega
 rcases this with rfl | rfl | rfl | rfl | rfl | rfl | rfl<;>decide
theorem QE (d:Nat) (h:1≤d):DW (d+1)=2 * DW d:=by
 unfold DW
 obtain⟨e,rfl⟩:∃ e,d=e+1:=⟨d - 1,by omega⟩
 show 2 ^ (e+1)=2 * 2 ^ e
 rw[Nat.pow_succ,Nat.mul_comm]
theorem LL (d:Nat) (h1:1≤d) (h6:d≤6) (w:World) :
  Calls Tryz.prog 148 #[.int .i64 (d:Int)] w fun e w'=>e=.returned (.int .i64 ((DW d:Nat):Int))∧w=w':=by
 go_enter Tryz.func148,Tryz.ntmps148
 go_wp2
 go_loop [3,4] (fun n i=>∃ k p:Nat,1≤k∧k≤d∧i=.int .i64 k∧n=.int .i64 p∧p≤32∧DW k=p) (fun _ i=>d - (intOf i).toNat)
 case atStart=>exact⟨1,1,by omega,by omega,rfl,rfl,by omega,rfl⟩
 case round =>
  obtain⟨k,p,hk1,hk2,rfl,rfl,hp,hpk⟩:=hrel
  by_cases hlt:k<d
  ·have HP:=Lib.hid (show DW (k+1)=2 * p by rw[QE k hk1,hpk])
   have hle:=Z2 (k+1) (by omega)
   have hp2:2 * p≤32:=by have:=HP.out;omega
   clear hle hpk
   go_wp2
   exact⟨⟨k+1,2 * p,by omega,by omega,by go_num,by go_num,by omega,HP.out⟩,by simp[intOf];omega⟩
  ·obtain rfl:k=d:=by omega
   have HP:=Lib.hid hpk;clear hpk
   go_wp2
   go_ret
   exact⟨aI (by rw[HP.out]),rfl⟩
end Go.Proofs.YthbigkoihpgcfaaGreatDoor.Ce
namespace Go.Proofs.YthbigkoihpgcfaaGreatDoor.Ce
open Go.RowKit
theorem UN (s:ByteArray) (k c:Nat) (hk:k<s.size) (h:DX ((aA s).take k)=some c) (hb:c<eK (aV s k)):DX ((aA s).take (k+1))=some (c+eK (aV s k)):=by
 rw[BR s k hk,F7,h];simp[gK,hb]
theorem UO (s:ByteArray) (k c:Nat) (hk:k<s.size) (h:DX ((aA s).take k)=some c) (hb:¬ c<eK (aV s k)):FZ s=0:=by
 have h1:DX ((aA s).take (k+1))=none:=by rw[BR s k hk,F7,h];simp[gK,hb]
 have h2:=UP _ ((aA s).drop (k+1)) h1
 rw[List.take_append_drop]at h2
 unfold FZ Z0;rw[h2];rfl
theorem Z3 (s:ByteArray) (c:Nat) (h:DX ((aA s).take s.size)=some c):FZ s=c:=by
 unfold FZ Z0
 rw[← aD,List.take_length]at h
 rw[h];rfl
end Go.Proofs.YthbigkoihpgcfaaGreatDoor.Ce
namespace Go.Proofs.YthbigkoihpgcfaaGreatDoor.Ce
open Go.RowKit
theorem infoByte:(Tryz.prog.info? 5).map (fun i=>(i.zero,i.size,i.bytes))=some (some (.int .u8 0),1,1):=by kernel_rfl
def sJ:ByteArray:={ data:=#[49,50,51,52,53,54] }
theorem aDG:∀ k:Fin 6,((sJ[k.val]'(k.isLt)).toNat:Int)=((49+k.val:Nat):Int):=by decide +kernel
theorem Z4:∀ k:Fin 6,(sJ[k.val]'(k.isLt)).toNat<128:=by decide +kernel
theorem Z5:∀ k:Fin 6,eK (((49+k.val:Nat):Int).toNat)=2 ^ k.val:=by decide +kernel
theorem Z6:∀ c:Fin 256,∀ j:Fin 6,(bits .and .u8 ((c.val:Nat):Int) ((2 ^ j.val:Nat):Int)==0)=!(c.val / 2 ^ j.val % 2==1):=by decide +kernel
def oT (l:List Nat):List Value:=l.map fun d:Nat=>Value.int .u8 ((d:Nat):Int)
theorem oU (l:List Nat) (d:Nat):oT (l++[d])=oT l++[.int .u8 (d:Int)]:=by simp[oT]
theorem UQ (c k:Nat) (hk:k≤6):∀ x ∈ cE c k,x<128:=by
 intro x hx
 simp only[cE,List.mem_map,List.mem_filter,List.mem_range]at hx
 obtain⟨i,⟨hi,_⟩,rfl⟩:=hx
 omega
theorem UR {w:World} {base:Nat} {e:TypeId} {size:Nat} {v:Value} {n:Nat} {xs:List Value} (h:w.ownsRow base e size v n xs) {k:Nat} (hk:k<base) (s:ByteArray) (p:Nat):(w.iterAt k s p).ownsRow base e size v n xs:=by
 refine⟨h.1,?_⟩
 rcases h.2 with hn | ⟨g,cap,cur,hv,hb,hg,rest⟩
 ·exact .inl hn
 ·exact .inr ⟨g,cap,cur,hv,hb,(Lib.iterAt_other w k g s p (by omega)).trans hg,rest⟩
theorem oV {w:World} {v:Value} {n base:Nat} (l:List Nat) (hl:∀ x ∈ l,x<256) (h:w.ownsRow base 5 1 v n (oT l)) :
  (convert 89 9 v).run Tryz.prog w=.ok (.string (bytesOf l)) w:=by
 have hln:l.length=n:=by have:=h.1;simpa[oT] using this
 rcases h.2 with⟨rfl,h0⟩ | ⟨g,cap,cur,rfl,_⟩
 ·have hnil:l=[]:=List.eq_nil_of_length_eq_zero (by omega)
  subst hnil
  exact run_convert_bytes_nil (P:=Tryz.prog) w 89 5 Tryz.underlying89 Tryz.underlying5 0 0 9 Tryz.underlying9
 ·have hback:=run_convert_bytes_back (P:=Tryz.prog) w 89 9 5 ⟨g,0,none⟩ cap (l.map UInt8.ofNat) Tryz.underlying89 Tryz.underlying5 Tryz.underlying9 (fun j hj=>by
   have hj':j<l.length:=by simpa using hj
   have e:(⟨g,0,none⟩:Addr).add j=⟨g,j,none⟩:=by unfold Addr.add;split<;>simp_all
   rw[e,h.cellAt j (by omega)]
   have h256:=hl l[j] (List.getElem_mem hj')
   simp only[oT,List.getElem?_map,List.getElem?_eq_getElem hj',Option.map_some,List.getElem_map]
   have e3:(UInt8.ofNat l[j]).toNat=l[j]:=by simp[Nat.mod_eq_of_lt h256]
   rw[e3])
  rw[List.length_map,hln]at hback
  exact hback
theorem US (c:Nat) (hc:c<256) (w:World) :
  Calls Tryz.prog 149 #[.int .u8 (c:Int)] w fun e w'=>e=.returned (.string (lO c))∧Below w.heap.size w w':=by
 obtain⟨i0,hi,hz0,hz1,hz2⟩:=info_parts infoByte
 go_enter Tryz.func149,Tryz.ntmps149
 go_wp2
 go_loopw [3] (fun v wr=>∃ (k n:Nat),k≤6∧wr.heap[w.heap.size]?=some (.stringIter sJ k)∧Below w.heap.size w wr∧(cE c k).length=n∧wr.ownsRow (w.heap.size+1) 5 1 v n (oT (cE c k))) (fun _ wr=>6 - wr.iterPos w.heap.size)
 case atStart =>
  refine⟨0,0,by omega,?_,(Below.refl _ w).alloc (Nat.le_refl _) _,rfl,?_⟩
  ·exact World.iter_heap w sJ 0
  ·exact World.ownsRow_nil _ _ _ _
 case round =>
  obtain⟨k,n,hk,hit,hB,hn,hown⟩:=hrel
  have hsz:w.heap.size<wr.heap.size:=(Array.getElem?_eq_some_iff.1 hit).1
  have hn6:n≤6:=by have:=uC c k;omega
  by_cases hp:k<6
  ·have hnx:∀ ty,(Instr.next (.pointer (some ⟨w.heap.size,0,none⟩)) true ty).run Tryz.prog wr=.ok (.tuple #[.bool true,.int .i64 k,.int .i32 ((49+k:Nat):Int)]) (wr.iterAt w.heap.size sJ (k+1)):=fun ty=>by
    rw[Lib.run_next_ascii_at wr w.heap.size sJ k ty hit hp (Z4 ⟨k,hp⟩),aDG ⟨k,hp⟩]
   have hit2:=Lib.iterAt_heap wr w.heap.size sJ k (k+1) hit
   have hB2:=Lib.below_iterAt hB (k:=w.heap.size) (by omega) sJ (k+1)
   have hown2:=UR hown (k:=w.heap.size) (by omega) sJ (k+1)
   have hba:=Z5 ⟨k,hp⟩
   have hand:=Z6 ⟨c,hc⟩ ⟨k,hp⟩
   simp only[]at hba hand
   have HP:=Lib.hid (show 6 - (wr.iterAt w.heap.size sJ (k+1)).iterPos w.heap.size<6 - wr.iterPos w.heap.size by
    simp only[World.iterPos,hit2,hit];omega)
   have hsz2:w.heap.size<(wr.iterAt w.heap.size sJ (k+1)).heap.size:=by rw[Lib.iterAt_size];exact hsz
   have hns:=Lib.hid hn;clear hn
   obtain⟨q,hq⟩:∃ q,2 ^ k=q:=⟨_,rfl⟩
   by_cases hb:c / 2 ^ k % 2=1
   ·have HD:=Lib.hid (QF c k hb)
    have hand2:(bits .and .u8 ((c:Nat):Int) ((q:Nat):Int)==0)=false:=by rw[← hq,hand];simp[hb]
    rw[hq]at hba
    have HQ:=Lib.hid hba
    clear hand hb hba hq hown hB
    go_wp2_with (first
     |(go_at_call 186;refine(F6 (((49+k:Nat):Int)) q (by omega) (by omega) HQ.out _).mono ?_;rintro e w' ⟨rfl,rfl⟩)
     |(at_builtin;refine wpList_append_own _ rfl _ _ 89 rfl (w.heap.size+1) 5 i0 (.int .u8 0) 1 1 Tryz.underlying89 hi hz0 hz1 hz2 rfl (by decide) _ _ _ rfl (hown2.alloc _) ⟨(wr.iterAt w.heap.size sJ (k+1)).heap.size,0,none⟩ 1 1 [.int .u8 (49+(k:Int))] rfl rfl (cell_one_new _ _ _) (by simp[Value.oneCell']) (by unfold maxLen;omega) (by omega) (by simp;omega) ?_;intro v' w1 hown' hgrow _))
    have hB3:Below w.heap.size w w1:=(hB2.alloc (by omega) _).grown hgrow (by simp;omega) (fun j ej=>by have:=(hown2.lt j ej).1;omega)
    have hit3:w1.heap[w.heap.size]?=some (.stringIter sJ (k+1)):=by
     rw[hgrow.block w.heap.size (by simp;omega) (fun e=>by have:=(hown2.lt _ e.symm).1;omega)]
     exact(Below.heap_alloc _ _ _ hsz2).trans hit2
    refine⟨⟨k+1,n+1,by omega,hit3,hB3,by rw[HD.out,List.length_append,hns.out];rfl,?_⟩,?_⟩
    ·rw[HD.out,oU];exact hown'
    ·have:=HP.out
     simp only[World.iterPos,hit3,hit2]at this ⊢;exact this
   ·have HD:=Lib.hid (UT c k hb)
    have hand2:(bits .and .u8 ((c:Nat):Int) ((q:Nat):Int)==0)=true:=by rw[← hq,hand];simp[hb]
    rw[hq]at hba
    have HQ:=Lib.hid hba
    clear hand hb hba hq hown hB
    go_wp2_with (go_at_call 186;refine(F6 (((49+k:Nat):Int)) q (by omega) (by omega) HQ.out _).mono ?_;rintro e w' ⟨rfl,rfl⟩)
    exact⟨⟨k+1,n,by omega,hit2,hB2,by rw[HD.out];exact hns.out,by rw[HD.out];exact hown2⟩,HP.out⟩
  ·have hnx:∀ ty,(Instr.next (.pointer (some ⟨w.heap.size,0,none⟩)) true ty).run Tryz.prog wr=_:=fun ty=>Lib.run_next_end_at wr w.heap.size sJ k ty hit hp
   obtain rfl:k=6:=by omega
   rcases hown.2 with⟨rfl,h0⟩ | ⟨g,cap,cur,rfl,_⟩
   all_goals
    have hback:=oV (cE c 6) (fun x hx=>Nat.lt_trans (UQ c 6 (Nat.le_refl _) x hx) (by decide)) hown
    go_wp2
    go_ret
    exact⟨rfl,hB⟩
end Go.Proofs.YthbigkoihpgcfaaGreatDoor.Ce
