/-
  Put together: KaA, KaB, LxM, LxO, LxS, LxT, LxU, LxV, LxY, LxP.
-/
import Derived.Test.YtmldpkigfhoalaaGreatDoorRows
import Derived.WalkKit
import Derived.WalkSpells
import Derived.WalkLawsBesides
import Derived.Lib.Hide
import Derived.Outline
import Derived.Maps.AppendAt
import Derived.OwnWalk
import Derived.Deep.QuietTactic
import Derived.BigQuiet
import Derived.BigRegion
import Derived.StillTailTactics
namespace Go.Proofs.YtmldpkigfhoalaaGreatDoor.Ka
open Go.RowKit
def markL:List Nat:=[46,44,59,58,33,63,39,34,45,40,41,47]
def clsN (n:Nat):Nat :=
 if 97≤n∧n≤122 then 1 else if 65≤n∧n≤90 then 2 else if 48≤n∧n≤57 then 3
 else if n=32 then 5 else if n=10 then 6 else if markL.contains n then 4 else 0
def cls (c:Int):Int:=(clsN c.toNat:Int)
def tabN (i:Nat):Nat:=[6597069766656,0,4919056986126943301,4611761005120402227,2459565876494606880,2345624805922,1229782938247303440,1172812402961,0,0,0,0,0,0,0,0].getD i 0
def Laid (w:World):Prop:=0<w.heap.size∧∀ i:Nat,i<16→w.cell? ⟨0,i,none⟩=some (.int .u64 (tabN i:Int))
theorem Laid.below {w w':World} {B:Nat} (h:Laid w) (hb:Below B w w') (hB:0<B):Laid w' :=
 ⟨Nat.lt_of_lt_of_le h.1 hb.size,fun i hi=>(hb.cell (p:=⟨0,i,none⟩) hB).trans (h.2 i hi)⟩
theorem Laid.cell {w:World} (h:Laid w) {i:Nat} (hi:i<16):w.cell? ⟨0,i,none⟩=some (.int .u64 (tabN i:Int)):=h.2 i hi
theorem clsN_le (n:Nat):clsN n≤6:=by
 unfold clsN;repeat' split
 all_goals omega
theorem cls_cases (c:Int):cls c=0∨cls c=1∨cls c=2∨cls c=3∨cls c=4∨cls c=5∨cls c=6:=by
 have:=clsN_le c.toNat;unfold cls;omega
theorem tab_all:∀ n:Fin 256,wrap64 (bits .and .u64 ((tabN ((((n.val:Nat):Int) / 16).toNat):Int) / 2 ^ (((n.val:Nat):Int) % 16 * 4).toNat) 15)=cls (n.val:Int):=by decide +kernel
theorem tab_cls (c:Int) (h0:0≤c) (h1:c<256):wrap64 (bits .and .u64 ((tabN ((c / 16).toNat):Int) / 2 ^ (c % 16 * 4).toNat) 15)=cls c:=by
 obtain ⟨n,rfl⟩:=Int.eq_ofNat_of_zero_le h0
 exact tab_all ⟨n,by omega⟩
theorem ret_int {k:IntKind} {a b:Int} (h:a=b):Ending.returned (.int k a)=.returned (.int k b):=by rw [h]
theorem ret_bool {a b:Bool} (h:a=b):Ending.returned (.bool a)=.returned (.bool b):=by rw [h]
set_option maxHeartbeats 400000 in
theorem class_at (c k:Int) (h0:0≤c) (h1:c<256) (hk:cls c=k) (w:World) (hL:Laid w) :
  Calls Tryz.prog 100 #[.int .u8 c] w fun e w'=>e=.returned (.int .i64 k)∧w=w':=by
 have hc:=hL.cell (i:=(c / 16).toNat) (by omega)
 have HK:=Lib.hid hk;clear hk
 have HT:=Lib.hid (tab_cls c h0 h1)
 go_enter Tryz.func100,Tryz.ntmps100
 go_wp2
 go_ret
 exact ⟨ret_int (HT.out.trans HK.out),rfl⟩
def isB (c:Int):Bool:=decide (1≤cls c∧cls c≤5)
def whiteB (c:Int):Bool:=decide (cls c=5∨cls c=6)
set_option maxHeartbeats 1000000 in
theorem is_any (c:Int) (h0:0≤c) (h1:c<256) (w:World) (hL:Laid w) :
  Calls Tryz.prog 89 #[.int .u8 c] w fun e w'=>e=.returned (.bool (isB c))∧w=w':=by
 rcases cls_cases c with h | h | h | h | h | h | h
 all_goals
  have hB:=Lib.hid (show isB c=_ from by unfold isB;rw [h])
  have HK:=Lib.hid h;clear h
  go_enter Tryz.func89,Tryz.ntmps89
  go_wp2_with (go_at_call 100;refine (class_at c _ h0 h1 HK.out w hL).mono ?_;rintro e w' ⟨rfl,rfl⟩)
  go_ret
  exact ⟨ret_bool hB.out.symm,rfl⟩
set_option maxHeartbeats 1000000 in
theorem white_any (c:Int) (h0:0≤c) (h1:c<256) (w:World) (hL:Laid w) :
  Calls Tryz.prog 75 #[.int .u8 c] w fun e w'=>e=.returned (.bool (whiteB c))∧w=w':=by
 rcases cls_cases c with h | h | h | h | h | h | h
 all_goals
  have hB:=Lib.hid (show whiteB c=_ from by unfold whiteB;rw [h])
  have HK:=Lib.hid h;clear h
  go_enter Tryz.func75,Tryz.ntmps75
  go_wp2_with (go_at_call 100;refine (class_at c _ h0 h1 HK.out w hL).mono ?_;rintro e w' ⟨rfl,rfl⟩)
  go_ret
  exact ⟨ret_bool hB.out.symm,rfl⟩
end Go.Proofs.YtmldpkigfhoalaaGreatDoor.Ka
namespace Go.Proofs.YtmldpkigfhoalaaGreatDoor.Ka
open Go.RowKit
theorem spec_all:∀ n:Fin 256,
  ((97≤n.val∧n.val≤122)→clsN n.val=1)∧((65≤n.val∧n.val≤90)→clsN n.val=2)∧((48≤n.val∧n.val≤57)→clsN n.val=3)∧(n.val=32→clsN n.val=5)∧(n.val=10→clsN n.val=6) ∧
  ((n.val=46∨n.val=44∨n.val=59∨n.val=58∨n.val=33∨n.val=63∨n.val=39∨n.val=34∨n.val=45∨n.val=40∨n.val=41∨n.val=47)→clsN n.val=4) ∧
  ((¬ (97≤n.val∧n.val≤122)∧¬ (65≤n.val∧n.val≤90)∧¬ (48≤n.val∧n.val≤57)∧n.val≠32∧n.val≠10 ∧
   ¬ (n.val=46∨n.val=44∨n.val=59∨n.val=58∨n.val=33∨n.val=63∨n.val=39∨n.val=34∨n.val=45∨n.val=40∨n.val=41∨n.val=47))→clsN n.val=0):=by decide +kernel
theorem cls_spec (c:Int) (h0:0≤c) (h1:c<256) :
  ((97≤c∧c≤122)→cls c=1)∧((65≤c∧c≤90)→cls c=2)∧((48≤c∧c≤57)→cls c=3)∧(c=32→cls c=5)∧(c=10→cls c=6) ∧
  ((c=46∨c=44∨c=59∨c=58∨c=33∨c=63∨c=39∨c=34∨c=45∨c=40∨c=41∨c=47)→cls c=4) ∧
  ((¬ (97≤c∧c≤122)∧¬ (65≤c∧c≤90)∧¬ (48≤c∧c≤57)∧c≠32∧c≠10 ∧
   ¬ (c=46∨c=44∨c=59∨c=58∨c=33∨c=63∨c=39∨c=34∨c=45∨c=40∨c=41∨c=47))→cls c=0):=by
 obtain ⟨n,rfl⟩:=Int.eq_ofNat_of_zero_le h0
 have h:=spec_all ⟨n,by omega⟩
 simp only [] at h
 unfold cls
 simp only [Int.toNat_natCast]
 omega
def markAt (k:Nat):Int:=((markL.getD k 0:Nat):Int)
def Past (c:Int) (k:Nat):Prop:=∀ j,j<k→c≠markAt j
theorem Past.zero (c:Int):Past c 0:=fun _ h=>absurd h (by omega)
theorem Past.succ {c:Int} {k:Nat} (h:Past c k) (hne:c≠markAt k):Past c (k+1):=fun j hj=>by
 rcases Nat.lt_or_ge j k with h' | h'
 ·exact h j h'
 ·obtain rfl:j=k:=by omega
  exact hne
theorem mark_all:∀ k:Fin 12,cls (markAt k.val)=4:=by decide +kernel
theorem mark_cls (c:Int) (k:Nat) (hk:k<12) (h:c=markAt k):cls c=4:=by rw [h];exact mark_all ⟨k,hk⟩
def marksS:ByteArray:={ data:=#[46,44,59,58,33,63,39,34,45,40,41,47] }
set_option maxHeartbeats 400000 in
theorem rmarks_any (w:World):Calls Tryz.prog 98 #[] w fun e w'=>e=.returned (.string marksS)∧w=w':=by
 go_enter Tryz.func98,Tryz.ntmps98
 go_wp2
 go_ret
 exact ⟨rfl,rfl⟩
theorem mark_at:∀ k:Fin 12,((marksS[k.val]'(k.isLt)).toNat:Int)=markAt k.val:=by decide +kernel
theorem past_cls (c:Int) (h0:0≤c) (h1:c<256) (h:Past c 12) (a1:¬ (97≤c∧c≤122)) (a2:¬ (65≤c∧c≤90)) (a3:¬ (48≤c∧c≤57)) (a4:c≠32) (a5:c≠10):cls c=0:=by
 have p0:c≠46:=h 0 (by omega)
 have p1:c≠44:=h 1 (by omega)
 have p2:c≠59:=h 2 (by omega)
 have p3:c≠58:=h 3 (by omega)
 have p4:c≠33:=h 4 (by omega)
 have p5:c≠63:=h 5 (by omega)
 have p6:c≠39:=h 6 (by omega)
 have p7:c≠34:=h 7 (by omega)
 have p8:c≠45:=h 8 (by omega)
 have p9:c≠40:=h 9 (by omega)
 have p10:c≠41:=h 10 (by omega)
 have p11:c≠47:=h 11 (by omega)
 have:=cls_spec c h0 h1
 omega
set_option maxHeartbeats 2000000 in
theorem rclass_any (c:Int) (h0:0≤c) (h1:c<256) (w:World) :
  Calls Tryz.prog 66 #[.int .u8 c] w fun e w'=>e=.returned (.int .i64 (cls c))∧w=w':=by
 have hs:=cls_spec c h0 h1
 by_cases a1:97≤c∧c≤122
 ·obtain ⟨b1,b2⟩:=a1
  have HR:=Lib.hid (show (1:Int)=cls c by omega)
  clear hs
  go_enter Tryz.func66,Tryz.ntmps66
  go_wp2
  go_ret
  exact ⟨ret_int HR.out,rfl⟩
 by_cases a2:65≤c∧c≤90
 ·obtain ⟨b1,b2⟩:=a2
  have HR:=Lib.hid (show (2:Int)=cls c by omega)
  have d1:decide (97≤c)=false:=by simp;omega
  clear hs a1
  go_enter Tryz.func66,Tryz.ntmps66
  go_wp2
  go_ret
  exact ⟨ret_int HR.out,rfl⟩
 by_cases a3:48≤c∧c≤57
 ·obtain ⟨b1,b2⟩:=a3
  have HR:=Lib.hid (show (3:Int)=cls c by omega)
  have d1:decide (97≤c)=false:=by simp;omega
  have d2:decide (65≤c)=false:=by simp;omega
  clear hs a1 a2
  go_enter Tryz.func66,Tryz.ntmps66
  go_wp2
  go_ret
  exact ⟨ret_int HR.out,rfl⟩
 by_cases a4:c=32
 ·subst a4
  have HR:=Lib.hid (show (5:Int)=cls 32 by omega)
  clear hs a1 a2 a3
  go_enter Tryz.func66,Tryz.ntmps66
  go_wp2
  go_ret
  exact ⟨ret_int HR.out,rfl⟩
 by_cases a5:c=10
 ·subst a5
  have HR:=Lib.hid (show (6:Int)=cls 10 by omega)
  clear hs a1 a2 a3 a4
  go_enter Tryz.func66,Tryz.ntmps66
  go_wp2
  go_ret
  exact ⟨ret_int HR.out,rfl⟩
 have HN:=Lib.hid (fun hp=>(past_cls c h0 h1 hp a1 a2 a3 a4 a5).symm)
 have e4:(c==32)=false:=by simpa using a4
 have e5:(c==10)=false:=by simpa using a5
 have hcase:c<48∨(57<c∧c<65)∨(90<c∧c<97)∨122<c:=by omega
 clear hs a4 a5 a1 a2 a3
 rcases hcase with b1 | ⟨b1,b2⟩ | ⟨b1,b2⟩ | b1
 all_goals
  go_enter Tryz.func66,Tryz.ntmps66
  go_wp2_with (go_at_call 98;refine (rmarks_any _).mono ?_;rintro e w' ⟨rfl,rfl⟩)
  go_loop [4] (fun i=>∃ k:Nat,k≤12∧i=.int .i64 k∧Past c k) (fun i=>12 - (intOf i).toNat)
  case atStart=>exact ⟨0,by omega,rfl,Past.zero c⟩
  case round =>
   obtain ⟨k,hk,rfl,hp⟩:=hrel
   by_cases hlt:k<12
   ·have hs':k<marksS.size:=hlt
    have hm:(((marksS[k]'hs').toNat:Nat):Int)=markAt k:=mark_at ⟨k,hlt⟩
    by_cases hc:c=markAt k
    ·have HR:=Lib.hid (mark_cls c k hlt hc)
     have hb:((((marksS[k]'hs').toNat:Nat):Int)==c)=true:=by rw [hm,hc];simp
     clear hm hc
     go_wp2
     go_ret
     exact ⟨ret_int HR.out.symm,rfl⟩
    ·have HP:=Lib.hid (hp.succ hc)
     have hb:((((marksS[k]'hs').toNat:Nat):Int)==c)=false:=by rw [hm];simp;exact fun e=>hc e.symm
     clear hm hc
     go_wp2
     exact ⟨⟨k+1,by omega,by go_num,HP.out⟩,by simp [intOf];omega⟩
   ·obtain rfl:k=12:=by omega
    have HR:=Lib.hid (HN.out hp)
    go_wp2
    go_ret
    exact ⟨ret_int HR.out,rfl⟩
theorem rclass_at (c k:Int) (h0:0≤c) (h1:c<256) (hk:cls c=k) (w:World) :
  Calls Tryz.prog 66 #[.int .u8 c] w fun e w'=>e=.returned (.int .i64 k)∧w=w':=hk▸rclass_any c h0 h1 w
set_option maxHeartbeats 1000000 in
theorem ris_any (c:Int) (h0:0≤c) (h1:c<256) (w:World) :
  Calls Tryz.prog 34 #[.int .u8 c] w fun e w'=>e=.returned (.bool (isB c))∧w=w':=by
 rcases cls_cases c with h | h | h | h | h | h | h
 all_goals
  have hB:=Lib.hid (show isB c=_ from by unfold isB;rw [h])
  have HK:=Lib.hid h;clear h
  go_enter Tryz.func34,Tryz.ntmps34
  go_wp2_with (go_at_call 66;refine (rclass_at c _ h0 h1 HK.out w).mono ?_;rintro e w' ⟨rfl,rfl⟩)
  go_ret
  exact ⟨ret_bool hB.out.symm,rfl⟩
theorem white_all:∀ n:Fin 256,((cls (n.val:Int)=5∨cls (n.val:Int)=6)↔(n.val=32∨n.val=10)):=by decide +kernel
theorem whiteB_iff (b:Nat) (h:b<256):whiteB (b:Int)=decide (b=32∨b=10):=by
 unfold whiteB
 rw [decide_eq_decide]
 exact white_all ⟨b,h⟩
set_option maxHeartbeats 1000000 in
theorem rwhite_any (b:Nat) (h:b<256) (w:World) :
  Calls Tryz.prog 35 #[.int .u8 (b:Int)] w fun e w'=>e=.returned (.bool (whiteB (b:Int)))∧w=w':=by
 have HW:=Lib.hid (whiteB_iff b h)
 by_cases a:b=32
 ·subst a
  have HV:=Lib.hid (show true=whiteB ((32:Nat):Int) by rw [HW.out];rfl)
  go_enter Tryz.func35,Tryz.ntmps35
  go_wp2
  go_ret
  exact ⟨ret_bool HV.out,rfl⟩
 by_cases c:b=10
 ·subst c
  have HV:=Lib.hid (show true=whiteB ((10:Nat):Int) by rw [HW.out];rfl)
  go_enter Tryz.func35,Tryz.ntmps35
  go_wp2
  go_ret
  exact ⟨ret_bool HV.out,rfl⟩
 have HV:=Lib.hid (show false=whiteB (b:Int) by rw [HW.out];simp [a,c])
 have t1:((b:Int)==32)=false:=beq_eq_false_iff_ne.2 (by omega)
 have t2:((b:Int)==10)=false:=beq_eq_false_iff_ne.2 (by omega)
 clear a c
 go_enter Tryz.func35,Tryz.ntmps35
 go_wp2
 go_ret
 exact ⟨ret_bool HV.out,rfl⟩
theorem rwhite_at (b:Nat) (v:Bool) (h:b<256) (hv:whiteB (b:Int)=v) (w:World) :
  Calls Tryz.prog 35 #[.int .u8 (b:Int)] w fun e w'=>e=.returned (.bool v)∧w=w':=hv▸rwhite_any b h w
theorem ris_at (b:Nat) (v:Bool) (h:b<256) (hv:isB (b:Int)=v) (w:World) :
  Calls Tryz.prog 34 #[.int .u8 (b:Int)] w fun e w'=>e=.returned (.bool v)∧w=w':=hv▸ris_any (b:Int) (by omega) (by omega) w
end Go.Proofs.YtmldpkigfhoalaaGreatDoor.Ka
namespace Go.Proofs.YtmldpkigfhoalaaGreatDoor.Lx
open Go.RowKit
theorem chain {B:Nat} {a b c:World} (h:Below B a b) (hB:B≤b.heap.size) (k:Below b.heap.size b c):Below B a c:=h.trans (k.mono hB)
def emptyS:ByteArray:=⟨#[]⟩
def bytesOf (l:List Nat):ByteArray:=⟨(l.map UInt8.ofNat).toArray⟩
theorem bytesOf_size (l:List Nat):(bytesOf l).size=l.length:=by
 show ((l.map UInt8.ofNat).toArray).size=_
 simp
def bytesN (s:ByteArray):List Nat:=s.data.toList.map UInt8.toNat
theorem bytesN_len (s:ByteArray):(bytesN s).length=s.size:=by unfold bytesN;rw [List.length_map,Array.length_toList];rfl
def bAt (s:ByteArray) (i:Nat):Nat:=(bytesN s).getD i 0
theorem bAt_lt (s:ByteArray) (i:Nat):bAt s i<256:=by
 unfold bAt bytesN
 rw [List.getD_eq_getElem?_getD,List.getElem?_map]
 cases h:s.data.toList[i]? with
 | none=>simp
 | some x=>simpa using UInt8.toNat_lt x
theorem bAt_get (s:ByteArray) (k:Nat) (h:k<s.size):s[k].toNat=bAt s k:=by
 unfold bAt bytesN
 have hl:k<s.data.toList.length:=by simpa using h
 rw [List.getD_eq_getElem?_getD,List.getElem?_map,List.getElem?_eq_getElem hl]
 rfl
theorem bytesN_bytesOf (l:List Nat) (h:∀ x ∈ l,x<256):bytesN (bytesOf l)=l:=by
 unfold bytesN bytesOf
 rw [List.toList_toArray,List.map_map]
 conv=>rhs;rw [← List.map_id l]
 apply List.map_congr_left
 intro x hx
 have:=h x hx
 simp [Nat.mod_eq_of_lt this]
theorem bytesOf_bytesN (s:ByteArray):bytesOf (bytesN s)=s:=by
 unfold bytesN bytesOf
 rw [List.map_map]
 have:(UInt8.ofNat ∘ UInt8.toNat)=id:=by funext x;simp
 rw [this,List.map_id,Array.toArray_toList]
theorem bytes_ext {s t:ByteArray} (h:bytesN s=bytesN t):s=t:=by rw [← bytesOf_bytesN s,h,bytesOf_bytesN]
theorem bytesN_ext (s:ByteArray) (f e:Nat):bytesN (s.extract f e)=((bytesN s).drop f).take (e - f):=by
 unfold bytesN
 rw [ByteArray.data_extract,Array.toList_extract,List.extract_eq_take_drop,List.map_take,List.map_drop]
theorem toList_ne {d d':ByteArray} (h:d≠d'):(d.toList==d'.toList)=false:=by
 rw [beq_eq_false_iff_ne]
 intro e
 rw [ByteArray.toList_eq,ByteArray.toList_eq] at e
 exact h (ByteArray.ext (Array.toList_inj.1 e))
theorem ext_size (s:ByteArray) (a b:Nat) (hb:b≤s.size):(s.extract a b).size=b - a:=by
 rw [ByteArray.size_extract];omega
def lettersL:List Nat:=[49,50,51,112,108,105,116,114,99,110,101,115,107]
def lettersS:ByteArray:={ data:=#[49,50,51,112,108,105,116,114,99,110,101,115,107] }
def letterN (k:Nat):Nat:=lettersL.getD k 0
theorem letters_at:∀ k:Fin 13,((lettersS[k.val]'(k.isLt)).toNat:Int)=((letterN k.val:Nat):Int):=by decide +kernel
def nameL (c:Nat):List Nat:=if c=49∨c=50∨c=51 then [104,c] else if c ∈ lettersL then [c] else []
def nameS (c:Nat):ByteArray:=bytesOf (nameL c)
theorem nameL_len (c:Nat):(nameL c).length≤2:=by unfold nameL;split<;>(try split)<;>simp
theorem nameS_size (c:Nat):(nameS c).size=(nameL c).length:=bytesOf_size _
theorem letterN_lt:∀ k:Fin 13,letterN k.val<256∧letterN k.val≠0∧nameL (letterN k.val)≠[]:=by decide +kernel
theorem letter_mem:∀ b:Fin 256,(b.val ∈ lettersL)↔∃ k:Fin 13,letterN k.val=b.val:=by decide +kernel
def NoneOf (c:Nat) (k:Nat):Prop:=∀ j,j<k→letterN j≠c
theorem NoneOf.zero (c:Nat):NoneOf c 0:=fun _ h=>absurd h (by omega)
theorem NoneOf.succ {c k:Nat} (h:NoneOf c k) (hk:letterN k≠c):NoneOf c (k+1):=fun j hj=>by
 rcases Nat.lt_or_ge j k with h1 | h1
 ·exact h j h1
 ·obtain rfl:j=k:=by omega
  exact hk
theorem NoneOf.all {c:Nat} (h:NoneOf c 13) (hc:c<256):c ∉ lettersL:=fun hm=>by
 obtain ⟨k,hk⟩:=(letter_mem ⟨c,hc⟩).1 hm
 exact h k.val k.isLt hk
set_option maxHeartbeats 400000 in
theorem rletters_any (w:World):Calls Tryz.prog 65 #[] w fun e w'=>e=.returned (.string lettersS)∧w=w':=by
 go_enter Tryz.func65,Tryz.ntmps65
 go_wp2
 go_ret
 exact ⟨rfl,rfl⟩
theorem back_one (W:World) (g:Nat) (x:Nat) (hx:x<256) (h:W.cell? ⟨g,0,none⟩=some (.int .u8 (x:Int))) :
  (convert 53 9 (.slice (some ⟨g,0,none⟩) 1 1)).run Tryz.prog W=.ok (.string (bytesOf [x])) W:=by
 exact run_convert_bytes_back (P:=Tryz.prog) W 53 9 5 ⟨g,0,none⟩ 1 [UInt8.ofNat x] Tryz.underlying53 Tryz.underlying5 Tryz.underlying9 (fun j hj=>by
  obtain rfl:j=0:=by simp at hj;omega
  have e:(⟨g,0,none⟩:Addr).add 0=⟨g,0,none⟩:=by unfold Addr.add;split<;>simp_all
  have e3:(UInt8.ofNat x).toNat=x:=by simp [Nat.mod_eq_of_lt hx]
  rw [e]
  simp only [List.getElem_cons_zero,e3,h])
set_option maxRecDepth 100000 in
set_option maxHeartbeats 2000000 in
theorem rname_any (c:Nat) (hc:c<256) (w:World) :
  Calls Tryz.prog 33 #[.int .u8 (c:Int)] w fun e w'=>e=.returned (.string (nameS c))∧Below w.heap.size w w':=by
 have hcv:=back_one (w.alloc (.cells #[.int .u8 (c:Int)] 5)) w.heap.size c hc (by simp)
 have hz:(bytesOf [c]).size≤1:=by rw [bytesOf_size];simp
 by_cases hd:c=49∨c=50∨c=51
 ·have HN:=Lib.hid (show ({ data:=#[104] }:ByteArray)++bytesOf [c]=nameS c by
   unfold nameS nameL;rw [if_pos hd]
   rcases hd with rfl | rfl | rfl<;>decide +kernel)
  have hb:Below w.heap.size w (w.alloc (.cells #[.int .u8 (c:Int)] 5)):=(Below.refl _ w).alloc (Nat.le_refl _) _
  by_cases h1:c=49
  ·have t1:((c:Int)==49)=true:=beq_iff_eq.2 (by omega)
   clear hd h1
   go_enter Tryz.func33,Tryz.ntmps33
   go_wp2
   go_ret
   exact ⟨congrArg (fun z=>Ending.returned (.string z)) HN.out,hb⟩
  have t1:((c:Int)==49)=false:=beq_eq_false_iff_ne.2 (by omega)
  by_cases h2:c=50
  ·have t2:((c:Int)==50)=true:=beq_iff_eq.2 (by omega)
   clear hd h1 h2
   go_enter Tryz.func33,Tryz.ntmps33
   go_wp2
   go_ret
   exact ⟨congrArg (fun z=>Ending.returned (.string z)) HN.out,hb⟩
  have t2:((c:Int)==50)=false:=beq_eq_false_iff_ne.2 (by omega)
  have t3:((c:Int)==51)=true:=beq_iff_eq.2 (by omega)
  clear hd h1 h2
  go_enter Tryz.func33,Tryz.ntmps33
  go_wp2
  go_ret
  exact ⟨congrArg (fun z=>Ending.returned (.string z)) HN.out,hb⟩
 ·have t1:((c:Int)==49)=false:=beq_eq_false_iff_ne.2 (by omega)
  have t2:((c:Int)==50)=false:=beq_eq_false_iff_ne.2 (by omega)
  have t3:((c:Int)==51)=false:=beq_eq_false_iff_ne.2 (by omega)
  have HD:=Lib.hid hd
  clear hd
  go_enter Tryz.func33,Tryz.ntmps33
  go_wp2
  go_loop [3] (fun i=>∃ k:Nat,k≤13∧i=.int .i64 k∧NoneOf c k) (fun i=>13 - (intOf i).toNat)
  case atStart=>exact ⟨0,by omega,rfl,NoneOf.zero c⟩
  case round =>
   obtain ⟨k,hk,rfl,hp⟩:=hrel
   by_cases hlt:k<13
   ·have hs':k<lettersS.size:=hlt
    have hm:(((lettersS[k]'hs').toNat:Nat):Int)=((letterN k:Nat):Int):=letters_at ⟨k,hlt⟩
    by_cases he:letterN k=c
    ·have HN:=Lib.hid (show bytesOf [c]=nameS c by
      unfold nameS nameL
      rw [if_neg HD.out,if_pos ((letter_mem ⟨c,hc⟩).2 ⟨⟨k,hlt⟩,he⟩)])
     have hb:((((lettersS[k]'hs').toNat:Nat):Int)==(c:Int))=true:=by rw [hm,he];simp
     have hB:Below w.heap.size w (w.alloc (.cells #[.int .u8 (c:Int)] 5)):=(Below.refl _ w).alloc (Nat.le_refl _) _
     clear hm he
     go_wp2_with (go_at_call 65;refine (rletters_any _).mono ?_;rintro e w' ⟨rfl,rfl⟩)
     go_ret
     exact ⟨congrArg (fun z=>Ending.returned (.string z)) HN.out,hB⟩
    ·have HP:=Lib.hid (hp.succ he)
     have hb:((((lettersS[k]'hs').toNat:Nat):Int)==(c:Int))=false:=by rw [hm];exact beq_eq_false_iff_ne.2 (by omega)
     clear hm he
     go_wp2_with (go_at_call 65;refine (rletters_any _).mono ?_;rintro e w' ⟨rfl,rfl⟩)
     exact ⟨⟨k+1,by omega,by go_num,HP.out⟩,by simp [intOf];omega⟩
   ·obtain rfl:k=13:=by omega
    have HN:=Lib.hid (show emptyS=nameS c by
     unfold nameS nameL
     rw [if_neg HD.out,if_neg (hp.all hc)];rfl)
    have hb0:Below w.heap.size w w:=Below.refl _ _
    clear hp
    go_wp2_with (go_at_call 65;refine (rletters_any _).mono ?_;rintro e w' ⟨rfl,rfl⟩)
    go_ret
    exact ⟨congrArg (fun z=>Ending.returned (.string z)) HN.out,hb0⟩
end Go.Proofs.YtmldpkigfhoalaaGreatDoor.Lx
namespace Go.Proofs.YtmldpkigfhoalaaGreatDoor.Lx
open Go.RowKit
def fits (s:ByteArray) (p c:Nat):Prop:=p+(nameS c).size≤s.size∧s.extract p (p+(nameS c).size)=nameS c
instance (s:ByteArray) (p c:Nat):Decidable (fits s p c):=by unfold fits;infer_instance
def openC (s:ByteArray) (p:Nat):Nat:=match (List.range 13).find? (fun k=>decide (fits s p (letterN k))) with | some k=>letterN k | none=>0
def NoFit (s:ByteArray) (p k:Nat):Prop:=∀ j,j<k→¬ fits s p (letterN j)
theorem NoFit.zero (s:ByteArray) (p:Nat):NoFit s p 0:=fun _ h=>absurd h (by omega)
theorem NoFit.succ {s:ByteArray} {p k:Nat} (h:NoFit s p k) (hk:¬ fits s p (letterN k)):NoFit s p (k+1):=fun j hj=>by
 rcases Nat.lt_or_ge j k with h1 | h1
 ·exact h j h1
 ·obtain rfl:j=k:=by omega
  exact hk
theorem openC_at {s:ByteArray} {p k:Nat} (h:NoFit s p k) (hk:k<13) (hf:fits s p (letterN k)):openC s p=letterN k:=by
 unfold openC
 have:(List.range 13).find? (fun k=>decide (fits s p (letterN k)))=some k:=by
  rw [List.find?_range_eq_some]
  exact ⟨by simpa using hf,by simpa using hk,fun j hj=>by simpa using h j hj⟩
 rw [this]
theorem openC_none {s:ByteArray} {p:Nat} (h:NoFit s p 13):openC s p=0:=by
 unfold openC
 have:(List.range 13).find? (fun k=>decide (fits s p (letterN k)))=none:=by
  rw [List.find?_eq_none]
  intro j hj
  have:=h j (List.mem_range.1 hj)
  simpa using this
 rw [this]
theorem ret_is {k:IntKind} {a b:Int} {x y:ByteArray} (h:a=b) (h':x=y):Ending.returned (.tuple #[.int k a,.string x])=.returned (.tuple #[.int k b,.string y]):=by rw [h,h']
theorem rname_at (c:Nat) (hc:c<256) (v:ByteArray) (hv:nameS c=v) (z:Int) (hz:z=(c:Int)) (w:World) :
  Calls Tryz.prog 33 #[.int .u8 z] w fun e w'=>e=.returned (.string v)∧Below w.heap.size w w':=by
 subst hz;subst hv;exact rname_any c hc w
set_option maxHeartbeats 2000000 in
theorem ropens_any (s:ByteArray) (hs:s.size≤70000) (p:Nat) (hp:p≤s.size) (w:World) :
  Calls Tryz.prog 83 #[.string s,.int .i64 (p:Int)] w fun e w'=>e=.returned (.tuple #[.int .u8 ((openC s (p+1):Nat):Int),.string (nameS (openC s (p+1)))])∧Below w.heap.size w w':=by
 go_enter Tryz.func83,Tryz.ntmps83
 go_wp2
 go_loopw [6] (fun i wr=>∃ k:Nat,k≤13∧i=.int .i64 k∧NoFit s (p+1) k∧Below w.heap.size w wr) (fun i _=>13 - (intOf i).toNat)
 case atStart=>exact ⟨0,by omega,rfl,NoFit.zero s _,Below.refl _ _⟩
 case round =>
  obtain ⟨k,hk,rfl,hn,hB⟩:=hrel
  by_cases hlt:k<13
  ·have hs':k<lettersS.size:=hlt
   have hm:(((lettersS[k]'hs').toNat:Nat):Int)=((letterN k:Nat):Int):=letters_at ⟨k,hlt⟩
   have hc:=(letterN_lt ⟨k,hlt⟩).1
   simp only [] at hc
   have HM:=Lib.hid hm;clear hm
   obtain ⟨n,hnm⟩:∃ n,nameS (letterN k)=n:=⟨_,rfl⟩
   have HN:=Lib.hid hnm
   have hn2:n.size≤2:=by rw [← hnm,nameS_size];exact nameL_len _
   by_cases hf:fits s (p+1) (letterN k)
   ·have HO:=Lib.hid (openC_at hn hlt hf)
    obtain ⟨hf1,hf2⟩:=hf
    rw [hnm] at hf1 hf2
    have HF:=Lib.hid hf2
    have hb:((s.extract (p+1) (p+1+n.size)).toList==n.toList)=true:=by rw [hf2];simp
    clear hf2 hnm
    go_wp2_with (first
     |(go_at_call 65;refine (rletters_any _).mono ?_;rintro e w' ⟨rfl,rfl⟩)
     |(go_at_call 33;refine (rname_at (letterN k) hc n HN.out _ HM.out _).mono ?_;rintro e w2 ⟨rfl,hb2⟩))
    go_ret2
    exact ⟨ret_is (by rw [HM.out,HO.out]) (by rw [HO.out,HN.out]),chain hB hB.size hb2⟩
   ·have HP:=Lib.hid (hn.succ hf)
    by_cases hlen:p+1+n.size≤s.size
    ·have hne:s.extract (p+1) (p+1+n.size)≠n:=fun e=>hf ⟨by rw [hnm];exact hlen,by rw [hnm];exact e⟩
     have hb:=toList_ne hne
     clear hf hne hnm
     go_wp2_with (first
      |(go_at_call 65;refine (rletters_any _).mono ?_;rintro e w' ⟨rfl,rfl⟩)
      |(go_at_call 33;refine (rname_at (letterN k) hc n HN.out _ HM.out _).mono ?_;rintro e w2 ⟨rfl,hb2⟩))
     exact ⟨⟨k+1,by omega,by go_num,HP.out,chain hB hB.size hb2⟩,by simp [intOf];omega⟩
    ·have hd:decide ((p:Int)+1+(n.size:Int)≤(s.size:Int))=false:=decide_eq_false (by omega)
     clear hf hnm
     go_wp2_with (first
      |(go_at_call 65;refine (rletters_any _).mono ?_;rintro e w' ⟨rfl,rfl⟩)
      |(go_at_call 33;refine (rname_at (letterN k) hc n HN.out _ HM.out _).mono ?_;rintro e w2 ⟨rfl,hb2⟩))
     exact ⟨⟨k+1,by omega,by go_num,HP.out,chain hB hB.size hb2⟩,by simp [intOf];omega⟩
  ·obtain rfl:k=13:=by omega
   have HO:=Lib.hid (openC_none hn)
   have HE:=Lib.hid (show emptyS=nameS 0 by decide +kernel)
   clear hn
   go_wp2_with (go_at_call 65;refine (rletters_any _).mono ?_;rintro e w' ⟨rfl,rfl⟩)
   go_ret2
   exact ⟨ret_is (by rw [HO.out];rfl) (by rw [HO.out];exact HE.out),hB⟩
end Go.Proofs.YtmldpkigfhoalaaGreatDoor.Lx
namespace Go.Proofs.YtmldpkigfhoalaaGreatDoor.Lx
open Go.RowKit
structure Lx where
 kind:Nat
 name:Nat
 text:ByteArray
 place:Nat
def white (b:Nat):Bool:=Ka.whiteB (b:Int)
def okT (b:Nat):Bool:=Ka.isB (b:Int) || Ka.whiteB (b:Int)
theorem okT_not:okT 123=false∧okT 125=false:=by decide +kernel
def tnd (s:ByteArray):Nat→Nat→Nat
 | 0,e=>e
 | n+1,e=>if e<s.size∧okT (bAt s e)=true then tnd s n (e+1) else e
def tend (s:ByteArray) (f:Nat):Nat:=tnd s s.size f
def IsTend (s:ByteArray) (f e:Nat):Prop:=f≤e∧e≤s.size∧(∀ j,f≤j→j<e→okT (bAt s j)=true)∧(e<s.size→okT (bAt s e)=false)
theorem tnd_is (s:ByteArray) (f:Nat):∀ n e,s.size - e≤n→f≤e→e≤s.size→(∀ j,f≤j→j<e→okT (bAt s j)=true)→IsTend s f (tnd s n e)
 | 0,e,hn,hf,he,hj=>⟨hf,he,hj,fun h=>by have:tnd s 0 e=e:=rfl;omega⟩
 | n+1,e,hn,hf,he,hj=>by
  unfold tnd
  by_cases h:e<s.size∧okT (bAt s e)=true
  ·rw [if_pos h]
   refine tnd_is s f n (e+1) (by omega) (by omega) (by omega) (fun j h1 h2=>?_)
   rcases Nat.lt_or_ge j e with h3 | h3
   ·exact hj j h1 h3
   ·obtain rfl:j=e:=by omega
    exact h.2
  ·rw [if_neg h]
   exact ⟨hf,he,hj,fun h3=>by
    cases h4:okT (bAt s e) with
    | false=>rfl
    | true=>exact absurd ⟨h3,h4⟩ h⟩
theorem tend_is (s:ByteArray) (f:Nat) (h:f≤s.size):IsTend s f (tend s f):=tnd_is s f s.size f (by omega) (Nat.le_refl _) h (fun j h1 h2=>by omega)
theorem IsTend.unique {s:ByteArray} {f e e':Nat} (h:IsTend s f e) (h':IsTend s f e'):e=e':=by
 obtain ⟨a1,a2,a3,a4⟩:=h
 obtain ⟨b1,b2,b3,b4⟩:=h'
 rcases Nat.lt_trichotomy e e' with h | h | h
 ·have:=b3 e (by omega) h
  rw [a4 (by omega)] at this;cases this
 ·exact h
 ·have:=a3 e' (by omega) h
  rw [b4 (by omega)] at this;cases this
def skip (s:ByteArray) (q:Nat):Nat:=if q<s.size∧white (bAt s q)=true then q+1 else q
def stepF (s:ByteArray) (p:Nat):(Lx × Nat) ⊕ Nat :=
 if bAt s p=125 then .inl (⟨3,0,emptyS,p⟩,p+1)
 else if bAt s p=123 then
  if openC s (p+1)=0 then .inr 2 else .inl (⟨2,openC s (p+1),emptyS,p⟩,skip s (p+1+(nameS (openC s (p+1))).size))
 else if okT (bAt s p)=true then .inl (⟨1,0,s.extract p (tend s p),p⟩,tend s p)
 else .inr 3
theorem skip_ge (s:ByteArray) (q:Nat):q≤skip s q:=by unfold skip;split<;>omega
theorem stepF_lt {s:ByteArray} {p q:Nat} {x:Lx} (hp:p<s.size) (h:stepF s p=.inl (x,q)):p<q:=by
 unfold stepF at h
 split at h
 ·simp only [Sum.inl.injEq,Prod.mk.injEq] at h;omega
 ·split at h
  ·split at h
   ·cases h
   ·simp only [Sum.inl.injEq,Prod.mk.injEq] at h
    have:=skip_ge s (p+1+(nameS (openC s (p+1))).size)
    omega
  ·split at h
   ·rename_i h3
    simp only [Sum.inl.injEq,Prod.mk.injEq] at h
    obtain ⟨t1,t2,t3,t4⟩:=tend_is s p (by omega)
    rcases Nat.eq_or_lt_of_le t1 with h5 | h5
    ·have:=t4 (by omega)
     rw [← h5,h3] at this;cases this
    ·omega
   ·cases h
def lexF (s:ByteArray):Nat→Nat→List Lx × Option (Nat × Nat)
 | 0,_=>([],none)
 | n+1,p=>if p<s.size then (match stepF s p with
   | .inr e=>([],some (p,e))
   | .inl (x,q)=>(x::(lexF s n q).1,(lexF s n q).2)) else ([],none)
def lexA (s:ByteArray) (p:Nat):List Lx × Option (Nat × Nat):=lexF s s.size p
theorem lexF_more (s:ByteArray):∀ n m p,s.size - p≤n→s.size - p≤m→lexF s n p=lexF s m p
 | 0,0,_,_,_=>rfl
 | 0,m+1,p,hn,hm=>by unfold lexF;rw [if_neg (by omega)]
 | n+1,0,p,hn,hm=>by unfold lexF;rw [if_neg (by omega)]
 | n+1,m+1,p,hn,hm=>by
  unfold lexF
  by_cases h:p<s.size
  ·rw [if_pos h,if_pos h]
   cases hs:stepF s p with
   | inr e=>rfl
   | inl xq =>
    obtain ⟨x,q⟩:=xq
    have:=stepF_lt h hs
    simp only []
    rw [lexF_more s n m q (by omega) (by omega)]
  ·rw [if_neg h,if_neg h]
theorem lexA_end (s:ByteArray) (p:Nat) (h:s.size≤p):lexA s p=([],none):=by
 unfold lexA
 cases s.size with
 | zero=>rfl
 | succ n=>unfold lexF;rw [if_neg (by omega)]
theorem lexA_step (s:ByteArray) (p:Nat) (h:p<s.size):lexA s p=(match stepF s p with | .inr e=>([],some (p,e)) | .inl (x,q)=>(x::(lexA s q).1,(lexA s q).2)):=by
 unfold lexA
 obtain ⟨n,hn⟩:∃ n,s.size=n+1:=⟨s.size - 1,by omega⟩
 conv=>lhs;rw [hn];unfold lexF
 rw [if_pos h]
 cases hs:stepF s p with
 | inr e=>rfl
 | inl xq =>
  obtain ⟨x,q⟩:=xq
  have:=stepF_lt h hs
  simp only []
  rw [lexF_more s n s.size q (by omega) (by omega)]
def Reach (s:ByteArray) (p:Nat) (pre:List Lx):Prop:=p≤s.size∧lexA s 0=(pre++(lexA s p).1,(lexA s p).2)
theorem Reach.zero (s:ByteArray):Reach s 0 []:=⟨Nat.zero_le _,rfl⟩
theorem Reach.step {s:ByteArray} {p q:Nat} {pre:List Lx} {x:Lx} (h:Reach s p pre) (hp:p<s.size) (hs:stepF s p=.inl (x,q)) (hq:q≤s.size):Reach s q (pre++[x]):=by
 obtain ⟨_,h⟩:=h
 refine ⟨hq,?_⟩
 rw [lexA_step s p hp,hs] at h
 simp only [] at h
 rw [h];simp
theorem Reach.bad {s:ByteArray} {p e:Nat} {pre:List Lx} (h:Reach s p pre) (hp:p<s.size) (hs:stepF s p=.inr e):(lexA s 0).2=some (p,e):=by
 obtain ⟨_,h⟩:=h
 rw [lexA_step s p hp,hs] at h
 simp only [] at h
 rw [h]
theorem Reach.all {s:ByteArray} {pre:List Lx} (h:Reach s s.size pre):lexA s 0=(pre,none):=by
 obtain ⟨_,h⟩:=h
 rw [lexA_end s s.size (Nat.le_refl _)] at h
 simpa using h
def lexV (s:ByteArray):List Lx:=if 8192<s.size then [] else match (lexA s 0).2 with | none=>(lexA s 0).1 | some _=>[]
def lexAt (s:ByteArray):Nat:=if 8192<s.size then 0 else match (lexA s 0).2 with | none=>0 | some x=>x.1
def lexE (s:ByteArray):Nat:=if 8192<s.size then 4 else match (lexA s 0).2 with | none=>0 | some x=>x.2
theorem lex_long {s:ByteArray} (h:8192<s.size):lexV s=[]∧lexAt s=0∧lexE s=4:=by
 unfold lexV lexAt lexE;rw [if_pos h,if_pos h,if_pos h];exact ⟨rfl,rfl,rfl⟩
theorem lex_bad {s:ByteArray} {p e:Nat} (hs:¬ 8192<s.size) (h:(lexA s 0).2=some (p,e)):lexV s=[]∧lexAt s=p∧lexE s=e:=by
 unfold lexV lexAt lexE;rw [if_neg hs,if_neg hs,if_neg hs,h];exact ⟨rfl,rfl,rfl⟩
theorem lex_ok {s:ByteArray} {l:List Lx} (hs:¬ 8192<s.size) (h:lexA s 0=(l,none)):lexV s=l∧lexAt s=0∧lexE s=0:=by
 unfold lexV lexAt lexE;rw [if_neg hs,if_neg hs,if_neg hs,h];exact ⟨rfl,rfl,rfl⟩
theorem openC_fits {s:ByteArray} {p:Nat} (h:openC s p≠0):fits s p (openC s p):=by
 unfold openC at h ⊢
 cases hf:(List.range 13).find? (fun k=>decide (fits s p (letterN k))) with
 | none=>rw [hf] at h;exact absurd rfl h
 | some k =>
  have:=List.find?_some hf
  simpa using this
theorem openC_lt (s:ByteArray) (p:Nat):openC s p<256:=by
 unfold openC
 cases hf:(List.range 13).find? (fun k=>decide (fits s p (letterN k))) with
 | none=>simp
 | some k =>
  have hk:=List.mem_of_find?_eq_some hf
  exact (letterN_lt ⟨k,List.mem_range.1 hk⟩).1
def Stands (s:ByteArray) (k t:Nat) (out:List Lx):Prop :=
 (t=0∧Reach s k out)∨(t=1∧∃ p pre,out=pre++[⟨1,0,s.extract p k,p⟩]∧p<k∧k≤s.size∧Reach s p pre∧∀ j,p≤j→j<k→okT (bAt s j)=true)
theorem Stands.le {s:ByteArray} {k t:Nat} {out:List Lx} (h:Stands s k t out):k≤s.size:=by
 rcases h with ⟨_,h⟩ | ⟨_,p,pre,_,_,h,_⟩
 ·exact h.1
 ·exact h
theorem step_text {s:ByteArray} {p:Nat} (h:okT (bAt s p)=true):stepF s p=.inl (⟨1,0,s.extract p (tend s p),p⟩,tend s p):=by
 unfold stepF
 have h1:bAt s p≠125:=fun e=>by rw [e,okT_not.2] at h;cases h
 have h2:bAt s p≠123:=fun e=>by rw [e,okT_not.1] at h;cases h
 rw [if_neg h1,if_neg h2,if_pos h]
theorem Stands.settle {s:ByteArray} {k t:Nat} {out:List Lx} (h:Stands s k t out) (hk:k<s.size→okT (bAt s k)=false):Reach s k out:=by
 rcases h with ⟨_,h⟩ | ⟨_,p,pre,rfl,hp,hks,hR,hj⟩
 ·exact h
 ·have he:tend s p=k:=(tend_is s p (by omega)).unique ⟨by omega,hks,hj,hk⟩
  have hs:=step_text (s:=s) (hj p (Nat.le_refl _) hp)
  rw [he] at hs
  exact hR.step (by omega) hs hks
theorem Stands.first {s:ByteArray} {k:Nat} {out:List Lx} (h:Stands s k 0 out) (hk:k<s.size) (hb:okT (bAt s k)=true):Stands s (k+1) 1 (out++[⟨1,0,s.extract k (k+1),k⟩]):=by
 rcases h with ⟨_,h⟩ | ⟨h,_⟩
 ·refine .inr ⟨rfl,k,out,rfl,by omega,by omega,h,fun j h1 h2=>?_⟩
  obtain rfl:j=k:=by omega
  exact hb
 ·cases h
theorem Stands.more {s:ByteArray} {k:Nat} {p:Nat} {pre:List Lx} (h:Stands s k 1 (pre++[⟨1,0,s.extract p k,p⟩])) (hk:k<s.size) (hb:okT (bAt s k)=true):Stands s (k+1) 1 (pre++[⟨1,0,s.extract p (k+1),p⟩]):=by
 rcases h with ⟨h,_⟩ | ⟨_,p',pre',he,hp,hks,hR,hj⟩
 ·cases h
 ·obtain ⟨rfl,h6⟩:=List.append_inj' he rfl
  simp only [List.cons.injEq,Lx.mk.injEq,and_true,true_and] at h6
  obtain ⟨_,rfl⟩:=h6
  refine .inr ⟨rfl,p,pre,rfl,by omega,by omega,hR,fun j h1 h2=>?_⟩
  rcases Nat.lt_or_ge j k with h3 | h3
  ·exact hj j h1 h3
  ·obtain rfl:j=k:=by omega
   exact hb
theorem Stands.text {s:ByteArray} {k:Nat} {out:List Lx} (h:Stands s k 1 out):∃ p pre,out=pre++[⟨1,0,s.extract p k,p⟩]∧p<k∧k≤s.size:=by
 rcases h with ⟨h,_⟩ | ⟨_,p,pre,he,hp,hks,_⟩
 ·cases h
 ·exact ⟨p,pre,he,hp,hks⟩
theorem Stands.cases {s:ByteArray} {k t:Nat} {out:List Lx} (h:Stands s k t out):t=0∨t=1:=by
 rcases h with ⟨h,_⟩ | ⟨h,_⟩<;>omega
theorem step_close {s:ByteArray} {p:Nat} (h:bAt s p=125):stepF s p=.inl (⟨3,0,emptyS,p⟩,p+1):=by unfold stepF;rw [if_pos h]
theorem step_open {s:ByteArray} {p:Nat} (h:bAt s p=123) (hc:openC s (p+1)≠0):stepF s p=.inl (⟨2,openC s (p+1),emptyS,p⟩,skip s (p+1+(nameS (openC s (p+1))).size)):=by
 unfold stepF;rw [if_neg (by omega),if_pos h,if_neg hc]
theorem step_none {s:ByteArray} {p:Nat} (h:bAt s p=123) (hc:openC s (p+1)=0):stepF s p=.inr 2:=by
 unfold stepF;rw [if_neg (by omega),if_pos h,if_pos hc]
theorem step_bad {s:ByteArray} {p:Nat} (h1:bAt s p≠125) (h2:bAt s p≠123) (h:okT (bAt s p)=false):stepF s p=.inr 3:=by
 unfold stepF;rw [if_neg h1,if_neg h2,if_neg (by rw [h];simp)]
theorem skip_le {s:ByteArray} {p:Nat} (hc:openC s (p+1)≠0):skip s (p+1+(nameS (openC s (p+1))).size)≤s.size:=by
 have:=(openC_fits hc).1
 unfold skip;split<;>omega
end Go.Proofs.YtmldpkigfhoalaaGreatDoor.Lx
namespace Go.Proofs.YtmldpkigfhoalaaGreatDoor.Lx
open Go.RowKit
theorem infoLex:(Tryz.prog.info? 62).map (fun i=>(i.zero,i.size,i.bytes))=some (some (.agg #[.int .i64 0,.int .u8 0,.string { data:=#[] },.int .i64 0]),4,40):=by kernel_rfl
def cellsX (x:Lx):List Value:=[.int .i64 ((x.kind:Nat):Int),.int .u8 ((x.name:Nat):Int),.string x.text,.int .i64 ((x.place:Nat):Int)]
def cellsLx (l:List Lx):List Value:=l.flatMap cellsX
theorem cellsLx_snoc (l:List Lx) (x:Lx):cellsLx (l++[x])=cellsLx l++cellsX x:=by simp [cellsLx]
theorem cellsLx_length:∀ l:List Lx,(cellsLx l).length=l.length * 4
 | []=>rfl
 | x::l=>by
  have ih:=cellsLx_length l
  have e:cellsLx (x::l)=cellsX x++cellsLx l:=by simp [cellsLx]
  rw [e,List.length_append,ih];simp [cellsX];omega
theorem cellsLx_at:∀ (l:List Lx) (k:Nat) (x:Lx),l[k]?=some x→∀ j,j<4→(cellsLx l)[k * 4+j]?=(cellsX x)[j]?
 | [],k,x,h=>by simp at h
 | y::l,0,x,h=>fun j hj=>by
  simp at h;subst h
  have e:cellsLx (y::l)=cellsX y++cellsLx l:=by simp [cellsLx]
  rw [e,Nat.zero_mul,Nat.zero_add,List.getElem?_append_left (by simp [cellsX];omega)]
 | y::l,k+1,x,h=>fun j hj=>by
  have e:cellsLx (y::l)=cellsX y++cellsLx l:=by simp [cellsLx]
  have hl:(cellsX y).length=4:=rfl
  rw [e,List.getElem?_append_right (by rw [hl];omega),hl,show (k+1) * 4+j - 4=k * 4+j from by omega]
  exact cellsLx_at l k x (by simpa using h) j hj
theorem cell_four_new (w:World) (x y z v:Value) (t:TypeId):∀ j u,[x,y,z,v][j]?=some u→(w.alloc (.cells #[x,y,z,v] t)).cell? ((⟨w.heap.size,0,none⟩:Addr).add j)=some u:=by
 intro j u h
 have e:(⟨w.heap.size,0,none⟩:Addr).add j=⟨w.heap.size,j,none⟩:=by unfold Addr.add;split<;>simp_all
 rw [e]
 match j,h with
 | 0,h=>simp at h;subst h;simp
 | 1,h=>simp at h;subst h;simp
 | 2,h=>simp at h;subst h;simp
 | 3,h=>simp at h;subst h;simp
 | n+4,h=>simp at h
def Holds (w:World) (B:Nat) (v:Value) (xs:List Lx):Prop :=
 ∃ A c,v=.slice A xs.length c∧(0<xs.length→∃ g,A=some ⟨g,0,none⟩∧g<B∧∀ k x,xs[k]?=some x→w.cell? ⟨g,k * 4,none⟩=some (.int .i64 ((x.kind:Nat):Int))∧w.cell? ⟨g,k * 4+1,none⟩=some (.int .u8 ((x.name:Nat):Int))∧w.cell? ⟨g,k * 4+2,none⟩=some (.string x.text)∧w.cell? ⟨g,k * 4+3,none⟩=some (.int .i64 ((x.place:Nat):Int)))
theorem Holds.below {w w':World} {B:Nat} {v:Value} {xs:List Lx} (h:Holds w B v xs) (hb:Below B w w'):Holds w' B v xs:=by
 obtain ⟨A,c,rfl,hA⟩:=h
 refine ⟨A,c,rfl,fun h0=>?_⟩
 obtain ⟨g,rfl,hg,hk⟩:=hA h0
 refine ⟨g,rfl,hg,fun k x hx=>?_⟩
 obtain ⟨a1,a2,a3,a4⟩:=hk k x hx
 exact ⟨(hb.cell (p:=⟨g,k * 4,none⟩) hg).trans a1,(hb.cell (p:=⟨g,k * 4+1,none⟩) hg).trans a2,(hb.cell (p:=⟨g,k * 4+2,none⟩) hg).trans a3,(hb.cell (p:=⟨g,k * 4+3,none⟩) hg).trans a4⟩
theorem Holds.of_own {w:World} {base n:Nat} {v:Value} {l:List Lx} (hn:l.length=n) (h:w.ownsRow base 62 4 v n (cellsLx l)):Holds w w.heap.size v l:=by
 subst hn
 rcases h.2 with ⟨rfl,h0⟩ | ⟨g,cap,cur,rfl,_,hg,_⟩
 ·exact ⟨none,0,by rw [h0],fun h=>by omega⟩
 ·refine ⟨some ⟨g,0,none⟩,cap,rfl,fun h0=>⟨g,rfl,(Array.getElem?_eq_some_iff.1 hg).1,fun k x hx=>?_⟩⟩
  have hk:k<l.length:=(List.getElem?_eq_some_iff.1 hx).1
  have hc:=cellsLx_at l k x hx
  have c0:=hc 0 (by omega)
  rw [Nat.add_zero] at c0
  exact ⟨(h.cellAt (k * 4) (by omega)).trans c0,(h.cellAt (k * 4+1) (by omega)).trans (hc 1 (by omega)),(h.cellAt (k * 4+2) (by omega)).trans (hc 2 (by omega)),(h.cellAt (k * 4+3) (by omega)).trans (hc 3 (by omega))⟩
end Go.Proofs.YtmldpkigfhoalaaGreatDoor.Lx
namespace Go.Proofs.YtmldpkigfhoalaaGreatDoor.Lx
open Go.RowKit
theorem own_below {W W':World} {B e size n:Nat} {v:Value} {xs:List Value} (h:W.ownsRow B e size v n xs) (hb:Below W.heap.size W W'):W'.ownsRow B e size v n xs:=by
 refine ⟨h.1,?_⟩
 rcases h.2 with hn | ⟨g,cap,cur,hv,hbg,hg,rest⟩
 ·exact .inl hn
 ·exact .inr ⟨g,cap,cur,hv,hbg,(hb.block g (Array.getElem?_eq_some_iff.1 hg).1).trans hg,rest⟩
theorem cellsLx_set (pre:List Lx) (x:Lx) (t:ByteArray):(cellsLx (pre++[x])).set (pre.length * 4+2) (.string t)=cellsLx (pre++[{ x with text:=t }]):=by
 rw [cellsLx_snoc,cellsLx_snoc,List.set_append,if_neg (by rw [cellsLx_length];omega),cellsLx_length]
 simp [cellsX]
theorem cellsLx_text (pre:List Lx) (x:Lx):(cellsLx (pre++[x]))[pre.length * 4+2]?=some (.string x.text):=by
 have:=cellsLx_at (pre++[x]) pre.length x (by simp) 2 (by omega)
 rw [this];rfl
theorem own_succ {W:World} {base:Nat} {e:TypeId} {size:Nat} {v:Value} {k:Nat} {xs:List Value} (h:W.ownsRow base e size v (k+1) xs):∃ g cap,v=.slice (some ⟨g,0,none⟩) (k+1) cap:=by
 rcases h.2 with ⟨_,h0⟩ | ⟨g,cap,_,rfl,_⟩
 ·omega
 ·exact ⟨g,cap,rfl⟩
theorem new_text {w1:World} {base g cap m:Nat} {out:List Lx} {z:Int} (hm:out.length=m) (h:w1.ownsRow base 62 4 (.slice (some ⟨g,0,none⟩) (m+1) cap) (m+1) (cellsLx out++[.int .i64 1,.int .u8 0,.string { data:=#[] },.int .i64 z])) :
  w1.cell? ⟨g,m * 4+2,none⟩=some (.string { data:=#[] }):=by
 rw [h.cellAt (m * 4+2) (by omega),List.getElem?_append_right (by rw [cellsLx_length,hm];omega),cellsLx_length,hm,show m * 4+2 - m * 4=2 from by omega]
 rfl
theorem ext_cat (s:ByteArray) (f e e':Nat) (h:f≤e) (h':e≤e'):s.extract f e++s.extract e e'=s.extract f e':=by
 rw [ByteArray.extract_append_extract]
 simp [Nat.min_eq_left,Nat.max_eq_right,h,h']
theorem ropens_at (s:ByteArray) (hs:s.size≤70000) (p:Nat) (hp:p≤s.size) (c:Nat) (n:ByteArray) (hc:openC s (p+1)=c) (hn:nameS c=n) (w:World) :
  Calls Tryz.prog 83 #[.string s,.int .i64 (p:Int)] w fun e w'=>e=.returned (.tuple #[.int .u8 ((c:Nat):Int),.string n])∧Below w.heap.size w w':=by
 subst hc;subst hn;exact ropens_any s hs p hp w
def Gives (s:ByteArray) (e:Ending) (w':World) (B:Nat):Prop :=
 ∃ v,e=.returned (.tuple #[v,.int .i64 ((lexAt s:Nat):Int),.int .i64 ((lexE s:Nat):Int)])∧w'.ownsRow B 62 4 v (lexV s).length (cellsLx (lexV s))
theorem Gives.nil {s:ByteArray} {w':World} {B:Nat} {p e:Nat} (h:lexV s=[]∧lexAt s=p∧lexE s=e):Gives s (.returned (.tuple #[.slice none 0 0,.int .i64 ((p:Nat):Int),.int .i64 ((e:Nat):Int)])) w' B:=by
 obtain ⟨h1,h2,h3⟩:=h
 refine ⟨.slice none 0 0,by rw [h2,h3],?_⟩
 rw [h1];exact World.ownsRow_nil _ _ _ _
set_option maxRecDepth 100000 in
set_option maxHeartbeats 8000000 in
theorem rof_any (s:ByteArray) (hm:s.size≤maxLen) (w:World) :
  Calls Tryz.prog 47 #[.string s] w fun e w'=>Gives s e w' w.heap.size∧Below w.heap.size w w':=by
 unfold maxLen at hm
 by_cases hlong:8192<s.size
 ·have HG:=Lib.hid (Gives.nil (w':=w) (B:=w.heap.size) (lex_long hlong))
  go_enter Tryz.func47,Tryz.ntmps47
  go_wp2
  go_ret3
  exact ⟨HG.out,Below.refl _ _⟩
 have hs:s.size≤8192:=by omega
 have HLN:=Lib.hid hlong
 clear hlong
 obtain ⟨i0,hi,hz0,hz1,hz2⟩:=info_parts infoLex
 go_enter Tryz.func47,Tryz.ntmps47
 go_wp2
 go_loopw [5,6,7] (fun v u i wr=>∃ (k t m:Nat) (out:List Lx),i=.int .i64 k∧u=.int .i64 t∧Stands s k t out∧out.length=m∧m≤k∧wr.ownsRow w.heap.size 62 4 v m (cellsLx out)∧Below w.heap.size w wr) (fun _ _ i _=>s.size - (intOf i).toNat)
 case atStart=>exact ⟨0,0,0,[],rfl,rfl,.inl ⟨rfl,Reach.zero s⟩,rfl,by omega,World.ownsRow_nil _ _ _ _,Below.refl _ _⟩
 case round =>
  obtain ⟨k,t,m,out,rfl,rfl,hS,hml,hmk,hown,hB⟩:=hrel
  have hks:=hS.le
  have hsz:=hB.size
  have HML:=Lib.hid hml;clear hml
  by_cases hlt:k<s.size
  ·have E1:=bAt_get s k hlt
   have h256:=bAt_lt s k
   obtain ⟨b,hb⟩:∃ b,bAt s k=b:=⟨_,rfl⟩
   by_cases b1:b=125
   ·have hR:=hS.settle (fun _=>by rw [hb,b1];exact okT_not.2)
    have HS:=Lib.hid (show Stands s (k+1) 0 (out++[⟨3,0,emptyS,k⟩]) from .inl ⟨rfl,hR.step hlt (step_close (by rw [hb,b1])) (by omega)⟩)
    have t1:((b:Int)==125)=true:=beq_iff_eq.2 (by omega)
    rw [hb] at E1
    clear hR hS hb b1
    go_wp2_with (at_builtin;refine wpList_append_own _ rfl _ _ 67 rfl w.heap.size 62 i0 _ 4 40 Tryz.underlying67 hi hz0 hz1 hz2 rfl (by decide) _ _ _ rfl (hown.alloc _) ⟨wr.heap.size,0,none⟩ 1 1 [.int .i64 3,.int .u8 0,.string { data:=#[] },.int .i64 (k:Int)] rfl rfl (cell_four_new _ _ _ _ _ _) (by simp [Value.oneCell']) (by unfold maxLen;omega) (by omega) (by simp;omega) ?_;intro v' w1 hown' hgrow _)
    have hB2:Below w.heap.size w w1:=(hB.alloc (by omega) _).grown hgrow (by simp;omega) (fun j ej=>((hown.lt) j ej).1)
    exact ⟨⟨k+1,0,m+1,_,by go_num,rfl,HS.out,by rw [List.length_append,HML.out];rfl,by omega,by rw [cellsLx_snoc];exact hown',hB2⟩,by simp [intOf];omega⟩
   ·have t1:((b:Int)==125)=false:=beq_eq_false_iff_ne.2 (by omega)
    by_cases b2:b=123
    ·have hR:=hS.settle (fun _=>by rw [hb,b2];exact okT_not.1)
     have t2:((b:Int)==123)=true:=beq_iff_eq.2 (by omega)
     obtain ⟨c,hc⟩:∃ c,openC s (k+1)=c:=⟨_,rfl⟩
     obtain ⟨n,hn⟩:∃ n,nameS c=n:=⟨_,rfl⟩
     have HC:=Lib.hid hc
     have HN:=Lib.hid hn
     by_cases c0:c=0
     ·have HX:=Lib.hid (lex_bad HLN.out (hR.bad hlt (step_none (by rw [hb,b2]) (by rw [hc,c0]))))
      rw [hb] at E1
      subst c0
      clear hR hS hb b2 b1 hc hn
      go_wp2_with (go_at_call 83;refine (ropens_at s (by omega) k hks 0 n HC.out HN.out _).mono ?_;rintro e w2 ⟨rfl,hb2⟩)
      go_ret3
      exact ⟨Gives.nil HX.out,chain hB hB.size hb2⟩
     ·have hfit:=openC_fits (s:=s) (p:=k+1) (by rw [hc];exact c0)
      rw [hc] at hfit
      have hq0:k+1+n.size≤s.size:=by rw [← hn];exact hfit.1
      have hstep:=step_open (s:=s) (p:=k) (by rw [hb,b2]) (by rw [hc];exact c0)
      have hskl:=skip_le (s:=s) (p:=k) (by rw [hc];exact c0)
      rw [hc,hn] at hstep hskl
      have HS:=Lib.hid (show Stands s (skip s (k+1+n.size)) 0 (out++[⟨2,c,emptyS,k⟩]) from .inl ⟨rfl,hR.step hlt hstep hskl⟩)
      have t3:((c:Int)==0)=false:=beq_eq_false_iff_ne.2 (by omega)
      have hc256:c<256:=by rw [← hc];exact openC_lt s _
      rw [hb] at E1
      clear hR hS hb b2 b1 hc hn hfit hstep hskl c0
      by_cases hq:k+1+n.size<s.size
      ·have hqz:k+n.size+1<s.size:=by omega
       have E2:=bAt_get s (k+n.size+1) hqz
       have h2:=bAt_lt s (k+n.size+1)
       have j0:(0:Int)≤(k:Int)+(n.size:Int)+1:=by omega
       have j1:(k:Int)+(n.size:Int)+1<(s.size:Int):=by omega
       have j2:((k:Int)+(n.size:Int)+1).toNat=k+n.size+1:=by omega
       obtain ⟨d,hd⟩:∃ d,bAt s (k+n.size+1)=d:=⟨_,rfl⟩
       rw [hd] at E2 h2
       by_cases hw:Ka.whiteB (d:Int)=true
       ·have HK:=Lib.hid (show skip s (k+1+n.size)=k+n.size+1+1 by
         unfold skip white
         rw [show k+1+n.size=k+n.size+1 from by omega,hd,if_pos ⟨hqz,hw⟩])
        have HW:=Lib.hid hw
        clear hd hw
        go_wp2_with (first
         |(go_at_call 83;refine (ropens_at s (by omega) k hks c n HC.out HN.out _).mono ?_;rintro e w2 ⟨rfl,hb2⟩;have hown2:=own_below hown hb2;have hsz2:=hb2.size)
         |(go_at_call 35;refine (Ka.rwhite_at d true h2 HW.out _).mono ?_;rintro e w' ⟨rfl,rfl⟩)
         |(at_builtin;refine wpList_append_own _ rfl _ _ 67 rfl w.heap.size 62 i0 _ 4 40 Tryz.underlying67 hi hz0 hz1 hz2 rfl (by decide) _ _ _ rfl (hown2.alloc _) ⟨w2.heap.size,0,none⟩ 1 1 [.int .i64 2,.int .u8 (c:Int),.string { data:=#[] },.int .i64 (k:Int)] rfl rfl (cell_four_new _ _ _ _ _ _) (by simp [Value.oneCell']) (by unfold maxLen;omega) (by omega) (by simp;omega) ?_;intro v' w1 hown' hgrow _))
        have hB2:Below w.heap.size w w1:=((chain hB hB.size hb2).alloc (by omega) _).grown hgrow (by simp;omega) (fun j ej=>((hown2.lt) j ej).1)
        exact ⟨⟨k+n.size+1+1,0,m+1,_,by go_num,rfl,by rw [← HK.out];exact HS.out,by rw [List.length_append,HML.out];rfl,by omega,by rw [cellsLx_snoc];exact hown',hB2⟩,by simp [intOf];omega⟩
       ·have hw':Ka.whiteB (d:Int)=false:=by simpa using hw
        have HK:=Lib.hid (show skip s (k+1+n.size)=k+n.size+1 by
         unfold skip white
         rw [show k+1+n.size=k+n.size+1 from by omega,hd,if_neg (fun h=>hw h.2)])
        have HW:=Lib.hid hw'
        clear hd hw hw'
        go_wp2_with (first
         |(go_at_call 83;refine (ropens_at s (by omega) k hks c n HC.out HN.out _).mono ?_;rintro e w2 ⟨rfl,hb2⟩;have hown2:=own_below hown hb2;have hsz2:=hb2.size)
         |(go_at_call 35;refine (Ka.rwhite_at d false h2 HW.out _).mono ?_;rintro e w' ⟨rfl,rfl⟩)
         |(at_builtin;refine wpList_append_own _ rfl _ _ 67 rfl w.heap.size 62 i0 _ 4 40 Tryz.underlying67 hi hz0 hz1 hz2 rfl (by decide) _ _ _ rfl (hown2.alloc _) ⟨w2.heap.size,0,none⟩ 1 1 [.int .i64 2,.int .u8 (c:Int),.string { data:=#[] },.int .i64 (k:Int)] rfl rfl (cell_four_new _ _ _ _ _ _) (by simp [Value.oneCell']) (by unfold maxLen;omega) (by omega) (by simp;omega) ?_;intro v' w1 hown' hgrow _))
        have hB2:Below w.heap.size w w1:=((chain hB hB.size hb2).alloc (by omega) _).grown hgrow (by simp;omega) (fun j ej=>((hown2.lt) j ej).1)
        exact ⟨⟨k+n.size+1,0,m+1,_,by go_num,rfl,by rw [← HK.out];exact HS.out,by rw [List.length_append,HML.out];rfl,by omega,by rw [cellsLx_snoc];exact hown',hB2⟩,by simp [intOf];omega⟩
      ·have HK:=Lib.hid (show skip s (k+1+n.size)=k+n.size+1 by
        unfold skip
        rw [if_neg (fun h=>hq h.1)];omega)
       have j1:decide ((k:Int)+(n.size:Int)+1<(s.size:Int))=false:=decide_eq_false (by omega)
       go_wp2_with (first
        |(go_at_call 83;refine (ropens_at s (by omega) k hks c n HC.out HN.out _).mono ?_;rintro e w2 ⟨rfl,hb2⟩;have hown2:=own_below hown hb2;have hsz2:=hb2.size)
        |(at_builtin;refine wpList_append_own _ rfl _ _ 67 rfl w.heap.size 62 i0 _ 4 40 Tryz.underlying67 hi hz0 hz1 hz2 rfl (by decide) _ _ _ rfl (hown2.alloc _) ⟨w2.heap.size,0,none⟩ 1 1 [.int .i64 2,.int .u8 (c:Int),.string { data:=#[] },.int .i64 (k:Int)] rfl rfl (cell_four_new _ _ _ _ _ _) (by simp [Value.oneCell']) (by unfold maxLen;omega) (by omega) (by simp;omega) ?_;intro v' w1 hown' hgrow _))
       have hB2:Below w.heap.size w w1:=((chain hB hB.size hb2).alloc (by omega) _).grown hgrow (by simp;omega) (fun j ej=>((hown2.lt) j ej).1)
       exact ⟨⟨k+n.size+1,0,m+1,_,by go_num,rfl,by rw [← HK.out];exact HS.out,by rw [List.length_append,HML.out];rfl,by omega,by rw [cellsLx_snoc];exact hown',hB2⟩,by simp [intOf];omega⟩
    ·have t2:((b:Int)==123)=false:=beq_eq_false_iff_ne.2 (by omega)
     rw [hb] at h256
     by_cases hok:okT b=true
     ·rcases hS.cases with h0 | h1
      ·subst h0
       have HS:=Lib.hid (hS.first hlt (by rw [hb];exact hok))
       have hcat:({ data:=#[] }:ByteArray)++s.extract k (k+1)=s.extract k (k+1):=by show ByteArray.empty++_=_;simp
       have j3:(0:Int)≤(m:Int):=by omega
       have j4:(k:Int)+1≤(s.size:Int):=by omega
       rw [hb] at E1
       obtain ⟨v1,hv1⟩:∃ v1,Ka.isB (b:Int)=v1:=⟨_,rfl⟩
       have HV1:=Lib.hid hv1
       have HV2:v1=false→Hid (Ka.whiteB (b:Int)=true):=fun e=>Lib.hid (by
        unfold okT at hok;rw [hv1,e] at hok;simpa using hok)
       clear hS hb b1 b2 hok hv1
       cases v1
       ·have HV:=HV2 rfl
        clear HV2
        go_wp2_with (first
         |(go_at_call 34;refine (Ka.ris_at b false h256 HV1.out _).mono ?_;rintro e w' ⟨rfl,rfl⟩)
         |(go_at_call 35;refine (Ka.rwhite_at b true h256 HV.out _).mono ?_;rintro e w' ⟨rfl,rfl⟩)
         |(at_builtin;refine wpList_append_own _ rfl _ _ 67 rfl w.heap.size 62 i0 _ 4 40 Tryz.underlying67 hi hz0 hz1 hz2 rfl (by decide) _ _ _ rfl (hown.alloc _) ⟨wr.heap.size,0,none⟩ 1 1 [.int .i64 1,.int .u8 0,.string { data:=#[] },.int .i64 (k:Int)] rfl rfl (cell_four_new _ _ _ _ _ _) (by simp [Value.oneCell']) (by unfold maxLen;omega) (by omega) (by simp;omega) ?_;intro v' w1 hown' hgrow _;obtain ⟨g',cap',rfl⟩:=own_succ hown';have c1:=new_text HML.out hown';have f1:w1.frozen? ⟨g',m * 4+2,none⟩=false:=hown'.frozenAt (m * 4+2)))
        go_region
        go_wp2
        have hB2:Below w.heap.size w w1:=(hB.alloc (by omega) _).grown hgrow (by simp;omega) (fun j ej=>((hown.lt) j ej).1)
        obtain ⟨hown2,_⟩:=hown'.stored (m * 4+2) (.string (s.extract k (k+1)))
        rw [show cellsLx out++[.int .i64 1,.int .u8 0,.string { data:=#[] },.int .i64 (k:Int)]=cellsLx (out++[⟨1,0,emptyS,k⟩]) from by rw [cellsLx_snoc];rfl,← HML.out,cellsLx_set,HML.out] at hown2
        exact ⟨⟨k+1,1,m+1,_,by go_num,rfl,HS.out,by rw [List.length_append,HML.out];rfl,by omega,hown2,(hB2.setCell (p:=⟨g',m * 4+2,none⟩) (hown'.lt g' (by simp [Value.ownBlock])).1 _).drew⟩,by simp [intOf];omega⟩
       ·clear HV2
        go_wp2_with (first
         |(go_at_call 34;refine (Ka.ris_at b true h256 HV1.out _).mono ?_;rintro e w' ⟨rfl,rfl⟩)
         |(at_builtin;refine wpList_append_own _ rfl _ _ 67 rfl w.heap.size 62 i0 _ 4 40 Tryz.underlying67 hi hz0 hz1 hz2 rfl (by decide) _ _ _ rfl (hown.alloc _) ⟨wr.heap.size,0,none⟩ 1 1 [.int .i64 1,.int .u8 0,.string { data:=#[] },.int .i64 (k:Int)] rfl rfl (cell_four_new _ _ _ _ _ _) (by simp [Value.oneCell']) (by unfold maxLen;omega) (by omega) (by simp;omega) ?_;intro v' w1 hown' hgrow _;obtain ⟨g',cap',rfl⟩:=own_succ hown';have c1:=new_text HML.out hown';have f1:w1.frozen? ⟨g',m * 4+2,none⟩=false:=hown'.frozenAt (m * 4+2)))
        go_region
        go_wp2
        have hB2:Below w.heap.size w w1:=(hB.alloc (by omega) _).grown hgrow (by simp;omega) (fun j ej=>((hown.lt) j ej).1)
        obtain ⟨hown2,_⟩:=hown'.stored (m * 4+2) (.string (s.extract k (k+1)))
        rw [show cellsLx out++[.int .i64 1,.int .u8 0,.string { data:=#[] },.int .i64 (k:Int)]=cellsLx (out++[⟨1,0,emptyS,k⟩]) from by rw [cellsLx_snoc];rfl,← HML.out,cellsLx_set,HML.out] at hown2
        exact ⟨⟨k+1,1,m+1,_,by go_num,rfl,HS.out,by rw [List.length_append,HML.out];rfl,by omega,hown2,(hB2.setCell (p:=⟨g',m * 4+2,none⟩) (hown'.lt g' (by simp [Value.ownBlock])).1 _).drew⟩,by simp [intOf];omega⟩
      ·subst h1
       obtain ⟨p,pre,rfl,hpk,_⟩:=hS.text
       have HS:=Lib.hid (hS.more hlt (by rw [hb];exact hok))
       have hml2:(pre++[(⟨1,0,s.extract p k,p⟩:Lx)]).length=pre.length+1:=by simp
       obtain ⟨q,hq⟩:∃ q,pre.length=q:=⟨_,rfl⟩
       have hmq:m=q+1:=by rw [← HML.out,hml2,hq]
       subst hmq
       rcases hown.2 with ⟨_,hno⟩ | ⟨g,cap,cur,rfl,-⟩
       ·omega
       have c1:wr.cell? ⟨g,q * 4+2,none⟩=some (.string (s.extract p k)):=by
        rw [hown.cellAt (q * 4+2) (by omega),← hq];exact cellsLx_text pre _
       have f1:wr.frozen? ⟨g,q * 4+2,none⟩=false:=hown.frozenAt (q * 4+2)
       have hcat:=ext_cat s p k (k+1) (by omega) (by omega)
       have HQ:=Lib.hid hq
       have j3:(0:Int)≤(q:Int):=by omega
       have j4:(k:Int)+1≤(s.size:Int):=by omega
       rw [hb] at E1
       obtain ⟨v1,hv1⟩:∃ v1,Ka.isB (b:Int)=v1:=⟨_,rfl⟩
       have HV1:=Lib.hid hv1
       have HV2:v1=false→Hid (Ka.whiteB (b:Int)=true):=fun e=>Lib.hid (by
        unfold okT at hok;rw [hv1,e] at hok;simpa using hok)
       clear hS hb b1 b2 hok hq hml2 hv1
       cases v1
       ·have HV:=HV2 rfl
        clear HV2
        go_wp2_with (first
         |(go_at_call 34;refine (Ka.ris_at b false h256 HV1.out _).mono ?_;rintro e w' ⟨rfl,rfl⟩)
         |(go_at_call 35;refine (Ka.rwhite_at b true h256 HV.out _).mono ?_;rintro e w' ⟨rfl,rfl⟩))
        go_region
        go_wp2
        obtain ⟨hown2,_⟩:=hown.stored (q * 4+2) (.string (s.extract p (k+1)))
        rw [← HQ.out,cellsLx_set,HQ.out] at hown2
        exact ⟨⟨k+1,1,q+1,_,by go_num,rfl,HS.out,by rw [List.length_append,HQ.out];rfl,by omega,hown2,(hB.setCell (p:=⟨g,q * 4+2,none⟩) (hown.lt g (by simp [Value.ownBlock])).1 _).drew⟩,by simp [intOf];omega⟩
       ·clear HV2
        go_wp2_with (go_at_call 34;refine (Ka.ris_at b true h256 HV1.out _).mono ?_;rintro e w' ⟨rfl,rfl⟩)
        go_region
        go_wp2
        obtain ⟨hown2,_⟩:=hown.stored (q * 4+2) (.string (s.extract p (k+1)))
        rw [← HQ.out,cellsLx_set,HQ.out] at hown2
        exact ⟨⟨k+1,1,q+1,_,by go_num,rfl,HS.out,by rw [List.length_append,HQ.out];rfl,by omega,hown2,(hB.setCell (p:=⟨g,q * 4+2,none⟩) (hown.lt g (by simp [Value.ownBlock])).1 _).drew⟩,by simp [intOf];omega⟩
     ·have hok':okT b=false:=by simpa using hok
      have hR:=hS.settle (fun _=>by rw [hb];exact hok')
      have HX:=Lib.hid (lex_bad HLN.out (hR.bad hlt (step_bad (by rw [hb];exact b1) (by rw [hb];exact b2) (by rw [hb];exact hok'))))
      have HV1:=Lib.hid (show Ka.isB (b:Int)=false by unfold okT at hok';simp at hok';exact hok'.1)
      have HV2:=Lib.hid (show Ka.whiteB (b:Int)=false by unfold okT at hok';simp at hok';exact hok'.2)
      rw [hb] at E1
      clear hR hS hb b1 b2 hok hok'
      go_wp2_with (first
       |(go_at_call 34;refine (Ka.ris_at b false h256 HV1.out _).mono ?_;rintro e w' ⟨rfl,rfl⟩)
       |(go_at_call 35;refine (Ka.rwhite_at b false h256 HV2.out _).mono ?_;rintro e w' ⟨rfl,rfl⟩))
      go_ret3
      exact ⟨Gives.nil HX.out,hB⟩
  ·obtain rfl:k=s.size:=by omega
   have hR:=hS.settle (fun h=>absurd h (by omega))
   have hok:=lex_ok HLN.out hR.all
   have HO:=Lib.hid hok
   clear hR hS hok
   go_wp2
   go_ret3
   obtain ⟨o1,o2,o3⟩:=HO.out
   exact ⟨⟨_,by rw [o2,o3];rfl,by rw [o1,HML.out];exact hown⟩,hB⟩
end Go.Proofs.YtmldpkigfhoalaaGreatDoor.Lx
namespace Go.Proofs.YtmldpkigfhoalaaGreatDoor.Lx
open Go.RowKit
theorem below_drewN {B:Nat} {a w:World} (h:Below B a w) (n:Nat):Below B a (w.drewN n):=h.trans ⟨rfl,rfl,rfl,Nat.le_refl _,fun _ _=>rfl⟩
theorem lexF_length (s:ByteArray):∀ n p,(lexF s n p).1.length≤n
 | 0,p=>by simp [lexF]
 | n+1,p=>by
  unfold lexF
  by_cases h:p<s.size
  ·rw [if_pos h]
   cases hs:stepF s p with
   | inr e=>simp
   | inl xq =>
    obtain ⟨x,q⟩:=xq
    have:=lexF_length s n q
    simp only [List.length_cons];omega
  ·rw [if_neg h];simp
theorem lexV_length (s:ByteArray):(lexV s).length≤8192:=by
 unfold lexV
 by_cases h:8192<s.size
 ·rw [if_pos h];simp
 ·rw [if_neg h]
  have:=lexF_length s s.size 0
  cases h2:(lexA s 0).2 with
  | none=>show (lexF s s.size 0).1.length≤8192;omega
  | some x=>simp
theorem Holds.mono {w:World} {B B':Nat} {v:Value} {xs:List Lx} (h:Holds w B v xs) (hb:B≤B'):Holds w B' v xs:=by
 obtain ⟨A,c,rfl,hA⟩:=h
 refine ⟨A,c,rfl,fun h0=>?_⟩
 obtain ⟨g,rfl,hg,hk⟩:=hA h0
 exact ⟨g,rfl,by omega,hk⟩
theorem Holds.nil (w:World) (B c:Nat):Holds w B (.slice none 0 c) []:=⟨none,c,rfl,fun h=>absurd h (by simp)⟩
theorem Holds.new (w:World) (xs:List Lx) (vs:Array Value) (T:TypeId) (c n:Nat) (hn:xs.length=n) (hv:vs.toList=cellsLx xs):Holds (w.alloc (.cells vs T)) (w.heap.size+1) (.slice (some ⟨w.heap.size,0,none⟩) n c) xs:=by
 subst hn
 refine ⟨_,c,rfl,fun _=>⟨w.heap.size,rfl,by omega,fun k x hx=>?_⟩⟩
 have hc:∀ j u,(cellsLx xs)[j]?=some u→(w.alloc (.cells vs T)).cell? ⟨w.heap.size,j,none⟩=some u:=by
  intro j u h
  rw [← hv] at h
  simp at h ⊢
  exact h
 have ha:=cellsLx_at xs k x hx
 have c0:=ha 0 (by omega)
 rw [Nat.add_zero] at c0
 exact ⟨hc _ _ c0,hc _ _ (ha 1 (by omega)),hc _ _ (ha 2 (by omega)),hc _ _ (ha 3 (by omega))⟩
theorem Gives.holds {s:ByteArray} {e:Ending} {w':World} {B:Nat} (h:Gives s e w' B):∃ v,e=.returned (.tuple #[v,.int .i64 ((lexAt s:Nat):Int),.int .i64 ((lexE s:Nat):Int)])∧Holds w' w'.heap.size v (lexV s):=by
 obtain ⟨v,h1,h2⟩:=h
 exact ⟨v,h1,Holds.of_own rfl h2⟩
end Go.Proofs.YtmldpkigfhoalaaGreatDoor.Lx
namespace Go.Proofs.YtmldpkigfhoalaaGreatDoor.Lx
open Go.RowKit
theorem ext_one (s:ByteArray) (p:Nat) (h:p<s.size):s.extract p (p+1)=bytesOf [bAt s p]:=by
 apply bytes_ext
 rw [bytesN_ext,bytesN_bytesOf _ (by intro x hx;simp at hx;subst hx;exact bAt_lt s p),Nat.add_sub_cancel_left]
 have hl:=bytesN_len s
 unfold bAt
 rw [List.take_one,List.head?_drop,List.getD_eq_getElem?_getD,List.getElem?_eq_getElem (by omega)]
 rfl
theorem step_cases {s:ByteArray} {p q:Nat} {x:Lx} (hp:p<s.size) (h:stepF s p=.inl (x,q)) :
  (x=⟨3,0,emptyS,p⟩∧q=p+1∧bAt s p=125∧s.extract p (p+1)={ data:=#[125] }) ∨
  (∃ c n,c<256∧nameS c=n∧0<n.size∧n.size≤2∧x=⟨2,c,emptyS,p⟩∧bAt s p=123∧p+1+n.size≤s.size∧s.extract p (p+1+n.size)={ data:=#[123] }++n∧q=skip s (p+1+n.size)) ∨
  (∃ e,p<e∧e≤s.size∧x=⟨1,0,s.extract p e,p⟩∧q=e∧okT (bAt s p)=true∧(e<s.size→okT (bAt s e)=false)):=by
 have hlt:=stepF_lt hp h
 unfold stepF at h
 split at h
 ·rename_i h1
  simp only [Sum.inl.injEq,Prod.mk.injEq] at h
  exact .inl ⟨h.1.symm,h.2.symm,h1,by rw [ext_one s p hp,h1];decide +kernel⟩
 ·split at h
  ·rename_i h1 h2
   split at h
   ·cases h
   ·rename_i h3
    simp only [Sum.inl.injEq,Prod.mk.injEq] at h
    obtain ⟨c,hc⟩:∃ c,openC s (p+1)=c:=⟨_,rfl⟩
    have hf:=openC_fits h3
    have h256:=openC_lt s (p+1)
    rw [hc] at h h3 hf h256
    refine .inr (.inl ⟨c,nameS c,h256,rfl,?_,by rw [nameS_size];exact nameL_len _,h.1.symm,h2,hf.1,?_,h.2.symm⟩)
    ·rw [nameS_size]
     have:∀ c:Fin 256,(c.val=0→nameL c.val=[])∧(nameL c.val=[]→c.val ∉ lettersL):=by decide +kernel
     have hm:c ∈ lettersL:=by
      unfold openC at hc
      cases hff:(List.range 13).find? (fun k=>decide (fits s (p+1) (letterN k))) with
      | none=>rw [hff] at hc;exact absurd hc.symm h3
      | some k =>
       rw [hff] at hc
       have hk:=List.mem_range.1 (List.mem_of_find?_eq_some hff)
       exact (letter_mem ⟨c,h256⟩).2 ⟨⟨k,hk⟩,hc⟩
     rcases Nat.eq_zero_or_pos (nameL c).length with h0 | h0
     ·exact absurd hm ((this ⟨c,h256⟩).2 (List.eq_nil_of_length_eq_zero h0))
     ·exact h0
    ·have e:s.extract p (p+1)={ data:=#[123] }:=by rw [ext_one s p hp,h2];decide +kernel
     rw [← ext_cat s p (p+1) (p+1+(nameS c).size) (by omega) (by omega),e,hf.2]
  ·rename_i h1 h2
   split at h
   ·rename_i h3
    simp only [Sum.inl.injEq,Prod.mk.injEq] at h
    obtain ⟨_,t2,_,t4⟩:=tend_is s p (by omega)
    exact .inr (.inr ⟨tend s p,by omega,t2,h.1.symm,h.2.symm,h3,t4⟩)
   ·cases h
def At (s:ByteArray) (l:List Lx) (k p:Nat):Prop :=
 p≤s.size∧k≤l.length∧lexA s p=(l.drop k,none)∧(∀ y,0<k→l[k - 1]?=some y→y.kind=1→p<s.size→okT (bAt s p)=false)
theorem At.zero {s:ByteArray} {l:List Lx} (h:lexA s 0=(l,none)):At s l 0 0:=⟨Nat.zero_le _,Nat.zero_le _,h,fun _ h0=>absurd h0 (by omega)⟩
theorem At.lt {s:ByteArray} {l:List Lx} {k p:Nat} (h:At s l k p) (hk:k<l.length):p<s.size:=by
 rcases Nat.lt_or_ge p s.size with h1 | h1
 ·exact h1
 ·have h2:=h.2.2.1
  rw [lexA_end s p h1] at h2
  have:=congrArg (fun z=>z.1.length) h2
  simp only [List.length_nil,List.length_drop] at this
  omega
theorem At.all {s:ByteArray} {l:List Lx} {p:Nat} (h:At s l l.length p):p=s.size:=by
 rcases Nat.lt_or_ge p s.size with h1 | h1
 ·have h2:=h.2.2.1
  rw [List.drop_length,lexA_step s p h1] at h2
  cases hs:stepF s p with
  | inr e=>rw [hs] at h2;simp at h2
  | inl xq=>rw [hs] at h2;simp at h2
 ·have:=h.1;omega
theorem At.step {s:ByteArray} {l:List Lx} {k p:Nat} (h:At s l k p) (hk:k<l.length):∃ x q,l[k]?=some x∧stepF s p=.inl (x,q)∧At s l (k+1) q:=by
 have hp:=h.lt hk
 have h2:=h.2.2.1
 rw [lexA_step s p hp] at h2
 cases hs:stepF s p with
 | inr e=>rw [hs] at h2;simp at h2
 | inl xq =>
  obtain ⟨x,q⟩:=xq
  rw [hs] at h2
  simp only [Prod.mk.injEq] at h2
  have hd:l.drop k=l[k]::l.drop (k+1):=List.drop_eq_getElem_cons hk
  rw [hd] at h2
  simp only [List.cons.injEq] at h2
  obtain ⟨⟨h3,h4⟩,h5⟩:=h2
  have hq:q≤s.size∧(x.kind=1→q<s.size→okT (bAt s q)=false):=by
   rcases step_cases hp hs with ⟨rfl,rfl,_⟩ | ⟨c,n,_,_,_,_,rfl,_,hn,_,rfl⟩ | ⟨e,_,he,rfl,rfl,_,ht⟩
   ·exact ⟨by omega,fun h=>by cases h⟩
   ·refine ⟨?_,fun h=>by cases h⟩
    unfold skip;split<;>omega
   ·exact ⟨he,fun _=>ht⟩
  refine ⟨x,q,by rw [List.getElem?_eq_getElem hk,h3],rfl,hq.1,by omega,?_,fun y _ hy hy1=>?_⟩
  ·rw [← h4,← h5]
  ·rw [Nat.add_sub_cancel,List.getElem?_eq_getElem hk,← h3] at hy
   injection hy with hy
   subst hy
   exact hq.2 hy1
theorem lex_all {s:ByteArray} (h:lexE s=0):lexA s 0=(lexV s,none):=by
 by_cases hs:8192<s.size
 ·rw [(lex_long hs).2.2] at h;cases h
 ·unfold lexE at h
  rw [if_neg hs] at h
  unfold lexV
  rw [if_neg hs]
  have hb:∀ p e,(lexA s 0).2=some (p,e)→e≠0:=by
   have:∀ n p x y,(lexF s n p).2=some (x,y)→y≠0:=by
    intro n
    induction n with
    | zero=>intro p x y h;simp [lexF] at h
    | succ n ih =>
     intro p x y h
     unfold lexF at h
     split at h
     ·cases hst:stepF s p with
      | inr e =>
       rw [hst] at h
       simp only [Option.some.injEq,Prod.mk.injEq] at h
       obtain ⟨_,rfl⟩:=h
       unfold stepF at hst
       split at hst
       ·cases hst
       ·split at hst
        ·split at hst
         ·injection hst with hst;omega
         ·cases hst
        ·split at hst
         ·cases hst
         ·injection hst with hst;omega
      | inl xq =>
       obtain ⟨x',q⟩:=xq
       rw [hst] at h
       exact ih q x y h
     ·cases h
   exact fun p e=>this _ _ p e
  cases h2:(lexA s 0).2 with
  | none=>exact Prod.ext rfl h2
  | some z=>rw [h2] at h;exact absurd h (hb z.1 z.2 h2)
end Go.Proofs.YtmldpkigfhoalaaGreatDoor.Lx
namespace Go.Proofs.YtmldpkigfhoalaaGreatDoor.Lx
open Go.RowKit
theorem bytesN_append (u t:ByteArray):bytesN (u++t)=bytesN u++bytesN t:=by
 unfold bytesN;rw [ByteArray.data_append,Array.toList_append,List.map_append]
theorem bAt_right (u t:ByteArray) (i:Nat):bAt (u++t) (u.size+i)=bAt t i:=by
 unfold bAt
 rw [bytesN_append,List.getD_eq_getElem?_getD,List.getD_eq_getElem?_getD,List.getElem?_append_right (by rw [bytesN_len];omega),bytesN_len,Nat.add_sub_cancel_left]
theorem ext_right (u t:ByteArray) (p e:Nat):(u++t).extract (u.size+p) (u.size+e)=t.extract p e:=by
 apply bytes_ext
 rw [bytesN_ext,bytesN_ext,bytesN_append,show u.size+e - (u.size+p)=e - p from by omega]
 congr 1
 have hl:=bytesN_len u
 rw [← hl,List.drop_append]
 simp
theorem size_app (u t:ByteArray):(u++t).size=u.size+t.size:=ByteArray.size_append
theorem fits_right (u t:ByteArray) (q c:Nat):fits (u++t) (u.size+q) c↔fits t q c:=by
 unfold fits
 rw [show u.size+q+(nameS c).size=u.size+(q+(nameS c).size) from by omega,ext_right,size_app]
 exact ⟨fun x=>⟨by omega,x.2⟩,fun x=>⟨by omega,x.2⟩⟩
theorem find_congr {α:Type} {f g:α→Bool}:∀ l:List α,(∀ x ∈ l,f x=g x)→l.find? f=l.find? g
 | [],_=>rfl
 | x::l,h=>by
  rw [List.find?_cons,List.find?_cons,h x (List.mem_cons_self ..),find_congr l (fun y hy=>h y (List.mem_cons_of_mem _ hy))]
theorem openC_congr {s s':ByteArray} {q q':Nat} (h:∀ k,k<13→(fits s q (letterN k)↔fits s' q' (letterN k))):openC s q=openC s' q':=by
 unfold openC
 have:(List.range 13).find? (fun k=>decide (fits s q (letterN k)))=(List.range 13).find? (fun k=>decide (fits s' q' (letterN k))):=by
  apply find_congr
  intro k hk
  have:=h k (List.mem_range.1 hk)
  simp only [this]
 rw [this]
theorem tend_right (u t:ByteArray) (p:Nat) (hp:p≤t.size):tend (u++t) (u.size+p)=u.size+tend t p:=by
 obtain ⟨a1,a2,a3,a4⟩:=tend_is t p hp
 refine (tend_is (u++t) (u.size+p) (by rw [size_app];omega)).unique ⟨by omega,by rw [size_app];omega,fun j h1 h2=>?_,fun h=>?_⟩
 ·obtain ⟨i,rfl⟩:∃ i,j=u.size+i:=⟨j - u.size,by omega⟩
  rw [bAt_right];exact a3 i (by omega) (by omega)
 ·rw [bAt_right];exact a4 (by rw [size_app] at h;omega)
theorem skip_right (u t:ByteArray) (q:Nat):skip (u++t) (u.size+q)=u.size+skip t q:=by
 unfold skip
 rw [bAt_right,size_app]
 by_cases hw:q<t.size∧white (bAt t q)=true
 ·rw [if_pos ⟨by omega,hw.2⟩,if_pos hw];omega
 ·rw [if_neg (fun x=>hw ⟨by omega,x.2⟩),if_neg hw]
def shiftX (n:Nat) (x:Lx):Lx:={ x with place:=n+x.place }
def shiftS (n:Nat):(Lx × Nat) ⊕ Nat→(Lx × Nat) ⊕ Nat
 | .inl (x,q)=>.inl (shiftX n x,n+q)
 | .inr e=>.inr e
theorem step_right (u t:ByteArray) (p:Nat) (hp:p<t.size):stepF (u++t) (u.size+p)=shiftS u.size (stepF t p):=by
 have hB:=bAt_right u t p
 by_cases h1:bAt t p=125
 ·rw [step_close h1,step_close (hB.trans h1)];rfl
 by_cases h2:bAt t p=123
 ·have hO:openC (u++t) (u.size+p+1)=openC t (p+1):=openC_congr fun k _=>fits_right u t (p+1) (letterN k)
  by_cases h3:openC t (p+1)=0
  ·rw [step_none h2 h3,step_none (hB.trans h2) (hO.trans h3)];rfl
  ·have h4:openC (u++t) (u.size+p+1)≠0:=by rw [hO];exact h3
   rw [step_open h2 h3,step_open (hB.trans h2) h4,hO,show u.size+p+1+(nameS (openC t (p+1))).size=u.size+(p+1+(nameS (openC t (p+1))).size) from by omega,skip_right]
   rfl
 ·by_cases h3:okT (bAt t p)=true
  ·rw [step_text h3,step_text (by rw [hB];exact h3),tend_right u t p (by omega),ext_right];rfl
  ·have h4:okT (bAt t p)=false:=by simpa using h3
   rw [step_bad h1 h2 h4,step_bad (by rw [hB];exact h1) (by rw [hB];exact h2) (by rw [hB];exact h4)];rfl
theorem stepF_le {s:ByteArray} {p q:Nat} {x:Lx} (hp:p<s.size) (h:stepF s p=.inl (x,q)):q≤s.size∧x.place=p:=by
 by_cases h1:bAt s p=125
 ·rw [step_close h1] at h
  simp only [Sum.inl.injEq,Prod.mk.injEq] at h
  obtain ⟨rfl,rfl⟩:=h
  exact ⟨by omega,rfl⟩
 by_cases h2:bAt s p=123
 ·by_cases hc:openC s (p+1)=0
  ·rw [step_none h2 hc] at h;cases h
  ·rw [step_open h2 hc] at h
   simp only [Sum.inl.injEq,Prod.mk.injEq] at h
   obtain ⟨rfl,rfl⟩:=h
   exact ⟨skip_le hc,rfl⟩
 ·by_cases h3:okT (bAt s p)=true
  ·rw [step_text h3] at h
   simp only [Sum.inl.injEq,Prod.mk.injEq] at h
   obtain ⟨rfl,rfl⟩:=h
   exact ⟨(tend_is s p (by omega)).2.1,rfl⟩
  ·rw [step_bad h1 h2 (by simpa using h3)] at h;cases h
end Go.Proofs.YtmldpkigfhoalaaGreatDoor.Lx
