/-
  Put together.
-/
import Derived.Test.YthbigkoihpgcfaaGreatDoorRows
import Derived.WalkKit
import Derived.WalkSpells
import Derived.WalkLawsBesides
import Derived.Lib.Hide
import Derived.Outline
import Derived.Maps.AppendAt
import Derived.OwnWalk
import Derived.Deep.QuietTactic
import Derived.BigQuiet
import Derived.BigRegion
import Derived.StillTailTactics
open Go.Lib (hid)
set_option maxRecDepth 100000
set_option maxHeartbeats 16000000
namespace Go.Proofs.YthbigkoihpgcfaaGreatDoor.Ka
open Go.RowKit
def fZ:List Nat:=[46,44,59,58,33,63,39,34,45,40,41,47]
def fJ (n:Nat):Nat :=
 if 97≤n∧n≤122 then 1 else if 65≤n∧n≤90 then 2 else if 48≤n∧n≤57 then 3
 else if n=32 then 5 else if n=10 then 6 else if fZ.contains n then 4 else 0
def cls (c:Int):Int:=(fJ c.toNat:Int)
def yJ (i:Nat):Nat:=[6597069766656,0,4919056986126943301,4611761005120402227,2459565876494606880,2345624805922,1229782938247303440,1172812402961,0,0,0,0,0,0,0,0].getD i 0
def Laid (w:World):Prop:=2<w.heap.size∧∀ i:Nat,i<16→w.cell? ⟨2,i,none⟩=some (.int .u64 (yJ i:Int))
theorem Laid.below {w w':World} {B:Nat} (h:Laid w) (hb:Below B w w') (hB:2<B):Laid w' :=
 ⟨Nat.lt_of_lt_of_le h.1 hb.size,fun i hi=>(hb.cell (p:=⟨2,i,none⟩) hB).trans (h.2 i hi)⟩
theorem Laid.cell {w:World} (h:Laid w) {i:Nat} (hi:i<16):w.cell? ⟨2,i,none⟩=some (.int .u64 (yJ i:Int)):=h.2 i hi
theorem aBU (n:Nat):fJ n≤6:=by
 unfold fJ;repeat' split
 all_goals omega
theorem DB (c:Int):cls c=0∨cls c=1∨cls c=2∨cls c=3∨cls c=4∨cls c=5∨cls c=6:=by
 have:=aBU c.toNat;unfold cls;omega
theorem E5:∀ n:Fin 256,wrap64 (bits .and .u64 ((yJ ((((n.val:Nat):Int) / 16).toNat):Int) / 2 ^ (((n.val:Nat):Int) % 16 * 4).toNat) 15)=cls (n.val:Int):=by decide +kernel
theorem E6 (c:Int) (h0:0≤c) (h1:c<256):wrap64 (bits .and .u64 ((yJ ((c / 16).toNat):Int) / 2 ^ (c % 16 * 4).toNat) 15)=cls c:=by
 obtain⟨n,rfl⟩:=Int.eq_ofNat_of_zero_le h0
 exact E5 ⟨n,by omega⟩
theorem aI {k:IntKind} {a b:Int} (h:a=b):Ending.returned (.int k a)=.returned (.int k b):=by rw[h]
theorem aC {a b:Bool} (h:a=b):Ending.returned (.bool a)=.returned (.bool b):=by rw[h]
theorem fQ (c k:Int) (h0:0≤c) (h1:c<256) (hk:cls c=k) (w:World) (hL:Laid w) :
  Calls Tryz.prog 191 #[.int .u8 c] w fun e w'=>e=.returned (.int .i64 k)∧w=w':=by
 have hc:=hL.cell (i:=(c / 16).toNat) (by omega)
 have HK:=hid hk;clear hk
 have HT:=hid (E6 c h0 h1)
 go_enter Tryz.func191,Tryz.ntmps191
 go_wp2
 go_ret
 exact⟨aI (HT.out.trans HK.out),rfl⟩
def isB (c:Int):Bool:=decide (1≤cls c∧cls c≤5)
def mC (c:Int):Bool:=decide (cls c=5∨cls c=6)
theorem V8 (c:Int) (h0:0≤c) (h1:c<256) (w:World) (hL:Laid w) :
  Calls Tryz.prog 179 #[.int .u8 c] w fun e w'=>e=.returned (.bool (isB c))∧w=w':=by
 rcases DB c with h | h | h | h | h | h | h
 all_goals
  have hB:=hid (show isB c=_ from by unfold isB;rw[h])
  have HK:=hid h;clear h
  go_enter Tryz.func179,Tryz.ntmps179
  go_wp2_with (go_at_call 191;refine(fQ c _ h0 h1 HK.out w hL).mono ?_;rintro e w' ⟨rfl,rfl⟩)
  go_ret
  exact⟨aC hB.out.symm,rfl⟩
theorem CL (c:Int) (h0:0≤c) (h1:c<256) (w:World) (hL:Laid w) :
  Calls Tryz.prog 180 #[.int .u8 c] w fun e w'=>e=.returned (.bool (mC c))∧w=w':=by
 rcases DB c with h | h | h | h | h | h | h
 all_goals
  have hB:=hid (show mC c=_ from by unfold mC;rw[h])
  have HK:=hid h;clear h
  go_enter Tryz.func180,Tryz.ntmps180
  go_wp2_with (go_at_call 191;refine(fQ c _ h0 h1 HK.out w hL).mono ?_;rintro e w' ⟨rfl,rfl⟩)
  go_ret
  exact⟨aC hB.out.symm,rfl⟩
theorem X8:∀ n:Fin 256,
  ((97≤n.val∧n.val≤122)→fJ n.val=1)∧((65≤n.val∧n.val≤90)→fJ n.val=2)∧((48≤n.val∧n.val≤57)→fJ n.val=3)∧(n.val=32→fJ n.val=5)∧(n.val=10→fJ n.val=6) ∧
  ((n.val=46∨n.val=44∨n.val=59∨n.val=58∨n.val=33∨n.val=63∨n.val=39∨n.val=34∨n.val=45∨n.val=40∨n.val=41∨n.val=47)→fJ n.val=4) ∧
  ((¬ (97≤n.val∧n.val≤122)∧¬ (65≤n.val∧n.val≤90)∧¬ (48≤n.val∧n.val≤57)∧n.val≠32∧n.val≠10 ∧
   ¬ (n.val=46∨n.val=44∨n.val=59∨n.val=58∨n.val=33∨n.val=63∨n.val=39∨n.val=34∨n.val=45∨n.val=40∨n.val=41∨n.val=47))→fJ n.val=0):=by decide +kernel
theorem gG (c:Int) (h0:0≤c) (h1:c<256) :
  ((97≤c∧c≤122)→cls c=1)∧((65≤c∧c≤90)→cls c=2)∧((48≤c∧c≤57)→cls c=3)∧(c=32→cls c=5)∧(c=10→cls c=6) ∧
  ((c=46∨c=44∨c=59∨c=58∨c=33∨c=63∨c=39∨c=34∨c=45∨c=40∨c=41∨c=47)→cls c=4) ∧
  ((¬ (97≤c∧c≤122)∧¬ (65≤c∧c≤90)∧¬ (48≤c∧c≤57)∧c≠32∧c≠10 ∧
   ¬ (c=46∨c=44∨c=59∨c=58∨c=33∨c=63∨c=39∨c=34∨c=45∨c=40∨c=41∨c=47))→cls c=0):=by
 obtain⟨n,rfl⟩:=Int.eq_ofNat_of_zero_le h0
 have h:=X8 ⟨n,by omega⟩
 simp only[]at h
 unfold cls
 simp only[Int.toNat_natCast]
 omega
def mH (k:Nat):Int:=((fZ.getD k 0:Nat):Int)
def xM (c:Int) (k:Nat):Prop:=∀ j,j<k→c≠mH j
theorem xM.zero (c:Int):xM c 0:=fun _ h=>absurd h (by omega)
theorem xM.succ {c:Int} {k:Nat} (h:xM c k) (hne:c≠mH k):xM c (k+1):=fun j hj=>by
 rcases Nat.lt_or_ge j k with h' | h'
 ·exact h j h'
 ·obtain rfl:j=k:=by omega
  exact hne
theorem X9:∀ k:Fin 12,cls (mH k.val)=4:=by decide +kernel
theorem YA (c:Int) (k:Nat) (hk:k<12) (h:c=mH k):cls c=4:=by rw[h];exact X9 ⟨k,hk⟩
def kV:ByteArray:={ data:=#[46,44,59,58,33,63,39,34,45,40,41,47] }
theorem N3 (w:World):Calls Tryz.prog 41 #[] w fun e w'=>e=.returned (.string kV)∧w=w':=by
 go_enter Tryz.func41,Tryz.ntmps41
 go_wp2
 go_ret
 exact⟨rfl,rfl⟩
theorem aBV:∀ k:Fin 12,((kV[k.val]'(k.isLt)).toNat:Int)=mH k.val:=by decide +kernel
theorem YB (c:Int) (h0:0≤c) (h1:c<256) (h:xM c 12) (a1:¬ (97≤c∧c≤122)) (a2:¬ (65≤c∧c≤90)) (a3:¬ (48≤c∧c≤57)) (a4:c≠32) (a5:c≠10):cls c=0:=by
 have p0:c≠46:=h 0 (by omega)
 have p1:c≠44:=h 1 (by omega)
 have p2:c≠59:=h 2 (by omega)
 have p3:c≠58:=h 3 (by omega)
 have p4:c≠33:=h 4 (by omega)
 have p5:c≠63:=h 5 (by omega)
 have p6:c≠39:=h 6 (by omega)
 have p7:c≠34:=h 7 (by omega)
 have p8:c≠45:=h 8 (by omega)
 have p9:c≠40:=h 9 (by omega)
 have p10:c≠41:=h 10 (by omega)
 have p11:c≠47:=h 11 (by omega)
 have:=gG c h0 h1
 omega
theorem N4 (c:Int) (h0:0≤c) (h1:c<256) (w:World) :
  Calls Tryz.prog 54 #[.int .u8 c] w fun e w'=>e=.returned (.int .i64 (cls c))∧w=w':=by
 have hs:=gG c h0 h1
 by_cases a1:97≤c∧c≤122
 ·obtain⟨b1,b2⟩:=a1
  have HR:=hid (show (1:Int)=cls c by omega)
  clear hs
  go_enter Tryz.func54,Tryz.ntmps54
  go_wp2
  go_ret
  exact⟨aI HR.out,rfl⟩
 by_cases a2:65≤c∧c≤90
 ·obtain⟨b1,b2⟩:=a2
  have HR:=hid (show (2:Int)=cls c by omega)
  have d1:decide (97≤c)=false:=by simp;omega
  clear hs a1
  go_enter Tryz.func54,Tryz.ntmps54
  go_wp2
  go_ret
  exact⟨aI HR.out,rfl⟩
 by_cases a3:48≤c∧c≤57
 ·obtain⟨b1,b2⟩:=a3
  have HR:=hid (show (3:Int)=cls c by omega)
  have d1:decide (97≤c)=false:=by simp;omega
  have d2:decide (65≤c)=false:=by simp;omega
  clear hs a1 a2
  go_enter Tryz.func54,Tryz.ntmps54
  go_wp2
  go_ret
  exact⟨aI HR.out,rfl⟩
 by_cases a4:c=32
 ·subst a4
  have HR:=hid (show (5:Int)=cls 32 by omega)
  clear hs a1 a2 a3
  go_enter Tryz.func54,Tryz.ntmps54
  go_wp2
  go_ret
  exact⟨aI HR.out,rfl⟩
 by_cases a5:c=10
 ·subst a5
  have HR:=hid (show (6:Int)=cls 10 by omega)
  clear hs a1 a2 a3 a4
  go_enter Tryz.func54,Tryz.ntmps54
  go_wp2
  go_ret
  exact⟨aI HR.out,rfl⟩
 have HN:=hid (fun hp=>(YB c h0 h1 hp a1 a2 a3 a4 a5).symm)
 have e4:(c==32)=false:=by simpa using a4
 have e5:(c==10)=false:=by simpa using a5
 have hcase:c<48∨(57<c∧c<65)∨(90<c∧c<97)∨122<c:=by omega
 clear hs a4 a5 a1 a2 a3
 rcases hcase with b1 | ⟨b1,b2⟩ | ⟨b1,b2⟩ | b1
 all_goals
  go_enter Tryz.func54,Tryz.ntmps54
  go_wp2_with (go_at_call 41;refine(N3 _).mono ?_;rintro e w' ⟨rfl,rfl⟩)
  go_loop [4] (fun i=>∃ k:Nat,k≤12∧i=.int .i64 k∧xM c k) (fun i=>12 - (intOf i).toNat)
  case atStart=>exact⟨0,by omega,rfl,xM.zero c⟩
  case round =>
   obtain⟨k,hk,rfl,hp⟩:=hrel
   by_cases hlt:k<12
   ·have hs':k<kV.size:=hlt
    have hm:(((kV[k]'hs').toNat:Nat):Int)=mH k:=aBV ⟨k,hlt⟩
    by_cases hc:c=mH k
    ·have HR:=hid (YA c k hlt hc)
     have hb:((((kV[k]'hs').toNat:Nat):Int)==c)=true:=by rw[hm,hc];simp
     clear hm hc
     go_wp2
     go_ret
     exact⟨aI HR.out.symm,rfl⟩
    ·have HP:=hid (hp.succ hc)
     have hb:((((kV[k]'hs').toNat:Nat):Int)==c)=false:=by rw[hm];simp;exact fun e=>hc e.symm
     clear hm hc
     go_wp2
     exact⟨⟨k+1,by omega,by go_num,HP.out⟩,by simp[intOf];omega⟩
   ·obtain rfl:k=12:=by omega
    have HR:=hid (HN.out hp)
    go_wp2
    go_ret
    exact⟨aI HR.out,rfl⟩
theorem kO (c k:Int) (h0:0≤c) (h1:c<256) (hk:cls c=k) (w:World) :
  Calls Tryz.prog 54 #[.int .u8 c] w fun e w'=>e=.returned (.int .i64 k)∧w=w':=hk▸N4 c h0 h1 w
end Go.Proofs.YthbigkoihpgcfaaGreatDoor.Ka
namespace Go.Proofs.YthbigkoihpgcfaaGreatDoor.Lx
open Go.RowKit
def cJ:ByteArray:=⟨#[]⟩
def bytesOf (l:List Nat):ByteArray:=⟨(l.map UInt8.ofNat).toArray⟩
theorem aF (l:List Nat):(bytesOf l).size=l.length:=by
 show ((l.map UInt8.ofNat).toArray).size=_
 simp
def aA (s:ByteArray):List Nat:=s.data.toList.map UInt8.toNat
theorem aD (s:ByteArray):(aA s).length=s.size:=by unfold aA;rw[List.length_map,Array.length_toList];rfl
def aV (s:ByteArray) (i:Nat):Nat:=(aA s).getD i 0
theorem dQ (s:ByteArray) (i:Nat):aV s i<256:=by
 unfold aV aA
 rw[List.getD_eq_getElem?_getD,List.getElem?_map]
 cases h:s.data.toList[i]? with
 | none=>simp
 | some x=>simpa using UInt8.toNat_lt x
theorem bP (s:ByteArray) (k:Nat) (h:k<s.size):s[k].toNat=aV s k:=by
 unfold aV aA
 have hl:k<s.data.toList.length:=by simpa using h
 rw[List.getD_eq_getElem?_getD,List.getElem?_map,List.getElem?_eq_getElem hl]
 rfl
theorem aB (l:List Nat) (h:∀ x ∈ l,x<256):aA (bytesOf l)=l:=by
 unfold aA bytesOf
 rw[List.toList_toArray,List.map_map]
 conv=>rhs;rw[← List.map_id l]
 apply List.map_congr_left
 intro x hx
 have:=h x hx
 simp[Nat.mod_eq_of_lt this]
def J0:List Nat:=[49,50,51,112,108,105,116,114,99,110,101,115,107]
def aFA (c:Nat):List Nat:=if c=49∨c=50∨c=51 then [104,c] else if c ∈ J0 then [c] else []
def J3 (c:Nat):ByteArray:=bytesOf (aFA c)
def fits (s:ByteArray) (p c:Nat):Prop:=p+(J3 c).size≤s.size∧s.extract p (p+(J3 c).size)=J3 c
instance (s:ByteArray) (p c:Nat):Decidable (fits s p c):=by unfold fits;infer_instance
structure Lx where
 kind:Nat
 name:Nat
 text:ByteArray
 place:Nat
def aC8 (b:Nat):Bool:=Ka.mC (b:Int)
def okT (b:Nat):Bool:=Ka.isB (b:Int) || Ka.mC (b:Int)
theorem rD (u t:ByteArray):aA (u++t)=aA u++aA t:=by
 unfold aA;rw[ByteArray.data_append,Array.toList_append,List.map_append]
theorem XC (u t:ByteArray) (i:Nat) (h:i<u.size):aV (u++t) i=aV u i:=by
 unfold aV
 rw[rD,List.getD_eq_getElem?_getD,List.getD_eq_getElem?_getD,List.getElem?_append_left (by rw[aD];exact h)]
theorem SP (u t:ByteArray) (i:Nat):aV (u++t) (u.size+i)=aV t i:=by
 unfold aV
 rw[rD,List.getD_eq_getElem?_getD,List.getD_eq_getElem?_getD,List.getElem?_append_right (by rw[aD];omega),aD,Nat.add_sub_cancel_left]
end Go.Proofs.YthbigkoihpgcfaaGreatDoor.Lx
