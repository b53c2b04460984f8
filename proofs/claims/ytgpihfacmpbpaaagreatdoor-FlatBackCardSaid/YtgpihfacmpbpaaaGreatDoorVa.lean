/-
  Put together: KaA, KaB, LxM, LxO, LxS, LxT, LxU, LxV, LxY, LxP.
-/
import Derived.Test.YtgpihfacmpbpaaaGreatDoorRows
import Derived.WalkKit
import Derived.WalkSpells
import Derived.WalkLawsBesides
import Derived.Lib.Hide
import Derived.Outline
import Derived.Maps.AppendAt
import Derived.OwnWalk
import Derived.Deep.QuietTactic
import Derived.BigQuiet
import Derived.BigRegion
import Derived.StillTailTactics
namespace Go.Proofs.YtgpihfacmpbpaaaGreatDoor.Ka
open Go.RowKit
def aB0:List Nat:=[46,44,59,58,33,63,39,34,45,40,41,47]
def C4 (n:Nat):Nat :=
 if 97≤n∧n≤122 then 1 else if 65≤n∧n≤90 then 2 else if 48≤n∧n≤57 then 3
 else if n=32 then 5 else if n=10 then 6 else if aB0.contains n then 4 else 0
def cls (c:Int):Int:=(C4 c.toNat:Int)
def RG (i:Nat):Nat:=[6597069766656,0,4919056986126943301,4611761005120402227,2459565876494606880,2345624805922,1229782938247303440,1172812402961,0,0,0,0,0,0,0,0].getD i 0
def Laid (w:World):Prop:=0<w.heap.size∧∀ i:Nat,i<16→w.cell? ⟨0,i,none⟩=some (.int .u64 (RG i:Int))
theorem Laid.below {w w':World} {B:Nat} (h:Laid w) (hb:Below B w w') (hB:0<B):Laid w' :=
 ⟨Nat.lt_of_lt_of_le h.1 hb.size,fun i hi=>(hb.cell (p:=⟨0,i,none⟩) hB).trans (h.2 i hi)⟩
theorem Laid.cell {w:World} (h:Laid w) {i:Nat} (hi:i<16):w.cell? ⟨0,i,none⟩=some (.int .u64 (RG i:Int)):=h.2 i hi
theorem ZS (n:Nat):C4 n≤6:=by
 unfold C4;repeat' split
 all_goals omega
theorem xI (c:Int):cls c=0∨cls c=1∨cls c=2∨cls c=3∨cls c=4∨cls c=5∨cls c=6:=by
 have:=ZS c.toNat;unfold cls;omega
theorem ZT:∀ n:Fin 256,wrap64 (bits .and .u64 ((RG ((((n.val:Nat):Int) / 16).toNat):Int) / 2 ^ (((n.val:Nat):Int) % 16 * 4).toNat) 15)=cls (n.val:Int):=by decide +kernel
theorem ZU (c:Int) (h0:0≤c) (h1:c<256):wrap64 (bits .and .u64 ((RG ((c / 16).toNat):Int) / 2 ^ (c % 16 * 4).toNat) 15)=cls c:=by
 obtain⟨n,rfl⟩:=Int.eq_ofNat_of_zero_le h0
 exact ZT ⟨n,by omega⟩
theorem bF {k:IntKind} {a b:Int} (h:a=b):Ending.returned (.int k a)=.returned (.int k b):=by rw[h]
theorem aC {a b:Bool} (h:a=b):Ending.returned (.bool a)=.returned (.bool b):=by rw[h]
set_option maxHeartbeats 400000 in
theorem JJ (c k:Int) (h0:0≤c) (h1:c<256) (hk:cls c=k) (w:World) (hL:Laid w) :
  Calls Tryz.prog 99 #[.int .u8 c] w fun e w'=>e=.returned (.int .i64 k)∧w=w':=by
 have hc:=hL.cell (i:=(c / 16).toNat) (by omega)
 have HK:=Lib.hid hk;clear hk
 have HT:=Lib.hid (ZU c h0 h1)
 go_enter Tryz.func99,Tryz.ntmps99
 go_wp2
 go_ret
 exact⟨bF (HT.out.trans HK.out),rfl⟩
def JK (c:Int):Bool:=decide (1≤cls c∧cls c≤5)
def cF (c:Int):Bool:=decide (cls c=5∨cls c=6)
set_option maxHeartbeats 1000000 in
theorem aCS (c:Int) (h0:0≤c) (h1:c<256) (w:World) (hL:Laid w) :
  Calls Tryz.prog 107 #[.int .u8 c] w fun e w'=>e=.returned (.bool (JK c))∧w=w':=by
 rcases xI c with h | h | h | h | h | h | h
 all_goals
  have hB:=Lib.hid (show JK c=_ from by unfold JK;rw[h])
  have HK:=Lib.hid h;clear h
  go_enter Tryz.func107,Tryz.ntmps107
  go_wp2_with (go_at_call 99;refine(JJ c _ h0 h1 HK.out w hL).mono ?_;rintro e w' ⟨rfl,rfl⟩)
  go_ret
  exact⟨aC hB.out.symm,rfl⟩
set_option maxHeartbeats 1000000 in
theorem RH (c:Int) (h0:0≤c) (h1:c<256) (w:World) (hL:Laid w) :
  Calls Tryz.prog 67 #[.int .u8 c] w fun e w'=>e=.returned (.bool (cF c))∧w=w':=by
 rcases xI c with h | h | h | h | h | h | h
 all_goals
  have hB:=Lib.hid (show cF c=_ from by unfold cF;rw[h])
  have HK:=Lib.hid h;clear h
  go_enter Tryz.func67,Tryz.ntmps67
  go_wp2_with (go_at_call 99;refine(JJ c _ h0 h1 HK.out w hL).mono ?_;rintro e w' ⟨rfl,rfl⟩)
  go_ret
  exact⟨aC hB.out.symm,rfl⟩
end Go.Proofs.YtgpihfacmpbpaaaGreatDoor.Ka
namespace Go.Proofs.YtgpihfacmpbpaaaGreatDoor.Ka
open Go.RowKit
theorem VG:∀ n:Fin 256,
  ((97≤n.val∧n.val≤122)→C4 n.val=1)∧((65≤n.val∧n.val≤90)→C4 n.val=2)∧((48≤n.val∧n.val≤57)→C4 n.val=3)∧(n.val=32→C4 n.val=5)∧(n.val=10→C4 n.val=6) ∧
  ((n.val=46∨n.val=44∨n.val=59∨n.val=58∨n.val=33∨n.val=63∨n.val=39∨n.val=34∨n.val=45∨n.val=40∨n.val=41∨n.val=47)→C4 n.val=4) ∧
  ((¬ (97≤n.val∧n.val≤122)∧¬ (65≤n.val∧n.val≤90)∧¬ (48≤n.val∧n.val≤57)∧n.val≠32∧n.val≠10 ∧
   ¬ (n.val=46∨n.val=44∨n.val=59∨n.val=58∨n.val=33∨n.val=63∨n.val=39∨n.val=34∨n.val=45∨n.val=40∨n.val=41∨n.val=47))→C4 n.val=0):=by decide +kernel
theorem JL (c:Int) (h0:0≤c) (h1:c<256) :
  ((97≤c∧c≤122)→cls c=1)∧((65≤c∧c≤90)→cls c=2)∧((48≤c∧c≤57)→cls c=3)∧(c=32→cls c=5)∧(c=10→cls c=6) ∧
  ((c=46∨c=44∨c=59∨c=58∨c=33∨c=63∨c=39∨c=34∨c=45∨c=40∨c=41∨c=47)→cls c=4) ∧
  ((¬ (97≤c∧c≤122)∧¬ (65≤c∧c≤90)∧¬ (48≤c∧c≤57)∧c≠32∧c≠10 ∧
   ¬ (c=46∨c=44∨c=59∨c=58∨c=33∨c=63∨c=39∨c=34∨c=45∨c=40∨c=41∨c=47))→cls c=0):=by
 obtain⟨n,rfl⟩:=Int.eq_ofNat_of_zero_le h0
 have h:=VG ⟨n,by omega⟩
 simp only[]at h
 unfold cls
 simp only[Int.toNat_natCast]
 omega
def uF (k:Nat):Int:=((aB0.getD k 0:Nat):Int)
def JM (c:Int) (k:Nat):Prop:=∀ j,j<k→c≠uF j
theorem JM.zero (c:Int):JM c 0:=fun _ h=>absurd h (by omega)
theorem JM.succ {c:Int} {k:Nat} (h:JM c k) (hne:c≠uF k):JM c (k+1):=fun j hj=>by
 rcases Nat.lt_or_ge j k with h' | h'
 ·exact h j h'
 ·obtain rfl:j=k:=by omega
  exact hne
theorem VH:∀ k:Fin 12,cls (uF k.val)=4:=by decide +kernel
theorem VI (c:Int) (k:Nat) (hk:k<12) (h:c=uF k):cls c=4:=by rw[h];exact VH ⟨k,hk⟩
def xJ:ByteArray:={ data:=#[46,44,59,58,33,63,39,34,45,40,41,47] }
set_option maxHeartbeats 400000 in
theorem MC (w:World):Calls Tryz.prog 109 #[] w fun e w'=>e=.returned (.string xJ)∧w=w':=by
 go_enter Tryz.func109,Tryz.ntmps109
 go_wp2
 go_ret
 exact⟨rfl,rfl⟩
theorem ZV:∀ k:Fin 12,((xJ[k.val]'(k.isLt)).toNat:Int)=uF k.val:=by decide +kernel
theorem VJ (c:Int) (h0:0≤c) (h1:c<256) (h:JM c 12) (a1:¬ (97≤c∧c≤122)) (a2:¬ (65≤c∧c≤90)) (a3:¬ (48≤c∧c≤57)) (a4:c≠32) (a5:c≠10):cls c=0:=by
 have p0:c≠46:=h 0 (by omega)
 have p1:c≠44:=h 1 (by omega)
 have p2:c≠59:=h 2 (by omega)
 have p3:c≠58:=h 3 (by omega)
 have p4:c≠33:=h 4 (by omega)
 have p5:c≠63:=h 5 (by omega)
 have p6:c≠39:=h 6 (by omega)
 have p7:c≠34:=h 7 (by omega)
 have p8:c≠45:=h 8 (by omega)
 have p9:c≠40:=h 9 (by omega)
 have p10:c≠41:=h 10 (by omega)
 have p11:c≠47:=h 11 (by omega)
 have:=JL c h0 h1
 omega
set_option maxHeartbeats 2000000 in
theorem MD (c:Int) (h0:0≤c) (h1:c<256) (w:World) :
  Calls Tryz.prog 82 #[.int .u8 c] w fun e w'=>e=.returned (.int .i64 (cls c))∧w=w':=by
 have hs:=JL c h0 h1
 by_cases a1:97≤c∧c≤122
 ·obtain⟨b1,b2⟩:=a1
  have HR:=Lib.hid (show (1:Int)=cls c by omega)
  clear hs
  go_enter Tryz.func82,Tryz.ntmps82
  go_wp2
  go_ret
  exact⟨bF HR.out,rfl⟩
 by_cases a2:65≤c∧c≤90
 ·obtain⟨b1,b2⟩:=a2
  have HR:=Lib.hid (show (2:Int)=cls c by omega)
  have d1:decide (97≤c)=false:=by simp;omega
  clear hs a1
  go_enter Tryz.func82,Tryz.ntmps82
  go_wp2
  go_ret
  exact⟨bF HR.out,rfl⟩
 by_cases a3:48≤c∧c≤57
 ·obtain⟨b1,b2⟩:=a3
  have HR:=Lib.hid (show (3:Int)=cls c by omega)
  have d1:decide (97≤c)=false:=by simp;omega
  have d2:decide (65≤c)=false:=by simp;omega
  clear hs a1 a2
  go_enter Tryz.func82,Tryz.ntmps82
  go_wp2
  go_ret
  exact⟨bF HR.out,rfl⟩
 by_cases a4:c=32
 ·subst a4
  have HR:=Lib.hid (show (5:Int)=cls 32 by omega)
  clear hs a1 a2 a3
  go_enter Tryz.func82,Tryz.ntmps82
  go_wp2
  go_ret
  exact⟨bF HR.out,rfl⟩
 by_cases a5:c=10
 ·subst a5
  have HR:=Lib.hid (show (6:Int)=cls 10 by omega)
  clear hs a1 a2 a3 a4
  go_enter Tryz.func82,Tryz.ntmps82
  go_wp2
  go_ret
  exact⟨bF HR.out,rfl⟩
 have HN:=Lib.hid (fun hp=>(VJ c h0 h1 hp a1 a2 a3 a4 a5).symm)
 have e4:(c==32)=false:=by simpa using a4
 have e5:(c==10)=false:=by simpa using a5
 have hcase:c<48∨(57<c∧c<65)∨(90<c∧c<97)∨122<c:=by omega
 clear hs a4 a5 a1 a2 a3
 rcases hcase with b1 | ⟨b1,b2⟩ | ⟨b1,b2⟩ | b1
 all_goals
  go_enter Tryz.func82,Tryz.ntmps82
  go_wp2_with (go_at_call 109;refine(MC _).mono ?_;rintro e w' ⟨rfl,rfl⟩)
  go_loop [4] (fun i=>∃ k:Nat,k≤12∧i=.int .i64 k∧JM c k) (fun i=>12 - (intOf i).toNat)
  case atStart=>exact⟨0,by omega,rfl,JM.zero c⟩
  case round =>
   obtain⟨k,hk,rfl,hp⟩:=hrel
   by_cases hlt:k<12
   ·have hs':k<xJ.size:=hlt
    have hm:(((xJ[k]'hs').toNat:Nat):Int)=uF k:=ZV ⟨k,hlt⟩
    by_cases hc:c=uF k
    ·have HR:=Lib.hid (VI c k hlt hc)
     have hb:((((xJ[k]'hs').toNat:Nat):Int)==c)=true:=by rw[hm,hc];simp
     clear hm hc
     go_wp2
     go_ret
     exact⟨bF HR.out.symm,rfl⟩
    ·have HP:=Lib.hid (hp.succ hc)
     have hb:((((xJ[k]'hs').toNat:Nat):Int)==c)=false:=by rw[hm];simp;exact fun e=>hc e.symm
     clear hm hc
     go_wp2
     exact⟨⟨k+1,by omega,by go_num,HP.out⟩,by simp[intOf];omega⟩
   ·obtain rfl:k=12:=by omega
    have HR:=Lib.hid (HN.out hp)
    go_wp2
    go_ret
    exact⟨bF HR.out,rfl⟩
theorem RI (c k:Int) (h0:0≤c) (h1:c<256) (hk:cls c=k) (w:World) :
  Calls Tryz.prog 82 #[.int .u8 c] w fun e w'=>e=.returned (.int .i64 k)∧w=w':=hk▸MD c h0 h1 w
set_option maxHeartbeats 1000000 in
theorem z8 (c:Int) (h0:0≤c) (h1:c<256) (w:World) :
  Calls Tryz.prog 49 #[.int .u8 c] w fun e w'=>e=.returned (.bool (JK c))∧w=w':=by
 rcases xI c with h | h | h | h | h | h | h
 all_goals
  have hB:=Lib.hid (show JK c=_ from by unfold JK;rw[h])
  have HK:=Lib.hid h;clear h
  go_enter Tryz.func49,Tryz.ntmps49
  go_wp2_with (go_at_call 82;refine(RI c _ h0 h1 HK.out w).mono ?_;rintro e w' ⟨rfl,rfl⟩)
  go_ret
  exact⟨aC hB.out.symm,rfl⟩
theorem RJ:∀ n:Fin 256,((cls (n.val:Int)=5∨cls (n.val:Int)=6)↔(n.val=32∨n.val=10)):=by decide +kernel
theorem ME (b:Nat) (h:b<256):cF (b:Int)=decide (b=32∨b=10):=by
 unfold cF
 rw[decide_eq_decide]
 exact RJ ⟨b,h⟩
set_option maxHeartbeats 1000000 in
theorem MF (b:Nat) (h:b<256) (w:World) :
  Calls Tryz.prog 50 #[.int .u8 (b:Int)] w fun e w'=>e=.returned (.bool (cF (b:Int)))∧w=w':=by
 have HW:=Lib.hid (ME b h)
 by_cases a:b=32
 ·subst a
  have HV:=Lib.hid (show true=cF ((32:Nat):Int) by rw[HW.out];rfl)
  go_enter Tryz.func50,Tryz.ntmps50
  go_wp2
  go_ret
  exact⟨aC HV.out,rfl⟩
 by_cases c:b=10
 ·subst c
  have HV:=Lib.hid (show true=cF ((10:Nat):Int) by rw[HW.out];rfl)
  go_enter Tryz.func50,Tryz.ntmps50
  go_wp2
  go_ret
  exact⟨aC HV.out,rfl⟩
 have HV:=Lib.hid (show false=cF (b:Int) by rw[HW.out];simp[a,c])
 have t1:((b:Int)==32)=false:=beq_eq_false_iff_ne.2 (by omega)
 have t2:((b:Int)==10)=false:=beq_eq_false_iff_ne.2 (by omega)
 clear a c
 go_enter Tryz.func50,Tryz.ntmps50
 go_wp2
 go_ret
 exact⟨aC HV.out,rfl⟩
theorem eP (b:Nat) (v:Bool) (h:b<256) (hv:cF (b:Int)=v) (w:World) :
  Calls Tryz.prog 50 #[.int .u8 (b:Int)] w fun e w'=>e=.returned (.bool v)∧w=w':=hv▸MF b h w
theorem xK (b:Nat) (v:Bool) (h:b<256) (hv:JK (b:Int)=v) (w:World) :
  Calls Tryz.prog 49 #[.int .u8 (b:Int)] w fun e w'=>e=.returned (.bool v)∧w=w':=hv▸z8 (b:Int) (by omega) (by omega) w
end Go.Proofs.YtgpihfacmpbpaaaGreatDoor.Ka
namespace Go.Proofs.YtgpihfacmpbpaaaGreatDoor.Lx
open Go.RowKit
def aA:ByteArray:=⟨#[]⟩
def bytesOf (l:List Nat):ByteArray:=⟨(l.map UInt8.ofNat).toArray⟩
theorem c9 (l:List Nat):(bytesOf l).size=l.length:=by
 show ((l.map UInt8.ofNat).toArray).size=_
 simp
def aH (s:ByteArray):List Nat:=s.data.toList.map UInt8.toNat
theorem bL (s:ByteArray):(aH s).length=s.size:=by unfold aH;rw[List.length_map,Array.length_toList];rfl
def bT (s:ByteArray) (i:Nat):Nat:=(aH s).getD i 0
theorem eF (s:ByteArray) (i:Nat):bT s i<256:=by
 unfold bT aH
 rw[List.getD_eq_getElem?_getD,List.getElem?_map]
 cases h:s.data.toList[i]? with
 | none=>simp
 | some x=>simpa using UInt8.toNat_lt x
theorem cJ (s:ByteArray) (k:Nat) (h:k<s.size):s[k].toNat=bT s k:=by
 unfold bT aH
 have hl:k<s.data.toList.length:=by simpa using h
 rw[List.getD_eq_getElem?_getD,List.getElem?_map,List.getElem?_eq_getElem hl]
 rfl
theorem eU (l:List Nat) (h:∀ x ∈ l,x<256):aH (bytesOf l)=l:=by
 unfold aH bytesOf
 rw[List.toList_toArray,List.map_map]
 conv=>rhs;rw[← List.map_id l]
 apply List.map_congr_left
 intro x hx
 have:=h x hx
 simp[Nat.mod_eq_of_lt this]
theorem mH (s:ByteArray):bytesOf (aH s)=s:=by
 unfold aH bytesOf
 rw[List.map_map]
 have:(UInt8.ofNat ∘ UInt8.toNat)=id:=by funext x;simp
 rw[this,List.map_id,Array.toArray_toList]
theorem DZ {s t:ByteArray} (h:aH s=aH t):s=t:=by rw[← mH s,h,mH]
theorem pT (s:ByteArray) (f e:Nat):aH (s.extract f e)=((aH s).drop f).take (e - f):=by
 unfold aH
 rw[ByteArray.data_extract,Array.toList_extract,List.extract_eq_take_drop,List.map_take,List.map_drop]
theorem wJ {d d':ByteArray} (h:d≠d'):(d.toList==d'.toList)=false:=by
 rw[beq_eq_false_iff_ne]
 intro e
 rw[ByteArray.toList_eq,ByteArray.toList_eq]at e
 exact h (ByteArray.ext (Array.toList_inj.1 e))
theorem fH (s:ByteArray) (a b:Nat) (hb:b≤s.size):(s.extract a b).size=b - a:=by
 rw[ByteArray.size_extract];omega
def lI:List Nat:=[49,50,51,112,108,105,116,114,99,110,101,115,107]
def oR:ByteArray:={ data:=#[49,50,51,112,108,105,116,114,99,110,101,115,107] }
def aY (k:Nat):Nat:=lI.getD k 0
theorem MO:∀ k:Fin 13,((oR[k.val]'(k.isLt)).toNat:Int)=((aY k.val:Nat):Int):=by decide +kernel
def nF (c:Nat):List Nat:=if c=49∨c=50∨c=51 then [104,c] else if c ∈ lI then [c] else []
def bE (c:Nat):ByteArray:=bytesOf (nF c)
theorem RO (c:Nat):(nF c).length≤2:=by unfold nF;split<;>(try split)<;>simp
theorem uH (c:Nat):(bE c).size=(nF c).length:=c9 _
theorem MP:∀ k:Fin 13,aY k.val<256∧aY k.val≠0∧nF (aY k.val)≠[]:=by decide +kernel
theorem uI:∀ b:Fin 256,(b.val ∈ lI)↔∃ k:Fin 13,aY k.val=b.val:=by decide +kernel
def pU (c:Nat) (k:Nat):Prop:=∀ j,j<k→aY j≠c
theorem pU.zero (c:Nat):pU c 0:=fun _ h=>absurd h (by omega)
theorem pU.succ {c k:Nat} (h:pU c k) (hk:aY k≠c):pU c (k+1):=fun j hj=>by
 rcases Nat.lt_or_ge j k with h1 | h1
 ·exact h j h1
 ·obtain rfl:j=k:=by omega
  exact hk
theorem pU.all {c:Nat} (h:pU c 13) (hc:c<256):c ∉ lI:=fun hm=>by
 obtain⟨k,hk⟩:=(uI ⟨c,hc⟩).1 hm
 exact h k.val k.isLt hk
set_option maxHeartbeats 400000 in
theorem pV (w:World):Calls Tryz.prog 81 #[] w fun e w'=>e=.returned (.string oR)∧w=w':=by
 go_enter Tryz.func81,Tryz.ntmps81
 go_wp2
 go_ret
 exact⟨rfl,rfl⟩
theorem BJ (W:World) (g:Nat) (x:Nat) (hx:x<256) (h:W.cell? ⟨g,0,none⟩=some (.int .u8 (x:Int))) :
  (convert 37 9 (.slice (some ⟨g,0,none⟩) 1 1)).run Tryz.prog W=.ok (.string (bytesOf [x])) W:=by
 exact run_convert_bytes_back (P:=Tryz.prog) W 37 9 5 ⟨g,0,none⟩ 1 [UInt8.ofNat x] Tryz.underlying37 Tryz.underlying5 Tryz.underlying9 (fun j hj=>by
  obtain rfl:j=0:=by simp at hj;omega
  have e:(⟨g,0,none⟩:Addr).add 0=⟨g,0,none⟩:=by unfold Addr.add;split<;>simp_all
  have e3:(UInt8.ofNat x).toNat=x:=by simp[Nat.mod_eq_of_lt hx]
  rw[e]
  simp only[List.getElem_cons_zero,e3,h])
set_option maxRecDepth 100000 in
set_option maxHeartbeats 2000000 in
theorem RP (c:Nat) (hc:c<256) (w:World) :
  Calls Tryz.prog 48 #[.int .u8 (c:Int)] w fun e w'=>e=.returned (.string (bE c))∧Below w.heap.size w w':=by
 have hcv:=BJ (w.alloc (.cells #[.int .u8 (c:Int)] 5)) w.heap.size c hc (by simp)
 have hz:(bytesOf [c]).size≤1:=by rw[c9];simp
 by_cases hd:c=49∨c=50∨c=51
 ·have HN:=Lib.hid (show ({ data:=#[104] }:ByteArray)++bytesOf [c]=bE c by
   unfold bE nF;rw[if_pos hd]
   rcases hd with rfl | rfl | rfl<;>decide +kernel)
  have hb:Below w.heap.size w (w.alloc (.cells #[.int .u8 (c:Int)] 5)):=(Below.refl _ w).alloc (Nat.le_refl _) _
  by_cases h1:c=49
  ·have t1:((c:Int)==49)=true:=beq_iff_eq.2 (by omega)
   clear hd h1
   go_enter Tryz.func48,Tryz.ntmps48
   go_wp2
   go_ret
   exact⟨congrArg (fun z=>Ending.returned (.string z)) HN.out,hb⟩
  have t1:((c:Int)==49)=false:=beq_eq_false_iff_ne.2 (by omega)
  by_cases h2:c=50
  ·have t2:((c:Int)==50)=true:=beq_iff_eq.2 (by omega)
   clear hd h1 h2
   go_enter Tryz.func48,Tryz.ntmps48
   go_wp2
   go_ret
   exact⟨congrArg (fun z=>Ending.returned (.string z)) HN.out,hb⟩
  have t2:((c:Int)==50)=false:=beq_eq_false_iff_ne.2 (by omega)
  have t3:((c:Int)==51)=true:=beq_iff_eq.2 (by omega)
  clear hd h1 h2
  go_enter Tryz.func48,Tryz.ntmps48
  go_wp2
  go_ret
  exact⟨congrArg (fun z=>Ending.returned (.string z)) HN.out,hb⟩
 ·have t1:((c:Int)==49)=false:=beq_eq_false_iff_ne.2 (by omega)
  have t2:((c:Int)==50)=false:=beq_eq_false_iff_ne.2 (by omega)
  have t3:((c:Int)==51)=false:=beq_eq_false_iff_ne.2 (by omega)
  have HD:=Lib.hid hd
  clear hd
  go_enter Tryz.func48,Tryz.ntmps48
  go_wp2
  go_loop [3] (fun i=>∃ k:Nat,k≤13∧i=.int .i64 k∧pU c k) (fun i=>13 - (intOf i).toNat)
  case atStart=>exact⟨0,by omega,rfl,pU.zero c⟩
  case round =>
   obtain⟨k,hk,rfl,hp⟩:=hrel
   by_cases hlt:k<13
   ·have hs':k<oR.size:=hlt
    have hm:(((oR[k]'hs').toNat:Nat):Int)=((aY k:Nat):Int):=MO ⟨k,hlt⟩
    by_cases he:aY k=c
    ·have HN:=Lib.hid (show bytesOf [c]=bE c by
      unfold bE nF
      rw[if_neg HD.out,if_pos ((uI ⟨c,hc⟩).2 ⟨⟨k,hlt⟩,he⟩)])
     have hb:((((oR[k]'hs').toNat:Nat):Int)==(c:Int))=true:=by rw[hm,he];simp
     have hB:Below w.heap.size w (w.alloc (.cells #[.int .u8 (c:Int)] 5)):=(Below.refl _ w).alloc (Nat.le_refl _) _
     clear hm he
     go_wp2_with (go_at_call 81;refine(pV _).mono ?_;rintro e w' ⟨rfl,rfl⟩)
     go_ret
     exact⟨congrArg (fun z=>Ending.returned (.string z)) HN.out,hB⟩
    ·have HP:=Lib.hid (hp.succ he)
     have hb:((((oR[k]'hs').toNat:Nat):Int)==(c:Int))=false:=by rw[hm];exact beq_eq_false_iff_ne.2 (by omega)
     clear hm he
     go_wp2_with (go_at_call 81;refine(pV _).mono ?_;rintro e w' ⟨rfl,rfl⟩)
     exact⟨⟨k+1,by omega,by go_num,HP.out⟩,by simp[intOf];omega⟩
   ·obtain rfl:k=13:=by omega
    have HN:=Lib.hid (show aA=bE c by
     unfold bE nF
     rw[if_neg HD.out,if_neg (hp.all hc)];rfl)
    have hb0:Below w.heap.size w w:=Below.refl _ _
    clear hp
    go_wp2_with (go_at_call 81;refine(pV _).mono ?_;rintro e w' ⟨rfl,rfl⟩)
    go_ret
    exact⟨congrArg (fun z=>Ending.returned (.string z)) HN.out,hb0⟩
end Go.Proofs.YtgpihfacmpbpaaaGreatDoor.Lx
namespace Go.Proofs.YtgpihfacmpbpaaaGreatDoor.Lx
open Go.RowKit
def fits (s:ByteArray) (p c:Nat):Prop:=p+(bE c).size≤s.size∧s.extract p (p+(bE c).size)=bE c
instance (s:ByteArray) (p c:Nat):Decidable (fits s p c):=by unfold fits;infer_instance
def cZ (s:ByteArray) (p:Nat):Nat:=match (List.range 13).find? (fun k=>decide (fits s p (aY k)))with | some k=>aY k | none=>0
theorem JW (c:Nat) (hc:c<256) (v:ByteArray) (hv:bE c=v) (z:Int) (hz:z=(c:Int)) (w:World) :
  Calls Tryz.prog 48 #[.int .u8 z] w fun e w'=>e=.returned (.string v)∧Below w.heap.size w w':=by
 subst hz;subst hv;exact RP c hc w
end Go.Proofs.YtgpihfacmpbpaaaGreatDoor.Lx
namespace Go.Proofs.YtgpihfacmpbpaaaGreatDoor.Lx
open Go.RowKit
structure Lx where
 kind:Nat
 name:Nat
 text:ByteArray
 place:Nat
def iD (b:Nat):Bool:=Ka.cF (b:Int)
def jD (b:Nat):Bool:=Ka.JK (b:Int) || Ka.cF (b:Int)
theorem O2:jD 123=false∧jD 125=false:=by decide +kernel
def tnd (s:ByteArray):Nat→Nat→Nat
 | 0,e=>e
 | n+1,e=>if e<s.size∧jD (bT s e)=true then tnd s n (e+1) else e
def C5 (s:ByteArray) (f:Nat):Nat:=tnd s s.size f
def xL (s:ByteArray) (f e:Nat):Prop:=f≤e∧e≤s.size∧(∀ j,f≤j→j<e→jD (bT s j)=true)∧(e<s.size→jD (bT s e)=false)
theorem VR (s:ByteArray) (f:Nat):∀ n e,s.size - e≤n→f≤e→e≤s.size→(∀ j,f≤j→j<e→jD (bT s j)=true)→xL s f (tnd s n e)
 | 0,e,hn,hf,he,hj=>⟨hf,he,hj,fun h=>by have:tnd s 0 e=e:=rfl;omega⟩
 | n+1,e,hn,hf,he,hj=>by
  unfold tnd
  by_cases h:e<s.size∧jD (bT s e)=true
  ·rw[if_pos h]
   refine VR s f n (e+1) (by omega) (by omega) (by omega) (fun j h1 h2=>?_)
   rcases Nat.lt_or_ge j e with h3 | h3
   ·exact hj j h1 h3
   ·obtain rfl:j=e:=by omega
    exact h.2
  ·rw[if_neg h]
   exact⟨hf,he,hj,fun h3=>by
    cases h4:jD (bT s e) with
    | false=>rfl
    | true=>exact absurd ⟨h3,h4⟩ h⟩
theorem pP (s:ByteArray) (f:Nat) (h:f≤s.size):xL s f (C5 s f):=VR s f s.size f (by omega) (Nat.le_refl _) h (fun j h1 h2=>by omega)
theorem xL.unique {s:ByteArray} {f e e':Nat} (h:xL s f e) (h':xL s f e'):e=e':=by
 obtain⟨a1,a2,a3,a4⟩:=h
 obtain⟨b1,b2,b3,b4⟩:=h'
 rcases Nat.lt_trichotomy e e' with h | h | h
 ·have:=b3 e (by omega) h
  rw[a4 (by omega)]at this;cases this
 ·exact h
 ·have:=a3 e' (by omega) h
  rw[b4 (by omega)]at this;cases this
def skip (s:ByteArray) (q:Nat):Nat:=if q<s.size∧iD (bT s q)=true then q+1 else q
def dB (s:ByteArray) (p:Nat):(Lx × Nat) ⊕ Nat :=
 if bT s p=125 then .inl (⟨3,0,aA,p⟩,p+1)
 else if bT s p=123 then
  if cZ s (p+1)=0 then .inr 2 else .inl (⟨2,cZ s (p+1),aA,p⟩,skip s (p+1+(bE (cZ s (p+1))).size))
 else if jD (bT s p)=true then .inl (⟨1,0,s.extract p (C5 s p),p⟩,C5 s p)
 else .inr 3
theorem Z6 (s:ByteArray) (q:Nat):q≤skip s q:=by unfold skip;split<;>omega
theorem oK {s:ByteArray} {p q:Nat} {x:Lx} (hp:p<s.size) (h:dB s p=.inl (x,q)):p<q:=by
 unfold dB at h
 split at h
 ·simp only[Sum.inl.injEq,Prod.mk.injEq]at h;omega
 ·split at h
  ·split at h
   ·cases h
   ·simp only[Sum.inl.injEq,Prod.mk.injEq]at h
    have:=Z6 s (p+1+(bE (cZ s (p+1))).size)
    omega
  ·split at h
   ·rename_i h3
    simp only[Sum.inl.injEq,Prod.mk.injEq]at h
    obtain⟨t1,t2,t3,t4⟩:=pP s p (by omega)
    rcases Nat.eq_or_lt_of_le t1 with h5 | h5
    ·have:=t4 (by omega)
     rw[← h5,h3]at this;cases this
    ·omega
   ·cases h
def oJ (s:ByteArray):Nat→Nat→List Lx × Option (Nat × Nat)
 | 0,_=>([],none)
 | n+1,p=>if p<s.size then (match dB s p with
   | .inr e=>([],some (p,e))
   | .inl (x,q)=>(x::(oJ s n q).1,(oJ s n q).2)) else ([],none)
def iG (s:ByteArray) (p:Nat):List Lx × Option (Nat × Nat):=oJ s s.size p
theorem D5 (s:ByteArray):∀ n m p,s.size - p≤n→s.size - p≤m→oJ s n p=oJ s m p
 | 0,0,_,_,_=>rfl
 | 0,m+1,p,hn,hm=>by unfold oJ;rw[if_neg (by omega)]
 | n+1,0,p,hn,hm=>by unfold oJ;rw[if_neg (by omega)]
 | n+1,m+1,p,hn,hm=>by
  unfold oJ
  by_cases h:p<s.size
  ·rw[if_pos h,if_pos h]
   cases hs:dB s p with
   | inr e=>rfl
   | inl xq =>
    obtain⟨x,q⟩:=xq
    have:=oK h hs
    simp only[]
    rw[D5 s n m q (by omega) (by omega)]
  ·rw[if_neg h,if_neg h]
theorem JX (s:ByteArray) (p:Nat) (h:s.size≤p):iG s p=([],none):=by
 unfold iG
 cases s.size with
 | zero=>rfl
 | succ n=>unfold oJ;rw[if_neg (by omega)]
theorem tA (s:ByteArray) (p:Nat) (h:p<s.size):iG s p=(match dB s p with | .inr e=>([],some (p,e)) | .inl (x,q)=>(x::(iG s q).1,(iG s q).2)):=by
 unfold iG
 obtain⟨n,hn⟩:∃ n,s.size=n+1:=⟨s.size - 1,by omega⟩
 conv=>lhs;rw[hn];unfold oJ
 rw[if_pos h]
 cases hs:dB s p with
 | inr e=>rfl
 | inl xq =>
  obtain⟨x,q⟩:=xq
  have:=oK h hs
  simp only[]
  rw[D5 s n s.size q (by omega) (by omega)]
def Reach (s:ByteArray) (p:Nat) (pre:List Lx):Prop:=p≤s.size∧iG s 0=(pre++(iG s p).1,(iG s p).2)
theorem Reach.zero (s:ByteArray):Reach s 0 []:=⟨Nat.zero_le _,rfl⟩
theorem Reach.step {s:ByteArray} {p q:Nat} {pre:List Lx} {x:Lx} (h:Reach s p pre) (hp:p<s.size) (hs:dB s p=.inl (x,q)) (hq:q≤s.size):Reach s q (pre++[x]):=by
 obtain⟨_,h⟩:=h
 refine⟨hq,?_⟩
 rw[tA s p hp,hs]at h
 simp only[]at h
 rw[h];simp
theorem Reach.bad {s:ByteArray} {p e:Nat} {pre:List Lx} (h:Reach s p pre) (hp:p<s.size) (hs:dB s p=.inr e):(iG s 0).2=some (p,e):=by
 obtain⟨_,h⟩:=h
 rw[tA s p hp,hs]at h
 simp only[]at h
 rw[h]
theorem Reach.all {s:ByteArray} {pre:List Lx} (h:Reach s s.size pre):iG s 0=(pre,none):=by
 obtain⟨_,h⟩:=h
 rw[JX s s.size (Nat.le_refl _)]at h
 simpa using h
def gV (s:ByteArray):List Lx:=if 8192<s.size then [] else match (iG s 0).2 with | none=>(iG s 0).1 | some _=>[]
def qR (s:ByteArray):Nat:=if 8192<s.size then 0 else match (iG s 0).2 with | none=>0 | some x=>x.1
def nD (s:ByteArray):Nat:=if 8192<s.size then 4 else match (iG s 0).2 with | none=>0 | some x=>x.2
theorem vN {s:ByteArray} (h:8192<s.size):gV s=[]∧qR s=0∧nD s=4:=by
 unfold gV qR nD;rw[if_pos h,if_pos h,if_pos h];exact⟨rfl,rfl,rfl⟩
theorem Z4 {s:ByteArray} {p e:Nat} (hs:¬ 8192<s.size) (h:(iG s 0).2=some (p,e)):gV s=[]∧qR s=p∧nD s=e:=by
 unfold gV qR nD;rw[if_neg hs,if_neg hs,if_neg hs,h];exact⟨rfl,rfl,rfl⟩
theorem aCU {s:ByteArray} {l:List Lx} (hs:¬ 8192<s.size) (h:iG s 0=(l,none)):gV s=l∧qR s=0∧nD s=0:=by
 unfold gV qR nD;rw[if_neg hs,if_neg hs,if_neg hs,h];exact⟨rfl,rfl,rfl⟩
theorem uG {s:ByteArray} {p:Nat} (h:cZ s p≠0):fits s p (cZ s p):=by
 unfold cZ at h ⊢
 cases hf:(List.range 13).find? (fun k=>decide (fits s p (aY k))) with
 | none=>rw[hf]at h;exact absurd rfl h
 | some k =>
  have:=List.find?_some hf
  simpa using this
theorem VS (s:ByteArray) (p:Nat):cZ s p<256:=by
 unfold cZ
 cases hf:(List.range 13).find? (fun k=>decide (fits s p (aY k))) with
 | none=>simp
 | some k =>
  have hk:=List.mem_of_find?_eq_some hf
  exact(MP ⟨k,List.mem_range.1 hk⟩).1
def MS (s:ByteArray) (k t:Nat) (out:List Lx):Prop :=
 (t=0∧Reach s k out)∨(t=1∧∃ p pre,out=pre++[⟨1,0,s.extract p k,p⟩]∧p<k∧k≤s.size∧Reach s p pre∧∀ j,p≤j→j<k→jD (bT s j)=true)
theorem iZ {s:ByteArray} {p:Nat} (h:jD (bT s p)=true):dB s p=.inl (⟨1,0,s.extract p (C5 s p),p⟩,C5 s p):=by
 unfold dB
 have h1:bT s p≠125:=fun e=>by rw[e,O2.2]at h;cases h
 have h2:bT s p≠123:=fun e=>by rw[e,O2.1]at h;cases h
 rw[if_neg h1,if_neg h2,if_pos h]
theorem MS.first {s:ByteArray} {k:Nat} {out:List Lx} (h:MS s k 0 out) (hk:k<s.size) (hb:jD (bT s k)=true):MS s (k+1) 1 (out++[⟨1,0,s.extract k (k+1),k⟩]):=by
 rcases h with⟨_,h⟩ | ⟨h,_⟩
 ·refine .inr ⟨rfl,k,out,rfl,by omega,by omega,h,fun j h1 h2=>?_⟩
  obtain rfl:j=k:=by omega
  exact hb
 ·cases h
theorem mO {s:ByteArray} {p:Nat} (h:bT s p=125):dB s p=.inl (⟨3,0,aA,p⟩,p+1):=by unfold dB;rw[if_pos h]
theorem jV {s:ByteArray} {p:Nat} (h:bT s p=123) (hc:cZ s (p+1)≠0):dB s p=.inl (⟨2,cZ s (p+1),aA,p⟩,skip s (p+1+(bE (cZ s (p+1))).size)):=by
 unfold dB;rw[if_neg (by omega),if_pos h,if_neg hc]
theorem oQ {s:ByteArray} {p:Nat} (h:bT s p=123) (hc:cZ s (p+1)=0):dB s p=.inr 2:=by
 unfold dB;rw[if_neg (by omega),if_pos h,if_pos hc]
theorem rW {s:ByteArray} {p:Nat} (h1:bT s p≠125) (h2:bT s p≠123) (h:jD (bT s p)=false):dB s p=.inr 3:=by
 unfold dB;rw[if_neg h1,if_neg h2,if_neg (by rw[h];simp)]
theorem Z5 {s:ByteArray} {p:Nat} (hc:cZ s (p+1)≠0):skip s (p+1+(bE (cZ s (p+1))).size)≤s.size:=by
 have:=(uG hc).1
 unfold skip;split<;>omega
end Go.Proofs.YtgpihfacmpbpaaaGreatDoor.Lx
namespace Go.Proofs.YtgpihfacmpbpaaaGreatDoor.Lx
open Go.RowKit
theorem Z3:(Tryz.prog.info? 71).map (fun i=>(i.zero,i.size,i.bytes))=some (some (.agg #[.int .i64 0,.int .u8 0,.string { data:=#[] },.int .i64 0]),4,40):=by kernel_rfl
def dJ (x:Lx):List Value:=[.int .i64 ((x.kind:Nat):Int),.int .u8 ((x.name:Nat):Int),.string x.text,.int .i64 ((x.place:Nat):Int)]
def pQ (l:List Lx):List Value:=l.flatMap dJ
theorem F2 (l:List Lx) (x:Lx):pQ (l++[x])=pQ l++dJ x:=by simp[pQ]
theorem C6 (w:World) (x y z v:Value) (t:TypeId):∀ j u,[x,y,z,v][j]?=some u→(w.alloc (.cells #[x,y,z,v] t)).cell? ((⟨w.heap.size,0,none⟩:Addr).add j)=some u:=by
 intro j u h
 have e:(⟨w.heap.size,0,none⟩:Addr).add j=⟨w.heap.size,j,none⟩:=by unfold Addr.add;split<;>simp_all
 rw[e]
 match j,h with
 | 0,h=>simp at h;subst h;simp
 | 1,h=>simp at h;subst h;simp
 | 2,h=>simp at h;subst h;simp
 | 3,h=>simp at h;subst h;simp
 | n+4,h=>simp at h
end Go.Proofs.YtgpihfacmpbpaaaGreatDoor.Lx
namespace Go.Proofs.YtgpihfacmpbpaaaGreatDoor.Lx
open Go.RowKit
theorem cV {W W':World} {B e size n:Nat} {v:Value} {xs:List Value} (h:W.ownsRow B e size v n xs) (hb:Below W.heap.size W W'):W'.ownsRow B e size v n xs:=by
 refine⟨h.1,?_⟩
 rcases h.2 with hn | ⟨g,cap,cur,hv,hbg,hg,rest⟩
 ·exact .inl hn
 ·exact .inr ⟨g,cap,cur,hv,hbg,(hb.block g (Array.getElem?_eq_some_iff.1 hg).1).trans hg,rest⟩
theorem OZ (s:ByteArray) (f e e':Nat) (h:f≤e) (h':e≤e'):s.extract f e++s.extract e e'=s.extract f e':=by
 rw[ByteArray.extract_append_extract]
 simp[Nat.min_eq_left,Nat.max_eq_right,h,h']
def BI (s:ByteArray) (e:Ending) (w':World) (B:Nat):Prop :=
 ∃ v,e=.returned (.tuple #[v,.int .i64 ((qR s:Nat):Int),.int .i64 ((nD s:Nat):Int)])∧w'.ownsRow B 71 4 v (gV s).length (pQ (gV s))
theorem BI.nil {s:ByteArray} {w':World} {B:Nat} {p e:Nat} (h:gV s=[]∧qR s=p∧nD s=e):BI s (.returned (.tuple #[.slice none 0 0,.int .i64 ((p:Nat):Int),.int .i64 ((e:Nat):Int)])) w' B:=by
 obtain⟨h1,h2,h3⟩:=h
 refine⟨.slice none 0 0,by rw[h2,h3],?_⟩
 rw[h1];exact World.ownsRow_nil _ _ _ _
end Go.Proofs.YtgpihfacmpbpaaaGreatDoor.Lx
namespace Go.Proofs.YtgpihfacmpbpaaaGreatDoor.Lx
open Go.RowKit
theorem below_drewN {B:Nat} {a w:World} (h:Below B a w) (n:Nat):Below B a (w.drewN n):=h.trans ⟨rfl,rfl,rfl,Nat.le_refl _,fun _ _=>rfl⟩
theorem yV (s:ByteArray):∀ n p,(oJ s n p).1.length≤n
 | 0,p=>by simp[oJ]
 | n+1,p=>by
  unfold oJ
  by_cases h:p<s.size
  ·rw[if_pos h]
   cases hs:dB s p with
   | inr e=>simp
   | inl xq =>
    obtain⟨x,q⟩:=xq
    have:=yV s n q
    simp only[List.length_cons];omega
  ·rw[if_neg h];simp
end Go.Proofs.YtgpihfacmpbpaaaGreatDoor.Lx
namespace Go.Proofs.YtgpihfacmpbpaaaGreatDoor.Lx
open Go.RowKit
theorem O3 (s:ByteArray) (p:Nat) (h:p<s.size):s.extract p (p+1)=bytesOf [bT s p]:=by
 apply DZ
 rw[pT,eU _ (by intro x hx;simp at hx;subst hx;exact eF s p),Nat.add_sub_cancel_left]
 have hl:=bL s
 unfold bT
 rw[List.take_one,List.head?_drop,List.getD_eq_getElem?_getD,List.getElem?_eq_getElem (by omega)]
 rfl
theorem pG {s:ByteArray} {p q:Nat} {x:Lx} (hp:p<s.size) (h:dB s p=.inl (x,q)) :
  (x=⟨3,0,aA,p⟩∧q=p+1∧bT s p=125∧s.extract p (p+1)={ data:=#[125] }) ∨
  (∃ c n,c<256∧bE c=n∧0<n.size∧n.size≤2∧x=⟨2,c,aA,p⟩∧bT s p=123∧p+1+n.size≤s.size∧s.extract p (p+1+n.size)={ data:=#[123] }++n∧q=skip s (p+1+n.size)) ∨
  (∃ e,p<e∧e≤s.size∧x=⟨1,0,s.extract p e,p⟩∧q=e∧jD (bT s p)=true∧(e<s.size→jD (bT s e)=false)):=by
 have hlt:=oK hp h
 unfold dB at h
 split at h
 ·rename_i h1
  simp only[Sum.inl.injEq,Prod.mk.injEq]at h
  exact .inl ⟨h.1.symm,h.2.symm,h1,by rw[O3 s p hp,h1];decide +kernel⟩
 ·split at h
  ·rename_i h1 h2
   split at h
   ·cases h
   ·rename_i h3
    simp only[Sum.inl.injEq,Prod.mk.injEq]at h
    obtain⟨c,hc⟩:∃ c,cZ s (p+1)=c:=⟨_,rfl⟩
    have hf:=uG h3
    have h256:=VS s (p+1)
    rw[hc]at h h3 hf h256
    refine .inr (.inl ⟨c,bE c,h256,rfl,?_,by rw[uH];exact RO _,h.1.symm,h2,hf.1,?_,h.2.symm⟩)
    ·rw[uH]
     have:∀ c:Fin 256,(c.val=0→nF c.val=[])∧(nF c.val=[]→c.val ∉ lI):=by decide +kernel
     have hm:c ∈ lI:=by
      unfold cZ at hc
      cases hff:(List.range 13).find? (fun k=>decide (fits s (p+1) (aY k))) with
      | none=>rw[hff]at hc;exact absurd hc.symm h3
      | some k =>
       rw[hff]at hc
       have hk:=List.mem_range.1 (List.mem_of_find?_eq_some hff)
       exact(uI ⟨c,h256⟩).2 ⟨⟨k,hk⟩,hc⟩
     rcases Nat.eq_zero_or_pos (nF c).length with h0 | h0
     ·exact absurd hm ((this ⟨c,h256⟩).2 (List.eq_nil_of_length_eq_zero h0))
     ·exact h0
    ·have e:s.extract p (p+1)={ data:=#[123] }:=by rw[O3 s p hp,h2];decide +kernel
     rw[← OZ s p (p+1) (p+1+(bE c).size) (by omega) (by omega),e,hf.2]
  ·rename_i h1 h2
   split at h
   ·rename_i h3
    simp only[Sum.inl.injEq,Prod.mk.injEq]at h
    obtain⟨_,t2,_,t4⟩:=pP s p (by omega)
    exact .inr (.inr ⟨C5 s p,by omega,t2,h.1.symm,h.2.symm,h3,t4⟩)
   ·cases h
def At (s:ByteArray) (l:List Lx) (k p:Nat):Prop :=
 p≤s.size∧k≤l.length∧iG s p=(l.drop k,none)∧(∀ y,0<k→l[k - 1]?=some y→y.kind=1→p<s.size→jD (bT s p)=false)
theorem At.zero {s:ByteArray} {l:List Lx} (h:iG s 0=(l,none)):At s l 0 0:=⟨Nat.zero_le _,Nat.zero_le _,h,fun _ h0=>absurd h0 (by omega)⟩
theorem At.lt {s:ByteArray} {l:List Lx} {k p:Nat} (h:At s l k p) (hk:k<l.length):p<s.size:=by
 rcases Nat.lt_or_ge p s.size with h1 | h1
 ·exact h1
 ·have h2:=h.2.2.1
  rw[JX s p h1]at h2
  have:=congrArg (fun z=>z.1.length) h2
  simp only[List.length_nil,List.length_drop]at this
  omega
theorem At.step {s:ByteArray} {l:List Lx} {k p:Nat} (h:At s l k p) (hk:k<l.length):∃ x q,l[k]?=some x∧dB s p=.inl (x,q)∧At s l (k+1) q:=by
 have hp:=h.lt hk
 have h2:=h.2.2.1
 rw[tA s p hp]at h2
 cases hs:dB s p with
 | inr e=>rw[hs]at h2;simp at h2
 | inl xq =>
  obtain⟨x,q⟩:=xq
  rw[hs]at h2
  simp only[Prod.mk.injEq]at h2
  have hd:l.drop k=l[k]::l.drop (k+1):=List.drop_eq_getElem_cons hk
  rw[hd]at h2
  simp only[List.cons.injEq]at h2
  obtain⟨⟨h3,h4⟩,h5⟩:=h2
  have hq:q≤s.size∧(x.kind=1→q<s.size→jD (bT s q)=false):=by
   rcases pG hp hs with⟨rfl,rfl,_⟩ | ⟨c,n,_,_,_,_,rfl,_,hn,_,rfl⟩ | ⟨e,_,he,rfl,rfl,_,ht⟩
   ·exact⟨by omega,fun h=>by cases h⟩
   ·refine⟨?_,fun h=>by cases h⟩
    unfold skip;split<;>omega
   ·exact⟨he,fun _=>ht⟩
  refine⟨x,q,by rw[List.getElem?_eq_getElem hk,h3],rfl,hq.1,by omega,?_,fun y _ hy hy1=>?_⟩
  ·rw[← h4,← h5]
  ·rw[Nat.add_sub_cancel,List.getElem?_eq_getElem hk,← h3]at hy
   injection hy with hy
   subst hy
   exact hq.2 hy1
theorem zY {s:ByteArray} (h:nD s=0):iG s 0=(gV s,none):=by
 by_cases hs:8192<s.size
 ·rw[(vN hs).2.2]at h;cases h
 ·unfold nD at h
  rw[if_neg hs]at h
  unfold gV
  rw[if_neg hs]
  have hb:∀ p e,(iG s 0).2=some (p,e)→e≠0:=by
   have:∀ n p x y,(oJ s n p).2=some (x,y)→y≠0:=by
    intro n
    induction n with
    | zero=>intro p x y h;simp[oJ]at h
    | succ n ih =>
     intro p x y h
     unfold oJ at h
     split at h
     ·cases hst:dB s p with
      | inr e =>
       rw[hst]at h
       simp only[Option.some.injEq,Prod.mk.injEq]at h
       obtain⟨_,rfl⟩:=h
       unfold dB at hst
       split at hst
       ·cases hst
       ·split at hst
        ·split at hst
         ·injection hst with hst;omega
         ·cases hst
        ·split at hst
         ·cases hst
         ·injection hst with hst;omega
      | inl xq =>
       obtain⟨x',q⟩:=xq
       rw[hst]at h
       exact ih q x y h
     ·cases h
   exact fun p e=>this _ _ p e
  cases h2:(iG s 0).2 with
  | none=>exact Prod.ext rfl h2
  | some z=>rw[h2]at h;exact absurd h (hb z.1 z.2 h2)
end Go.Proofs.YtgpihfacmpbpaaaGreatDoor.Lx
namespace Go.Proofs.YtgpihfacmpbpaaaGreatDoor.Lx
open Go.RowKit
theorem eJ (u t:ByteArray):aH (u++t)=aH u++aH t:=by
 unfold aH;rw[ByteArray.data_append,Array.toList_append,List.map_append]
theorem UD (u t:ByteArray) (i:Nat) (h:i<u.size):bT (u++t) i=bT u i:=by
 unfold bT
 rw[eJ,List.getD_eq_getElem?_getD,List.getD_eq_getElem?_getD,List.getElem?_append_left (by rw[bL];exact h)]
theorem oM (u t:ByteArray) (i:Nat):bT (u++t) (u.size+i)=bT t i:=by
 unfold bT
 rw[eJ,List.getD_eq_getElem?_getD,List.getD_eq_getElem?_getD,List.getElem?_append_right (by rw[bL];omega),bL,Nat.add_sub_cancel_left]
theorem D4 (u t:ByteArray) (p e:Nat):(u++t).extract (u.size+p) (u.size+e)=t.extract p e:=by
 apply DZ
 rw[pT,pT,eJ,show u.size+e - (u.size+p)=e - p from by omega]
 congr 1
 have hl:=bL u
 rw[← hl,List.drop_append]
 simp
theorem rY (u t:ByteArray):(u++t).size=u.size+t.size:=ByteArray.size_append
theorem BF (u t:ByteArray) (q c:Nat):fits (u++t) (u.size+q) c↔fits t q c:=by
 unfold fits
 rw[show u.size+q+(bE c).size=u.size+(q+(bE c).size) from by omega,D4,rY]
 exact⟨fun x=>⟨by omega,x.2⟩,fun x=>⟨by omega,x.2⟩⟩
theorem find_congr {α:Type} {f g:α→Bool}:∀ l:List α,(∀ x ∈ l,f x=g x)→l.find? f=l.find? g
 | [],_=>rfl
 | x::l,h=>by
  rw[List.find?_cons,List.find?_cons,h x (List.mem_cons_self ..),find_congr l (fun y hy=>h y (List.mem_cons_of_mem _ hy))]
theorem yT {s s':ByteArray} {q q':Nat} (h:∀ k,k<13→(fits s q (aY k)↔fits s' q' (aY k))):cZ s q=cZ s' q':=by
 unfold cZ
 have:(List.range 13).find? (fun k=>decide (fits s q (aY k)))=(List.range 13).find? (fun k=>decide (fits s' q' (aY k))):=by
  apply find_congr
  intro k hk
  have:=h k (List.mem_range.1 hk)
  simp only[this]
 rw[this]
theorem MQ (u t:ByteArray) (p:Nat) (hp:p≤t.size):C5 (u++t) (u.size+p)=u.size+C5 t p:=by
 obtain⟨a1,a2,a3,a4⟩:=pP t p hp
 refine(pP (u++t) (u.size+p) (by rw[rY];omega)).unique ⟨by omega,by rw[rY];omega,fun j h1 h2=>?_,fun h=>?_⟩
 ·obtain⟨i,rfl⟩:∃ i,j=u.size+i:=⟨j - u.size,by omega⟩
  rw[oM];exact a3 i (by omega) (by omega)
 ·rw[oM];exact a4 (by rw[rY]at h;omega)
theorem MR (u t:ByteArray) (q:Nat):skip (u++t) (u.size+q)=u.size+skip t q:=by
 unfold skip
 rw[oM,rY]
 by_cases hw:q<t.size∧iD (bT t q)=true
 ·rw[if_pos ⟨by omega,hw.2⟩,if_pos hw];omega
 ·rw[if_neg (fun x=>hw ⟨by omega,x.2⟩),if_neg hw]
def aCV (n:Nat) (x:Lx):Lx:={ x with place:=n+x.place }
def ML (n:Nat):(Lx × Nat) ⊕ Nat→(Lx × Nat) ⊕ Nat
 | .inl (x,q)=>.inl (aCV n x,n+q)
 | .inr e=>.inr e
theorem MM (u t:ByteArray) (p:Nat) (hp:p<t.size):dB (u++t) (u.size+p)=ML u.size (dB t p):=by
 have hB:=oM u t p
 by_cases h1:bT t p=125
 ·rw[mO h1,mO (hB.trans h1)];rfl
 by_cases h2:bT t p=123
 ·have hO:cZ (u++t) (u.size+p+1)=cZ t (p+1):=yT fun k _=>BF u t (p+1) (aY k)
  by_cases h3:cZ t (p+1)=0
  ·rw[oQ h2 h3,oQ (hB.trans h2) (hO.trans h3)];rfl
  ·have h4:cZ (u++t) (u.size+p+1)≠0:=by rw[hO];exact h3
   rw[jV h2 h3,jV (hB.trans h2) h4,hO,show u.size+p+1+(bE (cZ t (p+1))).size=u.size+(p+1+(bE (cZ t (p+1))).size) from by omega,MR]
   rfl
 ·by_cases h3:jD (bT t p)=true
  ·rw[iZ h3,iZ (by rw[hB];exact h3),MQ u t p (by omega),D4];rfl
  ·have h4:jD (bT t p)=false:=by simpa using h3
   rw[rW h1 h2 h4,rW (by rw[hB];exact h1) (by rw[hB];exact h2) (by rw[hB];exact h4)];rfl
theorem IK {s:ByteArray} {p q:Nat} {x:Lx} (hp:p<s.size) (h:dB s p=.inl (x,q)):q≤s.size∧x.place=p:=by
 by_cases h1:bT s p=125
 ·rw[mO h1]at h
  simp only[Sum.inl.injEq,Prod.mk.injEq]at h
  obtain⟨rfl,rfl⟩:=h
  exact⟨by omega,rfl⟩
 by_cases h2:bT s p=123
 ·by_cases hc:cZ s (p+1)=0
  ·rw[oQ h2 hc]at h;cases h
  ·rw[jV h2 hc]at h
   simp only[Sum.inl.injEq,Prod.mk.injEq]at h
   obtain⟨rfl,rfl⟩:=h
   exact⟨Z5 hc,rfl⟩
 ·by_cases h3:jD (bT s p)=true
  ·rw[iZ h3]at h
   simp only[Sum.inl.injEq,Prod.mk.injEq]at h
   obtain⟨rfl,rfl⟩:=h
   exact⟨(pP s p (by omega)).2.1,rfl⟩
  ·rw[rW h1 h2 (by simpa using h3)]at h;cases h
end Go.Proofs.YtgpihfacmpbpaaaGreatDoor.Lx
