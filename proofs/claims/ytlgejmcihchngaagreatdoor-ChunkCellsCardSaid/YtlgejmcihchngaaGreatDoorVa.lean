/-
  Put together: KaA, KaB.
-/
import Derived.Test.YtlgejmcihchngaaGreatDoorRows
import Derived.WalkKit
import Derived.WalkSpells
import Derived.WalkLawsBesides
import Derived.Lib.Hide
import Derived.Outline
namespace Go.Proofs.YtlgejmcihchngaaGreatDoor.Ka
open Go.RowKit
def markL:List Nat:=[46,44,59,58,33,63,39,34,45,40,41,47]
def clsN (n:Nat):Nat :=
 if 97≤n∧n≤122 then 1 else if 65≤n∧n≤90 then 2 else if 48≤n∧n≤57 then 3
 else if n=32 then 5 else if n=10 then 6 else if markL.contains n then 4 else 0
def cls (c:Int):Int:=(clsN c.toNat:Int)
def tabN (i:Nat):Nat:=[6597069766656,0,4919056986126943301,4611761005120402227,2459565876494606880,2345624805922,1229782938247303440,1172812402961,0,0,0,0,0,0,0,0].getD i 0
def Laid (w:World):Prop:=0<w.heap.size∧∀ i:Nat,i<16→w.cell? ⟨0,i,none⟩=some (.int .u64 (tabN i:Int))
theorem Laid.below {w w':World} {B:Nat} (h:Laid w) (hb:Below B w w') (hB:0<B):Laid w' :=
 ⟨Nat.lt_of_lt_of_le h.1 hb.size,fun i hi=>(hb.cell (p:=⟨0,i,none⟩) hB).trans (h.2 i hi)⟩
theorem Laid.cell {w:World} (h:Laid w) {i:Nat} (hi:i<16):w.cell? ⟨0,i,none⟩=some (.int .u64 (tabN i:Int)):=h.2 i hi
theorem clsN_le (n:Nat):clsN n≤6:=by
 unfold clsN;repeat' split
 all_goals omega
theorem cls_cases (c:Int):cls c=0∨cls c=1∨cls c=2∨cls c=3∨cls c=4∨cls c=5∨cls c=6:=by
 have:=clsN_le c.toNat;unfold cls;omega
theorem tab_all:∀ n:Fin 256,wrap64 (bits .and .u64 ((tabN ((((n.val:Nat):Int) / 16).toNat):Int) / 2 ^ (((n.val:Nat):Int) % 16 * 4).toNat) 15)=cls (n.val:Int):=by decide +kernel
theorem tab_cls (c:Int) (h0:0≤c) (h1:c<256):wrap64 (bits .and .u64 ((tabN ((c / 16).toNat):Int) / 2 ^ (c % 16 * 4).toNat) 15)=cls c:=by
 obtain⟨n,rfl⟩:=Int.eq_ofNat_of_zero_le h0
 exact tab_all ⟨n,by omega⟩
theorem ret_int {k:IntKind} {a b:Int} (h:a=b):Ending.returned (.int k a)=.returned (.int k b):=by rw[h]
theorem ret_bool {a b:Bool} (h:a=b):Ending.returned (.bool a)=.returned (.bool b):=by rw[h]
set_option maxHeartbeats 400000 in
theorem class_at (c k:Int) (h0:0≤c) (h1:c<256) (hk:cls c=k) (w:World) (hL:Laid w) :
  Calls Tryz.prog 51 #[.int .u8 c] w fun e w'=>e=.returned (.int .i64 k)∧w=w':=by
 have hc:=hL.cell (i:=(c / 16).toNat) (by omega)
 have HK:=Lib.hid hk;clear hk
 have HT:=Lib.hid (tab_cls c h0 h1)
 go_enter Tryz.func51,Tryz.ntmps51
 go_wp2
 go_ret
 exact⟨ret_int (HT.out.trans HK.out),rfl⟩
def isB (c:Int):Bool:=decide (1≤cls c∧cls c≤5)
def whiteB (c:Int):Bool:=decide (cls c=5∨cls c=6)
def lowerI (c:Int):Int:=if cls c=2 then c+32 else c
set_option maxHeartbeats 1000000 in
theorem is_any (c:Int) (h0:0≤c) (h1:c<256) (w:World) (hL:Laid w) :
  Calls Tryz.prog 56 #[.int .u8 c] w fun e w'=>e=.returned (.bool (isB c))∧w=w':=by
 rcases cls_cases c with h | h | h | h | h | h | h
 all_goals
  have hB:=Lib.hid (show isB c=_ from by unfold isB;rw[h])
  have HK:=Lib.hid h;clear h
  go_enter Tryz.func56,Tryz.ntmps56
  go_wp2_with (go_at_call 51;refine(class_at c _ h0 h1 HK.out w hL).mono ?_;rintro e w' ⟨rfl,rfl⟩)
  go_ret
  exact⟨ret_bool hB.out.symm,rfl⟩
set_option maxHeartbeats 1000000 in
theorem white_any (c:Int) (h0:0≤c) (h1:c<256) (w:World) (hL:Laid w) :
  Calls Tryz.prog 57 #[.int .u8 c] w fun e w'=>e=.returned (.bool (whiteB c))∧w=w':=by
 rcases cls_cases c with h | h | h | h | h | h | h
 all_goals
  have hB:=Lib.hid (show whiteB c=_ from by unfold whiteB;rw[h])
  have HK:=Lib.hid h;clear h
  go_enter Tryz.func57,Tryz.ntmps57
  go_wp2_with (go_at_call 51;refine(class_at c _ h0 h1 HK.out w hL).mono ?_;rintro e w' ⟨rfl,rfl⟩)
  go_ret
  exact⟨ret_bool hB.out.symm,rfl⟩
end Go.Proofs.YtlgejmcihchngaaGreatDoor.Ka
namespace Go.Proofs.YtlgejmcihchngaaGreatDoor.Ka
open Go.RowKit
theorem spec_all:∀ n:Fin 256,
  ((97≤n.val∧n.val≤122)→clsN n.val=1)∧((65≤n.val∧n.val≤90)→clsN n.val=2)∧((48≤n.val∧n.val≤57)→clsN n.val=3)∧(n.val=32→clsN n.val=5)∧(n.val=10→clsN n.val=6) ∧
  ((n.val=46∨n.val=44∨n.val=59∨n.val=58∨n.val=33∨n.val=63∨n.val=39∨n.val=34∨n.val=45∨n.val=40∨n.val=41∨n.val=47)→clsN n.val=4) ∧
  ((¬ (97≤n.val∧n.val≤122)∧¬ (65≤n.val∧n.val≤90)∧¬ (48≤n.val∧n.val≤57)∧n.val≠32∧n.val≠10 ∧
   ¬ (n.val=46∨n.val=44∨n.val=59∨n.val=58∨n.val=33∨n.val=63∨n.val=39∨n.val=34∨n.val=45∨n.val=40∨n.val=41∨n.val=47))→clsN n.val=0):=by decide +kernel
theorem cls_spec (c:Int) (h0:0≤c) (h1:c<256) :
  ((97≤c∧c≤122)→cls c=1)∧((65≤c∧c≤90)→cls c=2)∧((48≤c∧c≤57)→cls c=3)∧(c=32→cls c=5)∧(c=10→cls c=6) ∧
  ((c=46∨c=44∨c=59∨c=58∨c=33∨c=63∨c=39∨c=34∨c=45∨c=40∨c=41∨c=47)→cls c=4) ∧
  ((¬ (97≤c∧c≤122)∧¬ (65≤c∧c≤90)∧¬ (48≤c∧c≤57)∧c≠32∧c≠10 ∧
   ¬ (c=46∨c=44∨c=59∨c=58∨c=33∨c=63∨c=39∨c=34∨c=45∨c=40∨c=41∨c=47))→cls c=0):=by
 obtain⟨n,rfl⟩:=Int.eq_ofNat_of_zero_le h0
 have h:=spec_all ⟨n,by omega⟩
 simp only[]at h
 unfold cls
 simp only[Int.toNat_natCast]
 omega
def markAt (k:Nat):Int:=((markL.getD k 0:Nat):Int)
def Past (c:Int) (k:Nat):Prop:=∀ j,j<k→c≠markAt j
theorem Past.zero (c:Int):Past c 0:=fun _ h=>absurd h (by omega)
theorem Past.succ {c:Int} {k:Nat} (h:Past c k) (hne:c≠markAt k):Past c (k+1):=fun j hj=>by
 rcases Nat.lt_or_ge j k with h' | h'
 ·exact h j h'
 ·obtain rfl:j=k:=by omega
  exact hne
theorem mark_all:∀ k:Fin 12,cls (markAt k.val)=4:=by decide +kernel
theorem mark_cls (c:Int) (k:Nat) (hk:k<12) (h:c=markAt k):cls c=4:=by rw[h];exact mark_all ⟨k,hk⟩
def marksS:ByteArray:={ data:=#[46,44,59,58,33,63,39,34,45,40,41,47] }
set_option maxHeartbeats 400000 in
theorem rmarks_any (w:World):Calls Tryz.prog 65 #[] w fun e w'=>e=.returned (.string marksS)∧w=w':=by
 go_enter Tryz.func65,Tryz.ntmps65
 go_wp2
 go_ret
 exact⟨rfl,rfl⟩
theorem mark_at:∀ k:Fin 12,((marksS[k.val]'(k.isLt)).toNat:Int)=markAt k.val:=by decide +kernel
theorem past_cls (c:Int) (h0:0≤c) (h1:c<256) (h:Past c 12) (a1:¬ (97≤c∧c≤122)) (a2:¬ (65≤c∧c≤90)) (a3:¬ (48≤c∧c≤57)) (a4:c≠32) (a5:c≠10):cls c=0:=by
 have p0:c≠46:=h 0 (by omega)
 have p1:c≠44:=h 1 (by omega)
 have p2:c≠59:=h 2 (by omega)
 have p3:c≠58:=h 3 (by omega)
 have p4:c≠33:=h 4 (by omega)
 have p5:c≠63:=h 5 (by omega)
 have p6:c≠39:=h 6 (by omega)
 have p7:c≠34:=h 7 (by omega)
 have p8:c≠45:=h 8 (by omega)
 have p9:c≠40:=h 9 (by omega)
 have p10:c≠41:=h 10 (by omega)
 have p11:c≠47:=h 11 (by omega)
 have:=cls_spec c h0 h1
 omega
set_option maxHeartbeats 2000000 in
theorem rclass_any (c:Int) (h0:0≤c) (h1:c<256) (w:World) :
  Calls Tryz.prog 58 #[.int .u8 c] w fun e w'=>e=.returned (.int .i64 (cls c))∧w=w':=by
 have hs:=cls_spec c h0 h1
 by_cases a1:97≤c∧c≤122
 ·obtain⟨b1,b2⟩:=a1
  have HR:=Lib.hid (show (1:Int)=cls c by omega)
  clear hs
  go_enter Tryz.func58,Tryz.ntmps58
  go_wp2
  go_ret
  exact⟨ret_int HR.out,rfl⟩
 by_cases a2:65≤c∧c≤90
 ·obtain⟨b1,b2⟩:=a2
  have HR:=Lib.hid (show (2:Int)=cls c by omega)
  have d1:decide (97≤c)=false:=by simp;omega
  clear hs a1
  go_enter Tryz.func58,Tryz.ntmps58
  go_wp2
  go_ret
  exact⟨ret_int HR.out,rfl⟩
 by_cases a3:48≤c∧c≤57
 ·obtain⟨b1,b2⟩:=a3
  have HR:=Lib.hid (show (3:Int)=cls c by omega)
  have d1:decide (97≤c)=false:=by simp;omega
  have d2:decide (65≤c)=false:=by simp;omega
  clear hs a1 a2
  go_enter Tryz.func58,Tryz.ntmps58
  go_wp2
  go_ret
  exact⟨ret_int HR.out,rfl⟩
 by_cases a4:c=32
 ·subst a4
  have HR:=Lib.hid (show (5:Int)=cls 32 by omega)
  clear hs a1 a2 a3
  go_enter Tryz.func58,Tryz.ntmps58
  go_wp2
  go_ret
  exact⟨ret_int HR.out,rfl⟩
 by_cases a5:c=10
 ·subst a5
  have HR:=Lib.hid (show (6:Int)=cls 10 by omega)
  clear hs a1 a2 a3 a4
  go_enter Tryz.func58,Tryz.ntmps58
  go_wp2
  go_ret
  exact⟨ret_int HR.out,rfl⟩
 have HN:=Lib.hid (fun hp=>(past_cls c h0 h1 hp a1 a2 a3 a4 a5).symm)
 have e4:(c==32)=false:=by simpa using a4
 have e5:(c==10)=false:=by simpa using a5
 have hcase:c<48∨(57<c∧c<65)∨(90<c∧c<97)∨122<c:=by omega
 clear hs a4 a5 a1 a2 a3
 rcases hcase with b1 | ⟨b1,b2⟩ | ⟨b1,b2⟩ | b1
 all_goals
  go_enter Tryz.func58,Tryz.ntmps58
  go_wp2_with (go_at_call 65;refine(rmarks_any _).mono ?_;rintro e w' ⟨rfl,rfl⟩)
  go_loop [4] (fun i=>∃ k:Nat,k≤12∧i=.int .i64 k∧Past c k) (fun i=>12 - (intOf i).toNat)
  case atStart=>exact⟨0,by omega,rfl,Past.zero c⟩
  case round =>
   obtain⟨k,hk,rfl,hp⟩:=hrel
   by_cases hlt:k<12
   ·have hs':k<marksS.size:=hlt
    have hm:(((marksS[k]'hs').toNat:Nat):Int)=markAt k:=mark_at ⟨k,hlt⟩
    by_cases hc:c=markAt k
    ·have HR:=Lib.hid (mark_cls c k hlt hc)
     have hb:((((marksS[k]'hs').toNat:Nat):Int)==c)=true:=by rw[hm,hc];simp
     clear hm hc
     go_wp2
     go_ret
     exact⟨ret_int HR.out.symm,rfl⟩
    ·have HP:=Lib.hid (hp.succ hc)
     have hb:((((marksS[k]'hs').toNat:Nat):Int)==c)=false:=by rw[hm];simp;exact fun e=>hc e.symm
     clear hm hc
     go_wp2
     exact⟨⟨k+1,by omega,by go_num,HP.out⟩,by simp[intOf];omega⟩
   ·obtain rfl:k=12:=by omega
    have HR:=Lib.hid (HN.out hp)
    go_wp2
    go_ret
    exact⟨ret_int HR.out,rfl⟩
theorem rclass_at (c k:Int) (h0:0≤c) (h1:c<256) (hk:cls c=k) (w:World) :
  Calls Tryz.prog 58 #[.int .u8 c] w fun e w'=>e=.returned (.int .i64 k)∧w=w':=hk▸rclass_any c h0 h1 w
end Go.Proofs.YtlgejmcihchngaaGreatDoor.Ka
