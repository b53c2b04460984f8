/-
  The landed tree's before, with each of its two closures; isText.
-/
import Derived.Test.YtmldpkigfhoalaaGreatDoorTsG
import Derived.Test.YtmldpkigfhoalaaGreatDoorLaF
namespace Go.Proofs.YtmldpkigfhoalaaGreatDoor.Tr
open Go.RowKit
def badF (f:Nat→Bool) (s:ByteArray):Nat:=((List.range s.size).find? fun i=>f (Lx.bAt s i)).getD s.size
theorem badF_at {f:Nat→Bool} {s:ByteArray} {n:Nat} (hn:n<s.size) (hj:∀ j,j<n→f (Lx.bAt s j)=false) (h:f (Lx.bAt s n)=true):badF f s=n:=by
 unfold badF
 have:(List.range s.size).find? (fun i=>f (Lx.bAt s i))=some n:=by
  rw [List.find?_range_eq_some]
  exact ⟨h,List.mem_range.2 hn,fun j hj'=>by rw [hj j hj'];rfl⟩
 rw [this];rfl
theorem badF_none {f:Nat→Bool} {s:ByteArray} (hj:∀ j,j<s.size→f (Lx.bAt s j)=false):badF f s=s.size:=by
 unfold badF
 rw [List.find?_eq_none.2 (fun i hi=>by rw [hj i (List.mem_range.1 hi)];simp)]
 rfl
def darkB (c:Nat):Bool:=!Lx.white c
def alienB (c:Nat):Bool:=!Lx.okT c
set_option maxHeartbeats 1000000 in
theorem dark_at (c:Nat) (hc:c<256) (v:Bool) (hv:darkB c=v) (w:World) (hL:Ka.Laid w) :
  Calls Tryz.prog 74 #[.int .u8 (c:Int)] w fun e w'=>e=.returned (.bool v)∧w=w':=by
 obtain ⟨u,hu⟩:∃ u,Ka.whiteB (c:Int)=u:=⟨_,rfl⟩
 have HU:=Lib.hid hu
 have HV:=Lib.hid (show (!u)=v by rw [← hv];unfold darkB Lx.white;rw [hu])
 clear hu hv
 cases u
 all_goals
  go_enter Tryz.func74,Tryz.ntmps74
  go_wp2_with (go_at_call 75;refine (Lx.cwhite_at c _ hc HU.out _ hL).mono ?_;rintro e w' ⟨rfl,rfl⟩)
  go_ret
  exact ⟨Ba.ret_bool HV.out,rfl⟩
set_option maxHeartbeats 1000000 in
theorem alien_at (c:Nat) (hc:c<256) (v:Bool) (hv:alienB c=v) (w:World) (hL:Ka.Laid w) :
  Calls Tryz.prog 88 #[.int .u8 (c:Int)] w fun e w'=>e=.returned (.bool v)∧w=w':=by
 obtain ⟨u,hu⟩:∃ u,Ka.whiteB (c:Int)=u:=⟨_,rfl⟩
 obtain ⟨s,hs⟩:∃ s,Ka.isB (c:Int)=s:=⟨_,rfl⟩
 have HU:=Lib.hid hu
 have HS:=Lib.hid hs
 have HV:=Lib.hid (show (!(s || u))=v by rw [← hv];unfold alienB Lx.okT;rw [hu,hs])
 clear hu hs hv
 cases s
 all_goals
  cases u
 all_goals
  go_enter Tryz.func88,Tryz.ntmps88
  go_wp2_with (first
   |(go_at_call 89;refine (Lx.cis_at c _ hc HS.out _ hL).mono ?_;rintro e w' ⟨rfl,rfl⟩)
   |(go_at_call 75;refine (Lx.cwhite_at c _ hc HU.out _ hL).mono ?_;rintro e w' ⟨rfl,rfl⟩))
  go_ret
  exact ⟨Ba.ret_bool HV.out,rfl⟩
set_option maxHeartbeats 2000000 in
theorem before_dark (s:ByteArray) (hs:s.size≤maxLen) (v:Nat) (hv:badF darkB s=v) (w:World) (hL:Ka.Laid w) :
  Calls Tryz.prog 73 #[.string s,.func (.func 74) #[] #[]] w fun e w'=>e=.returned (.int .i64 (v:Int))∧w=w':=by
 have HV:=Lib.hid hv
 unfold maxLen at hs
 clear hv
 go_enter Tryz.func73,Tryz.ntmps73
 go_wp2
 go_loop [8] (fun i=>∃ n:Nat,n≤s.size∧i=.int .i64 n∧∀ j,j<n→darkB (Lx.bAt s j)=false) (fun i=>s.size - (intOf i).toNat)
 case atStart=>exact ⟨0,by omega,rfl,fun j hj=>by omega⟩
 case round =>
  obtain ⟨n,hn,rfl,hj⟩:=hrel
  have HJ:=Lib.hid hj
  clear hj
  by_cases hlt:n<s.size
  ·have E1:=Lx.bAt_get s n hlt
   have h256:=Lx.bAt_lt s n
   obtain ⟨b,hb⟩:∃ b,Lx.bAt s n=b:=⟨_,rfl⟩
   rw [hb] at E1 h256
   cases hf:darkB b
   ·have HF:=Lib.hid hf
    have HJ2:=Lib.hid (show ∀ j,j<n+1→darkB (Lx.bAt s j)=false from fun j h2=>by
     rcases Nat.lt_or_ge j n with h3 | h3
     ·exact HJ.out j h3
     ·obtain rfl:j=n:=by omega
      rw [hb];exact hf)
    clear hb hf
    go_wp2_with (go_at_call 74;refine (dark_at b h256 false HF.out _ hL).mono ?_;rintro e w' ⟨rfl,rfl⟩)
    go_round
    case rel=>exact ⟨n+1,by omega,by go_num,HJ2.out⟩
    case measure=>simp [intOf];omega
   ·have HF:=Lib.hid hf
    have HR:=Lib.hid (show n=v by rw [← HV.out];exact (badF_at hlt HJ.out (by rw [hb];exact hf)).symm)
    clear hb hf
    go_wp2_with (go_at_call 74;refine (dark_at b h256 true HF.out _ hL).mono ?_;rintro e w' ⟨rfl,rfl⟩)
    go_ret
    exact ⟨Ba.ret_int (by rw [HR.out]),rfl⟩
  ·obtain rfl:n=s.size:=by omega
   have HR:=Lib.hid (show s.size=v by rw [← HV.out];exact (badF_none HJ.out).symm)
   go_wp2
   go_ret
   exact ⟨Ba.ret_int (by rw [HR.out]),rfl⟩
set_option maxHeartbeats 2000000 in
theorem before_alien (s:ByteArray) (hs:s.size≤maxLen) (v:Nat) (hv:badF alienB s=v) (w:World) (hL:Ka.Laid w) :
  Calls Tryz.prog 73 #[.string s,.func (.func 88) #[] #[]] w fun e w'=>e=.returned (.int .i64 (v:Int))∧w=w':=by
 have HV:=Lib.hid hv
 unfold maxLen at hs
 clear hv
 go_enter Tryz.func73,Tryz.ntmps73
 go_wp2
 go_loop [8] (fun i=>∃ n:Nat,n≤s.size∧i=.int .i64 n∧∀ j,j<n→alienB (Lx.bAt s j)=false) (fun i=>s.size - (intOf i).toNat)
 case atStart=>exact ⟨0,by omega,rfl,fun j hj=>by omega⟩
 case round =>
  obtain ⟨n,hn,rfl,hj⟩:=hrel
  have HJ:=Lib.hid hj
  clear hj
  by_cases hlt:n<s.size
  ·have E1:=Lx.bAt_get s n hlt
   have h256:=Lx.bAt_lt s n
   obtain ⟨b,hb⟩:∃ b,Lx.bAt s n=b:=⟨_,rfl⟩
   rw [hb] at E1 h256
   cases hf:alienB b
   ·have HF:=Lib.hid hf
    have HJ2:=Lib.hid (show ∀ j,j<n+1→alienB (Lx.bAt s j)=false from fun j h2=>by
     rcases Nat.lt_or_ge j n with h3 | h3
     ·exact HJ.out j h3
     ·obtain rfl:j=n:=by omega
      rw [hb];exact hf)
    clear hb hf
    go_wp2_with (go_at_call 88;refine (alien_at b h256 false HF.out _ hL).mono ?_;rintro e w' ⟨rfl,rfl⟩)
    go_round
    case rel=>exact ⟨n+1,by omega,by go_num,HJ2.out⟩
    case measure=>simp [intOf];omega
   ·have HF:=Lib.hid hf
    have HR:=Lib.hid (show n=v by rw [← HV.out];exact (badF_at hlt HJ.out (by rw [hb];exact hf)).symm)
    clear hb hf
    go_wp2_with (go_at_call 88;refine (alien_at b h256 true HF.out _ hL).mono ?_;rintro e w' ⟨rfl,rfl⟩)
    go_ret
    exact ⟨Ba.ret_int (by rw [HR.out]),rfl⟩
  ·obtain rfl:n=s.size:=by omega
   have HR:=Lib.hid (show s.size=v by rw [← HV.out];exact (badF_none HJ.out).symm)
   go_wp2
   go_ret
   exact ⟨Ba.ret_int (by rw [HR.out]),rfl⟩
theorem badF_le (f:Nat→Bool) (s:ByteArray):badF f s≤s.size:=by
 unfold badF
 cases h:(List.range s.size).find? (fun i=>f (Lx.bAt s i)) with
 | none=>exact Nat.le_refl _
 | some n=>have:=List.mem_range.1 (List.mem_of_find?_eq_some h);simp;omega
set_option maxHeartbeats 2000000 in
theorem isText_at (s:ByteArray) (hs:s.size≤maxLen) (v:Bool) (hv:(decide (s.size≠0) && decide (badF alienB s=s.size))=v) (w:World) (hL:Ka.Laid w) :
  Calls Tryz.prog 54 #[.string s] w fun e w'=>e=.returned (.bool v)∧w=w':=by
 by_cases h0:s.size=0
 ·have HV:=Lib.hid (show false=v by rw [← hv,h0];rfl)
  obtain rfl:s={ data:=#[] }:=by
   apply ByteArray.ext
   exact Array.eq_empty_of_size_eq_zero h0
  clear hv h0 hs
  go_enter Tryz.func54,Tryz.ntmps54
  go_wp2
  go_ret
  exact ⟨Ba.ret_bool HV.out,rfl⟩
 ·obtain ⟨e1,e2⟩:=Lx.nonE s (by omega)
  obtain ⟨p,hp⟩:∃ p,badF alienB s=p:=⟨_,rfl⟩
  have HP:=Lib.hid hp
  have HV:=Lib.hid (show decide (p=s.size)=v by rw [← hv,hp,decide_eq_true h0];rfl)
  have hle:=badF_le alienB s
  rw [hp] at hle
  unfold maxLen at hs
  by_cases he:p=s.size
  ·have t1:((p:Int)==(s.size:Int))=true:=intEq he
   have HR:=Lib.hid (show true=v by rw [← HV.out,decide_eq_true he])
   clear hv h0 hp he
   go_enter Tryz.func54,Tryz.ntmps54
   go_wp2_with (go_at_call 73;refine (before_alien s hs p HP.out _ hL).mono ?_;rintro e w' ⟨rfl,rfl⟩)
   go_ret
   exact ⟨Ba.ret_bool HR.out,rfl⟩
  ·have t1:((p:Int)==(s.size:Int))=false:=intNe he
   have HR:=Lib.hid (show false=v by rw [← HV.out,decide_eq_false he])
   clear hv h0 hp he
   go_enter Tryz.func54,Tryz.ntmps54
   go_wp2_with (go_at_call 73;refine (before_alien s hs p HP.out _ hL).mono ?_;rintro e w' ⟨rfl,rfl⟩)
   go_ret
   exact ⟨Ba.ret_bool HR.out,rfl⟩
end Go.Proofs.YtmldpkigfhoalaaGreatDoor.Tr
