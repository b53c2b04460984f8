/-
  The landed tree's before, with each of its two closures; isText.
-/
import Derived.Test.YtgpihfacmpbpaaaGreatDoorTsG
import Derived.Test.YtgpihfacmpbpaaaGreatDoorLaF
namespace Go.Proofs.YtgpihfacmpbpaaaGreatDoor.Tr
open Go.RowKit
def tK (f:Nat→Bool) (s:ByteArray):Nat:=((List.range s.size).find? fun i=>f (Lx.bT s i)).getD s.size
theorem PR {f:Nat→Bool} {s:ByteArray} {n:Nat} (hn:n<s.size) (hj:∀ j,j<n→f (Lx.bT s j)=false) (h:f (Lx.bT s n)=true):tK f s=n:=by
 unfold tK
 have:(List.range s.size).find? (fun i=>f (Lx.bT s i))=some n:=by
  rw[List.find?_range_eq_some]
  exact⟨h,List.mem_range.2 hn,fun j hj'=>by rw[hj j hj'];rfl⟩
 rw[this];rfl
theorem xZ {f:Nat→Bool} {s:ByteArray} (hj:∀ j,j<s.size→f (Lx.bT s j)=false):tK f s=s.size:=by
 unfold tK
 rw[List.find?_eq_none.2 (fun i hi=>by rw[hj i (List.mem_range.1 hi)];simp)]
 rfl
def tT (c:Nat):Bool:=!Lx.iD c
def jR (c:Nat):Bool:=!Lx.jD c
set_option maxHeartbeats 1000000 in
theorem PS (c:Nat) (hc:c<256) (v:Bool) (hv:tT c=v) (w:World) (hL:Ka.Laid w) :
  Calls Tryz.prog 66 #[.int .u8 (c:Int)] w fun e w'=>e=.returned (.bool v)∧w=w':=by
 obtain⟨u,hu⟩:∃ u,Ka.cF (c:Int)=u:=⟨_,rfl⟩
 have HU:=Lib.hid hu
 have HV:=Lib.hid (show (!u)=v by rw[← hv];unfold tT Lx.iD;rw[hu])
 clear hu hv
 cases u
 all_goals
  go_enter Tryz.func66,Tryz.ntmps66
  go_wp2_with (go_at_call 67;refine(Lx.gY c _ hc HU.out _ hL).mono ?_;rintro e w' ⟨rfl,rfl⟩)
  go_ret
  exact⟨Ba.aC HV.out,rfl⟩
set_option maxHeartbeats 1000000 in
theorem KP (c:Nat) (hc:c<256) (v:Bool) (hv:jR c=v) (w:World) (hL:Ka.Laid w) :
  Calls Tryz.prog 106 #[.int .u8 (c:Int)] w fun e w'=>e=.returned (.bool v)∧w=w':=by
 obtain⟨u,hu⟩:∃ u,Ka.cF (c:Int)=u:=⟨_,rfl⟩
 obtain⟨s,hs⟩:∃ s,Ka.JK (c:Int)=s:=⟨_,rfl⟩
 have HU:=Lib.hid hu
 have HS:=Lib.hid hs
 have HV:=Lib.hid (show (!(s || u))=v by rw[← hv];unfold jR Lx.jD;rw[hu,hs])
 clear hu hs hv
 cases s
 all_goals
  cases u
 all_goals
  go_enter Tryz.func106,Tryz.ntmps106
  go_wp2_with (first
   |(go_at_call 107;refine(Lx.BG c _ hc HS.out _ hL).mono ?_;rintro e w' ⟨rfl,rfl⟩)
   |(go_at_call 67;refine(Lx.gY c _ hc HU.out _ hL).mono ?_;rintro e w' ⟨rfl,rfl⟩))
  go_ret
  exact⟨Ba.aC HV.out,rfl⟩
set_option maxHeartbeats 2000000 in
theorem KQ (s:ByteArray) (hs:s.size≤maxLen) (v:Nat) (hv:tK tT s=v) (w:World) (hL:Ka.Laid w) :
  Calls Tryz.prog 65 #[.string s,.func (.func 66) #[] #[]] w fun e w'=>e=.returned (.int .i64 (v:Int))∧w=w':=by
 have HV:=Lib.hid hv
 unfold maxLen at hs
 clear hv
 go_enter Tryz.func65,Tryz.ntmps65
 go_wp2
 go_loop [8] (fun i=>∃ n:Nat,n≤s.size∧i=.int .i64 n∧∀ j,j<n→tT (Lx.bT s j)=false) (fun i=>s.size - (intOf i).toNat)
 case atStart=>exact⟨0,by omega,rfl,fun j hj=>by omega⟩
 case round =>
  obtain⟨n,hn,rfl,hj⟩:=hrel
  have HJ:=Lib.hid hj
  clear hj
  by_cases hlt:n<s.size
  ·have E1:=Lx.cJ s n hlt
   have h256:=Lx.eF s n
   obtain⟨b,hb⟩:∃ b,Lx.bT s n=b:=⟨_,rfl⟩
   rw[hb]at E1 h256
   cases hf:tT b
   ·have HF:=Lib.hid hf
    have HJ2:=Lib.hid (show ∀ j,j<n+1→tT (Lx.bT s j)=false from fun j h2=>by
     rcases Nat.lt_or_ge j n with h3 | h3
     ·exact HJ.out j h3
     ·obtain rfl:j=n:=by omega
      rw[hb];exact hf)
    clear hb hf
    go_wp2_with (go_at_call 66;refine(PS b h256 false HF.out _ hL).mono ?_;rintro e w' ⟨rfl,rfl⟩)
    go_round
    case rel=>exact⟨n+1,by omega,by go_num,HJ2.out⟩
    case measure=>simp[intOf];omega
   ·have HF:=Lib.hid hf
    have HR:=Lib.hid (show n=v by rw[← HV.out];exact(PR hlt HJ.out (by rw[hb];exact hf)).symm)
    clear hb hf
    go_wp2_with (go_at_call 66;refine(PS b h256 true HF.out _ hL).mono ?_;rintro e w' ⟨rfl,rfl⟩)
    go_ret
    exact⟨Ba.bF (by rw[HR.out]),rfl⟩
  ·obtain rfl:n=s.size:=by omega
   have HR:=Lib.hid (show s.size=v by rw[← HV.out];exact(xZ HJ.out).symm)
   go_wp2
   go_ret
   exact⟨Ba.bF (by rw[HR.out]),rfl⟩
set_option maxHeartbeats 2000000 in
theorem wA (s:ByteArray) (hs:s.size≤maxLen) (v:Nat) (hv:tK jR s=v) (w:World) (hL:Ka.Laid w) :
  Calls Tryz.prog 65 #[.string s,.func (.func 106) #[] #[]] w fun e w'=>e=.returned (.int .i64 (v:Int))∧w=w':=by
 have HV:=Lib.hid hv
 unfold maxLen at hs
 clear hv
 go_enter Tryz.func65,Tryz.ntmps65
 go_wp2
 go_loop [8] (fun i=>∃ n:Nat,n≤s.size∧i=.int .i64 n∧∀ j,j<n→jR (Lx.bT s j)=false) (fun i=>s.size - (intOf i).toNat)
 case atStart=>exact⟨0,by omega,rfl,fun j hj=>by omega⟩
 case round =>
  obtain⟨n,hn,rfl,hj⟩:=hrel
  have HJ:=Lib.hid hj
  clear hj
  by_cases hlt:n<s.size
  ·have E1:=Lx.cJ s n hlt
   have h256:=Lx.eF s n
   obtain⟨b,hb⟩:∃ b,Lx.bT s n=b:=⟨_,rfl⟩
   rw[hb]at E1 h256
   cases hf:jR b
   ·have HF:=Lib.hid hf
    have HJ2:=Lib.hid (show ∀ j,j<n+1→jR (Lx.bT s j)=false from fun j h2=>by
     rcases Nat.lt_or_ge j n with h3 | h3
     ·exact HJ.out j h3
     ·obtain rfl:j=n:=by omega
      rw[hb];exact hf)
    clear hb hf
    go_wp2_with (go_at_call 106;refine(KP b h256 false HF.out _ hL).mono ?_;rintro e w' ⟨rfl,rfl⟩)
    go_round
    case rel=>exact⟨n+1,by omega,by go_num,HJ2.out⟩
    case measure=>simp[intOf];omega
   ·have HF:=Lib.hid hf
    have HR:=Lib.hid (show n=v by rw[← HV.out];exact(PR hlt HJ.out (by rw[hb];exact hf)).symm)
    clear hb hf
    go_wp2_with (go_at_call 106;refine(KP b h256 true HF.out _ hL).mono ?_;rintro e w' ⟨rfl,rfl⟩)
    go_ret
    exact⟨Ba.bF (by rw[HR.out]),rfl⟩
  ·obtain rfl:n=s.size:=by omega
   have HR:=Lib.hid (show s.size=v by rw[← HV.out];exact(xZ HJ.out).symm)
   go_wp2
   go_ret
   exact⟨Ba.bF (by rw[HR.out]),rfl⟩
theorem PT (f:Nat→Bool) (s:ByteArray):tK f s≤s.size:=by
 unfold tK
 cases h:(List.range s.size).find? (fun i=>f (Lx.bT s i)) with
 | none=>exact Nat.le_refl _
 | some n=>have:=List.mem_range.1 (List.mem_of_find?_eq_some h);simp;omega
set_option maxHeartbeats 2000000 in
theorem yA (s:ByteArray) (hs:s.size≤maxLen) (v:Bool) (hv:(decide (s.size≠0) && decide (tK jR s=s.size))=v) (w:World) (hL:Ka.Laid w) :
  Calls Tryz.prog 79 #[.string s] w fun e w'=>e=.returned (.bool v)∧w=w':=by
 by_cases h0:s.size=0
 ·have HV:=Lib.hid (show false=v by rw[← hv,h0];rfl)
  obtain rfl:s={ data:=#[] }:=by
   apply ByteArray.ext
   exact Array.eq_empty_of_size_eq_zero h0
  clear hv h0 hs
  go_enter Tryz.func79,Tryz.ntmps79
  go_wp2
  go_ret
  exact⟨Ba.aC HV.out,rfl⟩
 ·obtain⟨e1,e2⟩:=Lx.aCT s (by omega)
  obtain⟨p,hp⟩:∃ p,tK jR s=p:=⟨_,rfl⟩
  have HP:=Lib.hid hp
  have HV:=Lib.hid (show decide (p=s.size)=v by rw[← hv,hp,decide_eq_true h0];rfl)
  have hle:=PT jR s
  rw[hp]at hle
  unfold maxLen at hs
  by_cases he:p=s.size
  ·have t1:((p:Int)==(s.size:Int))=true:=vZ he
   have HR:=Lib.hid (show true=v by rw[← HV.out,decide_eq_true he])
   clear hv h0 hp he
   go_enter Tryz.func79,Tryz.ntmps79
   go_wp2_with (go_at_call 65;refine(wA s hs p HP.out _ hL).mono ?_;rintro e w' ⟨rfl,rfl⟩)
   go_ret
   exact⟨Ba.aC HR.out,rfl⟩
  ·have t1:((p:Int)==(s.size:Int))=false:=fD he
   have HR:=Lib.hid (show false=v by rw[← HV.out,decide_eq_false he])
   clear hv h0 hp he
   go_enter Tryz.func79,Tryz.ntmps79
   go_wp2_with (go_at_call 65;refine(wA s hs p HP.out _ hL).mono ?_;rintro e w' ⟨rfl,rfl⟩)
   go_ret
   exact⟨Ba.aC HR.out,rfl⟩
end Go.Proofs.YtgpihfacmpbpaaaGreatDoor.Tr
