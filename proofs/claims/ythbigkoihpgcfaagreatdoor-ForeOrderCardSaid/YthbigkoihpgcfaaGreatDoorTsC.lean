/-
  Put together.
-/
import Derived.Test.YthbigkoihpgcfaaGreatDoorUh
import Derived.Test.YthbigkoihpgcfaaGreatDoorUl
import Derived.Test.YthbigkoihpgcfaaGreatDoorVb
import Derived.Test.YthbigkoihpgcfaaGreatDoorVg
import Derived.Lib.IndexMore
import Derived.OwnWalk
import Derived.Deep.QuietTactic
import Derived.BigQuiet
import Derived.BigRegion
open Go.Lib (hid)
set_option maxRecDepth 100000
set_option maxHeartbeats 16000000
namespace Go.Proofs.YthbigkoihpgcfaaGreatDoor.Tr
open Go.RowKit
theorem tU {a b:Nat} (h:a=b):((a:Int)==(b:Int))=true:=beq_iff_eq.2 (by omega)
theorem eZ {a b:Nat} (h:a≠b):((a:Int)==(b:Int))=false:=beq_eq_false_iff_ne.2 (by omega)
theorem T7 {w:World} {N P M n L:Nat} {o:St} (h:cU w N P M n L o) (k m r:Nat) (b:Lv) (hk:k<256) (hm:o.lv.length=m+1) (hb:o.lv[m]?=some b) (hr:rk b.kind k=r) (h0:r=0) :
  Calls Tryz.prog 182 #[.pointer (some ⟨P,0,none⟩),.int .u8 (k:Int)] w fun e w'=>e=.returned (.bool false)∧∃ j,w'=w.drewN j:=by
 have H:=hid h
 have HM:=hid hm
 have HK:=hid (show b.kind<256∧k<256∧rk b.kind k=r from ⟨h.small b (List.mem_of_getElem? hb),hk,hr⟩)
 clear h hm hr
 go_enter Tryz.func182,Tryz.ntmps182
 go_wp2_with (go_at_call 176;refine(jB H.out m HM.out).mono ?_;rintro e w' ⟨rfl,j,rfl⟩)
 generalize hw:w.drewN j=w1
 have H1:=hid (hw▸H.out.drewN j:cU w1 N P M n L o)
 obtain⟨b0,-,-,b3,b4,-,-,-⟩:=H1.out.at hb
 have c0:=H1.out.c0
 have hl:∀ i,(Instr.lookup 148 (.map (some M)) (.agg #[.int .u8 (b.kind:Int),.int .u8 (k:Int)]) false).run Tryz.prog (w1.drewN i)=.ok (.int .i64 0) (w1.drewN i):=fun i=>by
  have:=(H1.out.drewN i).map.look HK.out.1 HK.out.2.1
  rw[HK.out.2.2]at this
  exact(by rw[h0]at this;exact this)
 have HW:=hid hw.symm
 clear hw hb
 obtain⟨q,hq⟩:∃ q,b.kind=q:=⟨_,rfl⟩
 obtain⟨t,ht⟩:∃ t,b.rank=t:=⟨_,rfl⟩
 obtain⟨pp,hpp⟩:∃ pp,b.parts=pp:=⟨_,rfl⟩
 rw[hq]at b0 hl
 rw[ht]at b4
 rw[hpp]at b3
 clear hq ht hpp HK
 go_wp2
 go_quiet (fail)
 go_wp2
 go_ret
 exact⟨rfl,j+nq,by rw[HW.out,World.drewN_drewN]⟩
theorem ZL {w:World} {N P M n L:Nat} {o:St} (h:cU w N P M n L o) (k m r:Nat) (b:Lv) (hk:k<256) (hm:o.lv.length=m+1) (hb:o.lv[m]?=some b) (hr:rk b.kind k=r) (h0:r≠0) (h1:r<b.rank) :
  Calls Tryz.prog 182 #[.pointer (some ⟨P,0,none⟩),.int .u8 (k:Int)] w fun e w'=>e=.returned (.bool false)∧∃ j,w'=w.drewN j:=by
 have H:=hid h
 have HM:=hid hm
 have HK:=hid (show b.kind<256∧k<256∧rk b.kind k=r from ⟨h.small b (List.mem_of_getElem? hb),hk,hr⟩)
 have t1:((r:Int)==0)=false:=eZ h0
 clear h hm hr h0
 go_enter Tryz.func182,Tryz.ntmps182
 go_wp2_with (go_at_call 176;refine(jB H.out m HM.out).mono ?_;rintro e w' ⟨rfl,j,rfl⟩)
 generalize hw:w.drewN j=w1
 have H1:=hid (hw▸H.out.drewN j:cU w1 N P M n L o)
 obtain⟨b0,-,-,b3,b4,-,-,-⟩:=H1.out.at hb
 have c0:=H1.out.c0
 have hl:∀ i,(Instr.lookup 148 (.map (some M)) (.agg #[.int .u8 (b.kind:Int),.int .u8 (k:Int)]) false).run Tryz.prog (w1.drewN i)=.ok (.int .i64 (r:Int)) (w1.drewN i):=fun i=>by
  have:=(H1.out.drewN i).map.look HK.out.1 HK.out.2.1
  rw[HK.out.2.2]at this
  exact this
 have HW:=hid hw.symm
 clear hw hb
 obtain⟨q,hq⟩:∃ q,b.kind=q:=⟨_,rfl⟩
 obtain⟨t,ht⟩:∃ t,b.rank=t:=⟨_,rfl⟩
 obtain⟨pp,hpp⟩:∃ pp,b.parts=pp:=⟨_,rfl⟩
 rw[hq]at b0 hl
 rw[ht]at b4 h1
 rw[hpp]at b3
 clear hq ht hpp HK
 go_wp2
 go_quiet (fail)
 go_wp2
 go_ret
 exact⟨rfl,j+nq,by rw[HW.out,World.drewN_drewN]⟩
theorem ZM {w:World} {N P M n L:Nat} {o:St} (h:cU w N P M n L o) (k m r:Nat) (b:Lv) (hk:k<256) (hm:o.lv.length=m+1) (hb:o.lv[m]?=some b) (hr:rk b.kind k=r) (h0:r≠0) (h1:b.rank≤r) (hc:k=99) (v:Bool) (hv:decide (b.parts<8)=v) :
  Calls Tryz.prog 182 #[.pointer (some ⟨P,0,none⟩),.int .u8 99] w fun e w'=>e=.returned (.bool v)∧∃ j,w'=w.drewN j:=by
 have H:=hid h
 have HM:=hid hm
 have HK:=hid (show b.kind<256∧k<256∧rk b.kind k=r from ⟨h.small b (List.mem_of_getElem? hb),hk,hr⟩)
 have t1:((r:Int)==0)=false:=eZ h0
 clear h hm hr h0
 go_enter Tryz.func182,Tryz.ntmps182
 go_wp2_with (go_at_call 176;refine(jB H.out m HM.out).mono ?_;rintro e w' ⟨rfl,j,rfl⟩)
 generalize hw:w.drewN j=w1
 have H1:=hid (hw▸H.out.drewN j:cU w1 N P M n L o)
 obtain⟨b0,-,-,b3,b4,-,-,-⟩:=H1.out.at hb
 have c0:=H1.out.c0
 have hl:∀ i,(Instr.lookup 148 (.map (some M)) (.agg #[.int .u8 (b.kind:Int),.int .u8 99]) false).run Tryz.prog (w1.drewN i)=.ok (.int .i64 (r:Int)) (w1.drewN i):=fun i=>by
  have:=(H1.out.drewN i).map.look HK.out.1 HK.out.2.1
  rw[HK.out.2.2]at this
  exact(by rw[hc]at this;exact this)
 have HW:=hid hw.symm
 clear hw hb
 obtain⟨q,hq⟩:∃ q,b.kind=q:=⟨_,rfl⟩
 obtain⟨t,ht⟩:∃ t,b.rank=t:=⟨_,rfl⟩
 obtain⟨pp,hpp⟩:∃ pp,b.parts=pp:=⟨_,rfl⟩
 rw[hq]at b0 hl
 rw[ht]at b4 h1
 rw[hpp]at b3 hv
 clear hq ht hpp HK
 go_wp2
 go_quiet (fail)
 have HV:=hid hv
 clear hv
 go_wp2
 go_ret
 exact⟨Ba.aC (show decide ((pp:Int)<8)=v by rw[← HV.out];exact decide_eq_decide.2 (by omega)),j+nq,by rw[HW.out,World.drewN_drewN]⟩
theorem FU {w:World} {N P M n L:Nat} {o:St} (h:cU w N P M n L o) (k m r:Nat) (b:Lv) (hk:k<256) (hm:o.lv.length=m+1) (hb:o.lv[m]?=some b) (hr:rk b.kind k=r) (h0:r≠0) (h1:b.rank≤r) (hc:k=101) (v:Option Nat) (hv:eC o.lv k=v) :
  Calls Tryz.prog 182 #[.pointer (some ⟨P,0,none⟩),.int .u8 101] w fun e w'=>e=.returned (.bool v.isNone)∧∃ j,w'=w.drewN j:=by
 have H:=hid h
 have HM:=hid hm
 have HK:=hid (show b.kind<256∧k<256∧rk b.kind k=r from ⟨h.small b (List.mem_of_getElem? hb),hk,hr⟩)
 have t1:((r:Int)==0)=false:=eZ h0
 have HV:=hid hv
 clear h hm hr h0 hv
 go_enter Tryz.func182,Tryz.ntmps182
 go_wp2_with (go_at_call 176;refine(jB H.out m HM.out).mono ?_;rintro e w' ⟨rfl,j,rfl⟩)
 generalize hw:w.drewN j=w1
 have H1:=hid (hw▸H.out.drewN j:cU w1 N P M n L o)
 obtain⟨b0,-,-,b3,b4,-,-,-⟩:=H1.out.at hb
 have c0:=H1.out.c0
 have hl:∀ i,(Instr.lookup 148 (.map (some M)) (.agg #[.int .u8 (b.kind:Int),.int .u8 101]) false).run Tryz.prog (w1.drewN i)=.ok (.int .i64 (r:Int)) (w1.drewN i):=fun i=>by
  have:=(H1.out.drewN i).map.look HK.out.1 HK.out.2.1
  rw[HK.out.2.2]at this
  exact(by rw[hc]at this;exact this)
 have HW:=hid hw.symm
 clear hw hb
 obtain⟨q,hq⟩:∃ q,b.kind=q:=⟨_,rfl⟩
 obtain⟨t,ht⟩:∃ t,b.rank=t:=⟨_,rfl⟩
 obtain⟨pp,hpp⟩:∃ pp,b.parts=pp:=⟨_,rfl⟩
 rw[hq]at b0 hl
 rw[ht]at b4 h1
 rw[hpp]at b3
 clear hq ht hpp HK
 go_wp2
 go_quiet (fail)
 have hwi:∀ i,Calls Tryz.prog 184 #[.pointer (some ⟨P,0,none⟩),.int .u8 101] (w1.drewN i) fun e w'=>e=.returned (OJ L v)∧w1.drewN i=w':=fun i=>by
  have:=qR (H1.out.drewN i) k v HV.out
  rw[hc]at this
  exact this
 have HWI:=hid hwi
 clear hwi
 cases v
 all_goals
  go_wp2_with (go_at_call 184;refine(HWI.out _).mono ?_;rintro e w' ⟨rfl,rfl⟩;dsimp only[OJ])
  go_ret
  exact⟨rfl,j+nq,by rw[HW.out,World.drewN_drewN]⟩
theorem FV {w:World} {N P M n L:Nat} {o:St} (h:cU w N P M n L o) (k m r:Nat) (b:Lv) (hk:k<256) (hm:o.lv.length=m+1) (hb:o.lv[m]?=some b) (hr:rk b.kind k=r) (h0:r≠0) (h1:b.rank≤r) (hc:k=115) (v:Option Nat) (hv:eC o.lv k=v) :
  Calls Tryz.prog 182 #[.pointer (some ⟨P,0,none⟩),.int .u8 115] w fun e w'=>e=.returned (.bool v.isNone)∧∃ j,w'=w.drewN j:=by
 have H:=hid h
 have HM:=hid hm
 have HK:=hid (show b.kind<256∧k<256∧rk b.kind k=r from ⟨h.small b (List.mem_of_getElem? hb),hk,hr⟩)
 have t1:((r:Int)==0)=false:=eZ h0
 have HV:=hid hv
 clear h hm hr h0 hv
 go_enter Tryz.func182,Tryz.ntmps182
 go_wp2_with (go_at_call 176;refine(jB H.out m HM.out).mono ?_;rintro e w' ⟨rfl,j,rfl⟩)
 generalize hw:w.drewN j=w1
 have H1:=hid (hw▸H.out.drewN j:cU w1 N P M n L o)
 obtain⟨b0,-,-,b3,b4,-,-,-⟩:=H1.out.at hb
 have c0:=H1.out.c0
 have hl:∀ i,(Instr.lookup 148 (.map (some M)) (.agg #[.int .u8 (b.kind:Int),.int .u8 115]) false).run Tryz.prog (w1.drewN i)=.ok (.int .i64 (r:Int)) (w1.drewN i):=fun i=>by
  have:=(H1.out.drewN i).map.look HK.out.1 HK.out.2.1
  rw[HK.out.2.2]at this
  exact(by rw[hc]at this;exact this)
 have HW:=hid hw.symm
 clear hw hb
 obtain⟨q,hq⟩:∃ q,b.kind=q:=⟨_,rfl⟩
 obtain⟨t,ht⟩:∃ t,b.rank=t:=⟨_,rfl⟩
 obtain⟨pp,hpp⟩:∃ pp,b.parts=pp:=⟨_,rfl⟩
 rw[hq]at b0 hl
 rw[ht]at b4 h1
 rw[hpp]at b3
 clear hq ht hpp HK
 go_wp2
 go_quiet (fail)
 have hwi:∀ i,Calls Tryz.prog 184 #[.pointer (some ⟨P,0,none⟩),.int .u8 115] (w1.drewN i) fun e w'=>e=.returned (OJ L v)∧w1.drewN i=w':=fun i=>by
  have:=qR (H1.out.drewN i) k v HV.out
  rw[hc]at this
  exact this
 have HWI:=hid hwi
 clear hwi
 cases v
 all_goals
  go_wp2_with (go_at_call 184;refine(HWI.out _).mono ?_;rintro e w' ⟨rfl,rfl⟩;dsimp only[OJ])
  go_ret
  exact⟨rfl,j+nq,by rw[HW.out,World.drewN_drewN]⟩
theorem ZN {w:World} {N P M n L:Nat} {o:St} (h:cU w N P M n L o) (k m r:Nat) (b:Lv) (hk:k<256) (hm:o.lv.length=m+1) (hb:o.lv[m]?=some b) (hr:rk b.kind k=r) (h0:r≠0) (h1:b.rank≤r) (hc:k=110) (y:Nat) (hy:lJ o.lv=y) (d:Lv) (hd:o.lv[y]?=some d) (v:Bool) (hv:(decide (d.kind≠99) && !d.tQ)=v) :
  Calls Tryz.prog 182 #[.pointer (some ⟨P,0,none⟩),.int .u8 110] w fun e w'=>e=.returned (.bool v)∧∃ j,w'=w.drewN j:=by
 have H:=hid h
 have HM:=hid hm
 have HK:=hid (show b.kind<256∧k<256∧rk b.kind k=r from ⟨h.small b (List.mem_of_getElem? hb),hk,hr⟩)
 have t1:((r:Int)==0)=false:=eZ h0
 have HY:=hid hy
 clear h hm hr h0 hy
 go_enter Tryz.func182,Tryz.ntmps182
 go_wp2_with (go_at_call 176;refine(jB H.out m HM.out).mono ?_;rintro e w' ⟨rfl,j,rfl⟩)
 generalize hw:w.drewN j=w1
 have H1:=hid (hw▸H.out.drewN j:cU w1 N P M n L o)
 obtain⟨b0,-,-,b3,b4,-,-,-⟩:=H1.out.at hb
 have c0:=H1.out.c0
 have hl:∀ i,(Instr.lookup 148 (.map (some M)) (.agg #[.int .u8 (b.kind:Int),.int .u8 110]) false).run Tryz.prog (w1.drewN i)=.ok (.int .i64 (r:Int)) (w1.drewN i):=fun i=>by
  have:=(H1.out.drewN i).map.look HK.out.1 HK.out.2.1
  rw[HK.out.2.2]at this
  exact(by rw[hc]at this;exact this)
 have HW:=hid hw.symm
 clear hw hb
 obtain⟨q,hq⟩:∃ q,b.kind=q:=⟨_,rfl⟩
 obtain⟨t,ht⟩:∃ t,b.rank=t:=⟨_,rfl⟩
 obtain⟨pp,hpp⟩:∃ pp,b.parts=pp:=⟨_,rfl⟩
 rw[hq]at b0 hl
 rw[ht]at b4 h1
 rw[hpp]at b3
 clear hq ht hpp HK
 go_wp2
 go_quiet (fail)
 obtain⟨d0,-,-,-,-,-,d6,-⟩:=H1.out.at hd
 obtain⟨u,hu⟩:∃ u,d.kind=u:=⟨_,rfl⟩
 obtain⟨s,hs⟩:∃ s,d.tQ=s:=⟨_,rfl⟩
 rw[hu]at d0 hv
 rw[hs]at d6 hv
 clear hd hu hs
 by_cases h99:u=99
 ·have e1:((u:Int) != 99)=false:=by rw[bne,show ((u:Int)==99)=true from tU h99];rfl
  have HV:=hid (show false=v by rw[← hv];simp[h99])
  clear hv h99
  go_wp2_with (go_at_call 185;refine(AR (H1.out.drewN _) y HY.out).mono ?_;rintro e w' ⟨rfl,rfl⟩)
  go_ret
  exact⟨Ba.aC HV.out,j+nq,by rw[HW.out,World.drewN_drewN]⟩
 ·have e1:((u:Int) != 99)=true:=by rw[bne,show ((u:Int)==99)=false from eZ h99];rfl
  have HV:=hid (show (!s)=v by rw[← hv];simp[h99])
  clear hv h99
  cases s
  all_goals
   go_wp2_with (go_at_call 185;refine(AR (H1.out.drewN _) y HY.out).mono ?_;rintro e w' ⟨rfl,rfl⟩)
   go_ret
   exact⟨Ba.aC HV.out,j+nq,by rw[HW.out,World.drewN_drewN]⟩
theorem ZO {w:World} {N P M n L:Nat} {o:St} (h:cU w N P M n L o) (k m r:Nat) (b:Lv) (hk:k<256) (hm:o.lv.length=m+1) (hb:o.lv[m]?=some b) (hr:rk b.kind k=r) (h0:r≠0) (h1:b.rank≤r) (n1:k≠99) (n2:k≠101) (n3:k≠115) (n4:k≠110) :
  Calls Tryz.prog 182 #[.pointer (some ⟨P,0,none⟩),.int .u8 (k:Int)] w fun e w'=>e=.returned (.bool true)∧∃ j,w'=w.drewN j:=by
 have H:=hid h
 have HM:=hid hm
 have HK:=hid (show b.kind<256∧k<256∧rk b.kind k=r from ⟨h.small b (List.mem_of_getElem? hb),hk,hr⟩)
 have t1:((r:Int)==0)=false:=eZ h0
 have s1:((k:Int)==99)=false:=eZ n1
 have s2:((k:Int)==101)=false:=eZ n2
 have s3:((k:Int)==115)=false:=eZ n3
 have s4:((k:Int)==110)=false:=eZ n4
 clear h hm hr h0 n1 n2 n3 n4
 go_enter Tryz.func182,Tryz.ntmps182
 go_wp2_with (go_at_call 176;refine(jB H.out m HM.out).mono ?_;rintro e w' ⟨rfl,j,rfl⟩)
 generalize hw:w.drewN j=w1
 have H1:=hid (hw▸H.out.drewN j:cU w1 N P M n L o)
 obtain⟨b0,-,-,b3,b4,-,-,-⟩:=H1.out.at hb
 have c0:=H1.out.c0
 have hl:∀ i,(Instr.lookup 148 (.map (some M)) (.agg #[.int .u8 (b.kind:Int),.int .u8 (k:Int)]) false).run Tryz.prog (w1.drewN i)=.ok (.int .i64 (r:Int)) (w1.drewN i):=fun i=>by
  have:=(H1.out.drewN i).map.look HK.out.1 HK.out.2.1
  rw[HK.out.2.2]at this
  exact this
 have HW:=hid hw.symm
 clear hw hb
 obtain⟨q,hq⟩:∃ q,b.kind=q:=⟨_,rfl⟩
 obtain⟨t,ht⟩:∃ t,b.rank=t:=⟨_,rfl⟩
 obtain⟨pp,hpp⟩:∃ pp,b.parts=pp:=⟨_,rfl⟩
 rw[hq]at b0 hl
 rw[ht]at b4 h1
 rw[hpp]at b3
 clear hq ht hpp HK
 go_wp2
 go_quiet (fail)
 go_wp2
 go_ret
 exact⟨rfl,j+nq,by rw[HW.out,World.drewN_drewN]⟩
theorem DO (l:List Lv):∀ n,0<n→oD l n<n
 | 0=>fun h=>absurd h (by omega)
 | n+1=>fun _=>by
  unfold oD
  by_cases h:inT (l.getD n sD).kind=true
  ·rw[if_pos h]
   rcases Nat.eq_zero_or_pos n with e | e
   ·subst e;unfold oD;omega
   ·have:=DO l n e;omega
  ·rw[if_neg h];omega
theorem DP {l:List Lv} (h:0<l.length):lJ l<l.length:=DO l _ h
theorem nP {w:World} {N P M n L:Nat} {o:St} (h:cU w N P M n L o) (k:Nat) (hk:k<256) (z:Int) (hz:(k:Int)=z) (v:Bool) (hv:pU o.lv k=v) :
  Calls Tryz.prog 182 #[.pointer (some ⟨P,0,none⟩),.int .u8 z] w fun e w'=>e=.returned (.bool v)∧∃ j,w'=w.drewN j:=by
 obtain⟨m,hm⟩:=h.len
 obtain⟨b,hb⟩:=fI (l:=o.lv) (i:=m) (by omega)
 have hT:cH o.lv=b:=by unfold cH;rw[hm,Nat.add_sub_cancel];exact eU hb
 subst hz
 unfold pU at hv
 rw[hT]at hv
 obtain⟨r,hr⟩:∃ r,rk b.kind k=r:=⟨_,rfl⟩
 rw[hr]at hv
 by_cases h0:r=0
 ·rw[if_pos (.inl h0)]at hv
  subst hv
  exact T7 h k m r b hk hm hb hr h0
 by_cases h1:r<b.rank
 ·rw[if_pos (.inr h1)]at hv
  subst hv
  exact ZL h k m r b hk hm hb hr h0 h1
 rw[if_neg (by omega)]at hv
 by_cases n1:k=99
 ·rw[if_pos n1]at hv
  have:=ZM h k m r b hk hm hb hr h0 (by omega) n1 v hv
  subst n1;exact this
 rw[if_neg n1]at hv
 by_cases n2:k=101
 ·rw[if_pos (.inl n2)]at hv
  have:=FU h k m r b hk hm hb hr h0 (by omega) n2 _ rfl
  rw[hv]at this
  subst n2;exact this
 by_cases n3:k=115
 ·rw[if_pos (.inr n3)]at hv
  have:=FV h k m r b hk hm hb hr h0 (by omega) n3 _ rfl
  rw[hv]at this
  subst n3;exact this
 rw[if_neg (by omega)]at hv
 by_cases n4:k=110
 ·rw[if_pos n4]at hv
  obtain⟨d,hd⟩:=fI (l:=o.lv) (i:=lJ o.lv) (DP (by omega))
  rw[eU hd]at hv
  have:=ZN h k m r b hk hm hb hr h0 (by omega) n4 _ rfl d hd v hv
  subst n4;exact this
 rw[if_neg n4]at hv
 subst hv
 exact ZO h k m r b hk hm hb hr h0 (by omega) n1 n2 n3 n4
end Go.Proofs.YthbigkoihpgcfaaGreatDoor.Tr
namespace Go.Proofs.YthbigkoihpgcfaaGreatDoor.Ck
open Go.RowKit Ba Ru
theorem O1:dM []=none:=by
 have h:¬ Ce.dN (bytesOf []):=by decide +kernel
 unfold dM
 rw[if_neg (fun k=>h k.2)]
theorem uH {l:List Rl} (A:Acc dM l):∀ x ∈ l,x.cells≠[]:=fun x hx=>BV O1 (A.alone x hx)
def oZ (pr:List Nat→Option (List Nat)) (l:List Rl) (k:Nat):Prop:=l8 pr [] l=l8 pr (l.take k) (l.drop k)
theorem QL (pr:List Nat→Option (List Nat)) (l:List Rl):oZ pr l 0:=rfl
theorem U2 {pr:List Nat→Option (List Nat)} {l:List Rl} {k:Nat} {x:Rl} (hx:l[k]?=some x) (hg:oZ pr l k) (h:eF pr x=false∨∃ y ∈ l.take k,bQ x y=true):l8 pr [] l=some x:=by
 have hd:l.drop k=x::l.drop (k+1):=by
  obtain⟨hk,e⟩:=List.getElem?_eq_some_iff.1 hx
  rw[List.drop_eq_getElem_cons hk,e]
 rw[hg,hd]
 show (if (!eF pr x || (l.take k).any (bQ x))=true then some x else _)=_
 refine if_pos ?_
 rw[Bool.or_eq_true]
 rcases h with h | ⟨y,hy,hc⟩
 ·exact .inl (by rw[h];rfl)
 ·exact .inr (List.any_eq_true.2 ⟨y,hy,hc⟩)
theorem QM {pr:List Nat→Option (List Nat)} {l:List Rl} {k:Nat} {x:Rl} (hx:l[k]?=some x) (hg:oZ pr l k) (ha:eF pr x=true) (hc:∀ y ∈ l.take k,bQ x y=false):oZ pr l (k+1):=by
 have hd:l.drop k=x::l.drop (k+1):=by
  obtain⟨hk,e⟩:=List.getElem?_eq_some_iff.1 hx
  rw[List.drop_eq_getElem_cons hk,e]
 have ht:l.take (k+1)=l.take k++[x]:=by rw[List.take_add_one,hx,Option.toList_some]
 unfold oZ at hg ⊢
 rw[hg,hd,ht]
 show (if (!eF pr x || (l.take k).any (bQ x))=true then some x else _)=_
 refine if_neg ?_
 rw[ha,List.any_eq_false.2 (fun y hy=>by rw[hc y hy];exact Bool.false_ne_true)]
 exact Bool.false_ne_true
theorem U3 {pr:List Nat→Option (List Nat)} {l:List Rl} (hg:oZ pr l l.length):l8 pr [] l=none:=by
 unfold oZ at hg
 rw[hg,List.drop_length]
 rfl
def uI (ks:List Nat):Nat:=ks.foldl (fun s k=>s ||| 2 ^ k) 320
def LX (row:Int):List Nat:=if row=1 then [1,2] else if row=2 then [1,3,4] else [7]
def jT (row:Int):Nat:=if 1≤row∧row≤3 then uI (LX row) else 0
theorem GN (row:Int):jT row<512:=by
 unfold jT LX
 split
 ·split
  ·decide
  ·split<;>decide
 ·decide
theorem QQ {z:Int} (h1:1≤z) (h8:z≤8) (row:Int) (x:Rl) (hx:x.aE=z):iL x row=decide ((jT row >>> z.toNat) &&& 1=1):=by
 have hz:z=1∨z=2∨z=3∨z=4∨z=5∨z=6∨z=7∨z=8:=by omega
 unfold iL jT LX
 rw[hx]
 by_cases r:1≤row∧row≤3
 ·rw[if_pos r,decide_eq_true r,Bool.true_and]
  rcases(show row=1∨row=2∨row=3 by omega)with rfl | rfl | rfl<;>rcases hz with rfl | rfl | rfl | rfl | rfl | rfl | rfl | rfl<;>decide
 ·rw[if_neg r,decide_eq_false r,Bool.false_and]
  rcases hz with rfl | rfl | rfl | rfl | rfl | rfl | rfl | rfl<;>decide
theorem QR (k:Nat) (h:9≤k) (row:Int):(jT row >>> k) &&& 1=0:=by
 have:=GN row
 rw[Nat.shiftRight_eq_div_pow,Nat.div_eq_of_lt (Nat.lt_of_lt_of_le this (show 2 ^ 9≤2 ^ k from Nat.pow_le_pow_right (by omega) h))]
 rfl
theorem U6 {x:Rl} (h:x.aE<1∨8<x.aE) (row:Int):iL x row=false:=by
 unfold iL
 rw[Bool.and_eq_false_iff]
 right
 rw[decide_eq_false (by omega),Bool.false_or]
 split
 ·exact decide_eq_false (by omega)
 ·split
  ·exact decide_eq_false (by omega)
  ·exact decide_eq_false (by omega)
def rA (x:Rl) (ns:List (List Nat)):Bool:=decide (x.aE=8) && ns.contains x.left
def BX:List (List Nat):=[[98,108,107],[99,111,110,116],[105,110,100]]
def kT:List (List Nat):=[[110,117,109],[108,101,116]]
theorem QS (x:Rl):jF x=rA x BX:=by
 unfold jF rA BX
 rw[Bool.eq_iff_iff]
 simp
theorem LY (x:Rl):decide (x.aE=8∧(x.left=[110,117,109]∨x.left=[108,101,116]))=rA x kT:=by
 unfold rA kT
 rw[Bool.eq_iff_iff]
 simp
def eB (x:Rl):Nat:=if jF x=true∨x.aE=7∨x.aE=1∧x.left.length=1 then 1 else if rA x kT=true then 2 else 4
theorem aAH {c t:List Nat} (h:dM c=some t):c.length≤4:=by
 unfold dM at h
 split at h
 ·rename_i hk
  have h2:=hk.2.2.1
  have h3:(Ce.bytesOf c).size=c.length:=Ce.aF c
  omega
 ·cases h
theorem aAI {x:Rl} (h:nM dM x=true):1≤x.cells.length∧x.cells.length≤4:=by
 unfold nM at h
 simp only[Bool.and_eq_true]at h
 have h:=h.1.2
 obtain⟨t,ht⟩:=Option.isSome_iff_exists.1 h
 have h4:=aAH ht
 refine⟨?_,h4⟩
 rcases Nat.eq_zero_or_pos x.cells.length with h0 | h0
 ·rw[List.length_eq_zero_iff.1 h0,O1]at ht;cases ht
 ·exact h0
theorem LZ (x:Rl):eF dM x=(nM dM x && decide (x.cells.length≤eB x)):=by
 cases hm:nM dM x with
 | false=>unfold eF;rw[hm,Bool.and_false,Bool.false_and]
 | true =>
  obtain⟨h1,h4⟩:=aAI hm
  have e:decide (x.aE=8∧(x.left=[110,117,109]∨x.left=[108,101,116])∧2<x.cells.length)=(rA x kT && decide (2<x.cells.length)):=by
   rw[← LY,Bool.eq_iff_iff]
   simp[and_assoc]
  unfold eF
  rw[hm,Bool.and_true,Bool.true_and,e]
  unfold eB
  by_cases hk:jF x=true∨x.aE=7∨x.aE=1∧x.left.length=1
  ·rw[if_pos hk]
   have e2:(jF x || decide (x.aE=7∨x.aE=1∧x.left.length=1))=true:=by
    rw[Bool.or_eq_true,decide_eq_true_eq];exact hk
   rw[e2,Bool.true_and]
   by_cases hc:x.cells.length=1
   ·rw[decide_eq_false (p:=x.cells.length≠1) (by omega),decide_eq_false (p:=2<x.cells.length) (by omega),decide_eq_true (p:=x.cells.length≤1) (by omega),Bool.and_false];rfl
   ·rw[decide_eq_true (p:=x.cells.length≠1) hc,decide_eq_false (p:=x.cells.length≤1) (by omega)];rfl
  ·rw[if_neg hk]
   have e2:(jF x || decide (x.aE=7∨x.aE=1∧x.left.length=1))=false:=by
    rw[Bool.eq_false_iff,Ne,Bool.or_eq_true,decide_eq_true_eq];exact hk
   rw[e2,Bool.false_and,Bool.not_false,Bool.true_and]
   by_cases hs:rA x kT=true
   ·rw[if_pos hs,hs,Bool.true_and]
    by_cases h2:2<x.cells.length
    ·rw[decide_eq_true h2,decide_eq_false (by omega)];rfl
    ·rw[decide_eq_false h2,decide_eq_true (by omega)];rfl
   ·rw[if_neg hs,show rA x kT=false by simpa using hs,Bool.false_and,decide_eq_true h4];rfl
def kU (x y:Rl):Bool:=decide (x.aE=y.aE) && decide (x.left=y.left)
def uJ (x y:Rl):Bool:=decide (x.aE=5) && (decide (y.aE=5) && decide (x.cells=y.cells))
def GO (x y:Rl):Bool:=kR x y || (decide (x.aE=8) && decide (y.aE=5))
def rI (x y:Rl):Bool:=if jF x=true then fF x.cells y.cells else x.cells.isPrefixOf y.cells && GO x y
theorem BY {a b:List Nat} (h:a.isPrefixOf b=true):fF a b=true:=by
 unfold fF
 rw[List.any_eq_true]
 exact⟨0,by rw[List.mem_range];omega,by rw[List.drop_zero];exact h⟩
theorem GP (x y:Rl):bQ x y=(kU x y || (uJ x y || (rI x y || rI y x))):=by
 have e1:decide (x.aE=y.aE∧x.left=y.left)=kU x y:=by unfold kU;rw[Bool.eq_iff_iff];simp
 have e2:decide (x.aE=5∧y.aE=5∧x.cells=y.cells)=uJ x y:=by unfold uJ;rw[Bool.eq_iff_iff];simp
 have e3:decide (x.aE=8∧y.aE=5)=(decide (x.aE=8) && decide (y.aE=5)):=by rw[Bool.eq_iff_iff];simp
 have e4:decide (y.aE=8∧x.aE=5)=(decide (y.aE=8) && decide (x.aE=5)):=by rw[Bool.eq_iff_iff];simp
 have e5:kR y x=kR x y:=by unfold kR;rw[Bool.and_comm (iL y 1),Bool.and_comm (iL y 2),Bool.and_comm (iL y 3)]
 have p1:x.cells.isPrefixOf y.cells=true→fF x.cells y.cells=true:=BY
 have p2:y.cells.isPrefixOf x.cells=true→fF y.cells x.cells=true:=BY
 unfold bQ rI GO oX
 rw[e1,e2,e3,e4,e5]
 generalize kU x y=a
 generalize uJ x y=b
 generalize kR x y=r
 generalize x.cells.isPrefixOf y.cells=p at p1 ⊢
 generalize y.cells.isPrefixOf x.cells=q at p2 ⊢
 generalize fF x.cells y.cells=u at p1 ⊢
 generalize fF y.cells x.cells=v at p2 ⊢
 generalize jF x=k
 generalize jF y=l
 generalize (decide (x.aE=8) && decide (y.aE=5))=s
 generalize (decide (y.aE=8) && decide (x.aE=5))=t
 clear e1 e2 e3 e4 e5
 revert a b r p q u v k l s t
 decide +kernel
theorem GQ (s t:ByteArray):Lib.contains s.data.toList t.data.toList=fF (aA t) (aA s):=by
 have pre:∀ (a b:List UInt8),(a.map UInt8.toNat).isPrefixOf (b.map UInt8.toNat)=a.isPrefixOf b:=by
  intro a
  induction a with
  | nil=>intro b;rfl
  | cons x a ih =>
   intro b
   cases b with
   | nil=>rfl
   | cons y b =>
    show (x.toNat==y.toNat && (a.map UInt8.toNat).isPrefixOf (b.map UInt8.toNat))=(x==y && a.isPrefixOf b)
    rw[ih]
    congr 1
    rw[Bool.eq_iff_iff,beq_iff_eq,beq_iff_eq]
    exact UInt8.toNat_inj
 have at_:∀ i,(aA t).isPrefixOf ((aA s).drop i)=Lib.occAt s.data.toList t.data.toList i:=fun i=>by
  unfold aA Lib.occAt
  rw[← List.map_drop,pre]
 unfold Lib.contains fF
 rcases Lib.index_spec s.data.toList t.data.toList with⟨h1,h2⟩ | ⟨i,h1,h2,h3,-⟩
 ·rw[h1,decide_eq_false (by decide)]
  symm
  rw[List.any_eq_false]
  intro i hi
  rw[List.mem_range,aD]at hi
  rw[at_,h2 i (by
   have:s.data.toList.length=s.size:=by rw[Array.length_toList];rfl
   omega)]
  exact Bool.false_ne_true
 ·rw[h1,decide_eq_true (by omega)]
  symm
  rw[List.any_eq_true]
  refine⟨i,?_,by rw[at_];exact h3⟩
  rw[List.mem_range,aD]
  have:s.data.toList.length=s.size:=by rw[Array.length_toList];rfl
  omega
def rJ:List (List Nat):=(List.range 26).map fun i=>[97+i]
def o9 (w:Int × List Nat):Rl:=⟨w.1,w.2,[],0,0⟩
def GR:List Rl:=fM.map o9
def eG (k:Int) (ls:List (List Nat)):List Rl:=ls.map fun s=>⟨k,s,[],0,0⟩
theorem L0:GR=eG 1 rJ++(eG 6 (Ka.fZ.map fun c=>[c])++(eG 7 ((List.range 10).map fun i=>[48+i])++eG 8 bX)):=by decide +kernel
theorem GS:GR.length=61:=by decide +kernel
theorem QT (l:List Rl) (w:Int × List Nat):(l.any fun y=>kU (o9 w) y)=hasB l w:=by
 unfold hasB
 congr 1
 funext y
 unfold kU o9
 rw[Bool.eq_iff_iff]
 simp only[Bool.and_eq_true,decide_eq_true_eq]
 exact⟨fun h=>⟨h.1.symm,h.2.symm⟩,fun h=>⟨h.1.symm,h.2.symm⟩⟩
def a7 (w:World) (b:Nat) (q:Int) (S T:ByteArray) (p n:Int):Prop :=
 w.cell? ⟨b,0,none⟩=some (.int .i64 q)∧w.cell? ⟨b,1,none⟩=some (.string S)∧w.cell? ⟨b,2,none⟩=some (.string T)∧w.cell? ⟨b,3,none⟩=some (.int .i64 p)∧w.cell? ⟨b,4,none⟩=some (.int .i64 n)∧b<w.heap.size
theorem a7.below {w w':World} {b:Nat} {q:Int} {S T:ByteArray} {p n:Int} {B:Nat} (h:a7 w b q S T p n) (hb:Below B w w') (hB:b<B):a7 w' b q S T p n :=
 ⟨(hb.cell (p:=⟨b,0,none⟩) hB).trans h.1,(hb.cell (p:=⟨b,1,none⟩) hB).trans h.2.1,(hb.cell (p:=⟨b,2,none⟩) hB).trans h.2.2.1,(hb.cell (p:=⟨b,3,none⟩) hB).trans h.2.2.2.1,(hb.cell (p:=⟨b,4,none⟩) hB).trans h.2.2.2.2.1,Nat.lt_of_lt_of_le h.2.2.2.2.2 hb.size⟩
theorem a7.kept {w w':World} {b:Nat} {q:Int} {S T:ByteArray} {p n:Int} (h:a7 w b q S T p n) (hb:Below w.heap.size w w'):a7 w' b q S T p n:=h.below hb h.2.2.2.2.2
theorem a7.new (w:World) (q:Int) (S T:ByteArray) (p n:Int) (t:TypeId):a7 (w.alloc (.cells #[.int .i64 q,.string S,.string T,.int .i64 p,.int .i64 n] t)) w.heap.size q S T p n:=by
 refine⟨?_,?_,?_,?_,?_,?_⟩<;>simp
end Go.Proofs.YthbigkoihpgcfaaGreatDoor.Ck
namespace Go.Proofs.YthbigkoihpgcfaaGreatDoor.Tr
open Go.RowKit
theorem aG7 (p:List Op) (o:Op):T4 (p++[o])=o:=by unfold T4;simp
end Go.Proofs.YthbigkoihpgcfaaGreatDoor.Tr
namespace Go.Proofs.YthbigkoihpgcfaaGreatDoor.Tr
open Go.RowKit Lx
end Go.Proofs.YthbigkoihpgcfaaGreatDoor.Tr
namespace Go.Proofs.YthbigkoihpgcfaaGreatDoor.Tr
open Go.RowKit
def cN (x:Nd):List Value:=[.int .u8 (x.kind:Int),.string x.text,.int .i64 x.place,.int .i64 x.size]
theorem NL (x:Nd):(cN x).length=4:=rfl
end Go.Proofs.YthbigkoihpgcfaaGreatDoor.Tr
