/-
  Put together.
-/
import Derived.Test.YthbigkoihpgcfaaGreatDoorVb
set_option maxRecDepth 100000
set_option maxHeartbeats 16000000
namespace Go.Proofs.YthbigkoihpgcfaaGreatDoor.Tr
open Go.RowKit
theorem tU {a b:Nat} (h:a=b):((a:Int)==(b:Int))=true:=beq_iff_eq.2 (by omega)
theorem eZ {a b:Nat} (h:a≠b):((a:Int)==(b:Int))=false:=beq_eq_false_iff_ne.2 (by omega)
theorem T7 {w:World} {N P M n L:Nat} {o:St} (h:cU w N P M n L o) (k m r:Nat) (b:Lv) (hk:k<256) (hm:o.lv.length=m+1) (hb:o.lv[m]?=some b) (hr:rk b.kind k=r) (h0:r=0) :
  Calls Tryz.prog 182 #[.pointer (some ⟨P,0,none⟩),.int .u8 (k:Int)] w fun e w'=>e=.returned (.bool false)∧∃ j,w'=w.drewN j:=by
 have H:=Lib.hid h
 have HM:=Lib.hid hm
 have HK:=Lib.hid (show b.kind<256∧k<256∧rk b.kind k=r from ⟨h.small b (List.mem_of_getElem? hb),hk,hr⟩)
 clear h hm hr
 go_enter Tryz.func182,Tryz.ntmps182
 go_wp2_with (go_at_call 176;refine(jB H.out m HM.out).mono ?_;rintro e w' ⟨rfl,j,rfl⟩)
 generalize hw:w.drewN j=w1
 have H1:=Lib.hid (hw▸H.out.drewN j:cU w1 N P M n L o)
 obtain⟨b0,-,-,b3,b4,-,-,-⟩:=H1.out.at hb
 have c0:=H1.out.c0
 have hl:∀ i,(Instr.lookup 148 (.map (some M)) (.agg #[.int .u8 (b.kind:Int),.int .u8 (k:Int)]) false).run Tryz.prog (w1.drewN i)=.ok (.int .i64 0) (w1.drewN i):=fun i=>by
  have:=(H1.out.drewN i).map.look HK.out.1 HK.out.2.1
  rw[HK.out.2.2]at this
  exact(by rw[h0]at this;exact this)
 have HW:=Lib.hid hw.symm
 clear hw hb
 obtain⟨q,hq⟩:∃ q,b.kind=q:=⟨_,rfl⟩
 obtain⟨t,ht⟩:∃ t,b.rank=t:=⟨_,rfl⟩
 obtain⟨pp,hpp⟩:∃ pp,b.parts=pp:=⟨_,rfl⟩
 rw[hq]at b0 hl
 rw[ht]at b4
 rw[hpp]at b3
 clear hq ht hpp HK
 go_wp2
 go_quiet (fail)
 go_wp2
 go_ret
 exact⟨rfl,j+nq,by rw[HW.out,World.drewN_drewN]⟩
theorem ZL {w:World} {N P M n L:Nat} {o:St} (h:cU w N P M n L o) (k m r:Nat) (b:Lv) (hk:k<256) (hm:o.lv.length=m+1) (hb:o.lv[m]?=some b) (hr:rk b.kind k=r) (h0:r≠0) (h1:r<b.rank) :
  Calls Tryz.prog 182 #[.pointer (some ⟨P,0,none⟩),.int .u8 (k:Int)] w fun e w'=>e=.returned (.bool false)∧∃ j,w'=w.drewN j:=by
 have H:=Lib.hid h
 have HM:=Lib.hid hm
 have HK:=Lib.hid (show b.kind<256∧k<256∧rk b.kind k=r from ⟨h.small b (List.mem_of_getElem? hb),hk,hr⟩)
 have t1:((r:Int)==0)=false:=eZ h0
 clear h hm hr h0
 go_enter Tryz.func182,Tryz.ntmps182
 go_wp2_with (go_at_call 176;refine(jB H.out m HM.out).mono ?_;rintro e w' ⟨rfl,j,rfl⟩)
 generalize hw:w.drewN j=w1
 have H1:=Lib.hid (hw▸H.out.drewN j:cU w1 N P M n L o)
 obtain⟨b0,-,-,b3,b4,-,-,-⟩:=H1.out.at hb
 have c0:=H1.out.c0
 have hl:∀ i,(Instr.lookup 148 (.map (some M)) (.agg #[.int .u8 (b.kind:Int),.int .u8 (k:Int)]) false).run Tryz.prog (w1.drewN i)=.ok (.int .i64 (r:Int)) (w1.drewN i):=fun i=>by
  have:=(H1.out.drewN i).map.look HK.out.1 HK.out.2.1
  rw[HK.out.2.2]at this
  exact this
 have HW:=Lib.hid hw.symm
 clear hw hb
 obtain⟨q,hq⟩:∃ q,b.kind=q:=⟨_,rfl⟩
 obtain⟨t,ht⟩:∃ t,b.rank=t:=⟨_,rfl⟩
 obtain⟨pp,hpp⟩:∃ pp,b.parts=pp:=⟨_,rfl⟩
 rw[hq]at b0 hl
 rw[ht]at b4 h1
 rw[hpp]at b3
 clear hq ht hpp HK
 go_wp2
 go_quiet (fail)
 go_wp2
 go_ret
 exact⟨rfl,j+nq,by rw[HW.out,World.drewN_drewN]⟩
theorem ZM {w:World} {N P M n L:Nat} {o:St} (h:cU w N P M n L o) (k m r:Nat) (b:Lv) (hk:k<256) (hm:o.lv.length=m+1) (hb:o.lv[m]?=some b) (hr:rk b.kind k=r) (h0:r≠0) (h1:b.rank≤r) (hc:k=99) (v:Bool) (hv:decide (b.parts<8)=v) :
  Calls Tryz.prog 182 #[.pointer (some ⟨P,0,none⟩),.int .u8 99] w fun e w'=>e=.returned (.bool v)∧∃ j,w'=w.drewN j:=by
 have H:=Lib.hid h
 have HM:=Lib.hid hm
 have HK:=Lib.hid (show b.kind<256∧k<256∧rk b.kind k=r from ⟨h.small b (List.mem_of_getElem? hb),hk,hr⟩)
 have t1:((r:Int)==0)=false:=eZ h0
 clear h hm hr h0
 go_enter Tryz.func182,Tryz.ntmps182
 go_wp2_with (go_at_call 176;refine(jB H.out m HM.out).mono ?_;rintro e w' ⟨rfl,j,rfl⟩)
 generalize hw:w.drewN j=w1
 have H1:=Lib.hid (hw▸H.out.drewN j:cU w1 N P M n L o)
 obtain⟨b0,-,-,b3,b4,-,-,-⟩:=H1.out.at hb
 have c0:=H1.out.c0
 have hl:∀ i,(Instr.lookup 148 (.map (some M)) (.agg #[.int .u8 (b.kind:Int),.int .u8 99]) false).run Tryz.prog (w1.drewN i)=.ok (.int .i64 (r:Int)) (w1.drewN i):=fun i=>by
  have:=(H1.out.drewN i).map.look HK.out.1 HK.out.2.1
  rw[HK.out.2.2]at this
  exact(by rw[hc]at this;exact this)
 have HW:=Lib.hid hw.symm
 clear hw hb
 obtain⟨q,hq⟩:∃ q,b.kind=q:=⟨_,rfl⟩
 obtain⟨t,ht⟩:∃ t,b.rank=t:=⟨_,rfl⟩
 obtain⟨pp,hpp⟩:∃ pp,b.parts=pp:=⟨_,rfl⟩
 rw[hq]at b0 hl
 rw[ht]at b4 h1
 rw[hpp]at b3 hv
 clear hq ht hpp HK
 go_wp2
 go_quiet (fail)
 have HV:=Lib.hid hv
 clear hv
 go_wp2
 go_ret
 exact⟨Ba.aC (show decide ((pp:Int)<8)=v by rw[← HV.out];exact decide_eq_decide.2 (by omega)),j+nq,by rw[HW.out,World.drewN_drewN]⟩
theorem FU {w:World} {N P M n L:Nat} {o:St} (h:cU w N P M n L o) (k m r:Nat) (b:Lv) (hk:k<256) (hm:o.lv.length=m+1) (hb:o.lv[m]?=some b) (hr:rk b.kind k=r) (h0:r≠0) (h1:b.rank≤r) (hc:k=101) (v:Option Nat) (hv:eC o.lv k=v) :
  Calls Tryz.prog 182 #[.pointer (some ⟨P,0,none⟩),.int .u8 101] w fun e w'=>e=.returned (.bool v.isNone)∧∃ j,w'=w.drewN j:=by
 have H:=Lib.hid h
 have HM:=Lib.hid hm
 have HK:=Lib.hid (show b.kind<256∧k<256∧rk b.kind k=r from ⟨h.small b (List.mem_of_getElem? hb),hk,hr⟩)
 have t1:((r:Int)==0)=false:=eZ h0
 have HV:=Lib.hid hv
 clear h hm hr h0 hv
 go_enter Tryz.func182,Tryz.ntmps182
 go_wp2_with (go_at_call 176;refine(jB H.out m HM.out).mono ?_;rintro e w' ⟨rfl,j,rfl⟩)
 generalize hw:w.drewN j=w1
 have H1:=Lib.hid (hw▸H.out.drewN j:cU w1 N P M n L o)
 obtain⟨b0,-,-,b3,b4,-,-,-⟩:=H1.out.at hb
 have c0:=H1.out.c0
 have hl:∀ i,(Instr.lookup 148 (.map (some M)) (.agg #[.int .u8 (b.kind:Int),.int .u8 101]) false).run Tryz.prog (w1.drewN i)=.ok (.int .i64 (r:Int)) (w1.drewN i):=fun i=>by
  have:=(H1.out.drewN i).map.look HK.out.1 HK.out.2.1
  rw[HK.out.2.2]at this
  exact(by rw[hc]at this;exact this)
 have HW:=Lib.hid hw.symm
 clear hw hb
 obtain⟨q,hq⟩:∃ q,b.kind=q:=⟨_,rfl⟩
 obtain⟨t,ht⟩:∃ t,b.rank=t:=⟨_,rfl⟩
 obtain⟨pp,hpp⟩:∃ pp,b.parts=pp:=⟨_,rfl⟩
 rw[hq]at b0 hl
 rw[ht]at b4 h1
 rw[hpp]at b3
 clear hq ht hpp HK
 go_wp2
 go_quiet (fail)
 have hwi:∀ i,Calls Tryz.prog 184 #[.pointer (some ⟨P,0,none⟩),.int .u8 101] (w1.drewN i) fun e w'=>e=.returned (OJ L v)∧w1.drewN i=w':=fun i=>by
  have:=qR (H1.out.drewN i) k v HV.out
  rw[hc]at this
  exact this
 have HWI:=Lib.hid hwi
 clear hwi
 cases v
 all_goals
  go_wp2_with (go_at_call 184;refine(HWI.out _).mono ?_;rintro e w' ⟨rfl,rfl⟩;dsimp only[OJ])
  go_ret
  exact⟨rfl,j+nq,by rw[HW.out,World.drewN_drewN]⟩
theorem FV {w:World} {N P M n L:Nat} {o:St} (h:cU w N P M n L o) (k m r:Nat) (b:Lv) (hk:k<256) (hm:o.lv.length=m+1) (hb:o.lv[m]?=some b) (hr:rk b.kind k=r) (h0:r≠0) (h1:b.rank≤r) (hc:k=115) (v:Option Nat) (hv:eC o.lv k=v) :
  Calls Tryz.prog 182 #[.pointer (some ⟨P,0,none⟩),.int .u8 115] w fun e w'=>e=.returned (.bool v.isNone)∧∃ j,w'=w.drewN j:=by
 have H:=Lib.hid h
 have HM:=Lib.hid hm
 have HK:=Lib.hid (show b.kind<256∧k<256∧rk b.kind k=r from ⟨h.small b (List.mem_of_getElem? hb),hk,hr⟩)
 have t1:((r:Int)==0)=false:=eZ h0
 have HV:=Lib.hid hv
 clear h hm hr h0 hv
 go_enter Tryz.func182,Tryz.ntmps182
 go_wp2_with (go_at_call 176;refine(jB H.out m HM.out).mono ?_;rintro e w' ⟨rfl,j,rfl⟩)
 generalize hw:w.drewN j=w1
 have H1:=Lib.hid (hw▸H.out.drewN j:cU w1 N P M n L o)
 obtain⟨b0,-,-,b3,b4,-,-,-⟩:=H1.out.at hb
 have c0:=H1.out.c0
 have hl:∀ i,(Instr.lookup 148 (.map (some M)) (.agg #[.int .u8 (b.kind:Int),.int .u8 115]) false).run Tryz.prog (w1.drewN i)=.ok (.int .i64 (r:Int)) (w1.drewN i):=fun i=>by
  have:=(H1.out.drewN i).map.look HK.out.1 HK.out.2.1
  rw[HK.out.2.2]at this
  exact(by rw[hc]at this;exact this)
 have HW:=Lib.hid hw.symm
 clear hw hb
 obtain⟨q,hq⟩:∃ q,b.kind=q:=⟨_,rfl⟩
 obtain⟨t,ht⟩:∃ t,b.rank=t:=⟨_,rfl⟩
 obtain⟨pp,hpp⟩:∃ pp,b.parts=pp:=⟨_,rfl⟩
 rw[hq]at b0 hl
 rw[ht]at b4 h1
 rw[hpp]at b3
 clear hq ht hpp HK
 go_wp2
 go_quiet (fail)
 have hwi:∀ i,Calls Tryz.prog 184 #[.pointer (some ⟨P,0,none⟩),.int .u8 115] (w1.drewN i) fun e w'=>e=.returned (OJ L v)∧w1.drewN i=w':=fun i=>by
  have:=qR (H1.out.drewN i) k v HV.out
  rw[hc]at this
  exact this
 have HWI:=Lib.hid hwi
 clear hwi
 cases v
 all_goals
  go_wp2_with (go_at_call 184;refine(HWI.out _).mono ?_;rintro e w' ⟨rfl,rfl⟩;dsimp only[OJ])
  go_ret
  exact⟨rfl,j+nq,by rw[HW.out,World.drewN_drewN]⟩
theorem ZN {w:World} {N P M n L:Nat} {o:St} (h:cU w N P M n L o) (k m r:Nat) (b:Lv) (hk:k<256) (hm:o.lv.length=m+1) (hb:o.lv[m]?=some b) (hr:rk b.kind k=r) (h0:r≠0) (h1:b.rank≤r) (hc:k=110) (y:Nat) (hy:lJ o.lv=y) (d:Lv) (hd:o.lv[y]?=some d) (v:Bool) (hv:(decide (d.kind≠99) && !d.tQ)=v) :
  Calls Tryz.prog 182 #[.pointer (some ⟨P,0,none⟩),.int .u8 110] w fun e w'=>e=.returned (.bool v)∧∃ j,w'=w.drewN j:=by
 have H:=Lib.hid h
 have HM:=Lib.hid hm
 have HK:=Lib.hid (show b.kind<256∧k<256∧rk b.kind k=r from ⟨h.small b (List.mem_of_getElem? hb),hk,hr⟩)
 have t1:((r:Int)==0)=false:=eZ h0
 have HY:=Lib.hid hy
 clear h hm hr h0 hy
 go_enter Tryz.func182,Tryz.ntmps182
 go_wp2_with (go_at_call 176;refine(jB H.out m HM.out).mono ?_;rintro e w' ⟨rfl,j,rfl⟩)
 generalize hw:w.drewN j=w1
 have H1:=Lib.hid (hw▸H.out.drewN j:cU w1 N P M n L o)
 obtain⟨b0,-,-,b3,b4,-,-,-⟩:=H1.out.at hb
 have c0:=H1.out.c0
 have hl:∀ i,(Instr.lookup 148 (.map (some M)) (.agg #[.int .u8 (b.kind:Int),.int .u8 110]) false).run Tryz.prog (w1.drewN i)=.ok (.int .i64 (r:Int)) (w1.drewN i):=fun i=>by
  have:=(H1.out.drewN i).map.look HK.out.1 HK.out.2.1
  rw[HK.out.2.2]at this
  exact(by rw[hc]at this;exact this)
 have HW:=Lib.hid hw.symm
 clear hw hb
 obtain⟨q,hq⟩:∃ q,b.kind=q:=⟨_,rfl⟩
 obtain⟨t,ht⟩:∃ t,b.rank=t:=⟨_,rfl⟩
 obtain⟨pp,hpp⟩:∃ pp,b.parts=pp:=⟨_,rfl⟩
 rw[hq]at b0 hl
 rw[ht]at b4 h1
 rw[hpp]at b3
 clear hq ht hpp HK
 go_wp2
 go_quiet (fail)
 obtain⟨d0,-,-,-,-,-,d6,-⟩:=H1.out.at hd
 obtain⟨u,hu⟩:∃ u,d.kind=u:=⟨_,rfl⟩
 obtain⟨s,hs⟩:∃ s,d.tQ=s:=⟨_,rfl⟩
 rw[hu]at d0 hv
 rw[hs]at d6 hv
 clear hd hu hs
 by_cases h99:u=99
 ·have e1:((u:Int) != 99)=false:=by rw[bne,show ((u:Int)==99)=true from tU h99];rfl
  have HV:=Lib.hid (show false=v by rw[← hv];simp[h99])
  clear hv h99
  go_wp2_with (go_at_call 185;refine(AR (H1.out.drewN _) y HY.out).mono ?_;rintro e w' ⟨rfl,rfl⟩)
  go_ret
  exact⟨Ba.aC HV.out,j+nq,by rw[HW.out,World.drewN_drewN]⟩
 ·have e1:((u:Int) != 99)=true:=by rw[bne,show ((u:Int)==99)=false from eZ h99];rfl
  have HV:=Lib.hid (show (!s)=v by rw[← hv];simp[h99])
  clear hv h99
  cases s
  all_goals
   go_wp2_with (go_at_call 185;refine(AR (H1.out.drewN _) y HY.out).mono ?_;rintro e w' ⟨rfl,rfl⟩)
   go_ret
   exact⟨Ba.aC HV.out,j+nq,by rw[HW.out,World.drewN_drewN]⟩
theorem ZO {w:World} {N P M n L:Nat} {o:St} (h:cU w N P M n L o) (k m r:Nat) (b:Lv) (hk:k<256) (hm:o.lv.length=m+1) (hb:o.lv[m]?=some b) (hr:rk b.kind k=r) (h0:r≠0) (h1:b.rank≤r) (n1:k≠99) (n2:k≠101) (n3:k≠115) (n4:k≠110) :
  Calls Tryz.prog 182 #[.pointer (some ⟨P,0,none⟩),.int .u8 (k:Int)] w fun e w'=>e=.returned (.bool true)∧∃ j,w'=w.drewN j:=by
 have H:=Lib.hid h
 have HM:=Lib.hid hm
 have HK:=Lib.hid (show b.kind<256∧k<256∧rk b.kind k=r from ⟨h.small b (List.mem_of_getElem? hb),hk,hr⟩)
 have t1:((r:Int)==0)=false:=eZ h0
 have s1:((k:Int)==99)=false:=eZ n1
 have s2:((k:Int)==101)=false:=eZ n2
 have s3:((k:Int)==115)=false:=eZ n3
 have s4:((k:Int)==110)=false:=eZ n4
 clear h hm hr h0 n1 n2 n3 n4
 go_enter Tryz.func182,Tryz.ntmps182
 go_wp2_with (go_at_call 176;refine(jB H.out m HM.out).mono ?_;rintro e w' ⟨rfl,j,rfl⟩)
 generalize hw:w.drewN j=w1
 have H1:=Lib.hid (hw▸H.out.drewN j:cU w1 N P M n L o)
 obtain⟨b0,-,-,b3,b4,-,-,-⟩:=H1.out.at hb
 have c0:=H1.out.c0
 have hl:∀ i,(Instr.lookup 148 (.map (some M)) (.agg #[.int .u8 (b.kind:Int),.int .u8 (k:Int)]) false).run Tryz.prog (w1.drewN i)=.ok (.int .i64 (r:Int)) (w1.drewN i):=fun i=>by
  have:=(H1.out.drewN i).map.look HK.out.1 HK.out.2.1
  rw[HK.out.2.2]at this
  exact this
 have HW:=Lib.hid hw.symm
 clear hw hb
 obtain⟨q,hq⟩:∃ q,b.kind=q:=⟨_,rfl⟩
 obtain⟨t,ht⟩:∃ t,b.rank=t:=⟨_,rfl⟩
 obtain⟨pp,hpp⟩:∃ pp,b.parts=pp:=⟨_,rfl⟩
 rw[hq]at b0 hl
 rw[ht]at b4 h1
 rw[hpp]at b3
 clear hq ht hpp HK
 go_wp2
 go_quiet (fail)
 go_wp2
 go_ret
 exact⟨rfl,j+nq,by rw[HW.out,World.drewN_drewN]⟩
theorem DO (l:List Lv):∀ n,0<n→oD l n<n
 | 0=>fun h=>absurd h (by omega)
 | n+1=>fun _=>by
  unfold oD
  by_cases h:inT (l.getD n sD).kind=true
  ·rw[if_pos h]
   rcases Nat.eq_zero_or_pos n with e | e
   ·subst e;unfold oD;omega
   ·have:=DO l n e;omega
  ·rw[if_neg h];omega
theorem DP {l:List Lv} (h:0<l.length):lJ l<l.length:=DO l _ h
theorem nP {w:World} {N P M n L:Nat} {o:St} (h:cU w N P M n L o) (k:Nat) (hk:k<256) (z:Int) (hz:(k:Int)=z) (v:Bool) (hv:pU o.lv k=v) :
  Calls Tryz.prog 182 #[.pointer (some ⟨P,0,none⟩),.int .u8 z] w fun e w'=>e=.returned (.bool v)∧∃ j,w'=w.drewN j:=by
 obtain⟨m,hm⟩:=h.len
 obtain⟨b,hb⟩:=fI (l:=o.lv) (i:=m) (by omega)
 have hT:cH o.lv=b:=by unfold cH;rw[hm,Nat.add_sub_cancel];exact eU hb
 subst hz
 unfold pU at hv
 rw[hT]at hv
 obtain⟨r,hr⟩:∃ r,rk b.kind k=r:=⟨_,rfl⟩
 rw[hr]at hv
 by_cases h0:r=0
 ·rw[if_pos (.inl h0)]at hv
  subst hv
  exact T7 h k m r b hk hm hb hr h0
 by_cases h1:r<b.rank
 ·rw[if_pos (.inr h1)]at hv
  subst hv
  exact ZL h k m r b hk hm hb hr h0 h1
 rw[if_neg (by omega)]at hv
 by_cases n1:k=99
 ·rw[if_pos n1]at hv
  have:=ZM h k m r b hk hm hb hr h0 (by omega) n1 v hv
  subst n1;exact this
 rw[if_neg n1]at hv
 by_cases n2:k=101
 ·rw[if_pos (.inl n2)]at hv
  have:=FU h k m r b hk hm hb hr h0 (by omega) n2 _ rfl
  rw[hv]at this
  subst n2;exact this
 by_cases n3:k=115
 ·rw[if_pos (.inr n3)]at hv
  have:=FV h k m r b hk hm hb hr h0 (by omega) n3 _ rfl
  rw[hv]at this
  subst n3;exact this
 rw[if_neg (by omega)]at hv
 by_cases n4:k=110
 ·rw[if_pos n4]at hv
  obtain⟨d,hd⟩:=fI (l:=o.lv) (i:=lJ o.lv) (DP (by omega))
  rw[eU hd]at hv
  have:=ZN h k m r b hk hm hb hr h0 (by omega) n4 _ rfl d hd v hv
  subst n4;exact this
 rw[if_neg n4]at hv
 subst hv
 exact ZO h k m r b hk hm hb hr h0 (by omega) n1 n2 n3 n4
end Go.Proofs.YthbigkoihpgcfaaGreatDoor.Tr
