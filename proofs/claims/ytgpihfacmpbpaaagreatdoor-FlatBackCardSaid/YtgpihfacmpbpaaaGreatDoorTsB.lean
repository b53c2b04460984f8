/-
  The landed tree's open nodes in memory; what its reading functions answer: depth, inside, top, inText, within, block, beyond.
-/
import Derived.Test.YtgpihfacmpbpaaaGreatDoorVb
import Derived.Test.YtgpihfacmpbpaaaGreatDoorVg
import Derived.OwnWalk
import Derived.Deep.QuietTactic
import Derived.BigQuiet
import Derived.BigRegion
import Derived.Deep.RegionHeld3
import Derived.Deep.AppendLies
namespace Go.Proofs.YtgpihfacmpbpaaaGreatDoor.Tr
open Go.RowKit
def cL (b:Lv):List Value:=[.int .u8 (b.kind:Int),.int .i64 (b.start:Int),.int .i64 (b.lists:Int),.int .i64 (b.parts:Int),.int .i64 (b.rank:Int),.int .i64 (b.lW:Int),.bool b.iO,.int .i64 (b.bytes:Int)]
theorem NP (b:Lv):(cL b).length=8:=rfl
structure dI (w:World) (N P M n L:Nat) (o:St):Prop where
 c0:w.cell? ⟨P,0,none⟩=some (.map (some M))
 row:∃ cap,w.cell? ⟨P,1,none⟩=some (.slice (some ⟨L,0,none⟩) o.lv.length cap)∧w.ownsRow N 110 8 (.slice (some ⟨L,0,none⟩) o.lv.length cap) o.lv.length (Ba.rows cL o.lv)
 c2:w.cell? ⟨P,2,none⟩=some (.int .i64 (o.nodes:Int))
 c3:w.cell? ⟨P,3,none⟩=some (.bool o.deep)
 c4:w.cell? ⟨P,4,none⟩=some (.bool o.fM)
 fz:∀ i,w.frozen? ⟨P,i,none⟩=false
 map:Ts.iE w M n rk
 pos:0<o.lv.length
 head:(o.lv.getD 0 fN).kind=95
 small:∀ b ∈ o.lv,b.kind<256
 zE:N≤P
 o4:L≠P
 xV:L≠M
 uN:M≠P
theorem dI.of_heap {w w':World} {N P M n L:Nat} {o:St} (h:dI w N P M n L o) (hh:w'.heap=w.heap):dI w' N P M n L o:=by
 have hc:∀ a,w'.cell? a=w.cell? a:=fun a=>World.cell?_of_block (by rw[hh])
 have hf:∀ a,w'.frozen? a=w.frozen? a:=fun a=>World.frozen?_of_block (by rw[hh])
 obtain⟨cap,r1,r2,r3⟩:=h.row
 refine⟨(hc _).trans h.c0,⟨cap,(hc _).trans r1,r2,?_⟩,(hc _).trans h.c2,(hc _).trans h.c3,(hc _).trans h.c4,fun i=>(hf _).trans (h.fz i),h.map.aX (by rw[hh]),h.pos,h.head,h.small,h.zE,h.o4,h.xV,h.uN⟩
 rcases r3 with⟨hv,_⟩ | ⟨g,cp,cur,hv,hb,hg,rest⟩
 ·cases hv
 ·exact .inr ⟨g,cp,cur,hv,hb,by rw[hh];exact hg,rest⟩
theorem dI.drewN {w:World} {N P M n L:Nat} {o:St} (h:dI w N P M n L o) (k:Nat):dI (w.drewN k) N P M n L o:=h.of_heap rfl
theorem dI.len {w:World} {N P M n L:Nat} {o:St} (h:dI w N P M n L o):∃ m,o.lv.length=m+1:=⟨o.lv.length - 1,by have:=h.pos;omega⟩
theorem dI.bound {w:World} {N P M n L:Nat} {o:St} (h:dI w N P M n L o):o.lv.length≤maxLen:=by
 obtain⟨cap,_,_,r3⟩:=h.row
 rcases r3 with⟨hv,_⟩ | ⟨g,cp,cur,hv,hb,hg,h1,h2,_⟩
 ·cases hv
 ·omega
theorem dI.at {w:World} {N P M n L:Nat} {o:St} (h:dI w N P M n L o) {i:Nat} {b:Lv} (hb:o.lv[i]?=some b) :
  w.cell? ⟨L,i * 8,none⟩=some (.int .u8 (b.kind:Int))∧w.cell? ⟨L,i * 8+1,none⟩=some (.int .i64 (b.start:Int))∧w.cell? ⟨L,i * 8+2,none⟩=some (.int .i64 (b.lists:Int)) ∧
  w.cell? ⟨L,i * 8+3,none⟩=some (.int .i64 (b.parts:Int))∧w.cell? ⟨L,i * 8+4,none⟩=some (.int .i64 (b.rank:Int))∧w.cell? ⟨L,i * 8+5,none⟩=some (.int .i64 (b.lW:Int)) ∧
  w.cell? ⟨L,i * 8+6,none⟩=some (.bool b.iO)∧w.cell? ⟨L,i * 8+7,none⟩=some (.int .i64 (b.bytes:Int)):=by
 obtain⟨cap,_,own⟩:=h.row
 have hi:i<o.lv.length:=(List.getElem?_eq_some_iff.1 hb).1
 have key:∀ j,j<8→w.cell? ⟨L,i * 8+j,none⟩=(cL b)[j]?:=fun j hj=>by
  have hlt:i * 8+j<o.lv.length * 8:=by omega
  rw[own.cellAt _ hlt,Ba.cB cL NP _ _ _ hb j hj]
 exact⟨key 0 (by omega),key 1 (by omega),key 2 (by omega),key 3 (by omega),key 4 (by omega),key 5 (by omega),key 6 (by omega),key 7 (by omega)⟩
theorem fZ {α:Type} {l:List α} {i:Nat} {b d:α} (hb:l[i]?=some b):l.getD i d=b:=by
 rw[List.getD_eq_getElem?_getD,hb];rfl
theorem dM {α:Type} {l:List α} {i:Nat} (hi:i<l.length):∃ b,l[i]?=some b:=⟨_,List.getElem?_eq_getElem hi⟩
set_option maxHeartbeats 1000000 in
theorem iQ {w:World} {N P M n L:Nat} {o:St} (h:dI w N P M n L o) (m:Nat) (hm:o.lv.length=m+1) :
  Calls Tryz.prog 72 #[.pointer (some ⟨P,0,none⟩)] w fun e w'=>e=.returned (.int .i64 (m:Int))∧w=w':=by
 obtain⟨cap,c1,-⟩:=h.row
 have hb:=h.bound
 unfold maxLen at hb
 rw[hm]at c1 hb
 clear h hm
 go_enter Tryz.func72,Tryz.ntmps72
 go_wp2
 go_ret
 exact⟨Ba.bF (by omega),rfl⟩
set_option maxHeartbeats 1000000 in
theorem gZ {w:World} {N P M n L:Nat} {o:St} (h:dI w N P M n L o) (v:Bool) (hv:decide (1<o.lv.length)=v) :
  Calls Tryz.prog 40 #[.pointer (some ⟨P,0,none⟩)] w fun e w'=>e=.returned (.bool v)∧w=w':=by
 obtain⟨m,hm⟩:=h.len
 have hv':=Lib.hid (show decide (0<m)=v by rw[← hv,hm];simp)
 clear hv
 go_enter Tryz.func40,Tryz.ntmps40
 go_wp2_with (go_at_call 72;refine(iQ h m hm).mono ?_;rintro e w' ⟨rfl,rfl⟩)
 go_ret
 exact⟨Ba.aC hv'.out,rfl⟩
set_option maxHeartbeats 1000000 in
theorem jH {w:World} {N P M n L:Nat} {o:St} (h:dI w N P M n L o) (m:Nat) (hm:o.lv.length=m+1) :
  Calls Tryz.prog 70 #[.pointer (some ⟨P,0,none⟩)] w fun e w'=>e=.returned (.pointer (some ⟨L,m * 8,none⟩))∧∃ k,w'=w.drewN k:=by
 obtain⟨cap,c1,own⟩:=id h.row
 have hb:=h.bound
 unfold maxLen at hb
 rw[hm]at c1 hb
 have H:=Lib.hid h
 have HM:=Lib.hid hm
 clear h own hm
 go_enter Tryz.func70,Tryz.ntmps70
 go_wp2
 go_quiet ((go_at_call 72;exact Calls.quiet_of_same ((iQ (H.out.drewN _) m HM.out).mono fun _ _ h=>⟨h.1,h.2.symm⟩)))
 go_wp2
 go_ret
 exact⟨rfl,_,rfl⟩
set_option maxHeartbeats 1000000 in
theorem CJ (k:Nat) (v:Bool) (hv:tJ k=v) (w:World) :
  Calls Tryz.prog 116 #[.int .u8 (k:Int)] w fun e w'=>e=.returned (.bool v)∧w=w':=by
 have e:∀ j:Nat,((k:Int)==(j:Int))=(k==j):=fun j=>by
  by_cases h:k=j
  ·subst h;simp
  ·rw[show (k==j)=false from beq_eq_false_iff_ne.2 h];exact beq_eq_false_iff_ne.2 (by omega)
 unfold tJ at hv
 cases h1:(k==101)
 ·cases h2:(k==115)
  ·cases h3:(k==110)
   all_goals
    have t1:((k:Int)==101)=false:=(e 101).trans h1
    have t2:((k:Int)==115)=false:=(e 115).trans h2
    have t3:=Lib.hid ((e 110).trans h3)
    have HV:=Lib.hid (show ((k:Int)==((110:Nat):Int))=v by rw[← hv,h1,h2,e 110];rfl)
    clear h1 h2 h3 e hv
    go_enter Tryz.func116,Tryz.ntmps116
    go_wp2
    go_ret
    exact⟨Ba.aC HV.out,rfl⟩
  ·have t1:((k:Int)==101)=false:=(e 101).trans h1
   have t2:((k:Int)==115)=true:=(e 115).trans h2
   have HV:=Lib.hid (show true=v by rw[← hv,h1,h2];rfl)
   clear h1 h2 e hv
   go_enter Tryz.func116,Tryz.ntmps116
   go_wp2
   go_ret
   exact⟨Ba.aC HV.out,rfl⟩
 ·have t1:((k:Int)==101)=true:=(e 101).trans h1
  have HV:=Lib.hid (show true=v by rw[← hv,h1];rfl)
  clear h1 e hv
  go_enter Tryz.func116,Tryz.ntmps116
  go_wp2
  go_ret
  exact⟨Ba.aC HV.out,rfl⟩
def NQ (L:Nat):Option Nat→Value
 | none=>.pointer none
 | some i=>.pointer (some ⟨L,i * 8,none⟩)
set_option maxHeartbeats 2000000 in
theorem tD {w:World} {N P M n L:Nat} {o:St} (h:dI w N P M n L o) (k:Nat) (v:Option Nat) (hv:cX o.lv k=v) :
  Calls Tryz.prog 97 #[.pointer (some ⟨P,0,none⟩),.int .u8 (k:Int)] w fun e w'=>e=.returned (NQ L v)∧w=w':=by
 obtain⟨m,hm⟩:=h.len
 obtain⟨cap,c1,own⟩:=id h.row
 have hb:=h.bound
 unfold maxLen at hb
 rw[hm]at c1 hb
 have H:=Lib.hid h
 have HM:=Lib.hid hm
 have HV:=Lib.hid hv
 clear h own hm hv
 go_enter Tryz.func97,Tryz.ntmps97
 go_wp2_with (go_at_call 72;refine(iQ H.out m HM.out).mono ?_;rintro e w' ⟨rfl,rfl⟩)
 go_loop [5] (fun i=>∃ n:Nat,n≤m∧i=.int .i64 n∧gR o.lv k (n+1)=cX o.lv k) (fun i=>(intOf i).toNat)
 case atStart=>exact⟨m,by omega,rfl,by unfold cX;rw[HM.out]⟩
 case round =>
  obtain⟨n,hn,rfl,hF⟩:=hrel
  have HF:=Lib.hid hF
  clear hF
  have j0:(0:Int)≤(n:Int):=by omega
  have j1:(n:Int)<(m:Int)+1:=by omega
  obtain⟨b,hb'⟩:=dM (l:=o.lv) (i:=n) (by have:=HM.out;omega)
  obtain⟨b0,-⟩:=H.out.at hb'
  have hD:o.lv.getD n fN=b:=fZ hb'
  have hz:n=0→b.kind=95:=fun e=>by
   subst e
   rw[← hD];exact H.out.head
  obtain⟨q,hq⟩:∃ q,b.kind=q:=⟨_,rfl⟩
  rw[hq]at b0 hz
  cases ht:tJ q
  ·have HT:=Lib.hid ht
   have HR:=Lib.hid (show none=v by rw[← HV.out,← HF.out];unfold gR;rw[hD,hq,if_neg (by rw[ht];simp)])
   clear ht hb' hD hz hq
   go_wp2_with (go_at_call 116;refine(CJ q false HT.out _).mono ?_;rintro e w' ⟨rfl,rfl⟩)
   go_ret
   exact⟨by rw[← HR.out];rfl,rfl⟩
  ·have HT:=Lib.hid ht
   have hn0:0<n:=by
    rcases Nat.eq_zero_or_pos n with e | e
    ·rw[hz e]at ht;cases ht
    ·exact e
   by_cases he:q=k
   ·have HR:=Lib.hid (show some n=v by rw[← HV.out,← HF.out];unfold gR;rw[hD,hq,if_pos ht,if_pos he])
    have t1:((q:Int)==(k:Int))=true:=beq_iff_eq.2 (by omega)
    clear ht hb' hD hz hq he
    go_wp2_with (go_at_call 116;refine(CJ q true HT.out _).mono ?_;rintro e w' ⟨rfl,rfl⟩)
    go_ret
    exact⟨by rw[← HR.out];rfl,rfl⟩
   ·have HR:=Lib.hid (show gR o.lv k (n - 1+1)=cX o.lv k by
     rw[← HF.out];conv=>rhs;unfold gR
     rw[hD,hq,if_pos ht,if_neg he,show n - 1+1=n from by omega])
    have t1:((q:Int)==(k:Int))=false:=beq_eq_false_iff_ne.2 (by omega)
    clear ht hb' hD hz hq he
    go_wp2_with (go_at_call 116;refine(CJ q true HT.out _).mono ?_;rintro e w' ⟨rfl,rfl⟩)
    go_round
    case rel=>exact⟨n - 1,by omega,by simp only[Value.int.injEq,true_and];omega,HR.out⟩
    case measure=>simp[intOf];omega
set_option maxHeartbeats 2000000 in
theorem CK {w:World} {N P M n L:Nat} {o:St} (h:dI w N P M n L o) (v:Nat) (hv:aR o.lv=v) :
  Calls Tryz.prog 98 #[.pointer (some ⟨P,0,none⟩)] w fun e w'=>e=.returned (.pointer (some ⟨L,v * 8,none⟩))∧w=w':=by
 obtain⟨m,hm⟩:=h.len
 obtain⟨cap,c1,own⟩:=id h.row
 have hb:=h.bound
 unfold maxLen at hb
 rw[hm]at c1 hb
 have H:=Lib.hid h
 have HM:=Lib.hid hm
 have HV:=Lib.hid hv
 clear h own hm hv
 go_enter Tryz.func98,Tryz.ntmps98
 go_wp2_with (go_at_call 72;refine(iQ H.out m HM.out).mono ?_;rintro e w' ⟨rfl,rfl⟩)
 go_loop [3] (fun i=>∃ n:Nat,n≤m∧i=.int .i64 n∧dF o.lv (n+1)=aR o.lv) (fun i=>(intOf i).toNat)
 case atStart=>exact⟨m,by omega,rfl,by unfold aR;rw[HM.out]⟩
 case round =>
  obtain⟨n,hn,rfl,hF⟩:=hrel
  have HF:=Lib.hid hF
  clear hF
  have j0:(0:Int)≤(n:Int):=by omega
  have j1:(n:Int)<(m:Int)+1:=by omega
  obtain⟨b,hb'⟩:=dM (l:=o.lv) (i:=n) (by have:=HM.out;omega)
  obtain⟨b0,-⟩:=H.out.at hb'
  have hD:o.lv.getD n fN=b:=fZ hb'
  have hz:n=0→b.kind=95:=fun e=>by
   subst e
   rw[← hD];exact H.out.head
  obtain⟨q,hq⟩:∃ q,b.kind=q:=⟨_,rfl⟩
  rw[hq]at b0 hz
  cases ht:tJ q
  ·have HT:=Lib.hid ht
   have HR:=Lib.hid (show n=v by rw[← HV.out,← HF.out];unfold dF;rw[hD,hq,if_neg (by rw[ht];simp)])
   clear ht hb' hD hz hq
   go_wp2_with (go_at_call 116;refine(CJ q false HT.out _).mono ?_;rintro e w' ⟨rfl,rfl⟩)
   go_ret
   exact⟨by rw[← HR.out];rfl,rfl⟩
  ·have HT:=Lib.hid ht
   have hn0:0<n:=by
    rcases Nat.eq_zero_or_pos n with e | e
    ·rw[hz e]at ht;cases ht
    ·exact e
   have HR:=Lib.hid (show dF o.lv (n - 1+1)=aR o.lv by
    rw[← HF.out];conv=>rhs;unfold dF
    rw[hD,hq,if_pos ht,show n - 1+1=n from by omega])
   clear ht hb' hD hz hq
   go_wp2_with (go_at_call 116;refine(CJ q true HT.out _).mono ?_;rintro e w' ⟨rfl,rfl⟩)
   go_round
   case rel=>exact⟨n - 1,by omega,by simp only[Value.int.injEq,true_and];omega,HR.out⟩
   case measure=>simp[intOf];omega
set_option maxHeartbeats 1000000 in
theorem lC {w:World} {N P M n L:Nat} {o:St} (h:dI w N P M n L o) (v:Nat) (hv:fO o=v) :
  Calls Tryz.prog 39 #[.pointer (some ⟨P,0,none⟩)] w fun e w'=>e=.returned (.int .i64 (v:Int))∧w=w':=by
 have c3:=h.c3
 have c4:=h.c4
 unfold fO at hv
 cases hd:o.deep
 ·cases hmu:o.fM
  all_goals
   rw[hd]at c3 hv
   rw[hmu]at c4 hv
   have HV:=Lib.hid hv
   clear h hv hd hmu
   go_enter Tryz.func39,Tryz.ntmps39
   go_wp2
   go_ret
   exact⟨Ba.bF (by rw[← HV.out];rfl),rfl⟩
 ·rw[hd]at c3 hv
  have HV:=Lib.hid hv
  clear h hv hd c4
  go_enter Tryz.func39,Tryz.ntmps39
  go_wp2
  go_ret
  exact⟨Ba.bF (by rw[← HV.out];rfl),rfl⟩
end Go.Proofs.YtgpihfacmpbpaaaGreatDoor.Tr
