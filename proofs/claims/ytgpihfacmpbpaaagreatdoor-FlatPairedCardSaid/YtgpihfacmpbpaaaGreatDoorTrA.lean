/-
  The document's helpers of layer 4: in, last, many, Texts.
-/
import Derived.Test.YtgpihfacmpbpaaaGreatDoorVb
import Derived.Test.YtgpihfacmpbpaaaGreatDoorVg
import Derived.OwnWalk
import Derived.Deep.QuietTactic
import Derived.BigQuiet
import Derived.BigRegion
namespace Go.Proofs.YtgpihfacmpbpaaaGreatDoor.Tr
open Go.RowKit
theorem aAX {k:Nat} {s:ByteArray} {j:Nat} (hj:j<s.size) (h:Lx.bT s j=k):cM k s=true:=by
 unfold cM
 rw[List.contains_iff_mem]
 subst h
 unfold Lx.bT
 rw[List.getD_eq_getElem?_getD,List.getElem?_eq_getElem (by rw[Lx.bL];exact hj)]
 exact List.getElem_mem _
theorem aDG {k:Nat} {s:ByteArray} (h:∀ j,j<s.size→Lx.bT s j≠k):cM k s=false:=by
 unfold cM
 rw[← Bool.not_eq_true,List.contains_iff_mem]
 intro hm
 obtain⟨j,hj,he⟩:=List.mem_iff_getElem.1 hm
 rw[Lx.bL]at hj
 refine h j hj ?_
 unfold Lx.bT
 rw[List.getD_eq_getElem?_getD,List.getElem?_eq_getElem (by rw[Lx.bL];exact hj)]
 exact he
set_option maxHeartbeats 1000000 in
theorem zC (k:Nat) (_hk:k<256) (s:ByteArray) (hs:s.size≤70000) (v:Bool) (hv:cM k s=v) (w:World) :
  Calls Tryz.prog 84 #[.int .u8 (k:Int),.string s] w fun e w'=>e=.returned (.bool v)∧w=w':=by
 have HV:=Lib.hid hv
 clear hv
 go_enter Tryz.func84,Tryz.ntmps84
 go_wp2
 go_loop [5] (fun i=>∃ n:Nat,n≤s.size∧i=.int .i64 n∧∀ j,j<n→Lx.bT s j≠k) (fun i=>s.size - (intOf i).toNat)
 case atStart=>exact⟨0,by omega,rfl,fun j hj=>by omega⟩
 case round =>
  obtain⟨n,hn,rfl,hj⟩:=hrel
  have HJ:=Lib.hid hj
  clear hj
  by_cases hlt:n<s.size
  ·have E1:=Lx.cJ s n hlt
   have h256:=Lx.eF s n
   obtain⟨b,hb⟩:∃ b,Lx.bT s n=b:=⟨_,rfl⟩
   rw[hb]at E1 h256
   by_cases he:b=k
   ·have HR:=Lib.hid (aAX hlt (hb.trans he))
    have t1:((b:Int)==(k:Int))=true:=beq_iff_eq.2 (by omega)
    clear hb he
    go_wp2
    go_ret
    exact⟨Ba.aC (HR.out.symm.trans HV.out),rfl⟩
   ·have t1:((b:Int)==(k:Int))=false:=beq_eq_false_iff_ne.2 (by omega)
    have HJ2:=Lib.hid (show ∀ j,j<n+1→Lx.bT s j≠k from fun j h2=>by
     rcases Nat.lt_or_ge j n with h3 | h3
     ·exact HJ.out j h3
     ·obtain rfl:j=n:=by omega
      rw[hb];exact he)
    clear hb he
    go_wp2
    go_round
    case rel=>exact⟨n+1,by omega,by go_num,HJ2.out⟩
    case measure=>simp[intOf];omega
  ·obtain rfl:n=s.size:=by omega
   have HR:=Lib.hid (aDG HJ.out)
   go_wp2
   go_ret
   exact⟨Ba.aC (HR.out.symm.trans HV.out),rfl⟩
def cO (o:Op):List Value:=[.int .u8 (o.kind:Int),.string o.kids,.int .i64 (o.spot:Int),.int .i64 (o.notes:Int),.int .i64 (o.first:Int),.string o.text]
def cN (x:Nd):List Value:=[.int .u8 (x.kind:Int),.string x.text,.int .i64 x.place,.int .i64 x.size]
theorem n8 (o:Op):(cO o).length=6:=rfl
theorem dX (x:Nd):(cN x).length=4:=rfl
abbrev dR (w:World) (B:Nat) (v:Value) (p:List Op):Prop:=Ba.Reads cO 6 0 w B v p
theorem dR.cells {w:World} {B:Nat} {v:Value} {p:List Op} (h:dR w B v p) (h0:0<p.length) :
  ∃ g c,v=.slice (some ⟨g,0,none⟩) p.length c∧g<B∧∀ k o,p[k]?=some o →
   w.cell? ⟨g,k * 6,none⟩=some (.int .u8 (o.kind:Int))∧w.cell? ⟨g,k * 6+1,none⟩=some (.string o.kids)∧w.cell? ⟨g,k * 6+2,none⟩=some (.int .i64 (o.spot:Int)) ∧
   w.cell? ⟨g,k * 6+3,none⟩=some (.int .i64 (o.notes:Int))∧w.cell? ⟨g,k * 6+4,none⟩=some (.int .i64 (o.first:Int))∧w.cell? ⟨g,k * 6+5,none⟩=some (.string o.text):=by
 obtain⟨g,c,rfl,hg,hk⟩:=h.at h0
 refine⟨g,c,rfl,hg,fun k o ho=>?_⟩
 have e:=hk k o ho
 simp only[Nat.zero_add]at e
 exact⟨e 0 _ rfl,e 1 _ rfl,e 2 _ rfl,e 3 _ rfl,e 4 _ rfl,e 5 _ rfl⟩
def nO (p:List Op):Prop:=∀ o ∈ p,o.kind<256∧o.kids.size≤70000
def vX (p:List Op) (ks:ByteArray):Int:=if aN p ks=0 then -1 else (aN p ks:Int)
set_option maxHeartbeats 2000000 in
theorem PL (v:Value) (p:List Op) (ks:ByteArray) (hks:ks.size≤70000) (h0:0<p.length) (hl:p.length≤70000) (hk:nO p) (B:Nat) (w:World) (hv:dR w B v p) (z:Int) (hz:vX p ks=z) :
  Calls Tryz.prog 83 #[v,.string ks] w fun e w'=>e=.returned (.int .i64 z)∧w=w':=by
 obtain⟨g,c,rfl,hg,hc⟩:=hv.cells h0
 have HZ:=Lib.hid hz
 have HC:=Lib.hid hc
 obtain⟨m,hm⟩:∃ m,p.length=m+1:=⟨p.length - 1,by omega⟩
 have HM:=Lib.hid hm
 rw[hm]at hl ⊢
 clear hz hc hm h0 hv
 go_enter Tryz.func83,Tryz.ntmps83
 go_wp2
 go_loop [5] (fun i=>∃ n:Nat,n≤m∧i=.int .i64 n∧iC p ks (n+1)=aN p ks) (fun i=>(intOf i).toNat)
 case atStart=>exact⟨m,by omega,by go_num,by unfold aN;rw[HM.out]⟩
 case round =>
  obtain⟨n,hn,rfl,hF⟩:=hrel
  have HF:=Lib.hid hF
  clear hF
  by_cases hlt:0<n
  ·have hx:p[n]?=some (p[n]'(by have:=HM.out;omega)):=List.getElem?_eq_getElem _
   obtain⟨o,ho⟩:∃ o,p[n]?=some o:=⟨_,hx⟩
   obtain⟨c0,-,-,-,-,-⟩:=HC.out n o ho
   obtain⟨k1,-⟩:=hk o (List.mem_of_getElem? ho)
   have hD:p.getD n root=o:=by rw[List.getD_eq_getElem?_getD,ho];rfl
   have j1:(n:Int)<(m:Int)+1:=by omega
   have j0:(0:Int)<(n:Int):=by omega
   by_cases hi:cM o.kind ks=true
   ·have HI:=Lib.hid hi
    have HR:=Lib.hid (show aN p ks=n by rw[← HF.out];unfold iC;rw[if_neg (by omega),hD,if_pos hi])
    clear hi hx ho hD
    go_wp2_with (go_at_call 84;refine(zC o.kind k1 ks hks true HI.out _).mono ?_;rintro e w' ⟨rfl,rfl⟩)
    go_ret
    exact⟨Ba.bF (by rw[← HZ.out];unfold vX;rw[HR.out,if_neg (by omega)]),rfl⟩
   ·have hi':cM o.kind ks=false:=by simpa using hi
    have HI:=Lib.hid hi'
    have HR:=Lib.hid (show iC p ks (n - 1+1)=aN p ks by
     rw[← HF.out];conv=>rhs;unfold iC
     rw[if_neg (by omega),hD,if_neg hi,show n - 1+1=n from by omega])
    clear hi hi' hx ho hD
    go_wp2_with (go_at_call 84;refine(zC o.kind k1 ks hks false HI.out _).mono ?_;rintro e w' ⟨rfl,rfl⟩)
    go_round
    case rel=>exact⟨n - 1,by omega,by simp only[Value.int.injEq,true_and];omega,HR.out⟩
    case measure=>simp[intOf];omega
  ·obtain rfl:n=0:=by omega
   have HR:=Lib.hid (show aN p ks=0 by rw[← HF.out];unfold iC;rw[if_pos rfl])
   go_wp2
   go_ret
   exact⟨Ba.bF (by rw[← HZ.out];unfold vX;rw[HR.out,if_pos rfl]),rfl⟩
end Go.Proofs.YtgpihfacmpbpaaaGreatDoor.Tr
