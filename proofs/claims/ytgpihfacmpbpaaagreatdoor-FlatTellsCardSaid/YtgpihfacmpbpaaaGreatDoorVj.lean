/-
  Put together: TrB, TrC.
-/
import Derived.Test.YtgpihfacmpbpaaaGreatDoorTrA
namespace Go.Proofs.YtgpihfacmpbpaaaGreatDoor.Tr
open Go.RowKit
def manyN (p:List Op) (k n:Nat):Nat:=(((p.take n).drop 1).filter fun o=>o.kind==k).length
theorem SU (p:List Op) (k:Nat):manyN p k 1=0:=by
 unfold manyN
 rw[List.drop_of_length_le (by rw[List.length_take];omega)];rfl
theorem CD {p:List Op} {k n:Nat} {o:Op} (h1:1≤n) (ho:p[n]?=some o):manyN p k (n+1)=manyN p k n+if o.kind=k then 1 else 0:=by
 have hn:=(List.getElem?_eq_some_iff.1 ho).1
 unfold manyN
 rw[List.take_add_one,ho]
 rw[List.drop_append_of_le_length (by rw[List.length_take];omega),List.filter_append,List.length_append]
 by_cases hk:o.kind=k
 ·simp[hk]
 ·simp[hk]
theorem SV (p:List Op) (k:Nat):manyN p k p.length=bG p k:=by unfold manyN bG;rw[List.take_length]
set_option maxHeartbeats 2000000 in
theorem cH (v:Value) (p:List Op) (k:Nat) (_hk2:k<256) (h0:0<p.length) (hl:p.length≤70000) (B:Nat) (w:World) (hv:dR w B v p) (z:Nat) (hz:bG p k=z) :
  Calls Tryz.prog 86 #[v,.int .u8 (k:Int)] w fun e w'=>e=.returned (.int .i64 (z:Int))∧w=w':=by
 obtain⟨g,c,rfl,hg,hc⟩:=hv.cells h0
 have HZ:=Lib.hid hz
 have HC:=Lib.hid hc
 obtain⟨m,hm⟩:∃ m,p.length=m:=⟨_,rfl⟩
 have HM:=Lib.hid hm
 rw[hm]at hl h0 ⊢
 clear hz hc hm hv
 go_enter Tryz.func86,Tryz.ntmps86
 go_wp2
 go_loop [5,6] (fun u i=>∃ n c:Nat,1≤n∧n≤m∧i=.int .i64 n∧u=.int .i64 c∧c≤n∧manyN p k n=c) (fun _ i=>m - (intOf i).toNat)
 case atStart=>exact⟨1,0,by omega,by omega,rfl,rfl,by omega,SU p k⟩
 case round =>
  obtain⟨n,c,hn1,hn,rfl,rfl,hcn,hN⟩:=hrel
  have HN:=Lib.hid hN
  clear hN
  by_cases hlt:n<m
  ·have hx:p[n]?=some (p[n]'(by have:=HM.out;omega)):=List.getElem?_eq_getElem _
   obtain⟨o,ho⟩:∃ o,p[n]?=some o:=⟨_,hx⟩
   obtain⟨c0,-,-,-,-,-⟩:=HC.out n o ho
   by_cases he:o.kind=k
   ·have HS:=Lib.hid (show manyN p k (n+1)=c+1 by rw[CD hn1 ho,if_pos he,HN.out])
    have t1:((o.kind:Int)==(k:Int))=true:=beq_iff_eq.2 (by omega)
    clear hx ho he
    go_wp2
    go_round
    case rel=>exact⟨n+1,c+1,by omega,by omega,by go_num,by go_num,by omega,HS.out⟩
    case measure=>simp[intOf];omega
   ·have HS:=Lib.hid (show manyN p k (n+1)=c by rw[CD hn1 ho,if_neg he,HN.out];rfl)
    have t1:((o.kind:Int)==(k:Int))=false:=beq_eq_false_iff_ne.2 (by omega)
    clear hx ho he
    go_wp2
    go_round
    case rel=>exact⟨n+1,c,by omega,by omega,by go_num,rfl,by omega,HS.out⟩
    case measure=>simp[intOf];omega
  ·obtain rfl:n=m:=by omega
   have HR:=Lib.hid (show c=z by rw[← HZ.out,← SV p k,HM.out];exact HN.out.symm)
   go_wp2
   go_ret
   exact⟨Ba.bF (by rw[HR.out]),rfl⟩
theorem AF (k:Nat) (hk:k<256) (v:Bool) (hv:cM k fB=v) (w:World) :
  Calls Tryz.prog 84 #[.int .u8 (k:Int),.string { data:=#[49,50,51,112,99,110,101,115] }] w fun e w'=>e=.returned (.bool v)∧w=w':=zC k hk fB (by decide) v hv w
theorem aEE (s:ByteArray) (hs:s.size≤70000) (v:Bool) (hv:cM 108 s=v) (w:World) :
  Calls Tryz.prog 84 #[.int .u8 108,.string s] w fun e w'=>e=.returned (.bool v)∧w=w':=zC 108 (by decide) s hs v hv w
theorem vY {p:List Op} {m:Nat} {o:Op} (hm:p.length=m+1) (ho:p[m]?=some o):aZ p=o:=by
 unfold aZ
 rw[List.getLastD_eq_getLast?,List.getLast?_eq_getElem?,hm,Nat.add_sub_cancel,ho];rfl
set_option maxHeartbeats 4000000 in
theorem aO (v:Value) (p:List Op) (h0:0<p.length) (hl:p.length≤70000) (hk:nO p) (B:Nat) (w:World) (hv:dR w B v p) (b:Bool) (hb:aJ p=b) :
  Calls Tryz.prog 53 #[v] w fun e w'=>e=.returned (.bool b)∧Below w.heap.size w w':=by
 obtain⟨g,c,rfl,hg,hc⟩:=hv.cells h0
 obtain⟨m,hm⟩:∃ m,p.length=m+1:=⟨p.length - 1,by omega⟩
 have hx:p[m]?=some (p[m]'(by omega)):=List.getElem?_eq_getElem _
 obtain⟨o,ho⟩:∃ o,p[m]?=some o:=⟨_,hx⟩
 obtain⟨c0,c1,c2,c3,c4,c5⟩:=hc m o ho
 obtain⟨k1,k2⟩:=hk o (List.mem_of_getElem? ho)
 have hT:=vY hm ho
 rw[hm]at hl ⊢
 have HB:=Lib.hid (show (cM o.kind fB || (o.kind==105 && !cM 108 o.kids))=b by rw[← hb];unfold aJ;rw[hT])
 clear hc hx ho hT hb hv hm h0 hk
 have hbel:Below w.heap.size w (w.alloc (.cells #[.int .u8 (o.kind:Int),.string o.kids,.int .i64 (o.spot:Int),.int .i64 (o.notes:Int),.int .i64 (o.first:Int),.string o.text] 135)):=(Below.refl _ w).alloc (Nat.le_refl _) _
 have HL:=Lib.hid hbel
 clear hbel
 obtain⟨f1,hf1⟩:∃ f1,cM o.kind fB=f1:=⟨_,rfl⟩
 obtain⟨f2,hf2⟩:∃ f2,cM 108 o.kids=f2:=⟨_,rfl⟩
 have HF1:=Lib.hid hf1
 have HF2:=Lib.hid hf2
 rw[hf1,hf2]at HB
 clear hf1 hf2
 have j1:(0:Int)≤(m:Int):=by omega
 cases f1
 ·by_cases hi:o.kind=105
  ·have t1:((o.kind:Int)==105)=true:=beq_iff_eq.2 (by omega)
   have HB2:=Lib.hid (show (!f2)=b by rw[← HB.out];simp[hi])
   clear HB hi
   cases f2
   ·go_enter Tryz.func53,Tryz.ntmps53
    go_wp2_with (first
     |(go_at_call 84;((with_reducible refine(AF o.kind k1 false HF1.out _).mono ?_);rintro e w' ⟨rfl,rfl⟩))
     |(go_at_call 84;((with_reducible refine(aEE o.kids k2 false HF2.out _).mono ?_);rintro e w' ⟨rfl,rfl⟩)))
    go_ret
    exact⟨Ba.aC HB2.out,HL.out⟩
   ·go_enter Tryz.func53,Tryz.ntmps53
    go_wp2_with (first
     |(go_at_call 84;((with_reducible refine(AF o.kind k1 false HF1.out _).mono ?_);rintro e w' ⟨rfl,rfl⟩))
     |(go_at_call 84;((with_reducible refine(aEE o.kids k2 true HF2.out _).mono ?_);rintro e w' ⟨rfl,rfl⟩)))
    go_ret
    exact⟨Ba.aC HB2.out,HL.out⟩
  ·have t1:((o.kind:Int)==105)=false:=beq_eq_false_iff_ne.2 (by omega)
   have HB2:=Lib.hid (show false=b by rw[← HB.out];simp[hi])
   clear HB hi
   go_enter Tryz.func53,Tryz.ntmps53
   go_wp2_with (go_at_call 84;((with_reducible refine(AF o.kind k1 false HF1.out _).mono ?_);rintro e w' ⟨rfl,rfl⟩))
   go_ret
   exact⟨Ba.aC HB2.out,HL.out⟩
 ·have HB2:=Lib.hid (show true=b by rw[← HB.out];rfl)
  clear HB
  go_enter Tryz.func53,Tryz.ntmps53
  go_wp2_with (go_at_call 84;((with_reducible refine(AF o.kind k1 true HF1.out _).mono ?_);rintro e w' ⟨rfl,rfl⟩))
  go_ret
  exact⟨Ba.aC HB2.out,HL.out⟩
end Go.Proofs.YtgpihfacmpbpaaaGreatDoor.Tr
namespace Go.Proofs.YtgpihfacmpbpaaaGreatDoor.Tr
open Go.RowKit
theorem XD (k:Nat) (hk:k<256) (v:Bool) (hv:cM k kX=v) (w:World) :
  Calls Tryz.prog 84 #[.int .u8 (k:Int),.string { data:=#[49,50,51,112,108,116,107] }] w fun e w'=>e=.returned (.bool v)∧w=w':=zC k hk kX (by decide) v hv w
theorem dL (k:Nat) (hk:k<256) (v:Bool) (hv:cM k xT=v) (w:World) :
  Calls Tryz.prog 84 #[.int .u8 (k:Int),.string { data:=#[101,115,110] }] w fun e w'=>e=.returned (.bool v)∧w=w':=zC k hk xT (by decide) v hv w
theorem bV (v:Value) (p:List Op) (h0:0<p.length) (hl:p.length≤70000) (hk:nO p) (B:Nat) (w:World) (hv:dR w B v p) (z:Int) (hz:vX p bN=z) :
  Calls Tryz.prog 83 #[v,.string { data:=#[49,50,51,112,105] }] w fun e w'=>e=.returned (.int .i64 z)∧w=w':=PL v p bN (by decide) h0 hl hk B w hv z hz
theorem kY (v:Value) (p:List Op) (h0:0<p.length) (hl:p.length≤70000) (hk:nO p) (B:Nat) (w:World) (hv:dR w B v p) (z:Int) (hz:vX p bU=z) :
  Calls Tryz.prog 83 #[v,.string { data:=#[110] }] w fun e w'=>e=.returned (.int .i64 z)∧w=w':=PL v p bU (by decide) h0 hl hk B w hv z hz
theorem fX (v:Value) (p:List Op) (h0:0<p.length) (hl:p.length≤70000) (B:Nat) (w:World) (hv:dR w B v p) (c:Nat) (hc:bG p 99=c) :
  Calls Tryz.prog 86 #[v,.int .u8 99] w fun e w'=>e=.returned (.int .i64 (c:Int))∧w=w':=cH v p 99 (by decide) h0 hl B w hv c hc
theorem CE (v:Value) (p:List Op) (h0:0<p.length) (hl:p.length≤70000) (B:Nat) (w:World) (hv:dR w B v p) (c:Nat) (hc:bG p 108=c) :
  Calls Tryz.prog 86 #[v,.int .u8 108] w fun e w'=>e=.returned (.int .i64 (c:Int))∧w=w':=cH v p 108 (by decide) h0 hl B w hv c hc
theorem eG (v:Value) (p:List Op) (h0:0<p.length) (hl:p.length≤70000) (B:Nat) (w:World) (hv:dR w B v p) (c:Nat) (hc:bG p 110=c) :
  Calls Tryz.prog 86 #[v,.int .u8 110] w fun e w'=>e=.returned (.int .i64 (c:Int))∧w=w':=cH v p 110 (by decide) h0 hl B w hv c hc
theorem dH (v:Bool) (hv:cM 110 xT=v) (w:World) :
  Calls Tryz.prog 84 #[.int .u8 110,.string { data:=#[101,115,110] }] w fun e w'=>e=.returned (.bool v)∧w=w':=zC 110 (by decide) xT (by decide) v hv w
theorem lP {p:List Op} {ks:ByteArray} (h:aN p ks=0):vX p ks = -1:=by unfold vX;rw[if_pos h]
theorem eQ {p:List Op} {ks:ByteArray} {n:Nat} (h:aN p ks=n) (hn:0<n):vX p ks=(n:Int):=by unfold vX;rw[h,if_neg (by omega)]
theorem dR.note {w:World} {B g m c:Nat} {p:List Op} (h:dR w B (.slice (some ⟨g,0,none⟩) m c) p) {n:Nat} {o:Op} (ho:p[n]?=some o):w.cell? ⟨g,n * 6+3,none⟩=some (.int .i64 (o.notes:Int)):=by
 have h0:0<p.length:=by have:=(List.getElem?_eq_some_iff.1 ho).1;omega
 obtain⟨g',c',hv,_,hc⟩:=h.cells h0
 injection hv with e1 _ _
 injection e1 with e1
 injection e1 with e1 _ _
 subst e1
 exact(hc n o ho).2.2.2.1
theorem nE {a b:Nat} (h:a=b):((a:Int)==(b:Int))=true:=beq_iff_eq.2 (by omega)
theorem kZ {a b:Nat} (h:a≠b):((a:Int)==(b:Int))=false:=beq_eq_false_iff_ne.2 (by omega)
def GD (p:List Op) (o:Op) (k:Nat):Bool :=
 if (o.kind=105∧k=108)∨(o.kind=108∧k=105)∨(o.kind=116∧k=114) then true
 else if o.kind=114 then decide (k=99∧o.kids.size<8)
 else if aJ p=false∨cM k xT=false∨0<bG p k then false
 else if k≠110 then true
 else decide (bG p 99=0∧0<aN p bN∧(p.getD (aN p bN) root).notes=0)
set_option maxRecDepth 100000 in
set_option maxHeartbeats 16000000 in
theorem mV (v:Value) (p:List Op) (k:Nat) (hk2:k<256) (h0:0<p.length) (hl:p.length≤70000) (hk:nO p) (w:World) (hv:dR w w.heap.size v p) (b:Bool) (hb:eH p k=b) :
  Calls Tryz.prog 85 #[v,.int .u8 (k:Int)] w fun e w'=>e=.returned (.bool b)∧Below w.heap.size w w':=by
 have hv0:=hv
 obtain⟨g,c,rfl,hg,hc⟩:=hv.cells h0
 obtain⟨m,hm⟩:∃ m,p.length=m+1:=⟨p.length - 1,by omega⟩
 have hx:p[m]?=some (p[m]'(by omega)):=List.getElem?_eq_getElem _
 obtain⟨o,ho⟩:∃ o,p[m]?=some o:=⟨_,hx⟩
 obtain⟨c0,c1,c2,c3,c4,c5⟩:=hc m o ho
 obtain⟨k1,k2⟩:=hk o (List.mem_of_getElem? ho)
 have hT:=vY hm ho
 rw[hm]at hv0
 have hbel:Below w.heap.size w (w.alloc (.cells #[.int .u8 (o.kind:Int),.string o.kids,.int .i64 (o.spot:Int),.int .i64 (o.notes:Int),.int .i64 (o.first:Int),.string o.text] 135)):=(Below.refl _ w).alloc (Nat.le_refl _) _
 have HL:=Lib.hid hbel
 have H1:=Lib.hid (show dR (w.alloc (.cells #[.int .u8 (o.kind:Int),.string o.kids,.int .i64 (o.spot:Int),.int .i64 (o.notes:Int),.int .i64 (o.first:Int),.string o.text] 135)) w.heap.size (.slice (some ⟨g,0,none⟩) (m+1) c) p by rw[hm]at hv;exact hv.below hbel)
 have HP0:=Lib.hid h0
 have HPL:=Lib.hid hl
 have HK:=Lib.hid hk
 have hm7:m≤70000:=by omega
 have j1:(0:Int)≤(m:Int):=by omega
 by_cases hm0:m=0
 ·have HI:=Lib.hid (show cM k kX=b by rw[← hb];unfold eH;simp only[];rw[if_pos (by omega)])
  rw[hm]
  subst hm0
  clear hb hT hc hx ho hv hbel hl h0 hk hm hv0
  go_enter Tryz.func85,Tryz.ntmps85
  go_wp2_with (go_at_call 84;((with_reducible refine(XD k hk2 b HI.out _).mono ?_);rintro e w' ⟨rfl,rfl⟩))
  go_ret
  exact⟨rfl,HL.out⟩
 ·have hne:((m:Int)+1==1)=false:=beq_eq_false_iff_ne.2 (by omega)
  have hB:GD p o k=b:=by rw[← hb];unfold eH;simp only[];rw[if_neg (by omega),hT];rfl
  rw[hm]
  have HMP:=Lib.hid hm
  clear hb hT hc hx ho hv hbel hl h0 hk hm hv0
  have HB:=Lib.hid hB
  clear hB
  by_cases hA:(o.kind=105∧k=108)∨(o.kind=108∧k=105)∨(o.kind=116∧k=114)
  ·have HR:=Lib.hid (show true=b by rw[← HB.out];unfold GD;rw[if_pos hA])
   clear HB
   rcases hA with⟨e1,e2⟩ | ⟨e1,e2⟩ | ⟨e1,e2⟩
   ·have t1:((o.kind:Int)==105)=true:=beq_iff_eq.2 (by omega)
    have t2:((k:Int)==108)=true:=beq_iff_eq.2 (by omega)
    clear e1 e2
    go_enter Tryz.func85,Tryz.ntmps85
    go_wp2
    go_ret
    exact⟨Ba.aC HR.out,HL.out⟩
   ·have t1:((o.kind:Int)==108)=true:=beq_iff_eq.2 (by omega)
    have t2:((k:Int)==105)=true:=beq_iff_eq.2 (by omega)
    have t3:((o.kind:Int)==105)=false:=beq_eq_false_iff_ne.2 (by omega)
    clear e1 e2
    go_enter Tryz.func85,Tryz.ntmps85
    go_wp2
    go_ret
    exact⟨Ba.aC HR.out,HL.out⟩
   ·have t1:((o.kind:Int)==116)=true:=beq_iff_eq.2 (by omega)
    have t2:((k:Int)==114)=true:=beq_iff_eq.2 (by omega)
    have t3:((o.kind:Int)==105)=false:=beq_eq_false_iff_ne.2 (by omega)
    have t4:((o.kind:Int)==108)=false:=beq_eq_false_iff_ne.2 (by omega)
    clear e1 e2
    go_enter Tryz.func85,Tryz.ntmps85
    go_wp2
    go_ret
    exact⟨Ba.aC HR.out,HL.out⟩
  by_cases hr:o.kind=114
  ·have HR0:=Lib.hid (show decide (k=99∧o.kids.size<8)=b by rw[← HB.out];unfold GD;rw[if_neg hA,if_pos hr])
   have t1:((o.kind:Int)==114)=true:=beq_iff_eq.2 (by omega)
   have t3:((o.kind:Int)==105)=false:=beq_eq_false_iff_ne.2 (by omega)
   have t4:((o.kind:Int)==108)=false:=beq_eq_false_iff_ne.2 (by omega)
   have t5:((o.kind:Int)==116)=false:=beq_eq_false_iff_ne.2 (by omega)
   clear hA hr HB
   by_cases h9:k=99
   ·have t9:((k:Int)==99)=true:=beq_iff_eq.2 (by omega)
    by_cases h8:o.kids.size<8
    ·have HR:=Lib.hid (show true=b by rw[← HR0.out];simp[h9,h8])
     have t8:decide ((o.kids.size:Int)<8)=true:=decide_eq_true (by omega)
     clear HR0 h9 h8
     go_enter Tryz.func85,Tryz.ntmps85
     go_wp2
     go_ret
     exact⟨Ba.aC HR.out,HL.out⟩
    ·have HR:=Lib.hid (show false=b by rw[← HR0.out];simp[h8])
     have t8:decide ((o.kids.size:Int)<8)=false:=decide_eq_false (by omega)
     clear HR0 h9 h8
     go_enter Tryz.func85,Tryz.ntmps85
     go_wp2
     go_ret
     exact⟨Ba.aC HR.out,HL.out⟩
   ·have t9:((k:Int)==99)=false:=beq_eq_false_iff_ne.2 (by omega)
    have HR:=Lib.hid (show false=b by rw[← HR0.out];simp[h9])
    clear HR0 h9
    go_enter Tryz.func85,Tryz.ntmps85
    go_wp2
    go_ret
    exact⟨Ba.aC HR.out,HL.out⟩
  have HR0:=Lib.hid (show (if aJ p=false∨cM k xT=false∨0<bG p k then false else if k≠110 then true else decide (bG p 99=0∧0<aN p bN∧(p.getD (aN p bN) root).notes=0))=b by
   rw[← HB.out];unfold GD;rw[if_neg hA,if_neg hr])
  clear HB
  obtain⟨bt,hbt⟩:∃ bt,aJ p=bt:=⟨_,rfl⟩
  obtain⟨be,hbe⟩:∃ be,cM k xT=be:=⟨_,rfl⟩
  obtain⟨n1,hn1⟩:∃ n1,bG p k=n1:=⟨_,rfl⟩
  obtain⟨n9,hn9⟩:∃ n9,bG p 99=n9:=⟨_,rfl⟩
  obtain⟨la,hla⟩:∃ la,aN p bN=la:=⟨_,rfl⟩
  have hlam:la<m+1:=by rw[← hla,← HMP.out];exact oF _ HP0.out
  have hxa:p[la]?=some (p[la]'(by rw[HMP.out];exact hlam)):=List.getElem?_eq_getElem _
  obtain⟨oa,hoa⟩:∃ oa,p[la]?=some oa:=⟨_,hxa⟩
  have hda:p.getD la root=oa:=by rw[List.getD_eq_getElem?_getD,hoa];rfl
  rw[hbt,hbe,hn1,hn9,hla,hda]at HR0
  have HBT:=Lib.hid hbt
  have HBE:=Lib.hid hbe
  have HN1:=Lib.hid hn1
  have HN9:=Lib.hid hn9
  have HLA:=Lib.hid hla
  have HOA:=Lib.hid hoa
  clear hbt hbe hn1 hn9 hla hxa hoa hda
  have q1:(0:Int)≤(la:Int):=by omega
  have q2:(la:Int)<(m:Int)+1:=by omega
  have t6:((o.kind:Int)==114)=false:=beq_eq_false_iff_ne.2 (by omega)
  have combo:(o.kind=105∧k≠108)∨(o.kind=108∧k≠105)∨(o.kind=116∧k≠114)∨(o.kind≠105∧o.kind≠108∧o.kind≠116):=by omega
  have leaf:bt=false∨(bt=true∧be=false)∨(bt=true∧be=true∧0<n1)∨(bt=true∧be=true∧n1=0∧k≠110)∨(bt=true∧be=true∧n1=0∧k=110∧n9≠0)∨(bt=true∧be=true∧n1=0∧k=110∧n9=0∧la=0) ∨
    (bt=true∧be=true∧n1=0∧k=110∧n9=0∧0<la∧oa.notes≠0)∨(bt=true∧be=true∧n1=0∧k=110∧n9=0∧0<la∧oa.notes=0):=by
   cases bt<;>cases be<;>simp only[Bool.false_eq_true,Bool.true_eq_false,false_and,true_and,or_true,false_or,or_false]<;>omega
  clear hA hr
  have d1:(Ending.returned (.bool b)=Ending.returned (.bool b)):=rfl
  clear d1
  rcases combo with⟨e1,e2⟩ | ⟨e1,e2⟩ | ⟨e1,e2⟩ | ⟨e1,e2,e3⟩
  ·have t1:((o.kind:Int)==105)=true:=beq_iff_eq.2 (by omega)
   have t2:((k:Int)==108)=false:=beq_eq_false_iff_ne.2 (by omega)
   have t3:((o.kind:Int)==108)=false:=beq_eq_false_iff_ne.2 (by omega)
   have t4:((o.kind:Int)==116)=false:=beq_eq_false_iff_ne.2 (by omega)
   clear e1 e2
   rcases leaf with rfl | ⟨rfl,rfl⟩ | ⟨rfl,rfl,e1⟩ | ⟨rfl,rfl,rfl,e1⟩ | ⟨rfl,rfl,rfl,rfl,e1⟩ | ⟨rfl,rfl,rfl,rfl,rfl,rfl⟩ | ⟨rfl,rfl,rfl,rfl,rfl,e1,e2⟩ | ⟨rfl,rfl,rfl,rfl,rfl,e1,e2⟩
   ·have HR:=Lib.hid (show false=b by rw[← HR0.out];simp)
    clear HR0
    go_enter Tryz.func85,Tryz.ntmps85
    go_wp2_with (first | (go_at_call 53;((with_reducible refine(aO _ p HP0.out HPL.out HK.out _ _ H1.out false HBT.out).mono ?_);rintro e w2 ⟨rfl,hb2⟩;have hv2:=H1.out.below (hb2.mono (by simp));have HB2:=Lib.hid (HL.out.trans (hb2.mono (by simp))))))
    go_ret
    exact⟨Ba.aC HR.out,HB2.out⟩
   ·have HR:=Lib.hid (show false=b by rw[← HR0.out];simp)
    clear HR0
    go_enter Tryz.func85,Tryz.ntmps85
    go_wp2_with (first | (go_at_call 53;((with_reducible refine(aO _ p HP0.out HPL.out HK.out _ _ H1.out true HBT.out).mono ?_);rintro e w2 ⟨rfl,hb2⟩;have hv2:=H1.out.below (hb2.mono (by simp));have HB2:=Lib.hid (HL.out.trans (hb2.mono (by simp))))) | (go_at_call 84;((with_reducible refine(dL k hk2 false HBE.out _).mono ?_);rintro e w' ⟨rfl,rfl⟩)))
    go_ret
    exact⟨Ba.aC HR.out,HB2.out⟩
   ·have HR:=Lib.hid (show false=b by rw[← HR0.out];simp[e1])
    have u1:decide ((0:Int)<(n1:Int))=true:=decide_eq_true (by omega)
    clear HR0
    go_enter Tryz.func85,Tryz.ntmps85
    go_wp2_with (first | (go_at_call 53;((with_reducible refine(aO _ p HP0.out HPL.out HK.out _ _ H1.out true HBT.out).mono ?_);rintro e w2 ⟨rfl,hb2⟩;have hv2:=H1.out.below (hb2.mono (by simp));have HB2:=Lib.hid (HL.out.trans (hb2.mono (by simp))))) | (go_at_call 84;((with_reducible refine(dL k hk2 true HBE.out _).mono ?_);rintro e w' ⟨rfl,rfl⟩)) | (go_at_call 86;((with_reducible refine(cH _ p k hk2 HP0.out HPL.out _ _ hv2 n1 HN1.out).mono ?_);rintro e w' ⟨rfl,rfl⟩)))
    go_ret
    exact⟨Ba.aC HR.out,HB2.out⟩
   ·have HR:=Lib.hid (show true=b by rw[← HR0.out];simp[e1])
    have u2:((k:Int)==110)=false:=beq_eq_false_iff_ne.2 (by omega)
    have u3:((k:Int) != 110)=true:=by rw[bne,u2];rfl
    clear HR0 e1
    go_enter Tryz.func85,Tryz.ntmps85
    go_wp2_with (first | (go_at_call 53;((with_reducible refine(aO _ p HP0.out HPL.out HK.out _ _ H1.out true HBT.out).mono ?_);rintro e w2 ⟨rfl,hb2⟩;have hv2:=H1.out.below (hb2.mono (by simp));have HB2:=Lib.hid (HL.out.trans (hb2.mono (by simp))))) | (go_at_call 84;((with_reducible refine(dL k hk2 true HBE.out _).mono ?_);rintro e w' ⟨rfl,rfl⟩)) | (go_at_call 86;((with_reducible refine(cH _ p k hk2 HP0.out HPL.out _ _ hv2 0 HN1.out).mono ?_);rintro e w' ⟨rfl,rfl⟩)))
    go_ret
    exact⟨Ba.aC HR.out,HB2.out⟩
   ·have HR:=Lib.hid (show false=b by rw[← HR0.out];simp[e1])
    have u4:((n9:Int)==0)=false:=beq_eq_false_iff_ne.2 (by omega)
    clear HR0 e1
    go_enter Tryz.func85,Tryz.ntmps85
    go_wp2_with (first | (go_at_call 53;((with_reducible refine(aO _ p HP0.out HPL.out HK.out _ _ H1.out true HBT.out).mono ?_);rintro e w2 ⟨rfl,hb2⟩;have hv2:=H1.out.below (hb2.mono (by simp));have HB2:=Lib.hid (HL.out.trans (hb2.mono (by simp))))) | (go_at_call 84;((with_reducible refine(dH true HBE.out _).mono ?_);rintro e w' ⟨rfl,rfl⟩)) | (go_at_call 86;((with_reducible refine(eG _ p HP0.out HPL.out _ _ hv2 0 HN1.out).mono ?_);rintro e w' ⟨rfl,rfl⟩)) | (go_at_call 84;((with_reducible refine(dL 110 (by decide) true HBE.out _).mono ?_);rintro e w' ⟨rfl,rfl⟩)) | (go_at_call 86;((with_reducible refine(cH _ p 110 (by decide) HP0.out HPL.out _ _ hv2 0 HN1.out).mono ?_);rintro e w' ⟨rfl,rfl⟩)) | (go_at_call 86;((with_reducible refine(fX _ p HP0.out HPL.out _ _ hv2 n9 HN9.out).mono ?_);rintro e w' ⟨rfl,rfl⟩)) | (go_at_call 83;((with_reducible refine(bV _ p HP0.out HPL.out HK.out _ _ hv2 _ rfl).mono ?_);rintro e w' ⟨rfl,rfl⟩)))
    go_ret
    exact⟨Ba.aC HR.out,HB2.out⟩
   ·have HR:=Lib.hid (show false=b by rw[← HR0.out];simp)
    have HLI:=Lib.hid (lP HLA.out)
    clear HR0
    go_enter Tryz.func85,Tryz.ntmps85
    go_wp2_with (first | (go_at_call 53;((with_reducible refine(aO _ p HP0.out HPL.out HK.out _ _ H1.out true HBT.out).mono ?_);rintro e w2 ⟨rfl,hb2⟩;have hv2:=H1.out.below (hb2.mono (by simp));have HB2:=Lib.hid (HL.out.trans (hb2.mono (by simp))))) | (go_at_call 84;((with_reducible refine(dH true HBE.out _).mono ?_);rintro e w' ⟨rfl,rfl⟩)) | (go_at_call 86;((with_reducible refine(eG _ p HP0.out HPL.out _ _ hv2 0 HN1.out).mono ?_);rintro e w' ⟨rfl,rfl⟩)) | (go_at_call 84;((with_reducible refine(dL 110 (by decide) true HBE.out _).mono ?_);rintro e w' ⟨rfl,rfl⟩)) | (go_at_call 86;((with_reducible refine(cH _ p 110 (by decide) HP0.out HPL.out _ _ hv2 0 HN1.out).mono ?_);rintro e w' ⟨rfl,rfl⟩)) | (go_at_call 86;((with_reducible refine(fX _ p HP0.out HPL.out _ _ hv2 0 HN9.out).mono ?_);rintro e w' ⟨rfl,rfl⟩)) | (go_at_call 83;((with_reducible refine(bV _ p HP0.out HPL.out HK.out _ _ hv2 (-1) HLI.out).mono ?_);rintro e w' ⟨rfl,rfl⟩)))
    go_ret
    exact⟨Ba.aC HR.out,HB2.out⟩
   ·have HR:=Lib.hid (show false=b by rw[← HR0.out];simp[e1,e2])
    have HLI:=Lib.hid (eQ HLA.out e1)
    have u5:decide ((0:Int)<(la:Int))=true:=decide_eq_true (by omega)
    have u6:((oa.notes:Int)==0)=false:=beq_eq_false_iff_ne.2 (by omega)
    clear HR0 e2
    go_enter Tryz.func85,Tryz.ntmps85
    go_wp2_with (first | (go_at_call 53;((with_reducible refine(aO _ p HP0.out HPL.out HK.out _ _ H1.out true HBT.out).mono ?_);rintro e w2 ⟨rfl,hb2⟩;have hv2:=H1.out.below (hb2.mono (by simp));have HB2:=Lib.hid (HL.out.trans (hb2.mono (by simp)));have cn:=dR.note hv2 HOA.out)) | (go_at_call 84;((with_reducible refine(dH true HBE.out _).mono ?_);rintro e w' ⟨rfl,rfl⟩)) | (go_at_call 86;((with_reducible refine(eG _ p HP0.out HPL.out _ _ hv2 0 HN1.out).mono ?_);rintro e w' ⟨rfl,rfl⟩)) | (go_at_call 84;((with_reducible refine(dL 110 (by decide) true HBE.out _).mono ?_);rintro e w' ⟨rfl,rfl⟩)) | (go_at_call 86;((with_reducible refine(cH _ p 110 (by decide) HP0.out HPL.out _ _ hv2 0 HN1.out).mono ?_);rintro e w' ⟨rfl,rfl⟩)) | (go_at_call 86;((with_reducible refine(fX _ p HP0.out HPL.out _ _ hv2 0 HN9.out).mono ?_);rintro e w' ⟨rfl,rfl⟩)) | (go_at_call 83;((with_reducible refine(bV _ p HP0.out HPL.out HK.out _ _ hv2 (la:Int) HLI.out).mono ?_);rintro e w' ⟨rfl,rfl⟩)))
    go_ret
    exact⟨Ba.aC HR.out,HB2.out⟩
   ·have HR:=Lib.hid (show true=b by rw[← HR0.out];simp[e1,e2])
    have HLI:=Lib.hid (eQ HLA.out e1)
    have u5:decide ((0:Int)<(la:Int))=true:=decide_eq_true (by omega)
    have u6:((oa.notes:Int)==0)=true:=beq_iff_eq.2 (by omega)
    clear HR0 e2
    go_enter Tryz.func85,Tryz.ntmps85
    go_wp2_with (first | (go_at_call 53;((with_reducible refine(aO _ p HP0.out HPL.out HK.out _ _ H1.out true HBT.out).mono ?_);rintro e w2 ⟨rfl,hb2⟩;have hv2:=H1.out.below (hb2.mono (by simp));have HB2:=Lib.hid (HL.out.trans (hb2.mono (by simp)));have cn:=dR.note hv2 HOA.out)) | (go_at_call 84;((with_reducible refine(dH true HBE.out _).mono ?_);rintro e w' ⟨rfl,rfl⟩)) | (go_at_call 86;((with_reducible refine(eG _ p HP0.out HPL.out _ _ hv2 0 HN1.out).mono ?_);rintro e w' ⟨rfl,rfl⟩)) | (go_at_call 84;((with_reducible refine(dL 110 (by decide) true HBE.out _).mono ?_);rintro e w' ⟨rfl,rfl⟩)) | (go_at_call 86;((with_reducible refine(cH _ p 110 (by decide) HP0.out HPL.out _ _ hv2 0 HN1.out).mono ?_);rintro e w' ⟨rfl,rfl⟩)) | (go_at_call 86;((with_reducible refine(fX _ p HP0.out HPL.out _ _ hv2 0 HN9.out).mono ?_);rintro e w' ⟨rfl,rfl⟩)) | (go_at_call 83;((with_reducible refine(bV _ p HP0.out HPL.out HK.out _ _ hv2 (la:Int) HLI.out).mono ?_);rintro e w' ⟨rfl,rfl⟩)))
    go_ret
    exact⟨Ba.aC HR.out,HB2.out⟩
  ·have t1:((o.kind:Int)==108)=true:=beq_iff_eq.2 (by omega)
   have t2:((k:Int)==105)=false:=beq_eq_false_iff_ne.2 (by omega)
   have t3:((o.kind:Int)==105)=false:=beq_eq_false_iff_ne.2 (by omega)
   have t4:((o.kind:Int)==116)=false:=beq_eq_false_iff_ne.2 (by omega)
   clear e1 e2
   rcases leaf with rfl | ⟨rfl,rfl⟩ | ⟨rfl,rfl,e1⟩ | ⟨rfl,rfl,rfl,e1⟩ | ⟨rfl,rfl,rfl,rfl,e1⟩ | ⟨rfl,rfl,rfl,rfl,rfl,rfl⟩ | ⟨rfl,rfl,rfl,rfl,rfl,e1,e2⟩ | ⟨rfl,rfl,rfl,rfl,rfl,e1,e2⟩
   ·have HR:=Lib.hid (show false=b by rw[← HR0.out];simp)
    clear HR0
    go_enter Tryz.func85,Tryz.ntmps85
    go_wp2_with (first | (go_at_call 53;((with_reducible refine(aO _ p HP0.out HPL.out HK.out _ _ H1.out false HBT.out).mono ?_);rintro e w2 ⟨rfl,hb2⟩;have hv2:=H1.out.below (hb2.mono (by simp));have HB2:=Lib.hid (HL.out.trans (hb2.mono (by simp))))))
    go_ret
    exact⟨Ba.aC HR.out,HB2.out⟩
   ·have HR:=Lib.hid (show false=b by rw[← HR0.out];simp)
    clear HR0
    go_enter Tryz.func85,Tryz.ntmps85
    go_wp2_with (first | (go_at_call 53;((with_reducible refine(aO _ p HP0.out HPL.out HK.out _ _ H1.out true HBT.out).mono ?_);rintro e w2 ⟨rfl,hb2⟩;have hv2:=H1.out.below (hb2.mono (by simp));have HB2:=Lib.hid (HL.out.trans (hb2.mono (by simp))))) | (go_at_call 84;((with_reducible refine(dL k hk2 false HBE.out _).mono ?_);rintro e w' ⟨rfl,rfl⟩)))
    go_ret
    exact⟨Ba.aC HR.out,HB2.out⟩
   ·have HR:=Lib.hid (show false=b by rw[← HR0.out];simp[e1])
    have u1:decide ((0:Int)<(n1:Int))=true:=decide_eq_true (by omega)
    clear HR0
    go_enter Tryz.func85,Tryz.ntmps85
    go_wp2_with (first | (go_at_call 53;((with_reducible refine(aO _ p HP0.out HPL.out HK.out _ _ H1.out true HBT.out).mono ?_);rintro e w2 ⟨rfl,hb2⟩;have hv2:=H1.out.below (hb2.mono (by simp));have HB2:=Lib.hid (HL.out.trans (hb2.mono (by simp))))) | (go_at_call 84;((with_reducible refine(dL k hk2 true HBE.out _).mono ?_);rintro e w' ⟨rfl,rfl⟩)) | (go_at_call 86;((with_reducible refine(cH _ p k hk2 HP0.out HPL.out _ _ hv2 n1 HN1.out).mono ?_);rintro e w' ⟨rfl,rfl⟩)))
    go_ret
    exact⟨Ba.aC HR.out,HB2.out⟩
   ·have HR:=Lib.hid (show true=b by rw[← HR0.out];simp[e1])
    have u2:((k:Int)==110)=false:=beq_eq_false_iff_ne.2 (by omega)
    have u3:((k:Int) != 110)=true:=by rw[bne,u2];rfl
    clear HR0 e1
    go_enter Tryz.func85,Tryz.ntmps85
    go_wp2_with (first | (go_at_call 53;((with_reducible refine(aO _ p HP0.out HPL.out HK.out _ _ H1.out true HBT.out).mono ?_);rintro e w2 ⟨rfl,hb2⟩;have hv2:=H1.out.below (hb2.mono (by simp));have HB2:=Lib.hid (HL.out.trans (hb2.mono (by simp))))) | (go_at_call 84;((with_reducible refine(dL k hk2 true HBE.out _).mono ?_);rintro e w' ⟨rfl,rfl⟩)) | (go_at_call 86;((with_reducible refine(cH _ p k hk2 HP0.out HPL.out _ _ hv2 0 HN1.out).mono ?_);rintro e w' ⟨rfl,rfl⟩)))
    go_ret
    exact⟨Ba.aC HR.out,HB2.out⟩
   ·have HR:=Lib.hid (show false=b by rw[← HR0.out];simp[e1])
    have u4:((n9:Int)==0)=false:=beq_eq_false_iff_ne.2 (by omega)
    clear HR0 e1
    go_enter Tryz.func85,Tryz.ntmps85
    go_wp2_with (first | (go_at_call 53;((with_reducible refine(aO _ p HP0.out HPL.out HK.out _ _ H1.out true HBT.out).mono ?_);rintro e w2 ⟨rfl,hb2⟩;have hv2:=H1.out.below (hb2.mono (by simp));have HB2:=Lib.hid (HL.out.trans (hb2.mono (by simp))))) | (go_at_call 84;((with_reducible refine(dH true HBE.out _).mono ?_);rintro e w' ⟨rfl,rfl⟩)) | (go_at_call 86;((with_reducible refine(eG _ p HP0.out HPL.out _ _ hv2 0 HN1.out).mono ?_);rintro e w' ⟨rfl,rfl⟩)) | (go_at_call 84;((with_reducible refine(dL 110 (by decide) true HBE.out _).mono ?_);rintro e w' ⟨rfl,rfl⟩)) | (go_at_call 86;((with_reducible refine(cH _ p 110 (by decide) HP0.out HPL.out _ _ hv2 0 HN1.out).mono ?_);rintro e w' ⟨rfl,rfl⟩)) | (go_at_call 86;((with_reducible refine(fX _ p HP0.out HPL.out _ _ hv2 n9 HN9.out).mono ?_);rintro e w' ⟨rfl,rfl⟩)) | (go_at_call 83;((with_reducible refine(bV _ p HP0.out HPL.out HK.out _ _ hv2 _ rfl).mono ?_);rintro e w' ⟨rfl,rfl⟩)))
    go_ret
    exact⟨Ba.aC HR.out,HB2.out⟩
   ·have HR:=Lib.hid (show false=b by rw[← HR0.out];simp)
    have HLI:=Lib.hid (lP HLA.out)
    clear HR0
    go_enter Tryz.func85,Tryz.ntmps85
    go_wp2_with (first | (go_at_call 53;((with_reducible refine(aO _ p HP0.out HPL.out HK.out _ _ H1.out true HBT.out).mono ?_);rintro e w2 ⟨rfl,hb2⟩;have hv2:=H1.out.below (hb2.mono (by simp));have HB2:=Lib.hid (HL.out.trans (hb2.mono (by simp))))) | (go_at_call 84;((with_reducible refine(dH true HBE.out _).mono ?_);rintro e w' ⟨rfl,rfl⟩)) | (go_at_call 86;((with_reducible refine(eG _ p HP0.out HPL.out _ _ hv2 0 HN1.out).mono ?_);rintro e w' ⟨rfl,rfl⟩)) | (go_at_call 84;((with_reducible refine(dL 110 (by decide) true HBE.out _).mono ?_);rintro e w' ⟨rfl,rfl⟩)) | (go_at_call 86;((with_reducible refine(cH _ p 110 (by decide) HP0.out HPL.out _ _ hv2 0 HN1.out).mono ?_);rintro e w' ⟨rfl,rfl⟩)) | (go_at_call 86;((with_reducible refine(fX _ p HP0.out HPL.out _ _ hv2 0 HN9.out).mono ?_);rintro e w' ⟨rfl,rfl⟩)) | (go_at_call 83;((with_reducible refine(bV _ p HP0.out HPL.out HK.out _ _ hv2 (-1) HLI.out).mono ?_);rintro e w' ⟨rfl,rfl⟩)))
    go_ret
    exact⟨Ba.aC HR.out,HB2.out⟩
   ·have HR:=Lib.hid (show false=b by rw[← HR0.out];simp[e1,e2])
    have HLI:=Lib.hid (eQ HLA.out e1)
    have u5:decide ((0:Int)<(la:Int))=true:=decide_eq_true (by omega)
    have u6:((oa.notes:Int)==0)=false:=beq_eq_false_iff_ne.2 (by omega)
    clear HR0 e2
    go_enter Tryz.func85,Tryz.ntmps85
    go_wp2_with (first | (go_at_call 53;((with_reducible refine(aO _ p HP0.out HPL.out HK.out _ _ H1.out true HBT.out).mono ?_);rintro e w2 ⟨rfl,hb2⟩;have hv2:=H1.out.below (hb2.mono (by simp));have HB2:=Lib.hid (HL.out.trans (hb2.mono (by simp)));have cn:=dR.note hv2 HOA.out)) | (go_at_call 84;((with_reducible refine(dH true HBE.out _).mono ?_);rintro e w' ⟨rfl,rfl⟩)) | (go_at_call 86;((with_reducible refine(eG _ p HP0.out HPL.out _ _ hv2 0 HN1.out).mono ?_);rintro e w' ⟨rfl,rfl⟩)) | (go_at_call 84;((with_reducible refine(dL 110 (by decide) true HBE.out _).mono ?_);rintro e w' ⟨rfl,rfl⟩)) | (go_at_call 86;((with_reducible refine(cH _ p 110 (by decide) HP0.out HPL.out _ _ hv2 0 HN1.out).mono ?_);rintro e w' ⟨rfl,rfl⟩)) | (go_at_call 86;((with_reducible refine(fX _ p HP0.out HPL.out _ _ hv2 0 HN9.out).mono ?_);rintro e w' ⟨rfl,rfl⟩)) | (go_at_call 83;((with_reducible refine(bV _ p HP0.out HPL.out HK.out _ _ hv2 (la:Int) HLI.out).mono ?_);rintro e w' ⟨rfl,rfl⟩)))
    go_ret
    exact⟨Ba.aC HR.out,HB2.out⟩
   ·have HR:=Lib.hid (show true=b by rw[← HR0.out];simp[e1,e2])
    have HLI:=Lib.hid (eQ HLA.out e1)
    have u5:decide ((0:Int)<(la:Int))=true:=decide_eq_true (by omega)
    have u6:((oa.notes:Int)==0)=true:=beq_iff_eq.2 (by omega)
    clear HR0 e2
    go_enter Tryz.func85,Tryz.ntmps85
    go_wp2_with (first | (go_at_call 53;((with_reducible refine(aO _ p HP0.out HPL.out HK.out _ _ H1.out true HBT.out).mono ?_);rintro e w2 ⟨rfl,hb2⟩;have hv2:=H1.out.below (hb2.mono (by simp));have HB2:=Lib.hid (HL.out.trans (hb2.mono (by simp)));have cn:=dR.note hv2 HOA.out)) | (go_at_call 84;((with_reducible refine(dH true HBE.out _).mono ?_);rintro e w' ⟨rfl,rfl⟩)) | (go_at_call 86;((with_reducible refine(eG _ p HP0.out HPL.out _ _ hv2 0 HN1.out).mono ?_);rintro e w' ⟨rfl,rfl⟩)) | (go_at_call 84;((with_reducible refine(dL 110 (by decide) true HBE.out _).mono ?_);rintro e w' ⟨rfl,rfl⟩)) | (go_at_call 86;((with_reducible refine(cH _ p 110 (by decide) HP0.out HPL.out _ _ hv2 0 HN1.out).mono ?_);rintro e w' ⟨rfl,rfl⟩)) | (go_at_call 86;((with_reducible refine(fX _ p HP0.out HPL.out _ _ hv2 0 HN9.out).mono ?_);rintro e w' ⟨rfl,rfl⟩)) | (go_at_call 83;((with_reducible refine(bV _ p HP0.out HPL.out HK.out _ _ hv2 (la:Int) HLI.out).mono ?_);rintro e w' ⟨rfl,rfl⟩)))
    go_ret
    exact⟨Ba.aC HR.out,HB2.out⟩
  ·have t1:((o.kind:Int)==116)=true:=beq_iff_eq.2 (by omega)
   have t2:((k:Int)==114)=false:=beq_eq_false_iff_ne.2 (by omega)
   have t3:((o.kind:Int)==108)=false:=beq_eq_false_iff_ne.2 (by omega)
   have t4:((o.kind:Int)==105)=false:=beq_eq_false_iff_ne.2 (by omega)
   clear e1 e2
   rcases leaf with rfl | ⟨rfl,rfl⟩ | ⟨rfl,rfl,e1⟩ | ⟨rfl,rfl,rfl,e1⟩ | ⟨rfl,rfl,rfl,rfl,e1⟩ | ⟨rfl,rfl,rfl,rfl,rfl,rfl⟩ | ⟨rfl,rfl,rfl,rfl,rfl,e1,e2⟩ | ⟨rfl,rfl,rfl,rfl,rfl,e1,e2⟩
   ·have HR:=Lib.hid (show false=b by rw[← HR0.out];simp)
    clear HR0
    go_enter Tryz.func85,Tryz.ntmps85
    go_wp2_with (first | (go_at_call 53;((with_reducible refine(aO _ p HP0.out HPL.out HK.out _ _ H1.out false HBT.out).mono ?_);rintro e w2 ⟨rfl,hb2⟩;have hv2:=H1.out.below (hb2.mono (by simp));have HB2:=Lib.hid (HL.out.trans (hb2.mono (by simp))))))
    go_ret
    exact⟨Ba.aC HR.out,HB2.out⟩
   ·have HR:=Lib.hid (show false=b by rw[← HR0.out];simp)
    clear HR0
    go_enter Tryz.func85,Tryz.ntmps85
    go_wp2_with (first | (go_at_call 53;((with_reducible refine(aO _ p HP0.out HPL.out HK.out _ _ H1.out true HBT.out).mono ?_);rintro e w2 ⟨rfl,hb2⟩;have hv2:=H1.out.below (hb2.mono (by simp));have HB2:=Lib.hid (HL.out.trans (hb2.mono (by simp))))) | (go_at_call 84;((with_reducible refine(dL k hk2 false HBE.out _).mono ?_);rintro e w' ⟨rfl,rfl⟩)))
    go_ret
    exact⟨Ba.aC HR.out,HB2.out⟩
   ·have HR:=Lib.hid (show false=b by rw[← HR0.out];simp[e1])
    have u1:decide ((0:Int)<(n1:Int))=true:=decide_eq_true (by omega)
    clear HR0
    go_enter Tryz.func85,Tryz.ntmps85
    go_wp2_with (first | (go_at_call 53;((with_reducible refine(aO _ p HP0.out HPL.out HK.out _ _ H1.out true HBT.out).mono ?_);rintro e w2 ⟨rfl,hb2⟩;have hv2:=H1.out.below (hb2.mono (by simp));have HB2:=Lib.hid (HL.out.trans (hb2.mono (by simp))))) | (go_at_call 84;((with_reducible refine(dL k hk2 true HBE.out _).mono ?_);rintro e w' ⟨rfl,rfl⟩)) | (go_at_call 86;((with_reducible refine(cH _ p k hk2 HP0.out HPL.out _ _ hv2 n1 HN1.out).mono ?_);rintro e w' ⟨rfl,rfl⟩)))
    go_ret
    exact⟨Ba.aC HR.out,HB2.out⟩
   ·have HR:=Lib.hid (show true=b by rw[← HR0.out];simp[e1])
    have u2:((k:Int)==110)=false:=beq_eq_false_iff_ne.2 (by omega)
    have u3:((k:Int) != 110)=true:=by rw[bne,u2];rfl
    clear HR0 e1
    go_enter Tryz.func85,Tryz.ntmps85
    go_wp2_with (first | (go_at_call 53;((with_reducible refine(aO _ p HP0.out HPL.out HK.out _ _ H1.out true HBT.out).mono ?_);rintro e w2 ⟨rfl,hb2⟩;have hv2:=H1.out.below (hb2.mono (by simp));have HB2:=Lib.hid (HL.out.trans (hb2.mono (by simp))))) | (go_at_call 84;((with_reducible refine(dL k hk2 true HBE.out _).mono ?_);rintro e w' ⟨rfl,rfl⟩)) | (go_at_call 86;((with_reducible refine(cH _ p k hk2 HP0.out HPL.out _ _ hv2 0 HN1.out).mono ?_);rintro e w' ⟨rfl,rfl⟩)))
    go_ret
    exact⟨Ba.aC HR.out,HB2.out⟩
   ·have HR:=Lib.hid (show false=b by rw[← HR0.out];simp[e1])
    have u4:((n9:Int)==0)=false:=beq_eq_false_iff_ne.2 (by omega)
    clear HR0 e1
    go_enter Tryz.func85,Tryz.ntmps85
    go_wp2_with (first | (go_at_call 53;((with_reducible refine(aO _ p HP0.out HPL.out HK.out _ _ H1.out true HBT.out).mono ?_);rintro e w2 ⟨rfl,hb2⟩;have hv2:=H1.out.below (hb2.mono (by simp));have HB2:=Lib.hid (HL.out.trans (hb2.mono (by simp))))) | (go_at_call 84;((with_reducible refine(dH true HBE.out _).mono ?_);rintro e w' ⟨rfl,rfl⟩)) | (go_at_call 86;((with_reducible refine(eG _ p HP0.out HPL.out _ _ hv2 0 HN1.out).mono ?_);rintro e w' ⟨rfl,rfl⟩)) | (go_at_call 84;((with_reducible refine(dL 110 (by decide) true HBE.out _).mono ?_);rintro e w' ⟨rfl,rfl⟩)) | (go_at_call 86;((with_reducible refine(cH _ p 110 (by decide) HP0.out HPL.out _ _ hv2 0 HN1.out).mono ?_);rintro e w' ⟨rfl,rfl⟩)) | (go_at_call 86;((with_reducible refine(fX _ p HP0.out HPL.out _ _ hv2 n9 HN9.out).mono ?_);rintro e w' ⟨rfl,rfl⟩)) | (go_at_call 83;((with_reducible refine(bV _ p HP0.out HPL.out HK.out _ _ hv2 _ rfl).mono ?_);rintro e w' ⟨rfl,rfl⟩)))
    go_ret
    exact⟨Ba.aC HR.out,HB2.out⟩
   ·have HR:=Lib.hid (show false=b by rw[← HR0.out];simp)
    have HLI:=Lib.hid (lP HLA.out)
    clear HR0
    go_enter Tryz.func85,Tryz.ntmps85
    go_wp2_with (first | (go_at_call 53;((with_reducible refine(aO _ p HP0.out HPL.out HK.out _ _ H1.out true HBT.out).mono ?_);rintro e w2 ⟨rfl,hb2⟩;have hv2:=H1.out.below (hb2.mono (by simp));have HB2:=Lib.hid (HL.out.trans (hb2.mono (by simp))))) | (go_at_call 84;((with_reducible refine(dH true HBE.out _).mono ?_);rintro e w' ⟨rfl,rfl⟩)) | (go_at_call 86;((with_reducible refine(eG _ p HP0.out HPL.out _ _ hv2 0 HN1.out).mono ?_);rintro e w' ⟨rfl,rfl⟩)) | (go_at_call 84;((with_reducible refine(dL 110 (by decide) true HBE.out _).mono ?_);rintro e w' ⟨rfl,rfl⟩)) | (go_at_call 86;((with_reducible refine(cH _ p 110 (by decide) HP0.out HPL.out _ _ hv2 0 HN1.out).mono ?_);rintro e w' ⟨rfl,rfl⟩)) | (go_at_call 86;((with_reducible refine(fX _ p HP0.out HPL.out _ _ hv2 0 HN9.out).mono ?_);rintro e w' ⟨rfl,rfl⟩)) | (go_at_call 83;((with_reducible refine(bV _ p HP0.out HPL.out HK.out _ _ hv2 (-1) HLI.out).mono ?_);rintro e w' ⟨rfl,rfl⟩)))
    go_ret
    exact⟨Ba.aC HR.out,HB2.out⟩
   ·have HR:=Lib.hid (show false=b by rw[← HR0.out];simp[e1,e2])
    have HLI:=Lib.hid (eQ HLA.out e1)
    have u5:decide ((0:Int)<(la:Int))=true:=decide_eq_true (by omega)
    have u6:((oa.notes:Int)==0)=false:=beq_eq_false_iff_ne.2 (by omega)
    clear HR0 e2
    go_enter Tryz.func85,Tryz.ntmps85
    go_wp2_with (first | (go_at_call 53;((with_reducible refine(aO _ p HP0.out HPL.out HK.out _ _ H1.out true HBT.out).mono ?_);rintro e w2 ⟨rfl,hb2⟩;have hv2:=H1.out.below (hb2.mono (by simp));have HB2:=Lib.hid (HL.out.trans (hb2.mono (by simp)));have cn:=dR.note hv2 HOA.out)) | (go_at_call 84;((with_reducible refine(dH true HBE.out _).mono ?_);rintro e w' ⟨rfl,rfl⟩)) | (go_at_call 86;((with_reducible refine(eG _ p HP0.out HPL.out _ _ hv2 0 HN1.out).mono ?_);rintro e w' ⟨rfl,rfl⟩)) | (go_at_call 84;((with_reducible refine(dL 110 (by decide) true HBE.out _).mono ?_);rintro e w' ⟨rfl,rfl⟩)) | (go_at_call 86;((with_reducible refine(cH _ p 110 (by decide) HP0.out HPL.out _ _ hv2 0 HN1.out).mono ?_);rintro e w' ⟨rfl,rfl⟩)) | (go_at_call 86;((with_reducible refine(fX _ p HP0.out HPL.out _ _ hv2 0 HN9.out).mono ?_);rintro e w' ⟨rfl,rfl⟩)) | (go_at_call 83;((with_reducible refine(bV _ p HP0.out HPL.out HK.out _ _ hv2 (la:Int) HLI.out).mono ?_);rintro e w' ⟨rfl,rfl⟩)))
    go_ret
    exact⟨Ba.aC HR.out,HB2.out⟩
   ·have HR:=Lib.hid (show true=b by rw[← HR0.out];simp[e1,e2])
    have HLI:=Lib.hid (eQ HLA.out e1)
    have u5:decide ((0:Int)<(la:Int))=true:=decide_eq_true (by omega)
    have u6:((oa.notes:Int)==0)=true:=beq_iff_eq.2 (by omega)
    clear HR0 e2
    go_enter Tryz.func85,Tryz.ntmps85
    go_wp2_with (first | (go_at_call 53;((with_reducible refine(aO _ p HP0.out HPL.out HK.out _ _ H1.out true HBT.out).mono ?_);rintro e w2 ⟨rfl,hb2⟩;have hv2:=H1.out.below (hb2.mono (by simp));have HB2:=Lib.hid (HL.out.trans (hb2.mono (by simp)));have cn:=dR.note hv2 HOA.out)) | (go_at_call 84;((with_reducible refine(dH true HBE.out _).mono ?_);rintro e w' ⟨rfl,rfl⟩)) | (go_at_call 86;((with_reducible refine(eG _ p HP0.out HPL.out _ _ hv2 0 HN1.out).mono ?_);rintro e w' ⟨rfl,rfl⟩)) | (go_at_call 84;((with_reducible refine(dL 110 (by decide) true HBE.out _).mono ?_);rintro e w' ⟨rfl,rfl⟩)) | (go_at_call 86;((with_reducible refine(cH _ p 110 (by decide) HP0.out HPL.out _ _ hv2 0 HN1.out).mono ?_);rintro e w' ⟨rfl,rfl⟩)) | (go_at_call 86;((with_reducible refine(fX _ p HP0.out HPL.out _ _ hv2 0 HN9.out).mono ?_);rintro e w' ⟨rfl,rfl⟩)) | (go_at_call 83;((with_reducible refine(bV _ p HP0.out HPL.out HK.out _ _ hv2 (la:Int) HLI.out).mono ?_);rintro e w' ⟨rfl,rfl⟩)))
    go_ret
    exact⟨Ba.aC HR.out,HB2.out⟩
  ·have t1:((o.kind:Int)==105)=false:=beq_eq_false_iff_ne.2 (by omega)
   have t2:((o.kind:Int)==116)=false:=beq_eq_false_iff_ne.2 (by omega)
   have t3:((o.kind:Int)==108)=false:=beq_eq_false_iff_ne.2 (by omega)
   clear e1 e2 e3
   rcases leaf with rfl | ⟨rfl,rfl⟩ | ⟨rfl,rfl,e1⟩ | ⟨rfl,rfl,rfl,e1⟩ | ⟨rfl,rfl,rfl,rfl,e1⟩ | ⟨rfl,rfl,rfl,rfl,rfl,rfl⟩ | ⟨rfl,rfl,rfl,rfl,rfl,e1,e2⟩ | ⟨rfl,rfl,rfl,rfl,rfl,e1,e2⟩
   ·have HR:=Lib.hid (show false=b by rw[← HR0.out];simp)
    clear HR0
    go_enter Tryz.func85,Tryz.ntmps85
    go_wp2_with (first | (go_at_call 53;((with_reducible refine(aO _ p HP0.out HPL.out HK.out _ _ H1.out false HBT.out).mono ?_);rintro e w2 ⟨rfl,hb2⟩;have hv2:=H1.out.below (hb2.mono (by simp));have HB2:=Lib.hid (HL.out.trans (hb2.mono (by simp))))))
    go_ret
    exact⟨Ba.aC HR.out,HB2.out⟩
   ·have HR:=Lib.hid (show false=b by rw[← HR0.out];simp)
    clear HR0
    go_enter Tryz.func85,Tryz.ntmps85
    go_wp2_with (first | (go_at_call 53;((with_reducible refine(aO _ p HP0.out HPL.out HK.out _ _ H1.out true HBT.out).mono ?_);rintro e w2 ⟨rfl,hb2⟩;have hv2:=H1.out.below (hb2.mono (by simp));have HB2:=Lib.hid (HL.out.trans (hb2.mono (by simp))))) | (go_at_call 84;((with_reducible refine(dL k hk2 false HBE.out _).mono ?_);rintro e w' ⟨rfl,rfl⟩)))
    go_ret
    exact⟨Ba.aC HR.out,HB2.out⟩
   ·have HR:=Lib.hid (show false=b by rw[← HR0.out];simp[e1])
    have u1:decide ((0:Int)<(n1:Int))=true:=decide_eq_true (by omega)
    clear HR0
    go_enter Tryz.func85,Tryz.ntmps85
    go_wp2_with (first | (go_at_call 53;((with_reducible refine(aO _ p HP0.out HPL.out HK.out _ _ H1.out true HBT.out).mono ?_);rintro e w2 ⟨rfl,hb2⟩;have hv2:=H1.out.below (hb2.mono (by simp));have HB2:=Lib.hid (HL.out.trans (hb2.mono (by simp))))) | (go_at_call 84;((with_reducible refine(dL k hk2 true HBE.out _).mono ?_);rintro e w' ⟨rfl,rfl⟩)) | (go_at_call 86;((with_reducible refine(cH _ p k hk2 HP0.out HPL.out _ _ hv2 n1 HN1.out).mono ?_);rintro e w' ⟨rfl,rfl⟩)))
    go_ret
    exact⟨Ba.aC HR.out,HB2.out⟩
   ·have HR:=Lib.hid (show true=b by rw[← HR0.out];simp[e1])
    have u2:((k:Int)==110)=false:=beq_eq_false_iff_ne.2 (by omega)
    have u3:((k:Int) != 110)=true:=by rw[bne,u2];rfl
    clear HR0 e1
    go_enter Tryz.func85,Tryz.ntmps85
    go_wp2_with (first | (go_at_call 53;((with_reducible refine(aO _ p HP0.out HPL.out HK.out _ _ H1.out true HBT.out).mono ?_);rintro e w2 ⟨rfl,hb2⟩;have hv2:=H1.out.below (hb2.mono (by simp));have HB2:=Lib.hid (HL.out.trans (hb2.mono (by simp))))) | (go_at_call 84;((with_reducible refine(dL k hk2 true HBE.out _).mono ?_);rintro e w' ⟨rfl,rfl⟩)) | (go_at_call 86;((with_reducible refine(cH _ p k hk2 HP0.out HPL.out _ _ hv2 0 HN1.out).mono ?_);rintro e w' ⟨rfl,rfl⟩)))
    go_ret
    exact⟨Ba.aC HR.out,HB2.out⟩
   ·have HR:=Lib.hid (show false=b by rw[← HR0.out];simp[e1])
    have u4:((n9:Int)==0)=false:=beq_eq_false_iff_ne.2 (by omega)
    clear HR0 e1
    go_enter Tryz.func85,Tryz.ntmps85
    go_wp2_with (first | (go_at_call 53;((with_reducible refine(aO _ p HP0.out HPL.out HK.out _ _ H1.out true HBT.out).mono ?_);rintro e w2 ⟨rfl,hb2⟩;have hv2:=H1.out.below (hb2.mono (by simp));have HB2:=Lib.hid (HL.out.trans (hb2.mono (by simp))))) | (go_at_call 84;((with_reducible refine(dH true HBE.out _).mono ?_);rintro e w' ⟨rfl,rfl⟩)) | (go_at_call 86;((with_reducible refine(eG _ p HP0.out HPL.out _ _ hv2 0 HN1.out).mono ?_);rintro e w' ⟨rfl,rfl⟩)) | (go_at_call 84;((with_reducible refine(dL 110 (by decide) true HBE.out _).mono ?_);rintro e w' ⟨rfl,rfl⟩)) | (go_at_call 86;((with_reducible refine(cH _ p 110 (by decide) HP0.out HPL.out _ _ hv2 0 HN1.out).mono ?_);rintro e w' ⟨rfl,rfl⟩)) | (go_at_call 86;((with_reducible refine(fX _ p HP0.out HPL.out _ _ hv2 n9 HN9.out).mono ?_);rintro e w' ⟨rfl,rfl⟩)) | (go_at_call 83;((with_reducible refine(bV _ p HP0.out HPL.out HK.out _ _ hv2 _ rfl).mono ?_);rintro e w' ⟨rfl,rfl⟩)))
    go_ret
    exact⟨Ba.aC HR.out,HB2.out⟩
   ·have HR:=Lib.hid (show false=b by rw[← HR0.out];simp)
    have HLI:=Lib.hid (lP HLA.out)
    clear HR0
    go_enter Tryz.func85,Tryz.ntmps85
    go_wp2_with (first | (go_at_call 53;((with_reducible refine(aO _ p HP0.out HPL.out HK.out _ _ H1.out true HBT.out).mono ?_);rintro e w2 ⟨rfl,hb2⟩;have hv2:=H1.out.below (hb2.mono (by simp));have HB2:=Lib.hid (HL.out.trans (hb2.mono (by simp))))) | (go_at_call 84;((with_reducible refine(dH true HBE.out _).mono ?_);rintro e w' ⟨rfl,rfl⟩)) | (go_at_call 86;((with_reducible refine(eG _ p HP0.out HPL.out _ _ hv2 0 HN1.out).mono ?_);rintro e w' ⟨rfl,rfl⟩)) | (go_at_call 84;((with_reducible refine(dL 110 (by decide) true HBE.out _).mono ?_);rintro e w' ⟨rfl,rfl⟩)) | (go_at_call 86;((with_reducible refine(cH _ p 110 (by decide) HP0.out HPL.out _ _ hv2 0 HN1.out).mono ?_);rintro e w' ⟨rfl,rfl⟩)) | (go_at_call 86;((with_reducible refine(fX _ p HP0.out HPL.out _ _ hv2 0 HN9.out).mono ?_);rintro e w' ⟨rfl,rfl⟩)) | (go_at_call 83;((with_reducible refine(bV _ p HP0.out HPL.out HK.out _ _ hv2 (-1) HLI.out).mono ?_);rintro e w' ⟨rfl,rfl⟩)))
    go_ret
    exact⟨Ba.aC HR.out,HB2.out⟩
   ·have HR:=Lib.hid (show false=b by rw[← HR0.out];simp[e1,e2])
    have HLI:=Lib.hid (eQ HLA.out e1)
    have u5:decide ((0:Int)<(la:Int))=true:=decide_eq_true (by omega)
    have u6:((oa.notes:Int)==0)=false:=beq_eq_false_iff_ne.2 (by omega)
    clear HR0 e2
    go_enter Tryz.func85,Tryz.ntmps85
    go_wp2_with (first | (go_at_call 53;((with_reducible refine(aO _ p HP0.out HPL.out HK.out _ _ H1.out true HBT.out).mono ?_);rintro e w2 ⟨rfl,hb2⟩;have hv2:=H1.out.below (hb2.mono (by simp));have HB2:=Lib.hid (HL.out.trans (hb2.mono (by simp)));have cn:=dR.note hv2 HOA.out)) | (go_at_call 84;((with_reducible refine(dH true HBE.out _).mono ?_);rintro e w' ⟨rfl,rfl⟩)) | (go_at_call 86;((with_reducible refine(eG _ p HP0.out HPL.out _ _ hv2 0 HN1.out).mono ?_);rintro e w' ⟨rfl,rfl⟩)) | (go_at_call 84;((with_reducible refine(dL 110 (by decide) true HBE.out _).mono ?_);rintro e w' ⟨rfl,rfl⟩)) | (go_at_call 86;((with_reducible refine(cH _ p 110 (by decide) HP0.out HPL.out _ _ hv2 0 HN1.out).mono ?_);rintro e w' ⟨rfl,rfl⟩)) | (go_at_call 86;((with_reducible refine(fX _ p HP0.out HPL.out _ _ hv2 0 HN9.out).mono ?_);rintro e w' ⟨rfl,rfl⟩)) | (go_at_call 83;((with_reducible refine(bV _ p HP0.out HPL.out HK.out _ _ hv2 (la:Int) HLI.out).mono ?_);rintro e w' ⟨rfl,rfl⟩)))
    go_ret
    exact⟨Ba.aC HR.out,HB2.out⟩
   ·have HR:=Lib.hid (show true=b by rw[← HR0.out];simp[e1,e2])
    have HLI:=Lib.hid (eQ HLA.out e1)
    have u5:decide ((0:Int)<(la:Int))=true:=decide_eq_true (by omega)
    have u6:((oa.notes:Int)==0)=true:=beq_iff_eq.2 (by omega)
    clear HR0 e2
    go_enter Tryz.func85,Tryz.ntmps85
    go_wp2_with (first | (go_at_call 53;((with_reducible refine(aO _ p HP0.out HPL.out HK.out _ _ H1.out true HBT.out).mono ?_);rintro e w2 ⟨rfl,hb2⟩;have hv2:=H1.out.below (hb2.mono (by simp));have HB2:=Lib.hid (HL.out.trans (hb2.mono (by simp)));have cn:=dR.note hv2 HOA.out)) | (go_at_call 84;((with_reducible refine(dH true HBE.out _).mono ?_);rintro e w' ⟨rfl,rfl⟩)) | (go_at_call 86;((with_reducible refine(eG _ p HP0.out HPL.out _ _ hv2 0 HN1.out).mono ?_);rintro e w' ⟨rfl,rfl⟩)) | (go_at_call 84;((with_reducible refine(dL 110 (by decide) true HBE.out _).mono ?_);rintro e w' ⟨rfl,rfl⟩)) | (go_at_call 86;((with_reducible refine(cH _ p 110 (by decide) HP0.out HPL.out _ _ hv2 0 HN1.out).mono ?_);rintro e w' ⟨rfl,rfl⟩)) | (go_at_call 86;((with_reducible refine(fX _ p HP0.out HPL.out _ _ hv2 0 HN9.out).mono ?_);rintro e w' ⟨rfl,rfl⟩)) | (go_at_call 83;((with_reducible refine(bV _ p HP0.out HPL.out HK.out _ _ hv2 (la:Int) HLI.out).mono ?_);rintro e w' ⟨rfl,rfl⟩)))
    go_ret
    exact⟨Ba.aC HR.out,HB2.out⟩
end Go.Proofs.YtgpihfacmpbpaaaGreatDoor.Tr
