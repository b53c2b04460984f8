/-
  Put together: NlA, NlB, NlC, NlD.
-/
import Derived.Test.YtgpihfacmpbpaaaGreatDoorNb
import Derived.Test.YtgpihfacmpbpaaaGreatDoorTsH
import Derived.Deep.DeepCutAuto
namespace Go.Proofs.YtgpihfacmpbpaaaGreatDoor.Nl
open Go.RowKit Tr Nu
set_option maxHeartbeats 1000000 in
theorem BK (v:Value) (t:List Nd) (off:Nat) (ht:t.length≤9000) (i:Nat) (x:Nd) (hx:t[i]?=some x) (z:Int) (hz:(i:Int)+x.size=z) (h0:0≤z) (h1:z≤100000) (B:Nat) (w:World) (hv:aS off w B v t) :
  Calls Tryz.prog 77 #[v,.int .i64 (i:Int)] w fun e w'=>e=.returned (.int .i64 z)∧w=w':=by
 obtain⟨A,c,rfl,hA⟩:=hv
 have hi:=(List.getElem?_eq_some_iff.1 hx).1
 obtain⟨g,rfl,-,hcell⟩:=hA (by omega)
 obtain⟨-,-,-,d3⟩:=cE hcell i _ hx
 obtain⟨xk,xt,xp,xs⟩:=x
 simp only[]at d3 hz
 have i0:(0:Int)≤(i:Int):=by omega
 have i1:(i:Int)<(t.length:Int):=by omega
 have HZ:=Lib.hid hz
 have b0:0≤(i:Int)+xs:=by omega
 have b1:(i:Int)+xs≤100000:=by omega
 clear hA hcell hx hz
 go_enter Tryz.func77,Tryz.ntmps77
 go_wp2
 go_ret
 exact⟨Ba.bF HZ.out,rfl⟩
set_option maxHeartbeats 1000000 in
theorem BL (g m cap:Nat) (hm:m≤9000) (z:Int) (w:World) (hc:w.cell? ⟨g,m,none⟩=some (.int .i64 z)) :
  Calls Tryz.prog 102 #[.slice (some ⟨g,0,none⟩) (m+1) cap] w fun e w'=>e=.returned (.int .i64 z)∧w=w':=by
 go_enter Tryz.func102,Tryz.ntmps102
 have m0:(0:Int)≤(m:Int):=by omega
 go_wp2
 go_ret
 exact⟨rfl,rfl⟩
def uJ (a c:Nat):Bool:=!(decide (eE c=32) && decide (a=32))
abbrev rZ (Bx:Nat):Value:=.func (.func 125) #[] #[.pointer (some ⟨Bx,0,none⟩)]
set_option maxHeartbeats 2000000 in
theorem Z7 (c a Bx:Nat) (hc:c<256) (_ha:a<256) (r:Nat) (hr:eE c=r) (s:Bool) (hs:uJ a c=s) (w:World) (hL:Ka.Laid w) (hb:w.cell? ⟨Bx,0,none⟩=some (.int .u8 (a:Int))) (hf:w.frozen? ⟨Bx,0,none⟩=false) :
  Calls Tryz.prog 125 #[.int .u8 (c:Int),.pointer (some ⟨Bx,0,none⟩)] w fun e w'=>e=.returned (.tuple #[.int .u8 (r:Int),.bool s])∧w'=w.setCell ⟨Bx,0,none⟩ (.int .u8 (r:Int)):=by
 obtain⟨u,hu⟩:∃ u,Ka.cF (c:Int)=u:=⟨_,rfl⟩
 have HU:=Lib.hid hu
 have hw:Lx.iD c=u:=hu
 cases u
 ·have hrc:eE c=c:=by unfold eE;rw[hw];rfl
  obtain rfl:c=r:=by rw[← hr,hrc]
  by_cases h32:c=32
  ·exfalso;rw[h32,rD]at hw;cases hw
  ·have t1:((c:Int) != 32)=true:=by rw[bne,show ((c:Int)==32)=false from beq_eq_false_iff_ne.2 (by omega)];rfl
   have HS:=Lib.hid (show true=s by rw[← hs];unfold uJ;rw[hrc,decide_eq_false h32];rfl)
   clear hr hs hu hw hrc h32
   go_enter Tryz.func125,Tryz.ntmps125
   go_wp2_with (go_at_call 67;refine(Lx.gY c _ hc HU.out _ hL).mono ?_;rintro e w' ⟨rfl,rfl⟩)
   refine bodyPost_ret (v:=.tuple #[.int .u8 (c:Int),.bool true]) (by simp[results,Tryz.f125,go_sem]) rfl ?_
   rw[HS.out]
   exact⟨rfl,rfl⟩
 ·have hrc:eE c=32:=by unfold eE;rw[hw];rfl
  obtain rfl:r=32:=by rw[← hr,hrc]
  by_cases ha:a=32
  ·have t1:((a:Int) != 32)=false:=by rw[bne,show ((a:Int)==32)=true from beq_iff_eq.2 (by omega)];rfl
   have HS:=Lib.hid (show false=s by rw[← hs];unfold uJ;rw[hrc,decide_eq_true ha];rfl)
   clear hr hs hu hw hrc ha
   go_enter Tryz.func125,Tryz.ntmps125
   go_wp2_with (go_at_call 67;refine(Lx.gY c _ hc HU.out _ hL).mono ?_;rintro e w' ⟨rfl,rfl⟩)
   refine bodyPost_ret (v:=.tuple #[.int .u8 32,.bool false]) (by simp[results,Tryz.f125,go_sem]) rfl ?_
   rw[HS.out]
   exact⟨rfl,rfl⟩
  ·have t1:((a:Int) != 32)=true:=by rw[bne,show ((a:Int)==32)=false from beq_eq_false_iff_ne.2 (by omega)];rfl
   have HS:=Lib.hid (show true=s by rw[← hs];unfold uJ;rw[hrc,decide_eq_false ha];rfl)
   clear hr hs hu hw hrc ha
   go_enter Tryz.func125,Tryz.ntmps125
   go_wp2_with (go_at_call 67;refine(Lx.gY c _ hc HU.out _ hL).mono ?_;rintro e w' ⟨rfl,rfl⟩)
   refine bodyPost_ret (v:=.tuple #[.int .u8 32,.bool true]) (by simp[results,Tryz.f125,go_sem]) rfl ?_
   rw[HS.out]
   exact⟨rfl,rfl⟩
set_option maxHeartbeats 1000000 in
theorem RQ (w:World) :
  Calls Tryz.prog 117 #[] w fun e w'=>e=.returned (rZ w.heap.size)∧w'=w.alloc (.cells #[.int .u8 32] 5):=by
 go_enter Tryz.func117,Tryz.ntmps117
 go_wp2
 go_ret
 exact⟨rfl,rfl⟩
end Go.Proofs.YtgpihfacmpbpaaaGreatDoor.Nl
namespace Go.Proofs.YtgpihfacmpbpaaaGreatDoor.Nl
open Go.RowKit Tr Nu
structure fA (S:List Nat) (w w':World):Prop where
 os:w'.os=w.os
 tape:w'.tape=w.tape
 output:w'.output=w.output
 size:w.heap.size≤w'.heap.size
 block:∀ b,b<w.heap.size→b ∉ S→w'.heap[b]?=w.heap[b]?
theorem fA.refl (S:List Nat) (w:World):fA S w w:=⟨rfl,rfl,rfl,Nat.le_refl _,fun _ _ _=>rfl⟩
theorem fA.trans {S S':List Nat} {a b c:World} (h:fA S a b) (k:fA S' b c) (hs:∀ s ∈ S',s ∈ S∨a.heap.size≤s):fA S a c :=
 ⟨k.os.trans h.os,k.tape.trans h.tape,k.output.trans h.output,Nat.le_trans h.size k.size,fun i hi hn=>(k.block i (Nat.lt_of_lt_of_le hi h.size) (fun hm=>by
  rcases hs i hm with h1 | h1
  ·exact hn h1
  ·omega)).trans (h.block i hi hn)⟩
theorem fA.gC {S:List Nat} {w w':World} (h:Below w.heap.size w w'):fA S w w':=⟨h.os,h.tape,h.output,h.size,fun b hb _=>h.block b hb⟩
theorem fA.below {S:List Nat} {N:Nat} {w w':World} (h:fA S w w') (hS:∀ s ∈ S,N≤s) (hN:N≤w.heap.size):Below N w w':=⟨h.os,h.tape,h.output,h.size,fun b hb=>h.block b (by omega) (fun hm=>by have:=hS b hm;omega)⟩
theorem fA.grown {S:List Nat} {w w':World} {row:Option Nat} (h:w.grownBy w' row) (hr:∀ j,row=some j→j ∈ S∨w.heap.size≤j):fA S w w':=⟨h.os,h.tape,h.output,h.size,fun b hb hn=>h.block b hb (fun e=>by
 rcases hr b e.symm with h1 | h1
 ·exact hn h1
 ·omega)⟩
theorem fA.set {S:List Nat} {w:World} {a:Addr} (u:Value) (ha:a.block ∈ S∨w.heap.size≤a.block):fA S w (w.setCell a u):=⟨rfl,rfl,rfl,by simp[World.setCell],fun b hb hn=>Below.heap_setCell w a u b (fun e=>by
 rcases ha with h1 | h1
 ·exact hn (e▸h1)
 ·omega)⟩
theorem dY {w w':World} {B e size n:Nat} {v:Value} {xs:List Value} (h:w.ownsRow B e size v n xs) (hb:∀ g,v.ownBlock=some g→w'.heap[g]?=w.heap[g]?):w'.ownsRow B e size v n xs:=by
 refine⟨h.1,?_⟩
 rcases h.2 with hn | ⟨g,cap,cur,rfl,hbg,hg,rest⟩
 ·exact .inl hn
 ·exact .inr ⟨g,cap,cur,rfl,hbg,(hb g rfl).trans hg,rest⟩
theorem cP {w:World} {B e size n:Nat} {v:Value} {xs:List Value} (h:w.ownsRow B e size v n xs) {g:Nat} (hg:v.ownBlock=some g):B≤g∧g<w.heap.size:=h.lt g hg
structure Rs where
 node:Nat
 place:Int
 kept:List Nat
def cR (p:Rs × Value):List Value:=[.int .i64 (p.1.node:Int),.int .i64 p.1.place,p.2]
theorem jF (p:Rs × Value):(cR p).length=3:=rfl
def aQ (l:List Nat):List Value:=l.map fun(b:Nat)=>.int .u8 (b:Int)
theorem rU (l:List Nat) (b:Nat):aQ (l++[b])=aQ l++[.int .u8 (b:Int)]:=by simp[aQ]
structure dK (w:World) (N:Nat) (S:List Nat) (P:Nat) (R:List (Rs × Value)) (a:Nat):Prop where
 pS:P ∈ S
 lt:∀ s ∈ S,N≤s∧s<w.heap.size
 JY:∀ i,w.frozen? ⟨P,i,none⟩=false
 mem:∃ v Bx,w.cell? ⟨P,0,none⟩=some v∧w.cell? ⟨P,1,none⟩=some (rZ Bx)∧w.cell? ⟨Bx,0,none⟩=some (.int .u8 (a:Int))∧w.frozen? ⟨Bx,0,none⟩=false∧Bx ∈ S∧Bx≠P ∧
  w.ownsRow N 126 3 v R.length (Ba.rows cR R)∧(∀ g,v.ownBlock=some g→g ∈ S∧g≠P∧g≠Bx) ∧
  ∀ p ∈ R,w.ownsRow N 5 1 p.2 p.1.kept.length (aQ p.1.kept)∧∀ g,p.2.ownBlock=some g→g ∈ S∧g≠P∧g≠Bx∧v.ownBlock≠some g
theorem dK.of {w w':World} {N:Nat} {S:List Nat} {P:Nat} {R:List (Rs × Value)} {a:Nat} (h:dK w N S P R a) (hs:w.heap.size≤w'.heap.size) (hb:∀ s ∈ S,w'.heap[s]?=w.heap[s]?):dK w' N S P R a:=by
 obtain⟨pS,lt,JY,v,Bx,c0,c1,cb,fb,bS,bP,own,hv,hk⟩:=h
 have hc:∀ s j,s ∈ S→w'.cell? ⟨s,j,none⟩=w.cell? ⟨s,j,none⟩:=fun s j hs=>World.cell?_of_block (a:=⟨s,j,none⟩) (hb s hs)
 have hf:∀ s j,s ∈ S→w'.frozen? ⟨s,j,none⟩=w.frozen? ⟨s,j,none⟩:=fun s j hs=>World.frozen?_of_block (a:=⟨s,j,none⟩) (hb s hs)
 refine⟨pS,fun s h=>⟨(lt s h).1,Nat.lt_of_lt_of_le (lt s h).2 hs⟩,fun i=>(hf P i pS).trans (JY i),v,Bx,(hc P 0 pS).trans c0,(hc P 1 pS).trans c1,(hc Bx 0 bS).trans cb,(hf Bx 0 bS).trans fb,bS,bP,dY own (fun g hg=>hb g (hv g hg).1),hv,fun p hp=>?_⟩
 obtain⟨h1,h2⟩:=hk p hp
 exact⟨dY h1 (fun g hg=>hb g (h2 g hg).1),h2⟩
theorem dK.base {w:World} {N N':Nat} {S:List Nat} {P:Nat} {R:List (Rs × Value)} {a:Nat} (h:dK w N S P R a) (hN:N'≤N):dK w N' S P R a:=by
 obtain⟨pS,lt,JY,v,Bx,c0,c1,cb,fb,bS,bP,own,hv,hk⟩:=h
 exact⟨pS,fun s hs=>⟨by have:=(lt s hs).1;omega,(lt s hs).2⟩,JY,v,Bx,c0,c1,cb,fb,bS,bP,fL own hN,hv,fun p hp=>⟨fL (hk p hp).1 hN,(hk p hp).2⟩⟩
theorem dK.off {w w':World} {N:Nat} {S S':List Nat} {P:Nat} {R:List (Rs × Value)} {a:Nat} (h:dK w N S P R a) (hw:fA S' w w') (hd:∀ s ∈ S,s ∉ S'):dK w' N S P R a :=
 h.of hw.size (fun s hs=>hw.block s (h.lt s hs).2 (hd s hs))
theorem dK.below {w w':World} {N:Nat} {S:List Nat} {P:Nat} {R:List (Rs × Value)} {a:Nat} (h:dK w N S P R a) (hw:Below w.heap.size w w'):dK w' N S P R a :=
 h.of hw.size (fun s hs=>hw.block s (h.lt s hs).2)
set_option maxHeartbeats 1000000 in
theorem BM (w:World) :
  Calls Tryz.prog 104 #[] w fun e w'=>∃ P S,e=.returned (.pointer (some ⟨P,0,none⟩))∧dK w' w.heap.size S P [] 32∧Below w.heap.size w w':=by
 go_enter Tryz.func104,Tryz.ntmps104
 go_wp2_with (go_at_call 117;refine(RQ _).mono ?_;rintro e w1 ⟨rfl,rfl⟩)
 obtain⟨w1,hw⟩:∃ w1,w.alloc (.cells #[.int .u8 32] 5)=w1:=⟨_,rfl⟩
 have hs1:w1.heap.size=w.heap.size+1:=by subst hw;simp
 have hB1:Below w.heap.size w w1:=hw▸(Below.refl _ w).alloc (Nat.le_refl _) _
 have hb1:w1.heap[w.heap.size]?=some (.cells #[.int .u8 32] 5 (0,0)):=hw▸heap_alloc_new w _
 rw[hw,← hs1]
 go_ret
 obtain⟨w2,hw2⟩:∃ w2,w1.alloc (.cells #[.slice none 0 0,rZ w.heap.size] 124)=w2:=⟨_,rfl⟩
 have hb2:w2.heap[w1.heap.size]?=some (.cells #[.slice none 0 0,rZ w.heap.size] 124 (0,0)):=hw2▸heap_alloc_new w1 _
 have hB2:Below w1.heap.size w1 w2:=hw2▸(Below.refl _ w1).alloc (Nat.le_refl _) _
 have hs2:w2.heap.size=w1.heap.size+1:=by subst hw2;simp
 have hb3:w2.heap[w.heap.size]?=some (.cells #[.int .u8 32] 5 (0,0)):=(hB2.block _ (by omega)).trans hb1
 refine⟨w1.heap.size,[w1.heap.size,w.heap.size],rfl,?_,?_⟩
 ·show dK (w1.alloc (.cells #[.slice none 0 0,rZ w.heap.size] 124)) _ _ _ _ _
  rw[hw2]
  refine⟨by simp,fun s hs=>?_,fun i=>frozen_of_row w2 _ i _ _ hb2,.slice none 0 0,w.heap.size,?_,?_,?_,frozen_of_row w2 _ 0 _ _ hb3,by simp,by omega,World.ownsRow_nil _ _ _ _,(by intro g hg;cases hg),(by intro p hp;cases hp)⟩
  ·simp at hs
   rcases hs with rfl | rfl<;>omega
  ·rw[cell_of_row w2 _ 0 _ _ (0,0) hb2];rfl
  ·rw[cell_of_row w2 _ 1 _ _ (0,0) hb2];rfl
  ·rw[cell_of_row w2 _ 0 _ _ (0,0) hb3];rfl
 ·show Below w.heap.size w (w1.alloc (.cells #[.slice none 0 0,rZ w.heap.size] 124))
  rw[hw2]
  exact hB1.trans (hB2.mono (by omega))
end Go.Proofs.YtgpihfacmpbpaaaGreatDoor.Nl
namespace Go.Proofs.YtgpihfacmpbpaaaGreatDoor.Nl
open Go.RowKit Tr Nu
theorem JZ:(Tryz.prog.info? 126).map (fun i=>(i.zero,i.size,i.bytes))=some (some (.agg #[.int .i64 0,.int .i64 0,.slice none 0 0]),3,40):=by kernel_rfl
theorem FZ:(Tryz.prog.info? 5).map (fun i=>(i.zero,i.size,i.bytes))=some (some (.int .u8 0),1,1):=by kernel_rfl
def gD (i:Nat) (x:Nd) (a:Nat) (k:Nat):List Sp:=eA a (kF i x.text k)
def kR (i:Nat) (x:Nd) (a:Nat) (k:Nat):Nat:=dN a (kF i x.text k)
def oS (x:Nd):List Sp→Int
 | []=>0
 | s::_=>wrap64 (x.place+(s.place:Int))
def tO (i:Nat) (x:Nd) (a:Nat):List Rs:=match gD i x a x.text.size with | []=>[] | s::l=>[⟨i,oS x (s::l),(s::l).map Sp.c⟩]
theorem uK (i:Nat) (x:Nd) (a k:Nat):kR i x a (k+1)=eE (Lx.bT x.text k):=by
 unfold kR;rw[pW,jW];rfl
theorem MT (i:Nat) (x:Nd) (a k:Nat):gD i x a (k+1)=if uJ (kR i x a k) (Lx.bT x.text k)=true then gD i x a k++[rB i x.text k] else gD i x a k:=by
 unfold gD kR
 rw[pW,xN]
 unfold uJ
 by_cases h:(rB i x.text k).c=32∧dN a (kF i x.text k)=32
 ·rw[if_pos h,List.append_nil,if_neg]
  have h1:eE (Lx.bT x.text k)=32:=h.1
  rw[h1,h.2];decide
 ·rw[if_neg h,if_pos]
  have h1:¬ (eE (Lx.bT x.text k)=32∧dN a (kF i x.text k)=32):=h
  rw[Bool.not_eq_true',Bool.and_eq_false_iff,decide_eq_false_iff_not,decide_eq_false_iff_not]
  rcases Classical.em (eE (Lx.bT x.text k)=32)with h2 | h2
  ·exact .inr (fun h3=>h1 ⟨h2,h3⟩)
  ·exact .inl h2
theorem D6 (i:Nat) (x:Nd) (a k:Nat):(gD i x a k).length≤k:=by
 unfold gD;exact Nat.le_trans (VT _ _) (by rw[DC];exact Nat.le_refl _)
theorem MU {x:Nd} {l:List Sp} (h:0<l.length) (m:List Sp):oS x (l++m)=oS x l:=by
 cases l with
 | nil=>exact absurd h (by simp)
 | cons s l=>rfl
structure jE (w:World) (Xb Rb Bx:Nat) (i:Nat) (x:Nd) (l:List Nat) (pl:Int) (a:Nat) (wr:World):Prop where
 c0:wr.cell? ⟨Rb,0,none⟩=some (.int .i64 (i:Int))
 c1:wr.cell? ⟨Rb,1,none⟩=some (.int .i64 pl)
 row:∃ v,wr.cell? ⟨Rb,2,none⟩=some v∧wr.ownsRow (w.heap.size+2) 5 1 v l.length (aQ l)
 fz:∀ j,wr.frozen? ⟨Rb,j,none⟩=false
 box:wr.cell? ⟨Bx,0,none⟩=some (.int .u8 (a:Int))
 fb:wr.frozen? ⟨Bx,0,none⟩=false
 x1:wr.cell? ⟨Xb,1,none⟩=some (.string x.text)
 x2:wr.cell? ⟨Xb,2,none⟩=some (.int .i64 x.place)
 off:fA [Bx] w wr
 size:w.heap.size+2≤wr.heap.size
theorem jE.lift {w:World} {Xb Rb Bx:Nat} {i:Nat} {x:Nd} {l:List Nat} {pl:Int} {a:Nat} {wr wx:World} (h:jE w Xb Rb Bx i x l pl a wr) (hh:wx.heap=wr.heap) (h1:wx.os=wr.os) (h2:wx.tape=wr.tape) (h3:wx.output=wr.output):jE w Xb Rb Bx i x l pl a wx:=by
 obtain⟨c0,c1,⟨v,r1,r2⟩,fz,box,fb,x1,x2,off,size⟩:=h
 have hc:∀ a,wx.cell? a=wr.cell? a:=fun a=>World.cell?_of_block (by rw[hh])
 have hf:∀ a,wx.frozen? a=wr.frozen? a:=fun a=>World.frozen?_of_block (by rw[hh])
 exact⟨(hc _).trans c0,(hc _).trans c1,⟨v,(hc _).trans r1,dY r2 (fun g _=>by rw[hh])⟩,fun j=>(hf _).trans (fz j),(hc _).trans box,(hf _).trans fb,(hc _).trans x1,(hc _).trans x2,
  ⟨h1.trans off.os,h2.trans off.tape,h3.trans off.output,by rw[hh];exact off.size,fun b hb hn=>by rw[hh];exact off.block b hb hn⟩,by rw[hh];exact size⟩
theorem jE.drewN {w:World} {Xb Rb Bx:Nat} {i:Nat} {x:Nd} {l:List Nat} {pl:Int} {a:Nat} {wr:World} (h:jE w Xb Rb Bx i x l pl a wr) (n:Nat):jE w Xb Rb Bx i x l pl a (wr.drewN n):=h.lift rfl rfl rfl rfl
theorem jE.aCW {w:World} {Xb Rb Bx:Nat} {i:Nat} {x:Nd} {l:List Nat} {pl:Int} {a:Nat} {wr:World} (h:jE w Xb Rb Bx i x l pl a wr) (hXb:Xb=w.heap.size) (hRb:Rb=w.heap.size+1) (hBx:Bx<w.heap.size) (r:Nat):jE w Xb Rb Bx i x l pl r (wr.setCell ⟨Bx,0,none⟩ (.int .u8 (r:Int))):=by
 obtain⟨c0,c1,⟨v,r1,r2⟩,fz,box,fb,x1,x2,off,size⟩:=h
 subst hXb;subst hRb
 have hc:∀ b j,b≠Bx→(wr.setCell ⟨Bx,0,none⟩ (.int .u8 (r:Int))).cell? ⟨b,j,none⟩=wr.cell? ⟨b,j,none⟩:=fun b j hb=>World.cell?_of_block (a:=⟨b,j,none⟩) (Below.heap_setCell wr _ _ b hb)
 refine⟨(hc _ _ (by omega)).trans c0,(hc _ _ (by omega)).trans c1,⟨v,(hc _ _ (by omega)).trans r1,dY r2 (fun g hg=>Below.heap_setCell wr _ _ g ?_)⟩,fun j=>by rw[World.frozen?_setCell];exact fz j,World.cell?_setCell_same _ _ _ box,by rw[World.frozen?_setCell];exact fb,(hc _ _ (by omega)).trans x1,(hc _ _ (by omega)).trans x2,off.trans (fA.set (S:=[Bx]) _ (.inl (by simp))) (fun s hs=>.inl hs),by simpa using size⟩
 have:=cP r2 hg
 show g≠Bx
 omega
theorem jE.vO {w:World} {Xb Rb Bx:Nat} {i:Nat} {x:Nd} {l:List Nat} {pl:Int} {a:Nat} {wr:World} (h:jE w Xb Rb Bx i x l pl a wr) (hXb:Xb=w.heap.size) (hRb:Rb=w.heap.size+1) (hBx:Bx<w.heap.size) (p:Int):jE w Xb Rb Bx i x l p a (wr.setCell ⟨Rb,1,none⟩ (.int .i64 p)):=by
 obtain⟨c0,c1,⟨v,r1,r2⟩,fz,box,fb,x1,x2,off,size⟩:=h
 subst hXb;subst hRb
 have hc:∀ b j,b≠w.heap.size+1→(wr.setCell ⟨w.heap.size+1,1,none⟩ (.int .i64 p)).cell? ⟨b,j,none⟩=wr.cell? ⟨b,j,none⟩:=fun b j hb=>World.cell?_of_block (a:=⟨b,j,none⟩) (Below.heap_setCell wr _ _ b hb)
 have ho:∀ j,j≠1→(wr.setCell ⟨w.heap.size+1,1,none⟩ (.int .i64 p)).cell? ⟨w.heap.size+1,j,none⟩=wr.cell? ⟨w.heap.size+1,j,none⟩:=fun j hj=>World.cell?_setCell_other _ _ _ _ (fun e=>by injection e with _ e _;omega)
 refine⟨(ho _ (by omega)).trans c0,World.cell?_setCell_same _ _ _ c1,⟨v,(ho _ (by omega)).trans r1,dY r2 (fun g hg=>Below.heap_setCell wr _ _ g ?_)⟩,fun j=>by rw[World.frozen?_setCell];exact fz j,(hc _ _ (by omega)).trans box,by rw[World.frozen?_setCell];exact fb,(hc _ _ (by omega)).trans x1,(hc _ _ (by omega)).trans x2,off.trans (fA.set (S:=[w.heap.size+1]) _ (.inl (by simp))) (fun s hs=>.inr (by simp at hs;omega)),by simpa using size⟩
 have:=cP r2 hg
 show g≠w.heap.size+1
 omega
theorem jE.putRow {w:World} {Xb Rb Bx:Nat} {i:Nat} {x:Nd} {l:List Nat} {pl:Int} {a:Nat} {wr wx:World} (h:jE w Xb Rb Bx i x l pl a wr) (hXb:Xb=w.heap.size) (hRb:Rb=w.heap.size+1) (hBx:Bx<w.heap.size) (hw:Below (w.heap.size+2) wr wx) {v:Value} {l':List Nat} (hr:wx.ownsRow (w.heap.size+2) 5 1 v l'.length (aQ l')):jE w Xb Rb Bx i x l' pl a (wx.setCell ⟨Rb,2,none⟩ v):=by
 obtain⟨c0,c1,⟨v0,r1,-⟩,fz,box,fb,x1,x2,off,size⟩:=h
 subst hXb;subst hRb
 have hb:∀ b j,b<w.heap.size+2→wx.cell? ⟨b,j,none⟩=wr.cell? ⟨b,j,none⟩:=fun b j hb=>World.cell?_of_block (a:=⟨b,j,none⟩) (hw.block b hb)
 have hf:∀ b j,b<w.heap.size+2→wx.frozen? ⟨b,j,none⟩=wr.frozen? ⟨b,j,none⟩:=fun b j hb=>World.frozen?_of_block (a:=⟨b,j,none⟩) (hw.block b hb)
 have hc:∀ b j,b<w.heap.size+1→(wx.setCell ⟨w.heap.size+1,2,none⟩ v).cell? ⟨b,j,none⟩=wr.cell? ⟨b,j,none⟩:=fun b j hbb=>(World.cell?_of_block (a:=⟨b,j,none⟩) (Below.heap_setCell wx ⟨w.heap.size+1,2,none⟩ v b (fun e=>by have e:b=w.heap.size+1:=e;omega))).trans (hb b j (by omega))
 have ho:∀ j,j≠2→(wx.setCell ⟨w.heap.size+1,2,none⟩ v).cell? ⟨w.heap.size+1,j,none⟩=wr.cell? ⟨w.heap.size+1,j,none⟩:=fun j hj=>(World.cell?_setCell_other _ _ _ _ (fun e=>by injection e with _ e _;omega)).trans (hb _ j (by omega))
 refine⟨(ho _ (by omega)).trans c0,(ho _ (by omega)).trans c1,⟨v,World.cell?_setCell_same _ _ _ ((hb _ _ (by omega)).trans r1),dY hr (fun g hg=>Below.heap_setCell wx _ _ g ?_)⟩,fun j=>by rw[World.frozen?_setCell,hf _ _ (by omega)];exact fz j,(hc _ _ (by omega)).trans box,by rw[World.frozen?_setCell,hf _ _ (by omega)];exact fb,(hc _ _ (by omega)).trans x1,(hc _ _ (by omega)).trans x2,?_,?_⟩
 ·have:=cP hr hg
  show g≠w.heap.size+1
  omega
 ·exact⟨hw.os.trans off.os,hw.tape.trans off.tape,hw.output.trans off.output,Nat.le_trans off.size (by have:=hw.size;simpa using this),fun b hbl hn=>((Below.heap_setCell wx ⟨w.heap.size+1,2,none⟩ v b (fun e=>by have e:b=w.heap.size+1:=e;omega)).trans (hw.block b (by omega))).trans (off.block b hbl hn)⟩
 ·have:=hw.size
  have:w.heap.size+2≤wx.heap.size:=by omega
  simpa using this
theorem jE.grow {w:World} {Xb Rb Bx:Nat} {i:Nat} {x:Nd} {l:List Nat} {pl:Int} {a:Nat} {wr w5:World} (h:jE w Xb Rb Bx i x l pl a wr) (hXb:Xb=w.heap.size) (hRb:Rb=w.heap.size+1) (hBx:Bx<w.heap.size) {vk:Value} (hv:wr.cell? ⟨Rb,2,none⟩=some vk) (hown:wr.ownsRow (w.heap.size+2) 5 1 vk l.length (aQ l)) {o:Obj} (hg:(wr.alloc o).grownBy w5 vk.ownBlock) {v':Value} {l':List Nat} (own5:w5.ownsRow (w.heap.size+2) 5 1 v' l'.length (aQ l')) :
  jE w Xb Rb Bx i x l' pl a (w5.setCell ⟨Rb,2,none⟩ v')∧w5.cell? ⟨Rb,2,none⟩=some vk∧w5.frozen? ⟨Rb,2,none⟩=false:=by
 have hs:=h.size
 have hB:Below (w.heap.size+2) wr w5:=((Below.refl _ wr).alloc hs o).grown hg (by simp;omega) (fun j ej=>(cP hown ej).1)
 exact⟨h.putRow hXb hRb hBx hB own5,(World.cell?_of_block (a:=⟨Rb,2,none⟩) (hB.block Rb (by omega))).trans hv,(World.frozen?_of_block (a:=⟨Rb,2,none⟩) (hB.block Rb (by omega))).trans (h.fz 2)⟩
def BN (w:World) (N:Nat) (S:List Nat) (P:Nat) (R:List (Rs × Value)) (L:List Rs) (a:Nat) (e:Ending) (w':World):Prop :=
 e=.returned (.tuple #[])∧∃ S' R',dK w' N S' P R' a∧(∀ s ∈ S',s ∈ S∨w.heap.size≤s)∧fA S w w'∧R'.map Prod.fst=R.map Prod.fst++L
theorem fA.mono {S S':List Nat} {w w':World} (h:fA S w w') (hs:∀ s ∈ S,s ∈ S'):fA S' w w':=⟨h.os,h.tape,h.output,h.size,fun b hb hn=>h.block b hb (fun hm=>hn (hs b hm))⟩
theorem VU {w wr:World} {N:Nat} {S:List Nat} {P:Nat} {R:List (Rs × Value)} {v:Value} {Bx a:Nat} (pS:P ∈ S) (lt:∀ s ∈ S,N≤s∧s<w.heap.size) (JY:∀ i,w.frozen? ⟨P,i,none⟩=false) (c0:w.cell? ⟨P,0,none⟩=some v) (c1:w.cell? ⟨P,1,none⟩=some (rZ Bx)) (bS:Bx ∈ S) (bP:Bx≠P)
  (own:w.ownsRow N 126 3 v R.length (Ba.rows cR R)) (hv:∀ g,v.ownBlock=some g→g ∈ S∧g≠P∧g≠Bx) (hk:∀ p ∈ R,w.ownsRow N 5 1 p.2 p.1.kept.length (aQ p.1.kept)∧∀ g,p.2.ownBlock=some g→g ∈ S∧g≠P∧g≠Bx∧v.ownBlock≠some g)
  (off:fA [Bx] w wr) (box:wr.cell? ⟨Bx,0,none⟩=some (.int .u8 (a:Int))) (fb:wr.frozen? ⟨Bx,0,none⟩=false) :
  (∀ i,wr.frozen? ⟨P,i,none⟩=false)∧wr.cell? ⟨P,0,none⟩=some v∧wr.cell? ⟨P,1,none⟩=some (rZ Bx)∧wr.ownsRow N 126 3 v R.length (Ba.rows cR R) ∧
  (∀ p ∈ R,wr.ownsRow N 5 1 p.2 p.1.kept.length (aQ p.1.kept)∧∀ g,p.2.ownBlock=some g→g ∈ S∧g≠P∧g≠Bx∧v.ownBlock≠some g)∧dK wr N S P R a:=by
 have hb:∀ s ∈ S,s≠Bx→wr.heap[s]?=w.heap[s]?:=fun s hs hn=>off.block s (lt s hs).2 (by simpa using hn)
 have hP:=hb P pS (Ne.symm bP)
 have f1:∀ i,wr.frozen? ⟨P,i,none⟩=false:=fun i=>(World.frozen?_of_block (a:=⟨P,i,none⟩) hP).trans (JY i)
 have g0:=(World.cell?_of_block (a:=⟨P,0,none⟩) hP).trans c0
 have g1:=(World.cell?_of_block (a:=⟨P,1,none⟩) hP).trans c1
 have o1:=dY own (fun g hg=>hb g (hv g hg).1 (hv g hg).2.2)
 have k1:=fun p (hp:p ∈ R)=>(⟨dY (hk p hp).1 (fun g hg=>hb g ((hk p hp).2 g hg).1 ((hk p hp).2 g hg).2.2.1),(hk p hp).2⟩:wr.ownsRow N 5 1 p.2 p.1.kept.length (aQ p.1.kept)∧∀ g,p.2.ownBlock=some g→g ∈ S∧g≠P∧g≠Bx∧v.ownBlock≠some g)
 exact⟨f1,g0,g1,o1,k1,pS,fun s hs=>⟨(lt s hs).1,Nat.lt_of_lt_of_le (lt s hs).2 off.size⟩,f1,v,Bx,g0,g1,box,fb,bS,bP,o1,hv,k1⟩
theorem RR {wr w5:World} {N n0:Nat} {S:List Nat} {P:Nat} {R:List (Rs × Value)} {v:Value} {Bx a:Nat} {rs:Rs} {vk:Value} {o:Obj} {gg cap:Nat} (pS:P ∈ S) (lt:∀ s ∈ S,N≤s∧s<n0) (hN:N≤n0) (hn0:n0≤wr.heap.size) (JY:∀ i,wr.frozen? ⟨P,i,none⟩=false) (c0:wr.cell? ⟨P,0,none⟩=some v) (c1:wr.cell? ⟨P,1,none⟩=some (rZ Bx)) (cb:wr.cell? ⟨Bx,0,none⟩=some (.int .u8 (a:Int))) (fb:wr.frozen? ⟨Bx,0,none⟩=false) (bS:Bx ∈ S) (bP:Bx≠P)
  (hv:∀ g,v.ownBlock=some g→g ∈ S∧g≠P∧g≠Bx) (hk:∀ p ∈ R,wr.ownsRow N 5 1 p.2 p.1.kept.length (aQ p.1.kept)∧∀ g,p.2.ownBlock=some g→g ∈ S∧g≠P∧g≠Bx∧v.ownBlock≠some g)
  (ownk:wr.ownsRow n0 5 1 vk rs.kept.length (aQ rs.kept)) (hgrow:(wr.alloc o).grownBy w5 v.ownBlock) (hat:v.ownBlock=some gg∨gg=wr.heap.size+1) (hlt:gg<w5.heap.size)
  (own5:w5.ownsRow N 126 3 (.slice (some ⟨gg,0,none⟩) (R.length+1) cap) (R.length+1) (Ba.rows cR (R++[(rs,vk)]))) :
  (∃ S',dK (w5.setCell ⟨P,0,none⟩ (.slice (some ⟨gg,0,none⟩) (R.length+1) cap)) N S' P (R++[(rs,vk)]) a∧∀ s ∈ S',s ∈ S∨n0≤s)∧fA S wr (w5.setCell ⟨P,0,none⟩ (.slice (some ⟨gg,0,none⟩) (R.length+1) cap))∧w5.cell? ⟨P,0,none⟩=some v∧w5.frozen? ⟨P,0,none⟩=false:=by
 have hs5:wr.heap.size+1≤w5.heap.size:=by have:=hgrow.size;simpa using this
 have hkeep:∀ b,b<wr.heap.size→v.ownBlock≠some b→w5.heap[b]?=wr.heap[b]?:=fun b hb hn=>(hgrow.block b (by simp;omega) (Ne.symm hn)).trans (Below.heap_alloc wr o b hb)
 have hP5:=hkeep P (by have:=lt P pS;omega) (fun e=>(hv P e).2.1 rfl)
 have hB5:=hkeep Bx (by have:=lt Bx bS;omega) (fun e=>(hv Bx e).2.2 rfl)
 obtain⟨V,hV⟩:∃ V,(Value.slice (some ⟨gg,0,none⟩) (R.length+1) cap)=V:=⟨_,rfl⟩
 have hVo:V.ownBlock=some gg:=by rw[← hV];rfl
 have hggP:gg≠P:=by
  rcases hat with h | h
  ·exact(hv gg h).2.1
  ·have:=lt P pS;omega
 have hggB:gg≠Bx:=by
  rcases hat with h | h
  ·exact(hv gg h).2.2
  ·have:=lt Bx bS;omega
 have hset:∀ b,b≠P→(w5.setCell ⟨P,0,none⟩ V).heap[b]?=w5.heap[b]?:=fun b hb=>Below.heap_setCell w5 _ _ b hb
 have c5:w5.cell? ⟨P,0,none⟩=some v:=(World.cell?_of_block (a:=⟨P,0,none⟩) hP5).trans c0
 have f5:∀ i,w5.frozen? ⟨P,i,none⟩=false:=fun i=>(World.frozen?_of_block (a:=⟨P,i,none⟩) hP5).trans (JY i)
 rw[hV]at own5 ⊢
 have hoff:fA S wr (w5.setCell ⟨P,0,none⟩ V):=by
  have h1:fA S wr w5:=⟨hgrow.os,hgrow.tape,hgrow.output,by omega,fun b hb hn=>hkeep b hb (fun e=>hn (hv b e).1)⟩
  exact h1.trans (fA.set (S:=S) V (.inl pS)) (fun s hs=>.inl hs)
 refine⟨⟨gg::(S++(vk.ownBlock).toList),⟨by simp[pS],fun s hs=>?_,fun i=>by rw[World.frozen?_setCell];exact f5 i,V,Bx,World.cell?_setCell_same _ _ _ c5,?_,?_,?_,by simp[bS],bP,?_,fun g hg=>?_,fun p hp=>?_⟩,fun s hs=>?_⟩,hoff,c5,f5 0⟩
 ·have hsz:(w5.setCell ⟨P,0,none⟩ V).heap.size=w5.heap.size:=by simp
  rw[hsz]
  rcases List.mem_cons.1 hs with rfl | h1
  ·refine⟨?_,hlt⟩
   rcases hat with h | h
   ·exact(lt _ (hv _ h).1).1
   ·omega
  ·rcases List.mem_append.1 h1 with h2 | h2
   ·have:=lt s h2;exact⟨this.1,by omega⟩
   ·rw[Option.mem_toList]at h2
    have:=cP ownk h2
    omega
 ·exact(World.cell?_setCell_other _ _ _ _ (fun e=>by injection e with _ e _;omega)).trans ((World.cell?_of_block (a:=⟨P,1,none⟩) hP5).trans c1)
 ·exact(World.cell?_of_block (a:=⟨Bx,0,none⟩) ((hset Bx bP).trans hB5)).trans cb
 ·rw[World.frozen?_setCell];exact(World.frozen?_of_block (a:=⟨Bx,0,none⟩) hB5).trans fb
 ·have:(R++[(rs,vk)]).length=R.length+1:=by simp
  rw[this]
  exact dY own5 (fun g hg=>hset g (by rw[hVo]at hg;cases hg;exact hggP))
 ·rw[hVo]at hg
  cases hg
  exact⟨by simp,hggP,hggB⟩
 ·rcases List.mem_append.1 hp with h1 | h1
  ·obtain⟨h2,h3⟩:=hk p h1
   have hvg:∀ g,p.2.ownBlock=some g→v.ownBlock≠some g:=fun g hg=>(h3 g hg).2.2.2
   refine⟨dY h2 (fun g hg=>(hset g (h3 g hg).2.1).trans (hkeep g (by have:=cP h2 hg;omega) (hvg g hg))),fun g hg=>⟨by simp[(h3 g hg).1],(h3 g hg).2.1,(h3 g hg).2.2.1,fun e=>?_⟩⟩
   rw[hVo]at e
   have e:gg=g:=by injection e
   rcases hat with h | h
   ·exact hvg g hg (by rw[h,e])
   ·have:=lt g (h3 g hg).1;omega
  ·rw[List.mem_singleton]at h1
   subst h1
   have key:∀ g,vk.ownBlock=some g→n0≤g∧g<wr.heap.size:=fun g hg=>cP ownk hg
   have nS:∀ g s,vk.ownBlock=some g→s ∈ S→g≠s:=fun g s hg hs=>by have:=key g hg;have:=lt s hs;omega
   refine⟨fL (dY ownk (fun g hg=>(hset g (nS g P hg pS)).trans (hkeep g (key g hg).2 (fun e=>nS g g hg (hv g e).1 rfl)))) hN,fun g hg=>⟨?_,nS g P hg pS,nS g Bx hg bS,fun e=>?_⟩⟩
   ·have hg:vk.ownBlock=some g:=hg
    rw[hg];simp
   ·rw[hVo]at e
    have e:gg=g:=by injection e
    have:=key g hg
    rcases hat with h | h
    ·exact nS g gg hg (hv gg h).1 e.symm
    ·omega
 ·rcases List.mem_cons.1 hs with rfl | h1
  ·rcases hat with h | h
   ·exact .inl (hv _ h).1
   ·exact .inr (by omega)
  ·rcases List.mem_append.1 h1 with h2 | h2
   ·exact .inl h2
   ·rw[Option.mem_toList]at h2
    exact .inr (cP ownk h2).1
set_option maxRecDepth 100000 in
set_option maxHeartbeats 8000000 in
theorem Z8 {w:World} {N:Nat} {S:List Nat} {P:Nat} {R:List (Rs × Value)} {a:Nat} (h:dK w N S P R a) (ha:a<256) (hR:R.length≤9000) (i:Nat) (_hi:i≤9000) (x:Nd) (_hxk:x.kind<256) (hxt:x.text.size≤9000) (hL:Ka.Laid w) (hLN:0<N) (hN:N≤w.heap.size) :
  Calls Tryz.prog 103 #[.pointer (some ⟨P,0,none⟩),.int .i64 (i:Int),.agg #[.int .u8 (x.kind:Int),.string x.text,.int .i64 x.place,.int .i64 x.size]] w (BN w N S P R (tO i x a) (kR i x a x.text.size)):=by
 obtain⟨i0,hi0,hz0,hz1,hz2⟩:=info_parts FZ
 obtain⟨j0,hj0,gz0,gz1,gz2⟩:=info_parts JZ
 have H:=Lib.hid h
 obtain⟨pS,lt,JY,v,Bx,c0,c1,cb,fb,bS,bP,own,hv,hk⟩:=h
 have hBx:=(lt Bx bS).2
 have hP:=(lt P pS).2
 obtain⟨Xb,hXb⟩:∃ Xb,Xb=w.heap.size:=⟨_,rfl⟩
 obtain⟨Rb,hRb⟩:∃ Rb,Rb=w.heap.size+1:=⟨_,rfl⟩
 have HST:=Lib.hid (show jE w Xb Rb Bx i x ((gD i x a 0).map Sp.c) (oS x (gD i x a 0)) (kR i x a 0) ((w.alloc (.cells #[.int .u8 (x.kind:Int),.string x.text,.int .i64 x.place,.int .i64 x.size] 41)).alloc (.cells #[.int .i64 (i:Int),.int .i64 0,.slice none 0 0] 126)) from by
  obtain⟨w1,hw1⟩:∃ w1,w.alloc (.cells #[.int .u8 (x.kind:Int),.string x.text,.int .i64 x.place,.int .i64 x.size] 41)=w1:=⟨_,rfl⟩
  have hs1:w1.heap.size=w.heap.size+1:=by subst hw1;simp
  have hb1:w1.heap[w.heap.size]?=some (.cells #[.int .u8 (x.kind:Int),.string x.text,.int .i64 x.place,.int .i64 x.size] 41 (0,0)):=hw1▸heap_alloc_new w _
  have hB1:Below w.heap.size w w1:=hw1▸(Below.refl _ w).alloc (Nat.le_refl _) _
  rw[hw1]
  obtain⟨w2,hw2⟩:∃ w2,w1.alloc (.cells #[.int .i64 (i:Int),.int .i64 0,.slice none 0 0] 126)=w2:=⟨_,rfl⟩
  have hs2:w2.heap.size=w1.heap.size+1:=by subst hw2;simp
  have hb2:w2.heap[w1.heap.size]?=some (.cells #[.int .i64 (i:Int),.int .i64 0,.slice none 0 0] 126 (0,0)):=hw2▸heap_alloc_new w1 _
  have hB2:Below w1.heap.size w1 w2:=hw2▸(Below.refl _ w1).alloc (Nat.le_refl _) _
  rw[hw2]
  have hb3:w2.heap[w.heap.size]?=some (.cells #[.int .u8 (x.kind:Int),.string x.text,.int .i64 x.place,.int .i64 x.size] 41 (0,0)):=(hB2.block _ (by omega)).trans hb1
  have hB:Below w.heap.size w w2:=hB1.trans (hB2.mono (by omega))
  subst hXb
  rw[hs1]at hb2
  rw[← hRb]at hb2
  refine⟨?_,?_,⟨.slice none 0 0,?_,World.ownsRow_nil _ _ _ _⟩,fun j=>frozen_of_row w2 _ j _ _ hb2,(World.cell?_of_block (a:=⟨Bx,0,none⟩) (hB.block Bx hBx)).trans cb,(World.frozen?_of_block (a:=⟨Bx,0,none⟩) (hB.block Bx hBx)).trans fb,?_,?_,fA.gC hB,by omega⟩
  ·rw[cell_of_row w2 _ 0 _ _ (0,0) hb2];rfl
  ·rw[cell_of_row w2 _ 1 _ _ (0,0) hb2];rfl
  ·rw[cell_of_row w2 _ 2 _ _ (0,0) hb2];rfl
  ·rw[cell_of_row w2 _ 1 _ _ (0,0) hb3];rfl
  ·rw[cell_of_row w2 _ 2 _ _ (0,0) hb3];rfl)
 have HC:=Lib.hid (⟨c0,c1,JY,hBx,hP,lt,bS⟩:w.cell? ⟨P,0,none⟩=some v∧w.cell? ⟨P,1,none⟩=some (rZ Bx)∧(∀ i,w.frozen? ⟨P,i,none⟩=false)∧Bx<w.heap.size∧P<w.heap.size∧(∀ s ∈ S,N≤s∧s<w.heap.size)∧Bx ∈ S)
 have HO:=Lib.hid (⟨own,hv,hk⟩:w.ownsRow N 126 3 v R.length (Ba.rows cR R)∧(∀ g,v.ownBlock=some g→g ∈ S∧g≠P∧g≠Bx)∧∀ p ∈ R,w.ownsRow N 5 1 p.2 p.1.kept.length (aQ p.1.kept)∧∀ g,p.2.ownBlock=some g→g ∈ S∧g≠P∧g≠Bx∧v.ownBlock≠some g)
 clear pS lt JY c0 c1 cb fb bS own hv hk
 obtain⟨n,hn⟩:∃ n,x.text.size=n:=⟨_,rfl⟩
 have HNN:=Lib.hid hn
 go_enter Tryz.func103,Tryz.ntmps103
 go_wp2
 rw[hn]at hxt
 go_loopw [15] (fun u15 wr=>∃ k:Nat,u15=.int .i64 (k:Int)∧k≤n∧jE w Xb Rb Bx i x ((gD i x a k).map Sp.c) (oS x (gD i x a k)) (kR i x a k) wr) (fun u15 _=>n - (intOf u15).toNat)
 case atStart=>exact⟨0,rfl,Nat.zero_le _,HST.out⟩
 case round =>
  obtain⟨k,rfl,hkn,hT⟩:=hrel
  clear HST
  obtain⟨d0,d1,⟨vk,d2,rowk⟩,dfz,dbox,dfb,dx1,dx2,doff,dsize⟩:=id hT
  rw[hXb]at dx1 dx2
  rw[hRb]at d0 d1 d2
  have dfz':∀ j,wr.frozen? ⟨w.heap.size+1,j,none⟩=false:=by rw[← hRb];exact dfz
  have HT:=Lib.hid hT
  have p1:wr.cell? ⟨P,1,none⟩=some (rZ Bx):=(World.cell?_of_block (a:=⟨P,1,none⟩) (doff.block P HC.out.2.2.2.2.1 (by simp;exact fun e=>bP e.symm))).trans HC.out.2.1
  have hLr:Ka.Laid wr:=hL.below (doff.below (N:=N) (by simp;exact(HC.out.2.2.2.2.2.1 Bx HC.out.2.2.2.2.2.2).1) hN) hLN
  have k0:(0:Int)≤(k:Int):=by omega
  obtain⟨ak,hak⟩:∃ ak,kR i x a k=ak:=⟨_,rfl⟩
  obtain⟨Lk,hLk⟩:∃ Lk,gD i x a k=Lk:=⟨_,rfl⟩
  have hlen:=D6 i x a k
  rw[hLk]at rowk hlen d1
  rw[hak]at dbox
  have hak256:ak<256:=by
   rw[← hak]
   cases k with
   | zero=>exact ha
   | succ j=>rw[uK];exact AD (Lx.eF _ _)
  have HAK:=Lib.hid hak
  have HLK:=Lib.hid hLk
  by_cases hlt:k<n
  ·have hlt2:k<x.text.size:=by omega
   have E1:=Lx.cJ x.text k hlt2
   have hb256:=Lx.eF x.text k
   obtain⟨bb,hbb⟩:∃ bb,Lx.bT x.text k=bb:=⟨_,rfl⟩
   rw[hbb]at E1 hb256
   obtain⟨r,hr⟩:∃ r,eE bb=r:=⟨_,rfl⟩
   obtain⟨st,hst⟩:∃ st,uJ ak bb=st:=⟨_,rfl⟩
   have hr256:r<256:=by rw[← hr];exact AD hb256
   have HA1:=Lib.hid (show kR i x a (k+1)=r by rw[uK,hbb,hr])
   have HL1:=Lib.hid (show gD i x a (k+1)=if st=true then Lk++[⟨r,i,k⟩] else Lk by
    rw[MT,HAK.out,hbb,hst,HLK.out];unfold rB;rw[hbb,hr])
   have hKP:=fun W (hW:Ka.Laid W) hb hf=>Z7 bb ak Bx hb256 hak256 r hr st hst W hW hb hf
   have HKP:=Lib.hid hKP
   have k1:(k:Int)<(x.text.size:Int):=by omega
   have HDB:=Lib.hid (⟨hLr,dbox,dfb⟩:Ka.Laid wr∧wr.cell? ⟨Bx,0,none⟩=some (.int .u8 (ak:Int))∧wr.frozen? ⟨Bx,0,none⟩=false)
   clear hr hst hbb hak hLk hKP hLr hT dfz dbox dfb doff
   go_upto_region 5 with fail
   go_cut [8,9] (fun s8 s9 wx=>s8=.int .u8 (r:Int)∧s9=.bool st∧jE w Xb Rb Bx i x (Lk.map Sp.c) (oS x Lk) r wx)
   case first =>
    have HT2:=Lib.hid (fun m=>(HT.out.drewN m).aCW hXb hRb hBx r)
    rw[HLK.out]at HT2
    go_region_with (go_at_call 125;refine(HKP.out wr.drew HDB.out.1 HDB.out.2.1 HDB.out.2.2).mono ?_;rintro e w' ⟨rfl,rfl⟩)
    all_goals
     go_wp2_with fail
     go_meet
     exact⟨rfl,rfl,HT2.out 1⟩
   case rest =>
    obtain⟨rfl,rfl,hT⟩:=hcut
    clear d0 d1 d2 dfz' dx1 dx2 p1
    obtain⟨d0,d1,⟨vk,d2,rowk⟩,dfz,dbox,dfb,dx1,dx2,doff,dsize⟩:=id hT
    rw[hXb]at dx1 dx2
    rw[hRb]at d0 d1 d2
    have dfz':∀ j,wc.frozen? ⟨w.heap.size+1,j,none⟩=false:=by rw[← hRb];exact dfz
    have HT2:=Lib.hid hT
    clear dfz dbox dfb hT HT HDB HKP
    cases st
    ·have HS:=Lib.hid (show jE w Xb Rb Bx i x ((gD i x a (k+1)).map Sp.c) (oS x (gD i x a (k+1))) (kR i x a (k+1)) wc by rw[HA1.out,HL1.out];exact HT2.out)
     clear d0 d1 d2 dfz' dx1 dx2 doff rowk
     go_wp2
     go_roundw
     case rel=>exact⟨k+1,by go_num,by omega,HS.out⟩
     case measure=>simp[intOf];omega
    ·have hl2:(Lk.map Sp.c).length=Lk.length:=List.length_map ..
     rw[hl2]at rowk
     obtain⟨m,hm⟩:∃ m,Lk.length=m:=⟨_,rfl⟩
     rw[hm]at rowk hlen
     obtain⟨Ak,ck,rfl,hcm,hnc,hAk⟩:=aW rowk
     have HRK:=Lib.hid rowk
     have HM:=Lib.hid hm
     have HL2:=Lib.hid (show ((gD i x a (k+1)).map Sp.c)=Lk.map Sp.c++[r] by rw[HL1.out,if_pos rfl,List.map_append];rfl)
     clear rowk hm hAk hl2
     rcases Nat.eq_zero_or_pos m with rfl | hm0
     ·have HP2:=Lib.hid (show oS x (gD i x a (k+1))=wrap64 (x.place+(k:Int)) by
       rw[HL1.out,if_pos rfl,List.length_eq_zero_iff.1 HM.out];rfl)
      have w1:IntKind.i64.wrap (x.place+(k:Int))=wrap64 (x.place+(k:Int)):=IntWalk.i64_left _
      obtain⟨Q,hQ⟩:∃ Q,wrap64 (x.place+(k:Int))=Q:=⟨_,rfl⟩
      rw[hQ]at HP2 w1
      have HT3:=Lib.hid (HT2.out.vO hXb hRb hBx Q)
      obtain⟨wy,hwy⟩:∃ wy,wc.setCell ⟨w.heap.size+1,1,none⟩ (.int .i64 Q)=wy:=⟨_,rfl⟩
      rw[hRb,hwy]at HT3
      have d2':wy.cell? ⟨w.heap.size+1,2,none⟩=some (.slice Ak 0 ck):=by rw[← hwy];exact(World.cell?_setCell_other _ _ _ _ (fun e=>by injection e with _ e _;omega)).trans d2
      have dfy:∀ j,wy.frozen? ⟨w.heap.size+1,j,none⟩=false:=fun j=>by rw[← hwy,World.frozen?_setCell];exact dfz' j
      have HR3:=Lib.hid (show wy.ownsRow (w.heap.size+2) 5 1 (.slice Ak 0 ck) 0 (aQ (Lk.map Sp.c)) from dY HRK.out (fun g hg=>by
       rw[← hwy]
       exact Below.heap_setCell _ _ _ _ (fun e=>by have:=cP HRK.out hg;have e:g=w.heap.size+1:=e;omega)))
      have hsy:w.heap.size+2≤wy.heap.size:=HT3.out.size
      have HG:=Lib.hid (fun o w5 (hg:(wy.alloc o).grownBy w5 (Value.slice Ak 0 ck).ownBlock) v' (own5:w5.ownsRow (w.heap.size+2) 5 1 v' (0+1) (aQ (Lk.map Sp.c)++[.int .u8 (r:Int)]))=>HT3.out.grow hXb rfl hBx (vk:=.slice Ak 0 ck) d2' (by rw[List.length_map,HM.out];exact HR3.out) hg (l':=Lk.map Sp.c++[r]) (v':=v') (by rw[List.length_append,List.length_map,HM.out,rU];exact own5))
      have hsz:wy.heap.size=wc.heap.size:=by rw[← hwy];simp
      have HNW:=Lib.hid (World.news_of_block (w:=wy.alloc (.cells #[.int .u8 (r:Int)] 5)) (cs:=#[.int .u8 (r:Int)]) (t:=5) (fr:=(0,0)) (heap_alloc_new wy _))
      rw[hsz]at HNW hsy
      rw[← hwy]at HG HR3 HNW
      clear HRK HT2 HT3 hQ hsz d2' dfy hwy
      go_wp2_with (at_builtin;refine wpList_append_lies _ rfl _ _ _ rfl (w.heap.size+2) 5 i0 _ 1 1 Tryz.underlying37 hi0 hz0 hz1 hz2 rfl (by omega) (.slice Ak 0 ck) 0 _ rfl (HR3.out.alloc _) ⟨wc.heap.size,0,none⟩ 1 1 [.int .u8 (r:Int)] rfl rfl HNW.out (by simp[Value.oneCell']) (by omega) (by unfold maxLen;omega) (by omega) (by simp;omega) (wc.heap.size+1) (by simp) ?_;intro gg cap w5 hown5 hgrow5 hat5 hlt5;obtain⟨hT5,hc5,hf5⟩:=HG.out _ w5 hgrow5 _ hown5;have HT5:=Lib.hid hT5;clear hgrow5 hat5 hlt5 hown5 hT5)
      go_roundw
      case rel=>exact⟨k+1,by go_num,by omega,by rw[HL2.out,HP2.out,HA1.out,hRb];exact HT5.out⟩
      case measure=>simp[intOf];omega
     ·have HP2:=Lib.hid (show oS x (gD i x a (k+1))=oS x Lk by
       rw[HL1.out,if_pos rfl];exact MU (by rw[HM.out];exact hm0) _)
      have t1:((m:Int)==0)=false:=beq_eq_false_iff_ne.2 (by omega)
      have HR3:=HRK
      have d2':=d2
      have HG:=Lib.hid (fun o w5 (hg:(wc.alloc o).grownBy w5 (Value.slice Ak m ck).ownBlock) v' (own5:w5.ownsRow (w.heap.size+2) 5 1 v' (m+1) (aQ (Lk.map Sp.c)++[.int .u8 (r:Int)]))=>HT2.out.grow hXb hRb hBx (vk:=.slice Ak m ck) (by rw[hRb];exact d2') (by rw[List.length_map,HM.out];exact HR3.out) hg (l':=Lk.map Sp.c++[r]) (v':=v') (by rw[List.length_append,List.length_map,HM.out,rU];exact own5))
      rw[hRb]at HG
      clear HRK HT2
      go_wp2_with (at_builtin;refine wpList_append_lies _ rfl _ _ _ rfl (w.heap.size+2) 5 i0 _ 1 1 Tryz.underlying37 hi0 hz0 hz1 hz2 rfl (by omega) (.slice Ak m ck) m _ rfl (HR3.out.alloc _) ⟨wc.heap.size,0,none⟩ 1 1 [.int .u8 (r:Int)] rfl rfl (World.news_of_block (cs:=#[.int .u8 (r:Int)]) (t:=5) (fr:=(0,0)) (heap_alloc_new wc _)) (by simp[Value.oneCell']) (by omega) (by unfold maxLen;omega) (by omega) (by simp;omega) (wc.heap.size+1) (by simp) ?_;intro gg cap w5 hown5 hgrow5 hat5 hlt5;obtain⟨hT5,hc5,hf5⟩:=HG.out _ w5 hgrow5 _ hown5;have HT5:=Lib.hid hT5;clear hgrow5 hat5 hlt5 hown5 hT5)
      go_roundw
      case rel=>exact⟨k+1,by go_num,by omega,by rw[HL2.out,HP2.out,HA1.out,hRb];exact HT5.out⟩
      case measure=>simp[intOf];omega
  ·obtain rfl:k=n:=by omega
   obtain⟨c0,c1,JY,-,-,lt,bS⟩:=HC.out
   obtain⟨own,hv,hk⟩:=HO.out
   have pS:=H.out.pS
   obtain⟨f1,g0,g1,o1,k1,hF⟩:=VU pS lt JY c0 c1 bS bP own hv hk doff dbox dfb
   have hoS:fA S w wr:=doff.mono (by simp;exact bS)
   have hl2:(Lk.map Sp.c).length=Lk.length:=List.length_map ..
   rw[hl2]at rowk
   obtain⟨m,hm⟩:∃ m,Lk.length=m:=⟨_,rfl⟩
   rw[hm]at rowk hlen
   obtain⟨Ak,ck,rfl,hcm,hnc,hAk⟩:=aW rowk
   rcases Nat.eq_zero_or_pos m with rfl | hm0
   ·have HR:=Lib.hid (show BN w N S P R (tO i x a) (kR i x a x.text.size) (.returned (.tuple #[])) wr from by
     refine⟨rfl,S,R,by rw[HNN.out,HAK.out];exact hF,fun s hs=>.inl hs,hoS,?_⟩
     unfold tO
     rw[HNN.out,HLK.out,List.length_eq_zero_iff.1 hm];simp)
    clear c0 c1 JY lt bS own hv hk pS f1 g0 g1 o1 k1 hF hoS hl2 hAk hcm hnc rowk hm HT H HC HO dbox dfb dx1 dx2 doff dfz dfz' d0 d1 p1 hak hLk
    go_wp2
    go_end0
    exact HR.out
   ·obtain⟨s0,l0,hL0⟩:∃ s0 l0,Lk=s0::l0:=by
     cases hLL:Lk with
     | nil=>rw[hLL]at hm;simp at hm;omega
     | cons s0 l0=>exact⟨s0,l0,rfl⟩
    obtain⟨pl,hpl⟩:∃ pl,oS x Lk=pl:=⟨_,rfl⟩
    rw[hpl]at d1
    have HTR:=Lib.hid (show tO i x a=[⟨i,pl,Lk.map Sp.c⟩] by
     unfold tO
     rw[HNN.out,HLK.out,← hpl,hL0])
    have HFM:=Lib.hid (fun(o:Obj) (w5:World) (gg cap:Nat) hgrow hat hlt own5=>RR (o:=o) (w5:=w5) (gg:=gg) (cap:=cap) (rs:=⟨i,pl,Lk.map Sp.c⟩) (vk:=.slice Ak m ck) (n0:=w.heap.size) pS lt hN (by omega) f1 g0 g1 dbox dfb bS bP hv k1 (fL (by rw[hl2,hm];exact rowk) (by omega)) hgrow hat hlt own5)
    have HOS:=Lib.hid hoS
    have HO1:=Lib.hid o1
    have f10:=f1 0
    have hN2:N≤wr.heap.size:=by omega
    have hPw:P<wr.heap.size:=by omega
    have hRw:w.heap.size+1<wr.heap.size:=by omega
    have HAA:=Lib.hid (show kR i x a x.text.size=ak by rw[HNN.out,HAK.out])
    clear c0 c1 JY lt bS own hv hk pS f1 o1 k1 hF hoS hl2 hAk hcm hnc rowk HT H HC HO dbox dfb dx1 dx2 doff dfz p1 hak hLk hpl hL0 hm
    go_upto_region 12 with fail
    go_region_law
     ((refine step_append_lies _ (by rfl) _ _ _ (by rfl) N 126 j0 _ 3 40 Tryz.underlying73 hj0 gz0 gz1 gz2 rfl (by omega) v R.length _ (by rfl) ((HO1.out.alloc _).drew) ⟨wr.heap.size,0,none⟩ 1 1 [.int .i64 (i:Int),.int .i64 pl,.slice Ak m ck] (by rfl) (by rfl) (World.news_of_block (cs:=#[.int .i64 (i:Int),.int .i64 pl,.slice Ak m ck]) (t:=126) (fr:=(0,0)) (heap_alloc_new wr _)) (by simp[Value.oneCell']) (by omega) (by unfold maxLen;omega) (by omega) (by simp;omega) (wr.heap.size+1) (by simp) ?_;intro gg cap w5 hown5 hgrow5 hat5 hlt5;obtain⟨hf5,ho5,hc5,hz5⟩:=HFM.out _ w5 gg cap ⟨hgrow5.os,hgrow5.tape,hgrow5.output,hgrow5.size,hgrow5.block⟩ hat5 hlt5 (by rw[Ba.cW];exact hown5);have HF5:=Lib.hid hf5;have HO5:=Lib.hid ho5;clear hf5 ho5 hgrow5 hat5 hlt5 hown5))
    all_goals
     have HR:=Lib.hid (show BN w N S P R (tO i x a) (kR i x a x.text.size) (.returned (.tuple #[])) (w5.setCell ⟨P,0,none⟩ (.slice (some ⟨gg,0,none⟩) (R.length+1) cap)) from by
      obtain⟨S',hF,hS⟩:=HF5.out
      exact⟨rfl,S',_,by rw[HAA.out];exact hF,hS,HOS.out.trans HO5.out (fun s hs=>.inl hs),by rw[HTR.out,List.map_append];rfl⟩)
     clear HF5 HO5 HFM HOS HTR HAA HO1
     go_end0
     exact HR.out
end Go.Proofs.YtgpihfacmpbpaaaGreatDoor.Nl
namespace Go.Proofs.YtgpihfacmpbpaaaGreatDoor.Nl
open Go.RowKit Tr Nu
theorem yW (W:World) (g j c:Nat) (x:Nat) (hx:x<256) (h:W.cell? ⟨g,j,none⟩=some (.int .u8 (x:Int))) :
  (convert 37 9 (.slice (some ⟨g,j,none⟩) 1 c)).run Tryz.prog W=.ok (.string (Lx.bytesOf [x])) W:=by
 exact run_convert_bytes_back (P:=Tryz.prog) W 37 9 5 ⟨g,j,none⟩ c [UInt8.ofNat x] Tryz.underlying37 Tryz.underlying5 Tryz.underlying9 (fun k hk=>by
  obtain rfl:k=0:=by simp at hk;omega
  have e:(⟨g,j,none⟩:Addr).add 0=⟨g,j,none⟩:=by unfold Addr.add;split<;>simp_all
  have e3:(UInt8.ofNat x).toNat=x:=by simp[Nat.mod_eq_of_lt hx]
  rw[e]
  simp only[List.getElem_cons_zero,e3,h])
theorem aCX (a b:Nat) (ha:a<256) (hb:b<256):((Lx.bytesOf [a]).toList==(Lx.bytesOf [b]).toList)=decide (a=b):=by
 by_cases h:a=b
 ·subst h;simp
 ·rw[decide_eq_false h]
  refine Ba.wJ (fun e=>h ?_)
  have:=congrArg Lx.aH e
  rw[Lx.eU _ (by simp;exact ha),Lx.eU _ (by simp;exact hb)]at this
  exact List.cons.inj this |>.1
set_option maxHeartbeats 1000000 in
theorem RT (g j c q d:Nat) (x:Nat) (hx:x<256) (y:Nat) (hy:y<256) (z:Bool) (hz:decide (x=y)=z) (w:World) (h1:w.cell? ⟨g,j,none⟩=some (.int .u8 (x:Int))) (h2:w.cell? ⟨q,0,none⟩=some (.int .u8 (y:Int))) :
  Calls Tryz.prog 126 #[.slice (some ⟨g,j,none⟩) 1 c,.slice (some ⟨q,0,none⟩) 1 d] w fun e w'=>e=.returned (.bool z)∧w=w':=by
 have hc1:=yW w g j c x hx h1
 have hc2:=yW w q 0 d y hy h2
 have hq:=(aCX x y hx hy).trans hz
 obtain⟨s1,hs1⟩:∃ s,Lx.bytesOf [x]=s:=⟨_,rfl⟩
 obtain⟨s2,hs2⟩:∃ s,Lx.bytesOf [y]=s:=⟨_,rfl⟩
 rw[hs1]at hc1 hq
 rw[hs2]at hc2 hq
 clear hz hs1 hs2 h1 h2
 go_enter Tryz.func126,Tryz.ntmps126
 go_wp2
 go_ret
 exact⟨rfl,rfl⟩
set_option maxHeartbeats 1000000 in
theorem MV (g j c q d:Nat) (hj:j≤100000) (hjc:j+1≤c) (_hc9:c≤maxLen) (x:Nat) (hx:x<256) (y:Nat) (hy:y<256) (z:Bool) (hz:decide (x=y)=z) (w:World) (h1:w.cell? ⟨g,j,none⟩=some (.int .u8 (x:Int))) (h2:w.cell? ⟨q,0,none⟩=some (.int .u8 (y:Int))) :
  Calls Tryz.prog 118 #[.slice (some ⟨g,0,none⟩) (j+1) c,.slice (some ⟨q,0,none⟩) 1 d] w fun e w'=>e=.returned (.bool z)∧w=w':=by
 have HQ:=Lib.hid (fun c=>RT g j c q d x hx y hy z hz w h1 h2)
 unfold maxLen at _hc9
 have j0:(0:Int)≤(j:Int):=by omega
 clear hz h1 h2
 go_enter Tryz.func118,Tryz.ntmps118
 go_wp2_with fail
 refine(HQ.out _).mono ?_
 rintro e w' ⟨rfl,rfl⟩
 go_wp2
 go_ret
 exact⟨rfl,rfl⟩
set_option maxHeartbeats 1000000 in
theorem VV (g j c q d:Nat) (hj:j≤100000) (hjc:j+1≤c) (hc9:c≤maxLen) (x:Nat) (hx:x<256) (y:Nat) (hy:y<256) (w:World) (h1:w.cell? ⟨g,j,none⟩=some (.int .u8 (x:Int))) (h2:w.cell? ⟨q,0,none⟩=some (.int .u8 (y:Int))) :
  Calls Tryz.prog 105 #[.slice (some ⟨g,0,none⟩) (j+1) c,.slice (some ⟨q,0,none⟩) 1 d] w fun e w'=>e=.returned (.slice (some ⟨g,0,none⟩) (if x=y then j else j+1) c)∧w=w':=by
 have HQ:=Lib.hid (MV g j c q d hj hjc hc9 x hx y hy _ rfl w h1 h2)
 unfold maxLen at hc9
 have j0:(0:Int)≤(j:Int):=by omega
 have j1:(j:Int)≤(c:Int):=by omega
 clear h1 h2
 by_cases h:x=y
 ·rw[if_pos h]
  rw[decide_eq_true h]at HQ
  clear h
  go_enter Tryz.func105,Tryz.ntmps105
  go_wp2_with fail
  refine HQ.out.mono ?_
  rintro e w' ⟨rfl,rfl⟩
  go_wp2
  go_ret
  exact⟨rfl,rfl⟩
 ·rw[if_neg h]
  rw[decide_eq_false h]at HQ
  clear h
  go_enter Tryz.func105,Tryz.ntmps105
  go_wp2_with fail
  refine HQ.out.mono ?_
  rintro e w' ⟨rfl,rfl⟩
  go_wp2
  go_ret
  exact⟨rfl,rfl⟩
def D7 (l:List Nat):List Nat:=if l.getLastD 0=32 then l.dropLast else l
def O4 (r:Rs):Rs:={ r with kept:=D7 r.kept }
def D8 (l:List Rs):List Rs:=match l.getLast? with | some r=>l.dropLast++[O4 r] | none=>[]
theorem pX (l:List Rs) (r:Rs):D8 (l++[r])=l++[O4 r]:=by
 unfold D8
 rw[List.getLast?_concat]
 simp only[]
 rw[List.dropLast_concat]
def VW (w:World) (N:Nat) (S:List Nat) (P:Nat) (R:List (Rs × Value)) (a:Nat) (e:Ending) (w':World):Prop :=
 e=.returned (.tuple #[])∧∃ R',dK w' N S P R' a∧fA S w w'∧R'.map Prod.fst=D8 (R.map Prod.fst)
theorem RU {w w5:World} {N:Nat} {S:List Nat} {P:Nat} {R0:List (Rs × Value)} {r:Rs} {G m cap a:Nat} {g gc:Nat} (h:dK w N S P (R0++[(r,.slice (some ⟨G,0,none⟩) m cap)]) a) (c0:w.cell? ⟨P,0,none⟩=some (.slice (some ⟨g,0,none⟩) (R0.length+1) gc))
  (hw:Below w.heap.size w w5) (j:Nat) (hj:j≤m) :
  dK (w5.setCell ⟨g,R0.length * 3+2,none⟩ (.slice (some ⟨G,0,none⟩) j cap)) N S P (R0++[({ r with kept:=r.kept.take j },.slice (some ⟨G,0,none⟩) j cap)]) a∧fA S w (w5.setCell ⟨g,R0.length * 3+2,none⟩ (.slice (some ⟨G,0,none⟩) j cap)):=by
 obtain⟨pS,lt,JY,v,Bx,d0,d1,cb,fb,bS,bP,own,hv,hk⟩:=h.below hw
 have hc:w5.cell? ⟨P,0,none⟩=some (.slice (some ⟨g,0,none⟩) (R0.length+1) gc):=(World.cell?_of_block (a:=⟨P,0,none⟩) (hw.block P (h.lt P h.pS).2)).trans c0
 rw[d0]at hc
 obtain rfl:=Option.some.inj hc
 have hgS:=(hv g rfl)
 have hset:∀ b,b≠g→(w5.setCell ⟨g,R0.length * 3+2,none⟩ (.slice (some ⟨G,0,none⟩) j cap)).heap[b]?=w5.heap[b]?:=fun b hb=>Below.heap_setCell w5 _ _ b hb
 have hl:(R0++[(r,Value.slice (some ⟨G,0,none⟩) m cap)]).length=R0.length+1:=by simp
 rw[hl]at own
 have hst:=(own.stored (R0.length * 3+2) (.slice (some ⟨G,0,none⟩) j cap)).1
 rw[Ba.gS cR jF _ R0.length (r,.slice (some ⟨G,0,none⟩) m cap) ({ r with kept:=r.kept.take j },.slice (some ⟨G,0,none⟩) j cap) (by simp) 2 _ (by omega) rfl]at hst
 have hrow:(R0++[(r,Value.slice (some ⟨G,0,none⟩) m cap)]).set R0.length ({ r with kept:=r.kept.take j },.slice (some ⟨G,0,none⟩) j cap)=R0++[({ r with kept:=r.kept.take j },.slice (some ⟨G,0,none⟩) j cap)]:=by
  rw[List.set_append_right _ _ (Nat.le_refl _),Nat.sub_self];rfl
 rw[hrow]at hst
 have hlast:=hk (r,.slice (some ⟨G,0,none⟩) m cap) (by simp)
 refine⟨⟨pS,fun s hs=>⟨(lt s hs).1,by have:=(lt s hs).2;simpa using this⟩,fun i=>by rw[World.frozen?_setCell];exact JY i,.slice (some ⟨g,0,none⟩) (R0.length+1) gc,Bx,?_,?_,?_,by rw[World.frozen?_setCell];exact fb,bS,bP,?_,hv,fun p hp=>?_⟩,?_⟩
 ·exact(World.cell?_of_block (a:=⟨P,0,none⟩) (hset P (fun e=>hgS.2.1 e.symm))).trans d0
 ·exact(World.cell?_of_block (a:=⟨P,1,none⟩) (hset P (fun e=>hgS.2.1 e.symm))).trans d1
 ·exact(World.cell?_of_block (a:=⟨Bx,0,none⟩) (hset Bx (fun e=>hgS.2.2 e.symm))).trans cb
 ·have hl2:∀ z:Rs × Value,(R0++[z]).length=R0.length+1:=fun z=>by simp
  rw[hl2]
  exact hst
 ·have far:∀ p ∈ R0++[(r,Value.slice (some ⟨G,0,none⟩) m cap)],∀ b,p.2.ownBlock=some b→b≠g:=fun p hp b hb e=>(hk p hp).2 b hb |>.2.2.2 (by rw[e];rfl)
  rcases List.mem_append.1 hp with h1 | h1
  ·obtain⟨k1,k2⟩:=hk p (List.mem_append_left _ h1)
   exact⟨dY k1 (fun b hb=>hset b (far p (List.mem_append_left _ h1) b hb)),k2⟩
  ·rw[List.mem_singleton]at h1
   subst h1
   obtain⟨k1,k2⟩:=hlast
   have hm:m=r.kept.length:=by
    obtain⟨A,c,e,-⟩:=aW k1
    simp only[Value.slice.injEq]at e
    exact e.2.1
   have k1:w5.ownsRow N 5 1 (.slice (some ⟨G,0,none⟩) m cap) r.kept.length (aQ r.kept):=k1
   rw[← hm]at k1
   have k3:=Ba.oD (n:=1) (m:=j) k1 hj
   simp only[Nat.mul_one]at k3
   refine⟨?_,k2⟩
   have e1:(r.kept.take j).length=j:=by rw[List.length_take,← hm];omega
   have e2:aQ (r.kept.take j)=(aQ r.kept).take j:=by unfold aQ;rw[List.map_take]
   show World.ownsRow _ _ _ _ _ (r.kept.take j).length (aQ (r.kept.take j))
   rw[e1,e2]
   exact dY k3 (fun b hb=>hset b (far (r,.slice (some ⟨G,0,none⟩) m cap) (by simp) b hb))
 ·exact(fA.gC hw).trans (fA.set (S:=S) _ (.inl hgS.1)) (fun s hs=>.inl hs)
set_option maxRecDepth 100000 in
set_option maxHeartbeats 4000000 in
theorem lU {w:World} {N:Nat} {S:List Nat} {P:Nat} {R:List (Rs × Value)} {a:Nat} (h:dK w N S P R a) (hR:R.length≤9000) (hne:∀ p ∈ R,0<p.1.kept.length∧p.1.kept.length≤9000∧∀ b ∈ p.1.kept,b<256) :
  Calls Tryz.prog 74 #[.pointer (some ⟨P,0,none⟩)] w (VW w N S P R a):=by
 rcases List.eq_nil_or_concat R with rfl | ⟨R0,⟨r,vk⟩,rfl⟩
 ·obtain⟨v,Bx,c0,-,-,-,-,-,own,-⟩:=h.mem
  obtain⟨A,c,rfl,-⟩:=aW own
  have HR:=Lib.hid (show VW w N S P [] a (.returned (.tuple #[])) w from ⟨rfl,[],h,fA.refl _ _,rfl⟩)
  have c0':w.cell? ⟨P,0,none⟩=some (.slice A 0 c):=c0
  clear h own c0 hne hR
  go_enter Tryz.func74,Tryz.ntmps74
  go_wp2
  go_end0
  exact HR.out
 ·rw[List.concat_eq_append]at h hR hne ⊢
  obtain⟨v,Bx,c0,-,-,-,-,-,own,hv,hk⟩:=h.mem
  have hl:(R0++[(r,vk)]).length=R0.length+1:=by simp
  rw[hl]at own hR
  obtain⟨A,gc,rfl,hgc,hgc2,hA⟩:=aW own
  obtain⟨g,rfl,-,hg⟩:=hA (by omega)
  obtain⟨k1,k2⟩:=hk (r,vk) (by simp)
  obtain⟨n1,n2,n3⟩:=hne (r,vk) (by simp)
  simp only[]at k1 n1 n2 n3
  obtain⟨AG,cap,hvk,hcap,hcap2,hAG⟩:=aW k1
  obtain⟨G,rfl,-,hG⟩:=hAG n1
  subst hvk
  obtain⟨j,hj⟩:∃ j,r.kept.length=j+1:=⟨r.kept.length - 1,by omega⟩
  obtain⟨b,hb⟩:∃ b,r.kept[j]?=some b:=⟨_,List.getElem?_eq_getElem (by omega)⟩
  have hb256:=n3 b (List.mem_of_getElem? hb)
  have hcb:w.cell? ⟨G,j,none⟩=some (.int .u8 (b:Int)):=by
   rw[k1.cellAt j (by omega)]
   unfold aQ
   rw[List.getElem?_map,hb];rfl
  obtain⟨n,hn⟩:∃ n,R0.length=n:=⟨_,rfl⟩
  have hc2:w.cell? ⟨g,n * 3+2,none⟩=some (.slice (some ⟨G,0,none⟩) (j+1) cap):=by
   rw[← hn,own.cellAt _ (by omega),Ba.cB cR jF _ _ (r,.slice (some ⟨G,0,none⟩) r.kept.length cap) (by simp) 2 (by omega),← hj];rfl
  have hf2:=own.frozenAt (n * 3+2)
  rw[hj]at h
  have HFL:=Lib.hid (fun w5 hw jj hjj=>RU (w5:=w5) h c0 hw jj hjj)
  have HRR:=Lib.hid (show D7 r.kept=r.kept.take (if b=32 then j else j+1) by
   unfold D7
   have hlast:r.kept.getLastD 0=b:=by
    rw[List.getLastD_eq_getLast?,List.getLast?_eq_getElem?,hj,Nat.add_sub_cancel,hb];rfl
   rw[hlast]
   by_cases h32:b=32
   ·rw[if_pos h32,if_pos h32,List.dropLast_eq_take,hj];rfl
   ·rw[if_neg h32,if_neg h32,← hj,List.take_length])
  rw[hn]at c0 hR HFL
  have HTR:=Lib.hid (show D8 ((R0++[(r,Value.slice (some ⟨G,0,none⟩) (j+1) cap)]).map Prod.fst)=R0.map Prod.fst++[O4 r] by
   rw[List.map_append]
   exact pX _ _)
  have HH:=Lib.hid h
  rw[hj]at hcap2 n2 ⊢
  have hgw:g<w.heap.size:=hg
  have hGw:G<w.heap.size:=hG
  have n0:(0:Int)≤(n:Int):=by omega
  clear h own hv hk k1 k2 n1 n3 hA hAG hne hl hj hb hn hgc hG hg
  go_enter Tryz.func74,Tryz.ntmps74
  go_wp2
  go_quiet (fail)
  obtain⟨w1,hw1⟩:∃ w1,w.drewN nq=w1:=⟨_,rfl⟩
  have hB1:Below w.heap.size w w1:=hw1▸Ba.below_drewN (Below.refl _ w) nq
  have hs1:w1.heap.size=w.heap.size:=by rw[← hw1];rfl
  have e2:w1.cell? ⟨g,n * 3+2,none⟩=some (.slice (some ⟨G,0,none⟩) (j+1) cap):=by rw[← hw1];exact hc2
  have ef:w1.frozen? ⟨g,n * 3+2,none⟩=false:=by rw[← hw1];exact hf2
  have hgw1:g<w1.heap.size:=by omega
  have HCB:=Lib.hid (fun(W:World) (hW:Below w.heap.size w W) (q:Nat) (hq:W.cell? ⟨q,0,none⟩=some (.int .u8 32))=>VV G j cap q 1 (by omega) hcap2 hcap b hb256 32 (by omega) W ((World.cell?_of_block (a:=⟨G,j,none⟩) (hW.block G hGw)).trans hcb) hq)
  obtain⟨jj,hjj⟩:∃ jj,(if b=32 then j else j+1)=jj:=⟨_,rfl⟩
  have hjj2:jj≤j+1:=by rw[← hjj];split<;>omega
  rw[hjj]at HRR HCB
  have hB6:Below w.heap.size w (w1.alloc (.cells #[.int .u8 32] 5)):=hB1.alloc (by omega) _
  have HB6:=Lib.hid hB6
  have HCC:=Lib.hid (show (w1.alloc (.cells #[.int .u8 32] 5)).cell? ⟨w1.heap.size,0,none⟩=some (.int .u8 32) by rw[cell_of_row _ _ 0 _ _ (0,0) (heap_alloc_new w1 _)];rfl)
  rw[hw1]
  clear hjj hcb hw1 hc2 hf2 hB1 hB6 hs1
  go_wp2_with fail
  refine(HCB.out _ HB6.out w1.heap.size HCC.out).mono ?_
  rintro e w6 ⟨rfl,rfl⟩
  have HR:=Lib.hid (show VW w N S P (R0++[(r,.slice (some ⟨G,0,none⟩) (j+1) cap)]) a (.returned (.tuple #[])) ((w1.setCell ⟨g,n * 3+2,none⟩ (.slice (some ⟨G,0,none⟩) jj cap)).alloc (.cells #[.int .u8 32] 5)) from by
   obtain⟨h1,h2⟩:=HFL.out _ HB6.out jj hjj2
   rw[World.setCell_alloc_past _ _ _ _ hgw1]at h1 h2
   refine⟨rfl,_,h1,h2,?_⟩
   rw[HTR.out,List.map_append]
   show _++[({ r with kept:=r.kept.take jj }:Rs)]=_
   rw[← HRR.out];rfl)
  go_wp2
  go_end0
  exact HR.out
end Go.Proofs.YtgpihfacmpbpaaaGreatDoor.Nl
