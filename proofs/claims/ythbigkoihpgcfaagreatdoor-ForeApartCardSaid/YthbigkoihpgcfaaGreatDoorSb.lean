/-
  Put together.
-/
import Derived.Test.YthbigkoihpgcfaaGreatDoorRuF
import Derived.Test.YthbigkoihpgcfaaGreatDoorSa
import Derived.Test.YthbigkoihpgcfaaGreatDoorUh
import Derived.Test.YthbigkoihpgcfaaGreatDoorUl
import Derived.Lib.IndexMore
import Derived.WalkKit
import Derived.WalkSpells
import Derived.Lib.Hide
import Derived.Maps.OwnOps
import Derived.Maps.Views
import Derived.Maps.OwnSet
import Derived.DeepKeys4
import Derived.StringKeys
set_option maxRecDepth 100000
set_option maxHeartbeats 16000000
namespace Go.Proofs.YthbigkoihpgcfaaGreatDoor.Ck
open Go.RowKit Ba Ru
theorem O1:dM []=none:=by
 have h:¬ Ce.dN (bytesOf []):=by decide +kernel
 unfold dM
 rw[if_neg (fun k=>h k.2)]
theorem uH {l:List Rl} (A:Acc dM l):∀ x ∈ l,x.cells≠[]:=fun x hx=>BV O1 (A.alone x hx)
def oZ (pr:List Nat→Option (List Nat)) (l:List Rl) (k:Nat):Prop:=l8 pr [] l=l8 pr (l.take k) (l.drop k)
theorem QL (pr:List Nat→Option (List Nat)) (l:List Rl):oZ pr l 0:=rfl
theorem U2 {pr:List Nat→Option (List Nat)} {l:List Rl} {k:Nat} {x:Rl} (hx:l[k]?=some x) (hg:oZ pr l k) (h:eF pr x=false∨∃ y ∈ l.take k,bQ x y=true):l8 pr [] l=some x:=by
 have hd:l.drop k=x::l.drop (k+1):=by
  obtain⟨hk,e⟩:=List.getElem?_eq_some_iff.1 hx
  rw[List.drop_eq_getElem_cons hk,e]
 rw[hg,hd]
 show (if (!eF pr x || (l.take k).any (bQ x))=true then some x else _)=_
 refine if_pos ?_
 rw[Bool.or_eq_true]
 rcases h with h | ⟨y,hy,hc⟩
 ·exact .inl (by rw[h];rfl)
 ·exact .inr (List.any_eq_true.2 ⟨y,hy,hc⟩)
theorem QM {pr:List Nat→Option (List Nat)} {l:List Rl} {k:Nat} {x:Rl} (hx:l[k]?=some x) (hg:oZ pr l k) (ha:eF pr x=true) (hc:∀ y ∈ l.take k,bQ x y=false):oZ pr l (k+1):=by
 have hd:l.drop k=x::l.drop (k+1):=by
  obtain⟨hk,e⟩:=List.getElem?_eq_some_iff.1 hx
  rw[List.drop_eq_getElem_cons hk,e]
 have ht:l.take (k+1)=l.take k++[x]:=by rw[List.take_add_one,hx,Option.toList_some]
 unfold oZ at hg ⊢
 rw[hg,hd,ht]
 show (if (!eF pr x || (l.take k).any (bQ x))=true then some x else _)=_
 refine if_neg ?_
 rw[ha,List.any_eq_false.2 (fun y hy=>by rw[hc y hy];exact Bool.false_ne_true)]
 exact Bool.false_ne_true
theorem U3 {pr:List Nat→Option (List Nat)} {l:List Rl} (hg:oZ pr l l.length):l8 pr [] l=none:=by
 unfold oZ at hg
 rw[hg,List.drop_length]
 rfl
end Go.Proofs.YthbigkoihpgcfaaGreatDoor.Ck
namespace Go.Proofs.YthbigkoihpgcfaaGreatDoor.Ck
open Go.RowKit Ba Ru
def uI (ks:List Nat):Nat:=ks.foldl (fun s k=>s ||| 2 ^ k) 320
def LX (row:Int):List Nat:=if row=1 then [1,2] else if row=2 then [1,3,4] else [7]
def jT (row:Int):Nat:=if 1≤row∧row≤3 then uI (LX row) else 0
theorem GN (row:Int):jT row<512:=by
 unfold jT LX
 split
 ·split
  ·decide
  ·split<;>decide
 ·decide
theorem QQ {z:Int} (h1:1≤z) (h8:z≤8) (row:Int) (x:Rl) (hx:x.aE=z):iL x row=decide ((jT row >>> z.toNat) &&& 1=1):=by
 have hz:z=1∨z=2∨z=3∨z=4∨z=5∨z=6∨z=7∨z=8:=by omega
 unfold iL jT LX
 rw[hx]
 by_cases r:1≤row∧row≤3
 ·rw[if_pos r,decide_eq_true r,Bool.true_and]
  rcases(show row=1∨row=2∨row=3 by omega)with rfl | rfl | rfl<;>rcases hz with rfl | rfl | rfl | rfl | rfl | rfl | rfl | rfl<;>decide
 ·rw[if_neg r,decide_eq_false r,Bool.false_and]
  rcases hz with rfl | rfl | rfl | rfl | rfl | rfl | rfl | rfl<;>decide
theorem QR (k:Nat) (h:9≤k) (row:Int):(jT row >>> k) &&& 1=0:=by
 have:=GN row
 rw[Nat.shiftRight_eq_div_pow,Nat.div_eq_of_lt (Nat.lt_of_lt_of_le this (show 2 ^ 9≤2 ^ k from Nat.pow_le_pow_right (by omega) h))]
 rfl
theorem U6 {x:Rl} (h:x.aE<1∨8<x.aE) (row:Int):iL x row=false:=by
 unfold iL
 rw[Bool.and_eq_false_iff]
 right
 rw[decide_eq_false (by omega),Bool.false_or]
 split
 ·exact decide_eq_false (by omega)
 ·split
  ·exact decide_eq_false (by omega)
  ·exact decide_eq_false (by omega)
def rA (x:Rl) (ns:List (List Nat)):Bool:=decide (x.aE=8) && ns.contains x.left
def BX:List (List Nat):=[[98,108,107],[99,111,110,116],[105,110,100]]
def kT:List (List Nat):=[[110,117,109],[108,101,116]]
theorem QS (x:Rl):jF x=rA x BX:=by
 unfold jF rA BX
 rw[Bool.eq_iff_iff]
 simp
theorem LY (x:Rl):decide (x.aE=8∧(x.left=[110,117,109]∨x.left=[108,101,116]))=rA x kT:=by
 unfold rA kT
 rw[Bool.eq_iff_iff]
 simp
def eB (x:Rl):Nat:=if jF x=true∨x.aE=7∨x.aE=1∧x.left.length=1 then 1 else if rA x kT=true then 2 else 4
theorem aAH {c t:List Nat} (h:dM c=some t):c.length≤4:=by
 unfold dM at h
 split at h
 ·rename_i hk
  have h2:=hk.2.2.1
  have h3:(Ce.bytesOf c).size=c.length:=Ce.aF c
  omega
 ·cases h
theorem aAI {x:Rl} (h:nM dM x=true):1≤x.cells.length∧x.cells.length≤4:=by
 unfold nM at h
 simp only[Bool.and_eq_true]at h
 have h:=h.1.2
 obtain⟨t,ht⟩:=Option.isSome_iff_exists.1 h
 have h4:=aAH ht
 refine⟨?_,h4⟩
 rcases Nat.eq_zero_or_pos x.cells.length with h0 | h0
 ·rw[List.length_eq_zero_iff.1 h0,O1]at ht;cases ht
 ·exact h0
theorem LZ (x:Rl):eF dM x=(nM dM x && decide (x.cells.length≤eB x)):=by
 cases hm:nM dM x with
 | false=>unfold eF;rw[hm,Bool.and_false,Bool.false_and]
 | true =>
  obtain⟨h1,h4⟩:=aAI hm
  have e:decide (x.aE=8∧(x.left=[110,117,109]∨x.left=[108,101,116])∧2<x.cells.length)=(rA x kT && decide (2<x.cells.length)):=by
   rw[← LY,Bool.eq_iff_iff]
   simp[and_assoc]
  unfold eF
  rw[hm,Bool.and_true,Bool.true_and,e]
  unfold eB
  by_cases hk:jF x=true∨x.aE=7∨x.aE=1∧x.left.length=1
  ·rw[if_pos hk]
   have e2:(jF x || decide (x.aE=7∨x.aE=1∧x.left.length=1))=true:=by
    rw[Bool.or_eq_true,decide_eq_true_eq];exact hk
   rw[e2,Bool.true_and]
   by_cases hc:x.cells.length=1
   ·rw[decide_eq_false (p:=x.cells.length≠1) (by omega),decide_eq_false (p:=2<x.cells.length) (by omega),decide_eq_true (p:=x.cells.length≤1) (by omega),Bool.and_false];rfl
   ·rw[decide_eq_true (p:=x.cells.length≠1) hc,decide_eq_false (p:=x.cells.length≤1) (by omega)];rfl
  ·rw[if_neg hk]
   have e2:(jF x || decide (x.aE=7∨x.aE=1∧x.left.length=1))=false:=by
    rw[Bool.eq_false_iff,Ne,Bool.or_eq_true,decide_eq_true_eq];exact hk
   rw[e2,Bool.false_and,Bool.not_false,Bool.true_and]
   by_cases hs:rA x kT=true
   ·rw[if_pos hs,hs,Bool.true_and]
    by_cases h2:2<x.cells.length
    ·rw[decide_eq_true h2,decide_eq_false (by omega)];rfl
    ·rw[decide_eq_false h2,decide_eq_true (by omega)];rfl
   ·rw[if_neg hs,show rA x kT=false by simpa using hs,Bool.false_and,decide_eq_true h4];rfl
def kU (x y:Rl):Bool:=decide (x.aE=y.aE) && decide (x.left=y.left)
def uJ (x y:Rl):Bool:=decide (x.aE=5) && (decide (y.aE=5) && decide (x.cells=y.cells))
def GO (x y:Rl):Bool:=kR x y || (decide (x.aE=8) && decide (y.aE=5))
def rI (x y:Rl):Bool:=if jF x=true then fF x.cells y.cells else x.cells.isPrefixOf y.cells && GO x y
theorem BY {a b:List Nat} (h:a.isPrefixOf b=true):fF a b=true:=by
 unfold fF
 rw[List.any_eq_true]
 exact⟨0,by rw[List.mem_range];omega,by rw[List.drop_zero];exact h⟩
theorem GP (x y:Rl):bQ x y=(kU x y || (uJ x y || (rI x y || rI y x))):=by
 have e1:decide (x.aE=y.aE∧x.left=y.left)=kU x y:=by unfold kU;rw[Bool.eq_iff_iff];simp
 have e2:decide (x.aE=5∧y.aE=5∧x.cells=y.cells)=uJ x y:=by unfold uJ;rw[Bool.eq_iff_iff];simp
 have e3:decide (x.aE=8∧y.aE=5)=(decide (x.aE=8) && decide (y.aE=5)):=by rw[Bool.eq_iff_iff];simp
 have e4:decide (y.aE=8∧x.aE=5)=(decide (y.aE=8) && decide (x.aE=5)):=by rw[Bool.eq_iff_iff];simp
 have e5:kR y x=kR x y:=by unfold kR;rw[Bool.and_comm (iL y 1),Bool.and_comm (iL y 2),Bool.and_comm (iL y 3)]
 have p1:x.cells.isPrefixOf y.cells=true→fF x.cells y.cells=true:=BY
 have p2:y.cells.isPrefixOf x.cells=true→fF y.cells x.cells=true:=BY
 unfold bQ rI GO oX
 rw[e1,e2,e3,e4,e5]
 generalize kU x y=a
 generalize uJ x y=b
 generalize kR x y=r
 generalize x.cells.isPrefixOf y.cells=p at p1 ⊢
 generalize y.cells.isPrefixOf x.cells=q at p2 ⊢
 generalize fF x.cells y.cells=u at p1 ⊢
 generalize fF y.cells x.cells=v at p2 ⊢
 generalize jF x=k
 generalize jF y=l
 generalize (decide (x.aE=8) && decide (y.aE=5))=s
 generalize (decide (y.aE=8) && decide (x.aE=5))=t
 clear e1 e2 e3 e4 e5
 revert a b r p q u v k l s t
 decide +kernel
theorem GQ (s t:ByteArray):Lib.contains s.data.toList t.data.toList=fF (aA t) (aA s):=by
 have pre:∀ (a b:List UInt8),(a.map UInt8.toNat).isPrefixOf (b.map UInt8.toNat)=a.isPrefixOf b:=by
  intro a
  induction a with
  | nil=>intro b;rfl
  | cons x a ih =>
   intro b
   cases b with
   | nil=>rfl
   | cons y b =>
    show (x.toNat==y.toNat && (a.map UInt8.toNat).isPrefixOf (b.map UInt8.toNat))=(x==y && a.isPrefixOf b)
    rw[ih]
    congr 1
    rw[Bool.eq_iff_iff,beq_iff_eq,beq_iff_eq]
    exact UInt8.toNat_inj
 have at_:∀ i,(aA t).isPrefixOf ((aA s).drop i)=Lib.occAt s.data.toList t.data.toList i:=fun i=>by
  unfold aA Lib.occAt
  rw[← List.map_drop,pre]
 unfold Lib.contains fF
 rcases Lib.index_spec s.data.toList t.data.toList with⟨h1,h2⟩ | ⟨i,h1,h2,h3,-⟩
 ·rw[h1,decide_eq_false (by decide)]
  symm
  rw[List.any_eq_false]
  intro i hi
  rw[List.mem_range,aD]at hi
  rw[at_,h2 i (by
   have:s.data.toList.length=s.size:=by rw[Array.length_toList];rfl
   omega)]
  exact Bool.false_ne_true
 ·rw[h1,decide_eq_true (by omega)]
  symm
  rw[List.any_eq_true]
  refine⟨i,?_,by rw[at_];exact h3⟩
  rw[List.mem_range,aD]
  have:s.data.toList.length=s.size:=by rw[Array.length_toList];rfl
  omega
def rJ:List (List Nat):=(List.range 26).map fun i=>[97+i]
def o9 (w:Int × List Nat):Rl:=⟨w.1,w.2,[],0,0⟩
def GR:List Rl:=fM.map o9
def eG (k:Int) (ls:List (List Nat)):List Rl:=ls.map fun s=>⟨k,s,[],0,0⟩
theorem L0:GR=eG 1 rJ++(eG 6 (Ka.fZ.map fun c=>[c])++(eG 7 ((List.range 10).map fun i=>[48+i])++eG 8 bX)):=by decide +kernel
theorem GS:GR.length=61:=by decide +kernel
theorem QT (l:List Rl) (w:Int × List Nat):(l.any fun y=>kU (o9 w) y)=hasB l w:=by
 unfold hasB
 congr 1
 funext y
 unfold kU o9
 rw[Bool.eq_iff_iff]
 simp only[Bool.and_eq_true,decide_eq_true_eq]
 exact⟨fun h=>⟨h.1.symm,h.2.symm⟩,fun h=>⟨h.1.symm,h.2.symm⟩⟩
end Go.Proofs.YthbigkoihpgcfaaGreatDoor.Ck
namespace Go.Proofs.YthbigkoihpgcfaaGreatDoor.Ck
open Go.RowKit Ba Ru
end Go.Proofs.YthbigkoihpgcfaaGreatDoor.Ck
namespace Go.Proofs.YthbigkoihpgcfaaGreatDoor.Ck
open Go.RowKit Ba Ru
end Go.Proofs.YthbigkoihpgcfaaGreatDoor.Ck
namespace Go.Proofs.YthbigkoihpgcfaaGreatDoor.Ck
open Go.RowKit Ba Ru
end Go.Proofs.YthbigkoihpgcfaaGreatDoor.Ck
namespace Go.Proofs.YthbigkoihpgcfaaGreatDoor.Ck
open Go.RowKit Ba Ru
def a7 (w:World) (b:Nat) (q:Int) (S T:ByteArray) (p n:Int):Prop :=
 w.cell? ⟨b,0,none⟩=some (.int .i64 q)∧w.cell? ⟨b,1,none⟩=some (.string S)∧w.cell? ⟨b,2,none⟩=some (.string T)∧w.cell? ⟨b,3,none⟩=some (.int .i64 p)∧w.cell? ⟨b,4,none⟩=some (.int .i64 n)∧b<w.heap.size
theorem a7.below {w w':World} {b:Nat} {q:Int} {S T:ByteArray} {p n:Int} {B:Nat} (h:a7 w b q S T p n) (hb:Below B w w') (hB:b<B):a7 w' b q S T p n :=
 ⟨(hb.cell (p:=⟨b,0,none⟩) hB).trans h.1,(hb.cell (p:=⟨b,1,none⟩) hB).trans h.2.1,(hb.cell (p:=⟨b,2,none⟩) hB).trans h.2.2.1,(hb.cell (p:=⟨b,3,none⟩) hB).trans h.2.2.2.1,(hb.cell (p:=⟨b,4,none⟩) hB).trans h.2.2.2.2.1,Nat.lt_of_lt_of_le h.2.2.2.2.2 hb.size⟩
theorem a7.kept {w w':World} {b:Nat} {q:Int} {S T:ByteArray} {p n:Int} (h:a7 w b q S T p n) (hb:Below w.heap.size w w'):a7 w' b q S T p n:=h.below hb h.2.2.2.2.2
theorem a7.new (w:World) (q:Int) (S T:ByteArray) (p n:Int) (t:TypeId):a7 (w.alloc (.cells #[.int .i64 q,.string S,.string T,.int .i64 p,.int .i64 n] t)) w.heap.size q S T p n:=by
 refine⟨?_,?_,?_,?_,?_,?_⟩<;>simp
end Go.Proofs.YthbigkoihpgcfaaGreatDoor.Ck
namespace Go.Proofs.YthbigkoihpgcfaaGreatDoor.Ru
open Go.RowKit Ba
theorem wD {l:List Rl} {g off:Nat} {w:World} (hcell:∀ k x,l[k]?=some x→∀ j u,(cR x)[j]?=some u→w.cell? ⟨g,off+(k * 5+j),none⟩=some u) (k:Nat) (x:Rl) (hx:l[k]?=some x) :
  w.cell? ⟨g,off+k * 5,none⟩=some (.int .i64 x.aE)∧w.cell? ⟨g,off+k * 5+1,none⟩=some (.string (bytesOf x.left))∧w.cell? ⟨g,off+k * 5+2,none⟩=some (.string (bytesOf x.cells))∧w.cell? ⟨g,off+k * 5+3,none⟩=some (.int .i64 x.prio)∧w.cell? ⟨g,off+k * 5+4,none⟩=some (.int .i64 x.line):=by
 have h:=fun j u hu=>hcell k x hx j u hu
 exact⟨h 0 _ rfl,h 1 _ rfl,h 2 _ rfl,h 3 _ rfl,h 4 _ rfl⟩
theorem xB {a b:List Nat} (ha:∀ x ∈ a,x<256) (hb:∀ x ∈ b,x<256) (h:bytesOf a=bytesOf b):a=b:=by
 rw[← aB a ha,← aB b hb,h]
theorem B4:(Tryz.prog.info? 48).map (fun i=>(i.zero,i.size,i.bytes))=some (some (.agg #[.int .i64 0,.string { data:=#[] },.string { data:=#[] },.int .i64 0,.int .i64 0]),5,56):=by kernel_rfl
theorem uK (l:List Rl) (x:Rl):rows cR (l++[x])=rows cR l++[.int .i64 x.aE,.string (bytesOf x.left),.string (bytesOf x.cells),.int .i64 x.prio,.int .i64 x.line]:=by rw[kJ];rfl
end Go.Proofs.YthbigkoihpgcfaaGreatDoor.Ru
namespace Go.Proofs.YthbigkoihpgcfaaGreatDoor.Ti
open Go.RowKit Ba Ru Ck
def mY (o:Option Nat):Int:=match o with | some k=>((k:Nat):Int) | none=>0
def okV (o:Option Nat):Bool:=o.isSome
end Go.Proofs.YthbigkoihpgcfaaGreatDoor.Ti
namespace Go.Proofs.YthbigkoihpgcfaaGreatDoor.Ti
open Go.RowKit Go.Maps Ba Ru Ck
def Y6:DataW Unit:=.lit (.int .i64 0)
theorem FN (w:World):(zeroValue 3).run Tryz.prog w=.ok (.int .i64 0) w:=by kernel_rfl
structure jE {κ:Type} (K T:TypeId) (enc:κ→Value) (dom:κ→Prop):Prop where
 law:Keyed Tryz.prog K
 under:Tryz.prog.underlying T=some (.map K 3)
 key:∀ k,dom k→∃ l,keyOf Tryz.prog K (enc k)=some l
 inj:∀ k k',dom k→dom k'→enc k=enc k'→k=k'
section
variable {κ:Type} {K T:TypeId} {enc:κ→Value} {dom:κ→Prop} {w:World} {B n:Nat} {g:κ→Option Nat}
def aY (K:TypeId) (enc:κ→Value) (dom:κ→Prop) (w:World) (B n:Nat) (g:κ→Option Nat):Prop :=
 ∃ D:DataW Unit,w.ownsMap Tryz.prog K (plainElem Tryz.prog 3) B n D∧Maps.size D=n∧∀ k,dom k→∀ l,keyOf Tryz.prog K (enc k)=some l→Maps.has D l=okV (g k)∧D.atKey l Y6=.lit (.int .i64 (mY (g k)))
theorem aY.of_block {w':World} (h:aY K enc dom w B n g) (hb:w'.heap[B]?=w.heap[B]?):aY K enc dom w' B n g:=by
 obtain⟨D,⟨es,clock,h1,h2⟩,h3⟩:=h
 exact⟨D,⟨es,clock,hb.trans h1,h2⟩,h3⟩
theorem aY.lt (h:aY K enc dom w B n g):B<w.heap.size:=by
 obtain⟨D,h1,_⟩:=h
 exact h1.lt
theorem aY.new (K:TypeId) (enc:κ→Value) (dom:κ→Prop) (w:World):aY K enc dom (w.alloc (.map #[] 0)) w.heap.size 0 fun _=>none :=
 ⟨_,World.ownsMap_made w _ _ _,rfl,fun _ _ _ _=>⟨rfl,rfl⟩⟩
theorem aY.alike {g':κ→Option Nat} (h:aY K enc dom w B n g) (hg:∀ k,dom k→g k=g' k):aY K enc dom w B n g':=by
 obtain⟨D,h1,h2,h3⟩:=h
 exact⟨D,h1,h2,fun k hk l hl=>by rw[← hg k hk];exact h3 k hk l hl⟩
theorem aY.look (h:aY K enc dom w B n g) (KK:jE K T enc dom) {k:κ} (hk:dom k) :
  (Instr.lookup T (.map (some B)) (enc k) true).run Tryz.prog w=.ok (.tuple #[.int .i64 (mY (g k)),.bool (okV (g k))]) w:=by
 obtain⟨D,h1,-,h3⟩:=h
 obtain⟨l,hl⟩:=KK.key k hk
 obtain⟨v,ps,hr,hv⟩:=h1.look_ok KK.law KK.under (FN w) (plainElem_int Tryz.underlying3 (a:=0) (by decide)) hl
 obtain⟨c,rfl,hc,_⟩:=plainElem_int_inv Tryz.underlying3 hv
 obtain⟨e1,e2⟩:=h3 k hk l hl
 have hc:=congrArg Prod.fst hc
 unfold Y6 at e2
 simp only[e2,DataW.lit.injEq,Lit.int.injEq,true_and]at hc
 rw[e1]at hr
 rw[hr,← hc]
theorem aY.count (h:aY K enc dom w B n g) (KK:jE K T enc dom) (ty:TypeId):(Builtin.len_ #[T] ty #[.map (some B)]).run Tryz.prog w=.ok (.int .i64 (n:Int)) w:=by
 obtain⟨D,h1,h2,-⟩:=h
 rw[h1.len KK.under ty,h2]
def TW [DecidableEq κ] (g:κ→Option Nat) (x:κ) (r:Nat):κ→Option Nat:=fun y=>if y=x then some r else g y
theorem aY.put [DecidableEq κ] (h:aY K enc dom w B n g) (KK:jE K T enc dom) (hn:n<maxLen) {k:κ} (hk:dom k) (hg:g k=none) {r:Nat} (hr:r≤maxLen) :
  ∃ w',(Instr.mapUpdate T (.map (some B)) (enc k) (.int .i64 (r:Int))).run Tryz.prog w=.ok () w'∧aY K enc dom w' B (n+1) (TW g k r)∧w.grownBy w' (some B):=by
 obtain⟨D,h1,h2,h3⟩:=h
 obtain⟨l,hl⟩:=KK.key k hk
 unfold maxLen at hr
 obtain⟨w',e1,e2,e3⟩:=h1.update KK.law KK.under hn hl (plainElem_int Tryz.underlying3 (a:=(r:Int)) (WalkArith.wf_i64 (by omega)))
 obtain⟨f1,-⟩:=h3 k hk l hl
 refine⟨w',e1,⟨_,e2,?_,fun y hy m hm=>?_⟩,e3⟩
 ·rw[size_put (h1.tidy KK.law),f1,hg,h2];rfl
 ·unfold TW
  by_cases he:y=k
  ·subst he
   rw[hl]at hm
   cases hm
   rw[if_pos rfl]
   exact⟨Maps.has_put_same h1.isMap (KK.law.key hl) _,Maps.atKey_put_same h1.isMap (KK.law.key hl) _ _⟩
  ·rw[if_neg he]
   have hne:m≠l:=fun e=>he (KK.inj y k hy hk (KK.law.inj (e▸hm) hl))
   rw[Maps.has_put_other hne,Maps.atKey_put_other hne]
   exact h3 y hy m hm
end
theorem laidOut:laidOutB Tryz.prog=true:=by kernel_rfl
theorem FO:∃ d,Tryz.prog.types.size+1=d+2:=⟨_,rfl⟩
theorem wf8 {a:Nat} (ha:a<256):(Lit.int .u8 (a:Int)).wf=true:=by
 have h:∀ k:Fin 256,(Lit.int .u8 ((k.val:Nat):Int)).wf=true:=by decide +kernel
 exact h ⟨a,ha⟩
def KR (x:Nat × Nat):Value:=.agg #[.int .i64 (x.1:Int),.int .u8 (x.2:Int)]
def KS (x:Nat × Nat):Prop:=x.1≤maxLen∧x.2<256
theorem aCE:(127:TypeId)<Tryz.prog.types.size:=of_decide_eq_true (by kernel_rfl)
theorem Y7:(match Tryz.prog.underlying 127 with | some (.array _ _) | some (.struct _)=>true | _=>false)=true:=by rw[Tryz.underlying127]
theorem aCF:Tryz.prog.keyTypeAt 2 127=true:=by kernel_rfl
theorem Y8:Tryz.prog.keyType 127=true:=by kernel_rfl
theorem aEH:Tryz.prog.cellsOf 127=2:=by kernel_rfl
theorem Y9:Tryz.prog.cellsOf 3=1:=by kernel_rfl
theorem FP:Tryz.prog.cellsOf 5=1:=by kernel_rfl
theorem pF:Tryz.prog.cellsOf 9=1:=by kernel_rfl
theorem nJ:jE 127 57 KR KS where
 law:=Keyed.of_law (deep_law_laid laidOut (m:=2) (by omega) aCE aCF Y7)
 under:=Tryz.underlying57
 key:=fun x hx=>by
  obtain⟨d,hd⟩:=FO
  have h1:(Lit.int .i64 (x.1:Int)).wf=true:=WalkArith.wf_i64 (by have:=hx.1;unfold maxLen at this;omega)
  have h2:=wf8 hx.2
  unfold keyOf KR
  rw[Tryz.underlying127]
  simp only[Y8,hd]
  simp[Value.formed,Tryz.underlying127,aEH,Program.keyLits,Tryz.underlying3,Tryz.underlying5,Y9,FP,h1,h2,Value.cells]
 inj:=fun x y _ _ e=>by
  unfold KR at e
  simp at e
  exact Prod.ext (by omega) (by omega)
def lH (x:Int × List Nat):Value:=.agg #[.int .i64 x.1,.string (bytesOf x.2)]
def pT (x:Int × List Nat):Prop:=oI x.1∧x.2.length≤maxLen∧∀ b ∈ x.2,b<256
theorem ZA:(96:TypeId)<Tryz.prog.types.size:=of_decide_eq_true (by kernel_rfl)
theorem T3:(match Tryz.prog.underlying 96 with | some (.array _ _) | some (.struct _)=>true | _=>false)=true:=by rw[Tryz.underlying96]
theorem ZB:Tryz.prog.keyTypeAt 2 96=true:=by kernel_rfl
theorem ZC:Tryz.prog.keyType 96=true:=by kernel_rfl
theorem bJ:Tryz.prog.cellsOf 96=2:=by kernel_rfl
theorem tN (s:List Nat):(bytesOf s).size=s.length:=by simp[bytesOf,ByteArray.size]
theorem DM:jE 96 56 lH pT where
 law:=Keyed.of_law (deep_law_laid laidOut (m:=2) (by omega) ZA ZB T3)
 under:=Tryz.underlying56
 key:=fun x hx=>by
  obtain⟨d,hd⟩:=FO
  have h1:(Lit.int .i64 x.1).wf=true:=WalkArith.wf_i64 (by have:=hx.1;unfold oI at this;omega)
  have h2:(bytesOf x.2).size≤maxLen:=by rw[tN];exact hx.2.1
  unfold keyOf lH
  rw[Tryz.underlying96]
  simp only[ZC,hd]
  simp[Value.formed,Tryz.underlying96,bJ,Program.keyLits,Tryz.underlying3,Tryz.underlying9,Y9,pF,h1,h2,Value.cells]
 inj:=fun x y hx hy e=>by
  unfold lH at e
  simp only[Value.agg.injEq,Array.mk.injEq,List.cons.injEq,Value.int.injEq,Value.string.injEq,true_and,and_true]at e
  exact Prod.ext e.1 (xB hx.2.2 hy.2.2 e.2)
def pS (s:List Nat):Value:=.string (bytesOf s)
def tM (s:List Nat):Prop:=s.length≤maxLen∧∀ b ∈ s,b<256
theorem KX:jE 9 55 pS tM where
 law:=string_keyed Tryz.underlying9
 under:=Tryz.underlying55
 key:=fun s hs=>⟨_,WideMaps.keyOf_string_mk Tryz.underlying9 (by rw[tN];exact hs.1)⟩
 inj:=fun x y hx hy e=>by
  unfold pS at e
  exact xB hx.2 hy.2 (by simpa using e)
def FM (p:Nat):Value:=.int .i64 (p:Int)
def sC (p:Nat):Prop:=p≤maxLen
theorem vO:jE 3 58 FM sC where
 law:=int_keyed Tryz.underlying3
 under:=Tryz.underlying58
 key:=fun p hp=>⟨_,keyOf_int_mk Tryz.underlying3 (WalkArith.wf_i64 (by unfold sC maxLen at hp;omega))⟩
 inj:=fun x y _ _ e=>by
  unfold FM at e
  simp at e
  omega
end Go.Proofs.YthbigkoihpgcfaaGreatDoor.Ti
