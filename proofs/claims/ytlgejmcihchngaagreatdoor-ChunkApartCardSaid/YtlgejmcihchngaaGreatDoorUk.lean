/-
  Put together: CkB, CkP.
-/
import Derived.Test.YtlgejmcihchngaaGreatDoorUh
import Derived.Test.YtlgejmcihchngaaGreatDoorUl
import Derived.Lib.IndexMore
namespace Go.Proofs.YtlgejmcihchngaaGreatDoor.Ck
open Go.RowKit Ba Ru
theorem begins_size {a b:ByteArray} (h:bytesN a <+: bytesN b):a.size≤b.size:=by
 rw[← bytesN_len,← bytesN_len];exact h.length_le
theorem begins_iff (a b:ByteArray):b.extract 0 a.size=a↔bytesN a <+: bytesN b:=by
 constructor
 ·intro h
  rw[← h,bytesN_ext,List.drop_zero]
  exact List.take_prefix _ _
 ·intro h
  apply bytes_ext
  rw[bytesN_ext,List.drop_zero,Nat.sub_zero,← bytesN_len]
  exact(List.prefix_iff_eq_take.1 h).symm
theorem begins_is (a b:ByteArray):(decide (a.size≤b.size) && decide (b.extract 0 a.size=a))=(bytesN a).isPrefixOf (bytesN b):=by
 rw[Bool.eq_iff_iff,Bool.and_eq_true,decide_eq_true_eq,decide_eq_true_eq,List.isPrefixOf_iff_prefix,begins_iff]
 exact⟨fun h=>h.2,fun h=>⟨begins_size h,h⟩⟩
theorem prC_nil:prC []=none:=by
 have h:¬ Ce.printOK (bytesOf []):=by decide +kernel
 unfold prC
 rw[if_neg (fun k=>h k.2)]
theorem acc_cells {l:List Rl} (A:Acc prC l):∀ x ∈ l,x.cells≠[]:=fun x hx=>may_cells prC_nil (A.alone x hx)
def withinFrom (a b:List Nat) (i:Nat):Bool:=((List.range (b.length+1)).drop i).any fun i=>a.isPrefixOf (b.drop i)
theorem within_zero (a b:List Nat):withinFrom a b 0=withinB a b:=rfl
theorem within_step (a b:List Nat) (i:Nat) (h:i≤b.length):withinFrom a b i=(a.isPrefixOf (b.drop i) || withinFrom a b (i+1)):=by
 unfold withinFrom
 have hi:i<(List.range (b.length+1)).length:=by rw[List.length_range];omega
 rw[List.drop_eq_getElem_cons hi,List.any_cons,List.getElem_range]
theorem within_end (a b:List Nat):withinFrom a b (b.length+1)=false:=by
 unfold withinFrom
 rw[List.drop_of_length_le (by rw[List.length_range];exact Nat.le_refl _)]
 rfl
theorem has_cons (x:Rl) (l:List Rl) (w:Int × List Nat):hasB (x::l) w=(decide (x.what=w.1∧x.left=w.2) || hasB l w):=rfl
def goodTo (pr:List Nat→Option (List Nat)) (l:List Rl) (k:Nat):Prop:=badF pr [] l=badF pr (l.take k) (l.drop k)
theorem good_zero (pr:List Nat→Option (List Nat)) (l:List Rl):goodTo pr l 0:=rfl
theorem bad_here {pr:List Nat→Option (List Nat)} {l:List Rl} {k:Nat} {x:Rl} (hx:l[k]?=some x) (hg:goodTo pr l k) (h:aloneB pr x=false∨∃ y ∈ l.take k,clashB x y=true):badF pr [] l=some x:=by
 have hd:l.drop k=x::l.drop (k+1):=by
  obtain⟨hk,e⟩:=List.getElem?_eq_some_iff.1 hx
  rw[List.drop_eq_getElem_cons hk,e]
 rw[hg,hd]
 show (if (!aloneB pr x || (l.take k).any (clashB x))=true then some x else _)=_
 refine if_pos ?_
 rw[Bool.or_eq_true]
 rcases h with h | ⟨y,hy,hc⟩
 ·exact .inl (by rw[h];rfl)
 ·exact .inr (List.any_eq_true.2 ⟨y,hy,hc⟩)
theorem good_step {pr:List Nat→Option (List Nat)} {l:List Rl} {k:Nat} {x:Rl} (hx:l[k]?=some x) (hg:goodTo pr l k) (ha:aloneB pr x=true) (hc:∀ y ∈ l.take k,clashB x y=false):goodTo pr l (k+1):=by
 have hd:l.drop k=x::l.drop (k+1):=by
  obtain⟨hk,e⟩:=List.getElem?_eq_some_iff.1 hx
  rw[List.drop_eq_getElem_cons hk,e]
 have ht:l.take (k+1)=l.take k++[x]:=by rw[List.take_add_one,hx,Option.toList_some]
 unfold goodTo at hg ⊢
 rw[hg,hd,ht]
 show (if (!aloneB pr x || (l.take k).any (clashB x))=true then some x else _)=_
 refine if_neg ?_
 rw[ha,List.any_eq_false.2 (fun y hy=>by rw[hc y hy];exact Bool.false_ne_true)]
 exact Bool.false_ne_true
theorem good_end {pr:List Nat→Option (List Nat)} {l:List Rl} (hg:goodTo pr l l.length):badF pr [] l=none:=by
 unfold goodTo at hg
 rw[hg,List.drop_length]
 rfl
end Go.Proofs.YtlgejmcihchngaaGreatDoor.Ck
namespace Go.Proofs.YtlgejmcihchngaaGreatDoor.Ck
open Go.RowKit Ba Ru
def setN (ks:List Nat):Nat:=ks.foldl (fun s k=>s ||| 2 ^ k) 320
def whatsL (row:Int):List Nat:=if row=1 then [1,2] else if row=2 then [1,3,4] else [7]
def whatsN (row:Int):Nat:=if 1≤row∧row≤3 then setN (whatsL row) else 0
theorem whats_lt (row:Int):whatsN row<512:=by
 unfold whatsN whatsL
 split
 ·split
  ·decide
  ·split<;>decide
 ·decide
theorem bit_small {z:Int} (h1:1≤z) (h8:z≤8) (row:Int) (x:Rl) (hx:x.what=z):inB x row=decide ((whatsN row >>> z.toNat) &&& 1=1):=by
 have hz:z=1∨z=2∨z=3∨z=4∨z=5∨z=6∨z=7∨z=8:=by omega
 unfold inB whatsN whatsL
 rw[hx]
 by_cases r:1≤row∧row≤3
 ·rw[if_pos r,decide_eq_true r,Bool.true_and]
  rcases(show row=1∨row=2∨row=3 by omega)with rfl | rfl | rfl<;>rcases hz with rfl | rfl | rfl | rfl | rfl | rfl | rfl | rfl<;>decide
 ·rw[if_neg r,decide_eq_false r,Bool.false_and]
  rcases hz with rfl | rfl | rfl | rfl | rfl | rfl | rfl | rfl<;>decide
theorem bit_great (k:Nat) (h:9≤k) (row:Int):(whatsN row >>> k) &&& 1=0:=by
 have:=whats_lt row
 rw[Nat.shiftRight_eq_div_pow,Nat.div_eq_of_lt (Nat.lt_of_lt_of_le this (show 2 ^ 9≤2 ^ k from Nat.pow_le_pow_right (by omega) h))]
 rfl
theorem inB_no {x:Rl} (h:x.what<1∨8<x.what) (row:Int):inB x row=false:=by
 unfold inB
 rw[Bool.and_eq_false_iff]
 right
 rw[decide_eq_false (by omega),Bool.false_or]
 split
 ·exact decide_eq_false (by omega)
 ·split
  ·exact decide_eq_false (by omega)
  ·exact decide_eq_false (by omega)
def signB (x:Rl) (ns:List (List Nat)):Bool:=decide (x.what=8) && ns.contains x.left
def keptL:List (List Nat):=[[98,108,107],[99,111,110,116],[105,110,100]]
def shortL:List (List Nat):=[[110,117,109],[108,101,116]]
theorem kept_sign (x:Rl):keptB x=signB x keptL:=by
 unfold keptB signB keptL
 rw[Bool.eq_iff_iff]
 simp
theorem short_sign (x:Rl):decide (x.what=8∧(x.left=[110,117,109]∨x.left=[108,101,116]))=signB x shortL:=by
 unfold signB shortL
 rw[Bool.eq_iff_iff]
 simp
def mostN (x:Rl):Nat:=if keptB x=true∨x.what=7∨x.what=1∧x.left.length=1 then 1 else if signB x shortL=true then 2 else 4
theorem prC_few {c t:List Nat} (h:prC c=some t):c.length≤4:=by
 unfold prC at h
 split at h
 ·rename_i hk
  have h2:=hk.2.2.1
  have h3:(Ce.bytesOf c).size=c.length:=Ce.bytesOf_size c
  omega
 ·cases h
theorem may_few {x:Rl} (h:mayR prC x=true):1≤x.cells.length∧x.cells.length≤4:=by
 unfold mayR at h
 simp only[Bool.and_eq_true]at h
 have h:=h.1.2
 obtain⟨t,ht⟩:=Option.isSome_iff_exists.1 h
 have h4:=prC_few ht
 refine⟨?_,h4⟩
 rcases Nat.eq_zero_or_pos x.cells.length with h0 | h0
 ·rw[List.length_eq_zero_iff.1 h0,prC_nil]at ht;cases ht
 ·exact h0
theorem alone_most (x:Rl):aloneB prC x=(mayR prC x && decide (x.cells.length≤mostN x)):=by
 cases hm:mayR prC x with
 | false=>unfold aloneB;rw[hm,Bool.and_false,Bool.false_and]
 | true =>
  obtain⟨h1,h4⟩:=may_few hm
  have e:decide (x.what=8∧(x.left=[110,117,109]∨x.left=[108,101,116])∧2<x.cells.length)=(signB x shortL && decide (2<x.cells.length)):=by
   rw[← short_sign,Bool.eq_iff_iff]
   simp[and_assoc]
  unfold aloneB
  rw[hm,Bool.and_true,Bool.true_and,e]
  unfold mostN
  by_cases hk:keptB x=true∨x.what=7∨x.what=1∧x.left.length=1
  ·rw[if_pos hk]
   have e2:(keptB x || decide (x.what=7∨x.what=1∧x.left.length=1))=true:=by
    rw[Bool.or_eq_true,decide_eq_true_eq];exact hk
   rw[e2,Bool.true_and]
   by_cases hc:x.cells.length=1
   ·rw[decide_eq_false (p:=x.cells.length≠1) (by omega),decide_eq_false (p:=2<x.cells.length) (by omega),decide_eq_true (p:=x.cells.length≤1) (by omega),Bool.and_false];rfl
   ·rw[decide_eq_true (p:=x.cells.length≠1) hc,decide_eq_false (p:=x.cells.length≤1) (by omega)];rfl
  ·rw[if_neg hk]
   have e2:(keptB x || decide (x.what=7∨x.what=1∧x.left.length=1))=false:=by
    rw[Bool.eq_false_iff,Ne,Bool.or_eq_true,decide_eq_true_eq];exact hk
   rw[e2,Bool.false_and,Bool.not_false,Bool.true_and]
   by_cases hs:signB x shortL=true
   ·rw[if_pos hs,hs,Bool.true_and]
    by_cases h2:2<x.cells.length
    ·rw[decide_eq_true h2,decide_eq_false (by omega)];rfl
    ·rw[decide_eq_false h2,decide_eq_true (by omega)];rfl
   ·rw[if_neg hs,show signB x shortL=false by simpa using hs,Bool.false_and,decide_eq_true h4];rfl
def aboutB (x y:Rl):Bool:=decide (x.what=y.what) && decide (x.left=y.left)
def wordsB (x y:Rl):Bool:=decide (x.what=5) && (decide (y.what=5) && decide (x.cells=y.cells))
def nearB (x y:Rl):Bool:=rowsB x y || (decide (x.what=8) && decide (y.what=5))
def hidesB (x y:Rl):Bool:=if keptB x=true then withinB x.cells y.cells else x.cells.isPrefixOf y.cells && nearB x y
theorem within_of {a b:List Nat} (h:a.isPrefixOf b=true):withinB a b=true:=by
 unfold withinB
 rw[List.any_eq_true]
 exact⟨0,by rw[List.mem_range];omega,by rw[List.drop_zero];exact h⟩
theorem clash_hides (x y:Rl):clashB x y=(aboutB x y || (wordsB x y || (hidesB x y || hidesB y x))):=by
 have e1:decide (x.what=y.what∧x.left=y.left)=aboutB x y:=by unfold aboutB;rw[Bool.eq_iff_iff];simp
 have e2:decide (x.what=5∧y.what=5∧x.cells=y.cells)=wordsB x y:=by unfold wordsB;rw[Bool.eq_iff_iff];simp
 have e3:decide (x.what=8∧y.what=5)=(decide (x.what=8) && decide (y.what=5)):=by rw[Bool.eq_iff_iff];simp
 have e4:decide (y.what=8∧x.what=5)=(decide (y.what=8) && decide (x.what=5)):=by rw[Bool.eq_iff_iff];simp
 have e5:rowsB y x=rowsB x y:=by unfold rowsB;rw[Bool.and_comm (inB y 1),Bool.and_comm (inB y 2),Bool.and_comm (inB y 3)]
 have p1:x.cells.isPrefixOf y.cells=true→withinB x.cells y.cells=true:=within_of
 have p2:y.cells.isPrefixOf x.cells=true→withinB y.cells x.cells=true:=within_of
 unfold clashB hidesB nearB overB
 rw[e1,e2,e3,e4,e5]
 generalize aboutB x y=a
 generalize wordsB x y=b
 generalize rowsB x y=r
 generalize x.cells.isPrefixOf y.cells=p at p1 ⊢
 generalize y.cells.isPrefixOf x.cells=q at p2 ⊢
 generalize withinB x.cells y.cells=u at p1 ⊢
 generalize withinB y.cells x.cells=v at p2 ⊢
 generalize keptB x=k
 generalize keptB y=l
 generalize (decide (x.what=8) && decide (y.what=5))=s
 generalize (decide (y.what=8) && decide (x.what=5))=t
 clear e1 e2 e3 e4 e5
 revert a b r p q u v k l s t
 decide +kernel
theorem contains_is (s t:ByteArray):Lib.contains s.data.toList t.data.toList=withinB (bytesN t) (bytesN s):=by
 have pre:∀ (a b:List UInt8),(a.map UInt8.toNat).isPrefixOf (b.map UInt8.toNat)=a.isPrefixOf b:=by
  intro a
  induction a with
  | nil=>intro b;rfl
  | cons x a ih =>
   intro b
   cases b with
   | nil=>rfl
   | cons y b =>
    show (x.toNat==y.toNat && (a.map UInt8.toNat).isPrefixOf (b.map UInt8.toNat))=(x==y && a.isPrefixOf b)
    rw[ih]
    congr 1
    rw[Bool.eq_iff_iff,beq_iff_eq,beq_iff_eq]
    exact UInt8.toNat_inj
 have at_:∀ i,(bytesN t).isPrefixOf ((bytesN s).drop i)=Lib.occAt s.data.toList t.data.toList i:=fun i=>by
  unfold bytesN Lib.occAt
  rw[← List.map_drop,pre]
 unfold Lib.contains withinB
 rcases Lib.index_spec s.data.toList t.data.toList with⟨h1,h2⟩ | ⟨i,h1,h2,h3,-⟩
 ·rw[h1,decide_eq_false (by decide)]
  symm
  rw[List.any_eq_false]
  intro i hi
  rw[List.mem_range,bytesN_len]at hi
  rw[at_,h2 i (by
   have:s.data.toList.length=s.size:=by rw[Array.length_toList];rfl
   omega)]
  exact Bool.false_ne_true
 ·rw[h1,decide_eq_true (by omega)]
  symm
  rw[List.any_eq_true]
  refine⟨i,?_,by rw[at_];exact h3⟩
  rw[List.mem_range,bytesN_len]
  have:s.data.toList.length=s.size:=by rw[Array.length_toList];rfl
  omega
def leftsL:List (List Nat):=(List.range 26).map fun i=>[97+i]
def wantRl (w:Int × List Nat):Rl:=⟨w.1,w.2,[],0,0⟩
def wantR:List Rl:=wantL.map wantRl
def eachR (k:Int) (ls:List (List Nat)):List Rl:=ls.map fun s=>⟨k,s,[],0,0⟩
theorem want_parts:wantR=eachR 1 leftsL++(eachR 6 (Ka.markL.map fun c=>[c])++(eachR 7 ((List.range 10).map fun i=>[48+i])++eachR 8 namesL)):=by decide +kernel
theorem want_len:wantR.length=61:=by decide +kernel
theorem about_has (l:List Rl) (w:Int × List Nat):(l.any fun y=>aboutB (wantRl w) y)=hasB l w:=by
 unfold hasB
 congr 1
 funext y
 unfold aboutB wantRl
 rw[Bool.eq_iff_iff]
 simp only[Bool.and_eq_true,decide_eq_true_eq]
 exact⟨fun h=>⟨h.1.symm,h.2.symm⟩,fun h=>⟨h.1.symm,h.2.symm⟩⟩
end Go.Proofs.YtlgejmcihchngaaGreatDoor.Ck
