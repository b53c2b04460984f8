/-
  Put together.
-/
import Derived.Test.YthbigkoihpgcfaaGreatDoorSj
import Derived.Test.YthbigkoihpgcfaaGreatDoorUa
import Derived.Test.YthbigkoihpgcfaaGreatDoorUb
import Derived.Test.YthbigkoihpgcfaaGreatDoorWa
import Derived.Deep.Onto
import Derived.BigQuiet
set_option maxRecDepth 100000
set_option maxHeartbeats 16000000
namespace Go.Proofs.YthbigkoihpgcfaaGreatDoor.Cu
open Go.RowKit Ba Ru Ck Ti Pa Fl
theorem kL (l:List Rl):∀ (n i:Nat) (b:Bool) (t:List Tk),(bM l n i b t).length≤4 * t.length
 | 0,i,b,t=>Nat.zero_le _
 | n+1,i,b,[]=>Nat.zero_le _
 | n+1,i,b,x::t=>by
  rw[mW]
  by_cases hl:aJ x=true
  ·rw[if_pos hl]
   have h1:=kL l n (i+((x::t).takeWhile aJ).length) false ((x::t).dropWhile aJ)
   have h2:((x::t).takeWhile aJ).length+((x::t).dropWhile aJ).length=(x::t).length:=by
    rw[← List.length_append,List.takeWhile_append_dropWhile]
   have h0:0<((x::t).takeWhile aJ).length:=by
    rw[List.takeWhile_cons,if_pos hl]
    simp
   have h3:(runN l (fA ((x::t).takeWhile aJ)) i).length≤3 * ((x::t).takeWhile aJ).length:=by
    have:=yW l (fA ((x::t).takeWhile aJ)) i (fA ((x::t).takeWhile aJ)).length 0
    have e:(fA ((x::t).takeWhile aJ)).length=((x::t).takeWhile aJ).length:=by unfold fA;rw[List.length_map]
    unfold runN
    rw[e]at this ⊢
    omega
   rw[List.length_append,List.length_append]
   have h4:(if b=true then [(⟨aG l 8 eX,i,0⟩:Pc)] else []).length≤1:=by split<;>simp
   omega
  ·rw[if_neg hl]
   have h1:=kL l n (i+1) true t
   have h2:=kL l n (i+1) false t
   rw[List.length_cons]
   split
   ·rw[List.length_append,List.length_cons]
    have h4:(if b=true then [] else [(⟨aG l 8 jH,i,0⟩:Pc)]).length≤1:=by split<;>simp
    omega
   ·split
    ·rw[List.length_cons];omega
    ·rw[List.length_cons];omega
end Go.Proofs.YthbigkoihpgcfaaGreatDoor.Cu
namespace Go.Proofs.YthbigkoihpgcfaaGreatDoor.Cu
open Go.RowKit Ba Ru Ck Ti Pa Fl
def bY:List Nat→List Tk
 | []=>[]
 | [c]=>[⟨1,c,0⟩]
 | c::d::r=>if c=43∨c=126 then ⟨if c=126 then 3 else 2,d,0⟩::bY r else ⟨1,c,0⟩::bY (d::r)
theorem aDM:(Tryz.prog.info? 37).map (fun i=>(i.zero,i.size,i.bytes))=some (some (.agg #[.int .i64 0,.int .u8 0,.int .i64 0]),3,24):=by kernel_rfl
def pD (l:List Tk):List Value:=Ba.rows cT l
theorem kX (l:List Tk) (k:Int) (c:Nat):pD (l++[⟨k,c,0⟩])=pD l++[.int .i64 k,.int .u8 (c:Int),.int .i64 0]:=by
 unfold pD Ba.rows
 rw[List.flatMap_append]
 rfl
theorem VT {s:List Nat} {j c d:Nat} (h0:s[j]?=some c) (h1:s[j+1]?=some d) (hc:c=43∨c=126):bY (s.drop j)=⟨if c=126 then 3 else 2,d,0⟩::bY (s.drop (j+2)):=by
 obtain⟨a,ea⟩:=List.getElem?_eq_some_iff.1 h0
 obtain⟨b,eb⟩:=List.getElem?_eq_some_iff.1 h1
 rw[List.drop_eq_getElem_cons a,List.drop_eq_getElem_cons b,ea,eb]
 show (if _ then _ else _)=_
 rw[if_pos hc]
theorem VU {s:List Nat} {j c:Nat} (h0:s[j]?=some c) (hc:¬ ((c=43∨c=126)∧j+1<s.length)):bY (s.drop j)=⟨1,c,0⟩::bY (s.drop (j+1)):=by
 obtain⟨a,ea⟩:=List.getElem?_eq_some_iff.1 h0
 rw[List.drop_eq_getElem_cons a,ea]
 by_cases hb:j+1<s.length
 ·rw[List.drop_eq_getElem_cons hb]
  show (if _ then _ else _)=_
  rw[if_neg fun k=>hc ⟨k,hb⟩]
 ·rw[List.drop_of_length_le (by omega)]
  rfl
theorem RI (S:ByteArray) (hS:S.size≤2000) (w:World) :
  Calls Tryz.prog 70 #[.string S] w fun e w'=>∃ v',e=.returned v'∧w'.ownsRow w.heap.size 37 3 v' (bY (aA S)).length (pD (bY (aA S)))∧Below w.heap.size w w':=by
 obtain⟨i0,hi0,hz0,hz1,hz2⟩:=info_parts aDM
 have hsl:=aD S
 have HSL:=Lib.hid hsl
 clear hsl
 have HAT:=Lib.hid (fun(k:Nat) (h:k<S.size)=>show (aA S)[k]?=some (aV S k) from by
  have h2:k<(aA S).length:=by rw[HSL.out];exact h
  unfold aV
  rw[List.getD_eq_getElem?_getD,List.getElem?_eq_getElem h2]
  rfl)
 go_enter Tryz.func70,Tryz.ntmps70
 go_wp2
 go_loopw [3,4] (fun v i wr=>∃ (j:Nat) (ds:List Tk),i=.int .i64 (j:Int)∧j≤S.size∧bY (aA S)=ds++bY ((aA S).drop j)∧ds.length≤j∧wr.ownsRow w.heap.size 37 3 v ds.length (pD ds)∧Below w.heap.size w wr) (fun _ i _=>S.size - (intOf i).toNat)
 case atStart=>exact⟨0,[],rfl,Nat.zero_le _,rfl,Nat.zero_le _,World.ownsRow_nil _ _ _ _,Below.refl _ _⟩
 case round =>
  obtain⟨j,ds,rfl,hj,hsp,hdl,how,hBr⟩:=hrel
  have HSP:=Lib.hid hsp
  have HOW:=Lib.hid how
  have HBR:=Lib.hid hBr
  have hsz:=hBr.size
  clear hsp how hBr
  by_cases hlt:j<S.size
  rotate_left
  ·have HE:=Lib.hid (show bY (aA S)=ds from by
    rw[HSP.out,List.drop_of_length_le (by rw[HSL.out];omega)]
    exact List.append_nil _)
   have t1:decide ((j:Int)<(S.size:Int))=false:=decide_eq_false (by omega)
   have t1':decide (j<S.size)=false:=decide_eq_false hlt
   go_wp2
   go_ret
   rw[HE.out]
   exact⟨_,rfl,HOW.out,HBR.out⟩
  have t1:decide ((j:Int)<(S.size:Int))=true:=decide_eq_true (by omega)
  have t1':decide (j<S.size)=true:=decide_eq_true hlt
  have j0:(0:Int)≤(j:Int):=by omega
  have j1:(j:Int)<(S.size:Int):=by omega
  have E1:=bP S j hlt
  have hA0:=HAT.out j hlt
  have y1:IntKind.i64.wrap ((j:Int)+1)=(j:Int)+1:=IntWalk.i64_in _ ⟨by omega,by omega⟩
  obtain⟨c,hc⟩:∃ c,aV S j=c:=⟨_,rfl⟩
  rw[hc]at E1 hA0
  clear hc
  by_cases hgo:(c=43∨c=126)∧j+1<S.size
  ·obtain⟨hc,hlt2⟩:=hgo
   have E2:=bP S (j+1) hlt2
   have HTW:=Lib.hid (VT hA0 (HAT.out (j+1) hlt2) hc)
   obtain⟨d,hd⟩:∃ d,aV S (j+1)=d:=⟨_,rfl⟩
   rw[hd]at E2 HTW
   clear hd
   have t2:decide ((j:Int)+1<(S.size:Int))=true:=decide_eq_true (by omega)
   have t2':decide (j+1<S.size)=true:=decide_eq_true hlt2
   have y2:IntKind.i64.wrap ((j:Int)+1+1)=(j:Int)+1+1:=IntWalk.i64_in _ ⟨by omega,by omega⟩
   have z0:(0:Int)≤(j:Int)+1:=by omega
   have z1:(j:Int)+1<(S.size:Int):=by omega
   have z2:((j:Int)+1).toNat=j+1:=by omega
   have E2':((S[((j:Int)+1).toNat]'(by omega)).toNat:Nat)=d:=by simp only[z2];exact E2
   by_cases h43:c=43
   ·subst h43
    have HN:=Lib.hid (show bY (aA S)=(ds++[⟨2,d,0⟩])++bY ((aA S).drop (j+2)) from by
     rw[HSP.out,HTW.out,List.append_assoc]
     rfl)
    clear hc hA0
    go_wp2_with (at_builtin;refine wpList_append_own _ rfl _ _ 23 rfl w.heap.size 37 i0 _ 3 24 Tryz.underlying23 hi0 hz0 hz1 hz2 rfl (by decide) _ _ _ rfl (HOW.out.alloc _) ⟨_,0,none⟩ 1 1 [.int .i64 2,.int .u8 (d:Int),.int .i64 0] rfl rfl (World.news_of_block (cs:=#[.int .i64 2,.int .u8 (d:Int),.int .i64 0]) (t:=37) (fr:=(0,0)) (heap_alloc_new _ _)) (by simp[Value.oneCell']) (by unfold maxLen;omega) (by omega) (by simp;omega) ?_;intro v' w8 hown' hgrow _;have HFF:=Lib.hid (show w8.ownsRow w.heap.size 37 3 v' (ds++[(⟨2,d,0⟩:Tk)]).length (pD (ds++[⟨2,d,0⟩]))∧Below w.heap.size w w8 from ⟨by rw[kX,List.length_append];exact hown',(HBR.out.alloc hsz _).grown hgrow (by simp;omega) (fun q eq=>(HOW.out.lt q eq).1)⟩);clear hown' hgrow)
    go_roundw
    case rel=>exact⟨j+2,ds++[⟨2,d,0⟩],by go_num,by omega,HN.out,by rw[List.length_append,List.length_singleton];omega,HFF.out.1,HFF.out.2⟩
    case measure=>simp[intOf];omega
   ·obtain rfl:c=126:=by omega
    have HN:=Lib.hid (show bY (aA S)=(ds++[⟨3,d,0⟩])++bY ((aA S).drop (j+2)) from by
     rw[HSP.out,HTW.out,List.append_assoc]
     rfl)
    clear hc hA0 h43
    go_wp2_with (at_builtin;refine wpList_append_own _ rfl _ _ 23 rfl w.heap.size 37 i0 _ 3 24 Tryz.underlying23 hi0 hz0 hz1 hz2 rfl (by decide) _ _ _ rfl (HOW.out.alloc _) ⟨_,0,none⟩ 1 1 [.int .i64 3,.int .u8 (d:Int),.int .i64 0] rfl rfl (World.news_of_block (cs:=#[.int .i64 3,.int .u8 (d:Int),.int .i64 0]) (t:=37) (fr:=(0,0)) (heap_alloc_new _ _)) (by simp[Value.oneCell']) (by unfold maxLen;omega) (by omega) (by simp;omega) ?_;intro v' w8 hown' hgrow _;have HFF:=Lib.hid (show w8.ownsRow w.heap.size 37 3 v' (ds++[(⟨3,d,0⟩:Tk)]).length (pD (ds++[⟨3,d,0⟩]))∧Below w.heap.size w w8 from ⟨by rw[kX,List.length_append];exact hown',(HBR.out.alloc hsz _).grown hgrow (by simp;omega) (fun q eq=>(HOW.out.lt q eq).1)⟩);clear hown' hgrow)
    go_roundw
    case rel=>exact⟨j+2,ds++[⟨3,d,0⟩],by go_num,by omega,HN.out,by rw[List.length_append,List.length_singleton];omega,HFF.out.1,HFF.out.2⟩
    case measure=>simp[intOf];omega
  ·have HN:=Lib.hid (show bY (aA S)=(ds++[⟨1,c,0⟩])++bY ((aA S).drop (j+1)) from by
    rw[HSP.out,VU hA0 (by rw[HSL.out];exact hgo),List.append_assoc]
    rfl)
   have t2:decide ((j:Int)+1<(S.size:Int))=decide (j+1<S.size):=by rw[decide_eq_decide];omega
   clear hA0
   by_cases h43:c=43
   ·subst h43
    have t3:decide (j+1<S.size)=false:=decide_eq_false fun k=>hgo ⟨.inl rfl,k⟩
    rw[t3]at t2
    clear hgo
    go_wp2_with (at_builtin;refine wpList_append_own _ rfl _ _ 23 rfl w.heap.size 37 i0 _ 3 24 Tryz.underlying23 hi0 hz0 hz1 hz2 rfl (by decide) _ _ _ rfl (HOW.out.alloc _) ⟨_,0,none⟩ 1 1 [.int .i64 1,.int .u8 ((43:Nat):Int),.int .i64 0] rfl rfl (World.news_of_block (cs:=#[.int .i64 1,.int .u8 ((43:Nat):Int),.int .i64 0]) (t:=37) (fr:=(0,0)) (heap_alloc_new _ _)) (by simp[Value.oneCell']) (by unfold maxLen;omega) (by omega) (by simp;omega) ?_;intro v' w8 hown' hgrow _;have HFF:=Lib.hid (show w8.ownsRow w.heap.size 37 3 v' (ds++[(⟨1,43,0⟩:Tk)]).length (pD (ds++[⟨1,43,0⟩]))∧Below w.heap.size w w8 from ⟨by rw[kX,List.length_append];exact hown',(HBR.out.alloc hsz _).grown hgrow (by simp;omega) (fun q eq=>(HOW.out.lt q eq).1)⟩);clear hown' hgrow)
    go_roundw
    case rel=>exact⟨j+1,ds++[⟨1,43,0⟩],by go_num,by omega,HN.out,by rw[List.length_append,List.length_singleton];omega,HFF.out.1,HFF.out.2⟩
    case measure=>simp[intOf];omega
   ·have c1:((c:Int)==43)=false:=beq_eq_false_iff_ne.2 (by omega)
    by_cases h126:c=126
    ·subst h126
     have t3:decide (j+1<S.size)=false:=decide_eq_false fun k=>hgo ⟨.inr rfl,k⟩
     rw[t3]at t2
     clear hgo h43 c1
     go_wp2_with (at_builtin;refine wpList_append_own _ rfl _ _ 23 rfl w.heap.size 37 i0 _ 3 24 Tryz.underlying23 hi0 hz0 hz1 hz2 rfl (by decide) _ _ _ rfl (HOW.out.alloc _) ⟨_,0,none⟩ 1 1 [.int .i64 1,.int .u8 ((126:Nat):Int),.int .i64 0] rfl rfl (World.news_of_block (cs:=#[.int .i64 1,.int .u8 ((126:Nat):Int),.int .i64 0]) (t:=37) (fr:=(0,0)) (heap_alloc_new _ _)) (by simp[Value.oneCell']) (by unfold maxLen;omega) (by omega) (by simp;omega) ?_;intro v' w8 hown' hgrow _;have HFF:=Lib.hid (show w8.ownsRow w.heap.size 37 3 v' (ds++[(⟨1,126,0⟩:Tk)]).length (pD (ds++[⟨1,126,0⟩]))∧Below w.heap.size w w8 from ⟨by rw[kX,List.length_append];exact hown',(HBR.out.alloc hsz _).grown hgrow (by simp;omega) (fun q eq=>(HOW.out.lt q eq).1)⟩);clear hown' hgrow)
     go_roundw
     case rel=>exact⟨j+1,ds++[⟨1,126,0⟩],by go_num,by omega,HN.out,by rw[List.length_append,List.length_singleton];omega,HFF.out.1,HFF.out.2⟩
     case measure=>simp[intOf];omega
    ·have c2:((c:Int)==126)=false:=beq_eq_false_iff_ne.2 (by omega)
     clear hgo h43 h126 t2
     go_wp2_with (at_builtin;refine wpList_append_own _ rfl _ _ 23 rfl w.heap.size 37 i0 _ 3 24 Tryz.underlying23 hi0 hz0 hz1 hz2 rfl (by decide) _ _ _ rfl (HOW.out.alloc _) ⟨_,0,none⟩ 1 1 [.int .i64 1,.int .u8 (c:Int),.int .i64 0] rfl rfl (World.news_of_block (cs:=#[.int .i64 1,.int .u8 (c:Int),.int .i64 0]) (t:=37) (fr:=(0,0)) (heap_alloc_new _ _)) (by simp[Value.oneCell']) (by unfold maxLen;omega) (by omega) (by simp;omega) ?_;intro v' w8 hown' hgrow _;have HFF:=Lib.hid (show w8.ownsRow w.heap.size 37 3 v' (ds++[(⟨1,c,0⟩:Tk)]).length (pD (ds++[⟨1,c,0⟩]))∧Below w.heap.size w w8 from ⟨by rw[kX,List.length_append];exact hown',(HBR.out.alloc hsz _).grown hgrow (by simp;omega) (fun q eq=>(HOW.out.lt q eq).1)⟩);clear hown' hgrow)
     go_roundw
     case rel=>exact⟨j+1,ds++[⟨1,c,0⟩],by go_num,by omega,HN.out,by rw[List.length_append,List.length_singleton];omega,HFF.out.1,HFF.out.2⟩
     case measure=>simp[intOf];omega
end Go.Proofs.YthbigkoihpgcfaaGreatDoor.Cu
namespace Go.Proofs.YthbigkoihpgcfaaGreatDoor.Cu
open Go.RowKit Ba Ru Ck Ti Pa Fl
theorem qF {A:Option Addr} {n c:Nat} (h1:n≤c) (h2:c≤maxLen):lS (.slice A n c):=fun A' n' c' e=>by
 injection e with _ e1 e2
 subst e1;subst e2
 exact⟨h1,h2⟩
def rQ (t:List Tk):Int:=if bB t=true then 0 else 1
def PF (l:List Rl) (t:List Tk):List Pc:=if bB t=true then j6 l t else []
end Go.Proofs.YthbigkoihpgcfaaGreatDoor.Cu
namespace Go.Proofs.YthbigkoihpgcfaaGreatDoor.Da
open Go.RowKit Ba Ru Ck Ti Pa Fl Cu
theorem CU (v:Value) (l:List Rl) (off:Nat) (_hl:l.length≤maxLen) (w:World) (B:Nat) (hv:dZ off w B v l) (b:Bool) (hb:yK l=b) :
  Calls Tryz.prog 6 #[v] w fun e w'=>e=.returned (.bool b)∧w'=w:=by
 obtain⟨A,c,rfl,hA⟩:=hv
 have HA:=Lib.hid hA;clear hA
 have HB:=Lib.hid hb;clear hb
 go_enter Tryz.func6,Tryz.ntmps6
 by_cases h450:450<l.length
 ·have HV:=Lib.hid (show true=b by rw[← HB.out];unfold yK;rw[decide_eq_true h450,Bool.true_or])
  go_wp2
  go_ret
  rw[← HV.out]
  exact⟨rfl,rfl⟩
 have t450:decide (450<(l.length:Int))=false:=decide_eq_false (by omega)
 have h451:l.length≤450:=by omega
 clear h450
 go_wp2
 go_loopw [3] (fun i wr=>∃ k:Nat,k≤l.length∧i=.int .i64 k∧(∀ x ∈ l.take k,sO x=false)∧wr=w) (fun i _=>l.length - (intOf i).toNat)
 case atStart=>exact⟨0,by omega,rfl,fun x hx=>by simp at hx,rfl⟩
 case round =>
  obtain⟨k,hk,rfl,hN,rfl⟩:=hrel
  by_cases hlt:k<l.length
  ·obtain⟨g,rfl,-,hg⟩:=HA.out (by omega)
   obtain⟨x,hx⟩:∃ x,l[k]?=some x:=⟨_,List.getElem?_eq_getElem hlt⟩
   obtain⟨-,g1,g2,-,-⟩:=wD hg k x hx
   have s1:(bytesOf x.left).size=x.left.length:=aF _
   have s2:(bytesOf x.cells).size=x.cells.length:=aF _
   have HX:=Lib.hid hx
   obtain⟨L,hL⟩:∃ L,bytesOf x.left=L:=⟨_,rfl⟩
   obtain⟨C,hC⟩:∃ C,bytesOf x.cells=C:=⟨_,rfl⟩
   rw[hL]at g1 s1
   rw[hC]at g2 s2
   have hyes:sO x=true→true=b:=fun h=>by
    rw[← HB.out];unfold yK
    rw[List.any_eq_true.2 ⟨x,List.mem_of_getElem? hx,h⟩,Bool.or_true]
   have hno:sO x=false→∀ y ∈ l.take (k+1),sO y=false:=fun h y hy=>by
    rw[List.take_add_one,HX.out,List.mem_append]at hy
    rcases hy with hy | hy
    ·exact hN y hy
    ·rw[Option.toList_some,List.mem_singleton]at hy
     rw[hy];exact h
   clear hg hx hL hC hN HA
   by_cases c1:50<L.size
   ·have HV:=Lib.hid (hyes (by unfold sO;rw[decide_eq_true (by omega),Bool.true_or]))
    clear hyes hno s1 s2
    go_wp2
    go_ret
    rw[← HV.out]
    exact⟨rfl,rfl⟩
   ·have u1:decide (50<(L.size:Int))=false:=decide_eq_false (by omega)
    by_cases c2:50<C.size
    ·have HV:=Lib.hid (hyes (by unfold sO;rw[decide_eq_true (p:=50<x.cells.length) (by omega),Bool.or_true]))
     clear hyes hno s1 s2 c1
     go_wp2
     go_ret
     rw[← HV.out]
     exact⟨rfl,rfl⟩
    ·have u2:decide (50<(C.size:Int))=false:=decide_eq_false (by omega)
     have HV:=Lib.hid (hno (by unfold sO;rw[decide_eq_false (by omega),decide_eq_false (by omega)];rfl))
     clear hyes hno s1 s2 c1 c2
     go_wp2
     go_roundw
     case rel=>exact⟨k+1,by omega,by go_num,HV.out,trivial⟩
     case measure=>simp[intOf];omega
  ·obtain rfl:k=l.length:=by omega
   rw[List.take_length]at hN
   have HV:=Lib.hid (show false=b by
    rw[← HB.out];unfold yK
    rw[decide_eq_false (by omega),List.any_eq_false.2 (fun x hx=>by rw[hN x hx];exact Bool.false_ne_true)];rfl)
   clear hN
   go_wp2
   go_ret
   rw[← HV.out]
   exact⟨rfl,rfl⟩
theorem I7:∀ {xs:List (List Nat)},(∀ a ∈ xs,∀ x ∈ a,x<256)→∀ x ∈ oK xs,x<256
 | [],_,x,hx=>by cases hx
 | [a],h,x,hx=>h a (List.mem_cons_self ..) x hx
 | a::b::r,h,x,hx=>by
  have hx:x ∈ a++0::oK (b::r):=hx
  rw[List.mem_append,List.mem_cons]at hx
  rcases hx with hx | rfl | hx
  ·exact h a (List.mem_cons_self ..) x hx
  ·decide
  ·exact I7 (fun c hc=>h c (List.mem_cons_of_mem _ hc)) x hx
theorem CV {l:List Rl} (A:Acc dM l) (t:List Tk):∀ x ∈ pF l t,x<256:=I7 fun a ha x hx=>by
 obtain⟨c,-,rfl⟩:=List.mem_map.1 ha
 unfold cC at hx
 split at hx
 ·obtain⟨q,-,hq⟩:=List.mem_flatMap.1 hx
  cases ho:l[q.rule]? with
  | none=>rw[ho]at hq;cases hq
  | some y =>
   rw[ho]at hq
   have:=(xU A y (List.mem_of_getElem? ho) x hq).2
   omega
 ·cases hx
theorem I8 (T:bT) (Q:PK T) (HAW0:∀ W:World,bH W→Calls Tryz.prog 7 #[] W fun e w'=>e=.returned (.bool true)∧Below W.heap.size W w') (l:List Rl) (A:Option Addr) (off c:Nat) (ta:List Tk) (A1:Option Addr) (o1 c1:Nat) (tb:List Tk) (A2:Option Addr) (o2 c2:Nat) (w:World) (hL:bH w) (hcl:l.length≤c) (hcm:c≤maxLen) (hf:∀ x ∈ l,eN x) (hl:dZ off w w.heap.size (.slice A l.length c) l)
  (_ha1:ta.length≤c1) (_ha2:c1≤maxLen) (haf:iC ta) (har:bW o1 w w.heap.size (.slice A1 ta.length c1) ta) (_hb1:tb.length≤c2) (_hb2:c2≤maxLen) (hbf:iC tb) (hbr:bW o2 w w.heap.size (.slice A2 tb.length c2) tb) :
  Calls Tryz.prog 5 #[.slice A l.length c,.slice A1 ta.length c1,.slice A2 tb.length c2] w fun e w'=>e=.returned (.bool true)∧Below w.heap.size w w':=by
 have HAF:=Lib.hid haf
 have HAR:=Lib.hid har
 have HBF:=Lib.hid hbf
 have HBR:=Lib.hid hbr
 clear haf har hbf hbr
 obtain⟨na,hna⟩:∃ n,ta.length=n:=⟨_,rfl⟩
 obtain⟨nb,hnb⟩:∃ n,tb.length=n:=⟨_,rfl⟩
 rw[hna]at HAR ⊢
 rw[hnb]at HBR ⊢
 have HNA:=Lib.hid hna
 have HNB:=Lib.hid hnb
 have HCA:=Lib.hid (qF (A:=A1) (show na≤c1 from hna▸_ha1) _ha2)
 have HCB:=Lib.hid (qF (A:=A2) (show nb≤c2 from hnb▸_hb1) _hb2)
 clear hna hnb
 have HL:=Lib.hid hL
 have HV:=Lib.hid hl
 have hlm:l.length≤maxLen:=Nat.le_trans hcl hcm
 have HF:=Lib.hid hf
 have HCAP:=Lib.hid (show lS (.slice A l.length c) from fun A' n' c' e=>by
  injection e with _ e1 e2
  subst e1;subst e2
  exact⟨hcl,hcm⟩)
 clear hL hl hf hcm hcl
 obtain⟨nl,hnl⟩:∃ nl,l.length=nl:=⟨_,rfl⟩
 rw[hnl]at HV HCAP hlm ⊢
 have HNL:=Lib.hid hnl
 clear hnl
 obtain⟨lb,hlb⟩:∃ lb,yK l=lb:=⟨_,rfl⟩
 have HLB:=Lib.hid hlb
 clear hlb
 have HAW:=Lib.hid HAW0
 clear HAW0
 go_enter Tryz.func5,Tryz.ntmps5
 cases lb
 case true =>
  go_wp2_with fail
  refine(CU _ l off (by rw[HNL.out];exact hlm) _ _ HV.out true HLB.out).mono ?_
  rintro e w' ⟨rfl,hw'⟩
  have hw':=hw'.symm
  subst hw'
  go_wp2_with fail
  refine(HAW.out _ HL.out).mono ?_
  rintro e w9 ⟨rfl,hb9⟩
  go_wp2
  go_ret
  exact⟨rfl,hb9⟩
 case false =>
 obtain⟨hl5,hl50⟩:=QP HLB.out
 rw[HNL.out]at hl5
 have HFX:=Lib.hid (show kD l from fun x hx=>⟨HF.out x hx,by have:=(hl50 x hx).1;omega,by have:=(hl50 x hx).2;omega⟩)
 have HF50:=Lib.hid (show ∀ x ∈ l,x.left.length≤50∧x.cells.length≤50 from hl50)
 clear hl50
 go_wp2_with fail
 refine(CU _ l off (by rw[HNL.out];exact hlm) _ _ HV.out false HLB.out).mono ?_
 rintro e w' ⟨rfl,hw'⟩
 have hw':=hw'.symm
 subst hw'
 by_cases h60:60<na
 ·have tb1:decide (60<(na:Int))=true:=decide_eq_true (by omega)
  have tb2:decide (60<na)=true:=decide_eq_true h60
  go_wp2_with fail
  refine(HAW.out _ HL.out).mono ?_
  rintro e w9 ⟨rfl,hb9⟩
  go_wp2
  go_ret
  exact⟨rfl,hb9⟩
 have tb1:decide (60<(na:Int))=false:=decide_eq_false (by omega)
 have tb2:decide (60<na)=false:=decide_eq_false h60
 by_cases g60:60<nb
 ·have tb3:decide (60<(nb:Int))=true:=decide_eq_true (by omega)
  have tb4:decide (60<nb)=true:=decide_eq_true g60
  go_wp2_with fail
  refine(HAW.out _ HL.out).mono ?_
  rintro e w9 ⟨rfl,hb9⟩
  go_wp2
  go_ret
  exact⟨rfl,hb9⟩
 have tb3:decide (60<(nb:Int))=false:=decide_eq_false (by omega)
 have tb4:decide (60<nb)=false:=decide_eq_false g60
 go_wp2_with fail
 refine(T.new _ l off (by rw[HNL.out];omega) HFX.out HCAP.out _ HL.out HV.out).mono ?_
 rintro e w1 ⟨hb1,h1⟩
 obtain⟨z,y,hr⟩:∃ z y,e9 dM l=(z,y):=⟨_,_,rfl⟩
 have HR:=Lib.hid hr
 rw[hr]at h1
 have HB1:=Lib.hid hb1
 clear hb1 hr
 rcases h1 with⟨hy,t,rfl,his⟩ | ⟨hy,rfl⟩
 rotate_left
 ·have y1:((y:Int)==0)=false:=beq_eq_false_iff_ne.2 (by have:y≠0:=hy;omega)
  have y3:((y:Int) != 0)=true:=bne_iff_ne.2 (by have:y≠0:=hy;omega)
  clear hy
  go_wp2_with fail
  refine(HAW.out _ (HL.out.kept HB1.out)).mono ?_
  rintro e w9 ⟨rfl,hb9⟩
  have HE9:=Lib.hid (chain HB1.out HB1.out.size hb9)
  clear hb9
  go_wp2
  go_ret
  exact⟨rfl,HE9.out⟩
 have hy:y=0:=hy
 subst hy
 have HACC:=Lib.hid ((pY l).1 (by rw[HR.out]))
 obtain⟨⟨a,rfl⟩,-⟩:=T.ptr his
 have hlen:l.length≤1000:=by rw[HNL.out];omega
 have HL1:=Lib.hid (HL.out.kept HB1.out)
 have HV1:=Lib.hid ((HV.out.below HB1.out).mono HB1.out.size)
 have HOF:=Lib.hid (show ∀ (v:Value) (t:List Tk) (o:Nat),t.length≤1000→iC t→lS v→∀ W:World,Below w1.heap.size w1 W→bW o W W.heap.size v t→Calls Tryz.prog 10 #[.pointer (some a),v] W fun e w'=>∃ v',e=.returned (.tuple #[.string (bytesOf ((iE l t).map (·.1))),v',.int .i64 (I0 t)])∧w'.ownsRow W.heap.size 3 1 v' (iE l t).length (iV ((iE l t).map (·.2)))∧Below W.heap.size W w' from fun v t o h1 h2 hc W hW hr =>
  Q.text v t o h1 h2 hc hlen HACC.out HFX.out W (HL1.out.kept hW) (T.xJ his (Kept.dB hW (Nat.le_refl _))) hr)
 clear his hlen
 have HOA:=Lib.hid (HOF.out _ ta o1 (by rw[HNA.out];omega) HAF.out HCA.out w1 (Below.refl _ _) ((HNA.out▸HAR.out.below HB1.out:bW o1 w1 w.heap.size (.slice A1 na c1) ta).mono HB1.out.size))
 have HIFF:=Lib.hid (fun ha hb=>MY (a:=ta) (b:=tb) HACC.out ha hb)
 have hcl:∀ t:List Tk,gA t=true→((iE l t).map (·.1))=pF l t:=fun t h=>by
  unfold iE
  rw[if_pos h]
  exact WC HACC.out h
 obtain⟨r,hr⟩:∃ r,decide (ta.map bare=tb.map bare)=r:=⟨_,rfl⟩
 have HTO:=Lib.hid (fun(W:World) (hW:Below w.heap.size w W)=>RD _ _ ta tb o1 o2 (by rw[HNA.out];omega) (by rw[HNB.out];omega) W _ _ (HAR.out.below hW) (HBR.out.below hW) r hr)
 have HEQ:=Lib.hid (show gA ta=true→gA tb=true→(bytesOf ((iE l ta).map (·.1))=bytesOf ((iE l tb).map (·.1))↔r=true) from fun ha hb=>by
  rw[hcl ta ha,hcl tb hb,← hr,decide_eq_true_eq,← HIFF.out ha hb]
  exact⟨fun h=>by
   have:=congrArg aA h
   rwa [aB _ (CV HACC.out ta),aB _ (CV HACC.out tb)]at this,fun h=>by rw[h]⟩)
 clear hcl hr HIFF
 go_wp2_with fail
 refine HOA.out.mono ?_
 rintro e w2 ⟨v2,rfl,hown2,hb2⟩
 have HB2:=Lib.hid hb2
 have HOB:=Lib.hid (HOF.out _ tb o2 (by rw[HNB.out];omega) HBF.out HCB.out w2 hb2 ((HBR.out.below (chain HB1.out HB1.out.size hb2)).mono (Nat.le_trans HB1.out.size hb2.size)))
 obtain⟨A2',c2',rfl,-,-,-⟩:=aN hown2
 clear hown2 hb2
 go_wp2_with fail
 refine HOB.out.mono ?_
 rintro e w3 ⟨v3,rfl,hown3,hb3⟩
 have HE3:=Lib.hid (chain HB1.out HB1.out.size (chain HB2.out HB2.out.size hb3))
 obtain⟨A3',c3',rfl,-,-,-⟩:=aN hown3
 clear hown3 hb3
 obtain⟨U,hU⟩:∃ U,bytesOf ((iE l ta).map (·.1))=U:=⟨_,rfl⟩
 obtain⟨V,hV⟩:∃ V,bytesOf ((iE l tb).map (·.1))=V:=⟨_,rfl⟩
 obtain⟨fa,hfa⟩:∃ f,I0 ta=f:=⟨_,rfl⟩
 obtain⟨fb,hfb⟩:∃ f,I0 tb=f:=⟨_,rfl⟩
 rw[hU,hV]at HEQ
 rw[hU,hfa,hV,hfb]
 unfold I0 at hfa hfb
 cases hca:gA ta
 case false =>
  rw[hca,if_neg Bool.false_ne_true]at hfa
  subst hfa
  clear hfb
  go_wp2_with fail
  refine(HAW.out _ (HL.out.kept HE3.out)).mono ?_
  rintro e w9 ⟨rfl,hb9⟩
  have HE9:=Lib.hid (chain HE3.out HE3.out.size hb9)
  clear hb9
  go_wp2
  go_ret
  exact⟨rfl,HE9.out⟩
 case true =>
 rw[hca,if_pos rfl]at hfa
 subst hfa
 cases hcb:gA tb
 case false =>
  rw[hcb,if_neg Bool.false_ne_true]at hfb
  subst hfb
  go_wp2_with fail
  refine(HAW.out _ (HL.out.kept HE3.out)).mono ?_
  rintro e w9 ⟨rfl,hb9⟩
  have HE9:=Lib.hid (chain HE3.out HE3.out.size hb9)
  clear hb9
  go_wp2
  go_ret
  exact⟨rfl,HE9.out⟩
 case true =>
 rw[hcb,if_pos rfl]at hfb
 subst hfb
 have HEQ2:=Lib.hid (HEQ.out hca hcb)
 clear hca hcb HEQ hU hV
 cases r
 case false =>
  have hne:(U.toList==V.toList)=false:=Ba.kI (fun e=>Bool.false_ne_true (HEQ2.out.1 e))
  go_wp2_with fail
  refine(HTO.out _ HE3.out).mono ?_
  rintro e w6 ⟨rfl,n6,rfl⟩
  have HB6:=Lib.hid (Ba.below_drewN HE3.out n6)
  go_wp2_with fail
  refine(HAW.out _ (HL.out.kept HB6.out)).mono ?_
  rintro e w9 ⟨rfl,hb9⟩
  have HE9:=Lib.hid (chain HB6.out HB6.out.size hb9)
  clear hb9
  go_wp2
  go_ret
  exact⟨rfl,HE9.out⟩
 case true =>
  obtain rfl:U=V:=HEQ2.out.2 rfl
  have hne:(U.toList==U.toList)=true:=by simp
  go_wp2_with fail
  refine(HTO.out _ HE3.out).mono ?_
  rintro e w6 ⟨rfl,n6,rfl⟩
  have HB6:=Lib.hid (Ba.below_drewN HE3.out n6)
  go_wp2_with fail
  refine(HAW.out _ (HL.out.kept HB6.out)).mono ?_
  rintro e w9 ⟨rfl,hb9⟩
  have HE9:=Lib.hid (chain HB6.out HB6.out.size hb9)
  clear hb9
  go_wp2
  go_ret
  exact⟨rfl,HE9.out⟩
end Go.Proofs.YthbigkoihpgcfaaGreatDoor.Da
