/-
  Put together.
-/
import Derived.Test.YthbigkoihpgcfaaGreatDoorOe
import Derived.Test.YthbigkoihpgcfaaGreatDoorSe
import Derived.Test.YthbigkoihpgcfaaGreatDoorSf
import Derived.Test.YthbigkoihpgcfaaGreatDoorTsG
import Derived.Test.YthbigkoihpgcfaaGreatDoorUa
import Derived.Test.YthbigkoihpgcfaaGreatDoorUb
import Derived.Test.YthbigkoihpgcfaaGreatDoorVf
import Derived.Test.YthbigkoihpgcfaaGreatDoorVg
import Derived.Test.YthbigkoihpgcfaaGreatDoorVm
import Derived.Test.YthbigkoihpgcfaaGreatDoorWa
import Derived.Test.YthbigkoihpgcfaaGreatDoorWb
import Derived.Deep.Onto
import Derived.BigQuiet
import Derived.IntWalk
import Derived.Laws.EntriesVeiled
open Go.Lib (hid)
set_option maxRecDepth 100000
set_option maxHeartbeats 16000000
namespace Go.Proofs.YthbigkoihpgcfaaGreatDoor.Cu
open Go.RowKit Ba Ru Ck Ti Pa Fl
theorem kL (l:List Rl):∀ (n i:Nat) (b:Bool) (t:List Tk),(bM l n i b t).length≤4 * t.length
 | 0,i,b,t=>Nat.zero_le _
 | n+1,i,b,[]=>Nat.zero_le _
 | n+1,i,b,x::t=>by
  rw[mW]
  by_cases hl:aJ x=true
  ·rw[if_pos hl]
   have h1:=kL l n (i+((x::t).takeWhile aJ).length) false ((x::t).dropWhile aJ)
   have h2:((x::t).takeWhile aJ).length+((x::t).dropWhile aJ).length=(x::t).length:=by
    rw[← List.length_append,List.takeWhile_append_dropWhile]
   have h0:0<((x::t).takeWhile aJ).length:=by
    rw[List.takeWhile_cons,if_pos hl]
    simp
   have h3:(runN l (fA ((x::t).takeWhile aJ)) i).length≤3 * ((x::t).takeWhile aJ).length:=by
    have:=yW l (fA ((x::t).takeWhile aJ)) i (fA ((x::t).takeWhile aJ)).length 0
    have e:(fA ((x::t).takeWhile aJ)).length=((x::t).takeWhile aJ).length:=by unfold fA;rw[List.length_map]
    unfold runN
    rw[e]at this ⊢
    omega
   rw[List.length_append,List.length_append]
   have h4:(if b=true then [(⟨aG l 8 eX,i,0⟩:Pc)] else []).length≤1:=by split<;>simp
   omega
  ·rw[if_neg hl]
   have h1:=kL l n (i+1) true t
   have h2:=kL l n (i+1) false t
   rw[List.length_cons]
   split
   ·rw[List.length_append,List.length_cons]
    have h4:(if b=true then [] else [(⟨aG l 8 jH,i,0⟩:Pc)]).length≤1:=by split<;>simp
    omega
   ·split
    ·rw[List.length_cons];omega
    ·rw[List.length_cons];omega
def bY:List Nat→List Tk
 | []=>[]
 | [c]=>[⟨1,c,0⟩]
 | c::d::r=>if c=43∨c=126 then ⟨if c=126 then 3 else 2,d,0⟩::bY r else ⟨1,c,0⟩::bY (d::r)
theorem aDM:(Tryz.prog.info? 37).map (fun i=>(i.zero,i.size,i.bytes))=some (some (.agg #[.int .i64 0,.int .u8 0,.int .i64 0]),3,24):=by kernel_rfl
def pD (l:List Tk):List Value:=Ba.rows cT l
theorem kX (l:List Tk) (k:Int) (c:Nat):pD (l++[⟨k,c,0⟩])=pD l++[.int .i64 k,.int .u8 (c:Int),.int .i64 0]:=by
 unfold pD Ba.rows
 rw[List.flatMap_append]
 rfl
theorem VT {s:List Nat} {j c d:Nat} (h0:s[j]?=some c) (h1:s[j+1]?=some d) (hc:c=43∨c=126):bY (s.drop j)=⟨if c=126 then 3 else 2,d,0⟩::bY (s.drop (j+2)):=by
 obtain⟨a,ea⟩:=List.getElem?_eq_some_iff.1 h0
 obtain⟨b,eb⟩:=List.getElem?_eq_some_iff.1 h1
 rw[List.drop_eq_getElem_cons a,List.drop_eq_getElem_cons b,ea,eb]
 show (if _ then _ else _)=_
 rw[if_pos hc]
theorem VU {s:List Nat} {j c:Nat} (h0:s[j]?=some c) (hc:¬ ((c=43∨c=126)∧j+1<s.length)):bY (s.drop j)=⟨1,c,0⟩::bY (s.drop (j+1)):=by
 obtain⟨a,ea⟩:=List.getElem?_eq_some_iff.1 h0
 rw[List.drop_eq_getElem_cons a,ea]
 by_cases hb:j+1<s.length
 ·rw[List.drop_eq_getElem_cons hb]
  show (if _ then _ else _)=_
  rw[if_neg fun k=>hc ⟨k,hb⟩]
 ·rw[List.drop_of_length_le (by omega)]
  rfl
theorem RI (S:ByteArray) (hS:S.size≤2000) (w:World) :
  Calls Tryz.prog 70 #[.string S] w fun e w'=>∃ v',e=.returned v'∧w'.ownsRow w.heap.size 37 3 v' (bY (aA S)).length (pD (bY (aA S)))∧Below w.heap.size w w':=by
 obtain⟨i0,hi0,hz0,hz1,hz2⟩:=info_parts aDM
 have hsl:=aD S
 have HSL:=hid hsl
 clear hsl
 have HAT:=hid (fun(k:Nat) (h:k<S.size)=>show (aA S)[k]?=some (aV S k) from by
  have h2:k<(aA S).length:=by rw[HSL.out];exact h
  unfold aV
  rw[List.getD_eq_getElem?_getD,List.getElem?_eq_getElem h2]
  rfl)
 go_enter Tryz.func70,Tryz.ntmps70
 go_wp2
 go_loopw [3,4] (fun v i wr=>∃ (j:Nat) (ds:List Tk),i=.int .i64 (j:Int)∧j≤S.size∧bY (aA S)=ds++bY ((aA S).drop j)∧ds.length≤j∧wr.ownsRow w.heap.size 37 3 v ds.length (pD ds)∧Below w.heap.size w wr) (fun _ i _=>S.size - (intOf i).toNat)
 case atStart=>exact⟨0,[],rfl,Nat.zero_le _,rfl,Nat.zero_le _,World.ownsRow_nil _ _ _ _,Below.refl _ _⟩
 case round =>
  obtain⟨j,ds,rfl,hj,hsp,hdl,how,hBr⟩:=hrel
  have HSP:=hid hsp
  have HOW:=hid how
  have HBR:=hid hBr
  have hsz:=hBr.size
  clear hsp how hBr
  by_cases hlt:j<S.size
  rotate_left
  ·have HE:=hid (show bY (aA S)=ds from by
    rw[HSP.out,List.drop_of_length_le (by rw[HSL.out];omega)]
    exact List.append_nil _)
   have t1:decide ((j:Int)<(S.size:Int))=false:=decide_eq_false (by omega)
   have t1':decide (j<S.size)=false:=decide_eq_false hlt
   go_wp2
   go_ret
   rw[HE.out]
   exact⟨_,rfl,HOW.out,HBR.out⟩
  have t1:decide ((j:Int)<(S.size:Int))=true:=decide_eq_true (by omega)
  have t1':decide (j<S.size)=true:=decide_eq_true hlt
  have j0:(0:Int)≤(j:Int):=by omega
  have j1:(j:Int)<(S.size:Int):=by omega
  have E1:=bP S j hlt
  have hA0:=HAT.out j hlt
  have y1:IntKind.i64.wrap ((j:Int)+1)=(j:Int)+1:=IntWalk.i64_in _ ⟨by omega,by omega⟩
  obtain⟨c,hc⟩:∃ c,aV S j=c:=⟨_,rfl⟩
  rw[hc]at E1 hA0
  clear hc
  by_cases hgo:(c=43∨c=126)∧j+1<S.size
  ·obtain⟨hc,hlt2⟩:=hgo
   have E2:=bP S (j+1) hlt2
   have HTW:=hid (VT hA0 (HAT.out (j+1) hlt2) hc)
   obtain⟨d,hd⟩:∃ d,aV S (j+1)=d:=⟨_,rfl⟩
   rw[hd]at E2 HTW
   clear hd
   have t2:decide ((j:Int)+1<(S.size:Int))=true:=decide_eq_true (by omega)
   have t2':decide (j+1<S.size)=true:=decide_eq_true hlt2
   have y2:IntKind.i64.wrap ((j:Int)+1+1)=(j:Int)+1+1:=IntWalk.i64_in _ ⟨by omega,by omega⟩
   have z0:(0:Int)≤(j:Int)+1:=by omega
   have z1:(j:Int)+1<(S.size:Int):=by omega
   have z2:((j:Int)+1).toNat=j+1:=by omega
   have E2':((S[((j:Int)+1).toNat]'(by omega)).toNat:Nat)=d:=by simp only[z2];exact E2
   by_cases h43:c=43
   ·subst h43
    have HN:=hid (show bY (aA S)=(ds++[⟨2,d,0⟩])++bY ((aA S).drop (j+2)) from by
     rw[HSP.out,HTW.out,List.append_assoc]
     rfl)
    clear hc hA0
    go_wp2_with (at_builtin;refine wpList_append_own _ rfl _ _ 23 rfl w.heap.size 37 i0 _ 3 24 Tryz.underlying23 hi0 hz0 hz1 hz2 rfl (by decide) _ _ _ rfl (HOW.out.alloc _) ⟨_,0,none⟩ 1 1 [.int .i64 2,.int .u8 (d:Int),.int .i64 0] rfl rfl (World.news_of_block (cs:=#[.int .i64 2,.int .u8 (d:Int),.int .i64 0]) (t:=37) (fr:=(0,0)) (heap_alloc_new _ _)) (by simp[Value.oneCell']) (by unfold maxLen;omega) (by omega) (by simp;omega) ?_;intro v' w8 hown' hgrow _;have HFF:=hid (show w8.ownsRow w.heap.size 37 3 v' (ds++[(⟨2,d,0⟩:Tk)]).length (pD (ds++[⟨2,d,0⟩]))∧Below w.heap.size w w8 from ⟨by rw[kX,List.length_append];exact hown',(HBR.out.alloc hsz _).grown hgrow (by simp;omega) (fun q eq=>(HOW.out.lt q eq).1)⟩);clear hown' hgrow)
    go_roundw
    case rel=>exact⟨j+2,ds++[⟨2,d,0⟩],by go_num,by omega,HN.out,by rw[List.length_append,List.length_singleton];omega,HFF.out.1,HFF.out.2⟩
    case measure=>simp[intOf];omega
   ·obtain rfl:c=126:=by omega
    have HN:=hid (show bY (aA S)=(ds++[⟨3,d,0⟩])++bY ((aA S).drop (j+2)) from by
     rw[HSP.out,HTW.out,List.append_assoc]
     rfl)
    clear hc hA0 h43
    go_wp2_with (at_builtin;refine wpList_append_own _ rfl _ _ 23 rfl w.heap.size 37 i0 _ 3 24 Tryz.underlying23 hi0 hz0 hz1 hz2 rfl (by decide) _ _ _ rfl (HOW.out.alloc _) ⟨_,0,none⟩ 1 1 [.int .i64 3,.int .u8 (d:Int),.int .i64 0] rfl rfl (World.news_of_block (cs:=#[.int .i64 3,.int .u8 (d:Int),.int .i64 0]) (t:=37) (fr:=(0,0)) (heap_alloc_new _ _)) (by simp[Value.oneCell']) (by unfold maxLen;omega) (by omega) (by simp;omega) ?_;intro v' w8 hown' hgrow _;have HFF:=hid (show w8.ownsRow w.heap.size 37 3 v' (ds++[(⟨3,d,0⟩:Tk)]).length (pD (ds++[⟨3,d,0⟩]))∧Below w.heap.size w w8 from ⟨by rw[kX,List.length_append];exact hown',(HBR.out.alloc hsz _).grown hgrow (by simp;omega) (fun q eq=>(HOW.out.lt q eq).1)⟩);clear hown' hgrow)
    go_roundw
    case rel=>exact⟨j+2,ds++[⟨3,d,0⟩],by go_num,by omega,HN.out,by rw[List.length_append,List.length_singleton];omega,HFF.out.1,HFF.out.2⟩
    case measure=>simp[intOf];omega
  ·have HN:=hid (show bY (aA S)=(ds++[⟨1,c,0⟩])++bY ((aA S).drop (j+1)) from by
    rw[HSP.out,VU hA0 (by rw[HSL.out];exact hgo),List.append_assoc]
    rfl)
   have t2:decide ((j:Int)+1<(S.size:Int))=decide (j+1<S.size):=by rw[decide_eq_decide];omega
   clear hA0
   by_cases h43:c=43
   ·subst h43
    have t3:decide (j+1<S.size)=false:=decide_eq_false fun k=>hgo ⟨.inl rfl,k⟩
    rw[t3]at t2
    clear hgo
    go_wp2_with (at_builtin;refine wpList_append_own _ rfl _ _ 23 rfl w.heap.size 37 i0 _ 3 24 Tryz.underlying23 hi0 hz0 hz1 hz2 rfl (by decide) _ _ _ rfl (HOW.out.alloc _) ⟨_,0,none⟩ 1 1 [.int .i64 1,.int .u8 ((43:Nat):Int),.int .i64 0] rfl rfl (World.news_of_block (cs:=#[.int .i64 1,.int .u8 ((43:Nat):Int),.int .i64 0]) (t:=37) (fr:=(0,0)) (heap_alloc_new _ _)) (by simp[Value.oneCell']) (by unfold maxLen;omega) (by omega) (by simp;omega) ?_;intro v' w8 hown' hgrow _;have HFF:=hid (show w8.ownsRow w.heap.size 37 3 v' (ds++[(⟨1,43,0⟩:Tk)]).length (pD (ds++[⟨1,43,0⟩]))∧Below w.heap.size w w8 from ⟨by rw[kX,List.length_append];exact hown',(HBR.out.alloc hsz _).grown hgrow (by simp;omega) (fun q eq=>(HOW.out.lt q eq).1)⟩);clear hown' hgrow)
    go_roundw
    case rel=>exact⟨j+1,ds++[⟨1,43,0⟩],by go_num,by omega,HN.out,by rw[List.length_append,List.length_singleton];omega,HFF.out.1,HFF.out.2⟩
    case measure=>simp[intOf];omega
   ·have c1:((c:Int)==43)=false:=beq_eq_false_iff_ne.2 (by omega)
    by_cases h126:c=126
    ·subst h126
     have t3:decide (j+1<S.size)=false:=decide_eq_false fun k=>hgo ⟨.inr rfl,k⟩
     rw[t3]at t2
     clear hgo h43 c1
     go_wp2_with (at_builtin;refine wpList_append_own _ rfl _ _ 23 rfl w.heap.size 37 i0 _ 3 24 Tryz.underlying23 hi0 hz0 hz1 hz2 rfl (by decide) _ _ _ rfl (HOW.out.alloc _) ⟨_,0,none⟩ 1 1 [.int .i64 1,.int .u8 ((126:Nat):Int),.int .i64 0] rfl rfl (World.news_of_block (cs:=#[.int .i64 1,.int .u8 ((126:Nat):Int),.int .i64 0]) (t:=37) (fr:=(0,0)) (heap_alloc_new _ _)) (by simp[Value.oneCell']) (by unfold maxLen;omega) (by omega) (by simp;omega) ?_;intro v' w8 hown' hgrow _;have HFF:=hid (show w8.ownsRow w.heap.size 37 3 v' (ds++[(⟨1,126,0⟩:Tk)]).length (pD (ds++[⟨1,126,0⟩]))∧Below w.heap.size w w8 from ⟨by rw[kX,List.length_append];exact hown',(HBR.out.alloc hsz _).grown hgrow (by simp;omega) (fun q eq=>(HOW.out.lt q eq).1)⟩);clear hown' hgrow)
     go_roundw
     case rel=>exact⟨j+1,ds++[⟨1,126,0⟩],by go_num,by omega,HN.out,by rw[List.length_append,List.length_singleton];omega,HFF.out.1,HFF.out.2⟩
     case measure=>simp[intOf];omega
    ·have c2:((c:Int)==126)=false:=beq_eq_false_iff_ne.2 (by omega)
     clear hgo h43 h126 t2
     go_wp2_with (at_builtin;refine wpList_append_own _ rfl _ _ 23 rfl w.heap.size 37 i0 _ 3 24 Tryz.underlying23 hi0 hz0 hz1 hz2 rfl (by decide) _ _ _ rfl (HOW.out.alloc _) ⟨_,0,none⟩ 1 1 [.int .i64 1,.int .u8 (c:Int),.int .i64 0] rfl rfl (World.news_of_block (cs:=#[.int .i64 1,.int .u8 (c:Int),.int .i64 0]) (t:=37) (fr:=(0,0)) (heap_alloc_new _ _)) (by simp[Value.oneCell']) (by unfold maxLen;omega) (by omega) (by simp;omega) ?_;intro v' w8 hown' hgrow _;have HFF:=hid (show w8.ownsRow w.heap.size 37 3 v' (ds++[(⟨1,c,0⟩:Tk)]).length (pD (ds++[⟨1,c,0⟩]))∧Below w.heap.size w w8 from ⟨by rw[kX,List.length_append];exact hown',(HBR.out.alloc hsz _).grown hgrow (by simp;omega) (fun q eq=>(HOW.out.lt q eq).1)⟩);clear hown' hgrow)
     go_roundw
     case rel=>exact⟨j+1,ds++[⟨1,c,0⟩],by go_num,by omega,HN.out,by rw[List.length_append,List.length_singleton];omega,HFF.out.1,HFF.out.2⟩
     case measure=>simp[intOf];omega
theorem qF {A:Option Addr} {n c:Nat} (h1:n≤c) (h2:c≤maxLen):lS (.slice A n c):=fun A' n' c' e=>by
 injection e with _ e1 e2
 subst e1;subst e2
 exact⟨h1,h2⟩
def rQ (t:List Tk):Int:=if bB t=true then 0 else 1
def PF (l:List Rl) (t:List Tk):List Pc:=if bB t=true then j6 l t else []
end Go.Proofs.YthbigkoihpgcfaaGreatDoor.Cu
namespace Go.Proofs.YthbigkoihpgcfaaGreatDoor.Da
open Go.RowKit Ba Ru Ck Ti Pa Fl Cu
def z8 (l:List Tk):Nat:=match pI l with
 | none=>2
 | some t=>if mG l=true then 2 else Tr.jW t
structure aHD (t:List Tk):Prop where
 item:∀ (i:Nat) (x:Tk),t[i]?=some x→x.kind=2→x.ch=105→1≤i∧M4 t (i - 1)=mE t (i - 1) 108
 cell:∀ (i:Nat) (x:Tk),t[i]?=some x→x.kind=2→x.ch=99→1≤i∧M4 t (i - 1)=mE t (i - 1) 114
 row:∀ i:Nat,mE t i 114=true→1≤i∧M4 t (i - 1)=mE t (i - 1) 116
 ends:∀ (i:Nat) (x:Tk),t[i]?=some x→mD x=true→i<SF t i x.ch∧(∃ y,t[SF t i x.ch]?=some y∧SE x.ch y=true)∧Quiet t (i+1) (SF t i x.ch)
 flat:∀ (i:Nat) (x:Tk),t[i]?=some x→mD x=true→x.ch≠105→iF t i=0
 body:∀ f ∈ fR t,gA (I3 t f)=true
theorem aK0 {t:List Tk} (hl:∀ x ∈ t,x.ch<256) (h:(WG t).2=0):aHD t :=
 ⟨fun _ _ hx hk hc=>aJJ hl h hx hk hc,fun _ _ hx hk hc=>aJK hl h hx hk hc,fun _ hr=>aKD hl h hr,fun _ _ hx hc=>aJW hl h hx hc,fun _ _ hx hc h5=>aJI hl h hx hc h5,fun _ hf=>aLZ hl h hf⟩
def aK1 (t:List Tk) (i:Nat):Bool:=match t[i]? with
 | none=>true
 | some x =>
  (!(decide (x.kind=2) && x.ch==105) || (decide (1≤i) && M4 t (i - 1)==mE t (i - 1) 108)) && (!(decide (x.kind=2) && x.ch==99) || (decide (1≤i) && M4 t (i - 1)==mE t (i - 1) 114)) &&
   (!(mE t i 114) || (decide (1≤i) && M4 t (i - 1)==mE t (i - 1) 116)) &&
   (!(mD x) || (decide (i<SF t i x.ch) && (match t[SF t i x.ch]? with | some y=>SE x.ch y | none=>false) && ((t.drop (i+1)).take (SF t i x.ch - (i+1))).all zH && (x.ch==105 || decide (iF t i=0))))
def aHE (t:List Tk):Bool:=(List.range t.length).all (aK1 t) && (fR t).all fun f=>gA (I3 t f)
theorem aK2 {t:List Tk} (h:aHE t=true) {i:Nat} {x:Tk} (hx:t[i]?=some x):aK1 t i=true:=by
 unfold aHE at h
 rw[Bool.and_eq_true]at h
 exact List.all_eq_true.1 h.1 i (List.mem_range.2 (M1 hx))
theorem aHR {a b:Bool} (h:(!a || b)=true) (ha:a=true):b=true:=by rw[ha]at h;exact h
theorem aG0 {t:List Tk} (h:aHE t=true):aHD t:=by
 have key:∀ (i:Nat) (x:Tk),t[i]?=some x→((!(decide (x.kind=2) && x.ch==105) || (decide (1≤i) && M4 t (i - 1)==mE t (i - 1) 108))=true∧(!(decide (x.kind=2) && x.ch==99) || (decide (1≤i) && M4 t (i - 1)==mE t (i - 1) 114))=true)∧(!(mE t i 114) || (decide (1≤i) && M4 t (i - 1)==mE t (i - 1) 116))=true ∧
   (!(mD x) || (decide (i<SF t i x.ch) && (match t[SF t i x.ch]? with | some y=>SE x.ch y | none=>false) && ((t.drop (i+1)).take (SF t i x.ch - (i+1))).all zH && (x.ch==105 || decide (iF t i=0))))=true:=fun i x hx=>by
  have h1:=aK2 h hx
  unfold aK1 at h1
  rw[hx]at h1
  simp only[]at h1
  rw[Bool.and_eq_true,Bool.and_eq_true,Bool.and_eq_true]at h1
  exact⟨h1.1.1,h1.1.2,h1.2⟩
 have yes:∀ {i:Nat} {a b:Bool},(decide (1≤i) && a==b)=true→1≤i∧a=b:=fun hb=>by
  rw[Bool.and_eq_true,decide_eq_true_eq,beq_iff_eq]at hb
  exact hb
 have is:∀ {x:Tk} {c:Nat},x.kind=2→x.ch=c→(decide (x.kind=2) && x.ch==c)=true:=fun hk hc=>by
  rw[decide_eq_true hk,hc];simp
 refine⟨fun i x hx hk hc=>yes (aHR (key i x hx).1.1 (is hk hc)),fun i x hx hk hc=>yes (aHR (key i x hx).1.2 (is hk hc)),fun i hr=>?_,fun i x hx hc=>?_,fun i x hx hc h5=>?_,fun f hf=>?_⟩
 ·cases hx:t[i]? with
  | none=>unfold mE at hr;rw[hx]at hr;cases hr
  | some x=>exact yes (aHR (key i x hx).2.1 hr)
 ·have h1:=aHR (key i x hx).2.2 hc
  rw[Bool.and_eq_true,Bool.and_eq_true,Bool.and_eq_true,decide_eq_true_eq]at h1
  refine⟨h1.1.1.1,?_,fun j y h2 h3 hy=>?_⟩
  ·have h2:=h1.1.1.2
   cases hy:t[SF t i x.ch]? with
   | none=>rw[hy]at h2;cases h2
   | some y=>rw[hy]at h2;exact⟨y,rfl,h2⟩
  ·refine List.all_eq_true.1 h1.1.2 y ?_
   refine List.mem_of_getElem? (i:=j - (i+1)) ?_
   rw[List.getElem?_take_of_lt (by omega),List.getElem?_drop,show i+1+(j - (i+1))=j by omega]
   exact hy
 ·have h1:=aHR (key i x hx).2.2 hc
  rw[Bool.and_eq_true,Bool.or_eq_true,beq_iff_eq,decide_eq_true_eq]at h1
  exact h1.2.resolve_left h5
 ·unfold aHE at h
  rw[Bool.and_eq_true]at h
  exact List.all_eq_true.1 h.2 f hf
structure aDS (T:bT):Prop where
 of:∀ {tv:Value} {l:List Rl} {lo hi:Nat} (v:Value) (t:List Tk) (off:Nat),t.length≤1000→iC t→lS v→l.length≤1000→Acc dM l→kD l→(z8 t=0→aHD t)→∀ w:World,bH w→T.Is w tv l lo hi→bW off w w.heap.size v t→Calls Tryz.prog 13 #[tv,v] w fun e w' =>
  Below w.heap.size w w'∧((z8 t=0∧∃ v',e=.returned (.tuple #[v',.int .i64 0])∧I6 w.heap.size w' v' l t (fR t))∨(z8 t≠0∧e=.returned (.tuple #[.slice none 0 0,.int .i64 ((z8 t:Nat):Int)])))
theorem CU (v:Value) (l:List Rl) (off:Nat) (_hl:l.length≤maxLen) (w:World) (B:Nat) (hv:dZ off w B v l) (b:Bool) (hb:yK l=b) :
  Calls Tryz.prog 6 #[v] w fun e w'=>e=.returned (.bool b)∧w'=w:=by
 obtain⟨A,c,rfl,hA⟩:=hv
 have HA:=hid hA;clear hA
 have HB:=hid hb;clear hb
 go_enter Tryz.func6,Tryz.ntmps6
 by_cases h450:450<l.length
 ·have HV:=hid (show true=b by rw[← HB.out];unfold yK;rw[decide_eq_true h450,Bool.true_or])
  go_wp2
  go_ret
  rw[← HV.out]
  exact⟨rfl,rfl⟩
 have t450:decide (450<(l.length:Int))=false:=decide_eq_false (by omega)
 have h451:l.length≤450:=by omega
 clear h450
 go_wp2
 go_loopw [3] (fun i wr=>∃ k:Nat,k≤l.length∧i=.int .i64 k∧(∀ x ∈ l.take k,sO x=false)∧wr=w) (fun i _=>l.length - (intOf i).toNat)
 case atStart=>exact⟨0,by omega,rfl,fun x hx=>by simp at hx,rfl⟩
 case round =>
  obtain⟨k,hk,rfl,hN,rfl⟩:=hrel
  by_cases hlt:k<l.length
  ·obtain⟨g,rfl,-,hg⟩:=HA.out (by omega)
   obtain⟨x,hx⟩:∃ x,l[k]?=some x:=⟨_,List.getElem?_eq_getElem hlt⟩
   obtain⟨-,g1,g2,-,-⟩:=wD hg k x hx
   have s1:(bytesOf x.left).size=x.left.length:=aF _
   have s2:(bytesOf x.cells).size=x.cells.length:=aF _
   have HX:=hid hx
   obtain⟨L,hL⟩:∃ L,bytesOf x.left=L:=⟨_,rfl⟩
   obtain⟨C,hC⟩:∃ C,bytesOf x.cells=C:=⟨_,rfl⟩
   rw[hL]at g1 s1
   rw[hC]at g2 s2
   have hyes:sO x=true→true=b:=fun h=>by
    rw[← HB.out];unfold yK
    rw[List.any_eq_true.2 ⟨x,List.mem_of_getElem? hx,h⟩,Bool.or_true]
   have hno:sO x=false→∀ y ∈ l.take (k+1),sO y=false:=fun h y hy=>by
    rw[List.take_add_one,HX.out,List.mem_append]at hy
    rcases hy with hy | hy
    ·exact hN y hy
    ·rw[Option.toList_some,List.mem_singleton]at hy
     rw[hy];exact h
   clear hg hx hL hC hN HA
   by_cases c1:50<L.size
   ·have HV:=hid (hyes (by unfold sO;rw[decide_eq_true (by omega),Bool.true_or]))
    clear hyes hno s1 s2
    go_wp2
    go_ret
    rw[← HV.out]
    exact⟨rfl,rfl⟩
   ·have u1:decide (50<(L.size:Int))=false:=decide_eq_false (by omega)
    by_cases c2:50<C.size
    ·have HV:=hid (hyes (by unfold sO;rw[decide_eq_true (p:=50<x.cells.length) (by omega),Bool.or_true]))
     clear hyes hno s1 s2 c1
     go_wp2
     go_ret
     rw[← HV.out]
     exact⟨rfl,rfl⟩
    ·have u2:decide (50<(C.size:Int))=false:=decide_eq_false (by omega)
     have HV:=hid (hno (by unfold sO;rw[decide_eq_false (by omega),decide_eq_false (by omega)];rfl))
     clear hyes hno s1 s2 c1 c2
     go_wp2
     go_roundw
     case rel=>exact⟨k+1,by omega,by go_num,HV.out,trivial⟩
     case measure=>simp[intOf];omega
  ·obtain rfl:k=l.length:=by omega
   rw[List.take_length]at hN
   have HV:=hid (show false=b by
    rw[← HB.out];unfold yK
    rw[decide_eq_false (by omega),List.any_eq_false.2 (fun x hx=>by rw[hN x hx];exact Bool.false_ne_true)];rfl)
   clear hN
   go_wp2
   go_ret
   rw[← HV.out]
   exact⟨rfl,rfl⟩
end Go.Proofs.YthbigkoihpgcfaaGreatDoor.Da
namespace Go.Proofs.YthbigkoihpgcfaaGreatDoor.Fl
open Go.RowKit Tr Nu Nl Cn
def EvF (x:Ev):Prop:=x.name<256∧(-9223372036854775808≤x.place∧x.place≤9223372036854775807)
theorem aKH {acc:List Ev} {x:Ev} (ha:∀ y ∈ acc,EvF y) (hx:EvF x):∀ y ∈ nE acc x,EvF y:=by
 intro z hz
 by_cases hk:x.kind=1
 ·by_cases h0:x.text.size=0
  ·rw[rU hk h0]at hz;exact ha z hz
  ·rcases List.eq_nil_or_concat acc with rfl | ⟨acc',y,rfl⟩
   ·rw[dV hk h0 nF]at hz
    rw[List.nil_append,List.mem_singleton]at hz;subst hz;exact hx
   ·rw[List.concat_eq_append]at hz ha
    by_cases hy:y.kind=1
    ·rw[lB hk h0 hy]at hz
     rcases List.mem_append.1 hz with h | h
     ·exact ha z (List.mem_append_left _ h)
     ·rw[List.mem_singleton]at h
      subst h
      exact ha y (by simp)
    ·rw[dV hk h0 (lC hy)]at hz
     rcases List.mem_append.1 hz with h | h
     ·exact ha z h
     ·rw[List.mem_singleton]at h;subst h;exact hx
 ·rw[rV hk]at hz
  rcases List.mem_append.1 hz with h | h
  ·exact ha z h
  ·rw[List.mem_singleton]at h;subst h;exact hx
theorem vA (l:List Tk):iC l→∀ E S,aM l=some (E,S)→(∀ x ∈ E,EvF x)∧gO E≤l.length∧sI E≤l.length:=by
 refine mP (P:=fun l=>iC l→∀ E S,aM l=some (E,S)→(∀ x ∈ E,EvF x)∧gO E≤l.length∧sI E≤l.length) ?_ ?_ l.length l rfl
 ·intro _ E S h
  cases h
  exact⟨fun x hx=>(by cases hx),Nat.zero_le _,Nat.zero_le _⟩
 ·intro l x ih hl E S h
  have hx:=hl x (by simp)
  unfold aM at h
  rw[List.foldl_append]at h
  rw[List.length_append,List.length_singleton]
  cases hp:aM l with
  | none =>
   unfold aM at hp
   rw[hp]at h
   have h:eM none x=some (E,S):=h
   cases h
  | some q =>
   obtain⟨E0,S0⟩:=q
   obtain⟨i1,i2,i3⟩:=ih (fun y hy=>hl y (by simp[hy])) E0 S0 hp
   unfold aM at hp
   rw[hp]at h
   have h:eM (some (E0,S0)) x=some (E,S):=h
   unfold eM at h
   simp only[]at h
   by_cases h1:x.kind=1
   ·rw[if_pos h1]at h
    have h:=Option.some.inj h
    obtain⟨rfl,rfl⟩:=Prod.mk.inj h
    obtain⟨j1,j2⟩:=SQ E0 (JP (jZ x.ch) x.place)
    have k1:ED (JP (jZ x.ch) x.place)=1:=rfl
    have k2:sI [JP (jZ x.ch) x.place]=1:=rfl
    exact⟨aKH i1 ⟨by show 0<256;omega,hx.2.2⟩,by omega,by omega⟩
   ·rw[if_neg h1]at h
    by_cases h2:x.kind=2
    ·rw[if_pos h2]at h
     have h:=Option.some.inj h
     obtain⟨rfl,rfl⟩:=Prod.mk.inj h
     refine⟨fun y hy=>?_,?_,?_⟩
     ·rcases List.mem_append.1 hy with g | g
      ·exact i1 y g
      ·rw[List.mem_singleton]at g;subst g;exact⟨hx.2.1,hx.2.2⟩
     ·rw[B5,show gO [opE x.ch x.place]=0 from rfl];omega
     ·rw[qO,show sI [opE x.ch x.place]=1 from rfl];omega
    ·rw[if_neg h2]at h
     by_cases h3:x.kind=3
     ·rw[if_pos h3]at h
      cases hS:S0.getLast? with
      | none=>rw[hS]at h;cases h
      | some k =>
       rw[hS]at h
       simp only[]at h
       by_cases hk:k=x.ch
       ·rw[if_pos hk]at h
        have h:=Option.some.inj h
        obtain⟨rfl,rfl⟩:=Prod.mk.inj h
        refine⟨fun y hy=>?_,?_,?_⟩
        ·rcases List.mem_append.1 hy with g | g
         ·exact i1 y g
         ·rw[List.mem_singleton]at g;subst g;exact⟨by show 0<256;omega,by show (-9223372036854775808:Int)≤0∧(0:Int)≤9223372036854775807;omega⟩
        ·rw[B5,show gO [clE]=0 from rfl];omega
        ·rw[qO,show sI [clE]=0 from rfl];omega
       ·rw[if_neg hk]at h;cases h
     ·rw[if_neg h3]at h;cases h
theorem W7 {l:List Tk} (h:iC l) (hl:l.length≤9000):W5 l:=fun E hE=>by
 obtain⟨-,i2,i3⟩:=vA l h E [] hE
 exact⟨by rw[zT];omega,fun x hx=>by have:=PN E [] [] 0 (by simp) x hx;omega⟩
theorem pM {g off:Nat} {w:World} {l:List Tk} (h:∀ k x,l[k]?=some x→∀ j u,(cT x)[j]?=some u→w.cell? ⟨g,off+(k * 3+j),none⟩=some u) (k:Nat) (x:Tk) (hx:l[k]?=some x) :
  w.cell? ⟨g,off+k * 3,none⟩=some (.int .i64 x.kind)∧w.cell? ⟨g,off+k * 3+1,none⟩=some (.int .u8 (x.ch:Int))∧w.cell? ⟨g,off+k * 3+2,none⟩=some (.int .i64 x.place):=by
 have e:=h k x hx
 simp only[← Nat.add_assoc]at e
 exact⟨e 0 _ rfl,e 1 _ rfl,e 2 _ rfl⟩
end Go.Proofs.YthbigkoihpgcfaaGreatDoor.Fl
namespace Go.Proofs.YthbigkoihpgcfaaGreatDoor.Fl
open Go.RowKit Go.Shelf Tr Nu Nl Cn
attribute [local go_sem] Oper.semAt_some
end Go.Proofs.YthbigkoihpgcfaaGreatDoor.Fl
namespace Go.Proofs.YthbigkoihpgcfaaGreatDoor.Fl
open Go.RowKit Go.Shelf Tr Nu Nl Cn
attribute [local go_sem] Oper.semAt_some
end Go.Proofs.YthbigkoihpgcfaaGreatDoor.Fl
namespace Go.Proofs.YthbigkoihpgcfaaGreatDoor.Fl
open Go.RowKit Go.Shelf Tr Nu Nl Cn
attribute [local go_sem] Oper.semAt_some
end Go.Proofs.YthbigkoihpgcfaaGreatDoor.Fl
