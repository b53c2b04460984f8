/-
  Put together: CkC, CkD, CkE, CkF.
-/
import Derived.Test.YtlgejmcihchngaaGreatDoorUk
import Derived.Test.YtlgejmcihchngaaGreatDoorUl
namespace Go.Proofs.YtlgejmcihchngaaGreatDoor.Ck
open Go.RowKit Ba Ru
set_option maxHeartbeats 1000000 in
theorem rbegins_any (a b:ByteArray) (_ha:a.size≤1000000) (_hb:b.size≤1000000) (w:World) :
  Calls Tryz.prog 62 #[.string a,.string b] w fun e w'=>e=.returned (.bool ((bytesN a).isPrefixOf (bytesN b)))∧w'=w:=by
 obtain⟨v,hv⟩:∃ v,(bytesN a).isPrefixOf (bytesN b)=v:=⟨_,rfl⟩
 rw[hv]
 rw[← begins_is]at hv
 go_enter Tryz.func62,Tryz.ntmps62
 by_cases h:a.size≤b.size
 ·rw[decide_eq_true h,Bool.true_and]at hv
  have t1:decide ((a.size:Int)≤b.size)=true:=decide_eq_true (by omega)
  by_cases e:b.extract 0 a.size=a
  ·rw[decide_eq_true e]at hv
   subst hv
   go_wp2
   go_ret
   exact⟨by simp[],rfl⟩
  ·rw[decide_eq_false e]at hv
   subst hv
   have hne:=toList_ne e
   go_wp2
   go_ret
   exact⟨by simp[],rfl⟩
 ·rw[decide_eq_false h,Bool.false_and]at hv
  subst hv
  have t1:decide ((a.size:Int)≤b.size)=false:=decide_eq_false (by omega)
  go_wp2
  go_ret
  exact⟨rfl,rfl⟩
theorem bytesOf_inj' {a b:List Nat} (ha:∀ x ∈ a,x<256) (hb:∀ x ∈ b,x<256) (h:bytesOf a=bytesOf b):a=b:=by
 rw[← bytesN_bytesOf a ha,← bytesN_bytesOf b hb,h]
theorem kept_is {what:Int} {left cells:List Nat} {prio line:Int} (hl:∀ x ∈ left,x<256) (S:ByteArray) (hS:bytesOf left=S) :
  keptB ⟨what,left,cells,prio,line⟩=(decide (what=8) && (decide (S={ data:=#[98,108,107] }) || decide (S={ data:=#[99,111,110,116] }) || decide (S={ data:=#[105,110,100] }))):=by
 have e:∀ (t:List Nat),(∀ x ∈ t,x<256)→(left=t↔S=bytesOf t):=fun t ht=>⟨fun h=>by rw[← hS,h],fun h=>bytesOf_inj' hl ht (hS.trans h)⟩
 have e1:=e [98,108,107] (by decide)
 have e2:=e [99,111,110,116] (by decide)
 have e3:=e [105,110,100] (by decide)
 have c1:bytesOf [98,108,107]={ data:=#[98,108,107] }:=rfl
 have c2:bytesOf [99,111,110,116]={ data:=#[99,111,110,116] }:=rfl
 have c3:bytesOf [105,110,100]={ data:=#[105,110,100] }:=rfl
 rw[c1]at e1
 rw[c2]at e2
 rw[c3]at e3
 unfold keptB
 simp only[e1,e2,e3]
 rw[Bool.eq_iff_iff]
 simp[or_assoc]
end Go.Proofs.YtlgejmcihchngaaGreatDoor.Ck
namespace Go.Proofs.YtlgejmcihchngaaGreatDoor.Ck
open Go.RowKit Ba Ru
theorem ne_lit {S:ByteArray} (l:List UInt8) (h:S≠⟨l.toArray⟩):(S.toList==l)=false:=by
 rw[beq_eq_false_iff_ne]
 intro e
 apply h
 rw[← e,ByteArray.toList_eq,Array.toArray_toList]
set_option maxRecDepth 100000 in
set_option maxHeartbeats 2000000 in
theorem rkept_any (x:Rl) (hf:FitR x) (w:World) :
  Calls Tryz.prog 59 #[aggR x] w fun e w'=>e=.returned (.bool (keptB x))∧Below w.heap.size w w':=by
 obtain⟨what,left,cells,prio,line⟩:=x
 obtain⟨-,-,-,hl,-,-,-⟩:=hf
 show Calls _ _ #[.agg #[.int .i64 what,.string (bytesOf left),.string (bytesOf cells),.int .i64 prio,.int .i64 line]] w _
 obtain⟨S,hS⟩:∃ S,bytesOf left=S:=⟨_,rfl⟩
 obtain⟨v,hv⟩:∃ v,keptB ⟨what,left,cells,prio,line⟩=v:=⟨_,rfl⟩
 rw[hv]
 rw[kept_is hl S hS]at hv
 rw[hS]
 clear hS hl
 go_enter Tryz.func59,Tryz.ntmps59
 by_cases h8:what=8
 ·subst h8
  rw[decide_eq_true rfl,Bool.true_and]at hv
  by_cases b1:S={ data:=#[98,108,107] }
  ·subst b1
   rw[decide_eq_true rfl,Bool.true_or,Bool.true_or]at hv
   subst hv
   go_wp2
   go_ret
   exact⟨rfl,(Below.refl _ _).alloc (Nat.le_refl _) _⟩
  ·rw[decide_eq_false b1,Bool.false_or]at hv
   have n1:=ne_lit [98,108,107] b1
   by_cases b2:S={ data:=#[99,111,110,116] }
   ·subst b2
    rw[decide_eq_true rfl,Bool.true_or]at hv
    subst hv
    clear b1
    go_wp2
    go_ret
    exact⟨rfl,(Below.refl _ _).alloc (Nat.le_refl _) _⟩
   ·rw[decide_eq_false b2,Bool.false_or]at hv
    have n2:=ne_lit [99,111,110,116] b2
    clear b1 b2
    by_cases b3:S={ data:=#[105,110,100] }
    ·subst b3
     rw[decide_eq_true rfl]at hv
     subst hv
     go_wp2
     go_ret
     exact⟨rfl,(Below.refl _ _).alloc (Nat.le_refl _) _⟩
    ·rw[decide_eq_false b3]at hv
     have n3:=ne_lit [105,110,100] b3
     clear b3
     subst hv
     go_wp2
     go_ret
     exact⟨rfl,(Below.refl _ _).alloc (Nat.le_refl _) _⟩
 ·rw[decide_eq_false h8,Bool.false_and]at hv
  have t1:(what==8)=false:=beq_eq_false_iff_ne.2 h8
  subst hv
  go_wp2
  go_ret
  exact⟨rfl,(Below.refl _ _).alloc (Nat.le_refl _) _⟩
set_option maxRecDepth 100000 in
set_option maxHeartbeats 4000000 in
theorem rin_any (x:Rl) (row:Int) (w:World) :
  Calls Tryz.prog 61 #[aggR x,.int .i64 row] w fun e w'=>e=.returned (.bool (inB x row))∧Below w.heap.size w w':=by
 obtain⟨what,left,cells,prio,line⟩:=x
 show Calls _ _ #[.agg #[.int .i64 what,.string (bytesOf left),.string (bytesOf cells),.int .i64 prio,.int .i64 line],.int .i64 row] w _
 obtain⟨S,hS⟩:∃ S,bytesOf left=S:=⟨_,rfl⟩
 obtain⟨T,hT⟩:∃ T,bytesOf cells=T:=⟨_,rfl⟩
 obtain⟨v,hv⟩:∃ v,inB ⟨what,left,cells,prio,line⟩ row=v:=⟨_,rfl⟩
 rw[hv,hS,hT]
 unfold inB at hv
 simp only[]at hv
 clear hS hT
 go_enter Tryz.func61,Tryz.ntmps61
 by_cases r1:row<1
 ·obtain rfl:false=v:=by rw[← hv,decide_eq_false (by omega)];rfl
  clear hv
  have t1:decide (row<1)=true:=decide_eq_true r1
  go_wp2
  go_ret
  exact⟨rfl,(Below.refl _ _).alloc (Nat.le_refl _) _⟩
 have t1:decide (row<1)=false:=decide_eq_false r1
 by_cases r3:3<row
 ·obtain rfl:false=v:=by rw[← hv,decide_eq_false (by omega)];rfl
  clear hv
  have t2:decide (3<row)=true:=decide_eq_true r3
  go_wp2
  go_ret
  exact⟨rfl,(Below.refl _ _).alloc (Nat.le_refl _) _⟩
 rw[decide_eq_true (by omega),Bool.true_and]at hv
 have t2:decide (3<row)=false:=decide_eq_false r3
 by_cases h6:what=6
 ·subst h6
  obtain rfl:true=v:=by rw[← hv];rfl
  clear hv
  go_wp2
  go_ret
  exact⟨rfl,(Below.refl _ _).alloc (Nat.le_refl _) _⟩
 have t6:(what==6)=false:=beq_eq_false_iff_ne.2 h6
 by_cases h8:what=8
 ·subst h8
  obtain rfl:true=v:=by rw[← hv];rfl
  clear hv
  go_wp2
  go_ret
  exact⟨rfl,(Below.refl _ _).alloc (Nat.le_refl _) _⟩
 have t8:(what==8)=false:=beq_eq_false_iff_ne.2 h8
 rw[decide_eq_false (by omega),Bool.false_or]at hv
 rcases(show row=1∨row=2∨row=3 by omega)with rfl | rfl | rfl
 ·rw[if_pos rfl]at hv
  by_cases h1:what=1
  ·subst h1
   obtain rfl:true=v:=by rw[← hv];rfl
   clear hv
   go_wp2
   go_ret
   exact⟨rfl,(Below.refl _ _).alloc (Nat.le_refl _) _⟩
  have t3:(what==1)=false:=beq_eq_false_iff_ne.2 h1
  clear r1 r3 h6 h8
  go_wp2
  go_ret
  refine⟨ret_bool ?_,(Below.refl _ _).alloc (Nat.le_refl _) _⟩
  rw[← hv]
  by_cases h2:what=2
  ·subst h2;rfl
  ·rw[decide_eq_false (by omega)];exact beq_eq_false_iff_ne.2 h2
 ·rw[if_neg (by decide),if_pos rfl]at hv
  by_cases h1:what=1
  ·subst h1
   obtain rfl:true=v:=by rw[← hv];rfl
   clear hv
   go_wp2
   go_ret
   exact⟨rfl,(Below.refl _ _).alloc (Nat.le_refl _) _⟩
  have t3:(what==1)=false:=beq_eq_false_iff_ne.2 h1
  by_cases h3:what=3
  ·subst h3
   obtain rfl:true=v:=by rw[← hv];rfl
   clear hv
   go_wp2
   go_ret
   exact⟨rfl,(Below.refl _ _).alloc (Nat.le_refl _) _⟩
  have t4:(what==3)=false:=beq_eq_false_iff_ne.2 h3
  clear r1 r3 h6 h8
  go_wp2
  go_ret
  refine⟨ret_bool ?_,(Below.refl _ _).alloc (Nat.le_refl _) _⟩
  rw[← hv]
  by_cases h4:what=4
  ·subst h4;rfl
  ·rw[decide_eq_false (by omega)];exact beq_eq_false_iff_ne.2 h4
 ·rw[if_neg (by decide),if_neg (by decide)]at hv
  clear r1 r3 h6 h8
  go_wp2
  go_ret
  refine⟨ret_bool ?_,(Below.refl _ _).alloc (Nat.le_refl _) _⟩
  rw[← hv]
  by_cases h7:what=7
  ·subst h7;rfl
  ·rw[decide_eq_false h7];exact beq_eq_false_iff_ne.2 h7
end Go.Proofs.YtlgejmcihchngaaGreatDoor.Ck
namespace Go.Proofs.YtlgejmcihchngaaGreatDoor.Ck
open Go.RowKit Ba Ru
set_option maxHeartbeats 2000000 in
theorem rwithin_any (a b:ByteArray) (ha:a.size≤1000000) (hb:b.size≤1000000) (w:World) :
  Calls Tryz.prog 63 #[.string a,.string b] w fun e w'=>e=.returned (.bool (withinB (bytesN a) (bytesN b)))∧w'=w:=by
 obtain⟨v,hv⟩:∃ v,withinB (bytesN a) (bytesN b)=v:=⟨_,rfl⟩
 rw[hv]
 rw[← within_zero]at hv
 have HV:=Lib.hid hv;clear hv
 go_enter Tryz.func63,Tryz.ntmps63
 go_wp2
 go_loopw [5] (fun i wr=>∃ k:Nat,k≤b.size+1∧i=.int .i64 k∧withinFrom (bytesN a) (bytesN b) 0=withinFrom (bytesN a) (bytesN b) k∧wr=w) (fun i _=>b.size+1 - (intOf i).toNat)
 case atStart=>exact⟨0,by omega,rfl,rfl,rfl⟩
 case round =>
  obtain⟨k,hk,rfl,hN,rfl⟩:=hrel
  by_cases hlt:k≤b.size
  ·have t1:decide ((k:Int)≤b.size)=true:=decide_eq_true (by omega)
   rw[within_step _ _ k (by rw[bytesN_len];exact hlt)]at hN
   have hex:bytesN (b.extract k b.size)=(bytesN b).drop k:=by
    rw[bytesN_ext,← bytesN_len,← List.length_drop,List.take_length]
   have hes:(b.extract k b.size).size≤1000000:=by rw[ByteArray.size_extract];omega
   rw[← hex]at hN
   obtain⟨p,hp⟩:∃ p,(bytesN a).isPrefixOf (bytesN (b.extract k b.size))=p:=⟨_,rfl⟩
   have HB:=Lib.hid (hp▸rbegins_any a (b.extract k b.size) ha hes wr)
   rw[hp]at hN
   have HN:=Lib.hid hN
   clear hN hp hex
   go_wp2_with fail
   refine HB.out.mono ?_
   rintro e w' ⟨rfl,rfl⟩
   cases p
   ·have HM:=Lib.hid (HN.out.trans (Bool.false_or _))
    go_wp2
    go_roundw
    case rel=>exact⟨k+1,by omega,by go_num,HM.out,trivial⟩
    case measure=>simp[intOf];omega
   ·have HM:=Lib.hid (HN.out.trans (Bool.true_or _))
    go_wp2
    go_ret
    refine⟨?_,rfl⟩
    rw[← HV.out,HM.out]
    rfl
  ·obtain rfl:k=b.size+1:=by omega
   have t1:decide (((b.size+1:Nat):Int)≤b.size)=false:=decide_eq_false (by omega)
   have HM:=Lib.hid (hN.trans (show withinFrom (bytesN a) (bytesN b) (b.size+1)=false by rw[← bytesN_len];exact within_end _ _))
   clear hN
   go_wp2
   go_ret
   refine⟨?_,rfl⟩
   rw[← HV.out,HM.out]
   rfl
set_option maxHeartbeats 2000000 in
theorem rhas_any (v:Value) (l:List Rl) (off:Nat) (q:Int) (t:ByteArray) (hl:l.length≤1000000) (hf:∀ x ∈ l,FitR x) (w:World) (B:Nat) (hv:ReadsR off w B v l) :
  Calls Tryz.prog 64 #[v,.int .i64 q,.string t] w fun e w'=>e=.returned (.bool (hasB l (q,bytesN t)))∧w'=w:=by
 obtain⟨A,c,rfl,hA⟩:=hv
 have HA:=Lib.hid hA;clear hA
 have HF:=Lib.hid hf;clear hf
 go_enter Tryz.func64,Tryz.ntmps64
 go_wp2
 go_loopw [7] (fun i wr=>∃ k:Nat,k≤l.length∧i=.int .i64 k∧hasB l (q,bytesN t)=hasB (l.drop k) (q,bytesN t)∧wr=w) (fun i _=>l.length - (intOf i).toNat)
 case atStart=>exact⟨0,by omega,rfl,rfl,rfl⟩
 case round =>
  obtain⟨k,hk,rfl,hN,rfl⟩:=hrel
  by_cases hlt:k<l.length
  ·obtain⟨g,rfl,-,hg⟩:=HA.out (by omega)
   obtain⟨x,hx⟩:∃ x,l[k]?=some x:=⟨_,List.getElem?_eq_getElem hlt⟩
   have g0:=hg k x hx 0 _ rfl
   have g1:=hg k x hx 1 _ rfl
   have hfx:=HF.out x (List.mem_of_getElem? hx)
   have hd:l.drop k=x::l.drop (k+1):=by
    rw[List.drop_eq_getElem_cons hlt]
    congr 1
    rw[List.getElem?_eq_getElem hlt]at hx
    exact Option.some.inj hx
   rw[hd,has_cons]at hN
   have hle:bytesOf x.left=t↔x.left=bytesN t:=⟨fun h=>by rw[← h,bytesN_bytesOf _ hfx.2.2.2.1],fun h=>by rw[h,bytesOf_bytesN]⟩
   obtain⟨xw,xl,xc,xp,xn⟩:=x
   obtain⟨L,hL⟩:∃ L,bytesOf xl=L:=⟨_,rfl⟩
   simp only[Nat.add_zero]at g0 g1 hN hle
   rw[hL]at g1 hle
   rw[show off+(k * 5+1)=off+k * 5+1 by omega]at g1
   clear hg HA HF hfx hd hx
   by_cases hq:xw=q
   ·subst hq
    by_cases hLt:L=t
    ·have HV:=Lib.hid (hN.trans (by rw[decide_eq_true ⟨rfl,hle.1 hLt⟩,Bool.true_or]))
     subst hLt
     clear hN hle
     go_wp2
     go_ret
     rw[HV.out]
     exact⟨rfl,rfl⟩
    ·have HV:=Lib.hid (hN.trans (by rw[decide_eq_false (fun h=>hLt (hle.2 h.2)),Bool.false_or]))
     have hne:=toList_ne hLt
     clear hN hle hLt
     go_wp2
     go_roundw
     case rel=>exact⟨k+1,by omega,by go_num,HV.out,trivial⟩
     case measure=>simp[intOf];omega
   ·have HV:=Lib.hid (hN.trans (by rw[decide_eq_false (fun h=>hq h.1),Bool.false_or]))
    have t1:(xw==q)=false:=beq_eq_false_iff_ne.2 hq
    clear hN hle hq
    go_wp2
    go_roundw
    case rel=>exact⟨k+1,by omega,by go_num,HV.out,trivial⟩
    case measure=>simp[intOf];omega
  ·obtain rfl:k=l.length:=by omega
   have HV:=Lib.hid (hN.trans (by rw[List.drop_length];rfl:hasB (l.drop l.length) (q,bytesN t)=false))
   clear hN
   go_wp2
   go_ret
   rw[HV.out]
   exact⟨rfl,rfl⟩
end Go.Proofs.YtlgejmcihchngaaGreatDoor.Ck
namespace Go.Proofs.YtlgejmcihchngaaGreatDoor.Ck
open Go.RowKit Ba Ru
def BoxS (w:World) (b:Nat) (q:Int) (S T:ByteArray) (p n:Int):Prop :=
 w.cell? ⟨b,0,none⟩=some (.int .i64 q)∧w.cell? ⟨b,1,none⟩=some (.string S)∧w.cell? ⟨b,2,none⟩=some (.string T)∧w.cell? ⟨b,3,none⟩=some (.int .i64 p)∧w.cell? ⟨b,4,none⟩=some (.int .i64 n)∧b<w.heap.size
theorem BoxS.below {w w':World} {b:Nat} {q:Int} {S T:ByteArray} {p n:Int} {B:Nat} (h:BoxS w b q S T p n) (hb:Below B w w') (hB:b<B):BoxS w' b q S T p n :=
 ⟨(hb.cell (p:=⟨b,0,none⟩) hB).trans h.1,(hb.cell (p:=⟨b,1,none⟩) hB).trans h.2.1,(hb.cell (p:=⟨b,2,none⟩) hB).trans h.2.2.1,(hb.cell (p:=⟨b,3,none⟩) hB).trans h.2.2.2.1,(hb.cell (p:=⟨b,4,none⟩) hB).trans h.2.2.2.2.1,Nat.lt_of_lt_of_le h.2.2.2.2.2 hb.size⟩
theorem BoxS.kept {w w':World} {b:Nat} {q:Int} {S T:ByteArray} {p n:Int} (h:BoxS w b q S T p n) (hb:Below w.heap.size w w'):BoxS w' b q S T p n:=h.below hb h.2.2.2.2.2
theorem BoxS.new (w:World) (q:Int) (S T:ByteArray) (p n:Int) (t:TypeId):BoxS (w.alloc (.cells #[.int .i64 q,.string S,.string T,.int .i64 p,.int .i64 n] t)) w.heap.size q S T p n:=by
 refine⟨?_,?_,?_,?_,?_,?_⟩<;>simp
theorem eq_lit {S:ByteArray} (l:List Nat) (h:bytesN S=l):S=bytesOf l:=by rw[← h,bytesOf_bytesN]
set_option maxRecDepth 100000 in
set_option maxHeartbeats 4000000 in
theorem ralone_any (x:Rl) (hf:FitR x) (h1:x.left.length≤70000) (h2:x.cells.length≤70000) (b:Bool) (hb:aloneB prC x=b) (w:World) :
  Calls Tryz.prog 32 #[aggR x] w fun e w'=>e=.returned (.bool b)∧Below w.heap.size w w':=by
 obtain⟨what,left,cells,prio,line⟩:=x
 obtain⟨k,hk⟩:∃ k,keptB ⟨what,left,cells,prio,line⟩=k:=⟨_,rfl⟩
 obtain⟨m,hm⟩:∃ m,mayR prC ⟨what,left,cells,prio,line⟩=m:=⟨_,rfl⟩
 have HK:=Lib.hid (fun W=>rkept_any ⟨what,left,cells,prio,line⟩ hf W)
 have HM:=Lib.hid (fun W=>rmay_any ⟨what,left,cells,prio,line⟩ hf h1 h2 m hm W)
 unfold aloneB at hb
 rw[hk,hm]at hb
 rw[hk]at HK
 simp only[aggR]at HK HM hb ⊢
 obtain⟨S,hS⟩:∃ S,bytesOf left=S:=⟨_,rfl⟩
 obtain⟨T,hT⟩:∃ T,bytesOf cells=T:=⟨_,rfl⟩
 have hSN:left=bytesN S:=by rw[← hS,bytesN_bytesOf _ hf.2.2.2.1]
 have hSs:S.size≤70000:=by rw[← hS,bytesOf_size];exact h1
 have hTs:T.size≤70000:=by rw[← hT,bytesOf_size];exact h2
 have hSz:left.length=S.size:=by rw[← hS,bytesOf_size]
 have hTz:cells.length=T.size:=by rw[← hT,bytesOf_size]
 rw[hS,hT]at HK HM ⊢
 rw[hSz,hTz,hSN]at hb
 clear h1 h2 hf hS hT hSN hSz hTz hk hm
 obtain⟨c1,hc1⟩:∃ c1,((k || decide (what=7∨what=1∧S.size=1)) && decide (T.size≠1))=c1:=⟨_,rfl⟩
 obtain⟨c2,hc2⟩:∃ c2,decide (what=8∧(bytesN S=[110,117,109]∨bytesN S=[108,101,116])∧2<T.size)=c2:=⟨_,rfl⟩
 rw[hc1,hc2]at hb
 have HC1:=Lib.hid hc1
 have HC2:=Lib.hid hc2
 have HB:=Lib.hid hb
 clear hc1 hc2 hb
 go_enter Tryz.func32,Tryz.ntmps32
 go_upto_region 1 with fail
 have HX:=BoxS.new w what S T prio line 50
 have HW:=(Below.refl w.heap.size w).alloc (Nat.le_refl _) (.cells #[.int .i64 what,.string S,.string T,.int .i64 prio,.int .i64 line] 50)
 generalize w.alloc _=w1 at HX HW ⊢
 go_cut [26] (fun u26 wx=>u26=.bool c1∧BoxS wx w.heap.size what S T prio line∧Below w.heap.size w wx)
 case first =>
  have HX:=Lib.hid HX
  have HW:=Lib.hid HW
  obtain⟨x0,x1,x2,x3,x4,x5⟩:=HX.out
  go_wp2_with fail
  refine(HK.out _).mono ?_
  rintro e w2 ⟨rfl,hb2⟩
  clear x0 x1 x2 x3 x4 x5
  have hx2:=HX.out.kept hb2
  have HE:=Lib.hid (show BoxS w2 w.heap.size what S T prio line∧Below w.heap.size w w2 from ⟨hx2,chain HW.out HW.out.size hb2⟩)
  obtain⟨x0,x1,x2,x3,x4,x5⟩:=hx2
  clear hb2
  obtain⟨d1,hd1⟩:∃ d,decide (T.size≠1)=d:=⟨_,rfl⟩
  have t1:((T.size:Int) != 1)=d1:=by
   rw[← hd1,Bool.eq_iff_iff,bne_iff_ne,decide_eq_true_eq];omega
  have HD1:=Lib.hid hd1
  clear hd1
  cases k
  ·by_cases h7:what=7
   ·subst h7
    cases d1
    all_goals
     go_wp2
     go_meet
     exact⟨by rw[← HC1.out,HD1.out];rfl,HE.out⟩
   ·have t7:(what==7)=false:=beq_eq_false_iff_ne.2 h7
    by_cases h1:what=1
    ·subst h1
     by_cases hs:S.size=1
     ·have ts:((S.size:Int)==1)=true:=by rw[beq_iff_eq];omega
      have HS:=Lib.hid hs
      clear hs
      cases d1
      all_goals
       go_wp2
       go_meet
       exact⟨by rw[← HC1.out,HD1.out,decide_eq_true (.inr ⟨by trivial,HS.out⟩)];rfl,HE.out⟩
     ·have ts:((S.size:Int)==1)=false:=beq_eq_false_iff_ne.2 (by omega)
      go_wp2
      go_meet
      exact⟨by rw[← HC1.out,decide_eq_false (fun h=>h.elim h7 fun h=>hs h.2)];rfl,HE.out⟩
    ·have t11:(what==1)=false:=beq_eq_false_iff_ne.2 h1
     go_wp2
     go_meet
     exact⟨by rw[← HC1.out,decide_eq_false (fun h=>h.elim h7 fun h=>h1 h.1)];rfl,HE.out⟩
  ·cases d1
   all_goals
    go_wp2
    go_meet
    exact⟨by rw[← HC1.out,HD1.out];rfl,HE.out⟩
 case rest =>
  obtain⟨rfl,hx,hw⟩:=hcut
  clear HX HW
  have HX:=Lib.hid hx
  have HW:=Lib.hid hw
  clear hx hw
  cases c1
  ·go_upto_region 3 with fail
   go_cut [45] (fun u45 wx=>u45=.bool c2∧BoxS wx w.heap.size what S T prio line∧Below w.heap.size w wx)
   case first =>
    obtain⟨x0,x1,x2,x3,x4,x5⟩:=HX.out
    obtain⟨d2,hd2⟩:∃ d,decide (2<T.size)=d:=⟨_,rfl⟩
    have t2:decide (2<(T.size:Int))=d2:=by
     rw[← hd2,decide_eq_decide];omega
    have HD2:=Lib.hid hd2
    clear hd2
    by_cases h8:what=8
    ·subst h8
     by_cases b1:S={ data:=#[110,117,109] }
     ·subst b1
      cases d2
      ·go_wp2
       go_meet
       exact⟨by rw[← HC2.out,decide_eq_false (fun h=>of_decide_eq_false HD2.out h.2.2)],HX.out,HW.out⟩
      ·go_wp2
       go_meet
       exact⟨by rw[← HC2.out,decide_eq_true ⟨by trivial,.inl rfl,of_decide_eq_true HD2.out⟩],HX.out,HW.out⟩
     ·have n1:=ne_lit [110,117,109] b1
      have B1:=Lib.hid (show bytesN S≠[110,117,109] from fun h=>b1 (eq_lit _ h))
      clear b1
      by_cases b2:S={ data:=#[108,101,116] }
      ·subst b2
       clear n1
       cases d2
       ·go_wp2
        go_meet
        exact⟨by rw[← HC2.out,decide_eq_false (fun h=>of_decide_eq_false HD2.out h.2.2)],HX.out,HW.out⟩
       ·go_wp2
        go_meet
        exact⟨by rw[← HC2.out,decide_eq_true ⟨by trivial,.inr rfl,of_decide_eq_true HD2.out⟩],HX.out,HW.out⟩
      ·have n2:=ne_lit [108,101,116] b2
       have B2:=Lib.hid (show bytesN S≠[108,101,116] from fun h=>b2 (eq_lit _ h))
       clear b2
       go_wp2
       go_meet
       exact⟨by rw[← HC2.out,decide_eq_false (fun h=>h.2.1.elim B1.out B2.out)],HX.out,HW.out⟩
    ·have t8:(what==8)=false:=beq_eq_false_iff_ne.2 h8
     go_wp2
     go_meet
     exact⟨by rw[← HC2.out,decide_eq_false (fun h=>h8 h.1)],HX.out,HW.out⟩
   case rest =>
    obtain⟨rfl,hx,hw⟩:=hcut
    clear HX HW
    have HW:=Lib.hid hw
    obtain⟨x0,x1,x2,x3,x4,x5⟩:=hx
    clear hw
    cases c2
    ·go_wp2_with fail
     refine(HM.out _).mono ?_
     rintro e w4 ⟨rfl,hb4⟩
     have HW4:=Lib.hid (chain HW.out HW.out.size hb4)
     clear hb4 x0 x1 x2 x3 x4 x5
     go_wp2
     go_ret
     exact⟨ret_bool (by rw[← HB.out];rfl),HW4.out⟩
    ·go_wp2
     go_ret
     exact⟨ret_bool (by rw[← HB.out];rfl),HW.out⟩
  ·go_wp2
   go_ret
   exact⟨ret_bool (by rw[← HB.out];rfl),HW.out⟩
end Go.Proofs.YtlgejmcihchngaaGreatDoor.Ck
