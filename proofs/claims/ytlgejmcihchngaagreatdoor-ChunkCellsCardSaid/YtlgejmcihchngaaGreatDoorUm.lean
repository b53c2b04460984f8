/-
  Put together: RvR, RvA, RvB.
-/
import Derived.Test.YtlgejmcihchngaaGreatDoorRows
import Derived.WalkKit
import Derived.Deep.RegionHeld3
import Derived.Test.YtlgejmcihchngaaGreatDoorUl
import Derived.Test.YtlgejmcihchngaaGreatDoorRuF
import Derived.Test.YtlgejmcihchngaaGreatDoorUh
import Derived.Test.YtlgejmcihchngaaGreatDoorHcA
import Derived.Test.YtlgejmcihchngaaGreatDoorUj
import Derived.Lib.SlicesS
import Derived.BigQuiet
import Derived.Test.YtlgejmcihchngaaGreatDoorRuG
import Derived.Test.YtlgejmcihchngaaGreatDoorVh
namespace Go.Proofs.YtlgejmcihchngaaGreatDoor.Rg
open Go.RowKit
variable {P:Program} {md:Region.Mode} {ops:Array Oper} {Q:Exit→Act→World→Prop} {S:World→Prop} {fuel:Nat} {listed:Array Bool} {a:Act} {w:World}
theorem take_un (i:Nat) {o:Oper} (ho:ops[i]?=some o) (hs:Region.noSelect ops=true) (hf:Region.free md ops listed i=true) (hr:(Region.ready md ops listed).contains i=true)
  (hQ:∀ c a w,Q (.panic c) (a.put o.dst undef) w→Q (.panic c) a w) (hw:Region.wanted o (yielded ops a.tmps)=false) (hS:S w)
  (h:wpAnyH P md ops Q S fuel (listed.setIfInBounds i true) (a.put o.dst undef) w):wpAnyH P md ops Q S (fuel+1) listed a w :=
 wpAnyH_take ho hs hf hr hQ (.inr ⟨hw,rfl⟩) hS h
theorem take_w (i:Nat) {o:Oper} (ho:ops[i]?=some o) (hs:Region.noSelect ops=true) (hf:Region.free md ops listed i=true) (hr:(Region.ready md ops listed).contains i=true)
  (v:Value) (hQ:∀ c a w,Q (.panic c) (a.put o.dst v) w→Q (.panic c) a w) (hw:Region.wanted o (yielded ops a.tmps)=true) (hv:∀ w,S w→(execOp a.eval o).run P w=.ok (.value v) w) (hS:S w)
  (h:wpAnyH P md ops Q S fuel (listed.setIfInBounds i true) (a.put o.dst v) w):wpAnyH P md ops Q S (fuel+1) listed a w :=
 wpAnyH_take ho hs hf hr hQ (.inl ⟨hw,hv⟩) hS h
theorem take_one (i:Nat) {o:Oper} (ho:ops[i]?=some o) (hr:Region.ready md ops listed=[i])
  (h:∀ K':Act→World→Prop,Shut (∀ a w,S w→(S w→wpAnyH P md ops Q S fuel (listed.setIfInBounds i true) a w)→K' a w)→if Region.wanted o (yielded ops a.tmps)=true then Oper.wp P o a w K' Q else K' (a.put o.dst undef) w) :
  wpAnyH P md ops Q S (fuel+1) listed a w :=
 wpAnyH_ready hr (by simp) (AllReadyH.cons ho h AllReadyH.nil)
end Go.Proofs.YtlgejmcihchngaaGreatDoor.Rg
namespace Go.Proofs.YtlgejmcihchngaaGreatDoor.Ru
open Go.RowKit Ba
theorem hc_laid {w:World} (h:LaidR w):Hc.Laid w:=h.ka
theorem hc_kc (s:ByteArray) (k:Nat):Hc.kc s k=((Ka.clsN (bAt s k):Nat):Int):=by
 have:Hc.bAt s k=((bAt s k:Nat):Int):=by
  unfold Hc.bAt bAt bytesN
  rw[List.getD_eq_getElem?_getD,List.getD_eq_getElem?_getD,List.getElem?_map]
  cases s.data.toList[k]?<;>rfl
 unfold Hc.kc Hc.cls
 rw[this,Int.toNat_natCast]
 rfl
theorem hc_up {s:ByteArray}:∀ n,(∀ j,j<n→Hc.kc s j≠2)→Hc.up s n=0
 | 0,_=>rfl
 | n+1,h=>by
  unfold Hc.up
  rw[hc_up n (fun j hj=>h j (by omega)),if_neg (h n (by omega))]
theorem hc_up_pos {s:ByteArray} {j:Nat} (h:Hc.kc s j=2):∀ n,j<n→0<Hc.up s n
 | 0,hj=>absurd hj (by omega)
 | n+1,hj=>by
  unfold Hc.up
  by_cases e:j=n
  ·subst e;rw[if_pos h];omega
  ·have:=hc_up_pos h n (by omega)
   omega
def smallB (s:List Nat):Bool:=decide (0<s.length) && s.all fun b=>Ka.clsN b==1
theorem case_small (s:ByteArray):decide (Hc.caseI s=1)=smallB (bytesN s):=by
 unfold smallB
 by_cases h0:s.size=0
 ·have:Hc.caseI s=0:=by unfold Hc.caseI;rw[if_pos h0]
  rw[this,decide_eq_false (by decide),bytesN_len,decide_eq_false (by omega),Bool.false_and]
 rw[bytesN_len,decide_eq_true (show 0<s.size by omega),Bool.true_and]
 have hall:(bytesN s).all (fun b=>Ka.clsN b==1)=true↔∀ j,j<s.size→Hc.kc s j=1:=by
  rw[List.all_eq_true]
  constructor
  ·intro h j hj
   have hm:bAt s j ∈ bytesN s:=by
    unfold bAt
    rw[List.getD_eq_getElem?_getD,List.getElem?_eq_getElem (by rw[bytesN_len];exact hj),Option.getD_some]
    exact List.getElem_mem ..
   have:=h _ hm
   rw[hc_kc,beq_iff_eq.1 this];rfl
  ·intro h b hb
   obtain⟨j,hj,rfl⟩:=Ce.mem_bytes s hb
   have:=h j hj
   rw[hc_kc]at this
   rw[beq_iff_eq]
   show Ka.clsN (bAt s j)=1
   omega
 by_cases hs:∀ j,j<s.size→Hc.kc s j=1
 ·rw[hall.2 hs,Hc.caseI_yes s (fun j hj=>.inl (hs j hj))]
  unfold Hc.caseV
  rw[if_neg h0,if_pos (hc_up s.size (fun j hj e=>by rw[hs j hj]at e;cases e))]
  rfl
 ·have e:(bytesN s).all (fun b=>Ka.clsN b==1)=false:=by
   rw[Bool.eq_false_iff];exact fun k=>hs (hall.1 k)
  rw[e,decide_eq_false]
  intro k
  by_cases hl:Hc.allL s s.size
  ·rw[Hc.caseI_yes s hl]at k
   obtain⟨j,hj,hk⟩:∃ j,j<s.size∧Hc.kc s j=2:=by
    refine Classical.byContradiction fun hn=>hs fun j hj=>?_
    rcases hl j hj with h | h
    ·exact h
    ·exact absurd ⟨j,hj,h⟩ hn
   have hp:=hc_up_pos hk s.size hj
   unfold Hc.caseV at k
   rw[if_neg h0,if_neg (by omega)]at k
   split at k
   ·cases k
   ·split at k<;>cases k
  ·rw[Hc.caseI_no s hl]at k;cases k
set_option maxHeartbeats 1000000 in
theorem ofLetters_at (z:Int) (b:Bool) (hb:decide (1≤z∧z≤5)=b) (w:World) :
  Calls Tryz.prog 159 #[.int .i64 z] w fun e w'=>e=.returned (.bool b)∧w=w':=by
 by_cases h1:1≤z
 ·have u1:decide ((1:Int)≤z)=true:=decide_eq_true h1
  have HB:=Lib.hid (show decide (z≤5)=b by
   rw[← hb]
   by_cases h5:z≤5
   ·rw[decide_eq_true h5,decide_eq_true ⟨h1,h5⟩]
   ·rw[decide_eq_false h5,decide_eq_false (fun k=>h5 k.2)])
  clear hb h1
  go_enter Tryz.func159,Tryz.ntmps159
  go_wp2
  go_ret
  exact⟨ret_bool HB.out,rfl⟩
 ·have u1:decide ((1:Int)≤z)=false:=decide_eq_false h1
  obtain rfl:false=b:=by rw[← hb,decide_eq_false (fun k=>h1 k.1)]
  clear hb h1
  go_enter Tryz.func159,Tryz.ntmps159
  go_wp2
  go_ret
  exact⟨rfl,rfl⟩
def oneB (k:Nat) (s:List Nat):Bool:=match s with | [b]=>Ka.clsN b==k | _=>false
set_option maxHeartbeats 1000000 in
theorem isOne_at (k:Nat) (s:ByteArray) (_hs:s.size≤maxLen) (b:Bool) (hb:oneB k (bytesN s)=b) (w:World) (hL:LaidR w) :
  Calls Tryz.prog 160 #[.string s,.int .i64 (k:Int)] w fun e w'=>e=.returned (.bool b)∧w=w':=by
 unfold maxLen at _hs
 by_cases h1:s.size=1
 ·have u1:((s.size:Int)==1)=true:=by rw[beq_iff_eq];omega
  have hk:(0:Nat)<s.size:=by omega
  have hb2:(((Ka.clsN (bAt s 0):Nat):Int)==(k:Int))=b:=by
   have e:bytesN s=[bAt s 0]:=by
    have hl:=bytesN_len s
    rw[h1]at hl
    match hm:bytesN s,hl with
    | [x],_=>unfold bAt;rw[hm];rfl
   rw[e]at hb
   rw[← hb]
   show _=(Ka.clsN (bAt s 0)==k)
   by_cases e2:Ka.clsN (bAt s 0)=k
   ·rw[e2];simp
   ·rw[beq_eq_false_iff_ne.2 e2,beq_eq_false_iff_ne.2 (by omega)]
  have HB:=Lib.hid hb2
  have hg:=bAt_get s 0 hk
  have HC:=Lib.hid (show Ka.cls ((s[0].toNat:Nat):Int)=((Ka.clsN (bAt s 0):Nat):Int) by rw[hg];rfl)
  have hlt:=bAt_lt s 0
  have hl2:s[0].toNat<256:=by rw[hg];exact hlt
  have HK:=Lib.hid hL.ka
  clear hb hb2 hg hL
  go_enter Tryz.func160,Tryz.ntmps160
  go_wp2_with (go_at_call 51;refine(Ka.class_at _ _ (by omega) (by omega) HC.out _ HK.out).mono ?_;rintro e w' ⟨rfl,rfl⟩)
  go_ret
  exact⟨ret_bool HB.out,rfl⟩
 ·have u1:((s.size:Int)==1)=false:=beq_eq_false_iff_ne.2 (by omega)
  obtain rfl:false=b:=by
   rw[← hb]
   have hl:=bytesN_len s
   unfold oneB
   split
   ·rename_i e;rw[e]at hl;exact absurd hl.symm h1
   ·rfl
  clear hb h1 hL
  go_enter Tryz.func160,Tryz.ntmps160
  go_wp2
  go_ret
  exact⟨rfl,rfl⟩
def namesS:ByteArray:={ data:=#[99,97,112,32,99,97,112,115,32,110,117,109,32,108,101,116,32,101,43,32,101,45,32,115,43,32,115,45,32,110,43,32,110,45,32,98,108,107,32,99,111,110,116,32,105,110,100] }
theorem fields_names:Lib.fields namesS.data.toList=namesL.map (·.map UInt8.ofNat):=by decide +kernel
theorem names_ascii:∀ (j:Nat) (b:UInt8),namesS.data.toList[j]?=some b→b.toNat<128:=fun j b h=>by
 have hall:∀ b ∈ namesS.data.toList,b.toNat<128:=by decide +kernel
 exact hall b (List.mem_of_getElem? h)
set_option maxRecDepth 100000 in
set_option maxHeartbeats 2000000 in
theorem names_at (w:World) (hL:LaidR w) :
  Calls Tryz.prog 143 #[] w fun e w'=>∃ v,e=.returned v∧w'.ownsRow w.heap.size 9 1 v 13 (rows cS namesL)∧Below w.heap.size w w':=by
 have HF:=Lib.hid (show Calls Tryz.prog 167 #[.string namesS] w fun e w'=>e=.returned (.slice (some ⟨w.heap.size,0,none⟩) 13 13)∧w'=w.alloc (.cells (rows cS namesL).toArray 9) from by
  have h:=Tryz.strings_Fields namesS w (by decide) names_ascii hL.space
  rw[fields_names]at h
  exact h)
 clear hL
 go_enter Tryz.func143,Tryz.ntmps143
 go_wp2_with fail
 refine HF.out.mono ?_
 rintro e w1 ⟨rfl,rfl⟩
 have HB:=Lib.hid ((Below.refl w.heap.size w).alloc (Nat.le_refl _) (.cells (rows cS namesL).toArray 9))
 have HO:=Lib.hid (World.ownsRow_lit (base:=w.heap.size) (e:=9) (size:=1) w (rows cS namesL).toArray 13 (Nat.le_refl _) (by decide) rfl)
 generalize w.alloc (.cells (rows cS namesL).toArray 9)=w1 at HB HO ⊢
 go_wp2
 go_ret
 exact⟨_,rfl,HO.out,HB.out⟩
def IdxTo (l:List (List Nat)) (s:List Nat) (w:World) (e:Ending) (w':World):Prop:=∃ z:Int,e=.returned (.int .i64 z)∧decide (0≤z)=l.contains s∧w=w'
set_option maxHeartbeats 4000000 in
theorem indexS_at (B g c n:Nat) (l:List (List Nat)) (s:ByteArray) (hn:l.length=n) (hn9:n≤1000) (hl:∀ x ∈ l,∀ b ∈ x,b<256) (w:World) (hown:w.ownsRow B 9 1 (.slice (some ⟨g,0,none⟩) n c) n (rows cS l)) :
  Calls Tryz.prog 174 #[.slice (some ⟨g,0,none⟩) n c,.string s] w (IdxTo l (bytesN s) w):=by
 have HO:=Lib.hid hown
 have HN:=Lib.hid hn
 have HLT:=Lib.hid hl
 clear hown hn hl
 go_enter Tryz.func174,Tryz.ntmps174
 go_wp2
 go_loop [8] (fun u8=>∃ k:Nat,u8=.int .i64 (k:Int)∧k≤n∧∀ j x,j<k→l[j]?=some x→x≠bytesN s) (fun u8=>n - (intOf u8).toNat)
 case atStart=>exact⟨0,rfl,Nat.zero_le _,fun j x h=>by omega⟩
 case round =>
  obtain⟨k,rfl,hk,hj⟩:=hrel
  have HJ:=Lib.hid hj
  have k0:(0:Int)≤(k:Int):=by omega
  clear hj
  by_cases hlt:k<n
  ·obtain⟨x,hx⟩:∃ x,l[k]?=some x:=⟨_,List.getElem?_eq_getElem (by rw[HN.out];exact hlt)⟩
   have HX:=Lib.hid hx
   have hc:w.cell? ⟨g,k,none⟩=some (.string (bytesOf x)):=by
    rw[HO.out.cellAt k (show k<n * 1 by omega)]
    have:=rows_at cS (fun _=>rfl) l k x hx 0 (by decide)
    rw[Nat.mul_one,Nat.add_zero]at this
    exact this
   have k1:(k:Int)<(n:Int):=by omega
   have hb:∀ b ∈ x,b<256:=HLT.out x (List.mem_of_getElem? hx)
   clear hx
   by_cases he:x=bytesN s
   ·have e2:bytesOf x=s:=by rw[he];exact bytesOf_bytesN s
    rw[e2]at hc
    have HC:=Lib.hid (show l.contains (bytesN s)=true by rw[List.contains_iff_mem,← he];exact List.mem_of_getElem? HX.out)
    have z1:(s.toList==s.toList)=true:=by simp
    clear he e2
    go_wp2
    go_ret
    exact⟨_,rfl,by rw[HC.out];exact decide_eq_true (by omega),rfl⟩
   ·have e2:s≠bytesOf x:=fun e=>he (by rw[e,bytesN_bytesOf _ hb])
    have z1:(s.toList==(bytesOf x).toList)=false:=toList_ne e2
    have HNX:=Lib.hid (show ∀ j x,j<k+1→l[j]?=some x→x≠bytesN s from fun j y h1 h2=>by
     rcases Nat.lt_or_ge j k with h | h
     ·exact HJ.out j y h h2
     ·obtain rfl:j=k:=by omega
      rw[HX.out]at h2;cases h2;exact he)
    clear he e2
    go_wp2
    go_round
    case rel=>exact⟨k+1,by go_num,by omega,HNX.out⟩
    case measure=>simp[intOf];omega
  ·obtain rfl:k=n:=by omega
   have HC:=Lib.hid (show l.contains (bytesN s)=false by
    rw[Bool.eq_false_iff]
    intro h
    rw[List.contains_iff_mem]at h
    obtain⟨j,hj,e⟩:=List.getElem_of_mem h
    exact HJ.out j (bytesN s) (by rw[← HN.out];exact hj) (by rw[List.getElem?_eq_getElem hj,e]) rfl)
   go_wp2
   go_ret
   exact⟨_,rfl,by rw[HC.out];rfl,rfl⟩
theorem names_lt:∀ x ∈ namesL,∀ b ∈ x,b<256:=by decide +kernel
set_option maxHeartbeats 1000000 in
theorem containsN_at (B g c:Nat) (s:ByteArray) (b:Bool) (hb:namesL.contains (bytesN s)=b) (w:World) (hown:w.ownsRow B 9 1 (.slice (some ⟨g,0,none⟩) 13 c) 13 (rows cS namesL)) :
  Calls Tryz.prog 161 #[.slice (some ⟨g,0,none⟩) 13 c,.string s] w fun e w'=>e=.returned (.bool b)∧w=w':=by
 have HI:=Lib.hid (indexS_at B g c 13 namesL s rfl (by decide) names_lt w hown)
 have HB:=Lib.hid hb
 clear hown hb
 go_enter Tryz.func161,Tryz.ntmps161
 go_wp2_with fail
 refine HI.out.mono ?_
 rintro e w1 ⟨z,rfl,hz,rfl⟩
 rw[HB.out]at hz
 have HZ:=Lib.hid hz
 clear hz
 go_wp2
 go_ret
 exact⟨ret_bool HZ.out,rfl⟩
def leftX (z:Int) (s:List Nat):Bool:=decide (1≤z∧z≤8) && leftB z.toNat s
def prioX (z p:Int):Bool:=if 1≤z∧z≤5 then decide (0≤p∧p≤99) else decide (p=0)
theorem left_letters {z:Int} (h:1≤z∧z≤5) (s:List Nat):leftX z s=(decide (s.length≤12) && smallB s):=by
 unfold leftX leftB smallB
 rw[decide_eq_true (by omega),Bool.true_and,if_pos (by omega)]
 by_cases h0:0<s.length
 ·by_cases h1:s.length≤12
  ·rw[decide_eq_true h0,decide_eq_true h1,decide_eq_true ⟨h0,h1⟩];simp
  ·rw[decide_eq_false h1,decide_eq_false (fun k=>h1 k.2)];simp
 ·rw[decide_eq_false h0,decide_eq_false (fun k=>h0 k.1)];simp
theorem left_6 (s:List Nat):leftX 6 s=oneB 4 s:=by unfold leftX leftB oneB;rfl
theorem left_7 (s:List Nat):leftX 7 s=oneB 3 s:=by unfold leftX leftB oneB;rfl
theorem left_8 (s:List Nat):leftX 8 s=namesL.contains s:=by unfold leftX leftB;rfl
theorem left_none {z:Int} (h:¬ (1≤z∧z≤8)) (s:List Nat):leftX z s=false:=by unfold leftX;rw[decide_eq_false h,Bool.false_and]
theorem mayR_x {what:Int} {left cells:List Nat} {prio line:Int} (hc:∀ x ∈ cells,x<256) :
  mayR prC ⟨what,left,cells,prio,line⟩=(decide (Ce.printE (bytesOf cells)=0) && leftX what left && prioX what prio):=by
 rw[mayR_is hc]
 unfold leftX prioB prioX
 by_cases h:1≤what∧what≤8
 ·rw[decide_eq_true h]
  by_cases h5:what≤5
  ·rw[if_pos h5,if_pos ⟨h.1,h5⟩]
   cases leftB what.toNat left<;>cases decide (Ce.printE (bytesOf cells)=0)<;>rfl
  ·rw[if_neg h5,if_neg (fun k=>h5 k.2)]
   cases leftB what.toNat left<;>cases decide (Ce.printE (bytesOf cells)=0)<;>rfl
 ·rw[decide_eq_false h]
  cases decide (Ce.printE (bytesOf cells)=0)<;>rfl
set_option maxRecDepth 100000 in
set_option maxHeartbeats 2000000 in
theorem mayPrio_at (z:Int) (S T:ByteArray) (p l:Int) (b:Bool) (hb:prioX z p=b) (w:World) :
  Calls Tryz.prog 133 #[.agg #[.int .i64 z,.string S,.string T,.int .i64 p,.int .i64 l]] w fun e w'=>e=.returned (.bool b)∧Below w.heap.size w w':=by
 have HBW:=Lib.hid ((Below.refl w.heap.size w).alloc (Nat.le_refl _) (.cells #[.int .i64 z,.string S,.string T,.int .i64 p,.int .i64 l] 50))
 unfold prioX at hb
 by_cases h5:1≤z∧z≤5
 ·rw[if_pos h5]at hb
  have HO:=Lib.hid (fun W=>ofLetters_at z true (decide_eq_true h5) W)
  by_cases p0:0≤p
  ·have u0:decide ((0:Int)≤p)=true:=decide_eq_true p0
   have HB:=Lib.hid (show decide (p≤99)=b by
    rw[← hb]
    by_cases h9:p≤99
    ·rw[decide_eq_true h9,decide_eq_true ⟨p0,h9⟩]
    ·rw[decide_eq_false h9,decide_eq_false (fun k=>h9 k.2)])
   clear hb h5 p0
   go_enter Tryz.func133,Tryz.ntmps133
   go_wp2_with (go_at_call 159;refine(HO.out _).mono ?_;rintro e w' ⟨rfl,rfl⟩)
   go_ret
   exact⟨ret_bool HB.out,HBW.out⟩
  ·have u0:decide ((0:Int)≤p)=false:=decide_eq_false p0
   obtain rfl:false=b:=by rw[← hb,decide_eq_false (fun k=>p0 k.1)]
   clear hb h5 p0
   go_enter Tryz.func133,Tryz.ntmps133
   go_wp2_with (go_at_call 159;refine(HO.out _).mono ?_;rintro e w' ⟨rfl,rfl⟩)
   go_ret
   exact⟨rfl,HBW.out⟩
 ·rw[if_neg h5]at hb
  have HO:=Lib.hid (fun W=>ofLetters_at z false (decide_eq_false h5) W)
  have HB:=Lib.hid (show (p==0)=b by
   rw[← hb]
   by_cases h9:p=0
   ·rw[h9];rfl
   ·rw[decide_eq_false h9];exact beq_eq_false_iff_ne.2 h9)
  clear hb h5
  go_enter Tryz.func133,Tryz.ntmps133
  go_wp2_with (go_at_call 159;refine(HO.out _).mono ?_;rintro e w' ⟨rfl,rfl⟩)
  go_ret
  exact⟨ret_bool HB.out,HBW.out⟩
abbrev SL (w:World) (S:ByteArray) (W:World):Prop:=W.cell? ⟨w.heap.size,1,none⟩=some (.string S)∧w.heap.size<W.heap.size∧LaidR W∧Below w.heap.size w W
theorem SL.laid {w:World} {S:ByteArray} {W:World} (h:SL w S W):LaidR W:=h.2.2.1
set_option maxRecDepth 100000 in
set_option maxHeartbeats 4000000 in
theorem mayLeft_at (z:Int) (S T:ByteArray) (hS:S.size≤70000) (p l:Int) (b:Bool) (hb:leftX z (bytesN S)=b) (w:World) (hL:LaidR w) :
  Calls Tryz.prog 132 #[.agg #[.int .i64 z,.string S,.string T,.int .i64 p,.int .i64 l]] w fun e w'=>e=.returned (.bool b)∧Below w.heap.size w w':=by
 have hbw:=(Below.refl w.heap.size w).alloc (Nat.le_refl _) (.cells #[.int .i64 z,.string S,.string T,.int .i64 p,.int .i64 l] 50)
 have HLW:=Lib.hid (hL.below hbw hL.1)
 have HBW:=Lib.hid hbw
 clear hbw hL
 by_cases h5:1≤z∧z≤5
 ·rw[left_letters h5,bytesN_len]at hb
  have HO:=Lib.hid (fun W=>ofLetters_at z true (decide_eq_true h5) W)
  by_cases h12:S.size≤12
  ·rw[decide_eq_true h12,Bool.true_and,← case_small]at hb
   have u0:decide ((S.size:Int)≤12)=true:=decide_eq_true (by omega)
   have HB:=Lib.hid (show (Hc.caseI S==1)=b by rw[← hb];rfl)
   clear hb h5
   go_enter Tryz.func132,Tryz.ntmps132
   go_wp2_with (first
    |(go_at_call 159;refine(HO.out _).mono ?_;rintro e w' ⟨rfl,rfl⟩)
    |(go_at_call 76;refine(Hc.case_any S (by omega) _ (hc_laid HLW.out)).mono ?_;rintro e w2 ⟨rfl,hb2⟩;have HB2:=Lib.hid (chain HBW.out HBW.out.size hb2);clear hb2))
   go_ret
   exact⟨ret_bool HB.out,HB2.out⟩
  ·have u0:decide ((S.size:Int)≤12)=false:=decide_eq_false (by omega)
   obtain rfl:false=b:=by rw[← hb,decide_eq_false h12,Bool.false_and]
   clear hb h5
   go_enter Tryz.func132,Tryz.ntmps132
   go_wp2_with (go_at_call 159;refine(HO.out _).mono ?_;rintro e w' ⟨rfl,rfl⟩)
   go_ret
   exact⟨rfl,HBW.out⟩
 have HO:=Lib.hid (fun W=>ofLetters_at z false (decide_eq_false h5) W)
 by_cases h6:z=6
 ·subst h6
  rw[left_6]at hb
  have HI:=Lib.hid (fun W hW=>isOne_at 4 S (by unfold maxLen;omega) b hb W hW)
  clear hb h5
  go_enter Tryz.func132,Tryz.ntmps132
  go_wp2_with (first
   |(go_at_call 159;refine(HO.out _).mono ?_;rintro e w' ⟨rfl,rfl⟩)
   |(go_at_call 160;refine(HI.out _ HLW.out).mono ?_;rintro e w2 ⟨rfl,rfl⟩))
  go_ret
  exact⟨rfl,HBW.out⟩
 by_cases h7:z=7
 ·subst h7
  rw[left_7]at hb
  have HI:=Lib.hid (fun W hW=>isOne_at 3 S (by unfold maxLen;omega) b hb W hW)
  clear hb h5
  go_enter Tryz.func132,Tryz.ntmps132
  go_wp2_with (first
   |(go_at_call 159;refine(HO.out _).mono ?_;rintro e w' ⟨rfl,rfl⟩)
   |(go_at_call 160;refine(HI.out _ HLW.out).mono ?_;rintro e w2 ⟨rfl,rfl⟩))
  go_ret
  exact⟨rfl,HBW.out⟩
 have v6:(z==6)=false:=beq_eq_false_iff_ne.2 h6
 have v7:(z==7)=false:=beq_eq_false_iff_ne.2 h7
 by_cases h8:z=8
 ·subst h8
  rw[left_8]at hb
  have HN:=Lib.hid hb
  clear hb h5 h6 h7
  go_enter Tryz.func132,Tryz.ntmps132
  go_wp2_with (go_at_call 159;refine(HO.out _).mono ?_;rintro e w' ⟨rfl,rfl⟩)
  generalize hw1:w.alloc _=w1 at HLW HBW ⊢
  have C1:w1.cell? ⟨w.heap.size,1,none⟩=some (.string S):=by rw[← hw1];simp
  have hs1:w.heap.size<w1.heap.size:=by rw[← hw1];simp
  clear hw1
  have HKC:=Lib.hid (show ∀ W:World,Below w1.heap.size w1 W→SL w S W from fun W hW=>⟨(hW.cell (p:=⟨w.heap.size,1,none⟩) hs1).trans C1,Nat.lt_of_lt_of_le hs1 hW.size,HLW.out.kept hW,chain HBW.out HBW.out.size hW⟩)
  have HCC:=Lib.hid (show ∀ W W':World,SL w S W→Below W.heap.size W W'→SL w S W' from fun W W' h hb=>⟨(hb.cell (p:=⟨w.heap.size,1,none⟩) h.2.1).trans h.1,Nat.lt_of_lt_of_le h.2.1 hb.size,h.2.2.1.kept hb,chain h.2.2.2 h.2.2.2.size hb⟩)
  go_region_held3 (fun W=>W.cell? ⟨w.heap.size,1,none⟩=some (.string S)∧w.heap.size<W.heap.size∧LaidR W∧Below w.heap.size w W)
   (first | assumption | exact HKC.out _ (Below.refl _ _) | exact HKC.out _ (Below.refl _ _).drew)
   (first
    |(go_at_call 143;refine(names_at _ (SL.laid (by assumption))).mono ?_;rintro en w2 ⟨v2,rfl,own2,hb2⟩;obtain⟨g2,c2,rfl,-⟩:=own_slice own2 (by decide);have hS2:=HCC.out _ _ (by assumption) hb2)
    |(go_at_call 161;refine(containsN_at _ _ _ _ _ HN.out _ own2).mono ?_;rintro en w3 ⟨rfl,rfl⟩))
  have HBX:=Lib.hid hS2.2.2.2
  go_wp2
  go_ret
  exact⟨rfl,HBX.out⟩
 ·have v8:(z==8)=false:=beq_eq_false_iff_ne.2 h8
  obtain rfl:false=b:=by rw[← hb,left_none (by omega)]
  clear hb h5 h6 h7 h8
  go_enter Tryz.func132,Tryz.ntmps132
  go_wp2_with (go_at_call 159;refine(HO.out _).mono ?_;rintro e w' ⟨rfl,rfl⟩)
  go_ret
  exact⟨rfl,HBW.out⟩
end Go.Proofs.YtlgejmcihchngaaGreatDoor.Ru
namespace Go.Proofs.YtlgejmcihchngaaGreatDoor.Ru
open Go.RowKit Ba
set_option maxRecDepth 100000 in
set_option maxHeartbeats 4000000 in
theorem may5_at (z:Int) (S T:ByteArray) (hS:S.size≤70000) (hT:T.size≤70000) (p l:Int) (b:Bool) (hb:(decide (Ce.printE T=0) && leftX z (bytesN S) && prioX z p)=b) (w:World) (hL:LaidR w) :
  Calls Tryz.prog 97 #[.agg #[.int .i64 z,.string S,.string T,.int .i64 p,.int .i64 l]] w fun e w'=>e=.returned (.bool b)∧Below w.heap.size w w':=by
 obtain⟨q,hq⟩:∃ q,Ce.printE T=q:=⟨_,rfl⟩
 obtain⟨V,hV⟩:∃ V,Ce.printV T=V:=⟨_,rfl⟩
 have HPR:=Lib.hid (hq▸hV▸Ce.print_any T (by omega))
 rw[hq]at hb
 have hq01:q=0∨q=1:=by
  rw[← hq];unfold Ce.printE;split
  ·exact .inl rfl
  ·exact .inr rfl
 have HL:=Lib.hid hL
 clear hq hV hL
 go_enter Tryz.func97,Tryz.ntmps97
 go_upto_region 1 with fail
 generalize hw1:w.alloc _=w1
 have hst:StB w1 w.heap.size z S T p l:=by rw[← hw1];exact StB.new w z S T p l
 have hb1:Below w.heap.size w w1:=by rw[← hw1];exact(Below.refl _ _).alloc (Nat.le_refl _) _
 have HB1:=Lib.hid hb1
 have HL1:=Lib.hid (HL.out.kept hb1)
 have HS1:=Lib.hid hst
 have C2:=hst.c2
 clear hw1 hst hb1
 go_wp2_with fail
 refine(HPR.out _).mono ?_
 rintro e w2 ⟨rfl,hb2⟩
 have HB2:=Lib.hid (chain HB1.out HB1.out.size hb2)
 have HL2:=Lib.hid (HL1.out.kept hb2)
 have HS2:=Lib.hid (HS1.out.kept hb2)
 obtain⟨D0,D1,D2,D3,D4⟩:w2.cell? ⟨w.heap.size,0,none⟩=some (.int .i64 z)∧w2.cell? ⟨w.heap.size,1,none⟩=some (.string S)∧w2.cell? ⟨w.heap.size,2,none⟩=some (.string T)∧w2.cell? ⟨w.heap.size,3,none⟩=some (.int .i64 p)∧w2.cell? ⟨w.heap.size,4,none⟩=some (.int .i64 l):=⟨HS2.out.c0,HS2.out.c1,HS2.out.c2,HS2.out.c3,HS2.out.c4⟩
 clear hb2 C2
 rcases hq01 with rfl | rfl
 ·obtain⟨lx,hlx⟩:∃ lx,leftX z (bytesN S)=lx:=⟨_,rfl⟩
  rw[hlx,decide_eq_true rfl,Bool.true_and]at hb
  have HLX:=Lib.hid hlx
  clear hlx
  cases lx
  ·obtain rfl:false=b:=by rw[← hb];rfl
   clear hb
   go_wp2_with (go_at_call 132;refine(mayLeft_at z S T hS p l false HLX.out _ HL2.out).mono ?_;rintro e w3 ⟨rfl,hb3⟩;have HB3:=Lib.hid (chain HB2.out HB2.out.size hb3);clear hb3)
   go_ret
   exact⟨rfl,HB3.out⟩
  ·rw[Bool.true_and]at hb
   have HPX:=Lib.hid hb
   clear hb
   go_wp2_with fail
   refine(mayLeft_at z S T hS p l true HLX.out _ HL2.out).mono ?_
   rintro e w3 ⟨rfl,hb3⟩
   have HB3:=Lib.hid (chain HB2.out HB2.out.size hb3)
   obtain⟨E0,E1,E2,E3,E4⟩:w3.cell? ⟨w.heap.size,0,none⟩=some (.int .i64 z)∧w3.cell? ⟨w.heap.size,1,none⟩=some (.string S)∧w3.cell? ⟨w.heap.size,2,none⟩=some (.string T)∧w3.cell? ⟨w.heap.size,3,none⟩=some (.int .i64 p)∧w3.cell? ⟨w.heap.size,4,none⟩=some (.int .i64 l) :=
    have h:=HS2.out.kept hb3
    ⟨h.c0,h.c1,h.c2,h.c3,h.c4⟩
   clear hb3 D0 D1 D2 D3 D4
   go_wp2_with fail
   refine(mayPrio_at z S T p l b HPX.out _).mono ?_
   rintro e w4 ⟨rfl,hb4⟩
   have HB4:=Lib.hid (chain HB3.out HB3.out.size hb4)
   clear hb4
   go_wp2
   go_ret
   exact⟨rfl,HB4.out⟩
 ·obtain rfl:false=b:=by rw[← hb];rfl
  clear hb
  go_wp2
  go_ret
  exact⟨rfl,HB2.out⟩
theorem may_at (x:Rl) (hl:∀ b ∈ x.left,b<256) (hc:∀ b ∈ x.cells,b<256) (h1:x.left.length≤70000) (h2:x.cells.length≤70000) (b:Bool) (hb:mayR prC x=b) (w:World) (hL:LaidR w) :
  Calls Tryz.prog 97 #[aggR x] w fun e w'=>e=.returned (.bool b)∧Below w.heap.size w w':=by
 obtain⟨what,left,cells,prio,line⟩:=x
 rw[mayR_x hc]at hb
 refine may5_at what (bytesOf left) (bytesOf cells) (by rw[bytesOf_size];exact h1) (by rw[bytesOf_size];exact h2) prio line b ?_ w hL
 rw[bytesN_bytesOf _ hl]
 exact hb
def FirstTo (l:List Rl) (q:Rl→Bool) (w:World) (e:Ending) (w':World):Prop :=
 ((∃ (k:Nat) (x:Rl),e=.returned (.int .i64 (k:Int))∧l[k]?=some x∧l.find? q=some x)∨(e=.returned (.int .i64 (-1))∧l.find? q=none))∧Below w.heap.size w w'
theorem find_at {l:List Rl} {q:Rl→Bool}:∀ {k:Nat} {x:Rl},l[k]?=some x→q x=true→(∀ j y,j<k→l[j]?=some y→q y=false)→l.find? q=some x:=by
 induction l with
 | nil=>intro k x h;simp at h
 | cons y l ih =>
  intro k x h hq hn
  cases k with
  | zero =>
   simp at h;subst h
   rw[List.find?_cons,hq]
  | succ k =>
   have h0:=hn 0 y (by omega) rfl
   rw[List.find?_cons,h0]
   exact ih (k:=k) (by simpa using h) hq (fun j z hj hz=>hn (j+1) z (by omega) (by simpa using hz))
theorem find_no {l:List Rl} {q:Rl→Bool} (h:∀ j y,j<l.length→l[j]?=some y→q y=false):l.find? q=none:=by
 rw[List.find?_eq_none]
 intro x hx
 obtain⟨j,hj,e⟩:=List.getElem_of_mem hx
 rw[h j x hj (by rw[List.getElem?_eq_getElem hj,e])]
 simp
theorem clone_at (s:ByteArray) (h:s.size≤281474976710656) (w:World):Calls Tryz.prog 70 #[.string s] w fun e w'=>e=.returned (.string s)∧Below w.heap.size w w':=by
 go_enter Tryz.func70,Tryz.ntmps70
 go_wp2_with (go_at_call 105;refine(Tryz.stringslite_Clone s _ h).mono ?_;rintro e w' ⟨rfl,hb⟩)
 go_ret
 exact⟨rfl,hb⟩
end Go.Proofs.YtlgejmcihchngaaGreatDoor.Ru
