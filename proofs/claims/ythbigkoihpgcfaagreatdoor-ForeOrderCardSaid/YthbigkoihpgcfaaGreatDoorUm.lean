/-
  Put together.
-/
import Derived.Test.YthbigkoihpgcfaaGreatDoorHcA
import Derived.Test.YthbigkoihpgcfaaGreatDoorRuF
import Derived.Test.YthbigkoihpgcfaaGreatDoorSb
import Derived.Test.YthbigkoihpgcfaaGreatDoorTsG
import Derived.Test.YthbigkoihpgcfaaGreatDoorUh
import Derived.Test.YthbigkoihpgcfaaGreatDoorUj
import Derived.Test.YthbigkoihpgcfaaGreatDoorUl
import Derived.Test.YthbigkoihpgcfaaGreatDoorRows
import Derived.WalkKit
import Derived.Deep.RegionHeld3
import Derived.Lib.SlicesS
import Derived.BigQuiet
open Go.Lib (hid)
set_option maxRecDepth 100000
set_option maxHeartbeats 16000000
namespace Go.Proofs.YthbigkoihpgcfaaGreatDoor.Rg
open Go.RowKit
variable {P:Program} {md:Region.Mode} {ops:Array Oper} {Q:Exit→Act→World→Prop} {S:World→Prop} {fuel:Nat} {listed:Array Bool} {a:Act} {w:World}
theorem aFV (i:Nat) {o:Oper} (ho:ops[i]?=some o) (hs:Region.noSelect ops=true) (hf:Region.free md ops listed i=true) (hr:(Region.ready md ops listed).contains i=true)
  (hQ:∀ c a w,Q (.panic c) (a.put o.dst undef) w→Q (.panic c) a w) (hw:Region.wanted o (yielded ops a.tmps)=false) (hS:S w)
  (h:wpAnyH P md ops Q S fuel (listed.setIfInBounds i true) (a.put o.dst undef) w):wpAnyH P md ops Q S (fuel+1) listed a w :=
 wpAnyH_take ho hs hf hr hQ (.inr ⟨hw,rfl⟩) hS h
theorem NB (i:Nat) {o:Oper} (ho:ops[i]?=some o) (hs:Region.noSelect ops=true) (hf:Region.free md ops listed i=true) (hr:(Region.ready md ops listed).contains i=true)
  (v:Value) (hQ:∀ c a w,Q (.panic c) (a.put o.dst v) w→Q (.panic c) a w) (hw:Region.wanted o (yielded ops a.tmps)=true) (hv:∀ w,S w→(execOp a.eval o).run P w=.ok (.value v) w) (hS:S w)
  (h:wpAnyH P md ops Q S fuel (listed.setIfInBounds i true) (a.put o.dst v) w):wpAnyH P md ops Q S (fuel+1) listed a w :=
 wpAnyH_take ho hs hf hr hQ (.inl ⟨hw,hv⟩) hS h
theorem take_one (i:Nat) {o:Oper} (ho:ops[i]?=some o) (hr:Region.ready md ops listed=[i])
  (h:∀ K':Act→World→Prop,Shut (∀ a w,S w→(S w→wpAnyH P md ops Q S fuel (listed.setIfInBounds i true) a w)→K' a w)→if Region.wanted o (yielded ops a.tmps)=true then Oper.wp P o a w K' Q else K' (a.put o.dst undef) w) :
  wpAnyH P md ops Q S (fuel+1) listed a w :=
 wpAnyH_ready hr (by simp) (AllReadyH.cons ho h AllReadyH.nil)
theorem tk (i:Nat) {o:Oper} {v:Value} (hv:∀ w,S w→(execOp a.eval o).run P w=.ok (.value v) w) (h:wpAnyH P md ops Q S fuel (listed.setIfInBounds i true) (a.put o.dst v) w) (ho:ops[i]?=some o:=by simp only[List.getElem?_toArray,List.getElem?_cons_succ,List.getElem?_cons_zero];rfl) (hs:Region.noSelect ops=true:=by kernel_rfl) (hf:Region.free md ops listed i=true:=by kernel_rfl) (hr:(Region.ready md ops listed).contains i=true:=by kernel_rfl) (hQ:∀ c a w,Q (.panic c) (a.put o.dst v) w→Q (.panic c) a w:=by exact fun _ _ _ h=>h) (hw:Region.wanted o (yielded ops a.tmps)=true:=by rfl) (hS:S w:=by with_reducible assumption):wpAnyH P md ops Q S (fuel+1) listed a w:=
 wpAnyH_take ho hs hf hr hQ (.inl ⟨hw,hv⟩) hS h
theorem tu (i:Nat) {o:Oper} (h:wpAnyH P md ops Q S fuel (listed.setIfInBounds i true) (a.put o.dst undef) w) (ho:ops[i]?=some o:=by simp only[List.getElem?_toArray,List.getElem?_cons_succ,List.getElem?_cons_zero];rfl) (hs:Region.noSelect ops=true:=by kernel_rfl) (hf:Region.free md ops listed i=true:=by kernel_rfl) (hr:(Region.ready md ops listed).contains i=true:=by kernel_rfl) (hQ:∀ c a w,Q (.panic c) (a.put o.dst undef) w→Q (.panic c) a w:=by exact fun _ _ _ h=>h) (hw:Region.wanted o (yielded ops a.tmps)=false:=by rfl) (hS:S w:=by with_reducible assumption):wpAnyH P md ops Q S (fuel+1) listed a w:=
 wpAnyH_take ho hs hf hr hQ (.inr ⟨hw,rfl⟩) hS h
theorem zP (t:Array Value) (d) (i:Nat) (v:Value):(Act.mk t d).put (some i) v=Act.mk (t.setIfInBounds i v) d:=rfl
theorem zN (a:Act) (v:Value):a.put none v=a:=rfl
theorem zA {α:Type} (l:List α) (i:Nat) (v:α):l.toArray.setIfInBounds i v=(l.set i v).toArray:=List.setIfInBounds_toArray ..
theorem zB {α:Type} (x:α) (l:List α) (v:α):(x::l).set 0 v=v::l:=rfl
theorem zC {α:Type} (x:α) (l:List α) (n:Nat) (v:α):(x::l).set (n+1) v=x::l.set n v:=rfl
end Go.Proofs.YthbigkoihpgcfaaGreatDoor.Rg
namespace Go.Proofs.YthbigkoihpgcfaaGreatDoor.Ru
open Go.RowKit Ba
theorem kE {w:World} (h:dP w):Hc.Laid w:=h.ka
theorem aDA (s:ByteArray) (k:Nat):Hc.kc s k=((Ka.fJ (aV s k):Nat):Int):=by
 have:Hc.aV s k=((aV s k:Nat):Int):=by
  unfold Hc.aV aV aA
  rw[List.getD_eq_getElem?_getD,List.getD_eq_getElem?_getD,List.getElem?_map]
  cases s.data.toList[k]?<;>rfl
 unfold Hc.kc Hc.cls
 rw[this,Int.toNat_natCast]
 rfl
theorem aDB {s:ByteArray}:∀ n,(∀ j,j<n→Hc.kc s j≠2)→Hc.up s n=0
 | 0,_=>rfl
 | n+1,h=>by
  unfold Hc.up
  rw[aDB n (fun j hj=>h j (by omega)),if_neg (h n (by omega))]
theorem DK {s:ByteArray} {j:Nat} (h:Hc.kc s j=2):∀ n,j<n→0<Hc.up s n
 | 0,hj=>absurd hj (by omega)
 | n+1,hj=>by
  unfold Hc.up
  by_cases e:j=n
  ·subst e;rw[if_pos h];omega
  ·have:=DK h n (by omega)
   omega
def aW (s:List Nat):Bool:=decide (0<s.length) && s.all fun b=>Ka.fJ b==1
theorem OF (s:ByteArray):decide (Hc.j7 s=1)=aW (aA s):=by
 unfold aW
 by_cases h0:s.size=0
 ·have:Hc.j7 s=0:=by unfold Hc.j7;rw[if_pos h0]
  rw[this,decide_eq_false (by decide),aD,decide_eq_false (by omega),Bool.false_and]
 rw[aD,decide_eq_true (show 0<s.size by omega),Bool.true_and]
 have hall:(aA s).all (fun b=>Ka.fJ b==1)=true↔∀ j,j<s.size→Hc.kc s j=1:=by
  rw[List.all_eq_true]
  constructor
  ·intro h j hj
   have hm:aV s j ∈ aA s:=by
    unfold aV
    rw[List.getD_eq_getElem?_getD,List.getElem?_eq_getElem (by rw[aD];exact hj),Option.getD_some]
    exact List.getElem_mem ..
   have:=h _ hm
   rw[aDA,beq_iff_eq.1 this];rfl
  ·intro h b hb
   obtain⟨j,hj,rfl⟩:=Ce.mM s hb
   have:=h j hj
   rw[aDA]at this
   rw[beq_iff_eq]
   show Ka.fJ (aV s j)=1
   omega
 by_cases hs:∀ j,j<s.size→Hc.kc s j=1
 ·rw[hall.2 hs,Hc.mV s (fun j hj=>.inl (hs j hj))]
  unfold Hc.eY
  rw[if_neg h0,if_pos (aDB s.size (fun j hj e=>by rw[hs j hj]at e;cases e))]
  rfl
 ·have e:(aA s).all (fun b=>Ka.fJ b==1)=false:=by
   rw[Bool.eq_false_iff];exact fun k=>hs (hall.1 k)
  rw[e,decide_eq_false]
  intro k
  by_cases hl:Hc.BH s s.size
  ·rw[Hc.mV s hl]at k
   obtain⟨j,hj,hk⟩:∃ j,j<s.size∧Hc.kc s j=2:=by
    refine Classical.byContradiction fun hn=>hs fun j hj=>?_
    rcases hl j hj with h | h
    ·exact h
    ·exact absurd ⟨j,hj,h⟩ hn
   have hp:=DK hk s.size hj
   unfold Hc.eY at k
   rw[if_neg h0,if_neg (by omega)]at k
   split at k
   ·cases k
   ·split at k<;>cases k
  ·rw[Hc.sS s hl]at k;cases k
theorem kF (z:Int) (b:Bool) (hb:decide (1≤z∧z≤5)=b) (w:World) :
  Calls Tryz.prog 151 #[.int .i64 z] w fun e w'=>e=.returned (.bool b)∧w=w':=by
 by_cases h1:1≤z
 ·have u1:decide ((1:Int)≤z)=true:=decide_eq_true h1
  have HB:=hid (show decide (z≤5)=b by
   rw[← hb]
   by_cases h5:z≤5
   ·rw[decide_eq_true h5,decide_eq_true ⟨h1,h5⟩]
   ·rw[decide_eq_false h5,decide_eq_false (fun k=>h5 k.2)])
  clear hb h1
  go_enter Tryz.func151,Tryz.ntmps151
  go_wp2
  go_ret
  exact⟨aC HB.out,rfl⟩
 ·have u1:decide ((1:Int)≤z)=false:=decide_eq_false h1
  obtain rfl:false=b:=by rw[← hb,decide_eq_false (fun k=>h1 k.1)]
  clear hb h1
  go_enter Tryz.func151,Tryz.ntmps151
  go_wp2
  go_ret
  exact⟨rfl,rfl⟩
def TO (k:Nat) (s:List Nat):Bool:=match s with | [b]=>Ka.fJ b==k | _=>false
theorem KM (k:Nat) (s:ByteArray) (_hs:s.size≤maxLen) (b:Bool) (hb:TO k (aA s)=b) (w:World) (hL:dP w) :
  Calls Tryz.prog 153 #[.string s,.int .i64 (k:Int)] w fun e w'=>e=.returned (.bool b)∧w=w':=by
 unfold maxLen at _hs
 by_cases h1:s.size=1
 ·have u1:((s.size:Int)==1)=true:=by rw[beq_iff_eq];omega
  have hk:(0:Nat)<s.size:=by omega
  have hb2:(((Ka.fJ (aV s 0):Nat):Int)==(k:Int))=b:=by
   have e:aA s=[aV s 0]:=by
    have hl:=aD s
    rw[h1]at hl
    match hm:aA s,hl with
    | [x],_=>unfold aV;rw[hm];rfl
   rw[e]at hb
   rw[← hb]
   show _=(Ka.fJ (aV s 0)==k)
   by_cases e2:Ka.fJ (aV s 0)=k
   ·rw[e2];simp
   ·rw[beq_eq_false_iff_ne.2 e2,beq_eq_false_iff_ne.2 (by omega)]
  have HB:=hid hb2
  have hg:=bP s 0 hk
  have HC:=hid (show Ka.cls ((s[0].toNat:Nat):Int)=((Ka.fJ (aV s 0):Nat):Int) by rw[hg];rfl)
  have hlt:=dQ s 0
  have hl2:s[0].toNat<256:=by rw[hg];exact hlt
  have HK:=hid hL.ka
  clear hb hb2 hg hL
  go_enter Tryz.func153,Tryz.ntmps153
  go_wp2_with (go_at_call 191;refine(Ka.fQ _ _ (by omega) (by omega) HC.out _ HK.out).mono ?_;rintro e w' ⟨rfl,rfl⟩)
  go_ret
  exact⟨aC HB.out,rfl⟩
 ·have u1:((s.size:Int)==1)=false:=beq_eq_false_iff_ne.2 (by omega)
  obtain rfl:false=b:=by
   rw[← hb]
   have hl:=aD s
   unfold TO
   split
   ·rename_i e;rw[e]at hl;exact absurd hl.symm h1
   ·rfl
  clear hb h1 hL
  go_enter Tryz.func153,Tryz.ntmps153
  go_wp2
  go_ret
  exact⟨rfl,rfl⟩
def AK:ByteArray:={ data:=#[99,97,112,32,99,97,112,115,32,110,117,109,32,108,101,116,32,101,43,32,101,45,32,115,43,32,115,45,32,110,43,32,110,45,32,98,108,107,32,99,111,110,116,32,105,110,100] }
theorem FF:Lib.fields AK.data.toList=bX.map (·.map UInt8.ofNat):=by decide +kernel
theorem KN:∀ (j:Nat) (b:UInt8),AK.data.toList[j]?=some b→b.toNat<128:=fun j b h=>by
 have hall:∀ b ∈ AK.data.toList,b.toNat<128:=by decide +kernel
 exact hall b (List.mem_of_getElem? h)
theorem G5 (w:World) (hL:dP w) :
  Calls Tryz.prog 122 #[] w fun e w'=>∃ v,e=.returned v∧w'.ownsRow w.heap.size 9 1 v 13 (rows cS bX)∧Below w.heap.size w w':=by
 have HF:=hid (show Calls Tryz.prog 160 #[.string AK] w fun e w'=>e=.returned (.slice (some ⟨w.heap.size,0,none⟩) 13 13)∧w'=w.alloc (.cells (rows cS bX).toArray 9) from by
  have h:=Tryz.strings_Fields AK w (by decide) KN hL.space
  rw[FF]at h
  exact h)
 clear hL
 go_enter Tryz.func122,Tryz.ntmps122
 go_wp2_with fail
 refine HF.out.mono ?_
 rintro e w1 ⟨rfl,rfl⟩
 have HB:=hid ((Below.refl w.heap.size w).alloc (Nat.le_refl _) (.cells (rows cS bX).toArray 9))
 have HO:=hid (World.ownsRow_lit (base:=w.heap.size) (e:=9) (size:=1) w (rows cS bX).toArray 13 (Nat.le_refl _) (by decide) rfl)
 generalize w.alloc (.cells (rows cS bX).toArray 9)=w1 at HB HO ⊢
 go_wp2
 go_ret
 exact⟨_,rfl,HO.out,HB.out⟩
def aFJ (l:List (List Nat)) (s:List Nat) (w:World) (e:Ending) (w':World):Prop:=∃ z:Int,e=.returned (.int .i64 z)∧decide (0≤z)=l.contains s∧w=w'
theorem BZ (B g c n:Nat) (l:List (List Nat)) (s:ByteArray) (hn:l.length=n) (hn9:n≤1000) (hl:∀ x ∈ l,∀ b ∈ x,b<256) (w:World) (hown:w.ownsRow B 9 1 (.slice (some ⟨g,0,none⟩) n c) n (rows cS l)) :
  Calls Tryz.prog 193 #[.slice (some ⟨g,0,none⟩) n c,.string s] w (aFJ l (aA s) w):=by
 have HO:=hid hown
 have HN:=hid hn
 have HLT:=hid hl
 clear hown hn hl
 go_enter Tryz.func193,Tryz.ntmps193
 go_wp2
 go_loop [8] (fun u8=>∃ k:Nat,u8=.int .i64 (k:Int)∧k≤n∧∀ j x,j<k→l[j]?=some x→x≠aA s) (fun u8=>n - (intOf u8).toNat)
 case atStart=>exact⟨0,rfl,Nat.zero_le _,fun j x h=>by omega⟩
 case round =>
  obtain⟨k,rfl,hk,hj⟩:=hrel
  have HJ:=hid hj
  have k0:(0:Int)≤(k:Int):=by omega
  clear hj
  by_cases hlt:k<n
  ·obtain⟨x,hx⟩:∃ x,l[k]?=some x:=⟨_,List.getElem?_eq_getElem (by rw[HN.out];exact hlt)⟩
   have HX:=hid hx
   have hc:w.cell? ⟨g,k,none⟩=some (.string (bytesOf x)):=by
    rw[HO.out.cellAt k (show k<n * 1 by omega)]
    have:=fE cS (fun _=>rfl) l k x hx 0 (by decide)
    rw[Nat.mul_one,Nat.add_zero]at this
    exact this
   have k1:(k:Int)<(n:Int):=by omega
   have hb:∀ b ∈ x,b<256:=HLT.out x (List.mem_of_getElem? hx)
   clear hx
   by_cases he:x=aA s
   ·have e2:bytesOf x=s:=by rw[he];exact aP s
    rw[e2]at hc
    have HC:=hid (show l.contains (aA s)=true by rw[List.contains_iff_mem,← he];exact List.mem_of_getElem? HX.out)
    have z1:(s.toList==s.toList)=true:=by simp
    clear he e2
    go_wp2
    go_ret
    exact⟨_,rfl,by rw[HC.out];exact decide_eq_true (by omega),rfl⟩
   ·have e2:s≠bytesOf x:=fun e=>he (by rw[e,aB _ hb])
    have z1:(s.toList==(bytesOf x).toList)=false:=kI e2
    have HNX:=hid (show ∀ j x,j<k+1→l[j]?=some x→x≠aA s from fun j y h1 h2=>by
     rcases Nat.lt_or_ge j k with h | h
     ·exact HJ.out j y h h2
     ·obtain rfl:j=k:=by omega
      rw[HX.out]at h2;cases h2;exact he)
    clear he e2
    go_wp2
    go_round
    case rel=>exact⟨k+1,by go_num,by omega,HNX.out⟩
    case measure=>simp[intOf];omega
  ·obtain rfl:k=n:=by omega
   have HC:=hid (show l.contains (aA s)=false by
    rw[Bool.eq_false_iff]
    intro h
    rw[List.contains_iff_mem]at h
    obtain⟨j,hj,e⟩:=List.getElem_of_mem h
    exact HJ.out j (aA s) (by rw[← HN.out];exact hj) (by rw[List.getElem?_eq_getElem hj,e]) rfl)
   go_wp2
   go_ret
   exact⟨_,rfl,by rw[HC.out];rfl,rfl⟩
theorem YR:∀ x ∈ bX,∀ b ∈ x,b<256:=by decide +kernel
theorem FG (B g c:Nat) (s:ByteArray) (b:Bool) (hb:bX.contains (aA s)=b) (w:World) (hown:w.ownsRow B 9 1 (.slice (some ⟨g,0,none⟩) 13 c) 13 (rows cS bX)) :
  Calls Tryz.prog 154 #[.slice (some ⟨g,0,none⟩) 13 c,.string s] w fun e w'=>e=.returned (.bool b)∧w=w':=by
 have HI:=hid (BZ B g c 13 bX s rfl (by decide) YR w hown)
 have HB:=hid hb
 clear hown hb
 go_enter Tryz.func154,Tryz.ntmps154
 go_wp2_with fail
 refine HI.out.mono ?_
 rintro e w1 ⟨z,rfl,hz,rfl⟩
 rw[HB.out]at hz
 have HZ:=hid hz
 clear hz
 go_wp2
 go_ret
 exact⟨aC HZ.out,rfl⟩
def lF (z:Int) (s:List Nat):Bool:=decide (1≤z∧z≤8) && aX z.toNat s
def KO (z p:Int):Bool:=if 1≤z∧z≤5 then decide (0≤p∧p≤99) else decide (p=0)
theorem FH {z:Int} (h:1≤z∧z≤5) (s:List Nat):lF z s=(decide (s.length≤12) && aW s):=by
 unfold lF aX aW
 rw[decide_eq_true (by omega),Bool.true_and,if_pos (by omega)]
 by_cases h0:0<s.length
 ·by_cases h1:s.length≤12
  ·rw[decide_eq_true h0,decide_eq_true h1,decide_eq_true ⟨h0,h1⟩];simp
  ·rw[decide_eq_false h1,decide_eq_false (fun k=>h1 k.2)];simp
 ·rw[decide_eq_false h0,decide_eq_false (fun k=>h0 k.1)];simp
theorem aEB (s:List Nat):lF 6 s=TO 4 s:=by unfold lF aX TO;rfl
theorem aEC (s:List Nat):lF 7 s=TO 3 s:=by unfold lF aX TO;rfl
theorem aED (s:List Nat):lF 8 s=bX.contains s:=by unfold lF aX;rfl
theorem TP {z:Int} (h:¬ (1≤z∧z≤8)) (s:List Nat):lF z s=false:=by unfold lF;rw[decide_eq_false h,Bool.false_and]
theorem aEE {aE:Int} {left cells:List Nat} {prio line:Int} (hc:∀ x ∈ cells,x<256) :
  nM dM ⟨aE,left,cells,prio,line⟩=(decide (Ce.eE (bytesOf cells)=0) && lF aE left && KO aE prio):=by
 rw[aB3 hc]
 unfold lF YO KO
 by_cases h:1≤aE∧aE≤8
 ·rw[decide_eq_true h]
  by_cases h5:aE≤5
  ·rw[if_pos h5,if_pos ⟨h.1,h5⟩]
   cases aX aE.toNat left<;>cases decide (Ce.eE (bytesOf cells)=0)<;>rfl
  ·rw[if_neg h5,if_neg (fun k=>h5 k.2)]
   cases aX aE.toNat left<;>cases decide (Ce.eE (bytesOf cells)=0)<;>rfl
 ·rw[decide_eq_false h]
  cases decide (Ce.eE (bytesOf cells)=0)<;>rfl
theorem OG (z:Int) (S T:ByteArray) (p l:Int) (b:Bool) (hb:KO z p=b) (w:World) :
  Calls Tryz.prog 112 #[.agg #[.int .i64 z,.string S,.string T,.int .i64 p,.int .i64 l]] w fun e w'=>e=.returned (.bool b)∧Below w.heap.size w w':=by
 have HBW:=hid ((Below.refl w.heap.size w).alloc (Nat.le_refl _) (.cells #[.int .i64 z,.string S,.string T,.int .i64 p,.int .i64 l] 48))
 unfold KO at hb
 by_cases h5:1≤z∧z≤5
 ·rw[if_pos h5]at hb
  have HO:=hid (fun W=>kF z true (decide_eq_true h5) W)
  by_cases p0:0≤p
  ·have u0:decide ((0:Int)≤p)=true:=decide_eq_true p0
   have HB:=hid (show decide (p≤99)=b by
    rw[← hb]
    by_cases h9:p≤99
    ·rw[decide_eq_true h9,decide_eq_true ⟨p0,h9⟩]
    ·rw[decide_eq_false h9,decide_eq_false (fun k=>h9 k.2)])
   clear hb h5 p0
   go_enter Tryz.func112,Tryz.ntmps112
   go_wp2_with (go_at_call 151;refine(HO.out _).mono ?_;rintro e w' ⟨rfl,rfl⟩)
   go_ret
   exact⟨aC HB.out,HBW.out⟩
  ·have u0:decide ((0:Int)≤p)=false:=decide_eq_false p0
   obtain rfl:false=b:=by rw[← hb,decide_eq_false (fun k=>p0 k.1)]
   clear hb h5 p0
   go_enter Tryz.func112,Tryz.ntmps112
   go_wp2_with (go_at_call 151;refine(HO.out _).mono ?_;rintro e w' ⟨rfl,rfl⟩)
   go_ret
   exact⟨rfl,HBW.out⟩
 ·rw[if_neg h5]at hb
  have HO:=hid (fun W=>kF z false (decide_eq_false h5) W)
  have HB:=hid (show (p==0)=b by
   rw[← hb]
   by_cases h9:p=0
   ·rw[h9];rfl
   ·rw[decide_eq_false h9];exact beq_eq_false_iff_ne.2 h9)
  clear hb h5
  go_enter Tryz.func112,Tryz.ntmps112
  go_wp2_with (go_at_call 151;refine(HO.out _).mono ?_;rintro e w' ⟨rfl,rfl⟩)
  go_ret
  exact⟨aC HB.out,HBW.out⟩
abbrev SL (w:World) (S:ByteArray) (W:World):Prop:=W.cell? ⟨w.heap.size,1,none⟩=some (.string S)∧w.heap.size<W.heap.size∧dP W∧Below w.heap.size w W
theorem SL.laid {w:World} {S:ByteArray} {W:World} (h:SL w S W):dP W:=h.2.2.1
theorem AL (z:Int) (S T:ByteArray) (hS:S.size≤70000) (p l:Int) (b:Bool) (hb:lF z (aA S)=b) (w:World) (hL:dP w) :
  Calls Tryz.prog 111 #[.agg #[.int .i64 z,.string S,.string T,.int .i64 p,.int .i64 l]] w fun e w'=>e=.returned (.bool b)∧Below w.heap.size w w':=by
 have hbw:=(Below.refl w.heap.size w).alloc (Nat.le_refl _) (.cells #[.int .i64 z,.string S,.string T,.int .i64 p,.int .i64 l] 48)
 have HLW:=hid (hL.below hbw hL.1)
 have HBW:=hid hbw
 clear hbw hL
 by_cases h5:1≤z∧z≤5
 ·rw[FH h5,aD]at hb
  have HO:=hid (fun W=>kF z true (decide_eq_true h5) W)
  by_cases h12:S.size≤12
  ·rw[decide_eq_true h12,Bool.true_and,← OF]at hb
   have u0:decide ((S.size:Int)≤12)=true:=decide_eq_true (by omega)
   have HB:=hid (show (Hc.j7 S==1)=b by rw[← hb];rfl)
   clear hb h5
   go_enter Tryz.func111,Tryz.ntmps111
   go_wp2_with (first
    |(go_at_call 151;refine(HO.out _).mono ?_;rintro e w' ⟨rfl,rfl⟩)
    |(go_at_call 152;refine(Hc.sY S (by omega) _ (kE HLW.out)).mono ?_;rintro e w2 ⟨rfl,hb2⟩;have HB2:=hid (chain HBW.out HBW.out.size hb2);clear hb2))
   go_ret
   exact⟨aC HB.out,HB2.out⟩
  ·have u0:decide ((S.size:Int)≤12)=false:=decide_eq_false (by omega)
   obtain rfl:false=b:=by rw[← hb,decide_eq_false h12,Bool.false_and]
   clear hb h5
   go_enter Tryz.func111,Tryz.ntmps111
   go_wp2_with (go_at_call 151;refine(HO.out _).mono ?_;rintro e w' ⟨rfl,rfl⟩)
   go_ret
   exact⟨rfl,HBW.out⟩
 have HO:=hid (fun W=>kF z false (decide_eq_false h5) W)
 by_cases h6:z=6
 ·subst h6
  rw[aEB]at hb
  have HI:=hid (fun W hW=>KM 4 S (by unfold maxLen;omega) b hb W hW)
  clear hb h5
  go_enter Tryz.func111,Tryz.ntmps111
  go_wp2_with (first
   |(go_at_call 151;refine(HO.out _).mono ?_;rintro e w' ⟨rfl,rfl⟩)
   |(go_at_call 153;refine(HI.out _ HLW.out).mono ?_;rintro e w2 ⟨rfl,rfl⟩))
  go_ret
  exact⟨rfl,HBW.out⟩
 by_cases h7:z=7
 ·subst h7
  rw[aEC]at hb
  have HI:=hid (fun W hW=>KM 3 S (by unfold maxLen;omega) b hb W hW)
  clear hb h5
  go_enter Tryz.func111,Tryz.ntmps111
  go_wp2_with (first
   |(go_at_call 151;refine(HO.out _).mono ?_;rintro e w' ⟨rfl,rfl⟩)
   |(go_at_call 153;refine(HI.out _ HLW.out).mono ?_;rintro e w2 ⟨rfl,rfl⟩))
  go_ret
  exact⟨rfl,HBW.out⟩
 have v6:(z==6)=false:=beq_eq_false_iff_ne.2 h6
 have v7:(z==7)=false:=beq_eq_false_iff_ne.2 h7
 by_cases h8:z=8
 ·subst h8
  rw[aED]at hb
  have HN:=hid hb
  clear hb h5 h6 h7
  go_enter Tryz.func111,Tryz.ntmps111
  go_wp2_with (go_at_call 151;refine(HO.out _).mono ?_;rintro e w' ⟨rfl,rfl⟩)
  generalize hw1:w.alloc _=w1 at HLW HBW ⊢
  have C1:w1.cell? ⟨w.heap.size,1,none⟩=some (.string S):=by rw[← hw1];simp
  have hs1:w.heap.size<w1.heap.size:=by rw[← hw1];simp
  clear hw1
  have HKC:=hid (show ∀ W:World,Below w1.heap.size w1 W→SL w S W from fun W hW=>⟨(hW.cell (p:=⟨w.heap.size,1,none⟩) hs1).trans C1,Nat.lt_of_lt_of_le hs1 hW.size,HLW.out.kept hW,chain HBW.out HBW.out.size hW⟩)
  have HCC:=hid (show ∀ W W':World,SL w S W→Below W.heap.size W W'→SL w S W' from fun W W' h hb=>⟨(hb.cell (p:=⟨w.heap.size,1,none⟩) h.2.1).trans h.1,Nat.lt_of_lt_of_le h.2.1 hb.size,h.2.2.1.kept hb,chain h.2.2.2 h.2.2.2.size hb⟩)
  go_region_held3 (fun W=>W.cell? ⟨w.heap.size,1,none⟩=some (.string S)∧w.heap.size<W.heap.size∧dP W∧Below w.heap.size w W)
   (first | assumption | exact HKC.out _ (Below.refl _ _) | exact HKC.out _ (Below.refl _ _).drew)
   (first
    |(go_at_call 122;refine(G5 _ (SL.laid (by assumption))).mono ?_;rintro en w2 ⟨v2,rfl,own2,hb2⟩;obtain⟨g2,c2,rfl,-⟩:=dS own2 (by decide);have hS2:=HCC.out _ _ (by assumption) hb2)
    |(go_at_call 154;refine(FG _ _ _ _ _ HN.out _ own2).mono ?_;rintro en w3 ⟨rfl,rfl⟩))
  have HBX:=hid hS2.2.2.2
  go_wp2
  go_ret
  exact⟨rfl,HBX.out⟩
 ·have v8:(z==8)=false:=beq_eq_false_iff_ne.2 h8
  obtain rfl:false=b:=by rw[← hb,TP (by omega)]
  clear hb h5 h6 h7 h8
  go_enter Tryz.func111,Tryz.ntmps111
  go_wp2_with (go_at_call 151;refine(HO.out _).mono ?_;rintro e w' ⟨rfl,rfl⟩)
  go_ret
  exact⟨rfl,HBW.out⟩
theorem aB9 (z:Int) (S T:ByteArray) (hS:S.size≤70000) (hT:T.size≤70000) (p l:Int) (b:Bool) (hb:(decide (Ce.eE T=0) && lF z (aA S) && KO z p)=b) (w:World) (hL:dP w) :
  Calls Tryz.prog 73 #[.agg #[.int .i64 z,.string S,.string T,.int .i64 p,.int .i64 l]] w fun e w'=>e=.returned (.bool b)∧Below w.heap.size w w':=by
 obtain⟨q,hq⟩:∃ q,Ce.eE T=q:=⟨_,rfl⟩
 obtain⟨V,hV⟩:∃ V,Ce.eD T=V:=⟨_,rfl⟩
 have HPR:=hid (hq▸hV▸Ce.QG T (by omega))
 rw[hq]at hb
 have hq01:q=0∨q=1:=by
  rw[← hq];unfold Ce.eE;split
  ·exact .inl rfl
  ·exact .inr rfl
 have HL:=hid hL
 clear hq hV hL
 go_enter Tryz.func73,Tryz.ntmps73
 go_upto_region 1 with fail
 generalize hw1:w.alloc _=w1
 have hst:iN w1 w.heap.size z S T p l:=by rw[← hw1];exact iN.new w z S T p l
 have hb1:Below w.heap.size w w1:=by rw[← hw1];exact(Below.refl _ _).alloc (Nat.le_refl _) _
 have HB1:=hid hb1
 have HL1:=hid (HL.out.kept hb1)
 have HS1:=hid hst
 have C2:=hst.c2
 clear hw1 hst hb1
 go_wp2_with fail
 refine(HPR.out _).mono ?_
 rintro e w2 ⟨rfl,hb2⟩
 have HB2:=hid (chain HB1.out HB1.out.size hb2)
 have HL2:=hid (HL1.out.kept hb2)
 have HS2:=hid (HS1.out.kept hb2)
 obtain⟨D0,D1,D2,D3,D4⟩:w2.cell? ⟨w.heap.size,0,none⟩=some (.int .i64 z)∧w2.cell? ⟨w.heap.size,1,none⟩=some (.string S)∧w2.cell? ⟨w.heap.size,2,none⟩=some (.string T)∧w2.cell? ⟨w.heap.size,3,none⟩=some (.int .i64 p)∧w2.cell? ⟨w.heap.size,4,none⟩=some (.int .i64 l):=⟨HS2.out.c0,HS2.out.c1,HS2.out.c2,HS2.out.c3,HS2.out.c4⟩
 clear hb2 C2
 rcases hq01 with rfl | rfl
 ·obtain⟨lx,hlx⟩:∃ lx,lF z (aA S)=lx:=⟨_,rfl⟩
  rw[hlx,decide_eq_true rfl,Bool.true_and]at hb
  have HLX:=hid hlx
  clear hlx
  cases lx
  ·obtain rfl:false=b:=by rw[← hb];rfl
   clear hb
   go_wp2_with (go_at_call 111;refine(AL z S T hS p l false HLX.out _ HL2.out).mono ?_;rintro e w3 ⟨rfl,hb3⟩;have HB3:=hid (chain HB2.out HB2.out.size hb3);clear hb3)
   go_ret
   exact⟨rfl,HB3.out⟩
  ·rw[Bool.true_and]at hb
   have HPX:=hid hb
   clear hb
   go_wp2_with fail
   refine(AL z S T hS p l true HLX.out _ HL2.out).mono ?_
   rintro e w3 ⟨rfl,hb3⟩
   have HB3:=hid (chain HB2.out HB2.out.size hb3)
   obtain⟨E0,E1,E2,E3,E4⟩:w3.cell? ⟨w.heap.size,0,none⟩=some (.int .i64 z)∧w3.cell? ⟨w.heap.size,1,none⟩=some (.string S)∧w3.cell? ⟨w.heap.size,2,none⟩=some (.string T)∧w3.cell? ⟨w.heap.size,3,none⟩=some (.int .i64 p)∧w3.cell? ⟨w.heap.size,4,none⟩=some (.int .i64 l) :=
    have h:=HS2.out.kept hb3
    ⟨h.c0,h.c1,h.c2,h.c3,h.c4⟩
   clear hb3 D0 D1 D2 D3 D4
   go_wp2_with fail
   refine(OG z S T p l b HPX.out _).mono ?_
   rintro e w4 ⟨rfl,hb4⟩
   have HB4:=hid (chain HB3.out HB3.out.size hb4)
   clear hb4
   go_wp2
   go_ret
   exact⟨rfl,HB4.out⟩
 ·obtain rfl:false=b:=by rw[← hb];rfl
  clear hb
  go_wp2
  go_ret
  exact⟨rfl,HB2.out⟩
theorem nP (x:Rl) (hl:∀ b ∈ x.left,b<256) (hc:∀ b ∈ x.cells,b<256) (h1:x.left.length≤70000) (h2:x.cells.length≤70000) (b:Bool) (hb:nM dM x=b) (w:World) (hL:dP w) :
  Calls Tryz.prog 73 #[dE x] w fun e w'=>e=.returned (.bool b)∧Below w.heap.size w w':=by
 obtain⟨aE,left,cells,prio,line⟩:=x
 rw[aEE hc]at hb
 refine aB9 aE (bytesOf left) (bytesOf cells) (by rw[aF];exact h1) (by rw[aF];exact h2) prio line b ?_ w hL
 rw[aB _ hl]
 exact hb
def O3 (l:List Rl) (q:Rl→Bool) (w:World) (e:Ending) (w':World):Prop :=
 ((∃ (k:Nat) (x:Rl),e=.returned (.int .i64 (k:Int))∧l[k]?=some x∧l.find? q=some x)∨(e=.returned (.int .i64 (-1))∧l.find? q=none))∧Below w.heap.size w w'
theorem O4 {l:List Rl} {q:Rl→Bool}:∀ {k:Nat} {x:Rl},l[k]?=some x→q x=true→(∀ j y,j<k→l[j]?=some y→q y=false)→l.find? q=some x:=by
 induction l with
 | nil=>intro k x h;simp at h
 | cons y l ih =>
  intro k x h hq hn
  cases k with
  | zero =>
   simp at h;subst h
   rw[List.find?_cons,hq]
  | succ k =>
   have h0:=hn 0 y (by omega) rfl
   rw[List.find?_cons,h0]
   exact ih (k:=k) (by simpa using h) hq (fun j z hj hz=>hn (j+1) z (by omega) (by simpa using hz))
theorem O5 {l:List Rl} {q:Rl→Bool} (h:∀ j y,j<l.length→l[j]?=some y→q y=false):l.find? q=none:=by
 rw[List.find?_eq_none]
 intro x hx
 obtain⟨j,hj,e⟩:=List.getElem_of_mem hx
 rw[h j x hj (by rw[List.getElem?_eq_getElem hj,e])]
 simp
theorem KP (s:ByteArray) (h:s.size≤281474976710656) (w:World):Calls Tryz.prog 46 #[.string s] w fun e w'=>e=.returned (.string s)∧Below w.heap.size w w':=by
 go_enter Tryz.func46,Tryz.ntmps46
 go_wp2_with (go_at_call 81;refine(Tryz.stringslite_Clone s _ h).mono ?_;rintro e w' ⟨rfl,hb⟩)
 go_ret
 exact⟨rfl,hb⟩
end Go.Proofs.YthbigkoihpgcfaaGreatDoor.Ru
