/-
  Put together: CeE, CeF, CeG, CeH.
-/
import Derived.Test.YtlgejmcihchngaaGreatDoorEa
import Derived.Lib.ConvBytes
import Derived.Laws.IdiomStrings
namespace Go.Proofs.YtlgejmcihchngaaGreatDoor.Ce
open Go.RowKit
def badAt (p:Nat→Bool) (s:ByteArray):Nat:=(List.range s.size).findIdx fun j=>!p (bAt s j)
def allP (p:Nat→Bool) (s:ByteArray) (k:Nat):Prop:=∀ j,j<k→p (bAt s j)=true
theorem allP.zero (p:Nat→Bool) (s:ByteArray):allP p s 0:=fun _ h=>absurd h (by omega)
theorem allP.succ {p:Nat→Bool} {s:ByteArray} {k:Nat} (h:allP p s k) (hp:p (bAt s k)=true):allP p s (k+1):=fun j hj=>by
 rcases Nat.lt_or_ge j k with h1 | h1
 ·exact h j h1
 ·have e:j=k:=by omega
  rw[e];exact hp
theorem badAt_all {p:Nat→Bool} {s:ByteArray} (h:allP p s s.size):badAt p s=s.size:=by
 unfold badAt
 have:(List.range s.size).findIdx (fun j=>!p (bAt s j))=(List.range s.size).length:=List.findIdx_eq_length.2 (fun x hx=>by simp[h x (List.mem_range.1 hx)])
 rw[this,List.length_range]
theorem badAt_at {p:Nat→Bool} {s:ByteArray} {k:Nat} (h:allP p s k) (hk:k<s.size) (hp:p (bAt s k)=false):badAt p s=k:=by
 unfold badAt
 refine(List.findIdx_eq (by simpa using hk)).2 ⟨by simp[hp],fun j hj=>?_⟩
 simp[h j hj]
theorem allP_of {p:Nat→Bool} {s:ByteArray} (h:badAt p s=s.size):allP p s s.size:=fun j hj=>by
 unfold badAt at h
 have h1:(List.range s.size).findIdx (fun j=>!p (bAt s j))=(List.range s.size).length:=by rw[h,List.length_range]
 have:=List.findIdx_eq_length.1 h1 j (List.mem_range.2 hj)
 simpa using this
def BecInv (g:Nat→Nat) (w:World) (s:ByteArray) (k:Nat) (wr:World):Prop :=
 (∀ j,j<s.size→wr.cell? ⟨w.heap.size,j,none⟩=some (.int .u8 (((if j<k then g (bAt s j) else bAt s j):Nat):Int)))∧(∀ j,j<s.size→wr.frozen? ⟨w.heap.size,j,none⟩=false)∧Below w.heap.size w wr
theorem BecInv.zero (g:Nat→Nat) (w:World) (s:ByteArray):BecInv g w s 0 (Lib.bytesWorld w 5 s):=by
 refine⟨fun j hj=>?_,fun j hj=>?_,?_⟩
 ·rw[Lib.bytesWorld_cell w _ s j hj,if_neg (by omega)]
  have hl:j<s.data.toList.length:=by simpa using hj
  simp only[bAt,bytesN,List.getD_eq_getElem?_getD,List.getElem?_map,List.getElem?_eq_getElem hl,Option.getD_some,Option.map_some]
 ·have hs:s.size≤(Lib.bytesCells w 5 s).size:=by simp[Lib.bytesCells]
  simp[World.frozen?,Lib.bytesWorld_at_new]
  omega
 ·exact⟨rfl,rfl,rfl,by rw[Lib.bytesWorld_size];omega,fun k hk=>Lib.bytesWorld_at_old w _ s k hk⟩
theorem BecInv.succ {g:Nat→Nat} {w:World} {s:ByteArray} {k:Nat} {wr:World} (h:BecInv g w s k wr) (hk:k<s.size):BecInv g w s (k+1) (wr.setCell ⟨w.heap.size,k,none⟩ (.int .u8 ((g (bAt s k):Nat):Int))):=by
 refine⟨fun j hj=>?_,fun j hj=>by rw[World.frozen?_setCell];exact h.2.1 j hj,h.2.2.setCell (p:=⟨w.heap.size,k,none⟩) (Nat.le_refl _) _⟩
 by_cases e:j=k
 ·subst e
  rw[if_pos (by omega)]
  exact World.cell?_setCell_same' _ _ _ (by rw[h.1 j hj];rfl)
 ·rw[World.cell?_setCell_other _ _ _ _ (fun he=>e (by injection he with _ h2;exact h2.symm)),h.1 j hj]
  by_cases h1:j<k
  ·rw[if_pos h1,if_pos (by omega)]
  ·rw[if_neg h1,if_neg (by omega)]
end Go.Proofs.YtlgejmcihchngaaGreatDoor.Ce
namespace Go.Proofs.YtlgejmcihchngaaGreatDoor.Ce
open Go.RowKit
def emptyS:ByteArray:=⟨#[]⟩
theorem ret_se {x y:ByteArray} {a b:Int} (h:x=y) (h':a=b):Ending.returned (.tuple #[.string x,.int .i64 a])=.returned (.tuple #[.string y,.int .i64 b]):=by rw[h,h']
theorem popN_le (c:Nat):popN c≤6:=dotsN_len c 6
end Go.Proofs.YtlgejmcihchngaaGreatDoor.Ce
namespace Go.Proofs.YtlgejmcihchngaaGreatDoor.Ce
open Go.RowKit
theorem bAt_idx (s:ByteArray) (k:Nat) (h:k<s.size):((s[k].toNat:Nat):Int)=((bAt s k:Nat):Int):=by rw[bAt_get s k h]
def LastD (c l:Nat):Prop:=l≤6∧c<2 ^ l∧(l=0∨2 ^ (l - 1)≤c)
theorem last_all:∀ l:Fin 7,∀ d:Fin 7,∀ c:Fin 64,1≤d.val→LastD c.val l.val→(c.val<2 ^ (d.val - 1)↔l.val<d.val)∧(l.val<d.val→LastD (c.val+2 ^ (d.val - 1)) d.val):=by
 unfold LastD;decide +kernel
theorem bit_dig (b:Nat) (h1:49≤b) (h2:b≤54):bitN b=powN (b - 48):=by
 unfold bitN powN;rw[if_pos ⟨h1,h2⟩,show b - 48 - 1=b - 49 from by omega]
set_option maxHeartbeats 4000000 in
theorem rof_any (s:ByteArray) (hs:s.size≤70000) (w:World) :
  Calls Tryz.prog 155 #[.string s] w fun e w'=>e=.returned (.tuple #[.int .u8 ((ofS s:Nat):Int),.bool (ofB s)])∧w=w':=by
 go_enter Tryz.func155,Tryz.ntmps155
 go_wp2
 go_loop [4,5,6] (fun u v i=>∃ k c l:Nat,k≤s.size∧i=.int .i64 k∧u=.int .i64 c∧v=.int .i64 l∧ofL ((bytesN s).take k)=some c∧LastD c l∧(k=0∨1≤l)) (fun _ _ i=>s.size - (intOf i).toNat)
 case atStart=>exact⟨0,0,0,by omega,rfl,rfl,rfl,by simp[ofL],⟨by omega,by decide,.inl rfl⟩,.inl rfl⟩
 case round =>
  obtain⟨k,c,l,hk,rfl,rfl,rfl,hc,hL,hkl⟩:=hrel
  have hc64:=ofL_lt _ c hc
  have hl6:=hL.1
  by_cases hlt:k<s.size
  ·have E1:=Lib.hid (bAt_idx s k hlt)
   have h256:=bAt_lt s k
   have hbb:c<bitN (bAt s k)→ofL ((bytesN s).take (k+1))=some (c+bitN (bAt s k)):=ofL_next s k c hlt hc
   have hno:¬ c<bitN (bAt s k)→ofS s=0:=fun h=>ofS_fail s k c hlt hc h
   obtain⟨b,hb⟩:∃ b,bAt s k=b:=⟨_,rfl⟩
   rw[hb]at h256 hbb hno E1
   clear hb hc
   have E2:=E1.out
   by_cases d1:b<49
   ·have h0:=hno (by unfold bitN;rw[if_neg (by omega)];omega)
    have HR:=Lib.hid h0
    have HR2:=Lib.hid (show false=ofB s by unfold ofB;rw[HR.out];rfl)
    have t1:decide ((b:Int) - 48<1)=true:=by simp;omega
    clear hno hbb h0
    go_wp2
    go_ret2
    exact⟨ret_ib (by rw[HR.out];rfl) HR2.out,rfl⟩
   ·by_cases d2:54<b
    ·have h0:=hno (by unfold bitN;rw[if_neg (by omega)];omega)
     have HR:=Lib.hid h0
     have HR2:=Lib.hid (show false=ofB s by unfold ofB;rw[HR.out];rfl)
     have t1:decide ((b:Int) - 48<1)=false:=by simp;omega
     have t2:decide (6<(b:Int) - 48)=true:=by simp;omega
     clear hno hbb h0
     go_wp2
     go_ret2
     exact⟨ret_ib (by rw[HR.out];rfl) HR2.out,rfl⟩
    ·obtain⟨d,rfl⟩:∃ d,b=d+48:=⟨b - 48,by omega⟩
     have hbit:=bit_dig (d+48) (by omega) (by omega)
     rw[Nat.add_sub_cancel]at hbit
     have hla:=last_all ⟨l,by omega⟩ ⟨d,by omega⟩ ⟨c,hc64⟩ (show 1≤d by omega) hL
     simp only[]at hla
     have hpw:2 ^ (d - 1)=bitN (d+48):=by rw[hbit];rfl
     rw[hpw]at hla
     obtain⟨q,hq⟩:∃ q,bitN (d+48)=q:=⟨_,rfl⟩
     have hq32:=bitN_le (d+48)
     rw[hq]at hla hbb hno hbit hq32
     have HW:=Lib.hid hbit
     have e2:(((s[k]'hlt).toNat:Nat):Int)=(d:Int)+48:=by rw[E1.out];omega
     have g1:1≤d:=by omega
     have g6:d≤6:=by omega
     clear E2 hbit hpw hq d1 d2 h256
     by_cases hlt2:l<d
     ·have HN:=Lib.hid (hbb (hla.1.2 hlt2))
      have HL2:=hla.2 hlt2
      have hc2:=ofL_lt _ _ HN.out
      clear hbb hno hla
      go_wp2_with (go_at_call 156;refine((weight_any d g1 g6 _).mono (fun _ _ h=>(HW.out▸h))).mono ?_;rintro e w' ⟨rfl,rfl⟩)
      exact⟨⟨k+1,c+q,d,by omega,by go_num,by go_num,rfl,HN.out,HL2,.inr g1⟩,by simp[intOf];omega⟩
     ·have HR:=Lib.hid (hno (fun h=>hlt2 (hla.1.1 h)))
      have HR2:=Lib.hid (show false=ofB s by unfold ofB;rw[HR.out];rfl)
      have hdl:d≤l:=by omega
      clear hbb hno hla hlt2
      go_wp2
      go_ret2
      exact⟨ret_ib (by rw[HR.out];rfl) HR2.out,rfl⟩
  ·obtain rfl:k=s.size:=by omega
   have HR:=Lib.hid (ofS_end s c hc)
   clear hc
   by_cases hz:s.size=0
   ·have hc0:c=0:=by
     have:=HR.out
     unfold ofS ofN ofL at this
     rw[List.eq_nil_of_length_eq_zero (show (bytesN s).length=0 by rw[bytesN_len];exact hz)]at this
     simpa using this.symm
    have HR2:=Lib.hid (show false=ofB s by unfold ofB;rw[HR.out,hc0];rfl)
    have hz2:decide (0<s.size)=false:=decide_eq_false (by omega)
    have hZ:=Lib.hid hz
    clear hz hc0
    go_wp2
    go_ret2
    exact⟨ret_ib (by rw[HR.out]) (by rw[← HR2.out]),rfl⟩
   ·have hl1:1≤l:=by omega
    have hc1:c≠0:=by
     have h3:=hL.2.2
     have:=Nat.one_le_two_pow (n:=l - 1)
     omega
    have HR2:=Lib.hid (show true=ofB s by unfold ofB;rw[HR.out];simp[hc1])
    have hz2:decide (0<s.size)=true:=decide_eq_true (by omega)
    clear hz hc1
    go_wp2
    go_ret2
    exact⟨ret_ib (by rw[HR.out]) (by rw[← HR2.out]),rfl⟩
end Go.Proofs.YtlgejmcihchngaaGreatDoor.Ce
namespace Go.Proofs.YtlgejmcihchngaaGreatDoor.Ce
open Go.RowKit
theorem bytesOf_append (a b:List Nat):bytesOf (a++b)=bytesOf a++bytesOf b:=by
 apply ByteArray.ext
 simp[bytesOf]
theorem back_of_one (wr:World) (x:Nat) (hx:x<256) (v:Int) (hv:v=(x:Int)) :
  (convert 52 9 (.slice (some ⟨wr.heap.size,0,none⟩) 1 1)).run Tryz.prog (wr.alloc (.cells #[.int .u8 v] 5))=.ok (.string (bytesOf [x])) (wr.alloc (.cells #[.int .u8 v] 5)):=by
 have hback:=run_convert_bytes_back (P:=Tryz.prog) (wr.alloc (.cells #[.int .u8 v] 5)) 52 9 5 ⟨wr.heap.size,0,none⟩ 1 [UInt8.ofNat x] Tryz.underlying52 Tryz.underlying5 Tryz.underlying9 (fun j hj=>by
  obtain rfl:j=0:=by simp at hj;omega
  have e:(⟨wr.heap.size,0,none⟩:Addr).add 0=⟨wr.heap.size,0,none⟩:=by unfold Addr.add;split<;>simp_all
  have e3:(UInt8.ofNat x).toNat=x:=by simp[Nat.mod_eq_of_lt hx]
  rw[e]
  simp only[List.getElem_cons_zero,e3,hv]
  simp)
 exact hback
set_option maxRecDepth 100000 in
set_option maxHeartbeats 4000000 in
theorem rdots_any (c:Nat) (hc:c<256) (w:World) :
  Calls Tryz.prog 130 #[.int .u8 (c:Int)] w fun e w'=>e=.returned (.string (dotsS c))∧Below w.heap.size w w':=by
 go_enter Tryz.func130,Tryz.ntmps130
 go_wp2
 go_loopw [3,4] (fun v i wr=>∃ (k d:Nat) (s:ByteArray),k≤6∧d=k+1∧i=.int .i64 d∧v=.string s∧s=bytesOf (dotsN c k)∧Below w.heap.size w wr) (fun _ i _=>7 - (intOf i).toNat)
 case atStart=>exact⟨0,1,_,by omega,rfl,rfl,rfl,rfl,Below.refl _ _⟩
 case round =>
  obtain⟨k,d,s,hk,hd,rfl,rfl,hs,hB⟩:=hrel
  have hsz:=hB.size
  have hd1:1≤d:=by omega
  have hsl:s.size≤6:=by rw[hs,bytesOf_size];exact Nat.le_trans (dotsN_len c k) hk
  by_cases hp:d≤6
  ·have HW:=Lib.hid (show powN d=2 ^ k by unfold powN;rw[hd,Nat.add_sub_cancel])
   obtain⟨q,hq⟩:∃ q,2 ^ k=q:=⟨_,rfl⟩
   have hq1:1≤q:=by rw[← hq];exact Nat.one_le_two_pow
   have hq2:q≤32:=by rw[← hq,← HW.out];exact powN_le d hp
   have hx0:0≤(c:Int) / (q:Int):=Int.ediv_nonneg (by omega) (by omega)
   have hx1:(c:Int) / (q:Int)≤255:=by
    have:=Int.ediv_le_self (q:Int) (show (0:Int)≤(c:Int) by omega)
    omega
   have hcd:(c:Int) / (q:Int) % 2=((c / q % 2:Nat):Int):=by simp
   have HCD:=Lib.hid hcd;clear hcd
   by_cases hb:c / 2 ^ k % 2=1
   ·have HD:=Lib.hid (dotsN_yes c k hb)
    have ht:((c:Int) / (q:Int) % 2==1)=true:=by rw[HCD.out,← hq,hb];rfl
    have hz1:(bytesOf [49+k]).size≤1:=by rw[bytesOf_size];simp
    have hcv:=back_of_one wr (49+k) (by omega) (48+(d:Int)) (by omega)
    have HS:=Lib.hid hs
    rw[hq]at HW
    have HK:=Lib.hid hd
    clear hb hq hs hd
    go_wp2_with (go_at_call 156;refine((weight_any d hd1 hp _).mono (fun _ _ h=>(HW.out▸h))).mono ?_;rintro e w' ⟨rfl,rfl⟩)
    exact⟨⟨k+1,d+1,_,by have:=HK.out;omega,by rw[HK.out],by go_num,rfl,by rw[HD.out,bytesOf_append,HS.out],hB.alloc hsz _⟩,by simp[intOf];omega⟩
   ·have HD:=Lib.hid (dotsN_no c k hb)
    have ht:((c:Int) / (q:Int) % 2==1)=false:=by
     have hb2:c / q % 2=0:=by rw[← hq];omega
     rw[HCD.out,hb2];rfl
    have HS:=Lib.hid hs
    rw[hq]at HW
    have HK:=Lib.hid hd
    clear hb hq hs hd
    go_wp2_with (go_at_call 156;refine((weight_any d hd1 hp _).mono (fun _ _ h=>(HW.out▸h))).mono ?_;rintro e w' ⟨rfl,rfl⟩)
    exact⟨⟨k+1,d+1,s,by have:=HK.out;omega,by rw[HK.out],by go_num,rfl,by rw[HD.out,HS.out],hB⟩,by simp[intOf];omega⟩
  ·obtain rfl:k=6:=by omega
   have HS:=Lib.hid hs
   clear hs
   go_wp2
   go_ret
   exact⟨by rw[HS.out];rfl,hB⟩
theorem dotsS_size (c:Nat):(dotsS c).size=popN c:=by unfold dotsS popN;rw[bytesOf_size]
end Go.Proofs.YtlgejmcihchngaaGreatDoor.Ce
