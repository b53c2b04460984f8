/-
  Put together: CeA, CeB, CeC, CeD.
-/
import Derived.Test.YtlgejmcihchngaaGreatDoorCeM
import Derived.Test.YtlgejmcihchngaaGreatDoorShelf
import Derived.Lib.OthersKept
import Derived.BigCall
import Derived.Maps.AppendAt
import Derived.OwnWalk
namespace Go.Proofs.YtlgejmcihchngaaGreatDoor.Ce
open Go.RowKit
set_option maxHeartbeats 400000 in
theorem bitOf_any (d:Int) (h0:0≤d) (h1:d<2147483648) (w:World) :
  Calls Tryz.prog 172 #[.int .i32 d] w fun e w'=>e=.returned (.int .u8 ((bitN d.toNat:Nat):Int))∧w=w':=by
 by_cases a:d<49
 ·have HR:=Lib.hid (show (0:Int)=((bitN d.toNat:Nat):Int) by unfold bitN;rw[if_neg (by omega)];rfl)
  go_enter Tryz.func172,Tryz.ntmps172
  go_wp2
  go_ret
  exact⟨ret_int HR.out,rfl⟩
 by_cases b:54<d
 ·have HR:=Lib.hid (show (0:Int)=((bitN d.toNat:Nat):Int) by unfold bitN;rw[if_neg (by omega)];rfl)
  have ha:decide (d<49)=false:=by simpa using a
  go_enter Tryz.func172,Tryz.ntmps172
  go_wp2
  go_ret
  exact⟨ret_int HR.out,rfl⟩
 have hd:d=49∨d=50∨d=51∨d=52∨d=53∨d=54:=by omega
 clear a b h0 h1
 rcases hd with rfl | rfl | rfl | rfl | rfl | rfl
 all_goals
  go_enter Tryz.func172,Tryz.ntmps172
  go_wp2
  go_ret
  exact⟨rfl,rfl⟩
theorem bitOf_at (d:Int) (k:Nat) (h0:0≤d) (h1:d<2147483648) (hk:bitN d.toNat=k) (w:World) :
  Calls Tryz.prog 172 #[.int .i32 d] w fun e w'=>e=.returned (.int .u8 ((k:Nat):Int))∧w=w':=hk▸bitOf_any d h0 h1 w
end Go.Proofs.YtlgejmcihchngaaGreatDoor.Ce
namespace Go.Proofs.YtlgejmcihchngaaGreatDoor.Ce
open Go.RowKit
def powN (d:Nat):Nat:=2 ^ (d - 1)
theorem powN_le (d:Nat) (h:d≤6):powN d≤32:=by
 have:d=0∨d=1∨d=2∨d=3∨d=4∨d=5∨d=6:=by omega
 rcases this with rfl | rfl | rfl | rfl | rfl | rfl | rfl<;>decide
theorem powN_succ (d:Nat) (h:1≤d):powN (d+1)=2 * powN d:=by
 unfold powN
 obtain⟨e,rfl⟩:∃ e,d=e+1:=⟨d - 1,by omega⟩
 show 2 ^ (e+1)=2 * 2 ^ e
 rw[Nat.pow_succ,Nat.mul_comm]
set_option maxHeartbeats 1000000 in
theorem weight_any (d:Nat) (h1:1≤d) (h6:d≤6) (w:World) :
  Calls Tryz.prog 156 #[.int .i64 (d:Int)] w fun e w'=>e=.returned (.int .i64 ((powN d:Nat):Int))∧w=w':=by
 go_enter Tryz.func156,Tryz.ntmps156
 go_wp2
 go_loop [3,4] (fun n i=>∃ k p:Nat,1≤k∧k≤d∧i=.int .i64 k∧n=.int .i64 p∧p≤32∧powN k=p) (fun _ i=>d - (intOf i).toNat)
 case atStart=>exact⟨1,1,by omega,by omega,rfl,rfl,by omega,rfl⟩
 case round =>
  obtain⟨k,p,hk1,hk2,rfl,rfl,hp,hpk⟩:=hrel
  by_cases hlt:k<d
  ·have HP:=Lib.hid (show powN (k+1)=2 * p by rw[powN_succ k hk1,hpk])
   have hle:=powN_le (k+1) (by omega)
   have hp2:2 * p≤32:=by have:=HP.out;omega
   clear hle hpk
   go_wp2
   exact⟨⟨k+1,2 * p,by omega,by omega,by go_num,by go_num,by omega,HP.out⟩,by simp[intOf];omega⟩
  ·obtain rfl:k=d:=by omega
   have HP:=Lib.hid hpk;clear hpk
   go_wp2
   go_ret
   exact⟨ret_int (by rw[HP.out]),rfl⟩
end Go.Proofs.YtlgejmcihchngaaGreatDoor.Ce
namespace Go.Proofs.YtlgejmcihchngaaGreatDoor.Ce
open Go.RowKit
theorem ofL_next (s:ByteArray) (k c:Nat) (hk:k<s.size) (h:ofL ((bytesN s).take k)=some c) (hb:c<bitN (bAt s k)):ofL ((bytesN s).take (k+1))=some (c+bitN (bAt s k)):=by
 rw[take_snoc s k hk,ofL_snoc,h];simp[ofStep,hb]
theorem ofS_fail (s:ByteArray) (k c:Nat) (hk:k<s.size) (h:ofL ((bytesN s).take k)=some c) (hb:¬ c<bitN (bAt s k)):ofS s=0:=by
 have h1:ofL ((bytesN s).take (k+1))=none:=by rw[take_snoc s k hk,ofL_snoc,h];simp[ofStep,hb]
 have h2:=ofL_stop _ ((bytesN s).drop (k+1)) h1
 rw[List.take_append_drop]at h2
 unfold ofS ofN;rw[h2];rfl
theorem ofS_end (s:ByteArray) (c:Nat) (h:ofL ((bytesN s).take s.size)=some c):ofS s=c:=by
 unfold ofS ofN
 rw[← bytesN_len,List.take_length]at h
 rw[h];rfl
end Go.Proofs.YtlgejmcihchngaaGreatDoor.Ce
namespace Go.Proofs.YtlgejmcihchngaaGreatDoor.Ce
open Go.RowKit
theorem infoByte:(Tryz.prog.info? 5).map (fun i=>(i.zero,i.size,i.bytes))=some (some (.int .u8 0),1,1):=by kernel_rfl
def sixS:ByteArray:={ data:=#[49,50,51,52,53,54] }
theorem six_at:∀ k:Fin 6,((sixS[k.val]'(k.isLt)).toNat:Int)=((49+k.val:Nat):Int):=by decide +kernel
theorem six_low:∀ k:Fin 6,(sixS[k.val]'(k.isLt)).toNat<128:=by decide +kernel
theorem bit_six:∀ k:Fin 6,bitN (((49+k.val:Nat):Int).toNat)=2 ^ k.val:=by decide +kernel
theorem and_all:∀ c:Fin 256,∀ j:Fin 6,(bits .and .u8 ((c.val:Nat):Int) ((2 ^ j.val:Nat):Int)==0)=!(c.val / 2 ^ j.val % 2==1):=by decide +kernel
def cellsL (l:List Nat):List Value:=l.map fun d:Nat=>Value.int .u8 ((d:Nat):Int)
theorem cellsL_snoc (l:List Nat) (d:Nat):cellsL (l++[d])=cellsL l++[.int .u8 (d:Int)]:=by simp[cellsL]
theorem dotsN_lt (c k:Nat) (hk:k≤6):∀ x ∈ dotsN c k,x<128:=by
 intro x hx
 simp only[dotsN,List.mem_map,List.mem_filter,List.mem_range]at hx
 obtain⟨i,⟨hi,_⟩,rfl⟩:=hx
 omega
theorem iter_own {w:World} {base:Nat} {e:TypeId} {size:Nat} {v:Value} {n:Nat} {xs:List Value} (h:w.ownsRow base e size v n xs) {k:Nat} (hk:k<base) (s:ByteArray) (p:Nat):(w.iterAt k s p).ownsRow base e size v n xs:=by
 refine⟨h.1,?_⟩
 rcases h.2 with hn | ⟨g,cap,cur,hv,hb,hg,rest⟩
 ·exact .inl hn
 ·exact .inr ⟨g,cap,cur,hv,hb,(Lib.iterAt_other w k g s p (by omega)).trans hg,rest⟩
theorem back_of_row {w:World} {v:Value} {n base:Nat} (l:List Nat) (hl:∀ x ∈ l,x<256) (h:w.ownsRow base 5 1 v n (cellsL l)) :
  (convert 52 9 v).run Tryz.prog w=.ok (.string (bytesOf l)) w:=by
 have hln:l.length=n:=by have:=h.1;simpa[cellsL] using this
 rcases h.2 with⟨rfl,h0⟩ | ⟨g,cap,cur,rfl,_⟩
 ·have hnil:l=[]:=List.eq_nil_of_length_eq_zero (by omega)
  subst hnil
  exact run_convert_bytes_nil (P:=Tryz.prog) w 52 5 Tryz.underlying52 Tryz.underlying5 0 0 9 Tryz.underlying9
 ·have hback:=run_convert_bytes_back (P:=Tryz.prog) w 52 9 5 ⟨g,0,none⟩ cap (l.map UInt8.ofNat) Tryz.underlying52 Tryz.underlying5 Tryz.underlying9 (fun j hj=>by
   have hj':j<l.length:=by simpa using hj
   have e:(⟨g,0,none⟩:Addr).add j=⟨g,j,none⟩:=by unfold Addr.add;split<;>simp_all
   rw[e,h.cellAt j (by omega)]
   have h256:=hl l[j] (List.getElem_mem hj')
   simp only[cellsL,List.getElem?_map,List.getElem?_eq_getElem hj',Option.map_some,List.getElem_map]
   have e3:(UInt8.ofNat l[j]).toNat=l[j]:=by simp[Nat.mod_eq_of_lt h256]
   rw[e3])
  rw[List.length_map,hln]at hback
  exact hback
set_option maxHeartbeats 4000000 in
set_option maxRecDepth 100000 in
theorem dots_any (c:Nat) (hc:c<256) (w:World) :
  Calls Tryz.prog 157 #[.int .u8 (c:Int)] w fun e w'=>e=.returned (.string (dotsS c))∧Below w.heap.size w w':=by
 obtain⟨i0,hi,hz0,hz1,hz2⟩:=info_parts infoByte
 go_enter Tryz.func157,Tryz.ntmps157
 go_wp2
 go_loopw [3] (fun v wr=>∃ (k n:Nat),k≤6∧wr.heap[w.heap.size]?=some (.stringIter sixS k)∧Below w.heap.size w wr∧(dotsN c k).length=n∧wr.ownsRow (w.heap.size+1) 5 1 v n (cellsL (dotsN c k))) (fun _ wr=>6 - wr.iterPos w.heap.size)
 case atStart =>
  refine⟨0,0,by omega,?_,(Below.refl _ w).alloc (Nat.le_refl _) _,rfl,?_⟩
  ·exact World.iter_heap w sixS 0
  ·exact World.ownsRow_nil _ _ _ _
 case round =>
  obtain⟨k,n,hk,hit,hB,hn,hown⟩:=hrel
  have hsz:w.heap.size<wr.heap.size:=(Array.getElem?_eq_some_iff.1 hit).1
  have hn6:n≤6:=by have:=dotsN_len c k;omega
  by_cases hp:k<6
  ·have hnx:∀ ty,(Instr.next (.pointer (some ⟨w.heap.size,0,none⟩)) true ty).run Tryz.prog wr=.ok (.tuple #[.bool true,.int .i64 k,.int .i32 ((49+k:Nat):Int)]) (wr.iterAt w.heap.size sixS (k+1)):=fun ty=>by
    rw[Lib.run_next_ascii_at wr w.heap.size sixS k ty hit hp (six_low ⟨k,hp⟩),six_at ⟨k,hp⟩]
   have hit2:=Lib.iterAt_heap wr w.heap.size sixS k (k+1) hit
   have hB2:=Lib.below_iterAt hB (k:=w.heap.size) (by omega) sixS (k+1)
   have hown2:=iter_own hown (k:=w.heap.size) (by omega) sixS (k+1)
   have hba:=bit_six ⟨k,hp⟩
   have hand:=and_all ⟨c,hc⟩ ⟨k,hp⟩
   simp only[]at hba hand
   have HP:=Lib.hid (show 6 - (wr.iterAt w.heap.size sixS (k+1)).iterPos w.heap.size<6 - wr.iterPos w.heap.size by
    simp only[World.iterPos,hit2,hit];omega)
   have hsz2:w.heap.size<(wr.iterAt w.heap.size sixS (k+1)).heap.size:=by rw[Lib.iterAt_size];exact hsz
   have hns:=Lib.hid hn;clear hn
   obtain⟨q,hq⟩:∃ q,2 ^ k=q:=⟨_,rfl⟩
   by_cases hb:c / 2 ^ k % 2=1
   ·have HD:=Lib.hid (dotsN_yes c k hb)
    have hand2:(bits .and .u8 ((c:Nat):Int) ((q:Nat):Int)==0)=false:=by rw[← hq,hand];simp[hb]
    rw[hq]at hba
    have HQ:=Lib.hid hba
    clear hand hb hba hq hown hB
    go_wp2_with (first
     |(go_at_call 172;refine(bitOf_at (((49+k:Nat):Int)) q (by omega) (by omega) HQ.out _).mono ?_;rintro e w' ⟨rfl,rfl⟩)
     |(at_builtin;refine wpList_append_own _ rfl _ _ 52 rfl (w.heap.size+1) 5 i0 (.int .u8 0) 1 1 Tryz.underlying52 hi hz0 hz1 hz2 rfl (by decide) _ _ _ rfl (hown2.alloc _) ⟨(wr.iterAt w.heap.size sixS (k+1)).heap.size,0,none⟩ 1 1 [.int .u8 (49+(k:Int))] rfl rfl (cell_one_new _ _ _) (by simp[Value.oneCell']) (by unfold maxLen;omega) (by omega) (by simp;omega) ?_;intro v' w1 hown' hgrow _))
    have hB3:Below w.heap.size w w1:=(hB2.alloc (by omega) _).grown hgrow (by simp;omega) (fun j ej=>by have:=(hown2.lt j ej).1;omega)
    have hit3:w1.heap[w.heap.size]?=some (.stringIter sixS (k+1)):=by
     rw[hgrow.block w.heap.size (by simp;omega) (fun e=>by have:=(hown2.lt _ e.symm).1;omega)]
     exact(Below.heap_alloc _ _ _ hsz2).trans hit2
    refine⟨⟨k+1,n+1,by omega,hit3,hB3,by rw[HD.out,List.length_append,hns.out];rfl,?_⟩,?_⟩
    ·rw[HD.out,cellsL_snoc];exact hown'
    ·have:=HP.out
     simp only[World.iterPos,hit3,hit2]at this ⊢;exact this
   ·have HD:=Lib.hid (dotsN_no c k hb)
    have hand2:(bits .and .u8 ((c:Nat):Int) ((q:Nat):Int)==0)=true:=by rw[← hq,hand];simp[hb]
    rw[hq]at hba
    have HQ:=Lib.hid hba
    clear hand hb hba hq hown hB
    go_wp2_with (go_at_call 172;refine(bitOf_at (((49+k:Nat):Int)) q (by omega) (by omega) HQ.out _).mono ?_;rintro e w' ⟨rfl,rfl⟩)
    exact⟨⟨k+1,n,by omega,hit2,hB2,by rw[HD.out];exact hns.out,by rw[HD.out];exact hown2⟩,HP.out⟩
  ·have hnx:∀ ty,(Instr.next (.pointer (some ⟨w.heap.size,0,none⟩)) true ty).run Tryz.prog wr=_:=fun ty=>Lib.run_next_end_at wr w.heap.size sixS k ty hit hp
   obtain rfl:k=6:=by omega
   rcases hown.2 with⟨rfl,h0⟩ | ⟨g,cap,cur,rfl,_⟩
   all_goals
    have hback:=back_of_row (dotsN c 6) (fun x hx=>Nat.lt_trans (dotsN_lt c 6 (Nat.le_refl _) x hx) (by decide)) hown
    go_wp2
    go_ret
    exact⟨rfl,hB⟩
end Go.Proofs.YtlgejmcihchngaaGreatDoor.Ce
