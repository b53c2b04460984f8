/-
  Put together: CkH, CmG.
-/
import Derived.Test.YtlgejmcihchngaaGreatDoorQc
import Derived.Test.YtlgejmcihchngaaGreatDoorUj
import Derived.Test.YtlgejmcihchngaaGreatDoorQj
namespace Go.Proofs.YtlgejmcihchngaaGreatDoor.Ck
open Go.RowKit Ba Ru
theorem not_empty {M:ByteArray} (h:M≠{ data:=#[] }):M.toList.isEmpty=false:=by
 rw[ByteArray.toList_eq,List.isEmpty_eq_false_iff]
 intro e
 apply h
 apply ByteArray.ext
 apply Array.ext'
 exact e
theorem want_a:∀ k:Fin 26,wantL[k.val]?=some (1,[97+k.val]):=by decide +kernel
theorem want_a' (k:Fin 26):wantL[0+k.val]?=some (1,[97+k.val]):=by rw[Nat.zero_add];exact want_a k
theorem want_b:∀ k:Fin 12,wantL[26+k.val]?=some (6,[Ka.markL.getD k.val 0]):=by decide +kernel
theorem want_c:∀ k:Fin 10,wantL[38+k.val]?=some (7,[48+k.val]):=by decide +kernel
theorem want_d:∀ k:Fin 13,wantL[48+k.val]?=some (8,namesL.getD k.val []):=by decide +kernel
theorem want_size:wantL.length=61:=by decide +kernel
def HadTo (l:List Rl) (n:Nat):Prop:=∀ j,j<n→∀ v,wantL[j]?=some v→hasB l v=true
theorem HadTo.step {l:List Rl} {n:Nat} {v:Int × List Nat} (h:HadTo l n) (hv:wantL[n]?=some v) (hb:hasB l v=true):HadTo l (n+1):=fun j hj u hu=>by
 rcases Nat.lt_or_ge j n with h1 | h1
 ·exact h j h1 u hu
 ·obtain rfl:j=n:=by omega
  rw[hv]at hu;cases hu;exact hb
theorem HadTo.miss {l:List Rl} {n:Nat} {v:Int × List Nat} (h:HadTo l n) (hv:wantL[n]?=some v) (hb:hasB l v=false):missR l=v.2:=by
 unfold missR
 have hf:wantL.find? (fun w=>!hasB l w)=some v:=by
  rw[List.find?_eq_some_iff_getElem]
  obtain⟨hn,e⟩:=List.getElem?_eq_some_iff.1 hv
  refine⟨by rw[hb];rfl,n,hn,e,fun j hj=>?_⟩
  rw[h j hj _ (List.getElem?_eq_getElem (by omega))];rfl
 rw[hf]
theorem HadTo.all {l:List Rl} (h:HadTo l 61):missR l=[]:=(miss_nil l).2 fun w hw=>by
 obtain⟨j,hj,e⟩:=List.getElem_of_mem hw
 exact h j (by rw[← want_size];exact hj) w (by rw[List.getElem?_eq_getElem hj,e])
theorem marks_n:bytesN Ka.marksS=Ka.markL:=by decide +kernel
theorem mark_ext (k:Fin 12):bytesN (Ka.marksS.extract k.val (k.val+1))=[Ka.markL.getD k.val 0]:=by
 rw[bytesN_ext,marks_n]
 revert k
 decide +kernel
theorem marks_size:Ka.marksS.size=12:=by decide +kernel
theorem back_one (w:World) (n:Nat) (hn:n<256) (z:Int) (hz:(n:Int)=z) :
  (convert 52 9 (.slice (some ⟨w.heap.size,0,none⟩) 1 1)).run Tryz.prog (w.alloc (.cells #[.int .u8 z] 5))=.ok (.string (bytesOf [n])) (w.alloc (.cells #[.int .u8 z] 5)):=by
 subst hz
 exact Ce.back_of_row [n] (fun x hx=>by rw[List.mem_singleton.1 hx];exact hn) (World.ownsRow_lit (base:=w.heap.size) (e:=5) (size:=1) w #[.int .u8 (n:Int)] 1 (Nat.le_refl _) (by decide) rfl)
set_option maxRecDepth 100000 in
set_option maxHeartbeats 8000000 in
theorem rmissing_any (v:Value) (l:List Rl) (off:Nat) (hl:l.length≤1000000) (hf:∀ x ∈ l,FitR x) (m:List Nat) (hm:missR l=m) (w:World) (hv:ReadsR off w w.heap.size v l) :
  Calls Tryz.prog 34 #[v] w fun e w'=>e=.returned (.string (bytesOf m))∧Below w.heap.size w w':=by
 have HRV:=Lib.hid hv
 have HF:=Lib.hid hf
 have HM:=Lib.hid hm
 obtain⟨A,c,rfl,-⟩:=hv
 clear hf hm
 obtain⟨nl,hnl⟩:∃ nl,l.length=nl:=⟨_,rfl⟩
 rw[hnl]at HRV ⊢
 clear hnl
 go_enter Tryz.func34,Tryz.ntmps34
 go_wp2
 go_loopw [3] (fun i wr=>∃ k:Nat,k≤26∧i=.int .i64 k∧HadTo l (0+k)∧Below w.heap.size w wr) (fun i _=>26 - (intOf i).toNat)
 case atStart=>exact⟨0,by omega,rfl,(fun j hj=>by omega),Below.refl _ _⟩
 case round =>
  obtain⟨k,hk,rfl,hN,hB⟩:=hrel
  have HH:=Lib.hid hN
  have HBW:=Lib.hid hB
  clear hN hB
  by_cases hlt:k<26
  ·have hback:=back_one wr (97+k) (by omega) (97+(k:Int)) (by omega)
   have hv:wantL[0+k]?=some (1,[97+k]):=want_a' ⟨k,hlt⟩
   obtain⟨hb,hhb⟩:∃ hb,hasB l (1,[97+k])=hb:=⟨_,rfl⟩
   have HV:=Lib.hid hv
   have HHB:=Lib.hid hhb
   have HAS:=Lib.hid (show ∀ W,Below w.heap.size w W→Calls Tryz.prog 64 #[.slice A nl c,.int .i64 1,.string (bytesOf [97+k])] W fun e w'=>e=.returned (.bool hb)∧w'=W from fun W hW=>by
    have h:=rhas_any _ l off 1 (bytesOf [97+k]) hl HF.out W w.heap.size (HRV.out.below hW)
    rw[bytesN_bytesOf _ (fun x hx=>by rw[List.mem_singleton.1 hx];omega),hhb]at h
    exact h)
   have t1:decide ((k:Int)<26)=true:=decide_eq_true (by omega)
   clear hv hhb
   go_wp2_with fail
   have HB2:=Lib.hid (HBW.out.alloc HBW.out.size (.cells #[.int .u8 (97+(k:Int))] 5))
   refine(HAS.out _ HB2.out).mono ?_
   rintro e w2 ⟨rfl,rfl⟩
   cases hb
   case true =>
    have HNX:=Lib.hid (HH.out.step HV.out HHB.out)
    clear hback
    generalize wr.alloc _=w3 at HB2 ⊢
    go_wp2
    go_roundw
    case rel=>exact⟨k+1,by omega,by go_num,HNX.out,HB2.out⟩
    case measure=>simp[intOf];omega
   case false =>
    have HE:=Lib.hid (HH.out.miss HV.out HHB.out)
    clear hback
    generalize wr.alloc _=w3 at HB2 ⊢
    go_wp2
    go_ret
    exact⟨ret_str (by rw[← HM.out,HE.out]),HB2.out⟩
  ·have HH:=Lib.hid (show HadTo l 26 from by
    obtain rfl:k=26:=by omega
    exact HH.out)
   have tz:decide ((k:Int)<26)=false:=decide_eq_false (by omega)
   clear hlt
   go_wp2_with fail
   refine(Ka.rmarks_any _).mono ?_
   rintro e w' ⟨rfl,rfl⟩
   obtain⟨M,hM⟩:∃ M,Ka.marksS=M:=⟨_,rfl⟩
   rw[hM]
   have hMs:M.size=12:=by rw[← hM];exact marks_size
   have HMX:=Lib.hid (show ∀ k:Fin 12,bytesN (M.extract k.val (k.val+1))=[Ka.markL.getD k.val 0] by rw[← hM];exact mark_ext)
   have hM1:M.size≤12:=by omega
   have hM2:12≤M.size:=by omega
   clear hM hMs
   go_wp2
   go_loopw [6] (fun i wr=>∃ k:Nat,k≤12∧i=.int .i64 k∧HadTo l (26+k)∧Below w.heap.size w wr) (fun i _=>12 - (intOf i).toNat)
   case atStart=>exact⟨0,by omega,rfl,HH.out,HBW.out⟩
   case round =>
    obtain⟨k,hk,rfl,hN,hB⟩:=hrel
    clear HH HBW
    have HH:=Lib.hid hN
    have HBW:=Lib.hid hB
    clear hN hB
    by_cases hlt:k<12
    ·have hv:wantL[26+k]?=some (6,[Ka.markL.getD k 0]):=want_b ⟨k,hlt⟩
     obtain⟨P,hP⟩:∃ P,M.extract k (k+1)=P:=⟨_,rfl⟩
     have hPN:bytesN P=[Ka.markL.getD k 0]:=by rw[← hP];exact HMX.out ⟨k,hlt⟩
     obtain⟨hb,hhb⟩:∃ hb,hasB l (6,[Ka.markL.getD k 0])=hb:=⟨_,rfl⟩
     have HV:=Lib.hid hv
     have HHB:=Lib.hid hhb
     have HPN:=Lib.hid hPN
     have HP:=Lib.hid hP
     have HAS:=Lib.hid (show ∀ W,Below w.heap.size w W→Calls Tryz.prog 64 #[.slice A nl c,.int .i64 6,.string (M.extract k (k+1))] W fun e w'=>e=.returned (.bool hb)∧w'=W from fun W hW=>by
      rw[hP]
      have h:=rhas_any _ l off 6 P hl HF.out W w.heap.size (HRV.out.below hW)
      rw[hPN,hhb]at h
      exact h)
     have t1:decide ((k:Int)<(M.size:Int))=true:=decide_eq_true (by omega)
     clear hv hhb hPN hP
     go_wp2_with fail
     refine(HAS.out _ HBW.out).mono ?_
     rintro e w2 ⟨rfl,rfl⟩
     cases hb
     case true =>
      have HNX:=Lib.hid (HH.out.step HV.out HHB.out)
      go_wp2
      go_roundw
      case rel=>exact⟨k+1,by omega,by go_num,HNX.out,HBW.out⟩
      case measure=>simp[intOf];omega
     case false =>
      have HE:=Lib.hid (HH.out.miss HV.out HHB.out)
      go_wp2
      go_ret
      exact⟨ret_str (by rw[← HM.out,HE.out];exact eq_lit _ (by rw[HP.out];exact HPN.out)),HBW.out⟩
    ·have HH:=Lib.hid (show HadTo l 38 from by
      obtain rfl:k=12:=by omega
      exact HH.out)
     have tz:decide ((k:Int)<(M.size:Int))=false:=decide_eq_false (by omega)
     have tz2:decide (k<M.size)=false:=decide_eq_false (by omega)
     clear hlt
     go_wp2
     go_loopw [7] (fun i wr=>∃ k:Nat,k≤10∧i=.int .i64 k∧HadTo l (38+k)∧Below w.heap.size w wr) (fun i _=>10 - (intOf i).toNat)
     case atStart=>exact⟨0,by omega,rfl,HH.out,HBW.out⟩
     case round =>
      obtain⟨k,hk,rfl,hN,hB⟩:=hrel
      clear HH HBW
      have HH:=Lib.hid hN
      have HBW:=Lib.hid hB
      clear hN hB
      by_cases hlt:k<10
      ·have hback:=back_one wr (48+k) (by omega) (48+(k:Int)) (by omega)
       have hv:wantL[38+k]?=some (7,[48+k]):=want_c ⟨k,hlt⟩
       obtain⟨hb,hhb⟩:∃ hb,hasB l (7,[48+k])=hb:=⟨_,rfl⟩
       have HV:=Lib.hid hv
       have HHB:=Lib.hid hhb
       have HAS:=Lib.hid (show ∀ W,Below w.heap.size w W→Calls Tryz.prog 64 #[.slice A nl c,.int .i64 7,.string (bytesOf [48+k])] W fun e w'=>e=.returned (.bool hb)∧w'=W from fun W hW=>by
        have h:=rhas_any _ l off 7 (bytesOf [48+k]) hl HF.out W w.heap.size (HRV.out.below hW)
        rw[bytesN_bytesOf _ (fun x hx=>by rw[List.mem_singleton.1 hx];omega),hhb]at h
        exact h)
       have t1:decide ((k:Int)<10)=true:=decide_eq_true (by omega)
       clear hv hhb
       go_wp2_with fail
       have HB2:=Lib.hid (HBW.out.alloc HBW.out.size (.cells #[.int .u8 (48+(k:Int))] 5))
       refine(HAS.out _ HB2.out).mono ?_
       rintro e w2 ⟨rfl,rfl⟩
       cases hb
       case true =>
        have HNX:=Lib.hid (HH.out.step HV.out HHB.out)
        clear hback
        generalize wr.alloc _=w3 at HB2 ⊢
        go_wp2
        go_roundw
        case rel=>exact⟨k+1,by omega,by go_num,HNX.out,HB2.out⟩
        case measure=>simp[intOf];omega
       case false =>
        have HE:=Lib.hid (HH.out.miss HV.out HHB.out)
        clear hback
        generalize wr.alloc _=w3 at HB2 ⊢
        go_wp2
        go_ret
        exact⟨ret_str (by rw[← HM.out,HE.out]),HB2.out⟩
      ·have HH:=Lib.hid (show HadTo l 48 from by
        obtain rfl:k=10:=by omega
        exact HH.out)
       have tz:decide ((k:Int)<10)=false:=decide_eq_false (by omega)
       clear hlt
       go_wp2_with fail
       refine(rnames_any _).mono ?_
       rintro e w4 ⟨v4,rfl,own,hb4⟩
       have HB4:=Lib.hid (chain HBW.out HBW.out.size hb4)
       have HO4:=Lib.hid own
       obtain⟨g,cap,rfl,-,-,hcap⟩:=own_slice own (by decide)
       clear own hb4
       go_wp2
       go_loopw [10] (fun i wr=>∃ k:Nat,k≤13∧i=.int .i64 k∧HadTo l (48+k)∧wr=w4) (fun i _=>13 - (intOf i).toNat)
       case atStart=>exact⟨0,by omega,rfl,HH.out,rfl⟩
       case round =>
        obtain⟨k,hk,rfl,hN,rfl⟩:=hrel
        clear HH HBW
        have HH:=Lib.hid hN
        clear hN
        by_cases hlt:k<13
        ·have hv:wantL[48+k]?=some (8,namesL.getD k []):=want_d ⟨k,hlt⟩
         obtain⟨d,hd⟩:∃ d,namesL[k]?=some d:=⟨_,List.getElem?_eq_getElem (show k<namesL.length from hlt)⟩
         rw[List.getD_eq_getElem?_getD,hd,Option.getD_some]at hv
         have C1:wr.cell? ⟨g,k,none⟩=some (.string (bytesOf d)):=by
          have:=HO4.out.cellAt (k * 1+0) (by show k * 1+0<13 * 1;omega)
          rw[rows_at cS cS_len namesL k d hd 0 (by omega)]at this
          simpa[cS] using this
         have hdl:∀ x ∈ d,x<256:=by
          have hx:∀ j:Fin 13,∀ x ∈ namesL[j.val]?.getD [],x<256:=by decide +kernel
          have:=hx ⟨k,hlt⟩
          rw[hd]at this
          exact this
         obtain⟨hb,hhb⟩:∃ hb,hasB l (8,d)=hb:=⟨_,rfl⟩
         have HV:=Lib.hid hv
         have HHB:=Lib.hid hhb
         have HAS:=Lib.hid (show Calls Tryz.prog 64 #[.slice A nl c,.int .i64 8,.string (bytesOf d)] wr fun e w'=>e=.returned (.bool hb)∧w'=wr by
          have h:=rhas_any _ l off 8 (bytesOf d) hl HF.out wr w.heap.size (HRV.out.below HB4.out)
          rw[bytesN_bytesOf d hdl,hhb]at h
          exact h)
         have k0:(0:Int)≤(k:Int):=by omega
         have k1:(k:Int)<13:=by omega
         clear hv hhb hdl hd
         go_wp2_with fail
         refine HAS.out.mono ?_
         rintro e w2 ⟨rfl,rfl⟩
         cases hb
         case true =>
          have HNX:=Lib.hid (HH.out.step HV.out HHB.out)
          go_wp2
          go_roundw
          case rel=>exact⟨k+1,by omega,by go_num,HNX.out,trivial⟩
          case measure=>simp[intOf];omega
         case false =>
          have HE:=Lib.hid (HH.out.miss HV.out HHB.out)
          go_wp2
          go_ret
          exact⟨ret_str (by rw[← HM.out,HE.out]),HB4.out⟩
        ·obtain rfl:k=13:=by omega
         have HE:=Lib.hid HH.out.all
         go_wp2
         go_ret
         exact⟨ret_str (by rw[← HM.out,HE.out];rfl),HB4.out⟩
end Go.Proofs.YtlgejmcihchngaaGreatDoor.Ck
namespace Go.Proofs.YtlgejmcihchngaaGreatDoor.Ck
open Go.RowKit Ba Ru
theorem want_fit:∀ v ∈ wantL,FitR (wantRl v):=by
 unfold FitR I64 maxLen
 decide +kernel
theorem reads_take {off:Nat} {w:World} {B n c:Nat} {A:Option Addr} {l:List Rl} (h:ReadsR off w B (.slice A n c) l) {k:Nat} (hk:k≤l.length):ReadsR off w B (.slice A k c) (l.take k):=by
 obtain⟨A',c',e,hA⟩:=h
 injection e with e1 e2 e3
 subst e1;subst e3
 have hl:(l.take k).length=k:=by rw[List.length_take];omega
 refine⟨A,c,by rw[hl],fun h0=>?_⟩
 obtain⟨g,rfl,hg,hc⟩:=hA (by omega)
 refine⟨g,rfl,hg,fun j x hx u v hv=>hc j x ?_ u v hv⟩
 rw[List.getElem?_take]at hx
 split at hx
 ·exact hx
 ·cases hx
set_option maxRecDepth 100000 in
set_option maxHeartbeats 8000000 in
theorem missing9_at (v:Value) (l:List Rl) (off:Nat) (hl:l.length≤100000) (hf:∀ x ∈ l,FitR x) (m:List Nat) (hm:missR l=m) (w:World) (hL:LaidR w) (hv:ReadsR off w w.heap.size v l) :
  Calls Tryz.prog 69 #[v] w fun e w'=>e=.returned (.string (bytesOf m))∧Below w.heap.size w w':=by
 have HRV:=Lib.hid hv
 have HF:=Lib.hid hf
 have HM:=Lib.hid hm
 have HWA:=Lib.hid (wanted_at w hL)
 obtain⟨A,c,rfl,-⟩:=hv
 clear hf hm hL
 obtain⟨nl,hnl⟩:∃ nl,l.length=nl:=⟨_,rfl⟩
 rw[hnl]at HRV hl ⊢
 have HNL:=Lib.hid hnl
 clear hnl
 go_enter Tryz.func69,Tryz.ntmps69
 go_wp2_with fail
 refine HWA.out.mono ?_
 rintro e w1 ⟨v1,rfl,own1,hb1⟩
 have HV1:=Lib.hid (Reads.of_own (f:=cR) (n:=5) cR_len want_len own1)
 have HB1:=Lib.hid hb1
 have HRV1:=Lib.hid ((HRV.out.below hb1).mono hb1.size)
 obtain⟨g,cap,rfl,-,-,-⟩:=own_slice own1 (by decide)
 clear own1 hb1
 go_wp2
 go_loopw [7] (fun i wr=>∃ k:Nat,k≤61∧i=.int .i64 (k:Int)∧HadTo l k∧Below w1.heap.size w1 wr) (fun i _=>61 - (intOf i).toNat)
 case atStart=>exact⟨0,by omega,rfl,fun j hj=>by omega,Below.refl _ _⟩
 case round =>
  obtain⟨k,hk,rfl,hN,hB⟩:=hrel
  have HH:=Lib.hid hN
  have HBW:=Lib.hid hB
  clear hN hB
  by_cases hlt:k<61
  ·obtain⟨u,hu⟩:∃ u,wantL[k]?=some u:=⟨_,List.getElem?_eq_getElem (by rw[want_size];exact hlt)⟩
   have hx:wantR[k]?=some (wantRl u):=by unfold wantR;rw[List.getElem?_map,hu];rfl
   obtain⟨A',c',e,hA⟩:=HV1.out
   injection e with e1 e2 e3
   subst e1;subst e3;clear e2
   obtain⟨g',hg',hgw,hg⟩:=hA (by rw[want_len];omega)
   injection hg' with hg'
   injection hg' with e4 e5 e6
   subst e4
   obtain⟨g0,g1,g2,g3,g4⟩:=rcell hg k _ hx
   have g0:=(HBW.out.cell (p:=⟨g,0+k * 5,none⟩) hgw).trans g0
   have g1:=(HBW.out.cell (p:=⟨g,0+k * 5+1,none⟩) hgw).trans g1
   have g2:=(HBW.out.cell (p:=⟨g,0+k * 5+2,none⟩) hgw).trans g2
   have g3:=(HBW.out.cell (p:=⟨g,0+k * 5+3,none⟩) hgw).trans g3
   have g4:=(HBW.out.cell (p:=⟨g,0+k * 5+4,none⟩) hgw).trans g4
   have hfu:=want_fit u (List.mem_of_getElem? hu)
   obtain⟨hb,hhb⟩:∃ hb,hasB l u=hb:=⟨_,rfl⟩
   have HV:=Lib.hid hu
   have HHB:=Lib.hid hhb
   obtain⟨uq,us⟩:=u
   obtain⟨S,hS⟩:∃ S,bytesOf us=S:=⟨_,rfl⟩
   have HSS:=Lib.hid hS
   obtain⟨T0,hT0⟩:∃ T,bytesOf ([]:List Nat)=T:=⟨_,rfl⟩
   have HCF:=Lib.hid (show ∀ W:World,BoxS W wr.heap.size uq S T0 0 0→Below w1.heap.size w1 W→Calls Tryz.prog 99 #[.slice A nl c,.func (.func 103) #[] #[.pointer (some ⟨wr.heap.size,0,none⟩)]] W fun e w'=>e=.returned (.bool hb)∧Below W.heap.size W w' from fun W hW hbW=>by
    have hr:=(HRV1.out.below hbW).mono hbW.size
    refine containsFM_at l A off nl c HNL.out hl (aboutB (wantRl (uq,us))) hb (by rw[about_has];exact hhb) wr.heap.size W hr (fun y hy V hV=>missingF_at (wantRl (uq,us)) y hfu (HF.out y hy) wr.heap.size V ?_)
    have h:=hW.kept hV
    rw[← hS,← hT0]at h
    exact h)
   simp only[wantRl,hS,hT0,Nat.zero_add]at g0 g1 g2 g3 g4
   have k0:(0:Int)≤(k:Int):=by omega
   have k1:(k:Int)<61:=by omega
   clear hu hx hfu hg hA hgw hhb hS hT0 e5 e6
   go_upto_region 4 with fail
   have hSt:=BoxS.new wr uq S T0 0 0 50
   have hbb:=HBW.out.alloc HBW.out.size (.cells #[.int .i64 uq,.string S,.string T0,.int .i64 0,.int .i64 0] 50)
   generalize wr.alloc _=W1 at hSt hbb ⊢
   have HST:=Lib.hid hSt
   have HBB:=Lib.hid hbb
   clear hSt hbb g0 g1 g2 g3 g4
   go_wp2_with fail
   refine(HCF.out _ HST.out HBB.out).mono ?_
   rintro e w2 ⟨rfl,hb2⟩
   have HB2:=Lib.hid (chain HBB.out HBB.out.size hb2)
   cases hb
   case true =>
    have HNX:=Lib.hid (HH.out.step HV.out HHB.out)
    clear hb2
    go_wp2
    go_roundw
    case rel=>exact⟨k+1,by omega,by go_num,HNX.out,HB2.out⟩
    case measure=>simp[intOf];omega
   case false =>
    have HE:=Lib.hid (HH.out.miss HV.out HHB.out)
    have c1:=(HST.out.kept hb2).2.1
    clear hb2
    go_wp2
    go_ret
    exact⟨ret_str (by rw[← HM.out,HE.out,← HSS.out]),chain HB1.out HB1.out.size HB2.out⟩
  ·have HE:=Lib.hid (show missR l=[] from HadTo.all (by rw[show 61=k by omega];exact HH.out))
   have t1:decide ((k:Int)<61)=false:=decide_eq_false (by omega)
   go_wp2
   go_ret
   exact⟨ret_str (by rw[← HM.out,HE.out];rfl),chain HB1.out HB1.out.size HBW.out⟩
set_option maxRecDepth 100000 in
set_option maxHeartbeats 8000000 in
theorem table9_at (v:Value) (l:List Rl) (off:Nat) (hl:l.length≤100000) (hf:∀ x ∈ l,FitR x∧x.left.length≤9000∧x.cells.length≤9000) (hcp:CapsR v) (r:Int × Nat) (hr:tableR prC l=r) (w:World) (hL:LaidR w) (hM:LaidM w) (hv:ReadsR off w w.heap.size v l) :
  Calls Tryz.prog 35 #[v] w fun e w'=>e=.returned (.tuple #[.int .i64 r.1,.int .i64 ((r.2:Nat):Int)])∧Below w.heap.size w w':=by
 have HRV:=Lib.hid hv
 have HF:=Lib.hid hf
 have HR:=Lib.hid hr
 have hLN:=hL.1
 have HL:=Lib.hid hL
 have HM:=Lib.hid hM
 obtain⟨A,c,rfl,-⟩:=hv
 have hcc:=(hcp _ _ _ rfl).1
 have hcm:=(hcp _ _ _ rfl).2
 clear hf hr hL hM hcp
 obtain⟨nl,hnl⟩:∃ nl,l.length=nl:=⟨_,rfl⟩
 rw[hnl]at HRV hl hcc ⊢
 have HNL:=Lib.hid hnl
 clear hnl
 unfold maxLen at hcm
 go_enter Tryz.func35,Tryz.ntmps35
 go_wp2
 go_loopw [8] (fun i wr=>∃ k:Nat,k≤nl∧i=.int .i64 (k:Int)∧goodTo prC l k∧Below w.heap.size w wr) (fun i _=>nl - (intOf i).toNat)
 case atStart=>exact⟨0,by omega,rfl,good_zero _ _,Below.refl _ _⟩
 case round =>
  obtain⟨k,hk,rfl,hN,hB⟩:=hrel
  have HG:=Lib.hid hN
  have HBW:=Lib.hid hB
  clear hN hB
  by_cases hlt:k<nl
  ·have t1:decide ((k:Int)<(nl:Int))=true:=decide_eq_true (by omega)
   have k0:(0:Int)≤(k:Int):=by omega
   have k1:(k:Int)<(nl:Int):=by omega
   have hkc:k≤c:=by omega
   obtain⟨x,hx⟩:∃ x,l[k]?=some x:=⟨_,List.getElem?_eq_getElem (by rw[HNL.out];exact hlt)⟩
   obtain⟨hfx,hfl,hfc⟩:=HF.out x (List.mem_of_getElem? hx)
   obtain⟨A',c',e,hA⟩:=HRV.out
   injection e with e1 e2 e3
   subst e1;subst e3;clear e2
   obtain⟨g,rfl,hgw,hg⟩:=hA (by rw[HNL.out];omega)
   obtain⟨g0,g1,g2,g3,g4⟩:=rcell hg k x hx
   have g0:=(HBW.out.cell (p:=⟨g,off+k * 5,none⟩) hgw).trans g0
   have g1:=(HBW.out.cell (p:=⟨g,off+k * 5+1,none⟩) hgw).trans g1
   have g2:=(HBW.out.cell (p:=⟨g,off+k * 5+2,none⟩) hgw).trans g2
   have g3:=(HBW.out.cell (p:=⟨g,off+k * 5+3,none⟩) hgw).trans g3
   have g4:=(HBW.out.cell (p:=⟨g,off+k * 5+4,none⟩) hgw).trans g4
   obtain⟨ba,hba⟩:∃ ba,aloneB prC x=ba:=⟨_,rfl⟩
   obtain⟨bc,hbc⟩:∃ bc,(l.take k).any (clashB x)=bc:=⟨_,rfl⟩
   have HAL:=Lib.hid (fun(W:World) hW=>alone9_at x hfx hfl hfc ba hba W hW)
   have HCL:=Lib.hid (fun(W:World) (hW:Below w.heap.size w W)=>clashes_at x hfx hfc (l.take k) (some ⟨g,off,none⟩) off k c (by rw[List.length_take,HNL.out];omega) (by omega) (fun y hy=>⟨(HF.out y (List.mem_of_mem_take hy)).1,(HF.out y (List.mem_of_mem_take hy)).2.2⟩) bc hbc W (HM.out.below hW HM.out.1) (reads_take ((HRV.out.below hW).mono hW.size) (by rw[HNL.out];omega)))
   have HBA:=Lib.hid hba
   have HBC:=Lib.hid hbc
   have HX:=Lib.hid hx
   obtain⟨xq,xl,xc,xp,xn⟩:=x
   obtain⟨xs,hxs⟩:∃ s,bytesOf xl=s:=⟨_,rfl⟩
   obtain⟨xt,hxt⟩:∃ s,bytesOf xc=s:=⟨_,rfl⟩
   simp only[aggR]at HAL HCL
   simp only[]at g0 g1 g2 g3 g4
   rw[hxs,hxt]at HAL HCL
   rw[hxs]at g1
   rw[hxt]at g2
   clear hx hfx hfl hfc hg hA hba hbc hxs hxt
   go_upto_region 4 with fail
   have hSt:=BoxS.new wr xq xs xt xp xn 50
   have hbb:=HBW.out.alloc HBW.out.size (.cells #[.int .i64 xq,.string xs,.string xt,.int .i64 xp,.int .i64 xn] 50)
   generalize wr.alloc _=W1 at hSt hbb ⊢
   obtain⟨bx,hbx⟩:∃ n,wr.heap.size=n:=⟨_,rfl⟩
   rw[hbx]at hSt ⊢
   have hS:BoxS W1 bx xq xs xt xp xn∧Below w.heap.size w W1:=⟨hSt,hbb⟩
   clear hSt hbb g0 g1 g2 g3 g4 hbx
   go_cut [22] (fun u22 wx=>u22=.bool (!ba || bc)∧BoxS wx bx xq xs xt xp xn∧Below w.heap.size w wx)
   case first =>
    cases ba
    case false =>
     have hS:=(⟨hS.1.kept (Below.refl _ _).drew,chain hS.2 hS.2.size (Below.refl _ _).drew⟩:BoxS W1.drew bx xq xs xt xp xn∧Below w.heap.size w W1.drew)
     refine wp_region_held_drew (S:=fun W=>BoxS W bx xq xs xt xp xn∧Below w.heap.size w W) (by kernel_rfl) hS (fun hHeld=>?_)
     refine wpAnyH_take (i:=0) (v:=?_) (by simp only[List.getElem?_toArray,List.getElem?_cons_zero];rfl) (by kernel_rfl) (by kernel_rfl) (by kernel_rfl) (by exact fun _ _ _ h=>h) (Or.inl ⟨by rfl,?_⟩) (by with_reducible exact hS) ?_
     rotate_left
     ·intro W hSw;(obtain⟨⟨x0,x1,x2,x3,x4,x5⟩,-⟩:=hSw);go_simp;all_goals (with_reducible rfl)
     try simp only[Act.put,List.setIfInBounds_toArray,List.set_cons_zero,List.set_cons_succ]
     refine Rg.take_one 1 (by simp only[List.getElem?_toArray,List.getElem?_cons_succ,List.getElem?_cons_zero];rfl) (by kernel_rfl) (fun K hK=>?_)
     go_simp
     go_at_call 67
     refine(HAL.out _ (HL.out.below hS.2 hLN)).mono ?_
     rintro en w1 ⟨rfl,hb1⟩
     have hS1:BoxS w1 bx xq xs xt xp xn∧Below w.heap.size w w1:=⟨hS.1.kept hb1,chain hS.2 hS.2.size hb1⟩
     go_wp2_with fail
     refine hK.out _ _ hS1 (fun hHeld1=>?_)
     clear hK K
     try simp only[Act.put,List.setIfInBounds_toArray,List.set_cons_zero,List.set_cons_succ]
     refine wpAnyH_take (i:=2) (v:=?_) (by simp only[List.getElem?_toArray,List.getElem?_cons_succ,List.getElem?_cons_zero];rfl) (by kernel_rfl) (by kernel_rfl) (by kernel_rfl) (by exact fun _ _ _ h=>h) (Or.inl ⟨by rfl,?_⟩) (by with_reducible exact hS1) ?_
     rotate_left
     ·intro W hSw;(obtain⟨⟨x0,x1,x2,x3,x4,x5⟩,-⟩:=hSw);go_simp;all_goals (with_reducible rfl)
     try simp only[Act.put,List.setIfInBounds_toArray,List.set_cons_zero,List.set_cons_succ]
     refine wpAnyH_take (i:=3) (v:=?_) (by simp only[List.getElem?_toArray,List.getElem?_cons_succ,List.getElem?_cons_zero];rfl) (by kernel_rfl) (by kernel_rfl) (by kernel_rfl) (by exact fun _ _ _ h=>h) (Or.inl ⟨by rfl,?_⟩) (by with_reducible exact hS1) ?_
     rotate_left
     ·intro W hSw;(obtain⟨⟨x0,x1,x2,x3,x4,x5⟩,-⟩:=hSw);go_simp;all_goals (with_reducible rfl)
     try simp only[Act.put,List.setIfInBounds_toArray,List.set_cons_zero,List.set_cons_succ]
     refine Rg.take_un 4 (by simp only[List.getElem?_toArray,List.getElem?_cons_succ,List.getElem?_cons_zero];rfl) (by kernel_rfl) (by kernel_rfl) (by kernel_rfl) (by exact fun _ _ _ h=>h) (by rfl) (by with_reducible exact hS1) ?_
     try simp only[Act.put,List.setIfInBounds_toArray,List.set_cons_zero,List.set_cons_succ]
     refine Rg.take_un 5 (by simp only[List.getElem?_toArray,List.getElem?_cons_succ,List.getElem?_cons_zero];rfl) (by kernel_rfl) (by kernel_rfl) (by kernel_rfl) (by exact fun _ _ _ h=>h) (by rfl) (by with_reducible exact hS1) ?_
     try simp only[Act.put,List.setIfInBounds_toArray,List.set_cons_zero,List.set_cons_succ]
     refine Rg.take_un 6 (by simp only[List.getElem?_toArray,List.getElem?_cons_succ,List.getElem?_cons_zero];rfl) (by kernel_rfl) (by kernel_rfl) (by kernel_rfl) (by exact fun _ _ _ h=>h) (by rfl) (by with_reducible exact hS1) ?_
     try simp only[Act.put,List.setIfInBounds_toArray,List.set_cons_zero,List.set_cons_succ]
     refine Rg.take_un 7 (by simp only[List.getElem?_toArray,List.getElem?_cons_succ,List.getElem?_cons_zero];rfl) (by kernel_rfl) (by kernel_rfl) (by kernel_rfl) (by exact fun _ _ _ h=>h) (by rfl) (by with_reducible exact hS1) ?_
     try simp only[Act.put,List.setIfInBounds_toArray,List.set_cons_zero,List.set_cons_succ]
     refine Rg.take_un 8 (by simp only[List.getElem?_toArray,List.getElem?_cons_succ,List.getElem?_cons_zero];rfl) (by kernel_rfl) (by kernel_rfl) (by kernel_rfl) (by exact fun _ _ _ h=>h) (by rfl) (by with_reducible exact hS1) ?_
     try simp only[Act.put,List.setIfInBounds_toArray,List.set_cons_zero,List.set_cons_succ]
     refine wpAnyH_take (i:=9) (v:=?_) (by simp only[List.getElem?_toArray,List.getElem?_cons_succ,List.getElem?_cons_zero];rfl) (by kernel_rfl) (by kernel_rfl) (by kernel_rfl) (by exact fun _ _ _ h=>h) (Or.inl ⟨by rfl,?_⟩) (by with_reducible exact hS1) ?_
     rotate_left
     ·intro W hSw;(obtain⟨⟨x0,x1,x2,x3,x4,x5⟩,-⟩:=hSw);go_simp;all_goals (with_reducible rfl)
     try simp only[Act.put,List.setIfInBounds_toArray,List.set_cons_zero,List.set_cons_succ]
     refine wpAnyH_done (by kernel_rfl) ?_ _
     have HZ:=Lib.hid hS1
     go_wp2
     go_meet
     exact⟨rfl,HZ.out⟩
    case true =>
     have hS:=(⟨hS.1.kept (Below.refl _ _).drew,chain hS.2 hS.2.size (Below.refl _ _).drew⟩:BoxS W1.drew bx xq xs xt xp xn∧Below w.heap.size w W1.drew)
     refine wp_region_held_drew (S:=fun W=>BoxS W bx xq xs xt xp xn∧Below w.heap.size w W) (by kernel_rfl) hS (fun hHeld=>?_)
     refine wpAnyH_take (i:=0) (v:=?_) (by simp only[List.getElem?_toArray,List.getElem?_cons_zero];rfl) (by kernel_rfl) (by kernel_rfl) (by kernel_rfl) (by exact fun _ _ _ h=>h) (Or.inl ⟨by rfl,?_⟩) (by with_reducible exact hS) ?_
     rotate_left
     ·intro W hSw;(obtain⟨⟨x0,x1,x2,x3,x4,x5⟩,-⟩:=hSw);go_simp;all_goals (with_reducible rfl)
     try simp only[Act.put,List.setIfInBounds_toArray,List.set_cons_zero,List.set_cons_succ]
     refine Rg.take_one 1 (by simp only[List.getElem?_toArray,List.getElem?_cons_succ,List.getElem?_cons_zero];rfl) (by kernel_rfl) (fun K hK=>?_)
     go_simp
     go_at_call 67
     refine(HAL.out _ (HL.out.below hS.2 hLN)).mono ?_
     rintro en w1 ⟨rfl,hb1⟩
     have hS1:BoxS w1 bx xq xs xt xp xn∧Below w.heap.size w w1:=⟨hS.1.kept hb1,chain hS.2 hS.2.size hb1⟩
     go_wp2_with fail
     refine hK.out _ _ hS1 (fun hHeld1=>?_)
     clear hK K
     try simp only[Act.put,List.setIfInBounds_toArray,List.set_cons_zero,List.set_cons_succ]
     refine wpAnyH_take (i:=2) (v:=?_) (by simp only[List.getElem?_toArray,List.getElem?_cons_succ,List.getElem?_cons_zero];rfl) (by kernel_rfl) (by kernel_rfl) (by kernel_rfl) (by exact fun _ _ _ h=>h) (Or.inl ⟨by rfl,?_⟩) (by with_reducible exact hS1) ?_
     rotate_left
     ·intro W hSw;(obtain⟨⟨x0,x1,x2,x3,x4,x5⟩,-⟩:=hSw);go_simp;all_goals (with_reducible rfl)
     try simp only[Act.put,List.setIfInBounds_toArray,List.set_cons_zero,List.set_cons_succ]
     refine wpAnyH_take (i:=3) (v:=?_) (by simp only[List.getElem?_toArray,List.getElem?_cons_succ,List.getElem?_cons_zero];rfl) (by kernel_rfl) (by kernel_rfl) (by kernel_rfl) (by exact fun _ _ _ h=>h) (Or.inl ⟨by rfl,?_⟩) (by with_reducible exact hS1) ?_
     rotate_left
     ·intro W hSw;(obtain⟨⟨x0,x1,x2,x3,x4,x5⟩,-⟩:=hSw);go_simp;all_goals (with_reducible rfl)
     try simp only[Act.put,List.setIfInBounds_toArray,List.set_cons_zero,List.set_cons_succ]
     refine wpAnyH_take (i:=4) (v:=?_) (by simp only[List.getElem?_toArray,List.getElem?_cons_succ,List.getElem?_cons_zero];rfl) (by kernel_rfl) (by kernel_rfl) (by kernel_rfl) (by exact fun _ _ _ h=>h) (Or.inl ⟨by rfl,?_⟩) (by with_reducible exact hS1) ?_
     rotate_left
     ·intro W hSw;(obtain⟨⟨x0,x1,x2,x3,x4,x5⟩,-⟩:=hSw);go_simp;all_goals (with_reducible rfl)
     try simp only[Act.put,List.setIfInBounds_toArray,List.set_cons_zero,List.set_cons_succ]
     refine wpAnyH_take (i:=5) (v:=?_) (by simp only[List.getElem?_toArray,List.getElem?_cons_succ,List.getElem?_cons_zero];rfl) (by kernel_rfl) (by kernel_rfl) (by kernel_rfl) (by exact fun _ _ _ h=>h) (Or.inl ⟨by rfl,?_⟩) (by with_reducible exact hS1) ?_
     rotate_left
     ·intro W hSw;(obtain⟨⟨x0,x1,x2,x3,x4,x5⟩,-⟩:=hSw);go_simp;all_goals (with_reducible rfl)
     try simp only[Act.put,List.setIfInBounds_toArray,List.set_cons_zero,List.set_cons_succ]
     refine wpAnyH_take (i:=6) (v:=?_) (by simp only[List.getElem?_toArray,List.getElem?_cons_succ,List.getElem?_cons_zero];rfl) (by kernel_rfl) (by kernel_rfl) (by kernel_rfl) (by exact fun _ _ _ h=>h) (Or.inl ⟨by rfl,?_⟩) (by with_reducible exact hS1) ?_
     rotate_left
     ·intro W hSw;(obtain⟨⟨x0,x1,x2,x3,x4,x5⟩,-⟩:=hSw);go_simp;all_goals (with_reducible rfl)
     try simp only[Act.put,List.setIfInBounds_toArray,List.set_cons_zero,List.set_cons_succ]
     refine wpAnyH_take (i:=7) (v:=?_) (by simp only[List.getElem?_toArray,List.getElem?_cons_succ,List.getElem?_cons_zero];rfl) (by kernel_rfl) (by kernel_rfl) (by kernel_rfl) (by exact fun _ _ _ h=>h) (Or.inl ⟨by rfl,?_⟩) (by with_reducible exact hS1) ?_
     rotate_left
     ·intro W hSw;(obtain⟨⟨x0,x1,x2,x3,x4,x5⟩,-⟩:=hSw);go_simp;all_goals (with_reducible rfl)
     try simp only[Act.put,List.setIfInBounds_toArray,List.set_cons_zero,List.set_cons_succ]
     refine Rg.take_one 8 (by simp only[List.getElem?_toArray,List.getElem?_cons_succ,List.getElem?_cons_zero];rfl) (by kernel_rfl) (fun K hK=>?_)
     go_simp
     go_at_call 68
     refine(HCL.out _ hS1.2).mono ?_
     rintro en w8 ⟨rfl,hb8⟩
     have hS8:BoxS w8 bx xq xs xt xp xn∧Below w.heap.size w w8:=⟨hS1.1.kept hb8,chain hS1.2 hS1.2.size hb8⟩
     go_wp2_with fail
     refine hK.out _ _ hS8 (fun hHeld8=>?_)
     clear hK K
     try simp only[Act.put,List.setIfInBounds_toArray,List.set_cons_zero,List.set_cons_succ]
     refine wpAnyH_take (i:=9) (v:=?_) (by simp only[List.getElem?_toArray,List.getElem?_cons_succ,List.getElem?_cons_zero];rfl) (by kernel_rfl) (by kernel_rfl) (by kernel_rfl) (by exact fun _ _ _ h=>h) (Or.inl ⟨by rfl,?_⟩) (by with_reducible exact hS8) ?_
     rotate_left
     ·intro W hSw;(obtain⟨⟨x0,x1,x2,x3,x4,x5⟩,-⟩:=hSw);go_simp;all_goals (with_reducible rfl)
     try simp only[Act.put,List.setIfInBounds_toArray,List.set_cons_zero,List.set_cons_succ]
     refine wpAnyH_done (by kernel_rfl) ?_ _
     have HZ:=Lib.hid hS8
     go_wp2
     go_meet
     exact⟨by cases bc<;>rfl,HZ.out⟩
   case rest =>
    obtain⟨rfl,hx,hw⟩:=hcut
    have HBX:=Lib.hid hw
    obtain⟨x0,x1,x2,x3,x4,x5⟩:=hx
    clear hw hS
    obtain⟨bb,hbb⟩:∃ bb,(!ba || bc)=bb:=⟨_,rfl⟩
    rw[hbb]
    have HBB:=Lib.hid hbb
    clear hbb
    cases bb
    case false =>
     have HNX:=Lib.hid (good_step HX.out HG.out (by rw[HBA.out];have:=HBB.out;revert this;cases ba<;>simp) (fun y hy=>by
      have h1:bc=false:=by have:=HBB.out;revert this;cases ba<;>simp
      have h2:=HBC.out
      rw[h1,List.any_eq_false]at h2
      simpa using h2 y hy))
     go_wp2
     go_roundw
     case rel=>exact⟨k+1,by omega,by go_num,HNX.out,HBX.out⟩
     case measure=>simp[intOf];omega
    case true =>
     have HV:=Lib.hid (bad_here HX.out HG.out (by
      rw[HBA.out]
      have h1:=HBB.out
      have h2:=HBC.out
      cases ba
      ·exact .inl rfl
      ·refine .inr ?_
       have h1:bc=true:=h1
       rw[h1,List.any_eq_true]at h2
       exact h2))
     have HRZ:=Lib.hid (show r=(xn,6) from by rw[← HR.out];unfold tableR;rw[HV.out])
     go_wp2
     refine bodyPost_ret (v:=.tuple #[.int .i64 xn,.int .i64 6]) (by simp[results,Tryz.f35,go_sem]) rfl ?_
     rw[HRZ.out]
     exact⟨rfl,HBX.out⟩
  ·have HV:=Lib.hid (show badF prC [] l=none from good_end (by rw[HNL.out,show nl=k by omega];exact HG.out))
   have t1:decide (k<nl)=false:=decide_eq_false hlt
   by_cases h4:400<nl
   ·have HRZ:=Lib.hid (show r=(0,4) from by rw[← HR.out];unfold tableR;rw[HV.out,HNL.out];exact if_pos h4)
    have t4:decide (400<(nl:Int))=true:=decide_eq_true (by omega)
    go_wp2
    refine bodyPost_ret (v:=.tuple #[.int .i64 0,.int .i64 4]) (by simp[results,Tryz.f35,go_sem]) rfl ?_
    rw[HRZ.out]
    exact⟨rfl,HBW.out⟩
   ·have t4:decide (400<nl)=false:=decide_eq_false h4
    obtain⟨m,hm⟩:∃ m,missR l=m:=⟨_,rfl⟩
    have HMI:=Lib.hid (missing9_at (.slice A nl c) l off (by rw[HNL.out];omega) (fun x hx=>(HF.out x hx).1) m hm wr (HL.out.below HBW.out hLN) ((HRV.out.below HBW.out).mono HBW.out.size))
    have HRZ:=Lib.hid (show r=if m≠[] then (0,6) else (0,0) from by rw[← HR.out];unfold tableR;rw[HV.out,HNL.out,← hm];exact if_neg h4)
    obtain⟨M,hMM⟩:∃ M,bytesOf m=M:=⟨_,rfl⟩
    rw[hMM]at HMI
    have HMM:=Lib.hid hMM
    clear hm hMM
    go_wp2_with fail
    refine HMI.out.mono ?_
    rintro e w2 ⟨rfl,hb2⟩
    have HE:=Lib.hid (chain HBW.out HBW.out.size hb2)
    clear hb2
    by_cases hm0:m=[]
    ·have HRY:=Lib.hid (show r=(0,0) from HRZ.out.trans (if_neg (fun h=>h hm0)))
     obtain rfl:M={ data:=#[] }:=by rw[← HMM.out,hm0];rfl
     clear hm0
     go_wp2
     refine bodyPost_ret (v:=.tuple #[.int .i64 0,.int .i64 0]) (by simp[results,Tryz.f35,go_sem]) rfl ?_
     rw[HRY.out]
     exact⟨rfl,HE.out⟩
    ·have HRY:=Lib.hid (show r=(0,6) from HRZ.out.trans (if_pos hm0))
     have hne:M.toList.isEmpty=false:=not_empty (fun e=>hm0 (by
      have h:=congrArg List.length (congrArg bytesN e)
      rw[← HMM.out,bytesN_len,bytesOf_size]at h
      exact List.length_eq_zero_iff.1 h))
     clear hm0
     go_wp2
     refine bodyPost_ret (v:=.tuple #[.int .i64 0,.int .i64 6]) (by simp[results,Tryz.f35,go_sem]) rfl ?_
     rw[HRY.out]
     exact⟨rfl,HE.out⟩
end Go.Proofs.YtlgejmcihchngaaGreatDoor.Ck
