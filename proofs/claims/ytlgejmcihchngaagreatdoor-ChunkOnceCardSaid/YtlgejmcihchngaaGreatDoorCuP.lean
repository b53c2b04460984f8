/-
  Layer 12's document: run.
-/
import Derived.Test.YtlgejmcihchngaaGreatDoorUc
namespace Go.Proofs.YtlgejmcihchngaaGreatDoor.Cu
open Go.RowKit Ba Ru Ck Ti Pa Fl
set_option maxRecDepth 100000 in
set_option maxHeartbeats 16000000 in
theorem run12_any (A:Option Addr) (nl c:Nat) (l:List Rl) (off:Nat) (hnl:l.length=nl) (hlm:nl≤100000) (hf:∀ x ∈ l,FitR x) (h9:∀ x ∈ l,x.left.length≤9000) (hA:Acc prC l) (s:List Nat) (hs:LetS s) (hsl:s.length≤2000) (frm:Nat) (hfr:frm≤100000) :
  ∀ (n p:Nat),n≤2000→s.length - p≤n→p≤s.length→∀ w:World,ReadsR off w w.heap.size (.slice A nl c) l →
   Calls Tryz.prog 47 #[.slice A nl c,.string (bytesOf s),.int .i64 (frm:Int),.int .i64 (p:Int)] w fun e w'=>∃ v',e=.returned v'∧w'.ownsRow w.heap.size 48 3 v' (runF l s frm n p).length (rowsP (runF l s frm n p))∧Below w.heap.size w w':=by
 intro n
 induction n with
 | zero =>
  intro p _ hp hps w hv
  have hz:(bytesOf s).size=s.length:=bytesOf_size _
  obtain⟨T,hT⟩:∃ T,bytesOf s=T:=⟨_,rfl⟩
  rw[hT]at hz ⊢
  have HR:=Lib.hid (show runF l s frm 0 p=[] from rfl)
  have t1:decide ((T.size:Int)≤(p:Int))=true:=decide_eq_true (by omega)
  have t2:decide (T.size≤p)=true:=decide_eq_true (by omega)
  clear hv hT
  go_enter Tryz.func47,Tryz.ntmps47
  go_wp2
  go_ret
  rw[HR.out]
  exact⟨_,rfl,World.ownsRow_nil _ _ _ _,Below.refl _ _⟩
 | succ n ih =>
  intro p hn hp hps w hv
  have hz:(bytesOf s).size=s.length:=bytesOf_size _
  have h256:=lets_lt hs
  have HIH:=Lib.hid ih
  have HV:=Lib.hid hv
  have HNL:=Lib.hid hnl
  have HLS:=Lib.hid hs
  have HACC:=Lib.hid hA
  by_cases hlt:p<s.length
  rotate_left
  ·obtain⟨T,hT⟩:∃ T,bytesOf s=T:=⟨_,rfl⟩
   rw[hT]at hz ⊢
   have HR:=Lib.hid (show runF l s frm (n+1) p=[] from by unfold runF;rw[if_neg hlt])
   have t1:decide ((T.size:Int)≤(p:Int))=true:=decide_eq_true (by omega)
   have t2:decide (T.size≤p)=true:=decide_eq_true (by omega)
   clear hv hT ih
   go_enter Tryz.func47,Tryz.ntmps47
   go_wp2
   go_ret
   rw[HR.out]
   exact⟨_,rfl,World.ownsRow_nil _ _ _ _,Below.refl _ _⟩
  have hne:s≠[]:=fun e=>by rw[e]at hlt;exact Nat.not_lt_zero _ hlt
  have HRUN:=Lib.hid (low_run hs hne)
  have HLOW:=Lib.hid (fun(W:World)=>rlow_is s hsl h256 W)
  have HCAS:=Lib.hid (fun(W:World)=>rcase_is (s.drop p) (by rw[List.length_drop];omega) (fun c hc=>h256 c (List.mem_of_mem_drop hc)) W)
  rw[← drop_ext h256 p]at HCAS
  have hbl:bytesN (bytesOf (lowN s))=lowN s:=bytesN_bytesOf _ (lowN_lt h256)
  have hzl:(bytesOf (lowN s)).size=s.length:=by rw[bytesOf_size,lowN_len]
  have HALL:=Lib.hid (fun(ks:List Nat) (hk:allN l (lowN s) (p:Int)=ks) (W:World) (hW:Below w.heap.size w W)=>rall_any A nl c l off hnl hlm hf h9 hA (bytesOf (lowN s)) p (by omega) (by omega) ks (by rw[hbl];exact hk) W ((hv.below hW).mono hW.size))
  have HBES:=Lib.hid (fun(most k:Nat) (hm:most≤2000) (hk:bestN l (lowN s) (p:Int) (most:Int)=some k) (W:World) (hW:Below w.heap.size w W)=>rbest_any A nl c l off hnl hlm hf h9 (bytesOf (lowN s)) (p:Int) (most:Int) (by omega) (by unfold I64;omega) (by unfold I64;omega) (some k) (by rw[hbl];exact hk) W ((hv.below hW).mono hW.size))
  have HRC:=Lib.hid (fun(W:World) (hW:Below w.heap.size w W)=>rrule_any _ l off 8 capS (by omega) hf (by decide) W _ (hv.below hW))
  have HRS:=Lib.hid (fun(W:World) (hW:Below w.heap.size w W)=>rrule_any _ l off 8 capsS (by omega) hf (by decide) W _ (hv.below hW))
  rw[show bytesOf capS={ data:=#[99,97,112] } from rfl]at HRC
  rw[show bytesOf capsS={ data:=#[99,97,112,115] } from rfl]at HRS
  have HREC:=Lib.hid (fun(q:Nat) (h1:s.length - q≤n) (h2:q≤s.length) (W:World) (hW:Below w.heap.size w W)=>ih q (by omega) h1 h2 W ((hv.below hW).mono hW.size))
  have HCAP:=Lib.hid (fun(q:Nat) (hq:q≤4000) (r:Bool) (hr:(decide (q<s.length) && capB (s.getD q 0))=r) (W:World)=>rcapital_any (bytesOf s) (by omega) q hq r (by rw[bytesN_bytesOf _ h256,hz];exact hr) W)
  obtain⟨T,hT⟩:∃ T,bytesOf s=T:=⟨_,rfl⟩
  obtain⟨TL,hTL⟩:∃ T,bytesOf (lowN s)=T:=⟨_,rfl⟩
  obtain⟨r3,hr3⟩:∃ r,ruleN l 8 capsS=r:=⟨_,rfl⟩
  obtain⟨r2,hr2⟩:∃ r,ruleN l 8 capS=r:=⟨_,rfl⟩
  obtain⟨cn,hcn⟩:∃ c,caseN (s.drop p)=c:=⟨_,rfl⟩
  rw[hT]at hz HLOW HCAS HREC HCAP ⊢
  rw[hTL]at HLOW HALL HBES hzl
  rw[hr3]at HRS
  rw[hr2]at HRC
  rw[hcn]at HCAS
  have HR3:=Lib.hid hr3
  have HR2:=Lib.hid hr2
  have HCN:=Lib.hid hcn
  have t1:decide ((T.size:Int)≤(p:Int))=false:=decide_eq_false (by omega)
  have t2:decide (T.size≤p)=false:=decide_eq_false (by omega)
  have z1:(0:Int)≤(p:Int):=by omega
  have z2:(p:Int)≤(T.size:Int):=by omega
  have y1:IntKind.i64.wrap ((frm:Int)+(p:Int))=(frm:Int)+(p:Int):=IntWalk.i64_in _ ⟨by omega,by omega⟩
  have hpT:p<T.size:=by omega
  have hT2:T.size≤2000:=by omega
  have HZ:=Lib.hid hz
  have HZL:=Lib.hid hzl
  clear hv hT hTL hr3 hr2 hcn ih hbl hf h9 hA hs h256 hz hzl hne hnl
  go_enter Tryz.func47,Tryz.ntmps47
  go_wp2_with fail
  refine(HLOW.out _).mono ?_
  rintro e w2 ⟨rfl,hb2⟩
  have HB2:=Lib.hid (chain (Below.refl w.heap.size w) (Nat.le_refl _) hb2)
  have hs2:=HB2.out.size
  clear hb2
  go_wp2_with fail
  refine(HCAS.out _).mono ?_
  rintro e w3 ⟨rfl,rfl⟩
  by_cases hc3:cn=3
  ·subst hc3
   obtain⟨ks,hks⟩:∃ ks,allN l (lowN s) (p:Int)=ks:=⟨_,rfl⟩
   have HKS:=Lib.hid hks
   have HR:=Lib.hid (show runF l s frm (n+1) p=⟨r3,frm+p,0⟩::partsF l frm ks p from by
    unfold runF
    rw[if_pos hlt,if_pos HCN.out,HR3.out,hks])
   have HAL:=Lib.hid (HALL.out ks hks)
   have hkl:ks.length≤2000:=by rw[← hks];exact Nat.le_trans (allN_len ..) (by rw[lowN_len];exact hsl)
   obtain⟨m,hm⟩:∃ m,ks.length=m:=⟨_,rfl⟩
   rw[hm]at HAL hkl
   have HM:=Lib.hid hm
   clear hks hm
   go_wp2_with fail
   refine(HRS.out _ HB2.out).mono ?_
   rintro e w4 ⟨rfl,rfl⟩
   go_wp2_with (at_builtin;refine wpList_append_pieces _ rfl _ _ rfl _ rfl w.heap.size 0 [] (World.ownsRow_nil _ _ _ _) (by simp;omega) _ 1 1 0 _ [⟨r3,frm+p,0⟩] rfl rfl (by decide) (lit_reads w4 r3 (frm+p) 0 rfl) ?_;intro v8 w8 hown8 hgrow8 hblk8;have HB8:=Lib.hid ((HB2.out.alloc hs2 _).grown hgrow8 (by simp;omega) (fun j ej=>by cases ej));have HOWN8:=Lib.hid hown8;clear hown8 hgrow8 hblk8)
   go_wp2_with fail
   refine(HAL.out _ HB8.out).mono ?_
   rintro e w9 ⟨v9,rfl,hown9,hb9⟩
   have HB9:=Lib.hid (chain HB8.out HB8.out.size hb9)
   have HOWN9:=Lib.hid (own_below HOWN8.out hb9)
   have HLT8:=Lib.hid HOWN8.out.lt
   have HALW:=Lib.hid hown9
   obtain⟨A9,c9,rfl,-,-,hA9⟩:=own_formR hown9
   have hk0:0<m:=by
    obtain⟨k,x,-,-,hstep,-,-⟩:=all_step HACC.out HRUN.out (p:=p) (by rw[lowN_len];exact hlt)
    rw[HKS.out]at hstep
    rw[← HM.out,hstep,List.length_cons]
    omega
   obtain⟨g8,rfl,hg8⟩:=hA9 hk0
   have hg8w:g8<w9.heap.size:=(HALW.out.lt g8 rfl).2
   have HNG:=Lib.hid (show ∀ g,v8.ownBlock=some g→g≠g8 from fun g hg=>by have:=(HLT8.out g hg).2;omega)
   clear hown9 hb9 hA9 hk0 HLT8
   go_wp2
   go_loopw [3,10,12] (fun a v i wr=>∃ (q j:Nat) (ds:List Pc),a=.int .i64 (q:Int)∧i=.int .i64 (j:Int)∧j≤m∧q≤s.length∧partsF l frm ks p=ds++partsF l frm (ks.drop j) q∧ks.drop j=allN l (lowN s) (q:Int)∧wr.ownsRow w.heap.size 48 3 v (1+j) (rowsP (⟨r3,frm+p,0⟩::ds))∧wr.heap[g8]?=w9.heap[g8]?∧(∀ g,v.ownBlock=some g→g≠g8)∧Below w.heap.size w wr) (fun _ _ i _=>m - (intOf i).toNat)
   case atStart=>exact⟨p,0,[],rfl,rfl,Nat.zero_le _,by omega,rfl,HKS.out.symm,HOWN9.out,rfl,HNG.out,HB9.out⟩
   case round =>
    obtain⟨q,j,ds,rfl,rfl,hj,hq,hpt,hdr,how,hbl8,hng,hBr⟩:=hrel
    have HBR:=Lib.hid hBr
    have HPT:=Lib.hid hpt
    have HOWR:=Lib.hid how
    have HBL:=Lib.hid hbl8
    have HNGR:=Lib.hid hng
    have hsz:=hBr.size
    clear hpt hng hBr
    have hg8r:g8<wr.heap.size:=by
     have h1:w9.heap[g8]?=some w9.heap[g8]:=Array.getElem?_eq_getElem hg8w
     rw[← hbl8]at h1
     exact(Array.getElem?_eq_some_iff.1 h1).1
    by_cases hjm:j<m
    ·have hqS:q<s.length:=by
      rcases Nat.lt_or_ge q s.length with h | h
      ·exact h
      ·have hz0:allN l (lowN s) (q:Int)=[]:=all_end fun k=>by have:=k.2.2;rw[lowN_len]at this;omega
       rw[hz0]at hdr
       have:=congrArg List.length hdr
       rw[List.length_drop,HM.out,List.length_nil]at this
       omega
     obtain⟨k,x,hB,-,hstep,hx0,hxq⟩:=all_step HACC.out HRUN.out (p:=q) (by rw[lowN_len];exact hqS)
     rw[lowN_len]at hxq
     rw[hstep]at hdr
     have hjk:ks[j]?=some k:=by
      have:=congrArg (fun L=>L[0]?) hdr
      simpa only[List.getElem?_drop,Nat.add_zero,List.getElem?_cons_zero] using this
     have hnx:ks.drop (j+1)=allN l (lowN s) ((q+x.left.length:Nat):Int):=by
      have:=congrArg (List.drop 1) hdr
      rw[List.drop_drop]at this
      exact this
     have y0:=(cell_block (a:=⟨g8,j,none⟩) HBL.out).trans (int_cell HALW.out hjm hjk)
     have hx:=hB.at'
     have hkn:k<nl:=by have:=(List.getElem?_eq_some_iff.1 hx).1;rw[HNL.out]at this;exact this
     have hll:leftLen l k=x.left.length:=by unfold leftLen;rw[hx];rfl
     obtain⟨g,rfl,hgw,hcx⟩:=cellsR_at HV.out hx
     obtain⟨X,hX⟩:∃ X,bytesOf x.left=X:=⟨_,rfl⟩
     have hxs:X.size=x.left.length:=by rw[← hX];exact bytesOf_size _
     rw[hX]at hcx
     have x1:=(HBR.out.cell (p:=⟨g,off+k * 5+1,none⟩) hgw).trans hcx.c1
     rw[← hxs]at hnx hx0 hxq hll
     have HNX:=Lib.hid hnx
     have HPN:=Lib.hid (show partsF l frm ks p=(ds++[⟨k,frm+q,X.size⟩])++partsF l frm (ks.drop (j+1)) (q+X.size) from by
      rw[HPT.out,List.append_assoc,hdr,hnx]
      show ds++(⟨k,frm+q,leftLen l k⟩::partsF l frm (allN l (lowN s) ((q+x.left.length:Nat):Int)) (q+leftLen l k))=_
      rw[hll,hxs]
      rfl)
     have k0:(0:Int)≤(k:Int):=by omega
     have k1:(k:Int)<(nl:Int):=by omega
     have j0:(0:Int)≤(j:Int):=by omega
     have j1:(j:Int)<(m:Int):=by omega
     have t3:decide ((j:Int)<(m:Int))=true:=decide_eq_true j1
     have y2:IntKind.i64.wrap ((frm:Int)+(q:Int))=(frm:Int)+(q:Int):=IntWalk.i64_in _ ⟨by omega,by omega⟩
     have y3:IntKind.i64.wrap ((q:Int)+(X.size:Int))=(q:Int)+(X.size:Int):=IntWalk.i64_in _ ⟨by omega,by omega⟩
     clear hB hstep hdr hjk hnx hx hll hcx hX hxs hgw how hbl8
     go_wp2_with (at_builtin;refine wpList_append_pieces _ rfl _ _ rfl _ rfl w.heap.size (1+j) (⟨r3,frm+p,0⟩::ds) (HOWR.out.alloc _) (by simp;omega) _ 1 1 0 _ [⟨k,frm+q,X.size⟩] rfl rfl (by omega) (lit_reads wr k (frm+q) X.size rfl) ?_;intro v' w8' hown' hgrow hblk;have HFF:=Lib.hid (show w8'.ownsRow w.heap.size 48 3 v' (1+(j+1)) (rowsP (⟨r3,frm+p,0⟩::(ds++[⟨k,frm+q,X.size⟩])))∧w8'.heap[g8]?=w9.heap[g8]?∧(∀ g,v'.ownBlock=some g→g≠g8)∧Below w.heap.size w w8' from ⟨hown',((hgrow.block g8 (by simp;omega) (fun e=>HNGR.out g8 e.symm rfl)).trans (heap_alloc_old wr _ hg8r)).trans HBL.out,(fun g hg=>hblk.elim (fun h=>HNGR.out g (h.symm.trans hg)) (fun h=>by have h2:=Option.some.inj (h.symm.trans hg);simp at h2;omega)),(HBR.out.alloc hsz _).grown hgrow (by simp;omega) (fun j ej=>(HOWR.out.lt j ej).1)⟩);clear hown' hgrow hblk)
     go_roundw
     case rel=>exact⟨q+X.size,j+1,ds++[⟨k,frm+q,X.size⟩],by go_num,by go_num,by omega,by omega,HPN.out,HNX.out,HFF.out.1,HFF.out.2.1,HFF.out.2.2.1,HFF.out.2.2.2⟩
     case measure=>simp[intOf];omega
    ·have hjm2:j=m:=by omega
     have HDS:=Lib.hid (show partsF l frm ks p=ds from by
      rw[HPT.out,hjm2,List.drop_of_length_le (by rw[HM.out];exact Nat.le_refl _)]
      exact List.append_nil _)
     have HLN:=Lib.hid (show (partsF l frm ks p).length=j from by rw[parts_len,HM.out,hjm2])
     have t3:decide ((j:Int)<(m:Int))=false:=decide_eq_false (by omega)
     have t4:decide (j<m)=false:=decide_eq_false hjm
     clear how hdr hbl8 hjm2
     go_wp2
     go_ret
     rw[HR.out,List.length_cons,HLN.out,HDS.out,Nat.add_comm j 1]
     exact⟨_,rfl,HOWR.out,HBR.out⟩
  ·have c3:((cn:Int)==3)=false:=beq_eq_false_iff_ne.2 (by omega)
   have hmp:=most_pos (s:=s) hlt
   have hml:=most_le (s:=s) hlt
   obtain⟨k,x,hbest,hB⟩:=best_there HACC.out HRUN.out (p:=p) (by rw[lowN_len];exact hlt) (most:=((mostN s p:Nat):Int)) (by omega)
   have hx:=hB.at'
   have hkn:k<nl:=by have:=(List.getElem?_eq_some_iff.1 hx).1;rw[HNL.out]at this;exact this
   have hll:leftLen l k=x.left.length:=by unfold leftLen;rw[hx];rfl
   have hlen:=elig_len hB.elig
   rw[lowN_len]at hlen
   obtain⟨g,rfl,hgw,hcx⟩:=cellsR_at HV.out hx
   obtain⟨X,hX⟩:∃ X,bytesOf x.left=X:=⟨_,rfl⟩
   have hxs:X.size=x.left.length:=by rw[← hX];exact bytesOf_size _
   rw[hX]at hcx
   rw[← hxs]at hll hlen
   have hxc:=hcx.c1
   have HX1:=Lib.hid (show ∀ W:World,Below w.heap.size w W→W.cell? ⟨g,off+k * 5+1,none⟩=some (.string X) from fun W hW=>(hW.cell (p:=⟨g,off+k * 5+1,none⟩) hgw).trans hxc)
   have HBQ:=Lib.hid (HBES.out (mostN s p) k (by omega) hbest)
   obtain⟨ps,hps2⟩:∃ ps,runF l s frm n (p+X.size)=ps:=⟨_,rfl⟩
   have HPS:=Lib.hid (hps2▸HREC.out (p+X.size) (by omega) (by omega))
   have hpl:ps.length≤2 * n+s.length:=by rw[← hps2];exact runF_len ..
   have HPL:=Lib.hid hpl
   have HR:=Lib.hid (show runF l s frm (n+1) p=(if capB (s.getD p 0)=true then [⟨r2,frm+p,0⟩] else [])++⟨k,frm+p,X.size⟩::ps from by
    have e:runF l s frm (n+1) p=(match bestN l (lowN s) (p:Int) (mostN s p:Int) with
     | none=>[]
     | some k=>(if capB (s.getD p 0)=true then [⟨ruleN l 8 capS,frm+p,0⟩] else [])++⟨k,frm+p,leftLen l k⟩::runF l s frm n (p+leftLen l k)):=by
     conv=>lhs;unfold runF
     rw[if_pos hlt,if_neg fun h=>hc3 (HCN.out.symm.trans h)]
     rfl
    rw[e,hbest,HR2.out]
    show _++(⟨k,frm+p,leftLen l k⟩::runF l s frm n (p+leftLen l k))=_
    rw[hll,hps2])
   have hgd:s.getD p 0=s[p]:=by rw[List.getD_eq_getElem?_getD,List.getElem?_eq_getElem hlt];rfl
   have hmf:=most_free (s:=s) hlt
   rw[← hgd]at hmf
   obtain⟨cb,hcb⟩:∃ b,capB (s.getD p 0)=b:=⟨_,rfl⟩
   have HCB:=Lib.hid (HCAP.out p (by omega) cb (by rw[decide_eq_true hlt,Bool.true_and];exact hcb))
   rw[hcb]at HR hmf
   obtain⟨M,hM⟩:∃ M,mostN s p=M:=⟨_,rfl⟩
   rw[hM]at HBQ hmf hmp hml
   have HMF:=Lib.hid hmf
   have HFR:=Lib.hid (show ∀ q,q<s.length→∀ b,capB (s.getD q 0)=b→if b=true then freeN s q=0 else freeN s q=1+freeN s (q+1) from fun q hq b hb=>by
    have e:s.getD q 0=s[q]:=by rw[List.getD_eq_getElem?_getD,List.getElem?_eq_getElem hq];rfl
    rw[e]at hb
    cases b with
    | true=>exact free_cap hq hb
    | false=>exact free_step hq hb)
   have k0:(0:Int)≤(k:Int):=by omega
   have k1:(k:Int)<(nl:Int):=by omega
   have y3:IntKind.i64.wrap ((p:Int)+(X.size:Int))=((p+X.size:Nat):Int):=by rw[IntWalk.i64_in _ ⟨by omega,by omega⟩];omega
   have hXl:X.size≤2000:=by omega
   have hML:p+M≤2000:=by omega
   clear hx hB hbest hll hgw hcx hX hxs hxc hps2 hpl hgd hmf hcb hM hlen
   cases cb
   case false =>
    have HQ:=Lib.hid (show runF l s frm (n+1) p=([]++[⟨k,frm+p,X.size⟩])++ps from by rw[HR.out];rfl)
    have HM0:=Lib.hid (show M=0+freeN s (p+0) from by rw[HMF.out];show freeN s p=0+freeN s p;omega)
    go_wp2_with fail
    refine(HCB.out _).mono ?_
    rintro e w4 ⟨rfl,rfl⟩
    go_wp2
    go_loopw [14] (fun i wr=>∃ m:Nat,i=.int .i64 (m:Int)∧p+m≤s.length∧M=m+freeN s (p+m)∧wr.ownsRow w.heap.size 48 3 (.slice none 0 0) 0 (rowsP ([]:List Pc))∧Below w.heap.size w wr) (fun i _=>s.length - (intOf i).toNat)
    case atStart=>exact⟨0,rfl,by omega,HM0.out,World.ownsRow_nil _ _ _ _,HB2.out⟩
    case round =>
     obtain⟨m,rfl,hm,hfm,how,hBr⟩:=hrel
     have HFM:=Lib.hid hfm
     have HOWR:=Lib.hid how
     have HBR:=Lib.hid hBr
     clear hfm how hBr
     have y5:IntKind.i64.wrap ((p:Int)+(m:Int))=(p:Int)+(m:Int):=IntWalk.i64_in _ ⟨by omega,by omega⟩
     by_cases hpm:p+m<s.length
     rotate_left
     ·have t6:decide ((p:Int)+(m:Int)<(T.size:Int))=false:=decide_eq_false (by have:=HZ.out;omega)
      have t6':decide (p+m<T.size)=false:=decide_eq_false (by have:=HZ.out;omega)
      have hMm:M=m:=by have:=HFM.out;rw[free_end (by omega)]at this;omega
      subst hMm
      have hszr:=HBR.out.size
      go_wp2_with fail
      refine(HBQ.out _ HBR.out).mono ?_
      rintro e w5 ⟨rfl,hb5⟩
      have HB5:=Lib.hid (chain HBR.out HBR.out.size hb5)
      have HOW5:=Lib.hid (own_below HOWR.out hb5)
      have hs5:=HB5.out.size
      have x1:=HX1.out w5 HB5.out
      clear hb5
      simp only[numV,okV]
      go_wp2_with (at_builtin;refine wpList_append_pieces _ rfl _ _ rfl _ rfl w.heap.size 0 ([]:List Pc) (HOW5.out.alloc _) (by simp;omega) _ 1 1 0 _ [⟨k,frm+p,X.size⟩] rfl rfl (by decide) (lit_reads w5 k (frm+p) X.size rfl) ?_;intro v6 w6 hown6 hgrow6 hblk6;have HB6:=Lib.hid ((HB5.out.alloc hs5 _).grown hgrow6 (by simp;omega) (fun j ej=>(HOW5.out.lt j ej).1));have HOW6:=Lib.hid hown6;clear hown6 hgrow6 hblk6)
      refine(HPS.out _ HB6.out).mono ?_
      rintro e w7 ⟨v7,rfl,hown7,hb7⟩
      have HB7:=Lib.hid (chain HB6.out HB6.out.size hb7)
      have HOW7:=Lib.hid (own_below HOW6.out hb7)
      have HRD:=Lib.hid (readsQ_own rfl hown7)
      obtain⟨A7,c7,rfl,-,-,-⟩:=own_formR hown7
      have hs7:=HB7.out.size
      have hpl:=HPL.out
      clear hown7 hb7
      rename ∀ (a:Act) (w:World),wpList Tryz.prog _ _ _ a w→_=>hK
      refine hK _ _ ?_
      refine wpList_append_pieces _ rfl _ _ rfl v6 rfl w.heap.size (0+1) (([]:List Pc)++[⟨k,frm+p,X.size⟩]) HOW7.out (by omega) _ ps.length c7 0 _ ps rfl rfl (by omega) HRD.out ?_
      intro v9 w9 hown9 hgrow9 hblk9
      have HB9:=Lib.hid (HB7.out.grown hgrow9 hs7 (fun j ej=>(HOW7.out.lt j ej).1))
      have HOW9:=Lib.hid hown9
      clear hown9 hgrow9 hblk9
      go_wp2
      go_ret
      rw[HQ.out]
      exact⟨_,rfl,by rw[List.length_append,List.length_append];exact HOW9.out,HB9.out⟩
     have t6:decide ((p:Int)+(m:Int)<(T.size:Int))=true:=decide_eq_true (by have:=HZ.out;omega)
     have t6':decide (p+m<T.size)=true:=decide_eq_true (by have:=HZ.out;omega)
     obtain⟨bb,hbb⟩:∃ b,capB (s.getD (p+m) 0)=b:=⟨_,rfl⟩
     have hfq:=HFR.out (p+m) hpm bb hbb
     have HCQ:=Lib.hid (HCAP.out (p+m) (by omega) bb (by rw[decide_eq_true hpm,Bool.true_and];exact hbb))
     rw[Int.natCast_add]at HCQ
     clear hbb
     cases bb
     case true =>
      have hMm:M=m:=by have:=HFM.out;rw[if_pos rfl]at hfq;omega
      clear hfq
      subst hMm
      go_wp2_with fail
      refine(HCQ.out _).mono ?_
      rintro e w4 ⟨rfl,rfl⟩
      have hszr:=HBR.out.size
      go_wp2_with fail
      refine(HBQ.out _ HBR.out).mono ?_
      rintro e w5 ⟨rfl,hb5⟩
      have HB5:=Lib.hid (chain HBR.out HBR.out.size hb5)
      have HOW5:=Lib.hid (own_below HOWR.out hb5)
      have hs5:=HB5.out.size
      have x1:=HX1.out w5 HB5.out
      clear hb5
      simp only[numV,okV]
      go_wp2_with (at_builtin;refine wpList_append_pieces _ rfl _ _ rfl _ rfl w.heap.size 0 ([]:List Pc) (HOW5.out.alloc _) (by simp;omega) _ 1 1 0 _ [⟨k,frm+p,X.size⟩] rfl rfl (by decide) (lit_reads w5 k (frm+p) X.size rfl) ?_;intro v6 w6 hown6 hgrow6 hblk6;have HB6:=Lib.hid ((HB5.out.alloc hs5 _).grown hgrow6 (by simp;omega) (fun j ej=>(HOW5.out.lt j ej).1));have HOW6:=Lib.hid hown6;clear hown6 hgrow6 hblk6)
      refine(HPS.out _ HB6.out).mono ?_
      rintro e w7 ⟨v7,rfl,hown7,hb7⟩
      have HB7:=Lib.hid (chain HB6.out HB6.out.size hb7)
      have HOW7:=Lib.hid (own_below HOW6.out hb7)
      have HRD:=Lib.hid (readsQ_own rfl hown7)
      obtain⟨A7,c7,rfl,-,-,-⟩:=own_formR hown7
      have hs7:=HB7.out.size
      have hpl:=HPL.out
      clear hown7 hb7
      rename ∀ (a:Act) (w:World),wpList Tryz.prog _ _ _ a w→_=>hK
      refine hK _ _ ?_
      refine wpList_append_pieces _ rfl _ _ rfl v6 rfl w.heap.size (0+1) (([]:List Pc)++[⟨k,frm+p,X.size⟩]) HOW7.out (by omega) _ ps.length c7 0 _ ps rfl rfl (by omega) HRD.out ?_
      intro v9 w9 hown9 hgrow9 hblk9
      have HB9:=Lib.hid (HB7.out.grown hgrow9 hs7 (fun j ej=>(HOW7.out.lt j ej).1))
      have HOW9:=Lib.hid hown9
      clear hown9 hgrow9 hblk9
      go_wp2
      go_ret
      rw[HQ.out]
      exact⟨_,rfl,by rw[List.length_append,List.length_append];exact HOW9.out,HB9.out⟩
     case false =>
      have HNM:=Lib.hid (show M=(m+1)+freeN s (p+(m+1)) from by have:=HFM.out;rw[if_neg Bool.false_ne_true]at hfq;rw[show p+(m+1)=p+m+1 by omega];omega)
      clear hfq
      go_wp2_with fail
      refine(HCQ.out _).mono ?_
      rintro e w4 ⟨rfl,rfl⟩
      go_wp2
      go_roundw
      case rel=>exact⟨m+1,by go_num,by omega,HNM.out,HOWR.out,HBR.out⟩
      case measure=>simp[intOf];omega
   case true =>
    have HQ:=Lib.hid (show runF l s frm (n+1) p=([⟨r2,frm+p,0⟩]++[⟨k,frm+p,X.size⟩])++ps from by rw[HR.out];rfl)
    have HM0:=Lib.hid (show M=1+freeN s (p+1) from by rw[HMF.out];rfl)
    go_wp2_with fail
    refine(HCB.out _).mono ?_
    rintro e w4 ⟨rfl,rfl⟩
    go_wp2_with fail
    refine(HRC.out _ HB2.out).mono ?_
    rintro e w5 ⟨rfl,rfl⟩
    go_wp2_with (at_builtin;refine wpList_append_pieces _ rfl _ _ rfl _ rfl w.heap.size 0 [] (World.ownsRow_nil _ _ _ _) (by simp;omega) _ 1 1 0 _ [⟨r2,frm+p,0⟩] rfl rfl (by decide) (lit_reads w5 r2 (frm+p) 0 rfl) ?_;intro v8 w8 hown8 hgrow8 hblk8;have HB8:=Lib.hid ((HB2.out.alloc hs2 _).grown hgrow8 (by simp;omega) (fun j ej=>by cases ej));have HOWN8:=Lib.hid hown8;clear hown8 hgrow8 hblk8)
    go_loopw [14] (fun i wr=>∃ m:Nat,i=.int .i64 (m:Int)∧p+m≤s.length∧M=m+freeN s (p+m)∧wr.ownsRow w.heap.size 48 3 v8 1 (rowsP [⟨r2,frm+p,0⟩])∧Below w.heap.size w wr) (fun i _=>s.length - (intOf i).toNat)
    case atStart=>exact⟨1,rfl,by omega,HM0.out,HOWN8.out,HB8.out⟩
    case round =>
     obtain⟨m,rfl,hm,hfm,how,hBr⟩:=hrel
     have HFM:=Lib.hid hfm
     have HOWR:=Lib.hid how
     have HBR:=Lib.hid hBr
     clear hfm how hBr
     have y5:IntKind.i64.wrap ((p:Int)+(m:Int))=(p:Int)+(m:Int):=IntWalk.i64_in _ ⟨by omega,by omega⟩
     by_cases hpm:p+m<s.length
     rotate_left
     ·have t6:decide ((p:Int)+(m:Int)<(T.size:Int))=false:=decide_eq_false (by have:=HZ.out;omega)
      have t6':decide (p+m<T.size)=false:=decide_eq_false (by have:=HZ.out;omega)
      have hMm:M=m:=by have:=HFM.out;rw[free_end (by omega)]at this;omega
      subst hMm
      have hszr:=HBR.out.size
      go_wp2_with fail
      refine(HBQ.out _ HBR.out).mono ?_
      rintro e w5 ⟨rfl,hb5⟩
      have HB5:=Lib.hid (chain HBR.out HBR.out.size hb5)
      have HOW5:=Lib.hid (own_below HOWR.out hb5)
      have hs5:=HB5.out.size
      have x1:=HX1.out w5 HB5.out
      clear hb5
      simp only[numV,okV]
      go_wp2_with (at_builtin;refine wpList_append_pieces _ rfl _ _ rfl _ rfl w.heap.size 1 [⟨r2,frm+p,0⟩] (HOW5.out.alloc _) (by simp;omega) _ 1 1 0 _ [⟨k,frm+p,X.size⟩] rfl rfl (by decide) (lit_reads w5 k (frm+p) X.size rfl) ?_;intro v6 w6 hown6 hgrow6 hblk6;have HB6:=Lib.hid ((HB5.out.alloc hs5 _).grown hgrow6 (by simp;omega) (fun j ej=>(HOW5.out.lt j ej).1));have HOW6:=Lib.hid hown6;clear hown6 hgrow6 hblk6)
      refine(HPS.out _ HB6.out).mono ?_
      rintro e w7 ⟨v7,rfl,hown7,hb7⟩
      have HB7:=Lib.hid (chain HB6.out HB6.out.size hb7)
      have HOW7:=Lib.hid (own_below HOW6.out hb7)
      have HRD:=Lib.hid (readsQ_own rfl hown7)
      obtain⟨A7,c7,rfl,-,-,-⟩:=own_formR hown7
      have hs7:=HB7.out.size
      have hpl:=HPL.out
      clear hown7 hb7
      rename ∀ (a:Act) (w:World),wpList Tryz.prog _ _ _ a w→_=>hK
      refine hK _ _ ?_
      refine wpList_append_pieces _ rfl _ _ rfl v6 rfl w.heap.size (1+1) ([⟨r2,frm+p,0⟩]++[⟨k,frm+p,X.size⟩]) HOW7.out (by omega) _ ps.length c7 0 _ ps rfl rfl (by omega) HRD.out ?_
      intro v9 w9 hown9 hgrow9 hblk9
      have HB9:=Lib.hid (HB7.out.grown hgrow9 hs7 (fun j ej=>(HOW7.out.lt j ej).1))
      have HOW9:=Lib.hid hown9
      clear hown9 hgrow9 hblk9
      go_wp2
      go_ret
      rw[HQ.out]
      exact⟨_,rfl,by rw[List.length_append,List.length_append];exact HOW9.out,HB9.out⟩
     have t6:decide ((p:Int)+(m:Int)<(T.size:Int))=true:=decide_eq_true (by have:=HZ.out;omega)
     have t6':decide (p+m<T.size)=true:=decide_eq_true (by have:=HZ.out;omega)
     obtain⟨bb,hbb⟩:∃ b,capB (s.getD (p+m) 0)=b:=⟨_,rfl⟩
     have hfq:=HFR.out (p+m) hpm bb hbb
     have HCQ:=Lib.hid (HCAP.out (p+m) (by omega) bb (by rw[decide_eq_true hpm,Bool.true_and];exact hbb))
     rw[Int.natCast_add]at HCQ
     clear hbb
     cases bb
     case true =>
      have hMm:M=m:=by have:=HFM.out;rw[if_pos rfl]at hfq;omega
      clear hfq
      subst hMm
      go_wp2_with fail
      refine(HCQ.out _).mono ?_
      rintro e w4 ⟨rfl,rfl⟩
      have hszr:=HBR.out.size
      go_wp2_with fail
      refine(HBQ.out _ HBR.out).mono ?_
      rintro e w5 ⟨rfl,hb5⟩
      have HB5:=Lib.hid (chain HBR.out HBR.out.size hb5)
      have HOW5:=Lib.hid (own_below HOWR.out hb5)
      have hs5:=HB5.out.size
      have x1:=HX1.out w5 HB5.out
      clear hb5
      simp only[numV,okV]
      go_wp2_with (at_builtin;refine wpList_append_pieces _ rfl _ _ rfl _ rfl w.heap.size 1 [⟨r2,frm+p,0⟩] (HOW5.out.alloc _) (by simp;omega) _ 1 1 0 _ [⟨k,frm+p,X.size⟩] rfl rfl (by decide) (lit_reads w5 k (frm+p) X.size rfl) ?_;intro v6 w6 hown6 hgrow6 hblk6;have HB6:=Lib.hid ((HB5.out.alloc hs5 _).grown hgrow6 (by simp;omega) (fun j ej=>(HOW5.out.lt j ej).1));have HOW6:=Lib.hid hown6;clear hown6 hgrow6 hblk6)
      refine(HPS.out _ HB6.out).mono ?_
      rintro e w7 ⟨v7,rfl,hown7,hb7⟩
      have HB7:=Lib.hid (chain HB6.out HB6.out.size hb7)
      have HOW7:=Lib.hid (own_below HOW6.out hb7)
      have HRD:=Lib.hid (readsQ_own rfl hown7)
      obtain⟨A7,c7,rfl,-,-,-⟩:=own_formR hown7
      have hs7:=HB7.out.size
      have hpl:=HPL.out
      clear hown7 hb7
      rename ∀ (a:Act) (w:World),wpList Tryz.prog _ _ _ a w→_=>hK
      refine hK _ _ ?_
      refine wpList_append_pieces _ rfl _ _ rfl v6 rfl w.heap.size (1+1) ([⟨r2,frm+p,0⟩]++[⟨k,frm+p,X.size⟩]) HOW7.out (by omega) _ ps.length c7 0 _ ps rfl rfl (by omega) HRD.out ?_
      intro v9 w9 hown9 hgrow9 hblk9
      have HB9:=Lib.hid (HB7.out.grown hgrow9 hs7 (fun j ej=>(HOW7.out.lt j ej).1))
      have HOW9:=Lib.hid hown9
      clear hown9 hgrow9 hblk9
      go_wp2
      go_ret
      rw[HQ.out]
      exact⟨_,rfl,by rw[List.length_append,List.length_append];exact HOW9.out,HB9.out⟩
     case false =>
      have HNM:=Lib.hid (show M=(m+1)+freeN s (p+(m+1)) from by have:=HFM.out;rw[if_neg Bool.false_ne_true]at hfq;rw[show p+(m+1)=p+m+1 by omega];omega)
      clear hfq
      go_wp2_with fail
      refine(HCQ.out _).mono ?_
      rintro e w4 ⟨rfl,rfl⟩
      go_wp2
      go_roundw
      case rel=>exact⟨m+1,by go_num,by omega,HNM.out,HOWR.out,HBR.out⟩
      case measure=>simp[intOf];omega
end Go.Proofs.YtlgejmcihchngaaGreatDoor.Cu
