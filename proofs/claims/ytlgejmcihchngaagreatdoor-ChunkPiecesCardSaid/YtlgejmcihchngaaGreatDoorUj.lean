/-
  Put together: CeJ, CeQ.
-/
import Derived.Test.YtlgejmcihchngaaGreatDoorUi
namespace Go.Proofs.YtlgejmcihchngaaGreatDoor.Ce
open Go.RowKit
theorem isEmpty_no (s:ByteArray) (h:¬ s.size=0):s.toList.isEmpty=false:=by
 have:=Classical.propDecidable (s=ByteArray.empty)
 rw[← decide_eq_emptyBytes]
 simp only[decide_eq_false_iff_not]
 rintro rfl
 exact h rfl
theorem own_below {W W':World} {B e size n:Nat} {v:Value} {xs:List Value} (h:W.ownsRow B e size v n xs) (hb:Below W.heap.size W W'):W'.ownsRow B e size v n xs:=by
 refine⟨h.1,?_⟩
 rcases h.2 with hn | ⟨g,cap,cur,hv,hbg,hg,rest⟩
 ·exact .inl hn
 ·exact .inr ⟨g,cap,cur,hv,hbg,(hb.block g (Array.getElem?_eq_some_iff.1 hg).1).trans hg,rest⟩
theorem infoStr:(Tryz.prog.info? 9).map (fun i=>(i.zero,i.size,i.bytes))=some (some (.string { data:=#[] }),1,16):=by kernel_rfl
def strsK (s:ByteArray) (k:Nat):List Value:=(List.range k).map fun j=>.string (dotsS (bAt s j))
theorem strsK_succ (s:ByteArray) (k:Nat):strsK s (k+1)=strsK s k++[.string (dotsS (bAt s k))]:=by simp[strsK,List.range_succ]
def dotsXs (s:ByteArray):List ByteArray:=(bytesN s).map dotsS
theorem dotsXs_len (s:ByteArray):(dotsXs s).length=s.size:=by unfold dotsXs;rw[List.length_map,bytesN_len]
theorem strsK_at (s:ByteArray) (j:Nat) (x:ByteArray) (h:(dotsXs s)[j]?=some x):(strsK s s.size)[j]?=some (.string x):=by
 have hj:j<s.size:=by rw[← dotsXs_len];exact(List.getElem?_eq_some_iff.1 h).1
 have hl:j<(bytesN s).length:=by rw[bytesN_len];exact hj
 have h2:x=dotsS (bAt s j):=by
  unfold dotsXs at h
  rw[List.getElem?_map,List.getElem?_eq_getElem hl]at h
  unfold bAt
  rw[List.getD_eq_getElem?_getD,List.getElem?_eq_getElem hl]
  simpa using h.symm
 rw[h2]
 unfold strsK
 rw[List.getElem?_map,List.getElem?_range hj];rfl
theorem join_print:∀ l:List Nat,Lib.join ((l.map dotsS).map fun(b:ByteArray)=>b.data.toList) [45]=(printT l).map UInt8.ofNat
 | []=>rfl
 | [x]=>by simp[Lib.join,List.intercalate,printT,dotsS,bytesOf]
 | x::y::r=>by
  have ih:=join_print (y::r)
  have e:Lib.join (((x::y::r).map dotsS).map fun(b:ByteArray)=>b.data.toList) [45]=(dotsS x).data.toList++45::Lib.join (((y::r).map dotsS).map fun(b:ByteArray)=>b.data.toList) [45]:=by
   simp[Lib.join,List.intercalate]
  rw[e,ih]
  simp[printT,dotsS,bytesOf]
def dashS:ByteArray:={ data:=#[45] }
theorem join_at (s:ByteArray) (h4:s.size≤4) (g cap:Nat) (w:World) (hc:∀ (j:Nat) x,(dotsXs s)[j]?=some x→w.cell? ⟨g,0+j,none⟩=some (.string x)) (hg:g<w.heap.size) (hcap:s.size≤cap) :
  Calls Tryz.prog 158 #[.slice (some ⟨g,0,none⟩) s.size cap,.string dashS] w fun e w'=>e=.returned (.string (bytesOf (printT (bytesN s))))∧Below w.heap.size w w':=by
 have hj:=join_print (bytesN s)
 have hl:=printT_len (bytesN s)
 rw[bytesN_len]at hl
 have:=Tryz.strings_Join g 0 cap (dotsXs s) dashS w hc hg (by rw[dotsXs_len];omega) (by rw[dotsXs_len];exact hcap) (by
  show (Lib.join (((bytesN s).map dotsS).map fun(b:ByteArray)=>b.data.toList) [45]).length≤_
  rw[hj,List.length_map];omega)
 rw[dotsXs_len]at this
 refine this.mono fun e w' ⟨he,hb⟩=>⟨?_,hb⟩
 rw[he]
 show Ending.returned (.string ⟨(Lib.join (((bytesN s).map dotsS).map fun(b:ByteArray)=>b.data.toList) [45]).toArray⟩)=_
 rw[hj];rfl
set_option maxRecDepth 100000 in
set_option maxHeartbeats 4000000 in
theorem print_any (s:ByteArray) (hs:s.size≤70000) (w:World) :
  Calls Tryz.prog 131 #[.string s] w fun e w'=>e=.returned (.tuple #[.string (printV s),.int .i64 (printE s)])∧Below w.heap.size w w':=by
 by_cases h0:s.size=0
 ·have hn:¬ printOK s:=fun h=>by have:=h.1;omega
  have HV:=Lib.hid (printV_no hn)
  have HE:=Lib.hid (printE_no hn)
  obtain rfl:s={ data:=#[] }:=ByteArray.size_eq_zero_iff.1 h0
  clear hn h0
  go_enter Tryz.func131,Tryz.ntmps131
  go_wp2
  go_ret2
  exact⟨ret_se HV.out HE.out,Below.refl _ _⟩
 have e1:s.toList.isEmpty=false:=isEmpty_no s h0
 by_cases h4:4<s.size
 ·have hn:¬ printOK s:=fun h=>by have:=h.2.1;omega
  have HV:=Lib.hid (printV_no hn)
  have HE:=Lib.hid (printE_no hn)
  clear hn h0
  go_enter Tryz.func131,Tryz.ntmps131
  go_wp2
  go_ret2
  exact⟨ret_se HV.out HE.out,Below.refl _ _⟩
 have t2:decide (4<s.size)=false:=by simp;omega
 have h1:1≤s.size:=by omega
 have h4':s.size≤4:=by omega
 obtain⟨i0,hi,hz0,hz1,hz2⟩:=info_parts infoStr
 have hcv:=Lib.run_convert_string_bytes (P:=Tryz.prog) w 9 52 5 s (u:=.string) Tryz.underlying9 Tryz.underlying52 Tryz.underlying5
 have hI0:=BecInv.zero (fun b=>b) w s
 have HSZ:=Lib.hid (Lib.bytesWorld_size w 5 s)
 clear h0 h4
 go_enter Tryz.func131,Tryz.ntmps131
 go_wp2
 clear hcv
 obtain⟨W1,hW1⟩:∃ W1,Lib.bytesWorld w 5 s=W1:=⟨_,rfl⟩
 rw[hW1]at hI0 HSZ ⊢
 clear hW1
 go_loopw [4,17] (fun v i wr=>∃ k:Nat,k≤s.size∧i=.int .i64 k∧wr.ownsRow (w.heap.size+1) 9 1 v k (strsK s k)∧Below (w.heap.size+1) W1 wr∧allP okP s k) (fun _ i _=>s.size - (intOf i).toNat)
 case atStart=>exact⟨0,by omega,rfl,World.ownsRow_nil _ _ _ _,Below.refl _ _,allP.zero _ _⟩
 case round =>
  obtain⟨k,hk,rfl,hown,hB,hA⟩:=hrel
  have hsz:=hB.size
  rw[HSZ.out]at hsz
  have hBw:Below w.heap.size w wr:=hI0.2.2.trans (hB.mono (by omega))
  by_cases hlt:k<s.size
  ·have hc:wr.cell? ⟨w.heap.size,k,none⟩=some (.int .u8 ((bAt s k:Nat):Int)):=by
    rw[hB.cell (p:=⟨w.heap.size,k,none⟩) (by simp),hI0.1 k hlt,if_neg (by omega)]
   have h256:=bAt_lt s k
   by_cases hp:okP (bAt s k)=true
   ·have hA2:=hA.succ hp
    have hb:bAt s k≠0∧bAt s k≤63:=by unfold okP at hp;simpa using hp
    obtain⟨hb0,hb63⟩:=hb
    have u1:(((bAt s k:Nat):Int)==0)=false:=beq_eq_false_iff_ne.2 (by omega)
    have u2:decide (63<((bAt s k:Nat):Int))=false:=by simp;omega
    clear hp hb0
    go_wp2_with (first
     |(go_at_call 157;refine(dots_any (bAt s k) h256 _).mono ?_;rintro e w2 ⟨rfl,hb2⟩;have hown2:=own_below hown hb2;have hsz2:=hb2.size)
     |(at_builtin;refine wpList_append_own _ rfl _ _ 98 rfl (w.heap.size+1) 9 i0 (.string { data:=#[] }) 1 16 Tryz.underlying98 hi hz0 hz1 hz2 rfl (by decide) _ _ _ rfl (hown2.alloc _) ⟨w2.heap.size,0,none⟩ 1 1 [.string (dotsS (bAt s k))] rfl rfl (cell_one_new _ _ _) (by simp[Value.oneCell']) (by unfold maxLen;omega) (by omega) (by simp;omega) ?_;intro v' w3 hown' hgrow _))
    have hB2:Below (w.heap.size+1) W1 w3:=((hB.trans (hb2.mono hsz)).alloc (by omega) _).grown hgrow (by simp;omega) (fun j ej=>by have:=(hown2.lt j ej).1;omega)
    exact⟨⟨k+1,by omega,by go_num,by rw[strsK_succ];exact hown',hB2,hA2⟩,by simp[intOf];omega⟩
   ·have hp':okP (bAt s k)=false:=by simpa using hp
    have hbad:=badAt_at hA hlt hp'
    have hn:¬ printOK s:=fun h=>by have:=h.2.2;omega
    have HV:=Lib.hid (printV_no hn)
    have HE:=Lib.hid (printE_no hn)
    have hb:bAt s k=0∨63<bAt s k:=by
     unfold okP at hp';simp only[ne_eq,decide_eq_false_iff_not]at hp';omega
    clear hp hp' hbad hn hA
    by_cases hb0:bAt s k=0
    ·have u1:(((bAt s k:Nat):Int)==0)=true:=by rw[hb0];rfl
     clear hb0 hb
     go_wp2
     go_ret2
     exact⟨ret_se HV.out HE.out,hBw⟩
    ·have u1:(((bAt s k:Nat):Int)==0)=false:=beq_eq_false_iff_ne.2 (by omega)
     have u2:63<bAt s k:=by omega
     clear hb0 hb
     go_wp2
     go_ret2
     exact⟨ret_se HV.out HE.out,hBw⟩
  ·obtain rfl:k=s.size:=by omega
   have hok:printOK s:=⟨h1,h4',badAt_all hA⟩
   have HV:=Lib.hid (show bytesOf (printT (bytesN s))=printV s by unfold printV;rw[if_pos hok])
   have HE:=Lib.hid (show (0:Int)=printE s by unfold printE;rw[if_pos hok])
   rcases hown.2 with⟨_,h0⟩ | ⟨g,cap,cur,rfl,hg0,hg1,hcap,_⟩
   ·omega
   ·have hgs:g<wr.heap.size:=(Array.getElem?_eq_some_iff.1 hg1).1
    have hcs:∀ (j:Nat) x,(dotsXs s)[j]?=some x→wr.cell? ⟨g,0+j,none⟩=some (.string x):=fun j x hx=>by
     have hj:j<s.size:=by rw[← dotsXs_len];exact(List.getElem?_eq_some_iff.1 hx).1
     rw[Nat.zero_add,hown.cellAt j (by omega)]
     exact strsK_at s j x hx
    have HCS:=Lib.hid hcs
    clear hok hcs hg1
    go_wp2_with (go_at_call 158;refine(join_at s h4' g cap wr HCS.out hgs hcap).mono ?_;rintro e w2 ⟨rfl,hb2⟩)
    go_ret2
    exact⟨ret_se HV.out HE.out,hBw.trans (hb2.mono hBw.size)⟩
end Go.Proofs.YtlgejmcihchngaaGreatDoor.Ce
namespace Go.Proofs.YtlgejmcihchngaaGreatDoor.Ce
open Go.RowKit
def placeI (s:ByteArray):Int:=match parseL s with | some _=>-1 | none=>((parseAt s:Nat):Int)
theorem ComeP.pre {s:ByteArray} {pre:List (Pt s)} {f:Nat} (h:ComeP s pre f) (hf:f≤s.size) (x:Pt s) (hx:x.1=(f,dash s f)):pre++[x] <+: partsA s 0:=by
 have e:x=⟨(f,dash s f),(dash_is s f hf).1,(dash_is s f hf).2.1⟩:=Subtype.ext hx
 unfold ComeP at h
 rw[h,partsA_step s f hf,← e]
 exact⟨if dash s f<s.size then partsA s (dash s f+1) else [],by simp⟩
def StandsP (s:ByteArray) (pre:List (Pt s)) (f k:Nat):Prop :=
 (f≤k∧k≤s.size∧ComeP s pre f∧∀ j,f≤j→j<k→bAt s j≠45)∨(k=s.size+1∧pre=partsA s 0)
theorem ret_si {x y:ByteArray} {a b:Int} (h:x=y) (h':a=b):Ending.returned (.tuple #[.string x,.int .i64 a])=.returned (.tuple #[.string y,.int .i64 b]):=by rw[h,h']
theorem rof_at (t:ByteArray) (ht:t.size≤70000) (c:Nat) (b:Bool) (hc:ofS t=c) (hb:ofB t=b) (w:World) :
  Calls Tryz.prog 155 #[.string t] w fun e w'=>e=.returned (.tuple #[.int .u8 ((c:Nat):Int),.bool b])∧w=w':=hc▸hb▸rof_any t ht w
set_option maxRecDepth 100000 in
set_option maxHeartbeats 4000000 in
theorem rparse_any (s:ByteArray) (hs:s.size≤70000) (w:World) :
  Calls Tryz.prog 128 #[.string s] w fun e w'=>e=.returned (.tuple #[.string (parseV s),.int .i64 (placeI s)])∧Below w.heap.size w w':=by
 obtain⟨i0,hi,hz0,hz1,hz2⟩:=info_parts infoByte
 go_enter Tryz.func128,Tryz.ntmps128
 go_wp2
 go_loopw [4,5,6] (fun v u i wr=>∃ (k f m:Nat) (acc:List Nat) (pre:List (Pt s)),i=.int .i64 k∧u=.int .i64 f∧k≤s.size+1∧StandsP s pre f k∧pSt s pre=some acc∧acc.length=m∧wr.ownsRow w.heap.size 5 1 v m (cellsL acc)∧Below w.heap.size w wr) (fun _ _ i _=>s.size+1 - (intOf i).toNat)
 case atStart=>exact⟨0,0,0,[],[],rfl,rfl,by omega,.inl ⟨by omega,by omega,ComeP.zero s,fun j h1 h2=>by omega⟩,rfl,rfl,World.ownsRow_nil _ _ _ _,Below.refl _ _⟩
 case round =>
  obtain⟨k,f,m,acc,pre,rfl,rfl,hk,hS,hacc,hm,hown,hB⟩:=hrel
  have hsz:=hB.size
  have hlen:=pSt_le hacc
  have hm4:m≤4:=by omega
  by_cases hk2:k≤s.size
  ·obtain⟨hfk,hks,hcm,hnd⟩:f≤k∧k≤s.size∧ComeP s pre f∧∀ j,f≤j→j<k→bAt s j≠45:=by
    rcases hS with h | ⟨h,_⟩
    ·exact h
    ·omega
   clear hS
   by_cases hgo:k<s.size∧bAt s k≠45
   ·-- no dash here
    obtain⟨hlt,hne⟩:=hgo
    have E1:=bAt_get s k hlt
    have hS2:StandsP s pre f (k+1):=.inl ⟨by omega,by omega,hcm,fun j h1 h2=>by
     rcases Nat.lt_or_ge j k with h3 | h3
     ·exact hnd j h1 h3
     ·obtain rfl:j=k:=by omega
      exact hne⟩
    have HA:=Lib.hid hacc
    have HM:=Lib.hid hm
    obtain⟨b,hb⟩:∃ b,bAt s k=b:=⟨_,rfl⟩
    rw[hb]at E1 hne
    have t1:((b:Int) != 45)=true:=by rw[bne,beq_eq_false_iff_ne.2 (by omega)];rfl
    clear hacc hm hnd hcm hb hne hlen
    go_wp2
    exact⟨⟨k+1,f,m,acc,pre,by go_num,rfl,by omega,hS2,HA.out,HM.out,hown,hB⟩,by simp[intOf];omega⟩
   ·-- a part ends here
    have hd:dash s f=k:=(dash_is s f (by omega)).unique ⟨hfk,hks,hnd,fun h=>Classical.byContradiction fun h2=>hgo ⟨h,h2⟩⟩
    obtain⟨x,hx⟩:∃ x:Pt s,x.1=(f,k):=⟨⟨(f,k),hfk,hks⟩,rfl⟩
    have hpre:=hcm.pre (by omega) x (by rw[hx,hd])
    have hpt:ptN s x=ofS (s.extract f k):=by unfold ptN;rw[hx]
    have hes:=ext_size s f k hks
    have het:(s.extract f k).size≤70000:=by omega
    have hat:=atN_front s _ 0 pre x hpre
    rw[hx]at hat
    by_cases hfail:ptN s x=0∨m=4
    ·obtain⟨r1,r2,r3⟩:=parse_fail s pre x acc hacc (hm▸hfail) hpre
     have R1:=Lib.hid (show ({ data:=#[] }:ByteArray)=parseV s from r1.symm)
     have R2:=Lib.hid (show ((f:Nat):Int)=placeI s by
      unfold placeI
      unfold parseE at r3
      cases hL:parseL s with
      | none=>simp only[];rw[r2];simp only[]at hat;omega
      | some l=>rw[hL]at r3;cases r3)
     clear r1 r2 r3 hat hpre hacc
     by_cases h0:ptN s x=0
     ·have HC:=Lib.hid (show ofS (s.extract f k)=0 by rw[← hpt,h0])
      have HB:=Lib.hid (show ofB (s.extract f k)=false by unfold ofB;rw[HC.out];rfl)
      clear h0 hfail hpt hm hd hx hcm hnd hes
      by_cases hlt:k<s.size
      ·have E1:=bAt_get s k hlt
       have hb:bAt s k=45:=Classical.byContradiction fun h=>hgo ⟨hlt,h⟩
       have t1:(((s[k]'hlt).toNat:Int) != 45)=false:=by rw[E1,hb];rfl
       clear hgo E1 hb
       go_wp2_with (go_at_call 155;refine(rof_at _ het 0 false HC.out HB.out _).mono ?_;rintro e w' ⟨rfl,rfl⟩)
       go_ret2
       exact⟨ret_si R1.out R2.out,hB⟩
      ·have t2:decide (k<s.size)=false:=decide_eq_false hlt
       clear hgo
       go_wp2_with (go_at_call 155;refine(rof_at _ het 0 false HC.out HB.out _).mono ?_;rintro e w' ⟨rfl,rfl⟩)
       go_ret2
       exact⟨ret_si R1.out R2.out,hB⟩
     ·obtain rfl:m=4:=hfail.resolve_left h0
      obtain⟨c,hc⟩:∃ c,ptN s x=c:=⟨_,rfl⟩
      have HC:=Lib.hid (show ofS (s.extract f k)=c by rw[← hpt,hc])
      have HB:=Lib.hid (show ofB (s.extract f k)=true by unfold ofB;rw[HC.out,← hc];simp[h0])
      rcases hown.2 with⟨_,hno⟩ | ⟨g,cap,cur,rfl,-⟩
      ·omega
      clear h0 hfail hpt hm hd hx hcm hnd hes hc
      by_cases hlt:k<s.size
      ·have E1:=bAt_get s k hlt
       have hb:bAt s k=45:=Classical.byContradiction fun h=>hgo ⟨hlt,h⟩
       have t1:(((s[k]'hlt).toNat:Int) != 45)=false:=by rw[E1,hb];rfl
       clear hgo E1 hb
       go_wp2_with (go_at_call 155;refine(rof_at _ het c true HC.out HB.out _).mono ?_;rintro e w' ⟨rfl,rfl⟩)
       go_ret2
       exact⟨ret_si R1.out R2.out,hB⟩
      ·have t2:decide (k<s.size)=false:=decide_eq_false hlt
       clear hgo
       go_wp2_with (go_at_call 155;refine(rof_at _ het c true HC.out HB.out _).mono ?_;rintro e w' ⟨rfl,rfl⟩)
       go_ret2
       exact⟨ret_si R1.out R2.out,hB⟩
    ·-- a cell more
     have h0:ptN s x≠0:=fun h=>hfail (.inl h)
     have h4:m≠4:=fun h=>hfail (.inr h)
     have hlx:ptN s x<64:=ofS_lt _
     obtain⟨c,hc⟩:∃ c,ptN s x=c:=⟨_,rfl⟩
     have HC:=Lib.hid (show ofS (s.extract f k)=c by rw[← hpt,hc])
     have HB:=Lib.hid (show ofB (s.extract f k)=true by unfold ofB;rw[HC.out,← hc];simp[h0])
     have HST:=Lib.hid (show pSt s (pre++[x])=some (acc++[c]) by rw[pSt_snoc,hacc,pStep_yes h0 (by omega),hc])
     have HM:=Lib.hid (show (acc++[c]).length=m+1 by rw[List.length_append,hm];rfl)
     have b4:((m:Int)==4)=false:=beq_eq_false_iff_ne.2 (by omega)
     have hS2:StandsP s (pre++[x]) (k+1) (k+1):=by
      have hxe:x=⟨(f,dash s f),(dash_is s f (by omega)).1,(dash_is s f (by omega)).2.1⟩:=Subtype.ext (by show x.1=(f,dash s f);rw[hx,hd])
      rcases Nat.lt_or_ge k s.size with hlt | hge
      ·refine .inl ⟨Nat.le_refl _,by omega,?_,fun j h1 h2=>by omega⟩
       have:=hcm.succ (by omega) (by rw[hd];exact hlt)
       rw[← hxe,hd]at this
       exact this
      ·refine .inr ⟨by omega,?_⟩
       have:=hcm.last (by omega) (by rw[hd];omega)
       rw[← hxe]at this
       exact this.symm
     rw[hc]at hlx
     clear h0 h4 hfail hpt hm hd hx hcm hnd hes hc hacc hat hpre hlen
     by_cases hlt:k<s.size
     ·have E1:=bAt_get s k hlt
      have hb:bAt s k=45:=Classical.byContradiction fun h=>hgo ⟨hlt,h⟩
      have t1:(((s[k]'hlt).toNat:Int) != 45)=false:=by rw[E1,hb];rfl
      clear hgo E1 hb
      rcases hown.2 with⟨rfl,-⟩ | ⟨g,cap,cur,rfl,-⟩
      all_goals
       go_wp2_with (first
        |(go_at_call 155;refine(rof_at _ het c true HC.out HB.out _).mono ?_;rintro e w' ⟨rfl,rfl⟩)
        |(at_builtin;refine wpList_append_own _ rfl _ _ 52 rfl w.heap.size 5 i0 (.int .u8 0) 1 1 Tryz.underlying52 hi hz0 hz1 hz2 rfl (by decide) _ _ _ rfl (hown.alloc _) ⟨wr.heap.size,0,none⟩ 1 1 [.int .u8 (c:Int)] rfl rfl (cell_one_new _ _ _) (by simp[Value.oneCell']) (by unfold maxLen;omega) (by omega) (by simp;omega) ?_;intro v' w1 hown' hgrow _))
       have hB2:Below w.heap.size w w1:=(hB.alloc (by omega) _).grown hgrow (by simp;omega) (fun j ej=>((hown.lt) j ej).1)
       exact⟨⟨k+1,k+1,m+1,acc++[c],pre++[x],by go_num,by go_num,by omega,hS2,HST.out,HM.out,by rw[cellsL_snoc];exact hown',hB2⟩,by simp[intOf];omega⟩
     ·have t2:decide (k<s.size)=false:=decide_eq_false hlt
      clear hgo
      rcases hown.2 with⟨rfl,-⟩ | ⟨g,cap,cur,rfl,-⟩
      all_goals
       go_wp2_with (first
        |(go_at_call 155;refine(rof_at _ het c true HC.out HB.out _).mono ?_;rintro e w' ⟨rfl,rfl⟩)
        |(at_builtin;refine wpList_append_own _ rfl _ _ 52 rfl w.heap.size 5 i0 (.int .u8 0) 1 1 Tryz.underlying52 hi hz0 hz1 hz2 rfl (by decide) _ _ _ rfl (hown.alloc _) ⟨wr.heap.size,0,none⟩ 1 1 [.int .u8 (c:Int)] rfl rfl (cell_one_new _ _ _) (by simp[Value.oneCell']) (by unfold maxLen;omega) (by omega) (by simp;omega) ?_;intro v' w1 hown' hgrow _))
       have hB2:Below w.heap.size w w1:=(hB.alloc (by omega) _).grown hgrow (by simp;omega) (fun j ej=>((hown.lt) j ej).1)
       exact⟨⟨k+1,k+1,m+1,acc++[c],pre++[x],by go_num,by go_num,by omega,hS2,HST.out,HM.out,by rw[cellsL_snoc];exact hown',hB2⟩,by simp[intOf];omega⟩
  ·obtain rfl:k=s.size+1:=by omega
   have hpa:pre=partsA s 0:=by
    rcases hS with⟨_,h,_⟩ | ⟨_,h⟩
    ·omega
    ·exact h
   have hL:parseL s=some acc:=by unfold parseL;rw[← hpa];exact hacc
   obtain⟨r1,r2,r3⟩:=parse_ok s acc hL
   have R1:=Lib.hid r1.symm
   have R2:=Lib.hid (show (-1:Int)=placeI s by
    unfold placeI
    rw[hL])
   have HL:=Lib.hid (show ∀ x ∈ acc,x<256 from fun x hx=>Nat.lt_trans (hlen.2 x hx) (by decide))
   clear r1 r2 r3 hpa hS hacc hlen hm hL
   rcases hown.2 with⟨rfl,-⟩ | ⟨g,cap,cur,rfl,-⟩
   all_goals
    have hback:=back_of_row acc HL.out hown
    go_wp2
    go_ret2
    exact⟨ret_si R1.out R2.out,hB⟩
end Go.Proofs.YtlgejmcihchngaaGreatDoor.Ce
