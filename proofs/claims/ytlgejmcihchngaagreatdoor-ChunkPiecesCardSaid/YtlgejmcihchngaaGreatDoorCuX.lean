/-
  ChunkPieces, whatever it is called with.
-/
import Derived.Test.YtlgejmcihchngaaGreatDoorCuV
import Derived.Test.YtlgejmcihchngaaGreatDoorUb
import Derived.Test.YtlgejmcihchngaaGreatDoorCkI
namespace Go.Proofs.YtlgejmcihchngaaGreatDoor.Cu
open Go.RowKit Ba Ru Ck Ti Pa Fl
theorem cells_newsT {g off:Nat} {w:World} {l:List Tk} (h:∀ k x,l[k]?=some x→∀ j u,(cT x)[j]?=some u→w.cell? ⟨g,off+(k * 3+j),none⟩=some u) :
  ∀ j u,(Ba.rows cT l)[j]?=some u→w.cell? ((⟨g,off,none⟩:Addr).add j)=some u:=by
 intro j u hu
 have hj:j<(Ba.rows cT l).length:=(List.getElem?_eq_some_iff.1 hu).1
 rw[rows_length cT cT_len]at hj
 have hk:j / 3<l.length:=by omega
 have e:=rows_at cT cT_len l (j / 3) _ (List.getElem?_eq_getElem hk) (j % 3) (Nat.mod_lt _ (by omega))
 have e2:j / 3 * 3+j % 3=j:=by omega
 rw[e2,hu]at e
 have:=h (j / 3) _ (List.getElem?_eq_getElem hk) (j % 3) u e.symm
 rw[e2]at this
 have e3:(⟨g,off,none⟩:Addr).add j=⟨g,off+j,none⟩:=by unfold Addr.add;split<;>simp_all
 rw[e3];exact this
theorem rows_cellsT (l:List Tk):∀ u ∈ Ba.rows cT l,u.oneCell'=true:=by
 intro u hu
 unfold Ba.rows at hu
 rw[List.mem_flatMap]at hu
 obtain⟨x,_,hx⟩:=hu
 simp[cT]at hx
 rcases hx with rfl | rfl | rfl<;>rfl
theorem wpList_append_toks (w:World) {ops:Array Oper} {rest:List Oper} {o:Oper} {a:Act} {Q:Exit→Act→World→Prop} (hgd:o.guard=none) (s x:Operand)
  (ho:o.op=.call { callee:=.builtin .append,args:=#[s,x],argTypes:=#[23,23] })
  (v0:Value) (hs:a.eval s=v0) (B k:Nat) (xs:List Tk) (hown:w.ownsRow B 42 3 v0 k (rowsK xs)) (hB:B≤w.heap.size) (A:Option Addr) (n c off B':Nat) (l:List Tk) (hx:a.eval x=.slice A n c) (hl:l.length=n) (hn:k+n≤9000) (hr:ReadsT off w B' (.slice A n c) l)
  (h:∀ v' w',w'.ownsRow B 42 3 v' (k+n) (rowsK (xs++l))→w.grownBy w' v0.ownBlock→wpList Tryz.prog ops Q rest (a.put o.dst v') w'):wpList Tryz.prog ops Q (o::rest) a w:=by
 obtain⟨i0,hi0,hz0,hz1,hz2⟩:=info_parts infoTk
 rcases Nat.eq_zero_or_pos n with h0 | h0
 ·subst h0
  have:l=[]:=List.length_eq_zero_iff.1 hl
  subst this
  exact wpList_append_zero w hgd s x _ ho B _ i0 3 Tryz.underlying23 hi0 v0 k _ hs hown A c hx (h v0 w (by rw[List.append_nil];exact hown) ⟨rfl,rfl,rfl,Nat.le_refl _,fun _ _ _=>rfl⟩)
 ·obtain⟨A',c',e,hA⟩:=hr
  injection e with e1 e2 e3
  subst e1
  obtain⟨g,rfl,-,hc⟩:=hA (by omega)
  refine wpList_append_own_at w hgd s x _ ho B _ i0 _ 3 24 Tryz.underlying23 hi0 hz0 hz1 hz2 rfl (by decide) v0 k _ hs hown ⟨g,off,none⟩ n c (Ba.rows cT l) hx (by rw[rows_length cT cT_len,hl]) (cells_newsT hc) (rows_cellsT _) (by unfold maxLen;omega) (by omega) hB ?_
  intro v' w' h1 h2 _ _
  refine h v' w' ?_ h2
  unfold rowsK
  rw[rows_append]
  exact h1
theorem let_chunk {t:List Tk} (h:t.all letT=true):chunkB t=true:=by
 unfold chunkB
 rw[List.all_eq_true]at h ⊢
 intro x hx
 unfold tokT
 rw[h x hx]
 rfl
theorem word_chunk {l:List Rl} {t:List Tk} (h:chunkB t=false):wordP l t=none:=by
 refine wordP_no fun k=>?_
 rw[let_chunk k]at h
 cases h
set_option maxRecDepth 100000 in
set_option maxHeartbeats 16000000 in
theorem pieces_row (T:TLands) (Q:QLands T) (l:List Rl) (A:Option Addr) (off c:Nat) (ta:List Tk) (A1:Option Addr) (o1 c1:Nat) (w:World) (hL:Laid9 w) (hcl:l.length≤c) (hcm:c≤maxLen) (hf:∀ x ∈ l,FitR x) (hl:ReadsR off w w.heap.size (.slice A l.length c) l)
  (ha1:ta.length≤c1) (_ha2:c1≤maxLen) (haf:FitT ta) (har:ReadsT o1 w w.heap.size (.slice A1 ta.length c1) ta) :
  Calls Tryz.prog 3 #[.slice A l.length c,.slice A1 ta.length c1] w fun e w'=>e=.returned (.bool true)∧Below w.heap.size w w':=by
 have HAF:=Lib.hid haf
 have HAR:=Lib.hid har
 have HC1:=Lib.hid ha1
 clear haf har ha1
 obtain⟨na,hna⟩:∃ n,ta.length=n:=⟨_,rfl⟩
 rw[hna]at HAR HC1 ⊢
 have HNA:=Lib.hid hna
 clear hna
 have HL:=Lib.hid hL
 have HV:=Lib.hid hl
 have hlm:l.length≤maxLen:=Nat.le_trans hcl hcm
 have HF:=Lib.hid hf
 have HCAP:=Lib.hid (show CapsR (.slice A l.length c) from fun A' n' c' e=>by
  injection e with _ e1 e2
  subst e1;subst e2
  exact⟨hcl,hcm⟩)
 clear hL hl hf hcm hcl
 obtain⟨nl,hnl⟩:∃ nl,l.length=nl:=⟨_,rfl⟩
 rw[hnl]at HV HCAP hlm ⊢
 have HNL:=Lib.hid hnl
 clear hnl
 obtain⟨lb,hlb⟩:∃ lb,long9 l=lb:=⟨_,rfl⟩
 have HLB:=Lib.hid hlb
 clear hlb
 have HAW:=Lib.hid (fun(W:World) hW=>awake12 T Q W hW)
 go_enter Tryz.func3,Tryz.ntmps3
 cases lb
 case true =>
  go_wp2_with fail
  refine(long12_at _ l off (by rw[HNL.out];exact hlm) _ _ HV.out true HLB.out).mono ?_
  rintro e w' ⟨rfl,hw'⟩
  have hw':=hw'.symm
  subst hw'
  go_wp2_with fail
  refine(HAW.out _ HL.out).mono ?_
  rintro e w9 ⟨rfl,hb9⟩
  go_wp2
  go_ret
  exact⟨rfl,hb9⟩
 case false =>
 obtain⟨hl5,hl50⟩:=not_long9 HLB.out
 rw[HNL.out]at hl5
 have HFX:=Lib.hid (show FitL l from fun x hx=>⟨HF.out x hx,by have:=(hl50 x hx).1;omega,by have:=(hl50 x hx).2;omega⟩)
 have HF50:=Lib.hid (show ∀ x ∈ l,x.left.length≤50∧x.cells.length≤50 from hl50)
 clear hl50
 go_wp2_with fail
 refine(long12_at _ l off (by rw[HNL.out];exact hlm) _ _ HV.out false HLB.out).mono ?_
 rintro e w' ⟨rfl,hw'⟩
 have hw':=hw'.symm
 subst hw'
 by_cases h40:40<na
 ·have tb1:decide (40<(na:Int))=true:=decide_eq_true (by omega)
  have tb2:decide (40<na)=true:=decide_eq_true h40
  go_wp2_with fail
  refine(HAW.out _ HL.out).mono ?_
  rintro e w9 ⟨rfl,hb9⟩
  go_wp2
  go_ret
  exact⟨rfl,hb9⟩
 have tb1:decide (40<(na:Int))=false:=decide_eq_false (by omega)
 have tb2:decide (40<na)=false:=decide_eq_false h40
 obtain⟨fa,hfa⟩:∃ f,errC ta=f:=⟨_,rfl⟩
 have HFA:=Lib.hid hfa
 have hff:(fa != fa)=false:=bne_self_eq_false fa
 have HCK:=Lib.hid (hfa▸Q.check _ ta o1 (by rw[HNA.out];omega) HAF.out w HL.out HAR.out)
 have HRK:=Lib.hid (fun(W:World) (hW:Below w.heap.size w W)=>rcheck_any _ ta o1 (by rw[HNA.out];omega) HAF.out fa (show (if chunkB ta=true then (0:Int) else 1)=fa from hfa) W ((HAR.out.below hW).mono hW.size))
 clear hfa
 have HB:=Lib.hid (Below.refl w.heap.size w)
 go_wp2_with fail
 refine(HCK.out).mono ?_
 rintro e w_1 ⟨rfl,hb⟩
 have HB:=Lib.hid (chain HB.out HB.out.size hb)
 clear hb
 go_wp2_with fail
 refine(HRK.out _ HB.out).mono ?_
 rintro e w_2 ⟨rfl,hb⟩
 have HB:=Lib.hid (chain HB.out HB.out.size hb)
 clear hb
 obtain⟨z0,y0,hr0⟩:∃ z y,tableR prC l=(z,y):=⟨_,_,rfl⟩
 have HR0:=Lib.hid hr0
 clear hr0
 go_wp2_with fail
 refine(rtable_any _ l off (by rw[HNL.out];omega) HFX.out (z0,y0) HR0.out _ ((HV.out.below HB.out).mono HB.out.size)).mono ?_
 rintro e w_3 ⟨rfl,hb⟩
 have HB:=Lib.hid (chain HB.out HB.out.size hb)
 clear hb
 by_cases hy0:y0=0
 rotate_left
 ·have y1:((y0:Int)==0)=false:=beq_eq_false_iff_ne.2 (by omega)
  have y3:((y0:Int) != 0)=true:=bne_iff_ne.2 (by omega)
  go_wp2_with fail
  refine(HAW.out _ (HL.out.kept HB.out)).mono ?_
  rintro e w9 ⟨rfl,hb9⟩
  have HE9:=Lib.hid (chain HB.out HB.out.size hb9)
  clear hb9
  go_wp2
  go_ret
  exact⟨rfl,HE9.out⟩
 subst hy0
 go_wp2_with fail
 refine(T.new _ l off (by rw[HNL.out];omega) HFX.out HCAP.out _ (HL.out.kept HB.out) ((HV.out.below HB.out).mono HB.out.size)).mono ?_
 rintro e w1 ⟨hb1,h1⟩
 obtain⟨z,y,hr⟩:∃ z y,tableR prC l=(z,y):=⟨_,_,rfl⟩
 have HR:=Lib.hid hr
 rw[hr]at h1
 have HB1:=Lib.hid (chain HB.out HB.out.size hb1)
 clear hb1 hr
 rcases h1 with⟨hy,t,rfl,his⟩ | ⟨hy,rfl⟩
 rotate_left
 ·exact absurd (show (0:Nat)=y from by
   have:=HR.out
   rw[HR0.out]at this
   injection this) (fun e=>hy e.symm)
 have hy:y=0:=hy
 subst hy
 have HACC:=Lib.hid ((table_acc l).1 (by rw[HR.out]))
 obtain⟨⟨a,rfl⟩,-⟩:=T.ptr his
 have hlen:l.length≤1000:=by rw[HNL.out];omega
 have HL1:=Lib.hid (HL.out.kept HB1.out)
 have HV1:=Lib.hid ((HV.out.below HB1.out).mono HB1.out.size)
 have HIS:=Lib.hid (show ∀ W:World,Below w1.heap.size w1 W→∃ lo hi,T.Is W (.pointer (some a)) l lo hi∧Laid9 W from fun W hW=>⟨_,_,T.keep his (Kept.of_below hW (Nat.le_refl _)),HL1.out.kept hW⟩)
 clear his hlen
 have hlen:l.length≤1000:=by rw[HNL.out];omega
 have hna9:ta.length≤1000:=by rw[HNA.out];omega
 obtain⟨oc,hoc⟩:∃ p,ofC l ta=p:=⟨_,rfl⟩
 obtain⟨sc,hsc⟩:∃ p,spellC l ta=p:=⟨_,rfl⟩
 obtain⟨wp,hwp⟩:∃ p,(wordP l ta).getD []=p:=⟨_,rfl⟩
 obtain⟨ob,hob⟩:∃ b,(wordP l ta).isSome=b:=⟨_,rfl⟩
 have HO:=Lib.hid (fun(v:Value) (W:World) (hW:Below w1.heap.size w1 W) (hc:CapsR v) (hr:ReadsT 0 W W.heap.size v ta)=>show Calls Tryz.prog 13 #[.pointer (some a),v] W fun e w'=>∃ v',e=.returned (.tuple #[v',.int .i64 fa])∧w'.ownsRow W.heap.size 48 3 v' oc.length (rowsP oc)∧Below W.heap.size W w' from by
  obtain⟨lo,hi,h1,h2⟩:=HIS.out W hW
  have:=Q.of v ta 0 hna9 HAF.out hc hlen HACC.out HFX.out W h2 h1 hr
  rw[HFA.out,hoc]at this
  exact this)
 have HW:=Lib.hid (fun(v:Value) (W:World) (hW:Below w1.heap.size w1 W) (hr:ReadsT 0 W W.heap.size v ta)=>show Calls Tryz.prog 14 #[.pointer (some a),v] W fun e w'=>∃ v',e=.returned (.tuple #[v',.bool ob])∧w'.ownsRow W.heap.size 48 3 v' wp.length (rowsP wp)∧Below W.heap.size W w' from by
  obtain⟨lo,hi,h1,h2⟩:=HIS.out W hW
  have:=Q.word v ta 0 hna9 HAF.out hlen HACC.out HFX.out W h2 h1 hr
  rw[hob,hwp]at this
  exact this)
 have HS:=Lib.hid (fun(v:Value) (W:World) (hW:Below w1.heap.size w1 W) (hc:CapsR v) (hr:ReadsT 0 W W.heap.size v ta)=>show Calls Tryz.prog 15 #[.pointer (some a),v] W fun e w'=>∃ v',e=.returned (.tuple #[v',.int .i64 fa])∧w'.ownsRow W.heap.size 48 3 v' sc.length (rowsP sc)∧Below W.heap.size W w' from by
  obtain⟨lo,hi,h1,h2⟩:=HIS.out W hW
  have:=Q.spelled v ta 0 hna9 HAF.out hc hlen HACC.out HFX.out W h2 h1 hr
  rw[HFA.out,hsc]at this
  exact this)
 have HO0:=Lib.hid (fun(v:Value) (W:World) (hW:Below w1.heap.size w1 W) (hr:ReadsT 0 W W.heap.size v ta)=>Q.of0 v ta 0 hna9 HAF.out W (HL1.out.kept hW) hr)
 have HW0:=Lib.hid (fun(v:Value) (W:World) (hW:Below w1.heap.size w1 W) (hr:ReadsT 0 W W.heap.size v ta)=>Q.word0 v ta 0 hna9 HAF.out W (HL1.out.kept hW) hr)
 have HS0:=Lib.hid (fun(v:Value) (W:World) (hW:Below w1.heap.size w1 W) (hr:ReadsT 0 W W.heap.size v ta)=>Q.spelled0 v ta 0 hna9 HAF.out W (HL1.out.kept hW) hr)
 have HOC:=Lib.hid hoc
 have HSC:=Lib.hid hsc
 have HWP:=Lib.hid hwp
 have HOB:=Lib.hid hob
 clear hoc hsc hwp hob
 have HB:=Lib.hid HB1.out
 go_wp2_with (at_builtin;refine wpList_append_toks _ rfl _ _ rfl (.slice (some ⟨w1.heap.size,0,none⟩) 0 0) rfl w1.heap.size 0 [] (World.ownsRow_lit w1 #[] 0 (Nat.le_refl _) (by decide) rfl) (by simp) _ na c1 o1 w1.heap.size ta rfl HNA.out (by omega) (((HAR.out.below HB1.out).mono HB1.out.size).below ((Below.refl w1.heap.size w1).alloc (Nat.le_refl _) _)) ?_;intro vo w2 howno hgrowo;have H1:=Lib.hid (((Below.refl w1.heap.size w1).alloc (Nat.le_refl _) _).grown hgrowo (by simp) (fun q eq=>by cases eq;exact Nat.le_refl _));have HOWN:=Lib.hid (show w2.ownsRow w1.heap.size 42 3 vo na (rowsK ta) from by rw[Nat.zero_add]at howno;exact howno);clear howno hgrowo)
 have HB:=Lib.hid (chain HB1.out HB1.out.size H1.out)
 have HRT:=Lib.hid (show ReadsT 0 w2 w2.heap.size vo ta from Ba.Reads.of_own cT_len HNA.out HOWN.out)
 obtain⟨Ao,co,rfl,hoc0,-,-⟩:=own_formR HOWN.out
 have HCO:=Lib.hid (capsR_own HOWN.out)
 refine(HO.out _ _ H1.out HCO.out HRT.out).mono ?_
 rintro e w_4 ⟨vp,rfl,hown,hb⟩
 have HB:=Lib.hid (chain HB.out HB.out.size hb)
 have H1:=Lib.hid (chain H1.out H1.out.size hb)
 have HRT:=Lib.hid ((HRT.out.below hb).mono hb.size)
 have HRP:=Lib.hid (readsQ_own rfl hown)
 clear hb
 obtain⟨Ap,cp,rfl,-,-,-⟩:=own_formR hown
 clear hown
 go_wp2_with fail
 refine(HW.out _ _ H1.out HRT.out).mono ?_
 rintro e w_5 ⟨vq,rfl,hown,hb⟩
 have HB:=Lib.hid (chain HB.out HB.out.size hb)
 have H1:=Lib.hid (chain H1.out H1.out.size hb)
 have HRT:=Lib.hid ((HRT.out.below hb).mono hb.size)
 have HRP:=Lib.hid ((HRP.out.below hb).mono hb.size)
 have HRQ:=Lib.hid (readsQ_own rfl hown)
 clear hb
 obtain⟨Aq,cq,rfl,-,-,-⟩:=own_formR hown
 clear hown
 go_wp2_with fail
 refine(HS.out _ _ H1.out HCO.out HRT.out).mono ?_
 rintro e w_6 ⟨vr,rfl,hown,hb⟩
 have HB:=Lib.hid (chain HB.out HB.out.size hb)
 have H1:=Lib.hid (chain H1.out H1.out.size hb)
 have HRT:=Lib.hid ((HRT.out.below hb).mono hb.size)
 have HRP:=Lib.hid ((HRP.out.below hb).mono hb.size)
 have HRQ:=Lib.hid ((HRQ.out.below hb).mono hb.size)
 have HRR:=Lib.hid (readsQ_own rfl hown)
 clear hb
 obtain⟨Ar,cr,rfl,-,-,-⟩:=own_formR hown
 clear hown
 go_wp2_with fail
 refine(HO0.out _ _ H1.out HRT.out).mono ?_
 rintro e w_7 ⟨v0,rfl,hb⟩
 have HB:=Lib.hid (chain HB.out HB.out.size hb)
 have H1:=Lib.hid (chain H1.out H1.out.size hb)
 have HRT:=Lib.hid ((HRT.out.below hb).mono hb.size)
 have HRP:=Lib.hid ((HRP.out.below hb).mono hb.size)
 have HRQ:=Lib.hid ((HRQ.out.below hb).mono hb.size)
 have HRR:=Lib.hid ((HRR.out.below hb).mono hb.size)
 clear hb
 go_wp2_with fail
 refine(HW0.out _ _ H1.out HRT.out).mono ?_
 rintro e w_8 ⟨v0',rfl,hb⟩
 have HB:=Lib.hid (chain HB.out HB.out.size hb)
 have H1:=Lib.hid (chain H1.out H1.out.size hb)
 have HRT:=Lib.hid ((HRT.out.below hb).mono hb.size)
 have HRP:=Lib.hid ((HRP.out.below hb).mono hb.size)
 have HRQ:=Lib.hid ((HRQ.out.below hb).mono hb.size)
 have HRR:=Lib.hid ((HRR.out.below hb).mono hb.size)
 clear hb
 go_wp2_with fail
 refine(HS0.out _ _ H1.out HRT.out).mono ?_
 rintro e w_9 ⟨v0'',rfl,hb⟩
 have HB:=Lib.hid (chain HB.out HB.out.size hb)
 have H1:=Lib.hid (chain H1.out H1.out.size hb)
 have HRT:=Lib.hid ((HRT.out.below hb).mono hb.size)
 have HRP:=Lib.hid ((HRP.out.below hb).mono hb.size)
 have HRQ:=Lib.hid ((HRQ.out.below hb).mono hb.size)
 have HRR:=Lib.hid ((HRR.out.below hb).mono hb.size)
 clear hb
 go_wp2_with fail
 refine(HRK.out _ HB.out).mono ?_
 rintro e w_10 ⟨rfl,hb⟩
 have HB:=Lib.hid (chain HB.out HB.out.size hb)
 have HRT:=Lib.hid ((HRT.out.below hb).mono hb.size)
 have HRP:=Lib.hid ((HRP.out.below hb).mono hb.size)
 have HRQ:=Lib.hid ((HRQ.out.below hb).mono hb.size)
 have HRR:=Lib.hid ((HRR.out.below hb).mono hb.size)
 clear hb
 cases hch:chunkB ta
 case false =>
  have hf1:fa=1:=by rw[← HFA.out];unfold errC;rw[hch,if_neg Bool.false_ne_true]
  have ho1:oc=[]:=by rw[← HOC.out];unfold ofC;rw[hch,if_neg Bool.false_ne_true]
  have hs1:sc=[]:=by rw[← HSC.out];unfold spellC;rw[hch,if_neg Bool.false_ne_true]
  have hw1:wp=[]:=by rw[← HWP.out,word_chunk hch];rfl
  have hb1:ob=false:=by rw[← HOB.out,word_chunk hch];rfl
  subst hf1 ho1 hs1 hw1 hb1
  simp only[List.length_nil]
  go_wp2_with fail
  refine(HAW.out _ (HL.out.kept HB.out)).mono ?_
  rintro e w9 ⟨rfl,hb9⟩
  have HE9:=Lib.hid (chain HB.out HB.out.size hb9)
  clear hb9
  go_wp2
  go_ret
  exact⟨rfl,HE9.out⟩
 case true =>
 have hf1:fa=0:=by rw[← HFA.out];unfold errC;rw[hch,if_pos rfl]
 subst hf1
 have HOP:=Lib.hid (show ofP l ta=oc from by rw[← HOC.out];unfold ofC;rw[hch,if_pos rfl])
 have HSP:=Lib.hid (show spellN l ta=sc from by rw[← HSC.out];unfold spellC;rw[hch,if_pos rfl])
 have hft:∀ x ∈ ta,x.ch<256:=fun x hx=>(HAF.out x hx).2.1
 have HRW:=Lib.hid (fun(W:World) (hW:Below w.heap.size w W)=>show Calls Tryz.prog 16 #[.slice A nl c,.slice A1 na c1] W fun e w'=>∃ v',e=.returned (.tuple #[v',.bool ob])∧w'.ownsRow W.heap.size 48 3 v' wp.length (rowsP wp)∧Below W.heap.size W w' from by
  have:=rword12_any _ _ l ta off o1 (by rw[HNL.out];omega) (by rw[HNA.out];omega) HF.out hft (wordP l ta) rfl W ((HV.out.below hW).mono hW.size) ((HAR.out.below hW).mono hW.size)
  rw[HOB.out,HWP.out]at this
  exact this)
 have HRS:=Lib.hid (fun(W:World) (hW:Below w.heap.size w W)=>show Calls Tryz.prog 18 #[.slice A nl c,.slice A1 na c1] W fun e w'=>∃ v',e=.returned v'∧w'.ownsRow W.heap.size 48 3 v' sc.length (rowsP sc)∧Below W.heap.size W w' from by
  have:=rspell_any A nl c l off HNL.out (by omega) HF.out (fun x hx=>(HFX.out x hx).2.1) HACC.out A1 na c1 ta o1 HNA.out (by omega) HC1.out hft W ((HV.out.below hW).mono hW.size) ((HAR.out.below hW).mono hW.size)
  rw[HSP.out]at this
  exact this)
 have HRO:=Lib.hid (fun(W:World) (hW:Below w.heap.size w W)=>show Calls Tryz.prog 19 #[.slice A nl c,.slice A1 na c1] W fun e w'=>∃ v',e=.returned v'∧w'.ownsRow W.heap.size 48 3 v' oc.length (rowsP oc)∧Below W.heap.size W w' from by
  have:=rof_any A nl c l off HNL.out (by omega) HF.out (fun x hx=>(HFX.out x hx).2.1) (fun x hx=>(HF50.out x hx).2) HACC.out A1 na c1 ta o1 HNA.out (by omega) HC1.out hft hch W ((HV.out.below hW).mono hW.size) ((HAR.out.below hW).mono hW.size)
  rw[HOP.out]at this
  exact this)
 have HOL:=Lib.hid (show oc.length≤1000∧sc.length≤1000∧wp.length≤1000 from by
  have h1:=of_len l ta
  have h2:(spellN l ta).length≤4 * ta.length:=spell_len l _ _ _ _
  rw[HOP.out,HNA.out]at h1
  rw[HSP.out,HNA.out]at h2
  refine⟨by omega,by omega,?_⟩
  cases hw:wordP l ta with
  | none=>have:=HWP.out;rw[hw]at this;rw[← this];decide
  | some p =>
   have:=HWP.out
   rw[hw]at this
   have e:ofP l ta=p:=by unfold ofP;rw[hw]
   rw[← this]
   show p.length≤1000
   rw[← e,HOP.out]
   omega)
 have hbb:(ob != ob)=false:=bne_self_eq_false ob
 clear hch hft
 go_wp2_with fail
 refine(HRW.out _ HB.out).mono ?_
 rintro e w_11 ⟨vw,rfl,hown,hb⟩
 have HB:=Lib.hid (chain HB.out HB.out.size hb)
 have HRT:=Lib.hid ((HRT.out.below hb).mono hb.size)
 have HRP:=Lib.hid ((HRP.out.below hb).mono hb.size)
 have HRQ:=Lib.hid ((HRQ.out.below hb).mono hb.size)
 have HRR:=Lib.hid ((HRR.out.below hb).mono hb.size)
 have HXW:=Lib.hid (readsQ_own rfl hown)
 obtain⟨Aw,cw,rfl,-,-,-⟩:=own_formR hown
 clear hown hb
 go_wp2_with fail
 refine(rsame12_yes _ _ _ 0 0 (by rw[List.length_map];have:=HOL.out;omega) _ _ _ HRQ.out HXW.out).mono ?_
 rintro e w_12 ⟨rfl,m_12,hw_12⟩
 have hb:Below w_11.heap.size w_11 w_12:=by rw[hw_12];exact Ba.below_drewN (Below.refl _ _) _
 clear hw_12
 have HB:=Lib.hid (chain HB.out HB.out.size hb)
 have HRT:=Lib.hid ((HRT.out.below hb).mono hb.size)
 have HRP:=Lib.hid ((HRP.out.below hb).mono hb.size)
 have HRQ:=Lib.hid ((HRQ.out.below hb).mono hb.size)
 have HRR:=Lib.hid ((HRR.out.below hb).mono hb.size)
 have HXW:=Lib.hid ((HXW.out.below hb).mono hb.size)
 clear hb
 go_wp2_with fail
 refine(HRS.out _ HB.out).mono ?_
 rintro e w_13 ⟨vs,rfl,hown,hb⟩
 have HB:=Lib.hid (chain HB.out HB.out.size hb)
 have HRT:=Lib.hid ((HRT.out.below hb).mono hb.size)
 have HRP:=Lib.hid ((HRP.out.below hb).mono hb.size)
 have HRQ:=Lib.hid ((HRQ.out.below hb).mono hb.size)
 have HRR:=Lib.hid ((HRR.out.below hb).mono hb.size)
 have HXW:=Lib.hid ((HXW.out.below hb).mono hb.size)
 have HXS:=Lib.hid (readsQ_own rfl hown)
 obtain⟨As,cs,rfl,-,-,-⟩:=own_formR hown
 clear hown hb
 go_wp2_with fail
 refine(rsame12_yes _ _ _ 0 0 (by rw[List.length_map];have:=HOL.out;omega) _ _ _ HRR.out HXS.out).mono ?_
 rintro e w_14 ⟨rfl,m_14,hw_14⟩
 have hb:Below w_13.heap.size w_13 w_14:=by rw[hw_14];exact Ba.below_drewN (Below.refl _ _) _
 clear hw_14
 have HB:=Lib.hid (chain HB.out HB.out.size hb)
 have HRT:=Lib.hid ((HRT.out.below hb).mono hb.size)
 have HRP:=Lib.hid ((HRP.out.below hb).mono hb.size)
 have HRQ:=Lib.hid ((HRQ.out.below hb).mono hb.size)
 have HRR:=Lib.hid ((HRR.out.below hb).mono hb.size)
 have HXW:=Lib.hid ((HXW.out.below hb).mono hb.size)
 have HXS:=Lib.hid ((HXS.out.below hb).mono hb.size)
 clear hb
 go_wp2_with fail
 refine(HRO.out _ HB.out).mono ?_
 rintro e w_15 ⟨vx,rfl,hown,hb⟩
 have HB:=Lib.hid (chain HB.out HB.out.size hb)
 have HRT:=Lib.hid ((HRT.out.below hb).mono hb.size)
 have HRP:=Lib.hid ((HRP.out.below hb).mono hb.size)
 have HRQ:=Lib.hid ((HRQ.out.below hb).mono hb.size)
 have HRR:=Lib.hid ((HRR.out.below hb).mono hb.size)
 have HXW:=Lib.hid ((HXW.out.below hb).mono hb.size)
 have HXS:=Lib.hid ((HXS.out.below hb).mono hb.size)
 have HXO:=Lib.hid (readsQ_own rfl hown)
 obtain⟨Ax,cx,rfl,-,-,-⟩:=own_formR hown
 clear hown hb
 go_wp2_with fail
 refine(rsame12_yes _ _ _ 0 0 (by rw[List.length_map];have:=HOL.out;omega) _ _ _ HRP.out HXO.out).mono ?_
 rintro e w_16 ⟨rfl,m_16,hw_16⟩
 have hb:Below w_15.heap.size w_15 w_16:=by rw[hw_16];exact Ba.below_drewN (Below.refl _ _) _
 clear hw_16
 have HB:=Lib.hid (chain HB.out HB.out.size hb)
 have HRT:=Lib.hid ((HRT.out.below hb).mono hb.size)
 have HRP:=Lib.hid ((HRP.out.below hb).mono hb.size)
 have HRQ:=Lib.hid ((HRQ.out.below hb).mono hb.size)
 have HRR:=Lib.hid ((HRR.out.below hb).mono hb.size)
 have HXW:=Lib.hid ((HXW.out.below hb).mono hb.size)
 have HXS:=Lib.hid ((HXS.out.below hb).mono hb.size)
 have HXO:=Lib.hid ((HXO.out.below hb).mono hb.size)
 clear hb
 go_wp2_with fail
 go_loopw [25] (fun i wr=>∃ k:Nat,i=.int .i64 (k:Int)∧k≤na∧ReadsT 0 wr wr.heap.size (.slice Ao na co) ta∧Below w.heap.size w wr) (fun i _=>na - (intOf i).toNat)
 case atStart=>exact⟨0,rfl,Nat.zero_le _,HRT.out,HB.out⟩
 case round =>
  obtain⟨k,rfl,hk,hrt,hBr⟩:=hrel
  have HBR:=Lib.hid hBr
  have HRT:=Lib.hid hrt
  clear hrt hBr
  by_cases hlt:k<na
  ·obtain⟨x,hx⟩:∃ x,ta[k]?=some x:=⟨_,List.getElem?_eq_getElem (by rw[HNA.out];exact hlt)⟩
   obtain⟨A',c',e,hA⟩:=HRT.out
   injection e with e1 e2 e3
   subst e1
   obtain⟨g,rfl,-,hcell⟩:=hA (by rw[HNA.out];omega)
   obtain⟨x0,x1,x2⟩:=tcell hcell k x hx
   obtain⟨A'',c'',e',hA'⟩:=HAR.out.below HBR.out
   injection e' with e1' e2' e3'
   subst e1'
   obtain⟨g',rfl,-,hcell'⟩:=hA' (by rw[HNA.out];omega)
   obtain⟨u0,u1,u2⟩:=tcell hcell' k x hx
   rw[Nat.zero_add]at x0 x1 x2
   obtain⟨xk,xc,xp⟩:=x
   simp only[]at x0 x1 x2 u0 u1 u2
   have d0:decide ((k:Int)<(na:Int))=true:=decide_eq_true (by omega)
   have d0':decide (k<na)=true:=decide_eq_true hlt
   have k0:(0:Int)≤(k:Int):=by omega
   have k1:(k:Int)<(na:Int):=by omega
   clear hx hA hcell hA' hcell' e2 e3 e2' e3'
   go_wp2
   go_quiet (fail)
   go_wp2
   go_roundw
   case rel=>exact⟨k+1,by go_num,by omega,(HRT.out.below (Ba.below_drewN (Below.refl wr.heap.size wr) _)).mono (Ba.below_drewN (Below.refl wr.heap.size wr) _).size,Ba.below_drewN HBR.out _⟩
   case measure=>simp[intOf];omega
  ·have hkm:k=na:=by omega
   have d0:decide ((k:Int)<(na:Int))=false:=decide_eq_false (by omega)
   have d0':decide (k<na)=false:=decide_eq_false hlt
   clear hkm
   go_wp2_with fail
   refine(HAW.out _ (HL.out.kept HBR.out)).mono ?_
   rintro e w9 ⟨rfl,hb9⟩
   have HE9:=Lib.hid (chain HBR.out HBR.out.size hb9)
   clear hb9
   go_wp2
   go_ret
   exact⟨rfl,HE9.out⟩
end Go.Proofs.YtlgejmcihchngaaGreatDoor.Cu
