/-
  ChunkApart, whatever it is called with.
-/
import Derived.Test.YtlgejmcihchngaaGreatDoorUd
import Derived.Test.YtlgejmcihchngaaGreatDoorUa
import Derived.Test.YtlgejmcihchngaaGreatDoorUb
namespace Go.Proofs.YtlgejmcihchngaaGreatDoor.Cu
open Go.RowKit Ba Ru Ck Ti Pa Fl
theorem of_len (l:List Rl) (t:List Tk):(ofP l t).length≤4 * t.length+2:=by
 have hs:(spellN l t).length≤4 * t.length:=spell_len l _ _ _ _
 unfold ofP
 cases hw:wordP l t with
 | none =>
  dsimp only
  split
  ·rw[List.length_cons];omega
  ·omega
 | some p =>
  dsimp only
  unfold wordP at hw
  split at hw
  ·split at hw
   ·cases hw
   ·split at hw
    ·injection hw with hw;rw[← hw];simp
    ·injection hw with hw;rw[← hw];simp
    ·injection hw with hw;rw[← hw];simp
    ·cases hw
  ·cases hw
theorem cellsP_lt {l:List Rl} (hf:∀ x ∈ l,FitR x) (p:List Pc):∀ x ∈ cellsP l p,x<256:=fun z hz=>by
 unfold cellsP at hz
 split at hz
 ·obtain⟨q,-,hq⟩:=List.mem_flatMap.1 hz
  cases ho:l[q.rule]? with
  | none=>rw[ho]at hq;cases hq
  | some y =>
   rw[ho]at hq
   exact(hf y (List.mem_of_getElem? ho)).2.2.2.2.1 z hq
 ·cases hz
theorem apart_iff {l:List Rl} (A:Acc prC l) {a b:List Tk} (ha:chunkB a=true) (hb:chunkB b=true):cellsP l (ofP l a)=cellsP l (ofP l b)↔a.map bare=b.map bare:=by
 constructor
 ·intro h
  rw[cells_valid (of_valid A ha),cells_valid (of_valid A hb)]at h
  exact of_apart A (acc_cells A) ha hb h
 ·intro h
  rw[bare_of l h]
set_option maxRecDepth 100000 in
set_option maxHeartbeats 16000000 in
theorem apart_row (T:TLands) (Q:QLands T) (l:List Rl) (A:Option Addr) (off c:Nat) (ta:List Tk) (A1:Option Addr) (o1 c1:Nat) (tb:List Tk) (A2:Option Addr) (o2 c2:Nat) (w:World) (hL:Laid9 w) (hcl:l.length≤c) (hcm:c≤maxLen) (hf:∀ x ∈ l,FitR x) (hl:ReadsR off w w.heap.size (.slice A l.length c) l)
  (_ha1:ta.length≤c1) (_ha2:c1≤maxLen) (haf:FitT ta) (har:ReadsT o1 w w.heap.size (.slice A1 ta.length c1) ta) (_hb1:tb.length≤c2) (_hb2:c2≤maxLen) (hbf:FitT tb) (hbr:ReadsT o2 w w.heap.size (.slice A2 tb.length c2) tb) :
  Calls Tryz.prog 6 #[.slice A l.length c,.slice A1 ta.length c1,.slice A2 tb.length c2] w fun e w'=>e=.returned (.bool true)∧Below w.heap.size w w':=by
 have HAF:=Lib.hid haf
 have HAR:=Lib.hid har
 have HBF:=Lib.hid hbf
 have HBR:=Lib.hid hbr
 clear haf har hbf hbr
 obtain⟨na,hna⟩:∃ n,ta.length=n:=⟨_,rfl⟩
 obtain⟨nb,hnb⟩:∃ n,tb.length=n:=⟨_,rfl⟩
 rw[hna]at HAR ⊢
 rw[hnb]at HBR ⊢
 have HNA:=Lib.hid hna
 have HNB:=Lib.hid hnb
 have HCA:=Lib.hid (capsR_lit (A:=A1) (show na≤c1 from hna▸_ha1) _ha2)
 have HCB:=Lib.hid (capsR_lit (A:=A2) (show nb≤c2 from hnb▸_hb1) _hb2)
 clear hna hnb
 have HL:=Lib.hid hL
 have HV:=Lib.hid hl
 have hlm:l.length≤maxLen:=Nat.le_trans hcl hcm
 have HF:=Lib.hid hf
 have HCAP:=Lib.hid (show CapsR (.slice A l.length c) from fun A' n' c' e=>by
  injection e with _ e1 e2
  subst e1;subst e2
  exact⟨hcl,hcm⟩)
 clear hL hl hf hcm hcl
 obtain⟨nl,hnl⟩:∃ nl,l.length=nl:=⟨_,rfl⟩
 rw[hnl]at HV HCAP hlm ⊢
 have HNL:=Lib.hid hnl
 clear hnl
 obtain⟨lb,hlb⟩:∃ lb,long9 l=lb:=⟨_,rfl⟩
 have HLB:=Lib.hid hlb
 clear hlb
 have HAW:=Lib.hid (fun(W:World) hW=>awake12 T Q W hW)
 go_enter Tryz.func6,Tryz.ntmps6
 cases lb
 case true =>
  go_wp2_with fail
  refine(long12_at _ l off (by rw[HNL.out];exact hlm) _ _ HV.out true HLB.out).mono ?_
  rintro e w' ⟨rfl,hw'⟩
  have hw':=hw'.symm
  subst hw'
  go_wp2_with fail
  refine(HAW.out _ HL.out).mono ?_
  rintro e w9 ⟨rfl,hb9⟩
  go_wp2
  go_ret
  exact⟨rfl,hb9⟩
 case false =>
 obtain⟨hl5,hl50⟩:=not_long9 HLB.out
 rw[HNL.out]at hl5
 have HFX:=Lib.hid (show FitL l from fun x hx=>⟨HF.out x hx,by have:=(hl50 x hx).1;omega,by have:=(hl50 x hx).2;omega⟩)
 have HF50:=Lib.hid (show ∀ x ∈ l,x.left.length≤50∧x.cells.length≤50 from hl50)
 clear hl50
 go_wp2_with fail
 refine(long12_at _ l off (by rw[HNL.out];exact hlm) _ _ HV.out false HLB.out).mono ?_
 rintro e w' ⟨rfl,hw'⟩
 have hw':=hw'.symm
 subst hw'
 by_cases h40:40<na
 ·have tb1:decide (40<(na:Int))=true:=decide_eq_true (by omega)
  have tb2:decide (40<na)=true:=decide_eq_true h40
  go_wp2_with fail
  refine(HAW.out _ HL.out).mono ?_
  rintro e w9 ⟨rfl,hb9⟩
  go_wp2
  go_ret
  exact⟨rfl,hb9⟩
 have tb1:decide (40<(na:Int))=false:=decide_eq_false (by omega)
 have tb2:decide (40<na)=false:=decide_eq_false h40
 by_cases g40:40<nb
 ·have tb3:decide (40<(nb:Int))=true:=decide_eq_true (by omega)
  have tb4:decide (40<nb)=true:=decide_eq_true g40
  go_wp2_with fail
  refine(HAW.out _ HL.out).mono ?_
  rintro e w9 ⟨rfl,hb9⟩
  go_wp2
  go_ret
  exact⟨rfl,hb9⟩
 have tb3:decide (40<(nb:Int))=false:=decide_eq_false (by omega)
 have tb4:decide (40<nb)=false:=decide_eq_false g40
 go_wp2_with fail
 refine(T.new _ l off (by rw[HNL.out];omega) HFX.out HCAP.out _ HL.out HV.out).mono ?_
 rintro e w1 ⟨hb1,h1⟩
 obtain⟨z,y,hr⟩:∃ z y,tableR prC l=(z,y):=⟨_,_,rfl⟩
 have HR:=Lib.hid hr
 rw[hr]at h1
 have HB1:=Lib.hid hb1
 clear hb1 hr
 rcases h1 with⟨hy,t,rfl,his⟩ | ⟨hy,rfl⟩
 rotate_left
 ·have y1:((y:Int)==0)=false:=beq_eq_false_iff_ne.2 (by have:y≠0:=hy;omega)
  have y3:((y:Int) != 0)=true:=bne_iff_ne.2 (by have:y≠0:=hy;omega)
  clear hy
  go_wp2_with fail
  refine(HAW.out _ (HL.out.kept HB1.out)).mono ?_
  rintro e w9 ⟨rfl,hb9⟩
  have HE9:=Lib.hid (chain HB1.out HB1.out.size hb9)
  clear hb9
  go_wp2
  go_ret
  exact⟨rfl,HE9.out⟩
 have hy:y=0:=hy
 subst hy
 have HACC:=Lib.hid ((table_acc l).1 (by rw[HR.out]))
 obtain⟨⟨a,rfl⟩,-⟩:=T.ptr his
 have hlen:l.length≤1000:=by rw[HNL.out];omega
 have HL1:=Lib.hid (HL.out.kept HB1.out)
 have HV1:=Lib.hid ((HV.out.below HB1.out).mono HB1.out.size)
 have HOF:=Lib.hid (show ∀ (v:Value) (t:List Tk) (o:Nat),t.length≤1000→FitT t→CapsR v→∀ W:World,Below w1.heap.size w1 W→ReadsT o W W.heap.size v t→Calls Tryz.prog 13 #[.pointer (some a),v] W fun e w'=>∃ v',e=.returned (.tuple #[v',.int .i64 (errC t)])∧w'.ownsRow W.heap.size 48 3 v' (ofC l t).length (rowsP (ofC l t))∧Below W.heap.size W w' from fun v t o h1 h2 hc W hW hr =>
  Q.of v t o h1 h2 hc hlen HACC.out HFX.out W (HL1.out.kept hW) (T.keep his (Kept.of_below hW (Nat.le_refl _))) hr)
 have HCE:=Lib.hid (show ∀ (v:Value) (t:List Tk),t.length≤40→chunkB t=true→∀ W:World,Below w1.heap.size w1 W→ReadsQ 0 W W.heap.size v ((ofP l t).map Pc.q)→Calls Tryz.prog 20 #[.pointer (some a),v] W fun e w'=>e=.returned (.string (bytesOf (cellsP l (ofP l t))))∧Below W.heap.size W w' from fun v t h1 hc W hW hr=>by
  have hlt:=of_len l t
  have h:=Q.cells v ((ofP l t).map Pc.q) 0 (by rw[List.length_map];omega) (fun x hx=>by
   obtain⟨p,hp,rfl⟩:=List.mem_map.1 hx
   have:=of_valid HACC.out hc p hp
   show I64 (p.rule:Int)
   unfold I64
   omega) hlen HACC.out HFX.out W (HL1.out.kept hW) (T.keep his (Kept.of_below hW (Nat.le_refl _))) hr
  rw[cellsQ_q]at h
  exact h)
 clear his hlen
 have HOA:=Lib.hid (HOF.out _ ta o1 (by rw[HNA.out];omega) HAF.out HCA.out w1 (Below.refl _ _) ((HNA.out▸HAR.out.below HB1.out:ReadsT o1 w1 w.heap.size (.slice A1 na c1) ta).mono HB1.out.size))
 go_wp2_with fail
 refine HOA.out.mono ?_
 rintro e w2 ⟨v2,rfl,hown2,hb2⟩
 have HB2:=Lib.hid hb2
 have HOW2:=Lib.hid hown2
 have HOB:=Lib.hid (HOF.out _ tb o2 (by rw[HNB.out];omega) HBF.out HCB.out w2 hb2 ((HBR.out.below (chain HB1.out HB1.out.size hb2)).mono (Nat.le_trans HB1.out.size hb2.size)))
 clear hown2 hb2
 go_wp2_with fail
 refine HOB.out.mono ?_
 rintro e w3 ⟨v3,rfl,hown3,hb3⟩
 have HB3:=Lib.hid (chain HB2.out HB2.out.size hb3)
 have HOW3:=Lib.hid hown3
 have HKA:=Lib.hid (own_below HOW2.out hb3)
 have HE3:=Lib.hid (chain HB1.out HB1.out.size HB3.out)
 clear hown3 hb3
 obtain⟨fa,hfa⟩:∃ f,errC ta=f:=⟨_,rfl⟩
 obtain⟨fb,hfb⟩:∃ f,errC tb=f:=⟨_,rfl⟩
 rw[hfa,hfb]
 unfold errC at hfa hfb
 cases hca:chunkB ta
 case false =>
  rw[hca,if_neg Bool.false_ne_true]at hfa
  subst hfa
  clear hfb
  go_wp2_with fail
  refine(HAW.out _ (HL.out.kept HE3.out)).mono ?_
  rintro e w9 ⟨rfl,hb9⟩
  have HE9:=Lib.hid (chain HE3.out HE3.out.size hb9)
  clear hb9
  go_wp2
  go_ret
  exact⟨rfl,HE9.out⟩
 case true =>
 rw[hca,if_pos rfl]at hfa
 subst hfa
 cases hcb:chunkB tb
 case false =>
  rw[hcb,if_neg Bool.false_ne_true]at hfb
  subst hfb
  go_wp2_with fail
  refine(HAW.out _ (HL.out.kept HE3.out)).mono ?_
  rintro e w9 ⟨rfl,hb9⟩
  have HE9:=Lib.hid (chain HE3.out HE3.out.size hb9)
  clear hb9
  go_wp2
  go_ret
  exact⟨rfl,HE9.out⟩
 case true =>
 rw[hcb,if_pos rfl]at hfb
 subst hfb
 have HRA:=Lib.hid (show ReadsQ 0 w3 w3.heap.size v2 ((ofP l ta).map Pc.q) from by
  have h:=HKA.out
  unfold ofC at h
  rw[if_pos hca]at h
  exact readsQ_own rfl h)
 have HRB:=Lib.hid (show ReadsQ 0 w3 w3.heap.size v3 ((ofP l tb).map Pc.q) from by
  have h:=HOW3.out
  unfold ofC at h
  rw[if_pos hcb]at h
  exact readsQ_own rfl h)
 have HIFF:=Lib.hid (apart_iff HACC.out hca hcb)
 have HCA:=Lib.hid (HCE.out v2 ta (by rw[HNA.out];omega) hca w3 HB3.out HRA.out)
 have HCB:=Lib.hid (fun(W:World) (hW:Below w3.heap.size w3 W)=>HCE.out v3 tb (by rw[HNB.out];omega) hcb W (chain HB3.out HB3.out.size hW) ((HRB.out.below hW).mono hW.size))
 have hinj:∀ {p q:List Pc},bytesOf (cellsP l p)=bytesOf (cellsP l q)→cellsP l p=cellsP l q:=fun {p q} h=>by
  have:=congrArg bytesN h
  rwa [bytesN_bytesOf _ (cellsP_lt HF.out p),bytesN_bytesOf _ (cellsP_lt HF.out q)]at this
 obtain⟨r,hr⟩:∃ r,decide (ta.map bare=tb.map bare)=r:=⟨_,rfl⟩
 have HTO:=Lib.hid (fun(W:World) (hW:Below w.heap.size w W)=>rtoks_any _ _ ta tb o1 o2 (by rw[HNA.out];omega) (by rw[HNB.out];omega) W _ _ (HAR.out.below hW) (HBR.out.below hW) r hr)
 have HEQ:=Lib.hid (show bytesOf (cellsP l (ofP l ta))=bytesOf (cellsP l (ofP l tb))↔r=true from by
  rw[← hr,decide_eq_true_eq,← HIFF.out]
  exact⟨hinj,fun h=>by rw[h]⟩)
 obtain⟨U,hU⟩:∃ U,bytesOf (cellsP l (ofP l ta))=U:=⟨_,rfl⟩
 obtain⟨V,hV⟩:∃ V,bytesOf (cellsP l (ofP l tb))=V:=⟨_,rfl⟩
 rw[hU]at HCA HEQ
 rw[hV]at HCB HEQ
 clear hinj hr hU hV hca hcb
 go_wp2_with fail
 refine HCA.out.mono ?_
 rintro e w4 ⟨rfl,hb4⟩
 have HB4:=Lib.hid hb4
 clear hb4
 go_wp2_with fail
 refine(HCB.out _ HB4.out).mono ?_
 rintro e w5 ⟨rfl,hb5⟩
 have HB5:=Lib.hid (chain HE3.out HE3.out.size (chain HB4.out HB4.out.size hb5))
 clear hb5
 cases r
 case false =>
  have hne:(U.toList==V.toList)=false:=Ba.toList_ne (fun e=>Bool.false_ne_true (HEQ.out.1 e))
  go_wp2_with fail
  refine(HTO.out _ HB5.out).mono ?_
  rintro e w6 ⟨rfl,n6,rfl⟩
  have HB6:=Lib.hid (Ba.below_drewN HB5.out n6)
  go_wp2_with fail
  refine(HAW.out _ (HL.out.kept HB6.out)).mono ?_
  rintro e w9 ⟨rfl,hb9⟩
  have HE9:=Lib.hid (chain HB6.out HB6.out.size hb9)
  clear hb9
  go_wp2
  go_ret
  exact⟨rfl,HE9.out⟩
 case true =>
  obtain rfl:U=V:=HEQ.out.2 rfl
  have hne:(U.toList==U.toList)=true:=by simp
  go_wp2_with fail
  refine(HTO.out _ HB5.out).mono ?_
  rintro e w6 ⟨rfl,n6,rfl⟩
  have HB6:=Lib.hid (Ba.below_drewN HB5.out n6)
  go_wp2_with fail
  refine(HAW.out _ (HL.out.kept HB6.out)).mono ?_
  rintro e w9 ⟨rfl,hb9⟩
  have HE9:=Lib.hid (chain HB6.out HB6.out.size hb9)
  clear hb9
  go_wp2
  go_ret
  exact⟨rfl,HE9.out⟩
end Go.Proofs.YtlgejmcihchngaaGreatDoor.Cu
