/-
  The landed tree's checker: end, leaveAt.
-/
import Derived.Test.YtmldpkigfhoalaaGreatDoorVm
import Derived.Test.YtmldpkigfhoalaaGreatDoorTrD
namespace Go.Proofs.YtmldpkigfhoalaaGreatDoor.Tr
open Go.RowKit
structure ChM (w:World) (N P M n L:Nat) (o:St) (v:Value) (off g:Nat) (t:List Nd):Prop where
 op:OpM w N P M n L o
 c5:w.cell? ⟨P,5,none⟩=some v
 rd:∀ k x,t[k]?=some x→w.cell? ⟨g,off+k * 4,none⟩=some (.int .u8 (x.kind:Int))∧w.cell? ⟨g,off+k * 4+1,none⟩=some (.string x.text)∧w.cell? ⟨g,off+k * 4+2,none⟩=some (.int .i64 x.place)∧w.cell? ⟨g,off+k * 4+3,none⟩=some (.int .i64 x.size)
 gw:g<w.heap.size
 gP:g≠P
 gL:g≠L
theorem ChM.next {w w':World} {N P M n L L' off g:Nat} {o o':St} {v:Value} {t:List Nd} (h:ChM w N P M n L o v off g t) (h':OpM w' N P M n L' o') (hf:Fr P L w w') (hL:L'=L∨w.heap.size≤L'):ChM w' N P M n L' o' v off g t:=by
 have hb:=hf.block g h.gw h.gP h.gL
 have hc:∀ i,w'.cell? ⟨g,i,none⟩=w.cell? ⟨g,i,none⟩:=fun i=>World.cell?_of_block (w:=w) hb
 refine ⟨h',(hf.tail 5 (by omega)).trans h.c5,fun k x hx=>?_,Nat.lt_of_lt_of_le h.gw hf.size,h.gP,?_⟩
 ·obtain ⟨a,b,c,d⟩:=h.rd k x hx
  exact ⟨(hc _).trans a,(hc _).trans b,(hc _).trans c,(hc _).trans d⟩
 ·have:=h.gL;have:=h.gw
  rcases hL with e | e<;>omega
theorem ChM.of_heap {w w':World} {N P M n L off g:Nat} {o:St} {v:Value} {t:List Nd} (h:ChM w N P M n L o v off g t) (hh:w'.heap=w.heap):ChM w' N P M n L o v off g t:=by
 have hc:∀ a,w'.cell? a=w.cell? a:=fun a=>World.cell?_of_block (by rw [hh])
 refine ⟨h.op.of_heap hh,(hc _).trans h.c5,fun k x hx=>?_,by rw [hh];exact h.gw,h.gP,h.gL⟩
 obtain ⟨a,b,c,d⟩:=h.rd k x hx
 exact ⟨(hc _).trans a,(hc _).trans b,(hc _).trans c,(hc _).trans d⟩
theorem ChM.below {w w':World} {N P M n L off g:Nat} {o:St} {v:Value} {t:List Nd} (h:ChM w N P M n L o v off g t) (hb:Below w.heap.size w w'):ChM w' N P M n L o v off g t :=
 h.next (h.op.below hb) (Fr.of_below hb h.op.ltP) (.inl rfl)
def endS (t:List Nd) (o:St):Int:=if o.lv.length≤1 then (t.length:Int) else ((topL o.lv).start:Int)+(t.getD (topL o.lv).start ⟨0,emptyS,0,0⟩).size
set_option maxHeartbeats 4000000 in
theorem end_at {w:World} {N P M n L off g c:Nat} {o:St} {A:Option Addr} {t:List Nd} (h:ChM w N P M n L o (.slice A t.length c) off g t) (hA:0<t.length→A=some ⟨g,off,none⟩) (hl:t.length≤9000)
  (hst:1<o.lv.length→∃ x,t[(topL o.lv).start]?=some x∧0≤x.size∧x.size≤9000) (z:Int) (hz:endS t o=z) :
  Calls Tryz.prog 52 #[.pointer (some ⟨P,0,none⟩)] w fun e w'=>e=.returned (.int .i64 z)∧∃ j,w'=w.drewN j:=by
 have H:=Lib.hid h
 have c5:=h.c5
 by_cases h1:1<o.lv.length
 ·have HI:=Lib.hid (show decide (1<o.lv.length)=true from decide_eq_true h1)
  obtain ⟨x,hx,x0,x9⟩:=hst h1
  obtain ⟨m,hm⟩:=h.op.len
  obtain ⟨b,hb⟩:=some_at (l:=o.lv) (i:=m) (by omega)
  have hT:topL o.lv=b:=by unfold topL;rw [hm,Nat.add_sub_cancel];exact getD_of hb
  obtain ⟨s,hs⟩:∃ s,b.start=s:=⟨_,rfl⟩
  rw [hT,hs] at hx
  have hlt:=(List.getElem?_eq_some_iff.1 hx).1
  obtain ⟨q,hq⟩:∃ q,x.size=q:=⟨_,rfl⟩
  have HZ:=Lib.hid (show (s:Int)+q=z by rw [← hz];unfold endS;rw [if_neg (by omega),hT,hs,getD_of hx,hq])
  rw [hq] at x0 x9
  obtain ⟨-,-,-,d3⟩:=h.rd s x hx
  rw [hq] at d3
  have HM:=Lib.hid hm
  have HB:=Lib.hid hb
  have HS:=Lib.hid hs
  obtain rfl:=hA (by omega)
  have j0:(0:Int)≤(s:Int):=by omega
  have j1:(s:Int)<(t.length:Int):=by omega
  clear h hst hz hm hb hT hs hx hq h1 hA
  go_enter Tryz.func52,Tryz.ntmps52
  go_wp2_with (first
   |(go_at_call 44;refine (inside_at H.out.op true HI.out).mono ?_;rintro e w' ⟨rfl,rfl⟩)
   |(go_at_call 76;refine (top_at H.out.op m HM.out).mono ?_;rintro e w' ⟨rfl,j,rfl⟩;have b1:=((H.out.op.drewN j).at HB.out).2.1;rw [HS.out] at b1))
  go_ret
  exact ⟨Ba.ret_int HZ.out,_,rfl⟩
 ·have HI:=Lib.hid (show decide (1<o.lv.length)=false from decide_eq_false h1)
  have HZ:=Lib.hid (show (t.length:Int)=z by rw [← hz];unfold endS;rw [if_pos (by omega)])
  clear h hst hz h1
  go_enter Tryz.func52,Tryz.ntmps52
  go_wp2_with (first
   |(go_at_call 44;refine (inside_at H.out.op false HI.out).mono ?_;rintro e w' ⟨rfl,rfl⟩))
  go_ret
  exact ⟨Ba.ret_int HZ.out,0,rfl⟩
def leaveF (t:List Nd) (z:Int):Nat→St→Option St
 | 0,o=>some o
 | f+1,o=>if 1<o.lv.length∧endS t o=z then (if leaveB o=true then leaveF t z f (leaveS o) else none) else some o
theorem leaveS_len (o:St) (h:1<o.lv.length):(leaveS o).lv.length=o.lv.length - 1:=by
 unfold leaveS
 simp only []
 split
 ·rw [List.length_modify,List.length_take];omega
 ·rw [List.length_take];omega
def lenAt (P:Nat) (w:World):Nat:=match w.cell? ⟨P,1,none⟩ with | some (.slice _ k _)=>k | _=>0
theorem OpM.lenAt {w:World} {N P M n L:Nat} {o:St} (h:OpM w N P M n L o):lenAt P w=o.lv.length:=by
 obtain ⟨cap,r,_⟩:=h.row
 unfold Tr.lenAt
 rw [r]
def stL (l:List Lv):List Nat:=(l.drop 1).map (·.start)
theorem stL_leave (o:St):∀ s ∈ stL (leaveS o).lv,s ∈ stL o.lv:=by
 have e:∀ l:List Lv,stL l=(l.map (·.start)).drop 1:=fun l=>by unfold stL;rw [List.map_drop]
 have hm:(leaveS o).lv.map (·.start)=(o.lv.map (·.start)).take (o.lv.length - 1):=by
  unfold leaveS
  simp only []
  split
  ·rw [← List.map_take]
   apply List.ext_getElem?
   intro i
   rw [List.getElem?_map,List.getElem?_map,List.getElem?_modify]
   cases (List.take (o.lv.length - 1) o.lv)[i]? with
   | none=>rfl
   | some x =>
    by_cases h:o.lv.length - 2=i<;>simp [h,withCols]
  ·rw [List.map_take]
 intro s hs
 rw [e,hm] at hs
 rw [e]
 rw [List.drop_take] at hs
 exact List.mem_of_mem_take hs
theorem stL_top {o:St} (h:1<o.lv.length):(topL o.lv).start ∈ stL o.lv:=by
 unfold stL topL
 rw [List.mem_map]
 refine ⟨_,?_,rfl⟩
 rw [List.mem_iff_getElem?]
 refine ⟨o.lv.length - 2,?_⟩
 rw [List.getElem?_drop,show 1+(o.lv.length - 2)=o.lv.length - 1 from by omega,List.getD_eq_getElem?_getD,List.getElem?_eq_getElem (by omega)];rfl
theorem leaveF_stop {t:List Nd} {z:Int} {o:St} (h0:0<o.lv.length) (h:¬ (1<o.lv.length∧endS t o=z)):leaveF t z o.lv.length o=some o:=by
 obtain ⟨f,hf⟩:∃ f,o.lv.length=f+1:=⟨o.lv.length - 1,by omega⟩
 conv=>lhs;arg 3;rw [hf]
 unfold leaveF
 rw [if_neg h]
theorem leaveF_go {t:List Nd} {z:Int} {o:St} (h1:1<o.lv.length) (h:endS t o=z):leaveF t z o.lv.length o=if leaveB o=true then leaveF t z (leaveS o).lv.length (leaveS o) else none:=by
 rw [leaveS_len o h1]
 obtain ⟨f,hf⟩:∃ f,o.lv.length=f+1:=⟨o.lv.length - 1,by omega⟩
 conv=>lhs;arg 3;rw [hf]
 rw [show o.lv.length - 1=f from by omega]
 conv=>lhs;unfold leaveF
 rw [if_pos ⟨h1,h⟩]
set_option maxHeartbeats 8000000 in
theorem leaveAt_at {w:World} {N P M n L off g c:Nat} {o:St} {A:Option Addr} {t:List Nd} (h:ChM w N P M n L o (.slice A t.length c) off g t) (hA:0<t.length→A=some ⟨g,off,none⟩) (hl:t.length≤9000) (z:Int)
  (hst:∀ s ∈ stL o.lv,∃ x,t[s]?=some x∧0≤x.size∧x.size≤9000) (r:Option St) (hr:leaveF t z o.lv.length o=r) :
  Calls Tryz.prog 25 #[.pointer (some ⟨P,0,none⟩),.int .i64 z] w fun e w'=>e=.returned (.bool r.isSome)∧Below N w w' ∧
   ∀ o',r=some o'→ChM w' N P M n L o' (.slice A t.length c) off g t∧Fr P L w w':=by
 have H:=Lib.hid h
 have HST:=Lib.hid hst
 have HR:=Lib.hid hr
 have hLe:=h.op.leP
 have hLl:=h.op.ltL.2
 have hNw:=h.op.leN
 clear h hst hr
 go_enter Tryz.func25,Tryz.ntmps25
 go_wp2
 go_loopw [8] (fun _ wr=>∃ o',ChM wr N P M n L o' (.slice A t.length c) off g t∧Fr P L w wr∧(∀ s ∈ stL o'.lv,∃ x,t[s]?=some x∧0≤x.size∧x.size≤9000)∧leaveF t z o'.lv.length o'=r) (fun _ wr=>lenAt P wr)
 case atStart=>exact ⟨o,H.out,Fr.refl _ _ _,HST.out,HR.out⟩
 case round =>
  obtain ⟨o',h',hf,hs,hr⟩:=hrel
  have hlen:=h'.op.lenAt
  have hpos:=h'.op.pos
  by_cases h1:1<o'.lv.length
  ·have HI:=Lib.hid (show decide (1<o'.lv.length)=true from decide_eq_true h1)
   obtain ⟨q,hq⟩:∃ q,endS t o'=q:=⟨_,rfl⟩
   have HE:=Lib.hid (end_at h' hA hl (fun _=>hs _ (stL_top h1)) q hq)
   by_cases hz:q=z
   ·have hgo:=leaveF_go (t:=t) h1 (hq.trans hz)
    rw [hr] at hgo
    have t1:(q==z)=true:=by rw [hz];simp
    cases hlb:leaveB o'
    ·rw [hlb] at hgo
     have HN:=Lib.hid (show r=none from hgo)
     have HLB:=Lib.hid hlb
     have H':=Lib.hid h'
     have HF:=Lib.hid hf
     have H1:=Lib.hid h1
     clear h' hf hs hr hlen hpos h1 hq hz hgo hlb
     go_wp2_with (first
      |(go_at_call 44;refine (inside_at H'.out.op true HI.out).mono ?_;rintro e w' ⟨rfl,rfl⟩)
      |(go_at_call 52;refine HE.out.mono ?_;rintro e w' ⟨rfl,j,rfl⟩)
      |(go_at_call 53;refine (leave_try (H'.out.op.drewN j) H1.out).mono ?_;rw [HLB.out];rintro e w5 ⟨rfl,hf5,-⟩;replace hf5:=Lib.hid hf5))
     go_ret
     refine ⟨by rw [HN.out];rfl,((HF.out.trans (Fr.of_drewN hf5.out) (.inl rfl))).below hLe hLl hNw,fun o2 e2=>by rw [HN.out] at e2;cases e2⟩
    ·rw [hlb,if_pos rfl] at hgo
     have HN:=Lib.hid hgo.symm
     have HLB:=Lib.hid hlb
     have H':=Lib.hid h'
     have HF:=Lib.hid hf
     have H1:=Lib.hid h1
     have HS:=Lib.hid hs
     have HLN:=Lib.hid hlen
     clear h' hf hs hr hlen hpos h1 hq hz hgo hlb
     go_wp2_with (first
      |(go_at_call 44;refine (inside_at H'.out.op true HI.out).mono ?_;rintro e w' ⟨rfl,rfl⟩)
      |(go_at_call 52;refine HE.out.mono ?_;rintro e w' ⟨rfl,j,rfl⟩)
      |(go_at_call 53;refine (leave_try (H'.out.op.drewN j) H1.out).mono ?_;rw [HLB.out];rintro e w5 ⟨rfl,hf5,hop5⟩;replace hop5:=Lib.hid (hop5 rfl);replace hf5:=Lib.hid (Fr.of_drewN hf5)))
     go_roundw
     case rel=>exact ⟨leaveS o',H'.out.next hop5.out hf5.out (.inl rfl),HF.out.trans hf5.out (.inl rfl),fun s hs=>HS.out s (stL_leave o' s hs),HN.out⟩
     case measure =>
      have:=hop5.out.lenAt
      have:=leaveS_len o' H1.out
      have:=H1.out
      have:=HLN.out
      omega
   ·have t1:(q==z)=false:=beq_eq_false_iff_ne.2 hz
    have HN:=Lib.hid (show r=some o' by rw [← hr];exact leaveF_stop hpos (fun e=>hz (hq.symm.trans e.2)))
    have H':=Lib.hid h'
    have HF:=Lib.hid hf
    clear h' hf hs hr hlen hpos h1 hq hz
    go_wp2_with (first
     |(go_at_call 44;refine (inside_at H'.out.op true HI.out).mono ?_;rintro e w' ⟨rfl,rfl⟩)
     |(go_at_call 52;refine HE.out.mono ?_;rintro e w' ⟨rfl,j,rfl⟩))
    go_ret
    refine ⟨by rw [HN.out];rfl,(HF.out.drewN _).below hLe hLl hNw,fun o2 e2=>?_⟩
    rw [HN.out] at e2;cases e2
    exact ⟨H'.out.of_heap rfl,HF.out.drewN _⟩
  ·have HI:=Lib.hid (show decide (1<o'.lv.length)=false from decide_eq_false h1)
   have HN:=Lib.hid (show r=some o' by rw [← hr];exact leaveF_stop hpos (fun e=>h1 e.1))
   have H':=Lib.hid h'
   have HF:=Lib.hid hf
   clear h' hf hs hr hlen hpos h1
   go_wp2_with (first
    |(go_at_call 44;refine (inside_at H'.out.op false HI.out).mono ?_;rintro e w' ⟨rfl,rfl⟩))
   go_ret
   refine ⟨by rw [HN.out];rfl,HF.out.below hLe hLl hNw,fun o2 e2=>?_⟩
   rw [HN.out] at e2;cases e2
   exact ⟨H'.out,HF.out⟩
end Go.Proofs.YtmldpkigfhoalaaGreatDoor.Tr
