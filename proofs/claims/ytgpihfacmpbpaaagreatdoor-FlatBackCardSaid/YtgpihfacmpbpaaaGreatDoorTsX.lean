/-
  The landed tree's checker: end, leaveAt.
-/
import Derived.Test.YtgpihfacmpbpaaaGreatDoorVm
import Derived.Test.YtgpihfacmpbpaaaGreatDoorTrD
namespace Go.Proofs.YtgpihfacmpbpaaaGreatDoor.Tr
open Go.RowKit
structure q6 (w:World) (N P M n L:Nat) (o:St) (v:Value) (off g:Nat) (t:List Nd):Prop where
 op:dI w N P M n L o
 c5:w.cell? ⟨P,5,none⟩=some v
 rd:∀ k x,t[k]?=some x→w.cell? ⟨g,off+k * 4,none⟩=some (.int .u8 (x.kind:Int))∧w.cell? ⟨g,off+k * 4+1,none⟩=some (.string x.text)∧w.cell? ⟨g,off+k * 4+2,none⟩=some (.int .i64 x.place)∧w.cell? ⟨g,off+k * 4+3,none⟩=some (.int .i64 x.size)
 gw:g<w.heap.size
 gP:g≠P
 gL:g≠L
theorem q6.next {w w':World} {N P M n L L' off g:Nat} {o o':St} {v:Value} {t:List Nd} (h:q6 w N P M n L o v off g t) (h':dI w' N P M n L' o') (hf:Fr P L w w') (hL:L'=L∨w.heap.size≤L'):q6 w' N P M n L' o' v off g t:=by
 have hb:=hf.block g h.gw h.gP h.gL
 have hc:∀ i,w'.cell? ⟨g,i,none⟩=w.cell? ⟨g,i,none⟩:=fun i=>World.cell?_of_block (w:=w) hb
 refine⟨h',(hf.tail 5 (by omega)).trans h.c5,fun k x hx=>?_,Nat.lt_of_lt_of_le h.gw hf.size,h.gP,?_⟩
 ·obtain⟨a,b,c,d⟩:=h.rd k x hx
  exact⟨(hc _).trans a,(hc _).trans b,(hc _).trans c,(hc _).trans d⟩
 ·have:=h.gL;have:=h.gw
  rcases hL with e | e<;>omega
theorem q6.of_heap {w w':World} {N P M n L off g:Nat} {o:St} {v:Value} {t:List Nd} (h:q6 w N P M n L o v off g t) (hh:w'.heap=w.heap):q6 w' N P M n L o v off g t:=by
 have hc:∀ a,w'.cell? a=w.cell? a:=fun a=>World.cell?_of_block (by rw[hh])
 refine⟨h.op.of_heap hh,(hc _).trans h.c5,fun k x hx=>?_,by rw[hh];exact h.gw,h.gP,h.gL⟩
 obtain⟨a,b,c,d⟩:=h.rd k x hx
 exact⟨(hc _).trans a,(hc _).trans b,(hc _).trans c,(hc _).trans d⟩
theorem q6.below {w w':World} {N P M n L off g:Nat} {o:St} {v:Value} {t:List Nd} (h:q6 w N P M n L o v off g t) (hb:Below w.heap.size w w'):q6 w' N P M n L o v off g t :=
 h.next (h.op.below hb) (Fr.gC hb h.op.nP) (.inl rfl)
def gF (t:List Nd) (o:St):Int:=if o.lv.length≤1 then (t.length:Int) else ((aT o.lv).start:Int)+(t.getD (aT o.lv).start ⟨0,aA,0,0⟩).size
set_option maxHeartbeats 4000000 in
theorem lU {w:World} {N P M n L off g c:Nat} {o:St} {A:Option Addr} {t:List Nd} (h:q6 w N P M n L o (.slice A t.length c) off g t) (hA:0<t.length→A=some ⟨g,off,none⟩) (hl:t.length≤9000)
  (hst:1<o.lv.length→∃ x,t[(aT o.lv).start]?=some x∧0≤x.size∧x.size≤9000) (z:Int) (hz:gF t o=z) :
  Calls Tryz.prog 78 #[.pointer (some ⟨P,0,none⟩)] w fun e w'=>e=.returned (.int .i64 z)∧∃ j,w'=w.drewN j:=by
 have H:=Lib.hid h
 have c5:=h.c5
 by_cases h1:1<o.lv.length
 ·have HI:=Lib.hid (show decide (1<o.lv.length)=true from decide_eq_true h1)
  obtain⟨x,hx,x0,x9⟩:=hst h1
  obtain⟨m,hm⟩:=h.op.len
  obtain⟨b,hb⟩:=dM (l:=o.lv) (i:=m) (by omega)
  have hT:aT o.lv=b:=by unfold aT;rw[hm,Nat.add_sub_cancel];exact fZ hb
  obtain⟨s,hs⟩:∃ s,b.start=s:=⟨_,rfl⟩
  rw[hT,hs]at hx
  have hlt:=(List.getElem?_eq_some_iff.1 hx).1
  obtain⟨q,hq⟩:∃ q,x.size=q:=⟨_,rfl⟩
  have HZ:=Lib.hid (show (s:Int)+q=z by rw[← hz];unfold gF;rw[if_neg (by omega),hT,hs,fZ hx,hq])
  rw[hq]at x0 x9
  obtain⟨-,-,-,d3⟩:=h.rd s x hx
  rw[hq]at d3
  have HM:=Lib.hid hm
  have HB:=Lib.hid hb
  have HS:=Lib.hid hs
  obtain rfl:=hA (by omega)
  have j0:(0:Int)≤(s:Int):=by omega
  have j1:(s:Int)<(t.length:Int):=by omega
  clear h hst hz hm hb hT hs hx hq h1 hA
  go_enter Tryz.func78,Tryz.ntmps78
  go_wp2_with (first
   |(go_at_call 40;refine(gZ H.out.op true HI.out).mono ?_;rintro e w' ⟨rfl,rfl⟩)
   |(go_at_call 70;refine(jH H.out.op m HM.out).mono ?_;rintro e w' ⟨rfl,j,rfl⟩;have b1:=((H.out.op.drewN j).at HB.out).2.1;rw[HS.out]at b1))
  go_ret
  exact⟨Ba.bF HZ.out,_,rfl⟩
 ·have HI:=Lib.hid (show decide (1<o.lv.length)=false from decide_eq_false h1)
  have HZ:=Lib.hid (show (t.length:Int)=z by rw[← hz];unfold gF;rw[if_pos (by omega)])
  clear h hst hz h1
  go_enter Tryz.func78,Tryz.ntmps78
  go_wp2_with (first
   |(go_at_call 40;refine(gZ H.out.op false HI.out).mono ?_;rintro e w' ⟨rfl,rfl⟩))
  go_ret
  exact⟨Ba.bF HZ.out,0,rfl⟩
def jT (t:List Nd) (z:Int):Nat→St→Option St
 | 0,o=>some o
 | f+1,o=>if 1<o.lv.length∧gF t o=z then (if dG o=true then jT t z f (cY o) else none) else some o
theorem uS (o:St) (h:1<o.lv.length):(cY o).lv.length=o.lv.length - 1:=by
 unfold cY
 simp only[]
 split
 ·rw[List.length_modify,List.length_take];omega
 ·rw[List.length_take];omega
def EZ (P:Nat) (w:World):Nat:=match w.cell? ⟨P,1,none⟩with | some (.slice _ k _)=>k | _=>0
theorem dI.EZ {w:World} {N P M n L:Nat} {o:St} (h:dI w N P M n L o):EZ P w=o.lv.length:=by
 obtain⟨cap,r,_⟩:=h.row
 unfold Tr.EZ
 rw[r]
def TZ (l:List Lv):List Nat:=(l.drop 1).map (·.start)
theorem E4 (o:St):∀ s ∈ TZ (cY o).lv,s ∈ TZ o.lv:=by
 have e:∀ l:List Lv,TZ l=(l.map (·.start)).drop 1:=fun l=>by unfold TZ;rw[List.map_drop]
 have hm:(cY o).lv.map (·.start)=(o.lv.map (·.start)).take (o.lv.length - 1):=by
  unfold cY
  simp only[]
  split
  ·rw[← List.map_take]
   apply List.ext_getElem?
   intro i
   rw[List.getElem?_map,List.getElem?_map,List.getElem?_modify]
   cases (List.take (o.lv.length - 1) o.lv)[i]? with
   | none=>rfl
   | some x =>
    by_cases h:o.lv.length - 2=i<;>simp[h,oZ]
  ·rw[List.map_take]
 intro s hs
 rw[e,hm]at hs
 rw[e]
 rw[List.drop_take]at hs
 exact List.mem_of_mem_take hs
theorem GO {o:St} (h:1<o.lv.length):(aT o.lv).start ∈ TZ o.lv:=by
 unfold TZ aT
 rw[List.mem_map]
 refine⟨_,?_,rfl⟩
 rw[List.mem_iff_getElem?]
 refine⟨o.lv.length - 2,?_⟩
 rw[List.getElem?_drop,show 1+(o.lv.length - 2)=o.lv.length - 1 from by omega,List.getD_eq_getElem?_getD,List.getElem?_eq_getElem (by omega)];rfl
theorem nT {t:List Nd} {z:Int} {o:St} (h0:0<o.lv.length) (h:¬ (1<o.lv.length∧gF t o=z)):jT t z o.lv.length o=some o:=by
 obtain⟨f,hf⟩:∃ f,o.lv.length=f+1:=⟨o.lv.length - 1,by omega⟩
 conv=>lhs;arg 3;rw[hf]
 unfold jT
 rw[if_neg h]
theorem E5 {t:List Nd} {z:Int} {o:St} (h1:1<o.lv.length) (h:gF t o=z):jT t z o.lv.length o=if dG o=true then jT t z (cY o).lv.length (cY o) else none:=by
 rw[uS o h1]
 obtain⟨f,hf⟩:∃ f,o.lv.length=f+1:=⟨o.lv.length - 1,by omega⟩
 conv=>lhs;arg 3;rw[hf]
 rw[show o.lv.length - 1=f from by omega]
 conv=>lhs;unfold jT
 rw[if_pos ⟨h1,h⟩]
set_option maxHeartbeats 8000000 in
theorem N2 {w:World} {N P M n L off g c:Nat} {o:St} {A:Option Addr} {t:List Nd} (h:q6 w N P M n L o (.slice A t.length c) off g t) (hA:0<t.length→A=some ⟨g,off,none⟩) (hl:t.length≤9000) (z:Int)
  (hst:∀ s ∈ TZ o.lv,∃ x,t[s]?=some x∧0≤x.size∧x.size≤9000) (r:Option St) (hr:jT t z o.lv.length o=r) :
  Calls Tryz.prog 44 #[.pointer (some ⟨P,0,none⟩),.int .i64 z] w fun e w'=>e=.returned (.bool r.isSome)∧Below N w w' ∧
   ∀ o',r=some o'→q6 w' N P M n L o' (.slice A t.length c) off g t∧Fr P L w w':=by
 have H:=Lib.hid h
 have HST:=Lib.hid hst
 have HR:=Lib.hid hr
 have hLe:=h.op.zE
 have hLl:=h.op.tR.2
 have hNw:=h.op.KS
 clear h hst hr
 go_enter Tryz.func44,Tryz.ntmps44
 go_wp2
 go_loopw [8] (fun _ wr=>∃ o',q6 wr N P M n L o' (.slice A t.length c) off g t∧Fr P L w wr∧(∀ s ∈ TZ o'.lv,∃ x,t[s]?=some x∧0≤x.size∧x.size≤9000)∧jT t z o'.lv.length o'=r) (fun _ wr=>EZ P wr)
 case atStart=>exact⟨o,H.out,Fr.refl _ _ _,HST.out,HR.out⟩
 case round =>
  obtain⟨o',h',hf,hs,hr⟩:=hrel
  have hlen:=h'.op.EZ
  have hpos:=h'.op.pos
  by_cases h1:1<o'.lv.length
  ·have HI:=Lib.hid (show decide (1<o'.lv.length)=true from decide_eq_true h1)
   obtain⟨q,hq⟩:∃ q,gF t o'=q:=⟨_,rfl⟩
   have HE:=Lib.hid (lU h' hA hl (fun _=>hs _ (GO h1)) q hq)
   by_cases hz:q=z
   ·have hgo:=E5 (t:=t) h1 (hq.trans hz)
    rw[hr]at hgo
    have t1:(q==z)=true:=by rw[hz];simp
    cases hlb:dG o'
    ·rw[hlb]at hgo
     have HN:=Lib.hid (show r=none from hgo)
     have HLB:=Lib.hid hlb
     have H':=Lib.hid h'
     have HF:=Lib.hid hf
     have H1:=Lib.hid h1
     clear h' hf hs hr hlen hpos h1 hq hz hgo hlb
     go_wp2_with (first
      |(go_at_call 40;refine(gZ H'.out.op true HI.out).mono ?_;rintro e w' ⟨rfl,rfl⟩)
      |(go_at_call 78;refine HE.out.mono ?_;rintro e w' ⟨rfl,j,rfl⟩)
      |(go_at_call 71;refine(tE (H'.out.op.drewN j) H1.out).mono ?_;rw[HLB.out];rintro e w5 ⟨rfl,hf5,-⟩;replace hf5:=Lib.hid hf5))
     go_ret
     refine⟨by rw[HN.out];rfl,((HF.out.trans (Fr.KL hf5.out) (.inl rfl))).below hLe hLl hNw,fun o2 e2=>by rw[HN.out]at e2;cases e2⟩
    ·rw[hlb,if_pos rfl]at hgo
     have HN:=Lib.hid hgo.symm
     have HLB:=Lib.hid hlb
     have H':=Lib.hid h'
     have HF:=Lib.hid hf
     have H1:=Lib.hid h1
     have HS:=Lib.hid hs
     have HLN:=Lib.hid hlen
     clear h' hf hs hr hlen hpos h1 hq hz hgo hlb
     go_wp2_with (first
      |(go_at_call 40;refine(gZ H'.out.op true HI.out).mono ?_;rintro e w' ⟨rfl,rfl⟩)
      |(go_at_call 78;refine HE.out.mono ?_;rintro e w' ⟨rfl,j,rfl⟩)
      |(go_at_call 71;refine(tE (H'.out.op.drewN j) H1.out).mono ?_;rw[HLB.out];rintro e w5 ⟨rfl,hf5,hop5⟩;replace hop5:=Lib.hid (hop5 rfl);replace hf5:=Lib.hid (Fr.KL hf5)))
     go_roundw
     case rel=>exact⟨cY o',H'.out.next hop5.out hf5.out (.inl rfl),HF.out.trans hf5.out (.inl rfl),fun s hs=>HS.out s (E4 o' s hs),HN.out⟩
     case measure =>
      have:=hop5.out.EZ
      have:=uS o' H1.out
      have:=H1.out
      have:=HLN.out
      omega
   ·have t1:(q==z)=false:=beq_eq_false_iff_ne.2 hz
    have HN:=Lib.hid (show r=some o' by rw[← hr];exact nT hpos (fun e=>hz (hq.symm.trans e.2)))
    have H':=Lib.hid h'
    have HF:=Lib.hid hf
    clear h' hf hs hr hlen hpos h1 hq hz
    go_wp2_with (first
     |(go_at_call 40;refine(gZ H'.out.op true HI.out).mono ?_;rintro e w' ⟨rfl,rfl⟩)
     |(go_at_call 78;refine HE.out.mono ?_;rintro e w' ⟨rfl,j,rfl⟩))
    go_ret
    refine⟨by rw[HN.out];rfl,(HF.out.drewN _).below hLe hLl hNw,fun o2 e2=>?_⟩
    rw[HN.out]at e2;cases e2
    exact⟨H'.out.of_heap rfl,HF.out.drewN _⟩
  ·have HI:=Lib.hid (show decide (1<o'.lv.length)=false from decide_eq_false h1)
   have HN:=Lib.hid (show r=some o' by rw[← hr];exact nT hpos (fun e=>h1 e.1))
   have H':=Lib.hid h'
   have HF:=Lib.hid hf
   clear h' hf hs hr hlen hpos h1
   go_wp2_with (first
    |(go_at_call 40;refine(gZ H'.out.op false HI.out).mono ?_;rintro e w' ⟨rfl,rfl⟩))
   go_ret
   refine⟨by rw[HN.out];rfl,HF.out.below hLe hLl hNw,fun o2 e2=>?_⟩
   rw[HN.out]at e2;cases e2
   exact⟨H'.out,HF.out⟩
end Go.Proofs.YtgpihfacmpbpaaaGreatDoor.Tr
