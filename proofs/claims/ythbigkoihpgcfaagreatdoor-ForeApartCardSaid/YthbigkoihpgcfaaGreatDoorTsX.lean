/-
  Put together.
-/
import Derived.Test.YthbigkoihpgcfaaGreatDoorEa
import Derived.Test.YthbigkoihpgcfaaGreatDoorVm
import Derived.Lib.ConvBytes
import Derived.Laws.IdiomStrings
set_option maxRecDepth 100000
set_option maxHeartbeats 16000000
namespace Go.Proofs.YthbigkoihpgcfaaGreatDoor.Tr
open Go.RowKit
structure oR (w:World) (N P M n L:Nat) (o:St) (v:Value) (off g:Nat) (t:List Nd):Prop where
 op:cU w N P M n L o
 c5:w.cell? ⟨P,5,none⟩=some v
 rd:∀ k x,t[k]?=some x→w.cell? ⟨g,off+k * 4,none⟩=some (.int .u8 (x.kind:Int))∧w.cell? ⟨g,off+k * 4+1,none⟩=some (.string x.text)∧w.cell? ⟨g,off+k * 4+2,none⟩=some (.int .i64 x.place)∧w.cell? ⟨g,off+k * 4+3,none⟩=some (.int .i64 x.size)
 gw:g<w.heap.size
 gP:g≠P
 gL:g≠L
theorem oR.next {w w':World} {N P M n L L' off g:Nat} {o o':St} {v:Value} {t:List Nd} (h:oR w N P M n L o v off g t) (h':cU w' N P M n L' o') (hf:Fr P L w w') (hL:L'=L∨w.heap.size≤L'):oR w' N P M n L' o' v off g t:=by
 have hb:=hf.block g h.gw h.gP h.gL
 have hc:∀ i,w'.cell? ⟨g,i,none⟩=w.cell? ⟨g,i,none⟩:=fun i=>World.cell?_of_block (w:=w) hb
 refine⟨h',(hf.tail 5 (by omega)).trans h.c5,fun k x hx=>?_,Nat.lt_of_lt_of_le h.gw hf.size,h.gP,?_⟩
 ·obtain⟨a,b,c,d⟩:=h.rd k x hx
  exact⟨(hc _).trans a,(hc _).trans b,(hc _).trans c,(hc _).trans d⟩
 ·have:=h.gL;have:=h.gw
  rcases hL with e | e<;>omega
theorem oR.of_heap {w w':World} {N P M n L off g:Nat} {o:St} {v:Value} {t:List Nd} (h:oR w N P M n L o v off g t) (hh:w'.heap=w.heap):oR w' N P M n L o v off g t:=by
 have hc:∀ a,w'.cell? a=w.cell? a:=fun a=>World.cell?_of_block (by rw[hh])
 refine⟨h.op.of_heap hh,(hc _).trans h.c5,fun k x hx=>?_,by rw[hh];exact h.gw,h.gP,h.gL⟩
 obtain⟨a,b,c,d⟩:=h.rd k x hx
 exact⟨(hc _).trans a,(hc _).trans b,(hc _).trans c,(hc _).trans d⟩
theorem oR.below {w w':World} {N P M n L off g:Nat} {o:St} {v:Value} {t:List Nd} (h:oR w N P M n L o v off g t) (hb:Below w.heap.size w w'):oR w' N P M n L o v off g t :=
 h.next (h.op.below hb) (Fr.dB hb h.op.tV) (.inl rfl)
def gS (t:List Nd) (o:St):Int:=if o.lv.length≤1 then (t.length:Int) else ((cH o.lv).start:Int)+(t.getD (cH o.lv).start ⟨0,cJ,0,0⟩).size
theorem mL {w:World} {N P M n L off g c:Nat} {o:St} {A:Option Addr} {t:List Nd} (h:oR w N P M n L o (.slice A t.length c) off g t) (hA:0<t.length→A=some ⟨g,off,none⟩) (hl:t.length≤9000)
  (hst:1<o.lv.length→∃ x,t[(cH o.lv).start]?=some x∧0≤x.size∧x.size≤9000) (z:Int) (hz:gS t o=z) :
  Calls Tryz.prog 141 #[.pointer (some ⟨P,0,none⟩)] w fun e w'=>e=.returned (.int .i64 z)∧∃ j,w'=w.drewN j:=by
 have H:=Lib.hid h
 have c5:=h.c5
 by_cases h1:1<o.lv.length
 ·have HI:=Lib.hid (show decide (1<o.lv.length)=true from decide_eq_true h1)
  obtain⟨x,hx,x0,x9⟩:=hst h1
  obtain⟨m,hm⟩:=h.op.len
  obtain⟨b,hb⟩:=fI (l:=o.lv) (i:=m) (by omega)
  have hT:cH o.lv=b:=by unfold cH;rw[hm,Nat.add_sub_cancel];exact eU hb
  obtain⟨s,hs⟩:∃ s,b.start=s:=⟨_,rfl⟩
  rw[hT,hs]at hx
  have hlt:=(List.getElem?_eq_some_iff.1 hx).1
  obtain⟨q,hq⟩:∃ q,x.size=q:=⟨_,rfl⟩
  have HZ:=Lib.hid (show (s:Int)+q=z by rw[← hz];unfold gS;rw[if_neg (by omega),hT,hs,eU hx,hq])
  rw[hq]at x0 x9
  obtain⟨-,-,-,d3⟩:=h.rd s x hx
  rw[hq]at d3
  have HM:=Lib.hid hm
  have HB:=Lib.hid hb
  have HS:=Lib.hid hs
  obtain rfl:=hA (by omega)
  have j0:(0:Int)≤(s:Int):=by omega
  have j1:(s:Int)<(t.length:Int):=by omega
  clear h hst hz hm hb hT hs hx hq h1 hA
  go_enter Tryz.func141,Tryz.ntmps141
  go_wp2_with (first
   |(go_at_call 140;refine(gX H.out.op true HI.out).mono ?_;rintro e w' ⟨rfl,rfl⟩)
   |(go_at_call 176;refine(jB H.out.op m HM.out).mono ?_;rintro e w' ⟨rfl,j,rfl⟩;have b1:=((H.out.op.drewN j).at HB.out).2.1;rw[HS.out]at b1))
  go_ret
  exact⟨Ba.aI HZ.out,_,rfl⟩
 ·have HI:=Lib.hid (show decide (1<o.lv.length)=false from decide_eq_false h1)
  have HZ:=Lib.hid (show (t.length:Int)=z by rw[← hz];unfold gS;rw[if_pos (by omega)])
  clear h hst hz h1
  go_enter Tryz.func141,Tryz.ntmps141
  go_wp2_with (first
   |(go_at_call 140;refine(gX H.out.op false HI.out).mono ?_;rintro e w' ⟨rfl,rfl⟩))
  go_ret
  exact⟨Ba.aI HZ.out,0,rfl⟩
def gT (t:List Nd) (z:Int):Nat→St→Option St
 | 0,o=>some o
 | f+1,o=>if 1<o.lv.length∧gS t o=z then (if jA o=true then gT t z f (gC o) else none) else some o
theorem sH (o:St) (h:1<o.lv.length):(gC o).lv.length=o.lv.length - 1:=by
 unfold gC
 simp only[]
 split
 ·rw[List.length_modify,List.length_take];omega
 ·rw[List.length_take];omega
def DS (P:Nat) (w:World):Nat:=match w.cell? ⟨P,1,none⟩with | some (.slice _ k _)=>k | _=>0
theorem cU.DS {w:World} {N P M n L:Nat} {o:St} (h:cU w N P M n L o):DS P w=o.lv.length:=by
 obtain⟨cap,r,_⟩:=h.row
 unfold Tr.DS
 rw[r]
def UM (l:List Lv):List Nat:=(l.drop 1).map (·.start)
theorem DT (o:St):∀ s ∈ UM (gC o).lv,s ∈ UM o.lv:=by
 have e:∀ l:List Lv,UM l=(l.map (·.start)).drop 1:=fun l=>by unfold UM;rw[List.map_drop]
 have hm:(gC o).lv.map (·.start)=(o.lv.map (·.start)).take (o.lv.length - 1):=by
  unfold gC
  simp only[]
  split
  ·rw[← List.map_take]
   apply List.ext_getElem?
   intro i
   rw[List.getElem?_map,List.getElem?_map,List.getElem?_modify]
   cases (List.take (o.lv.length - 1) o.lv)[i]? with
   | none=>rfl
   | some x =>
    by_cases h:o.lv.length - 2=i<;>simp[h,tS]
  ·rw[List.map_take]
 intro s hs
 rw[e,hm]at hs
 rw[e]
 rw[List.drop_take]at hs
 exact List.mem_of_mem_take hs
theorem FW {o:St} (h:1<o.lv.length):(cH o.lv).start ∈ UM o.lv:=by
 unfold UM cH
 rw[List.mem_map]
 refine⟨_,?_,rfl⟩
 rw[List.mem_iff_getElem?]
 refine⟨o.lv.length - 2,?_⟩
 rw[List.getElem?_drop,show 1+(o.lv.length - 2)=o.lv.length - 1 from by omega,List.getD_eq_getElem?_getD,List.getElem?_eq_getElem (by omega)];rfl
theorem xF {t:List Nd} {z:Int} {o:St} (h0:0<o.lv.length) (h:¬ (1<o.lv.length∧gS t o=z)):gT t z o.lv.length o=some o:=by
 obtain⟨f,hf⟩:∃ f,o.lv.length=f+1:=⟨o.lv.length - 1,by omega⟩
 conv=>lhs;arg 3;rw[hf]
 unfold gT
 rw[if_neg h]
theorem UE {t:List Nd} {z:Int} {o:St} (h1:1<o.lv.length) (h:gS t o=z):gT t z o.lv.length o=if jA o=true then gT t z (gC o).lv.length (gC o) else none:=by
 rw[sH o h1]
 obtain⟨f,hf⟩:∃ f,o.lv.length=f+1:=⟨o.lv.length - 1,by omega⟩
 conv=>lhs;arg 3;rw[hf]
 rw[show o.lv.length - 1=f from by omega]
 conv=>lhs;unfold gT
 rw[if_pos ⟨h1,h⟩]
theorem OR {w:World} {N P M n L off g c:Nat} {o:St} {A:Option Addr} {t:List Nd} (h:oR w N P M n L o (.slice A t.length c) off g t) (hA:0<t.length→A=some ⟨g,off,none⟩) (hl:t.length≤9000) (z:Int)
  (hst:∀ s ∈ UM o.lv,∃ x,t[s]?=some x∧0≤x.size∧x.size≤9000) (r:Option St) (hr:gT t z o.lv.length o=r) :
  Calls Tryz.prog 99 #[.pointer (some ⟨P,0,none⟩),.int .i64 z] w fun e w'=>e=.returned (.bool r.isSome)∧Below N w w' ∧
   ∀ o',r=some o'→oR w' N P M n L o' (.slice A t.length c) off g t∧Fr P L w w':=by
 have H:=Lib.hid h
 have HST:=Lib.hid hst
 have HR:=Lib.hid hr
 have hLe:=h.op.FT
 have hLl:=h.op.uB.2
 have hNw:=h.op.ZW
 clear h hst hr
 go_enter Tryz.func99,Tryz.ntmps99
 go_wp2
 go_loopw [8] (fun _ wr=>∃ o',oR wr N P M n L o' (.slice A t.length c) off g t∧Fr P L w wr∧(∀ s ∈ UM o'.lv,∃ x,t[s]?=some x∧0≤x.size∧x.size≤9000)∧gT t z o'.lv.length o'=r) (fun _ wr=>DS P wr)
 case atStart=>exact⟨o,H.out,Fr.refl _ _ _,HST.out,HR.out⟩
 case round =>
  obtain⟨o',h',hf,hs,hr⟩:=hrel
  have hlen:=h'.op.DS
  have hpos:=h'.op.pos
  by_cases h1:1<o'.lv.length
  ·have HI:=Lib.hid (show decide (1<o'.lv.length)=true from decide_eq_true h1)
   obtain⟨q,hq⟩:∃ q,gS t o'=q:=⟨_,rfl⟩
   have HE:=Lib.hid (mL h' hA hl (fun _=>hs _ (FW h1)) q hq)
   by_cases hz:q=z
   ·have hgo:=UE (t:=t) h1 (hq.trans hz)
    rw[hr]at hgo
    have t1:(q==z)=true:=by rw[hz];simp
    cases hlb:jA o'
    ·rw[hlb]at hgo
     have HN:=Lib.hid (show r=none from hgo)
     have HLB:=Lib.hid hlb
     have H':=Lib.hid h'
     have HF:=Lib.hid hf
     have H1:=Lib.hid h1
     clear h' hf hs hr hlen hpos h1 hq hz hgo hlb
     go_wp2_with (first
      |(go_at_call 140;refine(gX H'.out.op true HI.out).mono ?_;rintro e w' ⟨rfl,rfl⟩)
      |(go_at_call 141;refine HE.out.mono ?_;rintro e w' ⟨rfl,j,rfl⟩)
      |(go_at_call 142;refine(DR (H'.out.op.drewN j) H1.out).mono ?_;rw[HLB.out];rintro e w5 ⟨rfl,hf5,-⟩;replace hf5:=Lib.hid hf5))
     go_ret
     refine⟨by rw[HN.out];rfl,((HF.out.trans (Fr.K4 hf5.out) (.inl rfl))).below hLe hLl hNw,fun o2 e2=>by rw[HN.out]at e2;cases e2⟩
    ·rw[hlb,if_pos rfl]at hgo
     have HN:=Lib.hid hgo.symm
     have HLB:=Lib.hid hlb
     have H':=Lib.hid h'
     have HF:=Lib.hid hf
     have H1:=Lib.hid h1
     have HS:=Lib.hid hs
     have HLN:=Lib.hid hlen
     clear h' hf hs hr hlen hpos h1 hq hz hgo hlb
     go_wp2_with (first
      |(go_at_call 140;refine(gX H'.out.op true HI.out).mono ?_;rintro e w' ⟨rfl,rfl⟩)
      |(go_at_call 141;refine HE.out.mono ?_;rintro e w' ⟨rfl,j,rfl⟩)
      |(go_at_call 142;refine(DR (H'.out.op.drewN j) H1.out).mono ?_;rw[HLB.out];rintro e w5 ⟨rfl,hf5,hop5⟩;replace hop5:=Lib.hid (hop5 rfl);replace hf5:=Lib.hid (Fr.K4 hf5)))
     go_roundw
     case rel=>exact⟨gC o',H'.out.next hop5.out hf5.out (.inl rfl),HF.out.trans hf5.out (.inl rfl),fun s hs=>HS.out s (DT o' s hs),HN.out⟩
     case measure =>
      have:=hop5.out.DS
      have:=sH o' H1.out
      have:=H1.out
      have:=HLN.out
      omega
   ·have t1:(q==z)=false:=beq_eq_false_iff_ne.2 hz
    have HN:=Lib.hid (show r=some o' by rw[← hr];exact xF hpos (fun e=>hz (hq.symm.trans e.2)))
    have H':=Lib.hid h'
    have HF:=Lib.hid hf
    clear h' hf hs hr hlen hpos h1 hq hz
    go_wp2_with (first
     |(go_at_call 140;refine(gX H'.out.op true HI.out).mono ?_;rintro e w' ⟨rfl,rfl⟩)
     |(go_at_call 141;refine HE.out.mono ?_;rintro e w' ⟨rfl,j,rfl⟩))
    go_ret
    refine⟨by rw[HN.out];rfl,(HF.out.drewN _).below hLe hLl hNw,fun o2 e2=>?_⟩
    rw[HN.out]at e2;cases e2
    exact⟨H'.out.of_heap rfl,HF.out.drewN _⟩
  ·have HI:=Lib.hid (show decide (1<o'.lv.length)=false from decide_eq_false h1)
   have HN:=Lib.hid (show r=some o' by rw[← hr];exact xF hpos (fun e=>h1 e.1))
   have H':=Lib.hid h'
   have HF:=Lib.hid hf
   clear h' hf hs hr hlen hpos h1
   go_wp2_with (first
    |(go_at_call 140;refine(gX H'.out.op false HI.out).mono ?_;rintro e w' ⟨rfl,rfl⟩))
   go_ret
   refine⟨by rw[HN.out];rfl,HF.out.below hLe hLl hNw,fun o2 e2=>?_⟩
   rw[HN.out]at e2;cases e2
   exact⟨H'.out,HF.out⟩
end Go.Proofs.YthbigkoihpgcfaaGreatDoor.Tr
namespace Go.Proofs.YthbigkoihpgcfaaGreatDoor.Ce
open Go.RowKit
def vY (p:Nat→Bool) (s:ByteArray):Nat:=(List.range s.size).findIdx fun j=>!p (aV s j)
def BA (p:Nat→Bool) (s:ByteArray) (k:Nat):Prop:=∀ j,j<k→p (aV s j)=true
theorem BA.zero (p:Nat→Bool) (s:ByteArray):BA p s 0:=fun _ h=>absurd h (by omega)
theorem BA.succ {p:Nat→Bool} {s:ByteArray} {k:Nat} (h:BA p s k) (hp:p (aV s k)=true):BA p s (k+1):=fun j hj=>by
 rcases Nat.lt_or_ge j k with h1 | h1
 ·exact h j h1
 ·have e:j=k:=by omega
  rw[e];exact hp
theorem BS {p:Nat→Bool} {s:ByteArray} (h:BA p s s.size):vY p s=s.size:=by
 unfold vY
 have:(List.range s.size).findIdx (fun j=>!p (aV s j))=(List.range s.size).length:=List.findIdx_eq_length.2 (fun x hx=>by simp[h x (List.mem_range.1 hx)])
 rw[this,List.length_range]
theorem UU {p:Nat→Bool} {s:ByteArray} {k:Nat} (h:BA p s k) (hk:k<s.size) (hp:p (aV s k)=false):vY p s=k:=by
 unfold vY
 refine(List.findIdx_eq (by simpa using hk)).2 ⟨by simp[hp],fun j hj=>?_⟩
 simp[h j hj]
theorem Z7 {p:Nat→Bool} {s:ByteArray} (h:vY p s=s.size):BA p s s.size:=fun j hj=>by
 unfold vY at h
 have h1:(List.range s.size).findIdx (fun j=>!p (aV s j))=(List.range s.size).length:=by rw[h,List.length_range]
 have:=List.findIdx_eq_length.1 h1 j (List.mem_range.2 hj)
 simpa using this
def LM (g:Nat→Nat) (w:World) (s:ByteArray) (k:Nat) (wr:World):Prop :=
 (∀ j,j<s.size→wr.cell? ⟨w.heap.size,j,none⟩=some (.int .u8 (((if j<k then g (aV s j) else aV s j):Nat):Int)))∧(∀ j,j<s.size→wr.frozen? ⟨w.heap.size,j,none⟩=false)∧Below w.heap.size w wr
theorem LM.zero (g:Nat→Nat) (w:World) (s:ByteArray):LM g w s 0 (Lib.bytesWorld w 5 s):=by
 refine⟨fun j hj=>?_,fun j hj=>?_,?_⟩
 ·rw[Lib.bytesWorld_cell w _ s j hj,if_neg (by omega)]
  have hl:j<s.data.toList.length:=by simpa using hj
  simp only[aV,aA,List.getD_eq_getElem?_getD,List.getElem?_map,List.getElem?_eq_getElem hl,Option.getD_some,Option.map_some]
 ·have hs:s.size≤(Lib.bytesCells w 5 s).size:=by simp[Lib.bytesCells]
  simp[World.frozen?,Lib.bytesWorld_at_new]
  omega
 ·exact⟨rfl,rfl,rfl,by rw[Lib.bytesWorld_size];omega,fun k hk=>Lib.bytesWorld_at_old w _ s k hk⟩
end Go.Proofs.YthbigkoihpgcfaaGreatDoor.Ce
namespace Go.Proofs.YthbigkoihpgcfaaGreatDoor.Ce
open Go.RowKit
def cJ:ByteArray:=⟨#[]⟩
theorem x8 {x y:ByteArray} {a b:Int} (h:x=y) (h':a=b):Ending.returned (.tuple #[.string x,.int .i64 a])=.returned (.tuple #[.string y,.int .i64 b]):=by rw[h,h']
end Go.Proofs.YthbigkoihpgcfaaGreatDoor.Ce
namespace Go.Proofs.YthbigkoihpgcfaaGreatDoor.Ce
open Go.RowKit
theorem Z8 (s:ByteArray) (k:Nat) (h:k<s.size):((s[k].toNat:Nat):Int)=((aV s k:Nat):Int):=by rw[bP s k h]
def OX (c l:Nat):Prop:=l≤6∧c<2 ^ l∧(l=0∨2 ^ (l - 1)≤c)
theorem UW:∀ l:Fin 7,∀ d:Fin 7,∀ c:Fin 64,1≤d.val→OX c.val l.val→(c.val<2 ^ (d.val - 1)↔l.val<d.val)∧(l.val<d.val→OX (c.val+2 ^ (d.val - 1)) d.val):=by
 unfold OX;decide +kernel
theorem Z9 (b:Nat) (h1:49≤b) (h2:b≤54):eK b=DW (b - 48):=by
 unfold eK DW;rw[if_pos ⟨h1,h2⟩,show b - 48 - 1=b - 49 from by omega]
theorem aAA (s:ByteArray) (hs:s.size≤70000) (w:World) :
  Calls Tryz.prog 147 #[.string s] w fun e w'=>e=.returned (.tuple #[.int .u8 ((FZ s:Nat):Int),.bool (F4 s)])∧w=w':=by
 go_enter Tryz.func147,Tryz.ntmps147
 go_wp2
 go_loop [4,5,6] (fun u v i=>∃ k c l:Nat,k≤s.size∧i=.int .i64 k∧u=.int .i64 c∧v=.int .i64 l∧DX ((aA s).take k)=some c∧OX c l∧(k=0∨1≤l)) (fun _ _ i=>s.size - (intOf i).toNat)
 case atStart=>exact⟨0,0,0,by omega,rfl,rfl,rfl,by simp[DX],⟨by omega,by decide,.inl rfl⟩,.inl rfl⟩
 case round =>
  obtain⟨k,c,l,hk,rfl,rfl,rfl,hc,hL,hkl⟩:=hrel
  have hc64:=LN _ c hc
  have hl6:=hL.1
  by_cases hlt:k<s.size
  ·have E1:=Lib.hid (Z8 s k hlt)
   have h256:=dQ s k
   have hbb:c<eK (aV s k)→DX ((aA s).take (k+1))=some (c+eK (aV s k)):=UN s k c hlt hc
   have hno:¬ c<eK (aV s k)→FZ s=0:=fun h=>UO s k c hlt hc h
   obtain⟨b,hb⟩:∃ b,aV s k=b:=⟨_,rfl⟩
   rw[hb]at h256 hbb hno E1
   clear hb hc
   have E2:=E1.out
   by_cases d1:b<49
   ·have h0:=hno (by unfold eK;rw[if_neg (by omega)];omega)
    have HR:=Lib.hid h0
    have HR2:=Lib.hid (show false=F4 s by unfold F4;rw[HR.out];rfl)
    have t1:decide ((b:Int) - 48<1)=true:=by simp;omega
    clear hno hbb h0
    go_wp2
    go_ret2
    exact⟨yA (by rw[HR.out];rfl) HR2.out,rfl⟩
   ·by_cases d2:54<b
    ·have h0:=hno (by unfold eK;rw[if_neg (by omega)];omega)
     have HR:=Lib.hid h0
     have HR2:=Lib.hid (show false=F4 s by unfold F4;rw[HR.out];rfl)
     have t1:decide ((b:Int) - 48<1)=false:=by simp;omega
     have t2:decide (6<(b:Int) - 48)=true:=by simp;omega
     clear hno hbb h0
     go_wp2
     go_ret2
     exact⟨yA (by rw[HR.out];rfl) HR2.out,rfl⟩
    ·obtain⟨d,rfl⟩:∃ d,b=d+48:=⟨b - 48,by omega⟩
     have hbit:=Z9 (d+48) (by omega) (by omega)
     rw[Nat.add_sub_cancel]at hbit
     have hla:=UW ⟨l,by omega⟩ ⟨d,by omega⟩ ⟨c,hc64⟩ (show 1≤d by omega) hL
     simp only[]at hla
     have hpw:2 ^ (d - 1)=eK (d+48):=by rw[hbit];rfl
     rw[hpw]at hla
     obtain⟨q,hq⟩:∃ q,eK (d+48)=q:=⟨_,rfl⟩
     have hq32:=DY (d+48)
     rw[hq]at hla hbb hno hbit hq32
     have HW:=Lib.hid hbit
     have e2:(((s[k]'hlt).toNat:Nat):Int)=(d:Int)+48:=by rw[E1.out];omega
     have g1:1≤d:=by omega
     have g6:d≤6:=by omega
     clear E2 hbit hpw hq d1 d2 h256
     by_cases hlt2:l<d
     ·have HN:=Lib.hid (hbb (hla.1.2 hlt2))
      have HL2:=hla.2 hlt2
      have hc2:=LN _ _ HN.out
      clear hbb hno hla
      go_wp2_with (go_at_call 148;refine((LL d g1 g6 _).mono (fun _ _ h=>(HW.out▸h))).mono ?_;rintro e w' ⟨rfl,rfl⟩)
      exact⟨⟨k+1,c+q,d,by omega,by go_num,by go_num,rfl,HN.out,HL2,.inr g1⟩,by simp[intOf];omega⟩
     ·have HR:=Lib.hid (hno (fun h=>hlt2 (hla.1.1 h)))
      have HR2:=Lib.hid (show false=F4 s by unfold F4;rw[HR.out];rfl)
      have hdl:d≤l:=by omega
      clear hbb hno hla hlt2
      go_wp2
      go_ret2
      exact⟨yA (by rw[HR.out];rfl) HR2.out,rfl⟩
  ·obtain rfl:k=s.size:=by omega
   have HR:=Lib.hid (Z3 s c hc)
   clear hc
   by_cases hz:s.size=0
   ·have hc0:c=0:=by
     have:=HR.out
     unfold FZ Z0 DX at this
     rw[List.eq_nil_of_length_eq_zero (show (aA s).length=0 by rw[aD];exact hz)]at this
     simpa using this.symm
    have HR2:=Lib.hid (show false=F4 s by unfold F4;rw[HR.out,hc0];rfl)
    have hz2:decide (0<s.size)=false:=decide_eq_false (by omega)
    have hZ:=Lib.hid hz
    clear hz hc0
    go_wp2
    go_ret2
    exact⟨yA (by rw[HR.out]) (by rw[← HR2.out]),rfl⟩
   ·have hl1:1≤l:=by omega
    have hc1:c≠0:=by
     have h3:=hL.2.2
     have:=Nat.one_le_two_pow (n:=l - 1)
     omega
    have HR2:=Lib.hid (show true=F4 s by unfold F4;rw[HR.out];simp[hc1])
    have hz2:decide (0<s.size)=true:=decide_eq_true (by omega)
    clear hz hc1
    go_wp2
    go_ret2
    exact⟨yA (by rw[HR.out]) (by rw[← HR2.out]),rfl⟩
end Go.Proofs.YthbigkoihpgcfaaGreatDoor.Ce
namespace Go.Proofs.YthbigkoihpgcfaaGreatDoor.Ce
open Go.RowKit
theorem yB (a b:List Nat):bytesOf (a++b)=bytesOf a++bytesOf b:=by
 apply ByteArray.ext
 simp[bytesOf]
end Go.Proofs.YthbigkoihpgcfaaGreatDoor.Ce
