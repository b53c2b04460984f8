/-
  Put together.
-/
import Derived.Test.YthbigkoihpgcfaaGreatDoorDaN
import Derived.Test.YthbigkoihpgcfaaGreatDoorDbH
import Derived.Test.YthbigkoihpgcfaaGreatDoorOn
import Derived.Test.YthbigkoihpgcfaaGreatDoorSf
import Derived.Test.YthbigkoihpgcfaaGreatDoorVf
import Derived.Laws.EntriesVeiled
open Go.Lib (hid)
set_option maxRecDepth 100000
set_option maxHeartbeats 16000000
namespace Go.Proofs.YthbigkoihpgcfaaGreatDoor.Tr
open Go.RowKit
theorem l7 {α:Type} {l:List α} {i:Nat} {f:α→α} {b:α} (h:b ∈ l.modify i f):b ∈ l∨∃ a ∈ l,b=f a:=by
 obtain⟨j,hj⟩:=List.mem_iff_getElem?.1 h
 rw[List.getElem?_modify]at hj
 cases hl:l[j]? with
 | none=>rw[hl]at hj;split at hj<;>simp at hj
 | some a =>
  have ha:=List.mem_of_getElem? hl
  rw[hl]at hj
  split at hj
  ·exact .inr ⟨a,ha,by simpa using hj.symm⟩
  ·exact .inl (by simp at hj;exact hj▸ha)
theorem AX {l:List Lv} (h:0<l.length):cH l ∈ l:=by
 unfold cH
 rw[List.getD_eq_getElem?_getD,List.getElem?_eq_getElem (by omega)]
 exact List.getElem_mem _
theorem FY (o:St):UM o.lv=(LK o).drop 1:=by unfold UM LK;rw[List.map_drop]
def aFR:Option St→Nat
 | none=>2
 | some o=>tT o
theorem OV (t:List Nd):jW t=aFR (AW t 0 st0):=by unfold jW;cases AW t 0 st0<;>rfl
structure DV (t:List Nd) (k:Nat) (o:St):Prop where
 nodes:o.nodes=k
 pos:0<o.lv.length
 len:o.lv.length≤k+1
 one:∀ b ∈ o.lv,b.parts≤k∧b.lists≤k∧b.bytes≤k * 9000
 st:∀ s ∈ UM o.lv,∃ x,t[s]?=some x∧1≤x.size∧(s:Int)+x.size≤t.length
theorem DV.start (t:List Nd):DV t 0 st0:=⟨rfl,by decide,by decide,fun b hb=>by
 have:b=sD:=by simpa[st0] using hb
 subst this;decide,fun s hs=>by cases hs⟩
theorem DV.leave {t:List Nd} {k:Nat} {o:St} (h:DV t k o) (h1:1<o.lv.length):DV t k (gC o):=by
 have hl:=sH o h1
 refine⟨h.nodes,by omega,by have:=h.len;omega,fun b hb=>?_,fun s hs=>h.st s (DT o s hs)⟩
 unfold gC at hb
 simp only[]at hb
 split at hb
 ·rcases l7 hb with hb | ⟨a,ha,rfl⟩
  ·exact h.one b (List.mem_of_mem_take hb)
  ·exact h.one a (List.mem_of_mem_take ha)
 ·exact h.one b (List.mem_of_mem_take hb)
theorem DV.leaves {t:List Nd} {k:Nat} {z:Int}:∀ f o o',DV t k o→gT t z f o=some o'→DV t k o'
 | 0,o,o',h,e=>by cases e;exact h
 | f+1,o,o',h,e=>by
  unfold gT at e
  split at e
  ·next hc =>
   split at e
   ·exact DV.leaves f _ _ (h.leave hc.1) e
   ·cases e
  ·cases e;exact h
theorem DV.gS {t:List Nd} {k:Nat} {o:St} (h:DV t k o):0≤gS t o∧gS t o≤t.length:=by
 unfold Tr.gS
 split
 ·omega
 ·next h1 =>
  obtain⟨x,hx,a,b⟩:=h.st _ (FW (by omega))
  rw[List.getD_eq_getElem?_getD,hx]
  show 0≤(_:Int)+x.size∧(_:Int)+x.size≤_
  omega
theorem xX {o:St} {k c:Nat} (h:∀ b ∈ o.lv,b.parts≤k∧b.lists≤k∧b.bytes≤k * 9000):∀ b ∈ (bE o c).lv,b.parts≤k+1∧b.lists≤k∧b.bytes≤k * 9000:=by
 intro b hb
 rcases l7 hb with hb | ⟨a,ha,rfl⟩
 ·have:=h b hb;omega
 ·have:=h a ha
  exact⟨Nat.add_le_add_right this.1 1,this.2.1,this.2.2⟩
theorem tD {o:St} {k c:Nat} (h:∀ b ∈ o.lv,b.parts≤k∧b.lists≤k∧b.bytes≤k * 9000):∀ b ∈ (bG o c).lv,b.parts≤k∧b.lists≤k∧b.bytes≤k * 9000:=by
 intro b hb
 unfold bG at hb
 split at hb
 ·rcases l7 hb with hb | ⟨a,ha,rfl⟩
  ·exact h b hb
  ·exact h a ha
 ·exact h b hb
theorem DV.node {t:List Nd} {k:Nat} {o o':St} {x:Nd} (h:DV t k o) (hx:t[k]?=some x) (hs:x.text.size≤9000) (e:xG x (Tr.gS t o) k o=some o'):DV t (k+1) o':=by
 have he:=h.gS
 unfold xG at e
 split at e
 ·cases e
 next h1 =>
 split at e
 ·split at e
  ·cases e
   have hst:=aC0 o x.text.size
   have hl:(vS o x.text.size).lv.length=o.lv.length:=by rw[← oG,hst,oG]
   have hlen:=h.len
   refine⟨by rw[UI,h.nodes],by rw[hl];exact h.pos,by omega,fun b hb=>?_,fun s hs=>h.st s (by rw[FY]at hs ⊢;rw[hst]at hs;exact hs)⟩
   unfold vS at hb
   cases hw:eC o.lv 110 with
   | none =>
    rw[hw]at hb
    have:=xX h.one b hb
    omega
   | some i =>
    rw[hw]at hb
    rcases l7 hb with hb | ⟨a,ha,rfl⟩
    ·have:=xX h.one b hb;omega
    ·have:=xX h.one a ha
     refine⟨this.1,by show a.lists≤_;omega,?_⟩
     show a.bytes+x.text.size≤_
     omega
  ·cases e
 ·split at e
  ·cases e
   have hst:=UJ o x.kind
   have hl:=OU hst
   simp only[List.length_singleton]at hl
   have hlen:=h.len
   refine⟨by rw[LG,h.nodes],by omega,by omega,fun b hb=>?_,fun s hs=>?_⟩
   ·have hb':b ∈ (bE (bG o x.kind) x.kind).lv++[kG o x.kind]:=hb
    rcases List.mem_append.1 hb' with hb | hb
    ·have:=xX (tD h.one) b hb;omega
    ·have:b=kG o x.kind:=by simpa using hb
     subst this
     have hL:=(h.one _ (AX h.pos)).2.1
     refine⟨Nat.zero_le _,?_,Nat.zero_le _⟩
     show (cH o.lv).lists+(if x.kind=108 then 1 else 0)≤k+1
     split<;>omega
   ·rw[FY,hst,List.drop_append_of_le_length (by rw[oG];exact h.pos)]at hs
    rcases List.mem_append.1 hs with hs | hs
    ·exact h.st s (by rw[FY];exact hs)
    ·have:s=k:=by rw[← h.nodes];simpa using hs
     subst this
     exact⟨x,hx,by omega,by omega⟩
  ·cases e
theorem DV.small {t:List Nd} {k:Nat} {o:St} (h:DV t k o) (hk:k≤9000):lL o:=by
 have hn:=h.nodes
 have hl:=h.len
 have ht:=h.one _ (AX h.pos)
 refine⟨by omega,by omega,fun c=>?_,by omega,by omega,fun b hb=>?_⟩
 ·have hp:0<(bG o c).lv.length:=by rw[← oG,DU,oG];exact h.pos
  have:=tD (c:=c) h.one _ (AX hp)
  omega
 ·have:=(h.one b hb).2.2
  have:k * 9000≤9000 * 9000:=Nat.mul_le_mul_right _ hk
  omega
theorem oR.make {w1 w2:World} {M n L g off:Nat} {T:TypeId} {v:Value} {t:List Nd} (hmap:Ts.aY w2 M n rk) (hown:w2.ownsRow w1.heap.size 184 8 (.slice (some ⟨L,0,none⟩) 1 1) 1 (Ba.rows cL [sD])) (hLM:L≠M) (hb:Below w1.heap.size w1 w2) (hg:g<w1.heap.size)
  (hrd:∀ k x,t[k]?=some x→w1.cell? ⟨g,off+k * 4,none⟩=some (.int .u8 (x.kind:Int))∧w1.cell? ⟨g,off+k * 4+1,none⟩=some (.string x.text)∧w1.cell? ⟨g,off+k * 4+2,none⟩=some (.int .i64 x.place)∧w1.cell? ⟨g,off+k * 4+3,none⟩=some (.int .i64 x.size)) :
  oR (w2.alloc (.cells #[.map (some M),.slice (some ⟨L,0,none⟩) 1 1,.int .i64 0,.bool false,.bool false,v] T)) w1.heap.size w2.heap.size M n L st0 v off g t∧Below w1.heap.size w1 (w2.alloc (.cells #[.map (some M),.slice (some ⟨L,0,none⟩) 1 1,.int .i64 0,.bool false,.bool false,v] T)):=by
 have hMl:=hmap.lt
 have hLl:=(hown.lt L rfl).2
 have hLg:=(hown.lt L rfl).1
 have hs:=hb.size
 have hbb:=(Below.refl w2.heap.size w2).alloc (Nat.le_refl _) (.cells #[.map (some M),.slice (some ⟨L,0,none⟩) 1 1,.int .i64 0,.bool false,.bool false,v] T)
 have hall:=hb.trans (hbb.mono hs)
 refine⟨⟨⟨by simp,⟨1,by simp;rfl,hown.alloc _⟩,by simp;rfl,by simp;rfl,by simp;rfl,fun i=>by simp,hmap.of_block (hbb.block M hMl),by decide,rfl,fun b hb'=>?_,hs,by omega,hLM,by omega⟩,by simp,fun k x hx=>?_,Nat.lt_of_lt_of_le hg hall.size,by omega,by omega⟩,hall⟩
 ·have:b=sD:=by simpa[st0] using hb'
  subst this;decide
 ·obtain⟨a,b,c,d⟩:=hrd k x hx
  have hc:∀ i,(w2.alloc (.cells #[.map (some M),.slice (some ⟨L,0,none⟩) 1 1,.int .i64 0,.bool false,.bool false,v] T)).cell? ⟨g,i,none⟩=w1.cell? ⟨g,i,none⟩:=fun i=>World.cell?_of_block (w:=w1) (hall.block g hg)
  exact⟨(hc _).trans a,(hc _).trans b,(hc _).trans c,(hc _).trans d⟩
theorem aKF (t:List Nd) (off:Nat) (v:Value) (hl:t.length≤9000) (hf:Fit t) (ht:∀ x ∈ t,x.text.size≤9000) (w:World) (hL:Ka.Laid w) (hr:pK off w w.heap.size v t) :
  Calls Tryz.prog 65 #[v] w fun e w'=>e=.returned (.int .i64 ((jW t:Nat):Int))∧Below w.heap.size w w':=by
 obtain⟨A,c,rfl,hA⟩:=hr
 obtain⟨g,hgA,hgw,hrd⟩:∃ g,(0<t.length→A=some ⟨g,off,none⟩)∧g<w.heap.size∧∀ k x,t[k]?=some x→w.cell? ⟨g,off+k * 4,none⟩=some (.int .u8 (x.kind:Int))∧w.cell? ⟨g,off+k * 4+1,none⟩=some (.string x.text)∧w.cell? ⟨g,off+k * 4+2,none⟩=some (.int .i64 x.place)∧w.cell? ⟨g,off+k * 4+3,none⟩=some (.int .i64 x.size):=by
  by_cases h0:0<t.length
  ·obtain⟨g,rfl,hg,hc⟩:=hA h0
   exact⟨g,fun _=>rfl,hg,fun k x hx=>ZD hc k x hx⟩
  ·refine⟨0,fun h=>absurd h h0,Nat.lt_of_le_of_lt (Nat.zero_le _) hL.1,fun k x hx=>?_⟩
   have:=(List.getElem?_eq_some_iff.1 hx).1
   omega
 obtain⟨R,hR⟩:∃ R,AW t 0 st0=R:=⟨_,rfl⟩
 have HV:=hid (show aFR R=jW t by rw[← hR,OV])
 have HR:=hid hR
 have HRD:=hid hrd
 have HGA:=hid hgA
 have HF:=hid hf
 have HT:=hid ht
 have HL:=hid hL
 have hL1:=hL.1
 clear hA hrd hgA hR hf ht hL
 go_enter Tryz.func65,Tryz.ntmps65
 go_wp2_with (first
  |(go_at_call 98;refine(aCU w).mono ?_;rintro e w2 ⟨M,n,L,rfl,hmap,hown,hLM,hMge,hb2⟩;replace hmap:=hid hmap;replace hown:=hid hown;replace hb2:=hid hb2))
 obtain⟨hch,hbs⟩:=oR.make (T:=154) (v:=.slice A t.length c) hmap.out hown.out hLM hb2.out hgw HRD.out
 obtain⟨P,hP⟩:∃ P,w2.heap.size=P:=⟨_,rfl⟩
 rw[hP]at hch ⊢
 generalize w2.alloc (.cells #[.map (some M),.slice (some ⟨L,0,none⟩) 1 1,.int .i64 0,.bool false,.bool false,.slice A t.length c] 154)=w3 at hch hbs ⊢
 have HC:=hid hch
 have HBS:=hid hbs
 clear hch hbs hP hmap hown hb2 HRD
 obtain⟨N,hN⟩:∃ N,w.heap.size=N:=⟨_,rfl⟩
 rw[hN]at HC HBS hgw hMge
 go_loopw [10] (fun i wr=>∃ (k:Nat) (o:St) (L:Nat),k≤t.length∧i=.int .i64 k∧oR wr N P M n L o (.slice A t.length c) off g t∧Below N w wr∧DV t k o∧AW t k o=R) (fun i _=>t.length - (intOf i).toNat)
 case atStart=>exact⟨0,st0,L,by omega,rfl,HC.out,HBS.out,DV.start t,HR.out⟩
 case round =>
  obtain⟨k,o,L,hk,rfl,hch,hbw,hinv,hrun⟩:=hrel
  rw[aCZ hk]at hrun
  have hst9:∀ o,DV t k o→∀ s ∈ UM o.lv,∃ x,t[s]?=some x∧0≤x.size∧x.size≤9000:=fun o ho s hs=>by
   obtain⟨x,hx,a,b⟩:=ho.st s hs
   exact⟨x,hx,by omega,by omega⟩
  obtain⟨r1,hr1⟩:∃ r1,gT t (k:Int) o.lv.length o=r1:=⟨_,rfl⟩
  have HLV:=hid (OR hch HGA.out hl (k:Int) (hst9 o hinv) r1 hr1)
  have HBW:=hid hbw
  rw[hr1]at hrun
  by_cases hlt:k<t.length
  ·obtain⟨x,hx⟩:∃ x,t[k]?=some x:=⟨_,List.getElem?_eq_getElem hlt⟩
   have hrest:∀ o1,xH t k o1=(xG x (gS t o1) k o1).bind fun o2=>AW t (k+1) o2:=fun o1=>by unfold xH;rw[hx]
   cases r1 with
   | none =>
    have HQ:=hid (show jW t=2 by rw[← HV.out,← hrun];rfl)
    clear hrun hrest hr1 hinv hch hbw hx hst9
    go_wp2_with (first
     |(go_at_call 99;refine HLV.out.mono ?_;rintro e w5 ⟨rfl,hb5,-⟩;replace hb5:=hid hb5))
    go_ret
    exact⟨by rw[HQ.out];rfl,hN▸HBW.out.trans hb5.out⟩
   | some o1 =>
    have hinv1:=DV.leaves _ _ _ hinv hr1
    have he1:=hinv1.gS
    have hfx:=HF.out x (List.mem_of_getElem? hx)
    obtain⟨r2,hr2⟩:∃ r2,xG x (gS t o1) k o1=r2:=⟨_,rfl⟩
    rw[Option.bind_some,hrest,hr2]at hrun
    have HND:=hid (fun(W:World) (L:Nat) (h:oR W N P M n L o1 (.slice A t.length c) off g t) (hW:Ka.Laid W)=>aCY h HGA.out hl hW (fun h1=>hst9 o1 hinv1 _ (FW h1)) ⟨by omega,by omega⟩ k x hx hfx.1 (HT.out x (List.mem_of_getElem? hx)) hfx.2.2.2 (hinv1.small (by omega)) r2 hr2)
    have HNX:=hid (fun o2 (e:r2=some o2)=>hinv1.node hx (HT.out x (List.mem_of_getElem? hx)) (hr2.trans e))
    cases r2 with
    | none =>
     have HQ:=hid (show jW t=2 by rw[← HV.out,← hrun];rfl)
     clear hrun hrest hr1 hr2 hinv hch hbw hx hst9 hinv1 he1 hfx HNX
     go_wp2_with (first
      |(go_at_call 99;refine HLV.out.mono ?_;rintro e w5 ⟨rfl,hb5,h5⟩;obtain⟨h5,-⟩:=h5 o1 rfl;have hl5:=HL.out.below (hN▸HBW.out.trans hb5) hL1;replace h5:=hid h5;replace hb5:=hid hb5;replace hl5:=hid hl5)
      |(go_at_call 100;refine(HND.out _ _ h5.out hl5.out).mono ?_;rintro e w6 ⟨rfl,hb6,-⟩;replace hb6:=hid hb6))
     go_ret
     exact⟨by rw[HQ.out];rfl,hN▸(HBW.out.trans hb5.out).trans hb6.out⟩
    | some o2 =>
     have HNEXT:=hid (show AW t (k+1) o2=R from hrun)
     clear hrun hrest hr1 hr2 hinv hch hbw hx hst9 hinv1 he1 hfx
     go_wp2_with (first
      |(go_at_call 99;refine HLV.out.mono ?_;rintro e w5 ⟨rfl,hb5,h5⟩;obtain⟨h5,-⟩:=h5 o1 rfl;have hl5:=HL.out.below (hN▸HBW.out.trans hb5) hL1;replace h5:=hid h5;replace hb5:=hid hb5;replace hl5:=hid hl5)
      |(go_at_call 100;refine(HND.out _ _ h5.out hl5.out).mono ?_;rintro e w6 ⟨rfl,hb6,h6⟩;obtain⟨L6,h6,-,-⟩:=h6 o2 rfl;replace h6:=hid h6;replace hb6:=hid hb6))
     go_roundw
     case rel=>exact⟨k+1,o2,L6,by omega,by go_num,h6.out,(HBW.out.trans hb5.out).trans hb6.out,HNX.out o2 rfl,HNEXT.out⟩
     case measure=>simp[intOf];omega
  ·obtain rfl:k=t.length:=by omega
   have hrest:∀ o1,xH t t.length o1=some o1:=fun o1=>by unfold xH;rw[List.getElem?_eq_none (Nat.le_refl _)]
   cases r1 with
   | none =>
    have HQ:=hid (show jW t=2 by rw[← HV.out,← hrun];rfl)
    clear hrun hrest hr1 hinv hch hbw hst9
    go_wp2_with (first
     |(go_at_call 99;refine HLV.out.mono ?_;rintro e w5 ⟨rfl,hb5,-⟩;replace hb5:=hid hb5))
    go_ret
    exact⟨by rw[HQ.out];rfl,hN▸HBW.out.trans hb5.out⟩
   | some o1 =>
    have HQ:=hid (show tT o1=jW t by rw[← HV.out,← hrun,Option.bind_some,hrest];rfl)
    clear hrun hrest hr1 hinv hch hbw hst9
    go_wp2_with (first
     |(go_at_call 99;refine HLV.out.mono ?_;rintro e w5 ⟨rfl,hb5,h5⟩;obtain⟨h5,-⟩:=h5 o1 rfl;replace h5:=hid h5;replace hb5:=hid hb5)
     |(go_at_call 101;refine(T6 h5.out.op _ HQ.out).mono ?_;rintro e w7 ⟨rfl,rfl⟩))
    go_ret
    exact⟨rfl,hN▸HBW.out.trans hb5.out⟩
end Go.Proofs.YthbigkoihpgcfaaGreatDoor.Tr
namespace Go.Proofs.YthbigkoihpgcfaaGreatDoor.Fl
open Go.RowKit Go.Shelf Tr Nu Nl Cn
theorem W4 (t:List Nd) (off:Nat) (v:Value) (ht:t.length≤9000) (ft:Fit t) (hx:∀ x ∈ t,x.text.size≤9000) (w:World) (hL:Ka.Laid w) (hv:pK off w w.heap.size v t) (q:Int) (hq:((jW t:Nat):Int)=q) :
  Calls Tryz.prog 65 #[v] w fun e w'=>e=.returned (.int .i64 q)∧Below w.heap.size w w':=by
 subst hq
 exact Tr.aKF t off v ht ft hx w hL hv
theorem NJ {l:List Tk} (h:iC l) (hl:l.length≤1000000) {E:List Ev} (hE:aM l=some (E,[])):Fit (jY E):=by
 obtain⟨i1,i2,i3⟩:=vA l h E [] hE
 obtain⟨-,-,j3,-⟩:=CZ l (fun x hx=>(h x hx).2.1) E [] hE
 have hb:Bal E:=j3
 have hlen:(jY E).length≤l.length:=by rw[zT];exact i3
 have hall:=aAP (Q:=fun x=>x.kind<256∧(-9223372036854775808≤x.place∧x.place≤9223372036854775807)) (fun z x h=>h) E [] [] (fun x hx=>(by cases hx)) (fun e he _=>by
  have:=i1 e he
  unfold LH
  split
  ·exact⟨by show 46<256;omega,this.2⟩
  ·exact⟨this.1,this.2⟩)
 intro x hx
 obtain⟨j,hj⟩:=List.mem_iff_getElem?.1 hx
 obtain⟨a,b⟩:=SO hb hj
 have hx2:=hall x hx
 have hx3:=PN E [] [] 0 (by simp) x hx
 exact⟨hx2.1,by unfold maxLen;omega,hx2.2,by omega,by omega⟩
theorem SN (v:Value) (l:List Tk) (off:Nat) (hl9:l.length≤9000) (hf:iC l) (hcp:aDL v) (w:World) (hL:Ka.Laid w) (hv:bW off w w.heap.size v l) :
  Calls Tryz.prog 29 #[v] w (fun e w'=>∃ v',e=.returned (.tuple #[v',.int .i64 ((Da.z8 l:Nat):Int)])∧Below w.heap.size w w'):=by
 have hsm:W5 l:=W7 hf hl9
 have hl:l.length≤200000:=by omega
 obtain⟨A,c,rfl,hA⟩:=id hv
 obtain⟨hc,hcm⟩:=hcp _ _ _ rfl
 have HN:=hid (NK A c off l hf hl hc hcm w hv)
 have HL:=hid hL
 have hLN:=hL.1
 have HV:=hid hv
 have HF:=hid hf
 have HSM:=hid hsm
 clear hL hv hf hcp hA hsm hl9
 obtain⟨m,hm⟩:∃ m,l.length=m:=⟨_,rfl⟩
 have HM:=hid hm
 rw[hm]at HN HV hl hc ⊢
 clear hm
 go_enter Tryz.func29,Tryz.ntmps29
 go_wp2_with fail
 refine HN.out.mono ?_
 rintro e w1 ⟨v2,z,rfl,hb1,⟨E,hE,rfl,hown⟩ | ⟨hE,rfl⟩⟩
 ·have hp:pI l=some (jY E):=by unfold pI;rw[hE]
  have HE:=hid hE
  have HB1:=hid hb1
  have HV1:=hid ((HV.out.below hb1).mono hb1.size)
  have HO1:=hid hown
  have HT:=hid (show Da.z8 l=if mG l=true then 2 else jW (jY E) by unfold Da.z8;rw[hp])
  have HL1:=hid (HL.out.below hb1 hLN)
  clear hE hp hb1 hown HN
  go_wp2_with fail
  refine(JL _).mono ?_
  rintro e w' ⟨rfl,rfl⟩
  obtain⟨W,hW⟩:∃ W,w1.alloc (.cells #[.slice none 0 0] 89)=W:=⟨_,rfl⟩
  have hbW:Below w1.heap.size w1 W:=by rw[← hW];exact(Below.refl _ w1).alloc (Nat.le_refl _) _
  have hSW:AZ w1.heap.size [] W:=by
   refine⟨.slice none 0 0,?_,World.ownsRow_nil _ _ _ _⟩
   rw[← hW];exact Boxed.new w1 _ _
  have hAW:0<l.length→∃ g,A=some ⟨g,off,none⟩∧g<w1.heap.size∧∀ k x,l[k]?=some x→∀ j u,(cT x)[j]?=some u→W.cell? ⟨g,off+(k * 3+j),none⟩=some u:=fun h0=>by
   obtain⟨A',c',e,h⟩:=HV1.out
   injection e with e1 _ e3
   subst e1
   obtain⟨g,h1,h2,h3⟩:=h (by omega)
   exact⟨g,h1,h2,fun k x hx j u hu=>(hbW.cell (p:=⟨g,off+(k * 3+j),none⟩) h2).trans (h3 k x hx j u hu)⟩
  rw[hW]
  clear hW
  cases hw:mG l
  ·have HC:=hid (wU hSW A c off l HF.out (by rw[HM.out];exact hl) ⟨_,HE.out⟩ hAW false hw)
   rw[HM.out]at HC
   have HBW:=hid (Ba.chain HB1.out HB1.out.size hbW)
   have HW:=hid hw
   have HBW1:=hid hbW
   clear hSW hAW hbW hw
   go_wp2_with fail
   refine HC.out.mono ?_
   rintro e w2 ⟨rfl,hb2⟩
   have hb12:Below w1.heap.size w1 w2:=HBW1.out.trans hb2
   have HB2:=hid (Ba.chain HB1.out HB1.out.size hb12)
   have HR2:=hid (show pK 0 w2 w2.heap.size v2 (jY E) from ((Ba.Reads.hO NL rfl HO1.out:pK 0 w1 w1.heap.size v2 (jY E)).below hb12).mono hb12.size)
   have HCP:=hid (VH HO1.out)
   have HL2:=hid (HL1.out.below hb12 HL1.out.1)
   clear hb2 hb12 HC
   obtain⟨s1,s2⟩:=HSM.out E HE.out
   obtain⟨q,hq⟩:∃ q:Nat,jW (jY E)=q:=⟨_,rfl⟩
   have HCH:=hid (W4 (jY E) 0 v2 s1 (NJ HF.out (by have:=HM.out;omega) HE.out) s2 w2 HL2.out HR2.out ((q:Nat):Int) (by rw[hq]))
   have HQ:=hid hq
   have HT2:=hid (show Da.z8 l=q by
    have h:=HT.out
    rw[HW.out,if_neg (by decide),HQ.out]at h
    exact h)
   clear s1 s2 hq
   go_wp2_with fail
   refine HCH.out.mono ?_
   rintro e w3 ⟨rfl,hb3⟩
   have HB3:=hid (Ba.chain HB2.out HB2.out.size hb3)
   have HR3:=hid ((HR2.out.below hb3).mono hb3.size)
   clear hb3
   by_cases hq0:q=0
   ·have HT3:=hid (show Da.z8 l=0 by rw[HT2.out,hq0])
    subst hq0
    clear HT2 HT HQ HCH
    go_wp2
    go_ret2
    exact⟨v2,by rw[HT3.out];rfl,HB3.out⟩
   ·have HT3:=hid (show Da.z8 l=q from HT2.out)
    have z0:(((q:Nat):Int)==0)=false:=beq_eq_false_iff_ne.2 (by omega)
    have z1:(((q:Nat):Int) != 0)=true:=by rw[bne,z0];rfl
    clear HT2 HT HQ HCH hq0
    go_wp2
    go_ret2
    exact⟨.slice none 0 0,by rw[HT3.out];rfl,HB3.out⟩
  ·have HC:=hid (wU hSW A c off l HF.out (by rw[HM.out];exact hl) ⟨_,HE.out⟩ hAW true hw)
   rw[HM.out]at HC
   have HT3:=hid (show Da.z8 l=2 by rw[HT.out,if_pos hw])
   have HBW1:=hid hbW
   clear hSW hAW hbW hw HT
   go_wp2_with fail
   refine HC.out.mono ?_
   rintro e w2 ⟨rfl,hb2⟩
   have HB2:=hid (Ba.chain HB1.out HB1.out.size (HBW1.out.trans hb2))
   clear hb2
   go_wp2
   go_ret2
   exact⟨.slice none 0 0,by rw[HT3.out];rfl,HB2.out⟩
 ·have HT3:=hid (show Da.z8 l=2 by
   have hp:pI l=none:=by
    cases hp:pI l with
    | none=>rfl
    | some t =>
     obtain⟨E,h1,-⟩:=JM hp
     exact absurd h1 (hE E)
   unfold Da.z8
   rw[hp])
  have HB1:=hid hb1
  clear hb1 hE HN
  go_wp2
  go_ret2
  exact⟨.slice none 0 0,by rw[HT3.out];rfl,HB1.out⟩
theorem aK4 {l:List Tk} (hf:iC l) (hl:l.length≤1000000):Da.z8 l=(WG l).2:=by
 unfold Da.z8 WG
 cases hp:pI l with
 | none=>rfl
 | some t =>
  simp only[]
  split
  ·rfl
  ·obtain⟨E,hE,rfl⟩:=JM hp
   rw[aKG _ (fun x hx=>(NJ hf hl hE x hx).1)]
   split
   ·rfl
   ·rename_i h
    simpa using h
end Go.Proofs.YthbigkoihpgcfaaGreatDoor.Fl
namespace Go.Proofs.YthbigkoihpgcfaaGreatDoor.Da
open Go.RowKit Ba Ru Ck Ti Pa Fl Cu
def aE4 (l:List Rl) (t:List Tk) (q:Nat) (w:World) (e:Ending) (w':World):Prop :=
 Below w.heap.size w w'∧((q=0∧∃ v',e=.returned (.tuple #[v',.int .i64 0])∧I6 w.heap.size w' v' l t (fR t))∨(q≠0∧e=.returned (.tuple #[.slice none 0 0,.int .i64 ((q:Nat):Int)])))
theorem aDV (T:bT) {a:Addr} {l:List Rl} {lo hi:Nat} (A:Option Addr) (t:List Tk) (off n c:Nat) (hn:t.length=n) (hn1:n≤1000) (hf:iC t) (hnc:n≤c) (hcm:c≤maxLen) (hl:l.length≤1000) (hA:Acc dM l) (hfl:kD l) (HG:z8 t=0→aHD t) (w:World) (hL:bH w) (H:T.Is w (.pointer (some a)) l lo hi) (hr:bW off w w.heap.size (.slice A n c) t) :
  Calls Tryz.prog 13 #[.pointer (some a),.slice A n c] w (aE4 l t (z8 t) w):=by
 have HBG:=hid (CY T A t off n c hn hn1 hf hnc hcm hl hA hfl w hL H hr)
 have HTR:=hid (fun(V:World) (hV:Below w.heap.size w V)=>show Calls Tryz.prog 29 #[.slice A n c] V (fun e w'=>∃ v',e=.returned (.tuple #[v',.int .i64 ((z8 t:Nat):Int)])∧Below V.heap.size V w') from
  SN (.slice A n c) t off (by omega) hf (by
   intro A' n' c' e
   injection e with _ e1 e2
   subst e1;subst e2
   exact⟨hnc,hcm⟩) V (hL.kept hV).1.ka ((hr.below hV).mono hV.size))
 have HFL:=hid (fun(h0:z8 t=0) (V:World) (g rc:Nat) (E:oN T V a l lo hi t off g rc A n c)=>WZ E (HG h0))
 obtain⟨q,hq⟩:∃ q,z8 t=q:=⟨_,rfl⟩
 rw[hq]at HTR HFL ⊢
 unfold uA at HBG HFL
 obtain⟨nl,hnl⟩:∃ m,l.length=m:=⟨_,rfl⟩
 rw[hnl]at HBG HFL
 clear hf hl hA hfl HG hL H hr hn hnl hq
 go_enter Tryz.func13,Tryz.ntmps13
 go_wp2_with fail
 refine HBG.out.mono ?_
 rintro e w1 ⟨g,rc,rfl,hb1,E⟩
 have HE:=hid E
 have HB1:=hid hb1
 clear E hb1 HBG
 go_upto_region 2 with fail
 have hx:=heap_alloc_new w1 (.cells #[.pointer (some a),.slice (some ⟨g,0,none⟩) nl rc,.slice A n c] 67)
 have hb2:=(Below.refl w1.heap.size w1).alloc (Nat.le_refl _) (.cells #[.pointer (some a),.slice (some ⟨g,0,none⟩) nl rc,.slice A n c] 67)
 generalize w1.alloc _=w2 at hx hb2 ⊢
 obtain⟨B,hB⟩:∃ B,w1.heap.size=B:=⟨_,rfl⟩
 have HE2:=hid (HE.out.later hb2)
 have HB2:=hid (chain HB1.out HB1.out.size hb2)
 have HT2:=hid (HTR.out w2 (chain HB1.out HB1.out.size hb2))
 rw[hB]at hx ⊢
 have HX:=hid hx
 clear hx hb2 hB HTR HE HB1
 go_wp2_with fail
 refine HT2.out.mono ?_
 rintro e w3 ⟨v3,rfl,hb3⟩
 have HB3:=hid (chain HB2.out HB2.out.size hb3)
 have HE3:=hid (HE2.out.later hb3)
 have hx3:=(hb3.block B (Array.getElem?_eq_some_iff.1 HX.out).1).trans HX.out
 clear hb3 HT2
 by_cases hq0:q=0
 ·have HF3:=hid (HFL.out hq0 w3 g rc HE3.out)
  subst hq0
  obtain⟨e0,e1,e2⟩:=iG hx3
  clear HFL hx3
  go_wp2_with fail
  refine HF3.out.mono ?_
  rintro e w4 ⟨hb4,v4,avs,rfl,h1,h2,h3⟩
  have HB4:=hid (chain HB3.out HB3.out.size hb4)
  have HO:=hid (show I6 w.heap.size w4 v4 l t (fR t) from ⟨avs,h1,gH h2 HB3.out.size,fun k f b g1 g2=>gH (h3 k f b g1 g2) HB3.out.size⟩)
  clear hb4 h1 h2 h3 e0 e1 e2
  go_wp2
  go_ret2
  exact⟨HB4.out,.inl ⟨rfl,v4,rfl,HO.out⟩⟩
 ·have z0:((q:Int)==0)=false:=beq_eq_false_iff_ne.2 (by omega)
  have z1:((q:Int) != 0)=true:=by rw[bne,z0];rfl
  clear HFL hx3
  go_wp2
  go_ret2
  exact⟨HB3.out,.inr ⟨hq0,rfl⟩⟩
theorem aF2 (T:bT):aDS T where
 of:=fun v t off hn hf hc hl hA hfl HG w hL H hr=>by
  obtain⟨⟨a,rfl⟩,-⟩:=T.ptr H
  obtain⟨A,c,rfl,-⟩:=id hr
  obtain⟨h1,h2⟩:=hc _ _ _ rfl
  exact aDV T A t off t.length c rfl hn hf h1 h2 hl hA hfl HG w hL H hr
end Go.Proofs.YthbigkoihpgcfaaGreatDoor.Da
