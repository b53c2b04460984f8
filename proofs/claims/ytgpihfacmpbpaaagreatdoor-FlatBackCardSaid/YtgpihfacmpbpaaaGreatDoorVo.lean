/-
  Put together: TtB, TtC.
-/
import Derived.Test.YtgpihfacmpbpaaaGreatDoorVf
import Derived.Test.YtgpihfacmpbpaaaGreatDoorTrV
import Derived.Laws.EntriesVeiled
import Derived.Test.YtgpihfacmpbpaaaGreatDoorTsW
namespace Go.Proofs.YtgpihfacmpbpaaaGreatDoor.Tr
open Go.RowKit
theorem nU {α:Type} {l:List α} {i:Nat} {f:α→α} {b:α} (h:b ∈ l.modify i f):b ∈ l∨∃ a ∈ l,b=f a:=by
 obtain⟨j,hj⟩:=List.mem_iff_getElem?.1 h
 rw[List.getElem?_modify]at hj
 cases hl:l[j]? with
 | none=>rw[hl]at hj;split at hj<;>simp at hj
 | some a =>
  have ha:=List.mem_of_getElem? hl
  rw[hl]at hj
  split at hj
  ·exact .inr ⟨a,ha,by simpa using hj.symm⟩
  ·exact .inl (by simp at hj;exact hj▸ha)
theorem CX {l:List Lv} (h:0<l.length):aT l ∈ l:=by
 unfold aT
 rw[List.getD_eq_getElem?_getD,List.getElem?_eq_getElem (by omega)]
 exact List.getElem_mem _
theorem GR (o:St):TZ o.lv=(yD o).drop 1:=by unfold TZ yD;rw[List.map_drop]
def aET:Option St→Nat
 | none=>2
 | some o=>fO o
theorem N8 (t:List Nd):GP t=aET (qJ t 0 KI):=by unfold GP;cases qJ t 0 KI<;>rfl
structure E9 (t:List Nd) (k:Nat) (o:St):Prop where
 nodes:o.nodes=k
 pos:0<o.lv.length
 len:o.lv.length≤k+1
 one:∀ b ∈ o.lv,b.parts≤k∧b.lists≤k∧b.bytes≤k * 9000
 st:∀ s ∈ TZ o.lv,∃ x,t[s]?=some x∧1≤x.size∧(s:Int)+x.size≤t.length
theorem E9.start (t:List Nd):E9 t 0 KI:=⟨rfl,by decide,by decide,fun b hb=>by
 have:b=fN:=by simpa[KI] using hb
 subst this;decide,fun s hs=>by cases hs⟩
theorem E9.leave {t:List Nd} {k:Nat} {o:St} (h:E9 t k o) (h1:1<o.lv.length):E9 t k (cY o):=by
 have hl:=uS o h1
 refine⟨h.nodes,by omega,by have:=h.len;omega,fun b hb=>?_,fun s hs=>h.st s (E4 o s hs)⟩
 unfold cY at hb
 simp only[]at hb
 split at hb
 ·rcases nU hb with hb | ⟨a,ha,rfl⟩
  ·exact h.one b (List.mem_of_mem_take hb)
  ·exact h.one a (List.mem_of_mem_take ha)
 ·exact h.one b (List.mem_of_mem_take hb)
theorem E9.leaves {t:List Nd} {k:Nat} {z:Int}:∀ f o o',E9 t k o→jT t z f o=some o'→E9 t k o'
 | 0,o,o',h,e=>by cases e;exact h
 | f+1,o,o',h,e=>by
  unfold jT at e
  split at e
  ·next hc =>
   split at e
   ·exact E9.leaves f _ _ (h.leave hc.1) e
   ·cases e
  ·cases e;exact h
theorem E9.gF {t:List Nd} {k:Nat} {o:St} (h:E9 t k o):0≤gF t o∧gF t o≤t.length:=by
 unfold Tr.gF
 split
 ·omega
 ·next h1 =>
  obtain⟨x,hx,a,b⟩:=h.st _ (GO (by omega))
  rw[List.getD_eq_getElem?_getD,hx]
  show 0≤(_:Int)+x.size∧(_:Int)+x.size≤_
  omega
theorem AI {o:St} {k c:Nat} (h:∀ b ∈ o.lv,b.parts≤k∧b.lists≤k∧b.bytes≤k * 9000):∀ b ∈ (bB o c).lv,b.parts≤k+1∧b.lists≤k∧b.bytes≤k * 9000:=by
 intro b hb
 rcases nU hb with hb | ⟨a,ha,rfl⟩
 ·have:=h b hb;omega
 ·have:=h a ha
  exact⟨Nat.add_le_add_right this.1 1,this.2.1,this.2.2⟩
theorem dA {o:St} {k c:Nat} (h:∀ b ∈ o.lv,b.parts≤k∧b.lists≤k∧b.bytes≤k * 9000):∀ b ∈ (bD o c).lv,b.parts≤k∧b.lists≤k∧b.bytes≤k * 9000:=by
 intro b hb
 unfold bD at hb
 split at hb
 ·rcases nU hb with hb | ⟨a,ha,rfl⟩
  ·exact h b hb
  ·exact h a ha
 ·exact h b hb
theorem E9.node {t:List Nd} {k:Nat} {o o':St} {x:Nd} (h:E9 t k o) (hx:t[k]?=some x) (hs:x.text.size≤9000) (e:tU x (Tr.gF t o) k o=some o'):E9 t (k+1) o':=by
 have he:=h.gF
 unfold tU at e
 split at e
 ·cases e
 next h1 =>
 split at e
 ·split at e
  ·cases e
   have hst:=AH o x.text.size
   have hl:(kP o x.text.size).lv.length=o.lv.length:=by rw[← eZ,hst,eZ]
   have hlen:=h.len
   refine⟨by rw[yF,h.nodes],by rw[hl];exact h.pos,by omega,fun b hb=>?_,fun s hs=>h.st s (by rw[GR]at hs ⊢;rw[hst]at hs;exact hs)⟩
   unfold kP at hb
   cases hw:cX o.lv 110 with
   | none =>
    rw[hw]at hb
    have:=AI h.one b hb
    omega
   | some i =>
    rw[hw]at hb
    rcases nU hb with hb | ⟨a,ha,rfl⟩
    ·have:=AI h.one b hb;omega
    ·have:=AI h.one a ha
     refine⟨this.1,by show a.lists≤_;omega,?_⟩
     show a.bytes+x.text.size≤_
     omega
  ·cases e
 ·split at e
  ·cases e
   have hst:=yG o x.kind
   have hl:=qK hst
   simp only[List.length_singleton]at hl
   have hlen:=h.len
   refine⟨by rw[sH,h.nodes],by omega,by omega,fun b hb=>?_,fun s hs=>?_⟩
   ·have hb':b ∈ (bB (bD o x.kind) x.kind).lv++[kA o x.kind]:=hb
    rcases List.mem_append.1 hb' with hb | hb
    ·have:=AI (dA h.one) b hb;omega
    ·have:b=kA o x.kind:=by simpa using hb
     subst this
     have hL:=(h.one _ (CX h.pos)).2.1
     refine⟨Nat.zero_le _,?_,Nat.zero_le _⟩
     show (aT o.lv).lists+(if x.kind=108 then 1 else 0)≤k+1
     split<;>omega
   ·rw[GR,hst,List.drop_append_of_le_length (by rw[eZ];exact h.pos)]at hs
    rcases List.mem_append.1 hs with hs | hs
    ·exact h.st s (by rw[GR];exact hs)
    ·have:s=k:=by rw[← h.nodes];simpa using hs
     subst this
     exact⟨x,hx,by omega,by omega⟩
  ·cases e
theorem E9.small {t:List Nd} {k:Nat} {o:St} (h:E9 t k o) (hk:k≤9000):mX o:=by
 have hn:=h.nodes
 have hl:=h.len
 have ht:=h.one _ (CX h.pos)
 refine⟨by omega,by omega,fun c=>?_,by omega,by omega,fun b hb=>?_⟩
 ·have hp:0<(bD o c).lv.length:=by rw[← eZ,E6,eZ];exact h.pos
  have:=dA (c:=c) h.one _ (CX hp)
  omega
 ·have:=(h.one b hb).2.2
  have:k * 9000≤9000 * 9000:=Nat.mul_le_mul_right _ hk
  omega
theorem q6.make {w1 w2:World} {M n L g off:Nat} {T:TypeId} {v:Value} {t:List Nd} (hmap:Ts.iE w2 M n rk) (hown:w2.ownsRow w1.heap.size 110 8 (.slice (some ⟨L,0,none⟩) 1 1) 1 (Ba.rows cL [fN])) (hLM:L≠M) (hb:Below w1.heap.size w1 w2) (hg:g<w1.heap.size)
  (hrd:∀ k x,t[k]?=some x→w1.cell? ⟨g,off+k * 4,none⟩=some (.int .u8 (x.kind:Int))∧w1.cell? ⟨g,off+k * 4+1,none⟩=some (.string x.text)∧w1.cell? ⟨g,off+k * 4+2,none⟩=some (.int .i64 x.place)∧w1.cell? ⟨g,off+k * 4+3,none⟩=some (.int .i64 x.size)) :
  q6 (w2.alloc (.cells #[.map (some M),.slice (some ⟨L,0,none⟩) 1 1,.int .i64 0,.bool false,.bool false,v] T)) w1.heap.size w2.heap.size M n L KI v off g t∧Below w1.heap.size w1 (w2.alloc (.cells #[.map (some M),.slice (some ⟨L,0,none⟩) 1 1,.int .i64 0,.bool false,.bool false,v] T)):=by
 have hMl:=hmap.lt
 have hLl:=(hown.lt L rfl).2
 have hLg:=(hown.lt L rfl).1
 have hs:=hb.size
 have hbb:=(Below.refl w2.heap.size w2).alloc (Nat.le_refl _) (.cells #[.map (some M),.slice (some ⟨L,0,none⟩) 1 1,.int .i64 0,.bool false,.bool false,v] T)
 have hall:=hb.trans (hbb.mono hs)
 refine⟨⟨⟨by simp,⟨1,by simp;rfl,hown.alloc _⟩,by simp;rfl,by simp;rfl,by simp;rfl,fun i=>by simp,hmap.aX (hbb.block M hMl),by decide,rfl,fun b hb'=>?_,hs,by omega,hLM,by omega⟩,by simp,fun k x hx=>?_,Nat.lt_of_lt_of_le hg hall.size,by omega,by omega⟩,hall⟩
 ·have:b=fN:=by simpa[KI] using hb'
  subst this;decide
 ·obtain⟨a,b,c,d⟩:=hrd k x hx
  have hc:∀ i,(w2.alloc (.cells #[.map (some M),.slice (some ⟨L,0,none⟩) 1 1,.int .i64 0,.bool false,.bool false,v] T)).cell? ⟨g,i,none⟩=w1.cell? ⟨g,i,none⟩:=fun i=>World.cell?_of_block (w:=w1) (hall.block g hg)
  exact⟨(hc _).trans a,(hc _).trans b,(hc _).trans c,(hc _).trans d⟩
set_option maxRecDepth 100000 in
set_option maxHeartbeats 8000000 in
theorem TN (t:List Nd) (off:Nat) (v:Value) (hl:t.length≤9000) (hf:Fit t) (ht:∀ x ∈ t,x.text.size≤9000) (w:World) (hL:Ka.Laid w) (hr:aS off w w.heap.size v t) :
  Calls Tryz.prog 20 #[v] w fun e w'=>e=.returned (.int .i64 ((aL t:Nat):Int))∧Below w.heap.size w w':=by
 obtain⟨A,c,rfl,hA⟩:=hr
 obtain⟨g,hgA,hgw,hrd⟩:∃ g,(0<t.length→A=some ⟨g,off,none⟩)∧g<w.heap.size∧∀ k x,t[k]?=some x→w.cell? ⟨g,off+k * 4,none⟩=some (.int .u8 (x.kind:Int))∧w.cell? ⟨g,off+k * 4+1,none⟩=some (.string x.text)∧w.cell? ⟨g,off+k * 4+2,none⟩=some (.int .i64 x.place)∧w.cell? ⟨g,off+k * 4+3,none⟩=some (.int .i64 x.size):=by
  by_cases h0:0<t.length
  ·obtain⟨g,rfl,hg,hc⟩:=hA h0
   exact⟨g,fun _=>rfl,hg,fun k x hx=>cE hc k x hx⟩
  ·refine⟨0,fun h=>absurd h h0,Nat.lt_of_le_of_lt (Nat.zero_le _) hL.1,fun k x hx=>?_⟩
   have:=(List.getElem?_eq_some_iff.1 hx).1
   omega
 obtain⟨R,hR⟩:∃ R,qJ t 0 KI=R:=⟨_,rfl⟩
 have HV:=Lib.hid (show aET R=aL t by rw[← TM t (fun x hx=>(hf x hx).1),← hR,N8])
 have HR:=Lib.hid hR
 have HRD:=Lib.hid hrd
 have HGA:=Lib.hid hgA
 have HF:=Lib.hid hf
 have HT:=Lib.hid ht
 have HL:=Lib.hid hL
 have hL1:=hL.1
 clear hA hrd hgA hR hf ht hL
 go_enter Tryz.func20,Tryz.ntmps20
 go_wp2_with (first
  |(go_at_call 35;refine(PU w).mono ?_;rintro e w2 ⟨M,n,L,rfl,hmap,hown,hLM,hMge,hb2⟩;replace hmap:=Lib.hid hmap;replace hown:=Lib.hid hown;replace hb2:=Lib.hid hb2))
 obtain⟨hch,hbs⟩:=q6.make (T:=80) (v:=.slice A t.length c) hmap.out hown.out hLM hb2.out hgw HRD.out
 obtain⟨P,hP⟩:∃ P,w2.heap.size=P:=⟨_,rfl⟩
 rw[hP]at hch ⊢
 generalize w2.alloc (.cells #[.map (some M),.slice (some ⟨L,0,none⟩) 1 1,.int .i64 0,.bool false,.bool false,.slice A t.length c] 80)=w3 at hch hbs ⊢
 have HC:=Lib.hid hch
 have HBS:=Lib.hid hbs
 clear hch hbs hP hmap hown hb2 HRD
 obtain⟨N,hN⟩:∃ N,w.heap.size=N:=⟨_,rfl⟩
 rw[hN]at HC HBS hgw hMge
 go_loopw [10] (fun i wr=>∃ (k:Nat) (o:St) (L:Nat),k≤t.length∧i=.int .i64 k∧q6 wr N P M n L o (.slice A t.length c) off g t∧Below N w wr∧E9 t k o∧qJ t k o=R) (fun i _=>t.length - (intOf i).toNat)
 case atStart=>exact⟨0,KI,L,by omega,rfl,HC.out,HBS.out,E9.start t,HR.out⟩
 case round =>
  obtain⟨k,o,L,hk,rfl,hch,hbw,hinv,hrun⟩:=hrel
  rw[wG hk]at hrun
  have hst9:∀ o,E9 t k o→∀ s ∈ TZ o.lv,∃ x,t[s]?=some x∧0≤x.size∧x.size≤9000:=fun o ho s hs=>by
   obtain⟨x,hx,a,b⟩:=ho.st s hs
   exact⟨x,hx,by omega,by omega⟩
  obtain⟨r1,hr1⟩:∃ r1,jT t (k:Int) o.lv.length o=r1:=⟨_,rfl⟩
  have HLV:=Lib.hid (N2 hch HGA.out hl (k:Int) (hst9 o hinv) r1 hr1)
  have HBW:=Lib.hid hbw
  rw[hr1]at hrun
  by_cases hlt:k<t.length
  ·obtain⟨x,hx⟩:∃ x,t[k]?=some x:=⟨_,List.getElem?_eq_getElem hlt⟩
   have hrest:∀ o1,qU t k o1=(tU x (gF t o1) k o1).bind fun o2=>qJ t (k+1) o2:=fun o1=>by unfold qU;rw[hx]
   cases r1 with
   | none =>
    have HQ:=Lib.hid (show aL t=2 by rw[← HV.out,← hrun];rfl)
    clear hrun hrest hr1 hinv hch hbw hx hst9
    go_wp2_with (first
     |(go_at_call 44;refine HLV.out.mono ?_;rintro e w5 ⟨rfl,hb5,-⟩;replace hb5:=Lib.hid hb5))
    go_ret
    exact⟨by rw[HQ.out];rfl,hN▸HBW.out.trans hb5.out⟩
   | some o1 =>
    have hinv1:=E9.leaves _ _ _ hinv hr1
    have he1:=hinv1.gF
    have hfx:=HF.out x (List.mem_of_getElem? hx)
    obtain⟨r2,hr2⟩:∃ r2,tU x (gF t o1) k o1=r2:=⟨_,rfl⟩
    rw[Option.bind_some,hrest,hr2]at hrun
    have HND:=Lib.hid (fun(W:World) (L:Nat) (h:q6 W N P M n L o1 (.slice A t.length c) off g t) (hW:Ka.Laid W)=>F6 h HGA.out hl hW (fun h1=>hst9 o1 hinv1 _ (GO h1)) ⟨by omega,by omega⟩ k x hx hfx.1 (HT.out x (List.mem_of_getElem? hx)) hfx.2.2.2 (hinv1.small (by omega)) r2 hr2)
    have HNX:=Lib.hid (fun o2 (e:r2=some o2)=>hinv1.node hx (HT.out x (List.mem_of_getElem? hx)) (hr2.trans e))
    cases r2 with
    | none =>
     have HQ:=Lib.hid (show aL t=2 by rw[← HV.out,← hrun];rfl)
     clear hrun hrest hr1 hr2 hinv hch hbw hx hst9 hinv1 he1 hfx HNX
     go_wp2_with (first
      |(go_at_call 44;refine HLV.out.mono ?_;rintro e w5 ⟨rfl,hb5,h5⟩;obtain⟨h5,-⟩:=h5 o1 rfl;have hl5:=HL.out.below (hN▸HBW.out.trans hb5) hL1;replace h5:=Lib.hid h5;replace hb5:=Lib.hid hb5;replace hl5:=Lib.hid hl5)
      |(go_at_call 45;refine(HND.out _ _ h5.out hl5.out).mono ?_;rintro e w6 ⟨rfl,hb6,-⟩;replace hb6:=Lib.hid hb6))
     go_ret
     exact⟨by rw[HQ.out];rfl,hN▸(HBW.out.trans hb5.out).trans hb6.out⟩
    | some o2 =>
     have HNEXT:=Lib.hid (show qJ t (k+1) o2=R from hrun)
     clear hrun hrest hr1 hr2 hinv hch hbw hx hst9 hinv1 he1 hfx
     go_wp2_with (first
      |(go_at_call 44;refine HLV.out.mono ?_;rintro e w5 ⟨rfl,hb5,h5⟩;obtain⟨h5,-⟩:=h5 o1 rfl;have hl5:=HL.out.below (hN▸HBW.out.trans hb5) hL1;replace h5:=Lib.hid h5;replace hb5:=Lib.hid hb5;replace hl5:=Lib.hid hl5)
      |(go_at_call 45;refine(HND.out _ _ h5.out hl5.out).mono ?_;rintro e w6 ⟨rfl,hb6,h6⟩;obtain⟨L6,h6,-,-⟩:=h6 o2 rfl;replace h6:=Lib.hid h6;replace hb6:=Lib.hid hb6))
     go_roundw
     case rel=>exact⟨k+1,o2,L6,by omega,by go_num,h6.out,(HBW.out.trans hb5.out).trans hb6.out,HNX.out o2 rfl,HNEXT.out⟩
     case measure=>simp[intOf];omega
  ·obtain rfl:k=t.length:=by omega
   have hrest:∀ o1,qU t t.length o1=some o1:=fun o1=>by unfold qU;rw[List.getElem?_eq_none (Nat.le_refl _)]
   cases r1 with
   | none =>
    have HQ:=Lib.hid (show aL t=2 by rw[← HV.out,← hrun];rfl)
    clear hrun hrest hr1 hinv hch hbw hst9
    go_wp2_with (first
     |(go_at_call 44;refine HLV.out.mono ?_;rintro e w5 ⟨rfl,hb5,-⟩;replace hb5:=Lib.hid hb5))
    go_ret
    exact⟨by rw[HQ.out];rfl,hN▸HBW.out.trans hb5.out⟩
   | some o1 =>
    have HQ:=Lib.hid (show fO o1=aL t by rw[← HV.out,← hrun,Option.bind_some,hrest];rfl)
    clear hrun hrest hr1 hinv hch hbw hst9
    go_wp2_with (first
     |(go_at_call 44;refine HLV.out.mono ?_;rintro e w5 ⟨rfl,hb5,h5⟩;obtain⟨h5,-⟩:=h5 o1 rfl;replace h5:=Lib.hid h5;replace hb5:=Lib.hid hb5)
     |(go_at_call 39;refine(lC h5.out.op _ HQ.out).mono ?_;rintro e w7 ⟨rfl,rfl⟩))
    go_ret
    exact⟨rfl,hN▸HBW.out.trans hb5.out⟩
end Go.Proofs.YtgpihfacmpbpaaaGreatDoor.Tr
namespace Go.Proofs.YtgpihfacmpbpaaaGreatDoor.Tr
open Go.RowKit
theorem aBY:lJ:=⟨TG,TN,fun t s a b u v ht hs _ _ w hu hv=>YB a b u v t s ht hs w hu hv⟩
end Go.Proofs.YtgpihfacmpbpaaaGreatDoor.Tr
