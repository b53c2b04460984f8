/-
  Put together: NlL, NlM, NlN, NlO, NlP.
-/
import Derived.Test.YtgpihfacmpbpaaaGreatDoorNe
namespace Go.Proofs.YtgpihfacmpbpaaaGreatDoor.Nl
open Go.RowKit Tr Nu
theorem jO {P:Program} (w:World) {ops:Array Oper} {rest:List Oper} {o:Oper} {a:Act} {Q:Exit→Act→World→Prop} (hg:o.guard=none) (s x:Operand) (t:TypeId) (hop:o.op=Op.call { callee:=Callee.builtin Builtin.append,args:=#[s,x],argTypes:=#[t,t] })
  (base:Nat) (e:TypeId) (i:TypeInfo) (size:Nat) (h1:P.underlying t=some (.slice e)) (h2:P.info? e=some i) (v:Value) (n:Nat) (xs:List Value) (hs:a.eval s=v) (hown:w.ownsRow base e size v n xs) (A:Option Addr) (c:Nat) (hx:a.eval x=.slice A 0 c) (hK:wpList P ops Q rest (a.put o.dst v) w) :
  wpList P ops Q (o::rest) a w:=by
 refine wpList_plain hg fun K hK'=>?_
 have hrun:(Builtin.append_ #[t,t] o.type #[v,.slice A 0 c]).run P w=.ok v w:=by
  rcases hown.2 with⟨rfl,rfl⟩ | ⟨g,cap,cur,rfl,_,_,hnc,_⟩<;>cases A <;>
   simp[Builtin.append_,run_underlying h1,sizeOf,typeInfo,Builtin.lenOf,Builtin.firstCells,storeCells,loadCells,loadCellsFrom, *]
 unfold Oper.wp
 simp[execOp,hop,resolve,invoke,builtin,hs,hx,hrun,Result.andThen]
 exact hK' _ _ hK
theorem JC (W:World) {B:Nat} {v:Value} {l:List Nat} (hl:∀ b ∈ l,b<256) (h:W.ownsRow B 5 1 v l.length (aQ l)) (h0:0<l.length) :
  (convert 37 9 v).run Tryz.prog W=.ok (.string (Lx.bytesOf l)) W:=by
 obtain⟨A,c,rfl,-,-,hA⟩:=aW h
 obtain⟨g,rfl,-,-⟩:=hA h0
 have:=run_convert_bytes_back (P:=Tryz.prog) W 37 9 5 ⟨g,0,none⟩ c (l.map UInt8.ofNat) Tryz.underlying37 Tryz.underlying5 Tryz.underlying9 (fun k hk=>by
  rw[List.length_map]at hk
  have e:(⟨g,0,none⟩:Addr).add k=⟨g,k,none⟩:=by unfold Addr.add;split<;>simp_all
  rw[e,h.cellAt k (by omega)]
  unfold aQ
  rw[List.getElem?_map,List.getElem?_eq_getElem hk]
  have:=hl l[k] (List.getElem_mem _)
  simp[Nat.mod_eq_of_lt this])
 rw[List.length_map]at this
 exact this
def j9 (Q:List Rs):List Nat × Int:=Q.foldl (fun st r=>(st.1++r.kept,if st.1.length=0 then r.place else st.2)) ([],0)
def J4 (Q:List Rs):List Nd:=if (j9 Q).1.length=0 then [] else [⟨46,Lx.bytesOf (j9 Q).1,(j9 Q).2,1⟩]
theorem ED (Q:List Rs) (r:Rs):j9 (Q++[r])=((j9 Q).1++r.kept,if (j9 Q).1.length=0 then r.place else (j9 Q).2):=by unfold j9;rw[List.foldl_append];rfl
theorem WG (Q:List Rs) (h:∀ r ∈ Q,r.kept.length≤9000):(j9 Q).1.length≤Q.length * 9000:=by
 have:∀ (Q:List Rs) (st:List Nat × Int),(∀ r ∈ Q,r.kept.length≤9000)→(Q.foldl (fun st r=>(st.1++r.kept,if st.1.length=0 then r.place else st.2)) st).1.length≤st.1.length+Q.length * 9000:=by
  intro Q
  induction Q with
  | nil=>intro st _;simp
  | cons r Q ih =>
   intro st h
   have h1:=ih (st.1++r.kept,if st.1.length=0 then r.place else st.2) (fun r hr=>h r (by simp[hr]))
   have h2:=h r (by simp)
   simp only[List.foldl_cons,List.length_append,List.length_cons]at h1 ⊢
   omega
 have:=this Q ([],0) h
 simpa[j9] using this
structure uV (w5 wr:World) (Wb:Nat) (v va:Value) (out:List Nd):Prop where
 c0:wr.cell? ⟨Wb,0,none⟩=some v
 c1:wr.cell? ⟨Wb,1,none⟩=some va
 c2:∃ vo,wr.cell? ⟨Wb,2,none⟩=some vo∧wr.ownsRow (Wb+1) 41 4 vo out.length (Ba.rows cN out)
 fz:∀ i,wr.frozen? ⟨Wb,i,none⟩=false
 below:Below Wb w5 wr
 size:Wb<wr.heap.size
theorem uV.on {w5 wr wx:World} {Wb:Nat} {v va:Value} {out:List Nd} (h:uV w5 wr Wb v va out) (hw:Below wr.heap.size wr wx):uV w5 wx Wb v va out:=by
 obtain⟨c0,c1,⟨vo,c2,own⟩,fz,below,size⟩:=h
 have hb:=hw.block Wb size
 exact⟨(World.cell?_of_block (a:=⟨Wb,0,none⟩) hb).trans c0,(World.cell?_of_block (a:=⟨Wb,1,none⟩) hb).trans c1,⟨vo,(World.cell?_of_block (a:=⟨Wb,2,none⟩) hb).trans c2,dY own (fun g hg=>hw.block g (cP own hg).2)⟩,fun i=>(World.frozen?_of_block (a:=⟨Wb,i,none⟩) hb).trans (fz i),below.trans (hw.mono (by omega)),Nat.lt_of_lt_of_le size hw.size⟩
theorem uV.more {w5 wr w6:World} {Wb:Nat} {v va vo:Value} {out:List Nd} (h:uV w5 wr Wb v va out) (c2:wr.cell? ⟨Wb,2,none⟩=some vo) (own:wr.ownsRow (Wb+1) 41 4 vo out.length (Ba.rows cN out)) {x:Nd} {o:Obj} {gg cap:Nat} (hgrow:(wr.alloc o).grownBy w6 vo.ownBlock) (own6:w6.ownsRow (Wb+1) 41 4 (.slice (some ⟨gg,0,none⟩) (out.length+1) cap) (out.length+1) (Ba.rows cN (out++[x]))) :
  uV w5 (w6.setCell ⟨Wb,2,none⟩ (.slice (some ⟨gg,0,none⟩) (out.length+1) cap)) Wb v va (out++[x])∧w6.cell? ⟨Wb,2,none⟩=some vo∧w6.frozen? ⟨Wb,2,none⟩=false:=by
 have hs6:wr.heap.size+1≤w6.heap.size:=by have:=hgrow.size;simpa using this
 have hkeep:∀ b,b<wr.heap.size→vo.ownBlock≠some b→w6.heap[b]?=wr.heap[b]?:=fun b hb hn=>(hgrow.block b (by simp;omega) (Ne.symm hn)).trans (Below.heap_alloc wr o b hb)
 have hvo:∀ b,b≤Wb→vo.ownBlock≠some b:=fun b hb e=>by have:=cP own e;omega
 have hW:=hkeep Wb h.size (hvo Wb (Nat.le_refl _))
 have hc:=fun i=>World.cell?_of_block (a:=⟨Wb,i,none⟩) hW
 have hf:∀ i,w6.frozen? ⟨Wb,i,none⟩=false:=fun i=>(World.frozen?_of_block (a:=⟨Wb,i,none⟩) hW).trans (h.fz i)
 have hgg:Wb+1≤gg∧gg<w6.heap.size:=cP own6 rfl
 have c6:=(hc 2).trans c2
 have hne:∀ b,b≠Wb→(w6.setCell ⟨Wb,2,none⟩ (.slice (some ⟨gg,0,none⟩) (out.length+1) cap)).heap[b]?=w6.heap[b]?:=fun b hb=>Below.heap_setCell w6 _ _ b hb
 refine⟨⟨?_,?_,⟨_,World.cell?_setCell_same _ _ _ c6,?_⟩,fun i=>by rw[World.frozen?_setCell];exact hf i,?_,by simp;have:=h.size;omega⟩,c6,hf 2⟩
 ·exact(World.cell?_setCell_other _ _ _ _ (fun e=>by injection e with _ e _;omega)).trans ((hc 0).trans h.c0)
 ·exact(World.cell?_setCell_other _ _ _ _ (fun e=>by injection e with _ e _;omega)).trans ((hc 1).trans h.c1)
 ·rw[List.length_append,List.length_singleton]
  exact dY own6 (fun g hg=>hne g (by
   have hg:some gg=some g:=hg
   injection hg with hg
   omega))
 ·refine⟨hgrow.os.trans h.below.os,hgrow.tape.trans h.below.tape,hgrow.output.trans h.below.output,by have:=h.below.size;simp;omega,fun b hb=>?_⟩
  exact(hne b (by omega)).trans ((hkeep b (by have:=h.size;omega) (hvo b (by omega))).trans (h.below.block b hb))
structure F4 (w5:World) (t:List Nd) (va:Value) (A:List (Rs × Value)):Prop where
 row:w5.ownsRow 0 126 3 va t.length (Ba.rows cR A)
 len:A.length=t.length
 kept:∀ p ∈ A,p.1.kept.length≤9000∧(∀ b ∈ p.1.kept,b<256)∧w5.ownsRow 0 5 1 p.2 p.1.kept.length (aQ p.1.kept)
def TxI (w wr:World) (Q:List Rs) (pl vk:Value):Prop:=pl=.int .i64 (j9 Q).2∧wr.ownsRow w.heap.size 5 1 vk (j9 Q).1.length (aQ (j9 Q).1)∧Below w.heap.size w wr
end Go.Proofs.YtgpihfacmpbpaaaGreatDoor.Nl
namespace Go.Proofs.YtgpihfacmpbpaaaGreatDoor.Nl
open Go.RowKit Tr Nu
theorem JB:(Tryz.prog.info? 41).map (fun i=>(i.zero,i.size,i.bytes))=some (some (.agg #[.int .u8 0,.string { data:=#[] },.int .i64 0,.int .i64 0]),4,40):=by kernel_rfl
set_option maxRecDepth 100000 in
set_option maxHeartbeats 8000000 in
theorem aAG {w5 w:World} {Wb:Nat} {t:List Nd} {v va:Value} {A:List (Rs × Value)} {out:List Nd} (HR:F4 w5 t va A) (h5:w5.heap.size≤Wb) (hW:uV w5 w Wb v va out) (ht:t.length≤9000) (ho:out.length≤9000) (p m c:Nat) (hm:0<m) (hpm:p+m≤t.length) (hc9:m≤c) (_hc8:c≤maxLen) (Ab c0:Nat) (hva:va=.slice (some ⟨Ab,0,none⟩) t.length c0) :
  Calls Tryz.prog 75 #[.pointer (some ⟨Wb,0,none⟩),.slice (some ⟨Ab,p * 3,none⟩) m c] w fun e w'=>e=.returned (.tuple #[])∧uV w5 w' Wb v va (out++J4 (((A.drop p).take m).map Prod.fst)):=by
 obtain⟨i0,hi0,hz0,hz1,hz2⟩:=info_parts FZ
 obtain⟨j0,hj0,gz0,gz1,gz2⟩:=info_parts JB
 obtain⟨Q,hQ⟩:∃ Q,((A.drop p).take m).map Prod.fst=Q:=⟨_,rfl⟩
 have hQl:Q.length=m:=by rw[← hQ,List.length_map,List.length_take,List.length_drop,HR.len];omega
 have hQk:∀ r ∈ Q,r.kept.length≤9000∧∀ b ∈ r.kept,b<256:=fun r hr=>by
  rw[← hQ]at hr
  obtain⟨q,hq,rfl⟩:=List.mem_map.1 hr
  have:=HR.kept q (List.mem_of_mem_drop (List.mem_of_mem_take hq))
  exact⟨this.1,this.2.1⟩
 have hat:∀ k,k<m→∃ r vk,Q[k]?=some r∧A[p+k]?=some (r,vk):=fun k hk=>by
  obtain⟨⟨r,vk⟩,h1⟩:=fV (l:=A) (i:=p+k) (by rw[HR.len];omega)
  exact⟨r,vk,by rw[← hQ,List.getElem?_map,List.getElem?_take,if_pos hk,List.getElem?_drop,h1];rfl,h1⟩
 have HRR:=Lib.hid HR
 have HWW:=Lib.hid hW
 have HQK:=Lib.hid hQk
 have HAT:=Lib.hid hat
 have HQL:=Lib.hid hQl
 have hWs:=hW.size
 have hAb:Ab<w5.heap.size:=by
  have:=HR.row
  rw[hva]at this
  exact(cP this rfl).2
 rw[hQ]
 clear hQ HR hW hQk hat hQl
 go_enter Tryz.func75,Tryz.ntmps75
 go_wp2
 go_loopw [4,5,10] (fun s4 s5 s10 wr=>∃ k:Nat,s10=.int .i64 (k:Int)∧k≤m∧TxI w wr (Q.take k) s4 s5) (fun _ _ s10 _=>m - (intOf s10).toNat)
 case atStart=>exact⟨0,rfl,Nat.zero_le _,rfl,World.ownsRow_nil _ _ _ _,Below.refl _ _⟩
 case round =>
  obtain⟨k,rfl,hkm,rfl,own,hB⟩:=hrel
  have k0:(0:Int)≤(k:Int):=by omega
  have hGl:(j9 (Q.take k)).1.length≤9000 * 9000:=by
   have:=WG (Q.take k) (fun r hr=>(HQK.out r (List.mem_of_mem_take hr)).1)
   rw[List.length_take]at this
   have:min k Q.length≤9000:=by omega
   have h2:min k Q.length * 9000≤9000 * 9000:=Nat.mul_le_mul_right _ this
   omega
  have hGb:∀ b ∈ (j9 (Q.take k)).1,b<256:=by
   have:∀ (Q:List Rs) (st:List Nat × Int),(∀ b ∈ st.1,b<256)→(∀ r ∈ Q,∀ b ∈ r.kept,b<256)→∀ b ∈ (Q.foldl (fun st r=>(st.1++r.kept,if st.1.length=0 then r.place else st.2)) st).1,b<256:=by
    intro Q
    induction Q with
    | nil=>intro st h _;exact h
    | cons r Q ih =>
     intro st h1 h2
     refine ih (st.1++r.kept,if st.1.length=0 then r.place else st.2) (fun b hb=>?_) (fun r hr=>h2 r (by simp[hr]))
     rcases List.mem_append.1 hb with h | h
     ·exact h1 b h
     ·exact h2 r (by simp) b h
   exact this (Q.take k) ([],0) (by simp) (fun r hr=>(HQK.out r (List.mem_of_mem_take hr)).2)
  obtain⟨gl,hgl⟩:∃ gl,(j9 (Q.take k)).1=gl:=⟨_,rfl⟩
  obtain⟨gp,hgp⟩:∃ gp,(j9 (Q.take k)).2=gp:=⟨_,rfl⟩
  rw[hgl]at own hGl hGb
  rw[hgp]
  obtain⟨q,hq⟩:∃ q,gl.length=q:=⟨_,rfl⟩
  rw[hq]at own hGl
  obtain⟨Ak,ck,rfl,hck,hqc,-⟩:=aW own
  have HO:=Lib.hid own
  have HB:=Lib.hid hB
  have hBs:=hB.size
  have HQ2:=Lib.hid hq
  by_cases hlt:k<m
  ·obtain⟨r,vk,hr,hA⟩:=HAT.out k hlt
   have HG1:=Lib.hid (show j9 (Q.take (k+1))=(gl++r.kept,if q=0 then r.place else gp) by
    rw[List.take_add_one,hr]
    show j9 (Q.take k++[r])=_
    rw[ED,hgl,hgp,hq])
   have hcell:∀ j,wr.cell? ⟨Ab,j,none⟩=w5.cell? ⟨Ab,j,none⟩:=fun j=>World.cell?_of_block (a:=⟨Ab,j,none⟩) ((hB.block Ab (by omega)).trans (HWW.out.below.block Ab (by omega)))
   have hrow:=HRR.out.row
   rw[hva]at hrow
   have y0:wr.cell? ⟨Ab,p * 3+k * 3,none⟩=some (.int .i64 (r.node:Int)):=by
    rw[hcell]
    have:=hrow.cellAt ((p+k) * 3+0) (by omega)
    rw[Ba.cB cR jF _ _ _ hA 0 (by omega)]at this
    rw[← Nat.add_mul];exact this
   have y1:wr.cell? ⟨Ab,p * 3+k * 3+1,none⟩=some (.int .i64 r.place):=by
    rw[hcell,← Nat.add_mul,hrow.cellAt ((p+k) * 3+1) (by omega),Ba.cB cR jF _ _ _ hA 1 (by omega)];rfl
   have y2:wr.cell? ⟨Ab,p * 3+k * 3+2,none⟩=some vk:=by
    rw[hcell,← Nat.add_mul,hrow.cellAt ((p+k) * 3+2) (by omega),Ba.cB cR jF _ _ _ hA 2 (by omega)];rfl
   obtain⟨kl,kb,kown⟩:=HRR.out.kept (r,vk) (List.mem_of_getElem? hA)
   simp only[]at kl kb kown
   obtain⟨mk,hmk⟩:∃ mk,r.kept.length=mk:=⟨_,rfl⟩
   rw[hmk]at kl kown
   obtain⟨Av,cv,rfl,hcv,hmc,hAv⟩:=aW kown
   have HKO:=Lib.hid kown
   have k1:(k:Int)<(m:Int):=by omega
   have hwW:Wb<w.heap.size:=hWs
   have hAbr:Ab<wr.heap.size:=by omega
   have HMK:=Lib.hid hmk
   have HRB:=Lib.hid kb
   have HNX:=Lib.hid (fun(W:World) (v':Value) (hB':Below w.heap.size wr W) (own':W.ownsRow w.heap.size 5 1 v' (q+mk) (aQ gl++aQ r.kept))=>(show TxI w W (Q.take (k+1)) (.int .i64 (if q=0 then r.place else gp)) v' from by
    unfold TxI
    rw[HG1.out]
    refine⟨rfl,?_,HB.out.trans hB'⟩
    rw[List.length_append,HQ2.out,HMK.out]
    unfold aQ at own' ⊢
    rw[List.map_append];exact own'))
   have HSR:=Lib.hid (fun(gv:Nat) (e:Av=some ⟨gv,0,none⟩) (o:Obj) (j:Nat) (u:Value) (hu:(aQ r.kept)[j]?=some u)=>(show (wr.alloc o).cell? ((⟨gv,0,none⟩:Addr).add j)=some u from by
    subst e
    have hadd:(⟨gv,0,none⟩:Addr).add j=⟨gv,j,none⟩:=by unfold Addr.add;split<;>simp_all
    have hgv:gv<w5.heap.size:=(cP HKO.out rfl).2
    have hj:j<mk:=by have:=(List.getElem?_eq_some_iff.1 hu).1;rw[aQ,List.length_map,HMK.out]at this;exact this
    rw[hadd]
    have h1:=HKO.out.cellAt j (by omega)
    rw[hu]at h1
    exact(World.cell?_of_block (a:=⟨gv,j,none⟩) ((Below.heap_alloc wr o gv (by omega)).trans ((HB.out.block gv (by omega)).trans (HWW.out.below.block gv (by omega))))).trans h1))
   have HGB:=Lib.hid (fun(o:Obj) (w6:World) (hg:(wr.alloc o).grownBy w6 (Value.slice Ak q ck).ownBlock)=>(show Below w.heap.size wr w6 from ((Below.refl _ _).alloc (by omega) o).grown hg (by simp;omega) (fun j ej=>(cP HO.out ej).1)))
   have h1c:∀ u ∈ aQ r.kept,u.oneCell'=true:=fun u hu=>by
    unfold aQ at hu
    obtain⟨b,-,rfl⟩:=List.mem_map.1 hu
    rfl
   clear own hB hr hA hcell hrow kb kown hq hgl hgp hmk HG1 HRR hGb
   rcases Nat.eq_zero_or_pos q with rfl | hq0
   ·rcases Nat.eq_zero_or_pos mk with rfl | hm0
    ·go_wp2_with (at_builtin;refine jO _ rfl _ _ 37 rfl w.heap.size 5 i0 1 Tryz.underlying37 hi0 (.slice Ak 0 ck) 0 _ rfl (HO.out.alloc _) Av cv rfl ?_)
     go_roundw
     case rel=>exact⟨k+1,by go_num,by omega,HNX.out _ _ ((Below.refl _ _).alloc (by omega) _) (by
      rw[show aQ r.kept=[] by rw[List.length_eq_zero_iff.1 HMK.out];rfl,List.append_nil]
      exact HO.out.alloc _)⟩
     case measure=>simp[intOf];omega
    ·obtain⟨gv,rfl,-,hgv⟩:=hAv hm0
     go_wp2_with (at_builtin;refine wpList_append_lies _ rfl _ _ _ rfl w.heap.size 5 i0 _ 1 1 Tryz.underlying37 hi0 hz0 hz1 hz2 rfl (by omega) (.slice Ak 0 ck) 0 _ rfl (HO.out.alloc _) ⟨gv,0,none⟩ mk cv (aQ r.kept) rfl (by rw[aQ,List.length_map,HMK.out];omega) (HSR.out gv rfl _) h1c hm0 (by unfold maxLen;omega) (by omega) (by simp;omega) (wr.heap.size+1) (by simp) ?_;intro gg cap w6 hown6 hgrow6 hat6 hlt6;have HN6:=Lib.hid (HNX.out w6 _ (HGB.out _ w6 hgrow6) hown6);clear hown6 hgrow6 hat6 hlt6)
     go_roundw
     case rel=>exact⟨k+1,by go_num,by omega,by have:=HN6.out;rw[Nat.zero_add]at this;exact this⟩
     case measure=>simp[intOf];omega
   ·have t1:((q:Int)==0)=false:=beq_eq_false_iff_ne.2 (by omega)
    have HNY:=Lib.hid (show ∀ (W:World) (v':Value),Below w.heap.size wr W→W.ownsRow w.heap.size 5 1 v' (q+mk) (aQ gl++aQ r.kept)→TxI w W (Q.take (k+1)) (.int .i64 gp) v' by
     have:=HNX.out
     rw[if_neg (by omega)]at this
     exact this)
    clear HNX
    rcases Nat.eq_zero_or_pos mk with rfl | hm0
    ·go_wp2_with (at_builtin;refine jO _ rfl _ _ 37 rfl w.heap.size 5 i0 1 Tryz.underlying37 hi0 (.slice Ak q ck) q _ rfl (HO.out.alloc _) Av cv rfl ?_)
     go_roundw
     case rel=>exact⟨k+1,by go_num,by omega,HNY.out _ _ ((Below.refl _ _).alloc (by omega) _) (by
      rw[show aQ r.kept=[] by rw[List.length_eq_zero_iff.1 HMK.out];rfl,List.append_nil]
      exact HO.out.alloc _)⟩
     case measure=>simp[intOf];omega
    ·obtain⟨gv,rfl,-,hgv⟩:=hAv hm0
     go_wp2_with (at_builtin;refine wpList_append_lies _ rfl _ _ _ rfl w.heap.size 5 i0 _ 1 1 Tryz.underlying37 hi0 hz0 hz1 hz2 rfl (by omega) (.slice Ak q ck) q _ rfl (HO.out.alloc _) ⟨gv,0,none⟩ mk cv (aQ r.kept) rfl (by rw[aQ,List.length_map,HMK.out];omega) (HSR.out gv rfl _) h1c hm0 (by unfold maxLen;omega) (by omega) (by simp;omega) (wr.heap.size+1) (by simp) ?_;intro gg cap w6 hown6 hgrow6 hat6 hlt6;have HN6:=Lib.hid (HNY.out w6 _ (HGB.out _ w6 hgrow6) hown6);clear hown6 hgrow6 hat6 hlt6)
     go_roundw
     case rel=>exact⟨k+1,by go_num,by omega,HN6.out⟩
     case measure=>simp[intOf];omega
  ·obtain rfl:k=m:=by omega
   have hQt:Q.take k=Q:=by rw[← HQL.out,List.take_length]
   rw[hQt]at hgl hgp
   have HWr:uV w5 wr Wb v va out:=HWW.out.on hB
   rcases Nat.eq_zero_or_pos q with rfl | hq0
   ·have HF:=Lib.hid (show uV w5 wr Wb v va (out++J4 Q) from by
     unfold J4
     rw[hgl,hq,if_pos rfl,List.append_nil];exact HWr)
    clear own hB hq hgl hgp HRR hGb HWr HWW
    go_wp2
    go_end0
    exact⟨rfl,HF.out⟩
   ·obtain⟨gv,rfl,-,hgv⟩:∃ g,Ak=some ⟨g,0,none⟩∧w.heap.size≤g∧g<wr.heap.size:=by
     obtain⟨A',c',e,-,-,h⟩:=aW own
     injection e with e
     subst e
     exact h hq0
    have hcv:=JC wr.drew (l:=gl) hGb (by rw[hq];exact own) (by omega)
    obtain⟨c0,c1,⟨vo,c2,oown⟩,fz,below,size⟩:=id HWr
    have HGN:=Lib.hid (show out++J4 Q=out++[⟨46,Lx.bytesOf gl,gp,1⟩] by
     unfold J4
     rw[hgl,hgp,if_neg (by omega)])
    have HMO:=Lib.hid (fun(o:Obj) (w6:World) (gg cap:Nat) hgrow own6=>HWr.more c2 oown (x:=⟨46,Lx.bytesOf gl,gp,1⟩) (o:=o) (w6:=w6) (gg:=gg) (cap:=cap) hgrow own6)
    obtain⟨s,hs⟩:∃ s,Lx.bytesOf gl=s:=⟨_,rfl⟩
    rw[hs]at hcv HGN HMO
    have HOO:=Lib.hid oown
    have hWb1:Wb+1≤wr.heap.size:=size
    clear own hB hq hgl hgp HRR hGb HWr HWW hs c0 c1 oown fz below HO HB HQ2
    go_upto_region 10 with fail
    go_region_law
     ((refine step_append_lies _ (by rfl) _ _ _ (by rfl) (Wb+1) 41 j0 _ 4 40 Tryz.underlying22 hj0 gz0 gz1 gz2 rfl (by omega) vo out.length _ (by rfl) ((HOO.out.alloc _).drew) ⟨wr.heap.size,0,none⟩ 1 1 [.int .u8 46,.string s,.int .i64 gp,.int .i64 1] (by rfl) (by rfl) (World.news_of_block (cs:=#[.int .u8 46,.string s,.int .i64 gp,.int .i64 1]) (t:=41) (fr:=(0,0)) (heap_alloc_new wr _)) (by simp[Value.oneCell']) (by omega) (by unfold maxLen;omega) (by omega) (by simp;omega) (wr.heap.size+1) (by simp) ?_;intro gg cap w6 hown6 hgrow6 hat6 hlt6;obtain⟨hf6,hc6,hz6⟩:=HMO.out _ w6 gg cap ⟨hgrow6.os,hgrow6.tape,hgrow6.output,hgrow6.size,hgrow6.block⟩ (by rw[Ba.cW];exact hown6);have HF6:=Lib.hid hf6;clear hf6 hgrow6 hat6 hlt6 hown6))
    all_goals
     go_end0
     rw[HGN.out]
     exact⟨rfl,HF6.out⟩
end Go.Proofs.YtgpihfacmpbpaaaGreatDoor.Nl
namespace Go.Proofs.YtgpihfacmpbpaaaGreatDoor.Nl
open Go.RowKit Tr Nu
def yY (t:List Nd) (a:Nat) (L:List Lx.Lx):List Ev:=iV (asNew t) (aU t) a L
def oV (t:List Nd) (a:Nat) (L:List Lx.Lx):List Nd:=aP (bM (yY t a L))
section
variable {t:List Nd} (hp:∀ x ∈ t,gM x)
include hp
theorem BU {a b:Nat} {L:List Lx.Lx} (h:fJ t a b=some L) (hab:a≤b) (hb:b≤t.length):eR (yY t a L)∧eC L=b - a:=by
 have hw:=yN t hp (b - a) a b L (Nat.le_refl _) hab hb h
 refine⟨nX hw _ _ _,?_⟩
 rw[mD hw,List.length_drop,List.length_take];omega
theorem BV {a b:Nat} {L:List Lx.Lx} (h:fJ t a b=some L) (hab:a≤b) (hb:b≤t.length):(oV t a L).length≤b - a:=by
 unfold oV
 rw[dV]
 have h1:=(vQ (yY t a L) []).2
 have h2:bI (yY t a L)=eC L:=F5 _ _ _ _
 have h3:=(BU hp h hab hb).2
 have h4:bI (bM (yY t a L))≤bI []+bI (yY t a L):=h1
 have h5:bI []=0:=rfl
 omega
end
theorem IV {t:List Nd} {i e:Nat} {L:List Lx.Lx} (h:fJ t i e=some L) (hlt:i<e) :
  ∃ x n R,t[i]?=some x∧x.size=((n:Nat):Int)∧1≤n∧i+n≤e∧fJ t (i+n) e=some R∧(x.kind=46→n=1)∧(x.kind≠46→∃ M,fJ t (i+1) (i+n)=some M):=by
 obtain⟨x,n,Lb,R,hx,hs,hn,hle,hb,hr,rfl⟩:=R7 h hlt
 refine⟨x,n,R,hx,hs,hn,hle,hr,fun hk=>?_,fun hk=>?_⟩
 ·rw[iM t i e hlt,hx]at h
  simp only[]at h
  rw[if_neg (by omega),if_pos hk]at h
  by_cases h1:x.size=1
  ·omega
  ·rw[if_neg h1]at h;cases h
 ·rw[lK hx hk hs hn (Nat.le_refl _)]at hb
  obtain⟨M,hM,-⟩:=Option.bind_eq_some_iff.1 hb
  exact⟨M,hM⟩
structure NdI (t:List Nd) (a i z:Nat) (LA:List Lx.Lx):Prop where
 YV:a≤i
 le2:i≤z
 ev:fJ t a i=some LA
 rest:∃ LB,fJ t i z=some LB
 ends:i<z→∀ x,t[i]?=some x→x.kind=46→qO (bM (yY t a LA))
def txS (t:List Nd) (i m:Nat):List Ev:=(List.range m).map fun j=>jC (asNew t (i+j)).1 (asNew t (i+j)).2
theorem aC6 (t:List Nd):∀ m i,(∀ j,j<m→∃ x,t[i+j]?=some x∧x.kind=46∧x.size=1)→∃ LT,fJ t i (i+m)=some LT∧yY t i LT=txS t i m:=by
 intro m
 induction m with
 | zero=>intro i _;exact⟨[],dT _ _ _ (Nat.le_refl _),rfl⟩
 | succ m ih =>
  intro i h
  obtain⟨x,hx,hk,hs⟩:=h 0 (by omega)
  rw[Nat.add_zero]at hx
  obtain⟨LT,h1,h2⟩:=ih (i+1) (fun j hj=>by
   have:=h (j+1) (by omega)
   rw[show i+(j+1)=i+1+j by omega]at this
   exact this)
  refine⟨pB x.text::LT,?_,?_⟩
  ·rw[oN (by omega) hx hk hs,show i+(m+1)=i+1+m by omega,h1];rfl
  ·unfold yY at h2 ⊢
   rw[nY rfl,h2]
   unfold txS
   rw[List.range_succ_eq_map,List.map_cons,List.map_map]
   congr 1
   refine List.map_congr_left fun j _=>?_
   show jC (asNew t (i+1+j)).1 _=jC (asNew t (i+(j+1))).1 _
   rw[show i+1+j=i+(j+1) by omega]
theorem WH (t:List Nd) (i:Nat):∀ (m:Nat) (Q:List Rs),Q.length=m→(∀ j r,Q[j]?=some r→(asNew t (i+j)).1=Lx.bytesOf r.kept∧(r.kept≠[]→(asNew t (i+j)).2=r.place)) →
  bM (txS t i m)=if (j9 Q).1.length=0 then [] else [jC (Lx.bytesOf (j9 Q).1) (j9 Q).2]:=by
 intro m
 induction m with
 | zero=>intro Q hQ _;rw[List.length_eq_zero_iff.1 hQ];rfl
 | succ m ih =>
  intro Q hQ h
  obtain⟨Q',r,rfl⟩:∃ Q' r,Q=Q'++[r]:=by
   rcases List.eq_nil_or_concat Q with e | ⟨Q',r,e⟩
   ·rw[e]at hQ;cases hQ
   ·exact⟨Q',r,by rw[e,List.concat_eq_append]⟩
  have hl:Q'.length=m:=by simpa using hQ
  have hrec:=ih Q' hl (fun j r' hr'=>h j r' (by rw[List.getElem?_append_left (List.getElem?_eq_some_iff.1 hr').1];exact hr'))
  obtain⟨h1,h2⟩:=h m r (by rw[List.getElem?_append_right (by omega),hl,Nat.sub_self];rfl)
  rw[ED,show txS t i (m+1)=txS t i m++[jC (asNew t (i+m)).1 (asNew t (i+m)).2] by unfold txS;rw[List.range_succ,List.map_append];rfl,fQ,hrec,h1]
  by_cases h0:r.kept=[]
  ·rw[h0,cI (x:=jC (Lx.bytesOf []) _) rfl (show (Lx.bytesOf []).size=0 by decide),List.append_nil]
   by_cases hg:(j9 Q').1.length=0
   ·rw[if_pos hg,if_pos hg]
   ·rw[if_neg hg,if_neg hg,if_neg hg]
  ·have hne:(jC (Lx.bytesOf r.kept) (asNew t (i+m)).2).text.size≠0:=by
    show (Lx.bytesOf r.kept).size≠0
    rw[Lx.c9]
    exact fun e=>h0 (List.length_eq_zero_iff.1 e)
   have hlen:¬ ((j9 Q').1++r.kept).length=0:=by
    rw[List.length_append]
    have:r.kept.length≠0:=fun e=>h0 (List.length_eq_zero_iff.1 e)
    omega
   rw[if_neg hlen]
   by_cases hg:(j9 Q').1.length=0
   ·rw[if_pos hg,if_pos hg,aI rfl hne cC,h2 h0,List.length_eq_zero_iff.1 hg];rfl
   ·rw[if_neg hg,if_neg hg,show [jC (Lx.bytesOf (j9 Q').1) (j9 Q').2]=[]++[jC (Lx.bytesOf (j9 Q').1) (j9 Q').2] from rfl,bX rfl hne rfl,nL];rfl
theorem aAH {t:List Nd} {i m:Nat} {Q:List Rs} (hQ:Q.length=m) (h:∀ j r,Q[j]?=some r→(asNew t (i+j)).1=Lx.bytesOf r.kept∧(r.kept≠[]→(asNew t (i+j)).2=r.place)):aP (bM (txS t i m))=J4 Q:=by
 rw[WH t i m Q hQ h]
 unfold J4
 by_cases hg:(j9 Q).1.length=0
 ·rw[if_pos hg,if_pos hg];rfl
 ·rw[if_neg hg,if_neg hg,FD]
section
variable {t:List Nd} (hp:∀ x ∈ t,gM x)
include hp
theorem NdI.texts {a i z b:Nat} {LA:List Lx.Lx} (h:NdI t a i z LA) (hto:z≤t.length) (hib:i<b) (hb:b≤z) (hx:∀ j,i≤j→j<b→∃ x,t[j]?=some x∧x.kind=46∧x.size=1) (hr:∃ LB,fJ t b z=some LB) (hne:b<z→∀ x,t[b]?=some x→x.kind≠46)
  {Q:List Rs} (hQ:Q.length=b - i) (hq:∀ j r,Q[j]?=some r→(asNew t (i+j)).1=Lx.bytesOf r.kept∧(r.kept≠[]→(asNew t (i+j)).2=r.place)) :
  ∃ LA',NdI t a b z LA'∧oV t a LA'=oV t a LA++J4 Q:=by
 obtain⟨LT,h1,h2⟩:=aC6 t (b - i) i (fun j hj=>hx (i+j) (by omega) (by omega))
 rw[show i+(b - i)=b by omega]at h1
 obtain⟨x,hx1,hx2,-⟩:=hx i (Nat.le_refl _) hib
 have he:=h.ends (by omega) x hx1 hx2
 have l1:=h.YV
 have hev:=nG t (i - a) a i b LA LT (Nat.le_refl _) h.YV (by omega) h.ev h1
 have hB:=BU hp h.ev h.YV (by omega)
 have hB2:=BU hp h1 (by omega) (by omega)
 refine⟨LA++LT,⟨by omega,hb,hev,hr,fun hlt y hy hk=>absurd hk (hne hlt y hy)⟩,?_⟩
 have e:yY t a (LA++LT)=yY t a LA++yY t i LT:=by
  unfold yY
  rw[eX,hB.2,show a+(i - a)=i by omega]
 show aP (bM (yY t a (LA++LT)))=_
 rw[e,EE he,oH hB.1.join hB2.1.join,h2,aAH hQ hq]
 rfl
theorem NdI.node {a i z n:Nat} {LA M:List Lx.Lx} (h:NdI t a i z LA) (hto:z≤t.length) {x:Nd} (hx:t[i]?=some x) (hk:x.kind≠46) (hs:x.size=(n:Int)) (hn:1≤n) (hle:i+n≤z) (hM:fJ t (i+1) (i+n)=some M) (hr:∃ LB,fJ t (i+n) z=some LB) :
  ∃ LA',NdI t a (i+n) z LA'∧oV t a LA'=oV t a LA++⟨x.kind,x.text,x.place,((oV t (i+1) M).length:Int)+1⟩::oV t (i+1) M:=by
 have l1:=h.YV
 have h1:fJ t i (i+n)=some (jJ x.kind::(M++[nB])):=by
  rw[lK hx hk hs hn (Nat.le_refl _),hM,Option.bind_some,dT _ _ _ (Nat.le_refl _)];rfl
 have hev:=nG t (i - a) a i (i+n) LA _ (Nat.le_refl _) h.YV (by omega) h.ev h1
 have hB:=BU hp h.ev h.YV (by omega)
 have hB2:=BU hp hM (by omega) (by omega)
 have e:yY t a (LA++jJ x.kind::(M++[nB]))=yY t a LA++mC x.kind x.place::(yY t (i+1) M++[lT]):=by
  unfold yY
  rw[eX,hB.2,show a+(i - a)=i by omega,kD,show aU t i=x.place by unfold aU;rw[hx]]
 have ej:bM (yY t a (LA++jJ x.kind::(M++[nB])))=bM (yY t a LA)++mC x.kind x.place::(bM (yY t (i+1) M)++[lT]):=by
  rw[e,M5]
 refine⟨LA++jJ x.kind::(M++[nB]),⟨by omega,hle,hev,hr,fun _ _ _ _=>?_⟩,?_⟩
 ·rw[ej,show bM (yY t a LA)++mC x.kind x.place::(bM (yY t (i+1) M)++[lT])=(bM (yY t a LA)++mC x.kind x.place::bM (yY t (i+1) M))++[lT] by simp]
  exact bK (by decide)
 ·show aP (bM (yY t a (LA++jJ x.kind::(M++[nB]))))=_
  have hpx:x.text=aA:=hp x (List.mem_of_getElem? hx) hk
  rw[ej,oH hB.1.join (hB2.1.join.node _ _),wO hB2.1.join,hpx]
  rfl
end
end Go.Proofs.YtgpihfacmpbpaaaGreatDoor.Nl
namespace Go.Proofs.YtgpihfacmpbpaaaGreatDoor.Nl
open Go.RowKit Tr Nu
def uL (w5:World) (Wb:Nat) (t:List Nd) (v va:Value) (d:Nat):Prop :=
 ∀ (a z:Nat) (L:List Lx.Lx) (out:List Nd) (w:World),z - a≤d→a≤z→z≤t.length→fJ t a z=some L→out.length≤a→uV w5 w Wb v va out →
  Calls Tryz.prog 42 #[.pointer (some ⟨Wb,0,none⟩),.int .i64 (a:Int),.int .i64 (z:Int)] w fun e w'=>e=.returned (.tuple #[])∧uV w5 w' Wb v va (out++oV t a L)
theorem uV.sized {w5 wr:World} {Wb:Nat} {v va:Value} {out:List Nd} (h:uV w5 wr Wb v va out) {g c h0:Nat} {x:Nd} {s:Int} (hx:out[h0]?=some x) (c2:wr.cell? ⟨Wb,2,none⟩=some (.slice (some ⟨g,0,none⟩) out.length c)) (own:wr.ownsRow (Wb+1) 41 4 (.slice (some ⟨g,0,none⟩) out.length c) out.length (Ba.rows cN out)) :
  uV w5 (wr.setCell ⟨g,h0 * 4+3,none⟩ (.int .i64 s)) Wb v va (out.set h0 ⟨x.kind,x.text,x.place,s⟩):=by
 have hg:Wb+1≤g∧g<wr.heap.size:=cP own rfl
 have s1:=(own.stored (h0 * 4+3) (.int .i64 s)).1
 rw[Ba.gS cN dX out h0 x ⟨x.kind,x.text,x.place,s⟩ hx 3 _ (by omega) rfl]at s1
 have hb:∀ b,b≤Wb→(wr.setCell ⟨g,h0 * 4+3,none⟩ (.int .i64 s)).heap[b]?=wr.heap[b]?:=fun b hb=>Below.heap_setCell wr _ _ b (fun e=>by have e:b=g:=e;omega)
 have hW:=hb Wb (Nat.le_refl _)
 refine⟨(World.cell?_of_block (a:=⟨Wb,0,none⟩) hW).trans h.c0,(World.cell?_of_block (a:=⟨Wb,1,none⟩) hW).trans h.c1,⟨_,(World.cell?_of_block (a:=⟨Wb,2,none⟩) hW).trans c2,?_⟩,fun i=>(World.frozen?_of_block (a:=⟨Wb,i,none⟩) hW).trans (h.fz i),?_,by simp;exact h.size⟩
 ·rw[List.length_set];exact s1
 ·exact h.below.trans ⟨rfl,rfl,rfl,by simp,fun b hbb=>hb b (by omega)⟩
theorem uV.drew {w5 wr:World} {Wb:Nat} {v va:Value} {out:List Nd} (h:uV w5 wr Wb v va out):uV w5 wr.drew Wb v va out:=h.on ⟨rfl,rfl,rfl,Nat.le_refl _,fun _ _=>rfl⟩
set_option maxRecDepth 100000 in
set_option maxHeartbeats 8000000 in
theorem F6 {w5 w:World} {Wb off:Nat} {t:List Nd} {v va:Value} {d:Nat} (HN:uL w5 Wb t v va d) (hp:∀ x ∈ t,gM x) (hv:aS off w5 w5.heap.size v t) (h5:w5.heap.size≤Wb) {out:List Nd} (hW:uV w5 w Wb v va out) (ht:t.length≤9000) {i n:Nat} {x:Nd} {M:List Lx.Lx} (hx:t[i]?=some x) (hs:x.size=(n:Int)) (h1:1≤n) (hle:i+n≤t.length) (hd:n≤d+1) (hM:fJ t (i+1) (i+n)=some M) (ho:out.length≤i) :
  Calls Tryz.prog 76 #[.pointer (some ⟨Wb,0,none⟩),.int .i64 (i:Int)] w fun e w'=>e=.returned (.tuple #[])∧uV w5 w' Wb v va (out++⟨x.kind,x.text,x.place,((oV t (i+1) M).length:Int)+1⟩::oV t (i+1) M):=by
 obtain⟨j0,hj0,gz0,gz1,gz2⟩:=info_parts JB
 have hML:=BV hp hM (by omega) hle
 have HC:=Lib.hid (fun W (h:uV w5 W Wb v va (out++[x]))=>HN (i+1) (i+n) M (out++[x]) W (by omega) (by omega) hle hM (by simp;omega) h)
 have HE:=Lib.hid (fun W (h:aS off W w5.heap.size v t)=>BK v t off ht i x hx ((i+n:Nat):Int) (by rw[hs];omega) (by omega) (by omega) w5.heap.size W h)
 have hRd:∀ W out',uV w5 W Wb v va out'→aS off W w5.heap.size v t:=fun W out' h=>hv.below (h.below.mono h5)
 have HRD:=Lib.hid hRd
 obtain⟨c0,c1,⟨vo,c2,oown⟩,fz,below,size⟩:=id hW
 have hv1:=hRd w out hW
 obtain⟨Av,cv,rfl,hA⟩:=hv1
 obtain⟨g,rfl,hglt,hcell⟩:=hA (by omega)
 obtain⟨d0,d1,d2,d3⟩:=cE hcell i _ hx
 obtain⟨Ao,co,rfl,-,-,-⟩:=aW oown
 have hil:=(List.getElem?_eq_some_iff.1 hx).1
 obtain⟨xk,xt,xp,xs⟩:=x
 simp only[]at d0 d1 d2 d3 hs ⊢
 have i0:(0:Int)≤(i:Int):=by omega
 have i1:(i:Int)<(t.length:Int):=by omega
 have fz2:=fz 2
 have HMO:=Lib.hid (fun(o:Obj) (w6:World) (gg cap:Nat) hgrow own6=>hW.more c2 oown (x:=⟨xk,xt,xp,xs⟩) (o:=o) (w6:=w6) (gg:=gg) (cap:=cap) hgrow own6)
 have HOO:=Lib.hid oown
 have hWb1:Wb+1≤w.heap.size:=size
 have hgw:g<w.heap.size:=by omega
 obtain⟨h0,hh0⟩:∃ h0,out.length=h0:=⟨_,rfl⟩
 have HH:=Lib.hid hh0
 rw[hh0]at c2 HOO HMO ho
 have hWb:Wb<w.heap.size:=size
 clear HN hp hv hRd hcell hA fz below size oown c1 hh0 hx hM hs
 go_enter Tryz.func76,Tryz.ntmps76
 go_upto_region 1 with fail
 go_cut [] (fun wx=>uV w5 wx Wb (.slice (some ⟨g,off,none⟩) t.length cv) va (out++[(⟨xk,xt,xp,xs⟩:Nd)]))
 case first =>
  go_region_law
   ((refine step_append_lies _ (by rfl) _ _ _ (by rfl) (Wb+1) 41 j0 _ 4 40 Tryz.underlying22 hj0 gz0 gz1 gz2 rfl (by omega) (.slice Ao h0 co) h0 _ (by rfl) ((HOO.out.alloc _).drew) ⟨w.heap.size,0,none⟩ 1 1 [.int .u8 (xk:Int),.string xt,.int .i64 xp,.int .i64 xs] (by rfl) (by rfl) (World.news_of_block (cs:=#[.int .u8 (xk:Int),.string xt,.int .i64 xp,.int .i64 xs]) (t:=41) (fr:=(0,0)) (heap_alloc_new w _)) (by simp[Value.oneCell']) (by omega) (by unfold maxLen;omega) (by omega) (by simp;omega) (w.heap.size+1) (by simp) ?_;intro gg cap w6 hown6 hgrow6 hat6 hlt6;obtain⟨hf6,hc6,hz6⟩:=HMO.out _ w6 gg cap ⟨hgrow6.os,hgrow6.tape,hgrow6.output,hgrow6.size,hgrow6.block⟩ (by rw[Ba.cW];exact hown6);have HF6:=Lib.hid hf6;clear hf6 hgrow6 hat6 hlt6 hown6))
  all_goals
   go_wp2_with fail
   go_meet
   exact HF6.out
 case rest =>
  have e0:=hcut.c0
  have hE:=HE.out _ (HRD.out _ _ hcut)
  have hC:=HC.out _ hcut
  clear hcut
  have HEE:=Lib.hid hE
  have HCC:=Lib.hid hC
  clear hE hC HC HE d0 d1 d2 d3 c2 fz2
  go_wp2_with fail
  refine HEE.out.mono ?_
  rintro e w7 ⟨rfl,rfl⟩
  go_wp2_with fail
  refine HCC.out.mono ?_
  rintro e w7 ⟨rfl,hW7⟩
  obtain⟨z,hz⟩:∃ z,(out++[(⟨xk,xt,xp,xs⟩:Nd)]++oV t (i+1) M).length=z:=⟨_,rfl⟩
  obtain⟨-,-,⟨vo7,c27,own7⟩,fz7,-,-⟩:=id hW7
  have hzz:z=h0+1+(oV t (i+1) M).length:=by rw[← hz,List.length_append,List.length_append,List.length_singleton,HH.out]
  rw[hz]at own7
  obtain⟨A7,c7,rfl,-,hzc,hA7⟩:=aW own7
  obtain⟨g7,rfl,-,hg7⟩:=hA7 (by omega)
  have hx7:(out++[(⟨xk,xt,xp,xs⟩:Nd)]++oV t (i+1) M)[h0]?=some ⟨xk,xt,xp,xs⟩:=by
   rw[List.append_assoc,List.getElem?_append_right (by rw[HH.out];omega),HH.out,Nat.sub_self];rfl
  obtain⟨-,-,-,k3⟩:=iY hz own7 hx7
  have f3:=own7.frozenAt (h0 * 4+3)
  have hF:=fun s=>hW7.sized (s:=s) hx7 (by rw[hz];exact c27) (by rw[hz];exact own7)
  have HF:=Lib.hid (show ∀ s,s=((oV t (i+1) M).length:Int)+1→uV w5 (w7.setCell ⟨g7,h0 * 4+3,none⟩ (.int .i64 s)) Wb _ va (out++⟨xk,xt,xp,((oV t (i+1) M).length:Int)+1⟩::oV t (i+1) M) from fun s e=>by
   have:=hF s
   rw[List.append_assoc,List.set_append_right _ _ (by rw[HH.out];omega),HH.out,Nat.sub_self]at this
   subst e
   exact this)
  have n0:(0:Int)≤(h0:Int):=by omega
  have n1:(h0:Int)<(z:Int):=by omega
  have hwr:IntKind.i64.wrap ((z:Int) - (h0:Int))=(z:Int) - (h0:Int):=IntWalk.i64_in _ ⟨by omega,by omega⟩
  have HZ:=Lib.hid (show (z:Int) - (h0:Int)=((oV t (i+1) M).length:Int)+1 by omega)
  clear hz own7 hA7 hx7 hF hW7 fz7 HOO HMO HRD HCC HEE hzz
  go_upto_region 3 with fail
  go_region_law (first | fail)
  all_goals
   go_end0
   exact⟨rfl,(HF.out _ HZ.out).drew⟩
end Go.Proofs.YtgpihfacmpbpaaaGreatDoor.Nl
namespace Go.Proofs.YtgpihfacmpbpaaaGreatDoor.Nl
open Go.RowKit Tr Nu
def BW (t:List Nd) (A:List (Rs × Value)):Prop:=∀ i x,t[i]?=some x→x.kind=46→∀ p,A[i]?=some p→(asNew t i).1=Lx.bytesOf p.1.kept∧(p.1.kept≠[]→(asNew t i).2=p.1.place)
theorem BW.part {t:List Nd} {A:List (Rs × Value)} (h:BW t A) {i b:Nat} (hx:∀ j,i≤j→j<b→∃ x,t[j]?=some x∧x.kind=46∧x.size=1) :
  ∀ j r,(((A.drop i).take (b - i)).map Prod.fst)[j]?=some r→(asNew t (i+j)).1=Lx.bytesOf r.kept∧(r.kept≠[]→(asNew t (i+j)).2=r.place):=by
 intro j r hr
 rw[List.getElem?_map]at hr
 obtain⟨p,hp,rfl⟩:=Option.map_eq_some_iff.1 hr
 have hj:j<b - i:=by
  have:=(List.getElem?_eq_some_iff.1 hp).1
  rw[List.length_take]at this;omega
 rw[List.getElem?_take,if_pos hj,List.getElem?_drop]at hp
 obtain⟨x,hx1,hx2,-⟩:=hx (i+j) (by omega) (by omega)
 exact h (i+j) x hx1 hx2 p hp
def NsR (w5:World) (Wb:Nat) (t:List Nd) (v va:Value) (a z:Nat) (out:List Nd) (i:Nat) (wr:World):Prop:=∃ LA,NdI t a i z LA∧uV w5 wr Wb v va (out++oV t a LA)
section
variable {w5 w:World} {Wb off:Nat} {t:List Nd} {v:Value} {A:List (Rs × Value)} {a z i:Nat} {out:List Nd}
theorem BX {Ab cr:Nat} (HR:F4 w5 t (.slice (some ⟨Ab,0,none⟩) t.length cr) A) (hok:BW t A) (hp:∀ x ∈ t,gM x) (h5:w5.heap.size≤Wb) (ht:t.length≤9000) (hz:z≤t.length) (ho:out.length≤a) (hcr:cr≤maxLen) (hnc:t.length≤cr)
  (h:NsR w5 Wb t v (.slice (some ⟨Ab,0,none⟩) t.length cr) a z out i w) {b:Nat} (hib:i<b) (hbz:b≤z) (hx:∀ j,i≤j→j<b→∃ x,t[j]?=some x∧x.kind=46∧x.size=1) (hr:∃ R,fJ t b z=some R) (hne:b<z→∀ x,t[b]?=some x→x.kind≠46) :
  Calls Tryz.prog 75 #[.pointer (some ⟨Wb,0,none⟩),.slice (some ⟨Ab,i * 3,none⟩) (b - i) (cr - i)] w fun e w'=>e=.returned (.tuple #[])∧NsR w5 Wb t v (.slice (some ⟨Ab,0,none⟩) t.length cr) a z out b w':=by
 obtain⟨LA,hI,hW⟩:=h
 have l1:=hI.YV
 have l2:=BV hp hI.ev hI.YV (by have:=hI.le2;omega)
 refine(aAG HR h5 hW ht (by rw[List.length_append];omega) i (b - i) (cr - i) (by omega) (by omega) (by omega) (by omega) Ab cr rfl).mono ?_
 rintro e w' ⟨rfl,hW'⟩
 obtain⟨LA',h1,h2⟩:=hI.texts hp hz hib hbz hx hr hne (Q:=((A.drop i).take (b - i)).map Prod.fst) (by rw[List.length_map,List.length_take,List.length_drop,HR.len];omega) (hok.part hx)
 exact⟨rfl,LA',h1,by rw[h2,← List.append_assoc];exact hW'⟩
theorem M6 {va:Value} {d:Nat} (HN:uL w5 Wb t v va d) (hp:∀ x ∈ t,gM x) (hv:aS off w5 w5.heap.size v t) (h5:w5.heap.size≤Wb) (ht:t.length≤9000) (hz:z≤t.length) (ho:out.length≤a)
  (h:NsR w5 Wb t v va a z out i w) {x:Nd} {n:Nat} (hx:t[i]?=some x) (hk:x.kind≠46) (hs:x.size=(n:Int)) (h1:1≤n) (hle:i+n≤z) (hd:n≤d+1) {M:List Lx.Lx} (hM:fJ t (i+1) (i+n)=some M) (hr:∃ R,fJ t (i+n) z=some R) :
  Calls Tryz.prog 76 #[.pointer (some ⟨Wb,0,none⟩),.int .i64 (i:Int)] w fun e w'=>e=.returned (.tuple #[])∧NsR w5 Wb t v va a z out (i+n) w':=by
 obtain⟨LA,hI,hW⟩:=h
 have l1:=hI.YV
 have l2:=BV hp hI.ev hI.YV (by have:=hI.le2;omega)
 refine(F6 HN hp hv h5 hW ht hx hs h1 (by omega) hd hM (by rw[List.length_append];omega)).mono ?_
 rintro e w' ⟨rfl,hW'⟩
 obtain⟨LA',h2,h3⟩:=hI.node hp hz hx hk hs h1 hle hM hr
 exact⟨rfl,LA',h2,by rw[h3,← List.append_assoc];exact hW'⟩
end
set_option maxRecDepth 100000 in
set_option maxHeartbeats 8000000 in
theorem WI {w5:World} {Wb off:Nat} {t:List Nd} {v va:Value} {A:List (Rs × Value)} (HR:F4 w5 t va A) (hok:BW t A) (hp:∀ x ∈ t,gM x) (hkd:∀ x ∈ t,x.kind<256) (hv:aS off w5 w5.heap.size v t) (h5:w5.heap.size≤Wb) (ht:t.length≤9000):∀ d,uL w5 Wb t v va d:=by
 have hmono:∀ d,uL w5 Wb t v va (d+1)→uL w5 Wb t v va d:=fun d h a z L out w hd h1 h2 h3 h4 h6=>h a z L out w (by omega) h1 h2 h3 h4 h6
 -- one step of the depth
 have step:∀ d,(∀ d',d'+1=d→uL w5 Wb t v va d')→uL w5 Wb t v va d:=by
  intro d IH a z L out w hd haz hz hL ho hW
  have HIH:=Lib.hid IH
  have HRR:=Lib.hid HR
  have HOK:=Lib.hid hok
  have HPP:=Lib.hid hp
  have HKD:=Lib.hid hkd
  have HV:=Lib.hid hv
  have HL:=Lib.hid hL
  obtain⟨Ar,cr,rfl,hcr,hnc,hAr⟩:=aW HR.row
  have hWb:=hW.size
  have HST:=Lib.hid (show NsR w5 Wb t v (.slice Ar t.length cr) a z out a w from ⟨[],⟨Nat.le_refl _,haz,dT _ _ _ (Nat.le_refl _),⟨L,hL⟩,fun _ _ _ _=>cC⟩,by show uV _ _ _ _ _ (out++[]);rw[List.append_nil];exact hW⟩)
  clear IH HR hok hp hkd hv hL hW
  go_enter Tryz.func42,Tryz.ntmps42
  go_wp2
  go_loopw [1] (fun u1 wr=>∃ i:Nat,u1=.int .i64 (i:Int)∧a≤i∧i≤z∧NsR w5 Wb t v (.slice Ar t.length cr) a z out i wr) (fun u1 _=>z - (intOf u1).toNat)
  case atStart=>exact⟨a,rfl,Nat.le_refl _,haz,HST.out⟩
  case round =>
   clear HST
   obtain⟨i,rfl,hai,hiz,hns⟩:=hrel
   obtain⟨W0,rfl⟩:∃ W,W=wr:=⟨_,rfl⟩
   have i0:(0:Int)≤(i:Int):=by omega
   by_cases hlt:i<z
   ·have HNS:=Lib.hid hns
    have hWi:∃ out',uV w5 W0 Wb v (.slice Ar t.length cr) out':=by obtain⟨LA,-,h⟩:=hns;exact⟨_,h⟩
    obtain⟨out',hWi⟩:=hWi
    have c0:=hWi.c0
    have c1:=hWi.c1
    have hsz:=hWi.size
    have hvw:aS off W0 w5.heap.size v t:=HV.out.below (hWi.below.mono h5)
    have HVW:=Lib.hid hvw
    obtain⟨Av,cv,rfl,hA⟩:=hvw
    obtain⟨g,rfl,hglt,hcell⟩:=hA (by omega)
    have HCL:=Lib.hid hcell
    obtain⟨Ab,rfl,-,hAb⟩:=hAr (by omega)
    have hrest:∃ LB,fJ t i z=some LB:=by obtain⟨LA,h,-⟩:=hns;exact h.rest
    have HRS:=Lib.hid hrest
    clear hns hWi hA hcell hrest
    go_wp2
    go_loopw [6] (fun u6 wi=>wi=W0∧∃ b:Nat,u6=.int .i64 (b:Int)∧i≤b∧b≤z∧(∀ j,i≤j→j<b→∃ x,t[j]?=some x∧x.kind=46∧x.size=1)∧∃ R,fJ t b z=some R) (fun u6 _=>z - (intOf u6).toNat)
    case atStart=>exact⟨rfl,i,rfl,Nat.le_refl _,hiz,fun j h1 h2=>absurd h1 (by omega),HRS.out⟩
    case round =>
     clear HRS
     obtain⟨rfl,b,rfl,hib,hbz,hall,hR⟩:=hrel
     have HAL:=Lib.hid hall
     have HRB:=Lib.hid hR
     have b0:(0:Int)≤(b:Int):=by omega
     clear hall hR
     by_cases hbl:b<z
     ·obtain⟨R,hR⟩:=HRB.out
      obtain⟨x,n,R2,hx,hs,hn,hle,hr2,hk1,hk2⟩:=IV hR hbl
      have hxk:=HKD.out x (List.mem_of_getElem? hx)
      obtain⟨d0,d1,d2,d3⟩:=cE HCL.out b _ hx
      have HXS:=Lib.hid (⟨hx,hs,hn,hle,hr2,hk1,hk2⟩:t[b]?=some x∧x.size=(n:Int)∧1≤n∧b+n≤z∧fJ t (b+n) z=some R2∧(x.kind=46→n=1)∧(x.kind≠46→∃ M,fJ t (b+1) (b+n)=some M))
      have b1:(b:Int)<(t.length:Int):=by omega
      clear hR hx hs hn hle hr2 hk1 hk2
      by_cases hk:x.kind=46
      ·rw[hk]at d0
       have HNX:=Lib.hid (show (∀ j,i≤j→j<b+1→∃ x,t[j]?=some x∧x.kind=46∧x.size=1)∧∃ R,fJ t (b+1) z=some R from by
        obtain⟨hx,hs,hn,hle,hr2,hk1,hk2⟩:=HXS.out
        have hn1:=hk1 hk
        subst hn1
        refine⟨fun j h1 h2=>?_,R2,hr2⟩
        by_cases hj:j=b
        ·subst hj;exact⟨x,hx,hk,hs⟩
        ·exact HAL.out j h1 (by omega))
       clear hk HXS HAL HRB
       go_wp2
       go_roundw
       case rel=>exact⟨trivial,b+1,by go_num,by omega,by omega,HNX.out⟩
       case measure=>simp[intOf];omega
      ·have t1:((x.kind:Int)==46)=false:=beq_eq_false_iff_ne.2 (by omega)
       have HNK:=Lib.hid (show ∀ y,t[b]?=some y→y.kind≠46 from fun y hy=>by rw[HXS.out.1]at hy;cases hy;exact hk)
       clear hk
       by_cases hbi:i<b
       ·have HT:=Lib.hid (BX HRR.out HOK.out HPP.out h5 ht hz ho hcr hnc HNS.out hbi hbz HAL.out HRB.out (fun _=>HNK.out))
        clear HNS HIH HAL HRB HXS HNK
        go_wp2_with (go_at_call 75;refine HT.out.mono ?_;rintro e w7 ⟨rfl,h7⟩;have HN7:=Lib.hid h7;clear h7)
        go_roundw
        case rel=>exact⟨b,by go_num,by omega,by omega,HN7.out⟩
        case measure=>simp[intOf];omega
       ·obtain rfl:b=i:=by omega
        obtain⟨hx,hs,hn,hle,hr2,hk1,hk2⟩:=HXS.out
        have hk:=HNK.out x hx
        obtain⟨M,hM⟩:=hk2 hk
        cases d with
        | zero=>omega
        | succ d =>
         have HT:=Lib.hid (M6 (HIH.out d rfl) HPP.out HV.out h5 ht hz ho HNS.out hx hk hs hn hle (by omega) hM ⟨R2,hr2⟩)
         have HE:=Lib.hid (fun W (h:aS off W w5.heap.size (.slice (some ⟨g,off,none⟩) t.length cv) t)=>BK _ t off ht b x hx ((b+n:Nat):Int) (by rw[hs];omega) (by omega) (by omega) w5.heap.size W h)
         clear HNS HIH HAL HRB HXS HNK hx hs hr2 hk1 hk2 hM
         go_wp2_with fail
         refine HT.out.mono ?_
         rintro e w7 ⟨rfl,h7⟩
         have HN7:=Lib.hid h7
         obtain⟨out7,hW7⟩:∃ out7,uV w5 w7 Wb (.slice (some ⟨g,off,none⟩) t.length cv) (.slice (some ⟨Ab,0,none⟩) t.length cr) out7:=by obtain⟨LA,-,h⟩:=h7;exact⟨_,h⟩
         have HE7:=Lib.hid (HE.out w7 (HV.out.below (hW7.below.mono h5)))
         have e0:=hW7.c0
         clear h7 hW7 HE HT
         go_wp2_with (go_at_call 77;refine HE7.out.mono ?_;rintro e w8 ⟨rfl,rfl⟩)
         go_roundw
         case rel=>exact⟨b+n,by go_num,by omega,by omega,HN7.out⟩
         case measure=>simp[intOf];omega
     ·obtain rfl:b=z:=by omega
      have HT:=Lib.hid (BX HRR.out HOK.out HPP.out h5 ht hz ho hcr hnc HNS.out hlt hbz HAL.out HRB.out (fun h=>absurd h hbl))
      clear HNS HIH HAL HRB
      go_wp2_with (go_at_call 75;refine HT.out.mono ?_;rintro e w7 ⟨rfl,h7⟩;have HN7:=Lib.hid h7;clear h7)
      go_roundw
      case rel=>exact⟨b,by go_num,by omega,by omega,HN7.out⟩
      case measure=>simp[intOf];omega
   ·obtain rfl:i=z:=by omega
    have HF:=Lib.hid (show uV w5 W0 Wb v (.slice Ar t.length cr) (out++oV t a L) from by
     obtain⟨LA,h1,h2⟩:=hns
     have:LA=L:=by have:=h1.ev.symm.trans HL.out;injection this
     rw[← this];exact h2)
    clear hns
    go_wp2
    go_end0
    exact⟨rfl,HF.out⟩
 intro d
 induction d with
 | zero=>exact step 0 (fun d' h=>by omega)
 | succ d ih=>exact step (d+1) (fun d' h=>by
   have:d'=d:=by omega
   rw[this];exact ih)
end Go.Proofs.YtgpihfacmpbpaaaGreatDoor.Nl
