/-
  Put together: TsI, TsJ, TsK.
-/
import Derived.Test.YtgpihfacmpbpaaaGreatDoorTsH
import Derived.Test.YtgpihfacmpbpaaaGreatDoorTrA
namespace Go.Proofs.YtgpihfacmpbpaaaGreatDoor.Tr
open Go.RowKit
structure Gr where
 outs:ByteArray
 l6:ByteArray
 rank:Nat
def qE:List Gr:=[⟨{ data:=#[95] },{ data:=#[49,50,51,112,108,116,107] },1⟩,⟨{ data:=#[49,50,51,112,99,110,101,115] },{ data:=#[46,101,115,110] },1⟩,⟨{ data:=#[108] },{ data:=#[105] },1⟩,
 ⟨{ data:=#[105] },{ data:=#[46,101,115,110] },1⟩,⟨{ data:=#[105] },{ data:=#[108] },2⟩,⟨{ data:=#[116] },{ data:=#[114] },1⟩,⟨{ data:=#[114] },{ data:=#[99] },1⟩]
def cG (g:Gr):List Value:=[.string g.outs,.string g.l6,.int .i64 (g.rank:Int)]
theorem aDJ (g:Gr):(cG g).length=3:=rfl
def fG (g:Gr) (f:Nat→Nat→Nat) (i j:Nat):Nat→Nat→Nat:=fun a b =>
 if (a ∈ (Lx.aH g.outs).take i∧b ∈ Lx.aH g.l6)∨((Lx.aH g.outs)[i]?=some a∧b ∈ (Lx.aH g.l6).take j) then g.rank else f a b
def fS (f:Nat→Nat→Nat) (g:Gr):Nat→Nat→Nat:=fun a b=>if a ∈ Lx.aH g.outs∧b ∈ Lx.aH g.l6 then g.rank else f a b
def fK (k:Nat):Nat→Nat→Nat:=(qE.take k).foldl fS fun _ _=>0
theorem aA1 (g:Gr) (f:Nat→Nat→Nat):fG g f 0 0=f:=by
 funext a b;unfold fG;simp
theorem CN {s:ByteArray} {i:Nat} (h:i<s.size):(Lx.aH s)[i]?=some (Lx.bT s i):=by
 unfold Lx.bT
 rw[List.getD_eq_getElem?_getD,List.getElem?_eq_getElem (by rw[Lx.bL];exact h)];rfl
theorem aA2 (g:Gr) (f:Nat→Nat→Nat) {i j:Nat} (hi:i<g.outs.size) (hj:j<g.l6.size):Ts.upd (fG g f i j) (Lx.bT g.outs i) (Lx.bT g.l6 j) g.rank=fG g f i (j+1):=by
 funext a b
 unfold Ts.upd fG
 rw[List.take_add_one,CN hj,CN hi]
 simp only[Option.toList_some,List.mem_append,List.mem_singleton,Option.some.injEq]
 by_cases h1:a=Lx.bT g.outs i∧b=Lx.bT g.l6 j
 ·rw[if_pos h1,if_pos (.inr ⟨h1.1.symm,.inr h1.2⟩)]
 ·rw[if_neg h1]
  congr 1
  apply propext
  constructor
  ·rintro(h | ⟨h,h'⟩)
   ·exact .inl h
   ·exact .inr ⟨h,.inl h'⟩
  ·rintro(h | ⟨h,h' | h'⟩)
   ·exact .inl h
   ·exact .inr ⟨h,h'⟩
   ·exact absurd ⟨h.symm,h'⟩ h1
theorem aA4 (g:Gr) (f:Nat→Nat→Nat) {i:Nat} (hi:i<g.outs.size):fG g f i g.l6.size=fG g f (i+1) 0:=by
 funext a b
 unfold fG
 rw[List.take_add_one,CN hi,List.take_of_length_le (l:=Lx.aH g.l6) (by rw[Lx.bL];exact Nat.le_refl _)]
 congr 1
 apply propext
 simp only[Option.toList_some,List.mem_append,List.mem_singleton,Option.some.injEq,List.take_zero,List.not_mem_nil,and_false,or_false]
 constructor
 ·rintro(⟨h,h'⟩ | ⟨h,h'⟩)
  ·exact⟨.inl h,h'⟩
  ·exact⟨.inr h.symm,h'⟩
 ·rintro⟨h | h,h'⟩
  ·exact .inl ⟨h,h'⟩
  ·exact .inr ⟨h.symm,h'⟩
theorem aDK (g:Gr) (f:Nat→Nat→Nat):fG g f g.outs.size 0=fS f g:=by
 funext a b
 unfold fG fS
 rw[List.take_of_length_le (by rw[Lx.bL];exact Nat.le_refl _)]
 simp
theorem aA5 {k:Nat} {g:Gr} (h:qE[k]?=some g):fS (fK k) g=fK (k+1):=by
 unfold fK
 rw[List.take_add_one,h,List.foldl_append];rfl
def XP:List Nat:=[95,49,50,51,112,99,110,101,115,108,105,116,114]
theorem aEK:∀ a ∈ XP,∀ b:Fin 256,fK 7 a b.val=rk a b.val:=by decide +kernel
theorem aA6:∀ g ∈ qE,∀ x ∈ Lx.aH g.outs,x ∈ XP:=by decide +kernel
theorem aA7:∀ x ∈ Lx.aH fB,x ∈ XP:=by decide +kernel
theorem KR (a b:Nat):∀ (l:List Gr) (f:Nat→Nat→Nat),(∀ g ∈ l,a ∉ Lx.aH g.outs)→(l.foldl fS f) a b=f a b
 | [],_,_=>rfl
 | g::l,f,h=>by
  rw[List.foldl_cons,KR a b l _ (fun g' hg=>h g' (List.mem_cons_of_mem _ hg))]
  unfold fS
  rw[if_neg (fun e=>h g (List.mem_cons_self ..) e.1)]
theorem aEL {a b:Nat} (_ha:a<256) (hb:b<256):fK 7 a b=rk a b:=by
 by_cases h:a ∈ XP
 ·exact aEK a h ⟨b,hb⟩
 ·have h1:fK 7 a b=0:=KR a b (qE.take 7) _ fun g hg hm=>h (aA6 g (List.mem_of_mem_take hg) a hm)
  rw[h1]
  have h2:cM a fB=false:=by
   unfold cM
   rw[← Bool.not_eq_true,List.contains_iff_mem]
   exact fun hm=>h (aA7 a hm)
  unfold XP at h
  simp only[List.mem_cons,List.not_mem_nil,or_false,not_or]at h
  obtain⟨n1,-,-,-,-,-,-,-,-,n2,n3,n4,n5⟩:=h
  unfold rk
  rw[if_neg n1,h2,if_neg (by simp),if_neg n2,if_neg n3,if_neg n4,if_neg n5]
theorem S6:∀ g ∈ qE,g.outs.size≤8∧g.l6.size≤8∧g.rank<1000:=by decide +kernel
end Go.Proofs.YtgpihfacmpbpaaaGreatDoor.Tr
namespace Go.Proofs.YtgpihfacmpbpaaaGreatDoor.Tr
open Go.RowKit
def nQ:Array Value:=#[.string { data:=#[95] },.string { data:=#[49,50,51,112,108,116,107] },.int .i64 1,.string { data:=#[49,50,51,112,99,110,101,115] },.string { data:=#[46,101,115,110] },.int .i64 1,.string { data:=#[108] },.string { data:=#[105] },.int .i64 1,
 .string { data:=#[105] },.string { data:=#[46,101,115,110] },.int .i64 1,.string { data:=#[105] },.string { data:=#[108] },.int .i64 2,.string { data:=#[116] },.string { data:=#[114] },.int .i64 1,.string { data:=#[114] },.string { data:=#[99] },.int .i64 1]
theorem NY:nQ.toList=Ba.rows cG qE:=rfl
structure RkW (w wr:World) (n:Nat) (f:Nat→Nat→Nat):Prop where
 below:Below w.heap.size w wr
 map:Ts.iE wr w.heap.size n f
 row:wr.heap[w.heap.size+1]?=some (.cells nQ 149 (0,0))
 size:w.heap.size+2≤wr.heap.size
theorem RkW.cell {w wr:World} {n:Nat} {f:Nat→Nat→Nat} (h:RkW w wr n f) {k:Nat} {g:Gr} (hg:qE[k]?=some g) :
  wr.cell? ⟨w.heap.size+1,k * 3,none⟩=some (.string g.outs)∧wr.cell? ⟨w.heap.size+1,k * 3+1,none⟩=some (.string g.l6)∧wr.cell? ⟨w.heap.size+1,k * 3+2,none⟩=some (.int .i64 (g.rank:Int)):=by
 have key:∀ j,j<3→wr.cell? ⟨w.heap.size+1,k * 3+j,none⟩=(cG g)[j]?:=fun j hj=>by
  have e:wr.cell? ⟨w.heap.size+1,k * 3+j,none⟩=nQ[k * 3+j]?:=by rw[World.cell?,h.row];simp
  rw[e,← Ba.cB cG aDJ qE k g hg j hj,← NY,Array.getElem?_toList]
 exact⟨key 0 (by omega),key 1 (by omega),key 2 (by omega)⟩
structure XQ (w wr:World) (X:Nat) (g:Gr) (n:Nat) (f:Nat→Nat→Nat):Prop where
 base:RkW w wr n f
 gt:w.heap.size+2≤X
 x0:wr.cell? ⟨X,0,none⟩=some (.string g.outs)
 x1:wr.cell? ⟨X,1,none⟩=some (.string g.l6)
 x2:wr.cell? ⟨X,2,none⟩=some (.int .i64 (g.rank:Int))
theorem RkW.box {w wr:World} {n:Nat} {f:Nat→Nat→Nat} (h:RkW w wr n f) (g:Gr) (t:TypeId) (f':Nat→Nat→Nat) (hf:f=f'):XQ w (wr.alloc (.cells #[.string g.outs,.string g.l6,.int .i64 (g.rank:Int)] t)) wr.heap.size g n f':=by
 subst hf
 have hb:=(Below.refl wr.heap.size wr).alloc (Nat.le_refl _) (.cells #[.string g.outs,.string g.l6,.int .i64 (g.rank:Int)] t)
 have h2:=h.size
 refine⟨⟨h.below.trans (hb.mono (by omega)),h.map.aX (hb.block _ (by omega)),(hb.block _ (by omega)).trans h.row,Nat.le_trans h2 hb.size⟩,h2,?_,?_,?_⟩<;>simp
theorem XQ.drewN {w wr:World} {X:Nat} {g:Gr} {n:Nat} {f:Nat→Nat→Nat} (h:XQ w wr X g n f) (k:Nat):XQ w (wr.drewN k) X g n f :=
 ⟨⟨⟨h.base.below.os,h.base.below.tape,h.base.below.output,h.base.below.size,h.base.below.block⟩,h.base.map.aX rfl,h.base.row,h.base.size⟩,h.gt,h.x0,h.x1,h.x2⟩
theorem XQ.put {w wr:World} {X:Nat} {g:Gr} {n:Nat} {f f':Nat→Nat→Nat} (h:XQ w wr X g n f) (hn:n<100000) {a b:Nat} (ha:a<256) (hb:b<256) (hr:g.rank<1000) (hf:Ts.upd f a b g.rank=f') :
  ∃ w',(Instr.mapUpdate 61 (.map (some w.heap.size)) (.agg #[.int .u8 (a:Int),.int .u8 (b:Int)]) (.int .i64 (g.rank:Int))).run Tryz.prog wr=.ok () w'∧XQ w w' X g (n+1) f':=by
 subst hf
 obtain⟨w',e1,e2,e3⟩:=h.base.map.put hn ha hb hr
 have hX:∀ i v,wr.cell? ⟨X,i,none⟩=some v→w'.cell? ⟨X,i,none⟩=some v:=fun i v hv=>e3.cell hv (fun e=>by have:=h.gt;simp at e;omega)
 have hs:=h.base.size
 refine⟨w',e1,⟨⟨h.base.below.grown e3 (by omega) (fun k hk=>by cases hk;exact Nat.le_refl _),e2,(e3.block _ (by omega) (fun e=>by simp at e)).trans h.base.row,Nat.le_trans hs e3.size⟩,h.gt,hX 0 _ h.x0,hX 1 _ h.x1,hX 2 _ h.x2⟩⟩
set_option maxRecDepth 100000 in
set_option maxHeartbeats 8000000 in
theorem XR (w:World):Calls Tryz.prog 63 #[] w fun e w'=>e=.returned (.map (some w.heap.size))∧(∃ n,Ts.iE w' w.heap.size n rk)∧Below w.heap.size w w'∧w.heap.size<w'.heap.size:=by
 have hmm:=@run_makeMap Tryz.prog
 go_enter Tryz.func63,Tryz.ntmps63
 go_wp2
 have h0:RkW w ((w.alloc (.map #[] 0)).alloc (.cells nQ 149)) 0 fun _ _=>0:=by
  have hb1:=(Below.refl w.heap.size w).alloc (Nat.le_refl _) (.map #[] 0)
  have hb2:=hb1.alloc (by simp) (.cells nQ 149)
  refine⟨hb2,(Ts.iE.new w).aX (Below.heap_alloc _ _ _ (by simp)),?_,by simp⟩
  have:=heap_alloc_new (w.alloc (.map #[] 0)) (.cells nQ 149)
  simpa using this
 rw[show #[Value.string { data:=#[95] },.string { data:=#[49,50,51,112,108,116,107] },.int .i64 1,.string { data:=#[49,50,51,112,99,110,101,115] },.string { data:=#[46,101,115,110] },.int .i64 1,.string { data:=#[108] },.string { data:=#[105] },.int .i64 1,
  .string { data:=#[105] },.string { data:=#[46,101,115,110] },.int .i64 1,.string { data:=#[105] },.string { data:=#[108] },.int .i64 2,.string { data:=#[116] },.string { data:=#[114] },.int .i64 1,.string { data:=#[114] },.string { data:=#[99] },.int .i64 1]=nQ from rfl]
 generalize (w.alloc (.map #[] 0)).alloc (.cells nQ 149)=w0 at h0 ⊢
 have H0:=Lib.hid h0
 clear h0
 go_loopw [16] (fun i wr=>∃ k n:Nat,k≤7∧i=.int .i64 k∧n≤64 * k∧RkW w wr n (fK k)) (fun i _=>7 - (intOf i).toNat)
 case atStart=>exact⟨0,0,by omega,rfl,by omega,H0.out⟩
 case round =>
  obtain⟨k,n,hk,rfl,hn,hR⟩:=hrel
  by_cases hlt:k<7
  ·obtain⟨g,hg⟩:=dM (l:=qE) (i:=k) hlt
   obtain⟨g1,g2,g3⟩:=S6 g (List.mem_of_getElem? hg)
   obtain⟨c0,c1,c2⟩:=hR.cell hg
   have hB:=hR.box g 149 (fG g (fK k) 0 0) (aA1 g (fK k)).symm
   have HG:=Lib.hid (aA5 hg)
   have HE:=Lib.hid (aDK g (fK k))
   have HN:=Lib.hid (fun(i:Nat) (h:i<g.outs.size)=>aA4 g (fK k) h)
   have HU:=Lib.hid (fun(i j:Nat) (h:i<g.outs.size) (h':j<g.l6.size)=>aA2 g (fK k) h h')
   obtain⟨X,hX⟩:∃ X,wr.heap.size=X:=⟨_,rfl⟩
   rw[hX]at hB
   have j0:(0:Int)≤(k:Int):=by omega
   have j1:(k:Int)<7:=by omega
   clear hg hR
   have HB:=Lib.hid hB
   clear hB
   go_wp2
   generalize (wr.alloc (.cells #[.string g.outs,.string g.l6,.int .i64 (g.rank:Int)] 149))=w1 at HB ⊢
   have x0:=HB.out.x0
   clear c0 c1 c2 hX
   go_loopw [23] (fun i wr=>∃ i2 n2:Nat,i2≤g.outs.size∧i=.int .i64 i2∧n2≤n+8 * i2∧XQ w wr X g n2 (fG g (fK k) i2 0)) (fun i _=>g.outs.size - (intOf i).toNat)
   case atStart=>exact⟨0,n,by omega,rfl,by omega,HB.out⟩
   case round =>
    obtain⟨i2,n2,hi2,rfl,hn2,hR2⟩:=hrel
    by_cases hlt2:i2<g.outs.size
    ·have x1:=hR2.x1
     have HR2:=Lib.hid hR2
     clear hR2
     go_wp2
     go_loopw [29] (fun i wr=>∃ j n3:Nat,j≤g.l6.size∧i=.int .i64 j∧n3≤n2+j∧XQ w wr X g n3 (fG g (fK k) i2 j)) (fun i _=>g.l6.size - (intOf i).toNat)
     case atStart=>exact⟨0,n2,by omega,rfl,by omega,HR2.out⟩
     case round =>
      obtain⟨j,n3,hj,rfl,hn3,hR3⟩:=hrel
      by_cases hlt3:j<g.l6.size
      ·obtain⟨y0,y1,y2⟩:=And.intro hR3.x0 (And.intro hR3.x1 hR3.x2)
       have E1:=Lx.cJ g.outs i2 hlt2
       have E2:=Lx.cJ g.l6 j hlt3
       have l1:=Lx.eF g.outs i2
       have l2:=Lx.eF g.l6 j
       obtain⟨w5,hrun,h5⟩:=(hR3.drewN 1).put (by omega) l1 l2 g3 (HU.out i2 j hlt2 hlt3)
       have hrun':(Instr.mapUpdate 61 (.map (some w.heap.size)) (.agg #[.int .u8 (Lx.bT g.outs i2:Int),.int .u8 (Lx.bT g.l6 j:Int)]) (.int .i64 (g.rank:Int))).run Tryz.prog wr.drew=.ok () w5:=hrun
       have z0:=And.intro h5.x0 (And.intro h5.x1 h5.x2)
       have H5:=Lib.hid h5
       clear hrun h5 hR3
       go_wp2
       go_region_held3 (fun w'=>w'.cell? ⟨X,0,none⟩=some (.string g.outs)∧w'.cell? ⟨X,1,none⟩=some (.string g.l6)∧w'.cell? ⟨X,2,none⟩=some (.int .i64 (g.rank:Int)))
        (first | exact⟨y0,y1,y2⟩ | exact z0) (first | fail)
       all_goals go_wp2
       all_goals exact⟨⟨j+1,n3+1,by omega,by go_num,by omega,H5.out⟩,by simp[intOf];omega⟩
      ·obtain rfl:j=g.l6.size:=by omega
       have H3:=Lib.hid (show XQ w _ X g n3 (fG g (fK k) (i2+1) 0) from HN.out i2 hlt2▸hR3)
       go_wp2
       go_roundw
       case rel=>exact⟨i2+1,n3,by omega,by go_num,by omega,H3.out⟩
       case measure=>simp[intOf];omega
    ·obtain rfl:i2=g.outs.size:=by omega
     have H3:=Lib.hid (show XQ w _ X g n2 (fK (k+1)) from HG.out▸HE.out▸hR2)
     go_wp2
     go_roundw
     case rel=>exact⟨k+1,n2,by omega,by go_num,by omega,H3.out.base⟩
     case measure=>simp[intOf];omega
  ·obtain rfl:k=7:=by omega
   have H3:=Lib.hid hR
   go_wp2
   go_ret
   refine⟨rfl,⟨n,?_⟩,H3.out.below,by have:=H3.out.size;omega⟩
   obtain⟨D,d1,d2⟩:=H3.out.map
   exact⟨D,d1,fun a b ha hb=>by rw[d2 a b ha hb,aEL ha hb]⟩
theorem S7 {w W w5:World} (hb5:Below W.heap.size W w5) (hW:w.heap.size<W.heap.size) (c0:W.cell? ⟨w.heap.size,0,none⟩=some (.map none)) (c1:W.cell? ⟨w.heap.size,1,none⟩=some (.slice none 0 0)) (c2:W.cell? ⟨w.heap.size,2,none⟩=some (.int .i64 0)) (c3:W.cell? ⟨w.heap.size,3,none⟩=some (.bool false)) (c4:W.cell? ⟨w.heap.size,4,none⟩=some (.bool false)) (cf:∀ i,W.frozen? ⟨w.heap.size,i,none⟩=false) :
  w5.cell? ⟨w.heap.size,0,none⟩=some (.map none)∧w5.cell? ⟨w.heap.size,1,none⟩=some (.slice none 0 0)∧w5.cell? ⟨w.heap.size,2,none⟩=some (.int .i64 0)∧w5.cell? ⟨w.heap.size,3,none⟩=some (.bool false)∧w5.cell? ⟨w.heap.size,4,none⟩=some (.bool false)∧(∀ i,w5.frozen? ⟨w.heap.size,i,none⟩=false)∧w.heap.size<w5.heap.size :=
 ⟨(hb5.cell (p:=⟨w.heap.size,0,none⟩) hW).trans c0,(hb5.cell (p:=⟨w.heap.size,1,none⟩) hW).trans c1,(hb5.cell (p:=⟨w.heap.size,2,none⟩) hW).trans c2,(hb5.cell (p:=⟨w.heap.size,3,none⟩) hW).trans c3,(hb5.cell (p:=⟨w.heap.size,4,none⟩) hW).trans c4,
  fun i=>(hb5.frozen (p:=⟨w.heap.size,i,none⟩) hW).trans (cf i),Nat.lt_of_lt_of_le hW hb5.size⟩
structure uQ (R:Nat) (a b:World):Prop where
 block:∀ k,k≠R→b.heap[k]?=a.heap[k]?
 size:b.heap.size=a.heap.size
 os:b.os=a.os
 tape:b.tape=a.tape
 output:b.output=a.output
theorem uQ.step {R:Nat} {a b:World} (h:uQ R a b) (i:Nat) (v:Value):uQ R a (b.setCell ⟨R,i,none⟩ v) :=
 ⟨fun k hk=>(Below.heap_setCell b ⟨R,i,none⟩ v k hk).trans (h.block k hk),by rw[← h.size];simp,h.os,h.tape,h.output⟩
theorem aDM (a:World) (R:Nat) (v0 v1 v2 v3 v4:Value):uQ R a (((((a.setCell ⟨R,0,none⟩ v0).setCell ⟨R,1,none⟩ v1).setCell ⟨R,2,none⟩ v2).setCell ⟨R,3,none⟩ v3).setCell ⟨R,4,none⟩ v4) :=
 (((((⟨fun _ _=>rfl,rfl,rfl,rfl,rfl⟩:uQ R a a).step 0 v0).step 1 v1).step 2 v2).step 3 v3).step 4 v4
def TY:Obj:=.cells #[.int .u8 95,.int .i64 0,.int .i64 0,.int .i64 0,.int .i64 0,.int .i64 0,.bool false,.int .i64 0] 110
theorem XS {w w5 V:World} {z:Obj} {n5:Nat} (hb:Below (w.alloc z).drew.heap.size (w.alloc z).drew w5) (h5:Ts.iE w5 (w.alloc z).drew.heap.size n5 rk) (hV:uQ w.heap.size w5 V) :
  Ts.iE (V.alloc TY) (w.heap.size+1) n5 rk∧(V.alloc TY).ownsRow w.heap.size 110 8 (.slice (some ⟨w5.heap.size,0,none⟩) 1 1) 1 (Ba.rows cL [fN])∧w5.heap.size≠w.heap.size+1∧w.heap.size≤w.heap.size+1∧Below w.heap.size w (V.alloc TY):=by
 have e1:(w.alloc z).drew.heap.size=w.heap.size+1:=by simp
 rw[e1]at hb h5
 have hlt:=h5.lt
 refine⟨h5.aX ((Below.heap_alloc V TY _ (by rw[hV.size];exact hlt)).trans (hV.block _ (by omega))),?_,by omega,by omega,?_⟩
 ·have:=World.ownsRow_lit (base:=w.heap.size) (e:=110) (size:=8) V (cL fN).toArray 1 (by rw[hV.size];omega) (by decide) rfl
  rw[hV.size]at this
  exact this
 ·refine⟨hV.os.trans hb.os,hV.tape.trans hb.tape,hV.output.trans hb.output,?_,fun k hk=>?_⟩
  ·simp[hV.size];omega
  ·refine(Below.heap_alloc V TY k (by rw[hV.size];omega)).trans ((hV.block k (by omega)).trans ((hb.block k (by omega)).trans ?_))
   exact Below.heap_alloc w z k hk
theorem aDN {w w5 V:World} {z:Obj} {n5:Nat} (hb:Below ((w.alloc z).alloc TY).drew.heap.size ((w.alloc z).alloc TY).drew w5) (h5:Ts.iE w5 ((w.alloc z).alloc TY).drew.heap.size n5 rk) (hV:uQ w.heap.size w5 V) :
  Ts.iE V (w.heap.size+1+1) n5 rk∧V.ownsRow w.heap.size 110 8 (.slice (some ⟨w.heap.size+1,0,none⟩) 1 1) 1 (Ba.rows cL [fN])∧w.heap.size+1≠w.heap.size+1+1∧w.heap.size≤w.heap.size+1+1∧Below w.heap.size w V:=by
 have e1:((w.alloc z).alloc TY).drew.heap.size=w.heap.size+1+1:=by simp
 rw[e1]at hb h5
 have hlt:=h5.lt
 have hrow:V.heap[w.heap.size+1]?=some TY:=by
  refine(hV.block _ (by omega)).trans ((hb.block _ (by omega)).trans ?_)
  have:=heap_alloc_new (w.alloc z) TY
  rw[World.size_alloc]at this
  exact this
 refine⟨h5.aX (hV.block _ (by omega)),?_,by omega,by omega,?_⟩
 ·exact⟨rfl,.inr ⟨w.heap.size+1,1,(cL fN).toArray,rfl,by omega,hrow,Nat.le_refl _,by decide,rfl,rfl⟩⟩
 ·refine⟨hV.os.trans hb.os,hV.tape.trans hb.tape,hV.output.trans hb.output,?_,fun k hk=>?_⟩
  ·rw[hV.size];omega
  ·refine(hV.block k (by omega)).trans ((hb.block k (by omega)).trans ?_)
   exact(Below.heap_alloc (w.alloc z) TY k (by simp;omega)).trans (Below.heap_alloc w z k hk)
set_option maxRecDepth 100000 in
set_option maxHeartbeats 8000000 in
theorem PU (w:World):Calls Tryz.prog 35 #[] w fun e w'=>∃ M n L,e=.returned (.agg #[.map (some M),.slice (some ⟨L,0,none⟩) 1 1,.int .i64 0,.bool false,.bool false]) ∧
  Ts.iE w' M n rk∧w'.ownsRow w.heap.size 110 8 (.slice (some ⟨L,0,none⟩) 1 1) 1 (Ba.rows cL [fN])∧L≠M∧w.heap.size≤M∧Below w.heap.size w w':=by
 go_enter Tryz.func35,Tryz.ntmps35
 go_wp2
 have HR:=Lib.hid (fun W=>XR W)
 go_region_law (first | (go_simp;go_at_call 63;refine(HR.out _).mono ?_;rintro e w5 ⟨rfl,⟨n5,h5⟩,hb5,hs5⟩;obtain⟨q0,q1,q2,q3,q4,qf,hlt5⟩:=S7 (w:=w) hb5 (by first | (simp;done) | (simp;omega)) (by simp) (by simp) (by simp) (by simp) (by simp) (fun i=>by simp);replace h5:=Lib.hid h5;replace hb5:=Lib.hid hb5))
 ·skip
  have HB5:=hb5.out
  have H5:=h5.out
  clear hb5 h5
  go_wp2
  refine bodyPost_ret (v:=.agg #[.map (some _),.slice (some ⟨_,0,none⟩) 1 1,.int .i64 0,.bool false,.bool false]) (by simp[results,Tryz.f35,go_sem,q0,q1,q2,q3,q4,hlt5];exact⟨rfl,rfl⟩) rfl ⟨_,n5,_,rfl,?_⟩
  clear q0 q1 q2 q3 q4 qf hlt5
  have hV:=aDM w5 w.heap.size (.map (some (w.heap.size+1))) (.slice (some ⟨w5.heap.size,0,none⟩) 1 1) (.int .i64 0) (.bool false) (.bool false)
  generalize ((((w5.setCell ⟨w.heap.size,0,none⟩ (.map (some (w.heap.size+1)))).setCell ⟨w.heap.size,1,none⟩ (.slice (some ⟨w5.heap.size,0,none⟩) 1 1)).setCell ⟨w.heap.size,2,none⟩ (.int .i64 0)).setCell ⟨w.heap.size,3,none⟩ (.bool false)).setCell ⟨w.heap.size,4,none⟩ (.bool false)=V at hV ⊢
  have e95:(Value.int .u8 (({ data:=#[95] }:ByteArray)[0].toNat:Int))=.int .u8 95:=rfl
  rw[e95]
  exact XS HB5 H5 hV
 ·skip
  have HB5:=hb5.out
  have H5:=h5.out
  clear hb5 h5
  go_wp2
  refine bodyPost_ret (v:=.agg #[.map (some _),.slice (some ⟨_,0,none⟩) 1 1,.int .i64 0,.bool false,.bool false]) (by simp[results,Tryz.f35,go_sem,q0,q1,q2,q3,q4,hlt5];exact⟨rfl,rfl⟩) rfl ⟨_,n5,_,rfl,?_⟩
  clear q0 q1 q2 q3 q4 qf hlt5
  have hV:=aDM w5 w.heap.size (.map (some (w.heap.size+1))) (.slice (some ⟨w5.heap.size,0,none⟩) 1 1) (.int .i64 0) (.bool false) (.bool false)
  generalize ((((w5.setCell ⟨w.heap.size,0,none⟩ (.map (some (w.heap.size+1)))).setCell ⟨w.heap.size,1,none⟩ (.slice (some ⟨w5.heap.size,0,none⟩) 1 1)).setCell ⟨w.heap.size,2,none⟩ (.int .i64 0)).setCell ⟨w.heap.size,3,none⟩ (.bool false)).setCell ⟨w.heap.size,4,none⟩ (.bool false)=V at hV ⊢
  have e95:(Value.int .u8 (({ data:=#[95] }:ByteArray)[0].toNat:Int))=.int .u8 95:=rfl
  rw[e95]
  exact XS HB5 H5 hV
 ·skip
  have HB5:=hb5.out
  have H5:=h5.out
  clear hb5 h5
  go_wp2
  refine bodyPost_ret (v:=.agg #[.map (some _),.slice (some ⟨_,0,none⟩) 1 1,.int .i64 0,.bool false,.bool false]) (by simp[results,Tryz.f35,go_sem,q0,q1,q2,q3,q4];exact⟨rfl,rfl⟩) rfl ⟨_,n5,_,rfl,?_⟩
  clear q0 q1 q2 q3 q4 qf hlt5
  have hV:=aDM w5 w.heap.size (.map (some (w.heap.size+1+1))) (.slice (some ⟨w.heap.size+1,0,none⟩) 1 1) (.int .i64 0) (.bool false) (.bool false)
  generalize ((((w5.setCell ⟨w.heap.size,0,none⟩ (.map (some (w.heap.size+1+1)))).setCell ⟨w.heap.size,1,none⟩ (.slice (some ⟨w.heap.size+1,0,none⟩) 1 1)).setCell ⟨w.heap.size,2,none⟩ (.int .i64 0)).setCell ⟨w.heap.size,3,none⟩ (.bool false)).setCell ⟨w.heap.size,4,none⟩ (.bool false)=V at hV ⊢
  have e95:(Value.int .u8 (({ data:=#[95] }:ByteArray)[0].toNat:Int))=.int .u8 95:=rfl
  rw[e95]at HB5 H5
  exact aDN HB5 H5 hV
end Go.Proofs.YtgpihfacmpbpaaaGreatDoor.Tr
namespace Go.Proofs.YtgpihfacmpbpaaaGreatDoor.Tr
open Go.RowKit
structure pD (w:World) (N P M n L:Nat) (o:St) (t:List Nd) (z:Int):Prop where
 op:dI w N P M n L o
 tr:∃ v,w.cell? ⟨P,5,none⟩=some v∧w.ownsRow N 41 4 v t.length (Ba.rows cN t)∧v.ownBlock≠some L∧v.ownBlock≠some P∧v.ownBlock≠some M
 pl:w.cell? ⟨P,6,none⟩=some (.int .i64 z)
def XT (S:Nat) (w:World) (P L:Nat):Prop:=S<w.heap.size∧S≠P∧S≠L∧∀ v,w.cell? ⟨P,5,none⟩=some v→v.ownBlock≠some S
structure j5 (N P L L':Nat) (w w':World):Prop where
 below:Below N w w'
 zV:∀ S,XT S w P L→w'.heap[S]?=w.heap[S]?∧XT S w' P L'
theorem j5.trans {N P L L' L'':Nat} {a b c:World} (h:j5 N P L L' a b) (k:j5 N P L' L'' b c):j5 N P L L'' a c :=
 ⟨h.below.trans k.below,fun S hS=>by
  obtain⟨h1,h2⟩:=h.zV S hS
  obtain⟨k1,k2⟩:=k.zV S h2
  exact⟨k1.trans h1,k2⟩⟩
theorem j5.heap {N P L:Nat} {w w':World} (hh:w'.heap=w.heap) (h1:w'.os=w.os) (h2:w'.tape=w.tape) (h3:w'.output=w.output):j5 N P L L w w' :=
 ⟨⟨h1,h2,h3,by rw[hh];exact Nat.le_refl _,fun k _=>by rw[hh]⟩,fun S ⟨a,b,c,d⟩=>⟨by rw[hh],by rw[hh];exact a,b,c,fun v hv=>d v ((World.cell?_of_block (by rw[hh])).symm.trans hv)⟩⟩
theorem dI.KS {w:World} {N P M n L:Nat} {o:St} (h:dI w N P M n L o):N≤w.heap.size:=by have:=h.tR;omega
theorem KT {w w':World} {N P L e s k:Nat} {v:Value} {xs:List Value} (h:w.ownsRow N e s v k xs) (hf:Fr P L w w') (h1:v.ownBlock≠some L) (h2:v.ownBlock≠some P):w'.ownsRow N e s v k xs:=by
 refine⟨h.1,?_⟩
 rcases h.2 with hn | ⟨g,cap,cur,rfl,hb,hg,rest⟩
 ·exact .inl hn
 ·exact .inr ⟨g,cap,cur,rfl,hb,(hf.block g (Array.getElem?_eq_some_iff.1 hg).1 (fun e=>h2 (by rw[← e];rfl)) (fun e=>h1 (by rw[← e];rfl))).trans hg,rest⟩
theorem pD.next {w w':World} {N P M n L L':Nat} {o o':St} {t:List Nd} {z:Int} (h:pD w N P M n L o t z) (h':dI w' N P M n L' o') (hf:Fr P L w w') (hL:L'=L∨w.heap.size≤L'):pD w' N P M n L' o' t z∧j5 N P L L' w w':=by
 obtain⟨v,a,b,c,d,e⟩:=h.tr
 refine⟨⟨h',⟨v,(hf.tail 5 (by omega)).trans a,KT b hf c d,?_,d,e⟩,(hf.tail 6 (by omega)).trans h.pl⟩,hf.below h.op.zE h.op.tR.2 h.op.KS,fun S ⟨s1,s2,s3,s4⟩=>⟨hf.block S s1 s2 s3,Nat.lt_of_lt_of_le s1 hf.size,s2,by rcases hL with e' | e'<;>omega,fun v' hv'=>s4 v' ((hf.tail 5 (by omega)).symm.trans hv')⟩⟩
 rcases hL with rfl | hL
 ·exact c
 ·intro hh
  have:=(b.lt _ hh).2
  omega
theorem pD.below {w w':World} {N P M n L:Nat} {o:St} {t:List Nd} {z:Int} (h:pD w N P M n L o t z) (hb:Below w.heap.size w w'):pD w' N P M n L o t z :=
 (h.next (h.op.below hb) (Fr.gC hb h.op.nP) (.inl rfl)).1
theorem pD.more {w1 w5:World} {N P M n L:Nat} {o:St} {t:List Nd} {z:Int} (h:pD w1 N P M n L o t z) {v:Value} (hv:w1.cell? ⟨P,5,none⟩=some v) {tmp:Obj} {gg cap k:Nat} (hk:t.length=k) (hgrow:(w1.alloc tmp).drew.grownBy w5 v.ownBlock) (x:Nd)
  (hown:w5.ownsRow N 41 4 (.slice (some ⟨gg,0,none⟩) (k+1) cap) (k+1) (Ba.rows cN t++cN x)) (hat:v.ownBlock=some gg∨gg=w1.heap.size+1) :
  pD (w5.setCell ⟨P,5,none⟩ (.slice (some ⟨gg,0,none⟩) (k+1) cap)) N P M n L o (t++[x]) z∧j5 N P L L w1 (w5.setCell ⟨P,5,none⟩ (.slice (some ⟨gg,0,none⟩) (k+1) cap)) ∧
   ∀ q,q<w1.heap.size→q≠P→v.ownBlock≠some q→(w5.setCell ⟨P,5,none⟩ (.slice (some ⟨gg,0,none⟩) (k+1) cap)).heap[q]?=w1.heap[q]?:=by
 subst hk
 obtain⟨v',a,b,c,d,e⟩:=h.tr
 rw[hv]at a
 cases a
 have hP:=h.op.nP
 have hL:=h.op.tR
 have hM:=h.op.map.lt
 have hgg:v.ownBlock=some gg∨w1.heap.size≤gg:=hat.imp id (fun e=>by omega)
 have hnP:gg≠P:=by rcases hgg with e' | e';exact(fun e''=>d (by rw[e',e'']));omega
 have hnL:gg≠L:=by rcases hgg with e' | e';exact(fun e''=>c (by rw[e',e'']));omega
 have hnM:gg≠M:=by rcases hgg with e' | e';exact(fun e''=>e (by rw[e',e'']));omega
 have hsz:w1.heap.size≤w5.heap.size:=Nat.le_trans (by show w1.heap.size≤(w1.alloc tmp).heap.size;simp) hgrow.size
 have hblk:∀ q,q<w1.heap.size→v.ownBlock≠some q→w5.heap[q]?=w1.heap[q]?:=fun q hq hne =>
  (hgrow.block q (by show q<(w1.alloc tmp).heap.size;simp;omega) (fun e'=>hne e'.symm)).trans (Below.heap_alloc w1 tmp q hq)
 have hs:∀ q,q≠P→(w5.setCell ⟨P,5,none⟩ (.slice (some ⟨gg,0,none⟩) (t.length+1) cap)).heap[q]?=w5.heap[q]?:=fun q hq=>Below.heap_setCell _ _ _ _ hq
 have hPb:w5.heap[P]?=w1.heap[P]?:=hblk P hP d
 have hc5:∀ q,w5.cell? ⟨P,q,none⟩=w1.cell? ⟨P,q,none⟩:=fun q=>World.cell?_of_block (w:=w1) hPb
 have hc:∀ q,q≠5→(w5.setCell ⟨P,5,none⟩ (.slice (some ⟨gg,0,none⟩) (t.length+1) cap)).cell? ⟨P,q,none⟩=w1.cell? ⟨P,q,none⟩:=fun q hq =>
  (World.cell?_setCell_other _ _ _ _ (fun e=>by injection e with _ e _;omega)).trans (hc5 q)
 have hall:∀ q,q<w1.heap.size→q≠P→v.ownBlock≠some q→(w5.setCell ⟨P,5,none⟩ (.slice (some ⟨gg,0,none⟩) (t.length+1) cap)).heap[q]?=w1.heap[q]?:=fun q h1 h2 h3=>(hs q h2).trans (hblk q h1 h3)
 have hN:=h.op.KS
 have hLP:=h.op.zE
 refine⟨⟨?_,⟨.slice (some ⟨gg,0,none⟩) (t.length+1) cap,World.cell?_setCell_same' _ _ _ (by rw[hc5,hv];rfl),?_,?_,?_,?_⟩,(hc 6 (by omega)).trans h.pl⟩,
  ⟨⟨hgrow.os,hgrow.tape,hgrow.output,Nat.le_trans hsz (KeepsOthers.setCell w5 _ _).size,fun q hq=>hall q (by omega) (by omega) (fun e'=>by have:=(b.lt q e').1;omega)⟩,fun S ⟨s1,s2,s3,s4⟩=>⟨hall S s1 s2 (s4 v hv),Nat.lt_of_lt_of_le s1 (Nat.le_trans hsz (KeepsOthers.setCell w5 _ _).size),s2,s3,fun v' hv'=>?_⟩⟩,hall⟩
 ·obtain⟨cp,r1,r2,r3⟩:=h.op.row
  refine⟨(hc 0 (by omega)).trans h.op.c0,⟨cp,(hc 1 (by omega)).trans r1,r2,?_⟩,(hc 2 (by omega)).trans h.op.c2,(hc 3 (by omega)).trans h.op.c3,(hc 4 (by omega)).trans h.op.c4,fun i=>?_,h.op.map.aX (hall M hM h.op.uN e),h.op.pos,h.op.head,h.op.small,h.op.zE,h.op.o4,h.op.xV,h.op.uN⟩
  ·rcases r3 with⟨hv',_⟩ | ⟨g,cp',cur,hv',hg1,hg,rest⟩
   ·cases hv'
   ·have e0:=hv'
    injection hv' with e1 _ _
    injection e1 with e1
    injection e1 with e1 _ _
    subst e1
    exact .inr ⟨L,cp',cur,e0,hg1,(hall L hL.1 h.op.o4 c).trans hg,rest⟩
  ·rw[World.frozen?_setCell]
   exact(World.frozen?_of_block (w:=w1) hPb).trans (h.op.fz i)
 ·rw[List.length_append,Ba.cW]
  exact Ba.iT hown _ (fun e=>hnP (by simpa[Value.ownBlock] using e))
 ·exact fun e'=>hnL (by simpa[Value.ownBlock] using e')
 ·exact fun e'=>hnP (by simpa[Value.ownBlock] using e')
 ·exact fun e'=>hnM (by simpa[Value.ownBlock] using e')
 ·rw[World.cell?_setCell_same' _ _ _ (by rw[hc5,hv];rfl)]at hv'
  cases hv'
  intro e'
  have e2:gg=S:=by simpa[Value.ownBlock] using e'
  subst e2
  rcases hgg with e3 | e3
  ·exact s4 v hv e3
  ·omega
theorem pD.aB4 {w w':World} {N P M n L:Nat} {o:St} {t:List Nd} {z:Int} (h:pD w N P M n L o t z) (hb:Below w.heap.size w w'):j5 N P L L w w' :=
 (h.next (h.op.below hb) (Fr.gC hb h.op.nP) (.inl rfl)).2
theorem yB:(Tryz.prog.info? 41).map (fun i=>(i.zero,i.size,i.bytes))=some (some (.agg #[.int .u8 0,.string { data:=#[] },.int .i64 0,.int .i64 0]),4,40):=by kernel_rfl
structure GI (W:World) (g:Nat) (x:Lx.Lx):Prop where
 k0:W.cell? ⟨g,0,none⟩=some (.int .i64 ((x.kind:Nat):Int))
 k1:W.cell? ⟨g,1,none⟩=some (.int .u8 ((x.name:Nat):Int))
 k2:W.cell? ⟨g,2,none⟩=some (.string x.text)
 k3:W.cell? ⟨g,3,none⟩=some (.int .i64 ((x.place:Nat):Int))
theorem GI.aX {W W':World} {g:Nat} {x:Lx.Lx} (h:GI W g x) (hb:W'.heap[g]?=W.heap[g]?):GI W' g x:=by
 have e:∀ i,W'.cell? ⟨g,i,none⟩=W.cell? ⟨g,i,none⟩:=fun i=>World.cell?_of_block (w:=W) hb
 exact⟨(e _).trans h.k0,(e _).trans h.k1,(e _).trans h.k2,(e _).trans h.k3⟩
theorem GI.new (W:World) (x:Lx.Lx) (t:TypeId):GI (W.alloc (.cells #[.int .i64 ((x.kind:Nat):Int),.int .u8 ((x.name:Nat):Int),.string x.text,.int .i64 ((x.place:Nat):Int)] t)) W.heap.size x:=by
 constructor<;>simp
end Go.Proofs.YtgpihfacmpbpaaaGreatDoor.Tr
