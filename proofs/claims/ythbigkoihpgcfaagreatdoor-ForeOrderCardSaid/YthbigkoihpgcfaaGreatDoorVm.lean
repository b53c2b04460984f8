/-
  Put together.
-/
import Derived.Test.YthbigkoihpgcfaaGreatDoorTsC
import Derived.Test.YthbigkoihpgcfaaGreatDoorTsG
import Derived.Test.YthbigkoihpgcfaaGreatDoorVa
import Derived.Test.YthbigkoihpgcfaaGreatDoorVd
import Derived.Test.YthbigkoihpgcfaaGreatDoorVg
import Derived.Laws.EntriesVeiled
import Derived.Maps.RangeWalk
import Derived.Deep.AppendLies
import Derived.Deep.RegionLaw
import Derived.Deep.DeepCutAuto
open Go.Lib (hid)
set_option maxRecDepth 100000
set_option maxHeartbeats 16000000
namespace Go.Proofs.YthbigkoihpgcfaaGreatDoor.Tr
open Go.RowKit
structure Gr where
 outs:ByteArray
 kH:ByteArray
 rank:Nat
def oF:List Gr:=[⟨{ data:=#[95] },{ data:=#[49,50,51,112,108,116,107] },1⟩,⟨{ data:=#[49,50,51,112,99,110,101,115] },{ data:=#[46,101,115,110] },1⟩,⟨{ data:=#[108] },{ data:=#[105] },1⟩,
 ⟨{ data:=#[105] },{ data:=#[46,101,115,110] },1⟩,⟨{ data:=#[105] },{ data:=#[108] },2⟩,⟨{ data:=#[116] },{ data:=#[114] },1⟩,⟨{ data:=#[114] },{ data:=#[99] },1⟩]
def cG (g:Gr):List Value:=[.string g.outs,.string g.kH,.int .i64 (g.rank:Int)]
theorem aEP (g:Gr):(cG g).length=3:=rfl
def fG (g:Gr) (f:Nat→Nat→Nat) (i j:Nat):Nat→Nat→Nat:=fun a b =>
 if (a ∈ (Lx.aA g.outs).take i∧b ∈ Lx.aA g.kH)∨((Lx.aA g.outs)[i]?=some a∧b ∈ (Lx.aA g.kH).take j) then g.rank else f a b
def fS (f:Nat→Nat→Nat) (g:Gr):Nat→Nat→Nat:=fun a b=>if a ∈ Lx.aA g.outs∧b ∈ Lx.aA g.kH then g.rank else f a b
def fK (k:Nat):Nat→Nat→Nat:=(oF.take k).foldl fS fun _ _=>0
theorem aCO (g:Gr) (f:Nat→Nat→Nat):fG g f 0 0=f:=by
 funext a b;unfold fG;simp
theorem AU {s:ByteArray} {i:Nat} (h:i<s.size):(Lx.aA s)[i]?=some (Lx.aV s i):=by
 unfold Lx.aV
 rw[List.getD_eq_getElem?_getD,List.getElem?_eq_getElem (by rw[Lx.aD];exact h)];rfl
theorem aCP (g:Gr) (f:Nat→Nat→Nat) {i j:Nat} (hi:i<g.outs.size) (hj:j<g.kH.size):Ts.upd (fG g f i j) (Lx.aV g.outs i) (Lx.aV g.kH j) g.rank=fG g f i (j+1):=by
 funext a b
 unfold Ts.upd fG
 rw[List.take_add_one,AU hj,AU hi]
 simp only[Option.toList_some,List.mem_append,List.mem_singleton,Option.some.injEq]
 by_cases h1:a=Lx.aV g.outs i∧b=Lx.aV g.kH j
 ·rw[if_pos h1,if_pos (.inr ⟨h1.1.symm,.inr h1.2⟩)]
 ·rw[if_neg h1]
  congr 1
  apply propext
  constructor
  ·rintro(h | ⟨h,h'⟩)
   ·exact .inl h
   ·exact .inr ⟨h,.inl h'⟩
  ·rintro(h | ⟨h,h' | h'⟩)
   ·exact .inl h
   ·exact .inr ⟨h,h'⟩
   ·exact absurd ⟨h.symm,h'⟩ h1
theorem aCQ (g:Gr) (f:Nat→Nat→Nat) {i:Nat} (hi:i<g.outs.size):fG g f i g.kH.size=fG g f (i+1) 0:=by
 funext a b
 unfold fG
 rw[List.take_add_one,AU hi,List.take_of_length_le (l:=Lx.aA g.kH) (by rw[Lx.aD];exact Nat.le_refl _)]
 congr 1
 apply propext
 simp only[Option.toList_some,List.mem_append,List.mem_singleton,Option.some.injEq,List.take_zero,List.not_mem_nil,and_false,or_false]
 constructor
 ·rintro(⟨h,h'⟩ | ⟨h,h'⟩)
  ·exact⟨.inl h,h'⟩
  ·exact⟨.inr h.symm,h'⟩
 ·rintro⟨h | h,h'⟩
  ·exact .inl ⟨h,h'⟩
  ·exact .inr ⟨h.symm,h'⟩
theorem aEQ (g:Gr) (f:Nat→Nat→Nat):fG g f g.outs.size 0=fS f g:=by
 funext a b
 unfold fG fS
 rw[List.take_of_length_le (by rw[Lx.aD];exact Nat.le_refl _)]
 simp
theorem aCR {k:Nat} {g:Gr} (h:oF[k]?=some g):fS (fK k) g=fK (k+1):=by
 unfold fK
 rw[List.take_add_one,h,List.foldl_append];rfl
def ZS:List Nat:=[95,49,50,51,112,99,110,101,115,108,105,116,114]
theorem aFO:∀ a ∈ ZS,∀ b:Fin 256,fK 7 a b.val=rk a b.val:=by decide +kernel
theorem aCS:∀ g ∈ oF,∀ x ∈ Lx.aA g.outs,x ∈ ZS:=by decide +kernel
theorem aCT:∀ x ∈ Lx.aA P8,x ∈ ZS:=by decide +kernel
theorem K8 (a b:Nat):∀ (l:List Gr) (f:Nat→Nat→Nat),(∀ g ∈ l,a ∉ Lx.aA g.outs)→(l.foldl fS f) a b=f a b
 | [],_,_=>rfl
 | g::l,f,h=>by
  rw[List.foldl_cons,K8 a b l _ (fun g' hg=>h g' (List.mem_cons_of_mem _ hg))]
  unfold fS
  rw[if_neg (fun e=>h g (List.mem_cons_self ..) e.1)]
theorem aFP {a b:Nat} (_ha:a<256) (hb:b<256):fK 7 a b=rk a b:=by
 by_cases h:a ∈ ZS
 ·exact aFO a h ⟨b,hb⟩
 ·have h1:fK 7 a b=0:=K8 a b (oF.take 7) _ fun g hg hm=>h (aCS g (List.mem_of_mem_take hg) a hm)
  rw[h1]
  have h2:EC a P8=false:=by
   unfold EC
   rw[← Bool.not_eq_true,List.contains_iff_mem]
   exact fun hm=>h (aCT a hm)
  unfold ZS at h
  simp only[List.mem_cons,List.not_mem_nil,or_false,not_or]at h
  obtain⟨n1,-,-,-,-,-,-,-,-,n2,n3,n4,n5⟩:=h
  unfold rk
  rw[if_neg n1,h2,if_neg (by simp),if_neg n2,if_neg n3,if_neg n4,if_neg n5]
theorem UC:∀ g ∈ oF,g.outs.size≤8∧g.kH.size≤8∧g.rank<1000:=by decide +kernel
def l6:Array Value:=#[.string { data:=#[95] },.string { data:=#[49,50,51,112,108,116,107] },.int .i64 1,.string { data:=#[49,50,51,112,99,110,101,115] },.string { data:=#[46,101,115,110] },.int .i64 1,.string { data:=#[108] },.string { data:=#[105] },.int .i64 1,
 .string { data:=#[105] },.string { data:=#[46,101,115,110] },.int .i64 1,.string { data:=#[105] },.string { data:=#[108] },.int .i64 2,.string { data:=#[116] },.string { data:=#[114] },.int .i64 1,.string { data:=#[114] },.string { data:=#[99] },.int .i64 1]
theorem OQ:l6.toList=Ba.rows cG oF:=rfl
structure RkW (w wr:World) (n:Nat) (f:Nat→Nat→Nat):Prop where
 below:Below w.heap.size w wr
 map:Ts.aY wr w.heap.size n f
 row:wr.heap[w.heap.size+1]?=some (.cells l6 206 (0,0))
 size:w.heap.size+2≤wr.heap.size
theorem RkW.cell {w wr:World} {n:Nat} {f:Nat→Nat→Nat} (h:RkW w wr n f) {k:Nat} {g:Gr} (hg:oF[k]?=some g) :
  wr.cell? ⟨w.heap.size+1,k * 3,none⟩=some (.string g.outs)∧wr.cell? ⟨w.heap.size+1,k * 3+1,none⟩=some (.string g.kH)∧wr.cell? ⟨w.heap.size+1,k * 3+2,none⟩=some (.int .i64 (g.rank:Int)):=by
 have key:∀ j,j<3→wr.cell? ⟨w.heap.size+1,k * 3+j,none⟩=(cG g)[j]?:=fun j hj=>by
  have e:wr.cell? ⟨w.heap.size+1,k * 3+j,none⟩=l6[k * 3+j]?:=by rw[World.cell?,h.row];simp
  rw[e,← Ba.fE cG aEP oF k g hg j hj,← OQ,Array.getElem?_toList]
 exact⟨key 0 (by omega),key 1 (by omega),key 2 (by omega)⟩
structure ZT (w wr:World) (X:Nat) (g:Gr) (n:Nat) (f:Nat→Nat→Nat):Prop where
 base:RkW w wr n f
 gt:w.heap.size+2≤X
 x0:wr.cell? ⟨X,0,none⟩=some (.string g.outs)
 x1:wr.cell? ⟨X,1,none⟩=some (.string g.kH)
 x2:wr.cell? ⟨X,2,none⟩=some (.int .i64 (g.rank:Int))
theorem RkW.box {w wr:World} {n:Nat} {f:Nat→Nat→Nat} (h:RkW w wr n f) (g:Gr) (t:TypeId) (f':Nat→Nat→Nat) (hf:f=f'):ZT w (wr.alloc (.cells #[.string g.outs,.string g.kH,.int .i64 (g.rank:Int)] t)) wr.heap.size g n f':=by
 subst hf
 have hb:=(Below.refl wr.heap.size wr).alloc (Nat.le_refl _) (.cells #[.string g.outs,.string g.kH,.int .i64 (g.rank:Int)] t)
 have h2:=h.size
 refine⟨⟨h.below.trans (hb.mono (by omega)),h.map.of_block (hb.block _ (by omega)),(hb.block _ (by omega)).trans h.row,Nat.le_trans h2 hb.size⟩,h2,?_,?_,?_⟩<;>simp
theorem ZT.drewN {w wr:World} {X:Nat} {g:Gr} {n:Nat} {f:Nat→Nat→Nat} (h:ZT w wr X g n f) (k:Nat):ZT w (wr.drewN k) X g n f :=
 ⟨⟨⟨h.base.below.os,h.base.below.tape,h.base.below.output,h.base.below.size,h.base.below.block⟩,h.base.map.of_block rfl,h.base.row,h.base.size⟩,h.gt,h.x0,h.x1,h.x2⟩
theorem ZT.put {w wr:World} {X:Nat} {g:Gr} {n:Nat} {f f':Nat→Nat→Nat} (h:ZT w wr X g n f) (hn:n<100000) {a b:Nat} (ha:a<256) (hb:b<256) (hr:g.rank<1000) (hf:Ts.upd f a b g.rank=f') :
  ∃ w',(Instr.mapUpdate 148 (.map (some w.heap.size)) (.agg #[.int .u8 (a:Int),.int .u8 (b:Int)]) (.int .i64 (g.rank:Int))).run Tryz.prog wr=.ok () w'∧ZT w w' X g (n+1) f':=by
 subst hf
 obtain⟨w',e1,e2,e3⟩:=h.base.map.put hn ha hb hr
 have hX:∀ i v,wr.cell? ⟨X,i,none⟩=some v→w'.cell? ⟨X,i,none⟩=some v:=fun i v hv=>e3.cell hv (fun e=>by have:=h.gt;simp at e;omega)
 have hs:=h.base.size
 refine⟨w',e1,⟨⟨h.base.below.grown e3 (by omega) (fun k hk=>by cases hk;exact Nat.le_refl _),e2,(e3.block _ (by omega) (fun e=>by simp at e)).trans h.base.row,Nat.le_trans hs e3.size⟩,h.gt,hX 0 _ h.x0,hX 1 _ h.x1,hX 2 _ h.x2⟩⟩
theorem ZU (w:World):Calls Tryz.prog 139 #[] w fun e w'=>e=.returned (.map (some w.heap.size))∧(∃ n,Ts.aY w' w.heap.size n rk)∧Below w.heap.size w w'∧w.heap.size<w'.heap.size:=by
 have hmm:=@run_makeMap Tryz.prog
 go_enter Tryz.func139,Tryz.ntmps139
 go_wp2
 have h0:RkW w ((w.alloc (.map #[] 0)).alloc (.cells l6 206)) 0 fun _ _=>0:=by
  have hb1:=(Below.refl w.heap.size w).alloc (Nat.le_refl _) (.map #[] 0)
  have hb2:=hb1.alloc (by simp) (.cells l6 206)
  refine⟨hb2,(Ts.aY.new w).of_block (Below.heap_alloc _ _ _ (by simp)),?_,by simp⟩
  have:=heap_alloc_new (w.alloc (.map #[] 0)) (.cells l6 206)
  simpa using this
 rw[show #[Value.string { data:=#[95] },.string { data:=#[49,50,51,112,108,116,107] },.int .i64 1,.string { data:=#[49,50,51,112,99,110,101,115] },.string { data:=#[46,101,115,110] },.int .i64 1,.string { data:=#[108] },.string { data:=#[105] },.int .i64 1,
  .string { data:=#[105] },.string { data:=#[46,101,115,110] },.int .i64 1,.string { data:=#[105] },.string { data:=#[108] },.int .i64 2,.string { data:=#[116] },.string { data:=#[114] },.int .i64 1,.string { data:=#[114] },.string { data:=#[99] },.int .i64 1]=l6 from rfl]
 generalize (w.alloc (.map #[] 0)).alloc (.cells l6 206)=w0 at h0 ⊢
 have H0:=hid h0
 clear h0
 go_loopw [16] (fun i wr=>∃ k n:Nat,k≤7∧i=.int .i64 k∧n≤64 * k∧RkW w wr n (fK k)) (fun i _=>7 - (intOf i).toNat)
 case atStart=>exact⟨0,0,by omega,rfl,by omega,H0.out⟩
 case round =>
  obtain⟨k,n,hk,rfl,hn,hR⟩:=hrel
  by_cases hlt:k<7
  ·obtain⟨g,hg⟩:=fI (l:=oF) (i:=k) hlt
   obtain⟨g1,g2,g3⟩:=UC g (List.mem_of_getElem? hg)
   obtain⟨c0,c1,c2⟩:=hR.cell hg
   have hB:=hR.box g 206 (fG g (fK k) 0 0) (aCO g (fK k)).symm
   have HG:=hid (aCR hg)
   have HE:=hid (aEQ g (fK k))
   have HN:=hid (fun(i:Nat) (h:i<g.outs.size)=>aCQ g (fK k) h)
   have HU:=hid (fun(i j:Nat) (h:i<g.outs.size) (h':j<g.kH.size)=>aCP g (fK k) h h')
   obtain⟨X,hX⟩:∃ X,wr.heap.size=X:=⟨_,rfl⟩
   rw[hX]at hB
   have j0:(0:Int)≤(k:Int):=by omega
   have j1:(k:Int)<7:=by omega
   clear hg hR
   have HB:=hid hB
   clear hB
   go_wp2
   generalize (wr.alloc (.cells #[.string g.outs,.string g.kH,.int .i64 (g.rank:Int)] 206))=w1 at HB ⊢
   have x0:=HB.out.x0
   clear c0 c1 c2 hX
   go_loopw [23] (fun i wr=>∃ i2 n2:Nat,i2≤g.outs.size∧i=.int .i64 i2∧n2≤n+8 * i2∧ZT w wr X g n2 (fG g (fK k) i2 0)) (fun i _=>g.outs.size - (intOf i).toNat)
   case atStart=>exact⟨0,n,by omega,rfl,by omega,HB.out⟩
   case round =>
    obtain⟨i2,n2,hi2,rfl,hn2,hR2⟩:=hrel
    by_cases hlt2:i2<g.outs.size
    ·have x1:=hR2.x1
     have HR2:=hid hR2
     clear hR2
     go_wp2
     go_loopw [29] (fun i wr=>∃ j n3:Nat,j≤g.kH.size∧i=.int .i64 j∧n3≤n2+j∧ZT w wr X g n3 (fG g (fK k) i2 j)) (fun i _=>g.kH.size - (intOf i).toNat)
     case atStart=>exact⟨0,n2,by omega,rfl,by omega,HR2.out⟩
     case round =>
      obtain⟨j,n3,hj,rfl,hn3,hR3⟩:=hrel
      by_cases hlt3:j<g.kH.size
      ·obtain⟨y0,y1,y2⟩:=And.intro hR3.x0 (And.intro hR3.x1 hR3.x2)
       have E1:=Lx.bP g.outs i2 hlt2
       have E2:=Lx.bP g.kH j hlt3
       have l1:=Lx.dQ g.outs i2
       have l2:=Lx.dQ g.kH j
       obtain⟨w5,hrun,h5⟩:=(hR3.drewN 1).put (by omega) l1 l2 g3 (HU.out i2 j hlt2 hlt3)
       have hrun':(Instr.mapUpdate 148 (.map (some w.heap.size)) (.agg #[.int .u8 (Lx.aV g.outs i2:Int),.int .u8 (Lx.aV g.kH j:Int)]) (.int .i64 (g.rank:Int))).run Tryz.prog wr.drew=.ok () w5:=hrun
       have z0:=And.intro h5.x0 (And.intro h5.x1 h5.x2)
       have H5:=hid h5
       clear hrun h5 hR3
       go_wp2
       go_region_held3 (fun w'=>w'.cell? ⟨X,0,none⟩=some (.string g.outs)∧w'.cell? ⟨X,1,none⟩=some (.string g.kH)∧w'.cell? ⟨X,2,none⟩=some (.int .i64 (g.rank:Int)))
        (first | exact⟨y0,y1,y2⟩ | exact z0) (first | fail)
       all_goals go_wp2
       all_goals exact⟨⟨j+1,n3+1,by omega,by go_num,by omega,H5.out⟩,by simp[intOf];omega⟩
      ·obtain rfl:j=g.kH.size:=by omega
       have H3:=hid (show ZT w _ X g n3 (fG g (fK k) (i2+1) 0) from HN.out i2 hlt2▸hR3)
       go_wp2
       go_roundw
       case rel=>exact⟨i2+1,n3,by omega,by go_num,by omega,H3.out⟩
       case measure=>simp[intOf];omega
    ·obtain rfl:i2=g.outs.size:=by omega
     have H3:=hid (show ZT w _ X g n2 (fK (k+1)) from HG.out▸HE.out▸hR2)
     go_wp2
     go_roundw
     case rel=>exact⟨k+1,n2,by omega,by go_num,by omega,H3.out.base⟩
     case measure=>simp[intOf];omega
  ·obtain rfl:k=7:=by omega
   have H3:=hid hR
   go_wp2
   go_ret
   refine⟨rfl,⟨n,?_⟩,H3.out.below,by have:=H3.out.size;omega⟩
   obtain⟨D,d1,d2⟩:=H3.out.map
   exact⟨D,d1,fun a b ha hb=>by rw[d2 a b ha hb,aFP ha hb]⟩
theorem UD {w W w5:World} (hb5:Below W.heap.size W w5) (hW:w.heap.size<W.heap.size) (c0:W.cell? ⟨w.heap.size,0,none⟩=some (.map none)) (c1:W.cell? ⟨w.heap.size,1,none⟩=some (.slice none 0 0)) (c2:W.cell? ⟨w.heap.size,2,none⟩=some (.int .i64 0)) (c3:W.cell? ⟨w.heap.size,3,none⟩=some (.bool false)) (c4:W.cell? ⟨w.heap.size,4,none⟩=some (.bool false)) (cf:∀ i,W.frozen? ⟨w.heap.size,i,none⟩=false) :
  w5.cell? ⟨w.heap.size,0,none⟩=some (.map none)∧w5.cell? ⟨w.heap.size,1,none⟩=some (.slice none 0 0)∧w5.cell? ⟨w.heap.size,2,none⟩=some (.int .i64 0)∧w5.cell? ⟨w.heap.size,3,none⟩=some (.bool false)∧w5.cell? ⟨w.heap.size,4,none⟩=some (.bool false)∧(∀ i,w5.frozen? ⟨w.heap.size,i,none⟩=false)∧w.heap.size<w5.heap.size :=
 ⟨(hb5.cell (p:=⟨w.heap.size,0,none⟩) hW).trans c0,(hb5.cell (p:=⟨w.heap.size,1,none⟩) hW).trans c1,(hb5.cell (p:=⟨w.heap.size,2,none⟩) hW).trans c2,(hb5.cell (p:=⟨w.heap.size,3,none⟩) hW).trans c3,(hb5.cell (p:=⟨w.heap.size,4,none⟩) hW).trans c4,
  fun i=>(hb5.frozen (p:=⟨w.heap.size,i,none⟩) hW).trans (cf i),Nat.lt_of_lt_of_le hW hb5.size⟩
structure sG (R:Nat) (a b:World):Prop where
 block:∀ k,k≠R→b.heap[k]?=a.heap[k]?
 size:b.heap.size=a.heap.size
 os:b.os=a.os
 tape:b.tape=a.tape
 output:b.output=a.output
theorem sG.step {R:Nat} {a b:World} (h:sG R a b) (i:Nat) (v:Value):sG R a (b.setCell ⟨R,i,none⟩ v) :=
 ⟨fun k hk=>(Below.heap_setCell b ⟨R,i,none⟩ v k hk).trans (h.block k hk),by rw[← h.size];simp,h.os,h.tape,h.output⟩
theorem aES (a:World) (R:Nat) (v0 v1 v2 v3 v4:Value):sG R a (((((a.setCell ⟨R,0,none⟩ v0).setCell ⟨R,1,none⟩ v1).setCell ⟨R,2,none⟩ v2).setCell ⟨R,3,none⟩ v3).setCell ⟨R,4,none⟩ v4) :=
 (((((⟨fun _ _=>rfl,rfl,rfl,rfl,rfl⟩:sG R a a).step 0 v0).step 1 v1).step 2 v2).step 3 v3).step 4 v4
def UL:Obj:=.cells #[.int .u8 95,.int .i64 0,.int .i64 0,.int .i64 0,.int .i64 0,.int .i64 0,.bool false,.int .i64 0] 184
theorem ZV {w w5 V:World} {z:Obj} {n5:Nat} (hb:Below (w.alloc z).drew.heap.size (w.alloc z).drew w5) (h5:Ts.aY w5 (w.alloc z).drew.heap.size n5 rk) (hV:sG w.heap.size w5 V) :
  Ts.aY (V.alloc UL) (w.heap.size+1) n5 rk∧(V.alloc UL).ownsRow w.heap.size 184 8 (.slice (some ⟨w5.heap.size,0,none⟩) 1 1) 1 (Ba.rows cL [sD])∧w5.heap.size≠w.heap.size+1∧w.heap.size≤w.heap.size+1∧Below w.heap.size w (V.alloc UL):=by
 have e1:(w.alloc z).drew.heap.size=w.heap.size+1:=by simp
 rw[e1]at hb h5
 have hlt:=h5.lt
 refine⟨h5.of_block ((Below.heap_alloc V UL _ (by rw[hV.size];exact hlt)).trans (hV.block _ (by omega))),?_,by omega,by omega,?_⟩
 ·have:=World.ownsRow_lit (base:=w.heap.size) (e:=184) (size:=8) V (cL sD).toArray 1 (by rw[hV.size];omega) (by decide) rfl
  rw[hV.size]at this
  exact this
 ·refine⟨hV.os.trans hb.os,hV.tape.trans hb.tape,hV.output.trans hb.output,?_,fun k hk=>?_⟩
  ·simp[hV.size];omega
  ·refine(Below.heap_alloc V UL k (by rw[hV.size];omega)).trans ((hV.block k (by omega)).trans ((hb.block k (by omega)).trans ?_))
   exact Below.heap_alloc w z k hk
theorem aET {w w5 V:World} {z:Obj} {n5:Nat} (hb:Below ((w.alloc z).alloc UL).drew.heap.size ((w.alloc z).alloc UL).drew w5) (h5:Ts.aY w5 ((w.alloc z).alloc UL).drew.heap.size n5 rk) (hV:sG w.heap.size w5 V) :
  Ts.aY V (w.heap.size+1+1) n5 rk∧V.ownsRow w.heap.size 184 8 (.slice (some ⟨w.heap.size+1,0,none⟩) 1 1) 1 (Ba.rows cL [sD])∧w.heap.size+1≠w.heap.size+1+1∧w.heap.size≤w.heap.size+1+1∧Below w.heap.size w V:=by
 have e1:((w.alloc z).alloc UL).drew.heap.size=w.heap.size+1+1:=by simp
 rw[e1]at hb h5
 have hlt:=h5.lt
 have hrow:V.heap[w.heap.size+1]?=some UL:=by
  refine(hV.block _ (by omega)).trans ((hb.block _ (by omega)).trans ?_)
  have:=heap_alloc_new (w.alloc z) UL
  rw[World.size_alloc]at this
  exact this
 refine⟨h5.of_block (hV.block _ (by omega)),?_,by omega,by omega,?_⟩
 ·exact⟨rfl,.inr ⟨w.heap.size+1,1,(cL sD).toArray,rfl,by omega,hrow,Nat.le_refl _,by decide,rfl,rfl⟩⟩
 ·refine⟨hV.os.trans hb.os,hV.tape.trans hb.tape,hV.output.trans hb.output,?_,fun k hk=>?_⟩
  ·rw[hV.size];omega
  ·refine(hV.block k (by omega)).trans ((hb.block k (by omega)).trans ?_)
   exact(Below.heap_alloc (w.alloc z) UL k (by simp;omega)).trans (Below.heap_alloc w z k hk)
theorem aCU (w:World):Calls Tryz.prog 98 #[] w fun e w'=>∃ M n L,e=.returned (.agg #[.map (some M),.slice (some ⟨L,0,none⟩) 1 1,.int .i64 0,.bool false,.bool false]) ∧
  Ts.aY w' M n rk∧w'.ownsRow w.heap.size 184 8 (.slice (some ⟨L,0,none⟩) 1 1) 1 (Ba.rows cL [sD])∧L≠M∧w.heap.size≤M∧Below w.heap.size w w':=by
 go_enter Tryz.func98,Tryz.ntmps98
 go_wp2
 have HR:=hid (fun W=>ZU W)
 go_region_law (first | (go_simp;go_at_call 139;refine(HR.out _).mono ?_;rintro e w5 ⟨rfl,⟨n5,h5⟩,hb5,hs5⟩;obtain⟨q0,q1,q2,q3,q4,qf,hlt5⟩:=UD (w:=w) hb5 (by first | (simp;done) | (simp;omega)) (by simp) (by simp) (by simp) (by simp) (by simp) (fun i=>by simp);replace h5:=hid h5;replace hb5:=hid hb5))
 ·skip
  have HB5:=hb5.out
  have H5:=h5.out
  clear hb5 h5
  go_wp2
  refine bodyPost_ret (v:=.agg #[.map (some _),.slice (some ⟨_,0,none⟩) 1 1,.int .i64 0,.bool false,.bool false]) (by simp[results,Tryz.f98,go_sem,q0,q1,q2,q3,q4,hlt5];exact⟨rfl,rfl⟩) rfl ⟨_,n5,_,rfl,?_⟩
  clear q0 q1 q2 q3 q4 qf hlt5
  have hV:=aES w5 w.heap.size (.map (some (w.heap.size+1))) (.slice (some ⟨w5.heap.size,0,none⟩) 1 1) (.int .i64 0) (.bool false) (.bool false)
  generalize ((((w5.setCell ⟨w.heap.size,0,none⟩ (.map (some (w.heap.size+1)))).setCell ⟨w.heap.size,1,none⟩ (.slice (some ⟨w5.heap.size,0,none⟩) 1 1)).setCell ⟨w.heap.size,2,none⟩ (.int .i64 0)).setCell ⟨w.heap.size,3,none⟩ (.bool false)).setCell ⟨w.heap.size,4,none⟩ (.bool false)=V at hV ⊢
  have e95:(Value.int .u8 (({ data:=#[95] }:ByteArray)[0].toNat:Int))=.int .u8 95:=rfl
  rw[e95]
  exact ZV HB5 H5 hV
 ·skip
  have HB5:=hb5.out
  have H5:=h5.out
  clear hb5 h5
  go_wp2
  refine bodyPost_ret (v:=.agg #[.map (some _),.slice (some ⟨_,0,none⟩) 1 1,.int .i64 0,.bool false,.bool false]) (by simp[results,Tryz.f98,go_sem,q0,q1,q2,q3,q4,hlt5];exact⟨rfl,rfl⟩) rfl ⟨_,n5,_,rfl,?_⟩
  clear q0 q1 q2 q3 q4 qf hlt5
  have hV:=aES w5 w.heap.size (.map (some (w.heap.size+1))) (.slice (some ⟨w5.heap.size,0,none⟩) 1 1) (.int .i64 0) (.bool false) (.bool false)
  generalize ((((w5.setCell ⟨w.heap.size,0,none⟩ (.map (some (w.heap.size+1)))).setCell ⟨w.heap.size,1,none⟩ (.slice (some ⟨w5.heap.size,0,none⟩) 1 1)).setCell ⟨w.heap.size,2,none⟩ (.int .i64 0)).setCell ⟨w.heap.size,3,none⟩ (.bool false)).setCell ⟨w.heap.size,4,none⟩ (.bool false)=V at hV ⊢
  have e95:(Value.int .u8 (({ data:=#[95] }:ByteArray)[0].toNat:Int))=.int .u8 95:=rfl
  rw[e95]
  exact ZV HB5 H5 hV
 ·skip
  have HB5:=hb5.out
  have H5:=h5.out
  clear hb5 h5
  go_wp2
  refine bodyPost_ret (v:=.agg #[.map (some _),.slice (some ⟨_,0,none⟩) 1 1,.int .i64 0,.bool false,.bool false]) (by simp[results,Tryz.f98,go_sem,q0,q1,q2,q3,q4];exact⟨rfl,rfl⟩) rfl ⟨_,n5,_,rfl,?_⟩
  clear q0 q1 q2 q3 q4 qf hlt5
  have hV:=aES w5 w.heap.size (.map (some (w.heap.size+1+1))) (.slice (some ⟨w.heap.size+1,0,none⟩) 1 1) (.int .i64 0) (.bool false) (.bool false)
  generalize ((((w5.setCell ⟨w.heap.size,0,none⟩ (.map (some (w.heap.size+1+1)))).setCell ⟨w.heap.size,1,none⟩ (.slice (some ⟨w.heap.size+1,0,none⟩) 1 1)).setCell ⟨w.heap.size,2,none⟩ (.int .i64 0)).setCell ⟨w.heap.size,3,none⟩ (.bool false)).setCell ⟨w.heap.size,4,none⟩ (.bool false)=V at hV ⊢
  have e95:(Value.int .u8 (({ data:=#[95] }:ByteArray)[0].toNat:Int))=.int .u8 95:=rfl
  rw[e95]at HB5 H5
  exact aET HB5 H5 hV
theorem cU.ZW {w:World} {N P M n L:Nat} {o:St} (h:cU w N P M n L o):N≤w.heap.size:=by have:=h.uB;omega
abbrev pK (off:Nat) (w:World) (B:Nat) (v:Value) (t:List Nd):Prop:=Ba.Reads cN 4 off w B v t
theorem ZD {off g:Nat} {w:World} {t:List Nd} (h:∀ k x,t[k]?=some x→∀ j u,(cN x)[j]?=some u→w.cell? ⟨g,off+(k * 4+j),none⟩=some u) (k:Nat) (x:Nd) (hx:t[k]?=some x) :
  w.cell? ⟨g,off+k * 4,none⟩=some (.int .u8 (x.kind:Int))∧w.cell? ⟨g,off+k * 4+1,none⟩=some (.string x.text)∧w.cell? ⟨g,off+k * 4+2,none⟩=some (.int .i64 x.place) ∧
   w.cell? ⟨g,off+k * 4+3,none⟩=some (.int .i64 x.size):=by
 have e:=h k x hx
 simp only[← Nat.add_assoc]at e
 exact⟨e 0 _ rfl,e 1 _ rfl,e 2 _ rfl,e 3 _ rfl⟩
end Go.Proofs.YthbigkoihpgcfaaGreatDoor.Tr
namespace Go.Proofs.YthbigkoihpgcfaaGreatDoor.Nu
open Go.RowKit Tr
def dF (k:Nat):Bool:=k==49 || k==50 || k==51 || k==112 || k==105 || k==99 || k==110
theorem SS {α:Type} {l:List α} {i:Nat} {b:α} (hb:l[i]?=some b) (f:α→α):l.set i (f b)=l.modify i f:=by
 apply List.ext_getElem?
 intro j
 rw[List.getElem?_set,List.getElem?_modify]
 by_cases h:i=j
 ·subst h
  have:=(List.getElem?_eq_some_iff.1 hb).1
  rw[if_pos rfl,if_pos this,hb];simp
 ·rw[if_neg h];simp only[if_neg h];cases l[j]?<;>rfl
theorem SZ {w:World} {N g k c i:Nat} {l:List Nd} (hk:l.length=k) (own:w.ownsRow N 188 4 (.slice (some ⟨g,0,none⟩) k c) k (Ba.rows cN l)) {x:Nd} (hx:l[i]?=some x) :
  w.cell? ⟨g,i * 4,none⟩=some (.int .u8 (x.kind:Int))∧w.cell? ⟨g,i * 4+1,none⟩=some (.string x.text)∧w.cell? ⟨g,i * 4+2,none⟩=some (.int .i64 x.place)∧w.cell? ⟨g,i * 4+3,none⟩=some (.int .i64 x.size):=by
 have hi:=(List.getElem?_eq_some_iff.1 hx).1
 have key:∀ j,j<4→w.cell? ⟨g,i * 4+j,none⟩=(cN x)[j]?:=fun j hj=>by
  rw[own.cellAt _ (by omega),Ba.fE cN NL _ _ _ hx j hj]
 exact⟨key 0 (by omega),key 1 (by omega),key 2 (by omega),key 3 (by omega)⟩
end Go.Proofs.YthbigkoihpgcfaaGreatDoor.Nu
namespace Go.Proofs.YthbigkoihpgcfaaGreatDoor.Tr
open Go.RowKit
structure oR (w:World) (N P M n L:Nat) (o:St) (v:Value) (off g:Nat) (t:List Nd):Prop where
 op:cU w N P M n L o
 c5:w.cell? ⟨P,5,none⟩=some v
 rd:∀ k x,t[k]?=some x→w.cell? ⟨g,off+k * 4,none⟩=some (.int .u8 (x.kind:Int))∧w.cell? ⟨g,off+k * 4+1,none⟩=some (.string x.text)∧w.cell? ⟨g,off+k * 4+2,none⟩=some (.int .i64 x.place)∧w.cell? ⟨g,off+k * 4+3,none⟩=some (.int .i64 x.size)
 gw:g<w.heap.size
 gP:g≠P
 gL:g≠L
theorem oR.next {w w':World} {N P M n L L' off g:Nat} {o o':St} {v:Value} {t:List Nd} (h:oR w N P M n L o v off g t) (h':cU w' N P M n L' o') (hf:Fr P L w w') (hL:L'=L∨w.heap.size≤L'):oR w' N P M n L' o' v off g t:=by
 have hb:=hf.block g h.gw h.gP h.gL
 have hc:∀ i,w'.cell? ⟨g,i,none⟩=w.cell? ⟨g,i,none⟩:=fun i=>World.cell?_of_block (w:=w) hb
 refine⟨h',(hf.tail 5 (by omega)).trans h.c5,fun k x hx=>?_,Nat.lt_of_lt_of_le h.gw hf.size,h.gP,?_⟩
 ·obtain⟨a,b,c,d⟩:=h.rd k x hx
  exact⟨(hc _).trans a,(hc _).trans b,(hc _).trans c,(hc _).trans d⟩
 ·have:=h.gL;have:=h.gw
  rcases hL with e | e<;>omega
theorem oR.of_heap {w w':World} {N P M n L off g:Nat} {o:St} {v:Value} {t:List Nd} (h:oR w N P M n L o v off g t) (hh:w'.heap=w.heap):oR w' N P M n L o v off g t:=by
 have hc:∀ a,w'.cell? a=w.cell? a:=fun a=>World.cell?_of_block (by rw[hh])
 refine⟨h.op.of_heap hh,(hc _).trans h.c5,fun k x hx=>?_,by rw[hh];exact h.gw,h.gP,h.gL⟩
 obtain⟨a,b,c,d⟩:=h.rd k x hx
 exact⟨(hc _).trans a,(hc _).trans b,(hc _).trans c,(hc _).trans d⟩
theorem oR.below {w w':World} {N P M n L off g:Nat} {o:St} {v:Value} {t:List Nd} (h:oR w N P M n L o v off g t) (hb:Below w.heap.size w w'):oR w' N P M n L o v off g t :=
 h.next (h.op.below hb) (Fr.dB hb h.op.tV) (.inl rfl)
def gS (t:List Nd) (o:St):Int:=if o.lv.length≤1 then (t.length:Int) else ((cH o.lv).start:Int)+(t.getD (cH o.lv).start ⟨0,cJ,0,0⟩).size
theorem mL {w:World} {N P M n L off g c:Nat} {o:St} {A:Option Addr} {t:List Nd} (h:oR w N P M n L o (.slice A t.length c) off g t) (hA:0<t.length→A=some ⟨g,off,none⟩) (hl:t.length≤9000)
  (hst:1<o.lv.length→∃ x,t[(cH o.lv).start]?=some x∧0≤x.size∧x.size≤9000) (z:Int) (hz:gS t o=z) :
  Calls Tryz.prog 141 #[.pointer (some ⟨P,0,none⟩)] w fun e w'=>e=.returned (.int .i64 z)∧∃ j,w'=w.drewN j:=by
 have H:=hid h
 have c5:=h.c5
 by_cases h1:1<o.lv.length
 ·have HI:=hid (show decide (1<o.lv.length)=true from decide_eq_true h1)
  obtain⟨x,hx,x0,x9⟩:=hst h1
  obtain⟨m,hm⟩:=h.op.len
  obtain⟨b,hb⟩:=fI (l:=o.lv) (i:=m) (by omega)
  have hT:cH o.lv=b:=by unfold cH;rw[hm,Nat.add_sub_cancel];exact eU hb
  obtain⟨s,hs⟩:∃ s,b.start=s:=⟨_,rfl⟩
  rw[hT,hs]at hx
  have hlt:=(List.getElem?_eq_some_iff.1 hx).1
  obtain⟨q,hq⟩:∃ q,x.size=q:=⟨_,rfl⟩
  have HZ:=hid (show (s:Int)+q=z by rw[← hz];unfold gS;rw[if_neg (by omega),hT,hs,eU hx,hq])
  rw[hq]at x0 x9
  obtain⟨-,-,-,d3⟩:=h.rd s x hx
  rw[hq]at d3
  have HM:=hid hm
  have HB:=hid hb
  have HS:=hid hs
  obtain rfl:=hA (by omega)
  have j0:(0:Int)≤(s:Int):=by omega
  have j1:(s:Int)<(t.length:Int):=by omega
  clear h hst hz hm hb hT hs hx hq h1 hA
  go_enter Tryz.func141,Tryz.ntmps141
  go_wp2_with (first
   |(go_at_call 140;refine(gX H.out.op true HI.out).mono ?_;rintro e w' ⟨rfl,rfl⟩)
   |(go_at_call 176;refine(jB H.out.op m HM.out).mono ?_;rintro e w' ⟨rfl,j,rfl⟩;have b1:=((H.out.op.drewN j).at HB.out).2.1;rw[HS.out]at b1))
  go_ret
  exact⟨Ba.aI HZ.out,_,rfl⟩
 ·have HI:=hid (show decide (1<o.lv.length)=false from decide_eq_false h1)
  have HZ:=hid (show (t.length:Int)=z by rw[← hz];unfold gS;rw[if_pos (by omega)])
  clear h hst hz h1
  go_enter Tryz.func141,Tryz.ntmps141
  go_wp2_with (first
   |(go_at_call 140;refine(gX H.out.op false HI.out).mono ?_;rintro e w' ⟨rfl,rfl⟩))
  go_ret
  exact⟨Ba.aI HZ.out,0,rfl⟩
def gT (t:List Nd) (z:Int):Nat→St→Option St
 | 0,o=>some o
 | f+1,o=>if 1<o.lv.length∧gS t o=z then (if jA o=true then gT t z f (gC o) else none) else some o
theorem sH (o:St) (h:1<o.lv.length):(gC o).lv.length=o.lv.length - 1:=by
 unfold gC
 simp only[]
 split
 ·rw[List.length_modify,List.length_take];omega
 ·rw[List.length_take];omega
def DS (P:Nat) (w:World):Nat:=match w.cell? ⟨P,1,none⟩with | some (.slice _ k _)=>k | _=>0
theorem cU.DS {w:World} {N P M n L:Nat} {o:St} (h:cU w N P M n L o):DS P w=o.lv.length:=by
 obtain⟨cap,r,_⟩:=h.row
 unfold Tr.DS
 rw[r]
def UM (l:List Lv):List Nat:=(l.drop 1).map (·.start)
theorem DT (o:St):∀ s ∈ UM (gC o).lv,s ∈ UM o.lv:=by
 have e:∀ l:List Lv,UM l=(l.map (·.start)).drop 1:=fun l=>by unfold UM;rw[List.map_drop]
 have hm:(gC o).lv.map (·.start)=(o.lv.map (·.start)).take (o.lv.length - 1):=by
  unfold gC
  simp only[]
  split
  ·rw[← List.map_take]
   apply List.ext_getElem?
   intro i
   rw[List.getElem?_map,List.getElem?_map,List.getElem?_modify]
   cases (List.take (o.lv.length - 1) o.lv)[i]? with
   | none=>rfl
   | some x =>
    by_cases h:o.lv.length - 2=i<;>simp[h,tS]
  ·rw[List.map_take]
 intro s hs
 rw[e,hm]at hs
 rw[e]
 rw[List.drop_take]at hs
 exact List.mem_of_mem_take hs
theorem FW {o:St} (h:1<o.lv.length):(cH o.lv).start ∈ UM o.lv:=by
 unfold UM cH
 rw[List.mem_map]
 refine⟨_,?_,rfl⟩
 rw[List.mem_iff_getElem?]
 refine⟨o.lv.length - 2,?_⟩
 rw[List.getElem?_drop,show 1+(o.lv.length - 2)=o.lv.length - 1 from by omega,List.getD_eq_getElem?_getD,List.getElem?_eq_getElem (by omega)];rfl
theorem xF {t:List Nd} {z:Int} {o:St} (h0:0<o.lv.length) (h:¬ (1<o.lv.length∧gS t o=z)):gT t z o.lv.length o=some o:=by
 obtain⟨f,hf⟩:∃ f,o.lv.length=f+1:=⟨o.lv.length - 1,by omega⟩
 conv=>lhs;arg 3;rw[hf]
 unfold gT
 rw[if_neg h]
theorem UE {t:List Nd} {z:Int} {o:St} (h1:1<o.lv.length) (h:gS t o=z):gT t z o.lv.length o=if jA o=true then gT t z (gC o).lv.length (gC o) else none:=by
 rw[sH o h1]
 obtain⟨f,hf⟩:∃ f,o.lv.length=f+1:=⟨o.lv.length - 1,by omega⟩
 conv=>lhs;arg 3;rw[hf]
 rw[show o.lv.length - 1=f from by omega]
 conv=>lhs;unfold gT
 rw[if_pos ⟨h1,h⟩]
theorem OR {w:World} {N P M n L off g c:Nat} {o:St} {A:Option Addr} {t:List Nd} (h:oR w N P M n L o (.slice A t.length c) off g t) (hA:0<t.length→A=some ⟨g,off,none⟩) (hl:t.length≤9000) (z:Int)
  (hst:∀ s ∈ UM o.lv,∃ x,t[s]?=some x∧0≤x.size∧x.size≤9000) (r:Option St) (hr:gT t z o.lv.length o=r) :
  Calls Tryz.prog 99 #[.pointer (some ⟨P,0,none⟩),.int .i64 z] w fun e w'=>e=.returned (.bool r.isSome)∧Below N w w' ∧
   ∀ o',r=some o'→oR w' N P M n L o' (.slice A t.length c) off g t∧Fr P L w w':=by
 have H:=hid h
 have HST:=hid hst
 have HR:=hid hr
 have hLe:=h.op.FT
 have hLl:=h.op.uB.2
 have hNw:=h.op.ZW
 clear h hst hr
 go_enter Tryz.func99,Tryz.ntmps99
 go_wp2
 go_loopw [8] (fun _ wr=>∃ o',oR wr N P M n L o' (.slice A t.length c) off g t∧Fr P L w wr∧(∀ s ∈ UM o'.lv,∃ x,t[s]?=some x∧0≤x.size∧x.size≤9000)∧gT t z o'.lv.length o'=r) (fun _ wr=>DS P wr)
 case atStart=>exact⟨o,H.out,Fr.refl _ _ _,HST.out,HR.out⟩
 case round =>
  obtain⟨o',h',hf,hs,hr⟩:=hrel
  have hlen:=h'.op.DS
  have hpos:=h'.op.pos
  by_cases h1:1<o'.lv.length
  ·have HI:=hid (show decide (1<o'.lv.length)=true from decide_eq_true h1)
   obtain⟨q,hq⟩:∃ q,gS t o'=q:=⟨_,rfl⟩
   have HE:=hid (mL h' hA hl (fun _=>hs _ (FW h1)) q hq)
   by_cases hz:q=z
   ·have hgo:=UE (t:=t) h1 (hq.trans hz)
    rw[hr]at hgo
    have t1:(q==z)=true:=by rw[hz];simp
    cases hlb:jA o'
    ·rw[hlb]at hgo
     have HN:=hid (show r=none from hgo)
     have HLB:=hid hlb
     have H':=hid h'
     have HF:=hid hf
     have H1:=hid h1
     clear h' hf hs hr hlen hpos h1 hq hz hgo hlb
     go_wp2_with (first
      |(go_at_call 140;refine(gX H'.out.op true HI.out).mono ?_;rintro e w' ⟨rfl,rfl⟩)
      |(go_at_call 141;refine HE.out.mono ?_;rintro e w' ⟨rfl,j,rfl⟩)
      |(go_at_call 142;refine(DR (H'.out.op.drewN j) H1.out).mono ?_;rw[HLB.out];rintro e w5 ⟨rfl,hf5,-⟩;replace hf5:=hid hf5))
     go_ret
     refine⟨by rw[HN.out];rfl,((HF.out.trans (Fr.K4 hf5.out) (.inl rfl))).below hLe hLl hNw,fun o2 e2=>by rw[HN.out]at e2;cases e2⟩
    ·rw[hlb,if_pos rfl]at hgo
     have HN:=hid hgo.symm
     have HLB:=hid hlb
     have H':=hid h'
     have HF:=hid hf
     have H1:=hid h1
     have HS:=hid hs
     have HLN:=hid hlen
     clear h' hf hs hr hlen hpos h1 hq hz hgo hlb
     go_wp2_with (first
      |(go_at_call 140;refine(gX H'.out.op true HI.out).mono ?_;rintro e w' ⟨rfl,rfl⟩)
      |(go_at_call 141;refine HE.out.mono ?_;rintro e w' ⟨rfl,j,rfl⟩)
      |(go_at_call 142;refine(DR (H'.out.op.drewN j) H1.out).mono ?_;rw[HLB.out];rintro e w5 ⟨rfl,hf5,hop5⟩;replace hop5:=hid (hop5 rfl);replace hf5:=hid (Fr.K4 hf5)))
     go_roundw
     case rel=>exact⟨gC o',H'.out.next hop5.out hf5.out (.inl rfl),HF.out.trans hf5.out (.inl rfl),fun s hs=>HS.out s (DT o' s hs),HN.out⟩
     case measure =>
      have:=hop5.out.DS
      have:=sH o' H1.out
      have:=H1.out
      have:=HLN.out
      omega
   ·have t1:(q==z)=false:=beq_eq_false_iff_ne.2 hz
    have HN:=hid (show r=some o' by rw[← hr];exact xF hpos (fun e=>hz (hq.symm.trans e.2)))
    have H':=hid h'
    have HF:=hid hf
    clear h' hf hs hr hlen hpos h1 hq hz
    go_wp2_with (first
     |(go_at_call 140;refine(gX H'.out.op true HI.out).mono ?_;rintro e w' ⟨rfl,rfl⟩)
     |(go_at_call 141;refine HE.out.mono ?_;rintro e w' ⟨rfl,j,rfl⟩))
    go_ret
    refine⟨by rw[HN.out];rfl,(HF.out.drewN _).below hLe hLl hNw,fun o2 e2=>?_⟩
    rw[HN.out]at e2;cases e2
    exact⟨H'.out.of_heap rfl,HF.out.drewN _⟩
  ·have HI:=hid (show decide (1<o'.lv.length)=false from decide_eq_false h1)
   have HN:=hid (show r=some o' by rw[← hr];exact xF hpos (fun e=>h1 e.1))
   have H':=hid h'
   have HF:=hid hf
   clear h' hf hs hr hlen hpos h1
   go_wp2_with (first
    |(go_at_call 140;refine(gX H'.out.op false HI.out).mono ?_;rintro e w' ⟨rfl,rfl⟩))
   go_ret
   refine⟨by rw[HN.out];rfl,HF.out.below hLe hLl hNw,fun o2 e2=>?_⟩
   rw[HN.out]at e2;cases e2
   exact⟨H'.out,HF.out⟩
end Go.Proofs.YthbigkoihpgcfaaGreatDoor.Tr
