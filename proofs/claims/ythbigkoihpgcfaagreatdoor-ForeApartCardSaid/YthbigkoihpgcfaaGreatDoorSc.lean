/-
  Put together.
-/
import Derived.Test.YthbigkoihpgcfaaGreatDoorSa
import Derived.Test.YthbigkoihpgcfaaGreatDoorSb
import Derived.Deep.RegionHeld3
import Derived.BigQuiet
set_option maxRecDepth 100000
set_option maxHeartbeats 16000000
namespace Go.Proofs.YthbigkoihpgcfaaGreatDoor.Ti
open Go.RowKit Go.Maps Ba Ru Ck
structure lG (w w':World) (T:Nat→Prop):Prop where
 os:w'.os=w.os
 tape:w'.tape=w.tape
 output:w'.output=w.output
 size:w.heap.size≤w'.heap.size
 block:∀ b,b<w.heap.size→¬ T b→w'.heap[b]?=w.heap[b]?
section
variable {w w' w'':World} {T T':Nat→Prop}
theorem lG.refl (w:World) (T:Nat→Prop):lG w w T:=⟨rfl,rfl,rfl,Nat.le_refl _,fun _ _ _=>rfl⟩
theorem lG.trans (h:lG w w' T) (k:lG w' w'' T):lG w w'' T :=
 ⟨k.os.trans h.os,k.tape.trans h.tape,k.output.trans h.output,Nat.le_trans h.size k.size,fun b hb ht=>(k.block b (Nat.lt_of_lt_of_le hb h.size) ht).trans (h.block b hb ht)⟩
theorem lG.alloc (h:lG w w' T) (o:Obj):lG w (w'.alloc o) T:=h.trans ⟨rfl,rfl,rfl,by simp,fun k hk _=>Below.heap_alloc _ _ _ hk⟩
theorem lG.grown {row:Option Nat} (h:lG w w' T) (hg:w'.grownBy w'' row) (hr:∀ b,b<w.heap.size→row=some b→T b):lG w w'' T :=
 ⟨hg.os.trans h.os,hg.tape.trans h.tape,hg.output.trans h.output,Nat.le_trans h.size hg.size,fun b hb ht=>(hg.block b (Nat.lt_of_lt_of_le hb h.size) fun e=>ht (hr b hb e.symm)).trans (h.block b hb ht)⟩
theorem lG.YX {B:Nat} (h:lG w w' T) (hB:B≤w.heap.size) (hT:∀ b,T b→B≤b):Below B w w':=⟨h.os,h.tape,h.output,h.size,fun b hb=>h.block b (by omega) fun k=>by have:=hT b k;omega⟩
end
section
variable {κ:Type} {K T:TypeId} {enc:κ→Value} {dom:κ→Prop} {B n:Nat} {g:κ→Option Nat} {ops:Array Oper} {rest:List Oper} {o:Oper} {a:Act} {Q:Exit→Act→World→Prop}
theorem xE (w:World) (hg:o.guard=none) (m x:Operand) (hop:o.op=Op.lookup T m x true) (KK:jE K T enc dom) (hm:a.eval m=.map (some B)) (h:aY K enc dom w B n g) (k:κ) (hd:dom k) (hx:a.eval x=enc k) (v:Int) (b:Bool) (hv:mY (g k)=v) (hb:okV (g k)=b)
  (hK:wpList Tryz.prog ops Q rest (a.put o.dst (.tuple #[.int .i64 v,.bool b])) w):wpList Tryz.prog ops Q (o::rest) a w:=by
 refine wpList_plain hg fun K' hK'=>?_
 have hr:=h.look KK hd
 rw[hv,hb]at hr
 unfold Oper.wp
 simp[execOp,hop,hm,hx,hr,Result.andThen]
 exact hK' _ _ hK
theorem oC [DecidableEq κ] (w:World) (hg:o.guard=none) (m x v:Operand) (hop:o.op=Op.mapUpdate T m x v) (KK:jE K T enc dom) (hm:a.eval m=.map (some B)) (h:aY K enc dom w B n g) (hn:n<maxLen) (k:κ) (hd:dom k) (hx:a.eval x=enc k) (hk:g k=none) (r:Nat) (hr:r≤maxLen) (hv:a.eval v=.int .i64 (r:Int))
  (hK:∀ w',aY K enc dom w' B (n+1) (TW g k r)→w.grownBy w' (some B)→wpList Tryz.prog ops Q rest (a.put o.dst undef) w'):wpList Tryz.prog ops Q (o::rest) a w:=by
 refine wpList_plain hg fun K' hK'=>?_
 obtain⟨w',hrun,r1,r2⟩:=h.put KK hn hd hk hr
 unfold Oper.wp
 simp[execOp,hop,hm,hx,hv,hrun,Result.andThen]
 exact hK' _ _ (hK w' r1 r2)
theorem FL (w:World) (hg:o.guard=none) (m:Operand) (hop:o.op=Op.call { callee:=Callee.builtin Builtin.len,args:=#[m],argTypes:=#[T] }) (KK:jE K T enc dom) (hm:a.eval m=.map (some B)) (h:aY K enc dom w B n g)
  (hK:wpList Tryz.prog ops Q rest (a.put o.dst (.int .i64 (n:Int))) w):wpList Tryz.prog ops Q (o::rest) a w:=by
 refine wpList_plain hg fun K' hK'=>?_
 unfold Oper.wp
 simp[execOp,hop,resolve,invoke,builtin,hm,h.count KK o.type,Result.andThen]
 exact hK' _ _ hK
end
theorem byte_at (s:ByteArray) (k:Nat) (h:k<s.size):(aA s)[k]?=some (aV s k):=by
 have hl:(aA s).length=s.size:=aD s
 unfold aV
 rw[List.getD_eq_getElem?_getD,List.getElem?_eq_getElem (by omega)];rfl
def pQ (S E:Nat):Value:=.agg #[.map (some S),.map (some E)]
abbrev eT (w:World) (B n:Nat) (f:Nat × Nat→Option Nat):Prop:=aY 127 KR KS w B n f
abbrev iJ (w:World) (B n:Nat) (e:Nat→Option Nat):Prop:=aY 3 FM sC w B n e
theorem KT (w:World):Calls Tryz.prog 22 #[] w fun e w' =>
  ∃ S E,e=.returned (pQ S E)∧w.heap.size≤S∧S<E∧E<w'.heap.size∧Below w.heap.size w w'∧eT w' S 0 (fun _=>none)∧iJ w' E 0 (fun _=>none):=by
 have hmm:=@run_makeMap Tryz.prog
 go_enter Tryz.func22,Tryz.ntmps22
 go_wp2
 have b1:Below w.heap.size w (w.alloc (.cells #[.map (some (w.heap.size+1)),.map (some (w.heap.size+1+1))] 60)):=(Below.refl _ _).alloc (Nat.le_refl _) _
 generalize hw1:w.alloc (.cells #[.map (some (w.heap.size+1)),.map (some (w.heap.size+1+1))] 60)=w1 at b1
 have s1:w1.heap.size=w.heap.size+1:=by rw[← hw1];simp
 have s2:(w1.alloc (.map #[] 0)).heap.size=w.heap.size+1+1:=by simp[s1]
 have m1:=aY.new 127 KR KS w1
 have m2:=aY.new 3 FM sC (w1.alloc (.map #[] 0))
 rw[s1]at m1
 rw[s2]at m2
 have b2:Below w.heap.size w ((w1.alloc (.map #[] 0)).alloc (.map #[] 0)):=(b1.alloc (by omega) _).alloc (by omega) _
 have s3:((w1.alloc (.map #[] 0)).alloc (.map #[] 0)).heap.size=w.heap.size+1+1+1:=by simp[s1]
 have m3:=m1.of_block (w':=(w1.alloc (.map #[] 0)).alloc (.map #[] 0)) (Below.heap_alloc _ _ _ (by omega))
 have r0:((w1.alloc (.map #[] 0)).alloc (.map #[] 0)).heap[w.heap.size]?=some (.cells #[.map (some (w.heap.size+1)),.map (some (w.heap.size+1+1))] 60):=by
  rw[Below.heap_alloc _ _ _ (by omega),Below.heap_alloc _ _ _ (by omega),← hw1]
  exact heap_alloc_new w _
 generalize (w1.alloc (.map #[] 0)).alloc (.map #[] 0)=w2 at b2 s3 m2 m3 r0 ⊢
 clear hw1 m1 s2 s1 b1 hmm
 have c0:w2.cell? ⟨w.heap.size,0,none⟩=some (.map (some (w.heap.size+1))):=by simp[World.cell?,r0]
 have c1:w2.cell? ⟨w.heap.size,1,none⟩=some (.map (some (w.heap.size+1+1))):=by simp[World.cell?,r0]
 refine bodyPost_ret (v:=pQ (w.heap.size+1) (w.heap.size+1+1)) (by simp[results,Tryz.f22,go_sem,pQ,c0,c1]) rfl ?_
 exact⟨_,_,rfl,by omega,by omega,by omega,b2,m3,m2⟩
def YY (w w':World) (S E n m:Nat) (cs:List Nat) (r:Nat) (e:Nat→Option Nat) (M:List Nat→Nat→Prop):Prop :=
 ∃ g n' p,n'≤n+cs.length∧eT w' S n' g∧iJ w' E (m+1) (TW e p r)∧qW (fun t k=>M t k∨t=cs∧k=r) g (TW e p r) n'∧lG w w' (fun b=>b=S∨b=E)
theorem aCA (S E n m:Nat) (cs:ByteArray) (r:Nat) (f:Nat × Nat→Option Nat) (e:Nat→Option Nat) (M:List Nat→Nat→Prop) (w:World) (hS:eT w S n f) (hE:iJ w E m e) (hSE:S≠E) (H:qW M f e n) (hM:∀ r,¬ M (aA cs) r)
  (hn:n+cs.size≤1000000000) (hm:m≤1000000) (hr:r≤1000000) :
  Calls Tryz.prog 48 #[pQ S E,.string cs,.int .i64 (r:Int)] w fun x w' =>
   x=.returned (.tuple #[])∧YY w w' S E n m (aA cs) r e M:=by
 have HH:=Lib.hid H
 have HM:=Lib.hid hM
 clear H hM
 have hlS:=hS.lt
 have hlE:=hE.lt
 obtain⟨bx,hbx⟩:∃ bx,w.heap.size=bx:=⟨_,rfl⟩
 have HS0:=Lib.hid (show eT (w.alloc (.cells #[.map (some S),.map (some E)] 60)) S n f from hS.of_block (Below.heap_alloc _ _ _ hlS))
 have HE0:=Lib.hid (show iJ (w.alloc (.cells #[.map (some S),.map (some E)] 60)) E m e from hE.of_block (Below.heap_alloc _ _ _ hlE))
 have HT0:=Lib.hid ((lG.refl w (fun b=>b=S∨b=E)).alloc (.cells #[.map (some S),.map (some E)] 60))
 have hb0:=heap_alloc_new w (.cells #[.map (some S),.map (some E)] 60)
 clear hS hE
 unfold pQ
 go_enter Tryz.func48,Tryz.ntmps48
 go_wp2
 rw[hbx]at hb0
 have hSb:S<bx:=by omega
 generalize (w.alloc (.cells #[.map (some S),.map (some E)] 60))=w0 at HS0 HE0 HT0 hb0 ⊢
 clear hbx
 go_loopw [6,13] (fun p i wr=>∃ (k q n2:Nat) (g:Nat × Nat→Option Nat),k≤cs.size∧i=.int .i64 (k:Int)∧p=.int .i64 (q:Int)∧eT wr S n2 g∧iJ wr E m e∧Tree g n2∧kB f g∧eJ g 0 ((aA cs).take k)=some q∧n2≤n+k∧lG w wr (fun b=>b=S∨b=E)∧wr.heap[bx]?=some (.cells #[.map (some S),.map (some E)] 60)) (fun _ i _=>cs.size - (intOf i).toNat)
 case atStart=>exact⟨0,0,n,f,Nat.zero_le _,rfl,rfl,HS0.out,HE0.out,HH.out.tree,kB.refl f,rfl,by omega,HT0.out,hb0⟩
 case round =>
  obtain⟨k,q,n2,g,hk,rfl,rfl,hS,hE,hTr,hKe,hW,hn2,hT,hB⟩:=hrel
  have x0:wr.cell? ⟨bx,0,none⟩=some (.map (some S)):=by simp[World.cell?,hB]
  have x1:wr.cell? ⟨bx,1,none⟩=some (.map (some E)):=by simp[World.cell?,hB]
  have hq:q≤n2:=hTr.le _ 0 q (Nat.zero_le _) hW
  by_cases hlt:k<cs.size
  ·have E1:=bP cs k hlt
   have l1:=dQ cs k
   have hc:(aA cs)[k]?=some (aV cs k):=byte_at cs k hlt
   obtain⟨c,hc9⟩:∃ c,aV cs k=c:=⟨_,rfl⟩
   rw[hc9]at E1 l1 hc
   clear hc9
   have hlS2:=hS.lt
   have hlE2:=hE.lt
   have HSn:=Lib.hid (show eT (wr.alloc (.cells #[.int .i64 (q:Int),.int .u8 (c:Int)] 127)) S n2 g from hS.of_block (Below.heap_alloc _ _ _ hlS2))
   have HEn:=Lib.hid (show iJ (wr.alloc (.cells #[.int .i64 (q:Int),.int .u8 (c:Int)] 127)) E m e from hE.of_block (Below.heap_alloc _ _ _ hlE2))
   have HTn:=Lib.hid (hT.alloc (.cells #[.int .i64 (q:Int),.int .u8 (c:Int)] 127))
   have hlB:=(Array.getElem?_eq_some_iff.1 hB).1
   have HBn:=Lib.hid (show (wr.alloc (.cells #[.int .i64 (q:Int),.int .u8 (c:Int)] 127)).heap[bx]?=some (.cells #[.map (some S),.map (some E)] 60) from (Below.heap_alloc _ _ _ hlB).trans hB)
   clear hS hE hT hB
   have HTR:=Lib.hid hTr
   have HKE:=Lib.hid hKe
   have HW:=Lib.hid hW
   have HC:=Lib.hid hc
   clear hTr hKe hW hc
   have hd:KS (q,c):=⟨by unfold maxLen;show q≤_;omega,l1⟩
   cases hg:g (q,c) with
   | some q2 =>
    have HG:=Lib.hid hg
    clear hg
    go_wp2_with (first | (at_lookup;refine xE _ rfl _ _ rfl nJ rfl HSn.out (q,c) hd rfl (q2:Int) true (by rw[HG.out];rfl) (by rw[HG.out];rfl) ?_) | go_in)
    exact⟨⟨k+1,q2,n2,g,hlt,by go_num,rfl,HSn.out,HEn.out,HTR.out,HKE.out,FK HW.out HC.out HG.out,by omega,HTn.out,HBn.out⟩,by simp[intOf];omega⟩
   | none =>
    have HG:=Lib.hid hg
    clear hg
    go_wp2_with (first | (at_lookup;refine xE _ rfl _ _ rfl nJ rfl HSn.out (q,c) hd rfl 0 false (by rw[HG.out];rfl) (by rw[HG.out];rfl) ?_) | (at_len;refine FL _ rfl _ rfl nJ rfl HSn.out ?_) | (at_mapUpdate;refine oC _ rfl _ _ _ rfl nJ rfl HSn.out (by unfold maxLen;omega) (q,c) hd rfl HG.out (n2+1) (by unfold maxLen;omega) rfl ?_;intro w5 hp5 hg5) | go_in)
    have hlt2:∀ b,b<wr.heap.size→b<(wr.alloc (.cells #[.int .i64 (q:Int),.int .u8 (c:Int)] 127)).heap.size:=fun b hb=>by simp;omega
    refine⟨⟨k+1,n2+1,n2+1,KQ g (q,c) (n2+1),hlt,by go_num,by go_num,hp5,HEn.out.of_block (hg5.block E (hlt2 E hlE2) (fun h=>hSE (Option.some.inj h).symm)),HTR.out.set hq,HKE.out.trans (kB.set HG.out _),?_,by omega,HTn.out.grown hg5 (fun b _ h=>.inl (Option.some.inj h).symm),(hg5.block bx (hlt2 bx hlB) (fun h=>by have:=Option.some.inj h;omega)).trans HBn.out⟩,by simp[intOf];omega⟩
    exact FK ((kB.set HG.out _).walk _ 0 q HW.out) HC.out (aEF _ _ _)
  ·obtain rfl:k=cs.size:=by omega
   have hl9:(aA cs).length=cs.size:=aD cs
   rw[List.take_of_length_le (by omega)]at hW
   have hfree:e q=none:=HH.out.free hTr hKe hW HM.out
   have hlE2:=hE.lt
   have HE:=Lib.hid hE
   have HFREE:=Lib.hid hfree
   have HRES:=Lib.hid (show n2≤n+cs.size∧eT wr S n2 g∧lG w wr (fun b=>b=S∨b=E)∧qW (fun t k=>M t k∨t=aA cs∧k=r) g (TW e q r) n2 from ⟨hn2,hS,hT,HH.out.add hTr hKe hW HM.out r⟩)
   have hlS2:=hS.lt
   clear hS hE hT hTr hKe hW hfree hl9 hB
   go_wp2_with (first | (at_mapUpdate;refine oC _ rfl _ _ _ rfl vO rfl HE.out (by unfold maxLen;omega) q (by unfold sC maxLen;omega) rfl HFREE.out r (by unfold maxLen;omega) rfl ?_;intro w5 hp5 hg5) | go_in)
   go_end0
   obtain⟨r1,r2,r3,r4⟩:=HRES.out
   exact⟨rfl,g,n2,q,by rw[aD];exact r1,r2.of_block (hg5.block S hlS2 (fun h=>hSE (Option.some.inj h))),hp5,r4,r3.grown hg5 (fun b _ h=>.inr (Option.some.inj h).symm)⟩
end Go.Proofs.YthbigkoihpgcfaaGreatDoor.Ti
namespace Go.Proofs.YthbigkoihpgcfaaGreatDoor.Ti
open Go.RowKit Go.Maps Ba Ru Ck
end Go.Proofs.YthbigkoihpgcfaaGreatDoor.Ti
