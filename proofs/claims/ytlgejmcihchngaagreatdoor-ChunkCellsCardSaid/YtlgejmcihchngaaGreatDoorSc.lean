/-
  Put together: TjB, TjC.
-/
import Derived.Test.YtlgejmcihchngaaGreatDoorSa
import Derived.Test.YtlgejmcihchngaaGreatDoorSb
import Derived.Deep.RegionHeld3
import Derived.BigQuiet
namespace Go.Proofs.YtlgejmcihchngaaGreatDoor.Ti
open Go.RowKit Go.Maps Ba Ru Ck
structure Turn (w w':World) (T:Nat→Prop):Prop where
 os:w'.os=w.os
 tape:w'.tape=w.tape
 output:w'.output=w.output
 size:w.heap.size≤w'.heap.size
 block:∀ b,b<w.heap.size→¬ T b→w'.heap[b]?=w.heap[b]?
section
variable {w w' w'':World} {T T':Nat→Prop}
theorem Turn.refl (w:World) (T:Nat→Prop):Turn w w T:=⟨rfl,rfl,rfl,Nat.le_refl _,fun _ _ _=>rfl⟩
theorem Turn.trans (h:Turn w w' T) (k:Turn w' w'' T):Turn w w'' T :=
 ⟨k.os.trans h.os,k.tape.trans h.tape,k.output.trans h.output,Nat.le_trans h.size k.size,fun b hb ht=>(k.block b (Nat.lt_of_lt_of_le hb h.size) ht).trans (h.block b hb ht)⟩
theorem Turn.mono (h:Turn w w' T) (hT:∀ b,b<w.heap.size→T b→T' b):Turn w w' T':=⟨h.os,h.tape,h.output,h.size,fun b hb ht=>h.block b hb fun k=>ht (hT b hb k)⟩
theorem Turn.alloc (h:Turn w w' T) (o:Obj):Turn w (w'.alloc o) T:=h.trans ⟨rfl,rfl,rfl,by simp,fun k hk _=>Below.heap_alloc _ _ _ hk⟩
theorem Turn.drew (h:Turn w w' T):Turn w w'.drew T:=⟨h.os,h.tape,h.output,h.size,h.block⟩
theorem Turn.grown {row:Option Nat} (h:Turn w w' T) (hg:w'.grownBy w'' row) (hr:∀ b,b<w.heap.size→row=some b→T b):Turn w w'' T :=
 ⟨hg.os.trans h.os,hg.tape.trans h.tape,hg.output.trans h.output,Nat.le_trans h.size hg.size,fun b hb ht=>(hg.block b (Nat.lt_of_lt_of_le hb h.size) fun e=>ht (hr b hb e.symm)).trans (h.block b hb ht)⟩
theorem Turn.below (h:Below w.heap.size w w'):Turn w w' T:=⟨h.os,h.tape,h.output,h.size,fun b hb _=>h.block b hb⟩
theorem Turn.to_below {B:Nat} (h:Turn w w' T) (hB:B≤w.heap.size) (hT:∀ b,T b→B≤b):Below B w w':=⟨h.os,h.tape,h.output,h.size,fun b hb=>h.block b (by omega) fun k=>by have:=hT b k;omega⟩
theorem Turn.on (h:Turn w w' T) (k:Below w'.heap.size w' w''):Turn w w'' T:=h.trans (Turn.below k)
theorem Turn.setCell (h:Turn w w' T) {p:Addr} (hp:p.block<w.heap.size→T p.block) (u:Value):Turn w (w'.setCell p u) T :=
 ⟨h.os,h.tape,h.output,by simp[World.setCell];exact h.size,fun b hb ht=>(Below.heap_setCell _ _ _ _ (fun e=>ht (by subst e;exact hp hb))).trans (h.block b hb ht)⟩
end
section
variable {κ:Type} {K T:TypeId} {enc:κ→Value} {dom:κ→Prop} {B n:Nat} {g:κ→Option Nat} {ops:Array Oper} {rest:List Oper} {o:Oper} {a:Act} {Q:Exit→Act→World→Prop}
theorem wpList_look (w:World) (hg:o.guard=none) (m x:Operand) (hop:o.op=Op.lookup T m x true) (KK:KeyKind K T enc dom) (hm:a.eval m=.map (some B)) (h:MapIs K enc dom w B n g) (k:κ) (hd:dom k) (hx:a.eval x=enc k) (v:Int) (b:Bool) (hv:numV (g k)=v) (hb:okV (g k)=b)
  (hK:wpList Tryz.prog ops Q rest (a.put o.dst (.tuple #[.int .i64 v,.bool b])) w):wpList Tryz.prog ops Q (o::rest) a w:=by
 refine wpList_plain hg fun K' hK'=>?_
 have hr:=h.look KK hd
 rw[hv,hb]at hr
 unfold Oper.wp
 simp[execOp,hop,hm,hx,hr,Result.andThen]
 exact hK' _ _ hK
theorem wpList_put [DecidableEq κ] (w:World) (hg:o.guard=none) (m x v:Operand) (hop:o.op=Op.mapUpdate T m x v) (KK:KeyKind K T enc dom) (hm:a.eval m=.map (some B)) (h:MapIs K enc dom w B n g) (hn:n<maxLen) (k:κ) (hd:dom k) (hx:a.eval x=enc k) (hk:g k=none) (r:Nat) (hr:r≤maxLen) (hv:a.eval v=.int .i64 (r:Int))
  (hK:∀ w',MapIs K enc dom w' B (n+1) (setK g k r)→w.grownBy w' (some B)→wpList Tryz.prog ops Q rest (a.put o.dst undef) w'):wpList Tryz.prog ops Q (o::rest) a w:=by
 refine wpList_plain hg fun K' hK'=>?_
 obtain⟨w',hrun,r1,r2⟩:=h.put KK hn hd hk hr
 unfold Oper.wp
 simp[execOp,hop,hm,hx,hv,hrun,Result.andThen]
 exact hK' _ _ (hK w' r1 r2)
theorem wpList_count (w:World) (hg:o.guard=none) (m:Operand) (hop:o.op=Op.call { callee:=Callee.builtin Builtin.len,args:=#[m],argTypes:=#[T] }) (KK:KeyKind K T enc dom) (hm:a.eval m=.map (some B)) (h:MapIs K enc dom w B n g)
  (hK:wpList Tryz.prog ops Q rest (a.put o.dst (.int .i64 (n:Int))) w):wpList Tryz.prog ops Q (o::rest) a w:=by
 refine wpList_plain hg fun K' hK'=>?_
 unfold Oper.wp
 simp[execOp,hop,resolve,invoke,builtin,hm,h.count KK o.type,Result.andThen]
 exact hK' _ _ hK
end
theorem byte_at (s:ByteArray) (k:Nat) (h:k<s.size):(bytesN s)[k]?=some (bAt s k):=by
 have hl:(bytesN s).length=s.size:=bytesN_len s
 unfold bAt
 rw[List.getD_eq_getElem?_getD,List.getElem?_eq_getElem (by omega)];rfl
def pathsV (S E:Nat):Value:=.agg #[.map (some S),.map (some E)]
abbrev StepsIs (w:World) (B n:Nat) (f:Nat × Nat→Option Nat):Prop:=MapIs 135 stepV stepD w B n f
abbrev EndsIs (w:World) (B n:Nat) (e:Nat→Option Nat):Prop:=MapIs 3 placeV placeD w B n e
set_option maxHeartbeats 1000000 in
theorem newPaths_at (w:World):Calls Tryz.prog 36 #[] w fun e w' =>
  ∃ S E,e=.returned (pathsV S E)∧w.heap.size≤S∧S<E∧E<w'.heap.size∧Below w.heap.size w w'∧StepsIs w' S 0 (fun _=>none)∧EndsIs w' E 0 (fun _=>none):=by
 have hmm:=@run_makeMap Tryz.prog
 go_enter Tryz.func36,Tryz.ntmps36
 go_wp2
 have b1:Below w.heap.size w (w.alloc (.cells #[.map (some (w.heap.size+1)),.map (some (w.heap.size+1+1))] 69)):=(Below.refl _ _).alloc (Nat.le_refl _) _
 generalize hw1:w.alloc (.cells #[.map (some (w.heap.size+1)),.map (some (w.heap.size+1+1))] 69)=w1 at b1
 have s1:w1.heap.size=w.heap.size+1:=by rw[← hw1];simp
 have s2:(w1.alloc (.map #[] 0)).heap.size=w.heap.size+1+1:=by simp[s1]
 have m1:=MapIs.new 135 stepV stepD w1
 have m2:=MapIs.new 3 placeV placeD (w1.alloc (.map #[] 0))
 rw[s1]at m1
 rw[s2]at m2
 have b2:Below w.heap.size w ((w1.alloc (.map #[] 0)).alloc (.map #[] 0)):=(b1.alloc (by omega) _).alloc (by omega) _
 have s3:((w1.alloc (.map #[] 0)).alloc (.map #[] 0)).heap.size=w.heap.size+1+1+1:=by simp[s1]
 have m3:=m1.of_block (w':=(w1.alloc (.map #[] 0)).alloc (.map #[] 0)) (Below.heap_alloc _ _ _ (by omega))
 have r0:((w1.alloc (.map #[] 0)).alloc (.map #[] 0)).heap[w.heap.size]?=some (.cells #[.map (some (w.heap.size+1)),.map (some (w.heap.size+1+1))] 69):=by
  rw[Below.heap_alloc _ _ _ (by omega),Below.heap_alloc _ _ _ (by omega),← hw1]
  exact heap_alloc_new w _
 generalize (w1.alloc (.map #[] 0)).alloc (.map #[] 0)=w2 at b2 s3 m2 m3 r0 ⊢
 clear hw1 m1 s2 s1 b1 hmm
 have c0:w2.cell? ⟨w.heap.size,0,none⟩=some (.map (some (w.heap.size+1))):=by simp[World.cell?,r0]
 have c1:w2.cell? ⟨w.heap.size,1,none⟩=some (.map (some (w.heap.size+1+1))):=by simp[World.cell?,r0]
 refine bodyPost_ret (v:=pathsV (w.heap.size+1) (w.heap.size+1+1)) (by simp[results,Tryz.f36,go_sem,pathsV,c0,c1]) rfl ?_
 exact⟨_,_,rfl,by omega,by omega,by omega,b2,m3,m2⟩
def Added (w w':World) (S E n m:Nat) (cs:List Nat) (r:Nat) (e:Nat→Option Nat) (M:List Nat→Nat→Prop):Prop :=
 ∃ g n' p,n'≤n+cs.length∧StepsIs w' S n' g∧EndsIs w' E (m+1) (setK e p r)∧Held (fun t k=>M t k∨t=cs∧k=r) g (setK e p r) n'∧Turn w w' (fun b=>b=S∨b=E)
set_option maxHeartbeats 4000000 in
theorem padd_at (S E n m:Nat) (cs:ByteArray) (r:Nat) (f:Nat × Nat→Option Nat) (e:Nat→Option Nat) (M:List Nat→Nat→Prop) (w:World) (hS:StepsIs w S n f) (hE:EndsIs w E m e) (hSE:S≠E) (H:Held M f e n) (hM:∀ r,¬ M (bytesN cs) r)
  (hn:n+cs.size≤1000000000) (hm:m≤1000000) (hr:r≤1000000) :
  Calls Tryz.prog 72 #[pathsV S E,.string cs,.int .i64 (r:Int)] w fun x w' =>
   x=.returned (.tuple #[])∧Added w w' S E n m (bytesN cs) r e M:=by
 have HH:=Lib.hid H
 have HM:=Lib.hid hM
 clear H hM
 have hlS:=hS.lt
 have hlE:=hE.lt
 obtain⟨bx,hbx⟩:∃ bx,w.heap.size=bx:=⟨_,rfl⟩
 have HS0:=Lib.hid (show StepsIs (w.alloc (.cells #[.map (some S),.map (some E)] 69)) S n f from hS.of_block (Below.heap_alloc _ _ _ hlS))
 have HE0:=Lib.hid (show EndsIs (w.alloc (.cells #[.map (some S),.map (some E)] 69)) E m e from hE.of_block (Below.heap_alloc _ _ _ hlE))
 have HT0:=Lib.hid ((Turn.refl w (fun b=>b=S∨b=E)).alloc (.cells #[.map (some S),.map (some E)] 69))
 have hb0:=heap_alloc_new w (.cells #[.map (some S),.map (some E)] 69)
 clear hS hE
 unfold pathsV
 go_enter Tryz.func72,Tryz.ntmps72
 go_wp2
 rw[hbx]at hb0
 have hSb:S<bx:=by omega
 generalize (w.alloc (.cells #[.map (some S),.map (some E)] 69))=w0 at HS0 HE0 HT0 hb0 ⊢
 clear hbx
 go_loopw [6,13] (fun p i wr=>∃ (k q n2:Nat) (g:Nat × Nat→Option Nat),k≤cs.size∧i=.int .i64 (k:Int)∧p=.int .i64 (q:Int)∧StepsIs wr S n2 g∧EndsIs wr E m e∧Tree g n2∧Keeps f g∧walkP g 0 ((bytesN cs).take k)=some q∧n2≤n+k∧Turn w wr (fun b=>b=S∨b=E)∧wr.heap[bx]?=some (.cells #[.map (some S),.map (some E)] 69)) (fun _ i _=>cs.size - (intOf i).toNat)
 case atStart=>exact⟨0,0,n,f,Nat.zero_le _,rfl,rfl,HS0.out,HE0.out,HH.out.tree,Keeps.refl f,rfl,by omega,HT0.out,hb0⟩
 case round =>
  obtain⟨k,q,n2,g,hk,rfl,rfl,hS,hE,hTr,hKe,hW,hn2,hT,hB⟩:=hrel
  have x0:wr.cell? ⟨bx,0,none⟩=some (.map (some S)):=by simp[World.cell?,hB]
  have x1:wr.cell? ⟨bx,1,none⟩=some (.map (some E)):=by simp[World.cell?,hB]
  have hq:q≤n2:=hTr.le _ 0 q (Nat.zero_le _) hW
  by_cases hlt:k<cs.size
  ·have E1:=bAt_get cs k hlt
   have l1:=bAt_lt cs k
   have hc:(bytesN cs)[k]?=some (bAt cs k):=byte_at cs k hlt
   obtain⟨c,hc9⟩:∃ c,bAt cs k=c:=⟨_,rfl⟩
   rw[hc9]at E1 l1 hc
   clear hc9
   have hlS2:=hS.lt
   have hlE2:=hE.lt
   have HSn:=Lib.hid (show StepsIs (wr.alloc (.cells #[.int .i64 (q:Int),.int .u8 (c:Int)] 135)) S n2 g from hS.of_block (Below.heap_alloc _ _ _ hlS2))
   have HEn:=Lib.hid (show EndsIs (wr.alloc (.cells #[.int .i64 (q:Int),.int .u8 (c:Int)] 135)) E m e from hE.of_block (Below.heap_alloc _ _ _ hlE2))
   have HTn:=Lib.hid (hT.alloc (.cells #[.int .i64 (q:Int),.int .u8 (c:Int)] 135))
   have hlB:=(Array.getElem?_eq_some_iff.1 hB).1
   have HBn:=Lib.hid (show (wr.alloc (.cells #[.int .i64 (q:Int),.int .u8 (c:Int)] 135)).heap[bx]?=some (.cells #[.map (some S),.map (some E)] 69) from (Below.heap_alloc _ _ _ hlB).trans hB)
   clear hS hE hT hB
   have HTR:=Lib.hid hTr
   have HKE:=Lib.hid hKe
   have HW:=Lib.hid hW
   have HC:=Lib.hid hc
   clear hTr hKe hW hc
   have hd:stepD (q,c):=⟨by unfold maxLen;show q≤_;omega,l1⟩
   cases hg:g (q,c) with
   | some q2 =>
    have HG:=Lib.hid hg
    clear hg
    go_wp2_with (first | (at_lookup;refine wpList_look _ rfl _ _ rfl stepKind rfl HSn.out (q,c) hd rfl (q2:Int) true (by rw[HG.out];rfl) (by rw[HG.out];rfl) ?_) | go_in)
    exact⟨⟨k+1,q2,n2,g,hlt,by go_num,rfl,HSn.out,HEn.out,HTR.out,HKE.out,walk_on HW.out HC.out HG.out,by omega,HTn.out,HBn.out⟩,by simp[intOf];omega⟩
   | none =>
    have HG:=Lib.hid hg
    clear hg
    go_wp2_with (first | (at_lookup;refine wpList_look _ rfl _ _ rfl stepKind rfl HSn.out (q,c) hd rfl 0 false (by rw[HG.out];rfl) (by rw[HG.out];rfl) ?_) | (at_len;refine wpList_count _ rfl _ rfl stepKind rfl HSn.out ?_) | (at_mapUpdate;refine wpList_put _ rfl _ _ _ rfl stepKind rfl HSn.out (by unfold maxLen;omega) (q,c) hd rfl HG.out (n2+1) (by unfold maxLen;omega) rfl ?_;intro w5 hp5 hg5) | go_in)
    have hlt2:∀ b,b<wr.heap.size→b<(wr.alloc (.cells #[.int .i64 (q:Int),.int .u8 (c:Int)] 135)).heap.size:=fun b hb=>by simp;omega
    refine⟨⟨k+1,n2+1,n2+1,setF g (q,c) (n2+1),hlt,by go_num,by go_num,hp5,HEn.out.of_block (hg5.block E (hlt2 E hlE2) (fun h=>hSE (Option.some.inj h).symm)),HTR.out.set hq,HKE.out.trans (Keeps.set HG.out _),?_,by omega,HTn.out.grown hg5 (fun b _ h=>.inl (Option.some.inj h).symm),(hg5.block bx (hlt2 bx hlB) (fun h=>by have:=Option.some.inj h;omega)).trans HBn.out⟩,by simp[intOf];omega⟩
    exact walk_on ((Keeps.set HG.out _).walk _ 0 q HW.out) HC.out (set_at _ _ _)
  ·obtain rfl:k=cs.size:=by omega
   have hl9:(bytesN cs).length=cs.size:=bytesN_len cs
   rw[List.take_of_length_le (by omega)]at hW
   have hfree:e q=none:=HH.out.free hTr hKe hW HM.out
   have hlE2:=hE.lt
   have HE:=Lib.hid hE
   have HFREE:=Lib.hid hfree
   have HRES:=Lib.hid (show n2≤n+cs.size∧StepsIs wr S n2 g∧Turn w wr (fun b=>b=S∨b=E)∧Held (fun t k=>M t k∨t=bytesN cs∧k=r) g (setK e q r) n2 from ⟨hn2,hS,hT,HH.out.add hTr hKe hW HM.out r⟩)
   have hlS2:=hS.lt
   clear hS hE hT hTr hKe hW hfree hl9 hB
   go_wp2_with (first | (at_mapUpdate;refine wpList_put _ rfl _ _ _ rfl placeKind rfl HE.out (by unfold maxLen;omega) q (by unfold placeD maxLen;omega) rfl HFREE.out r (by unfold maxLen;omega) rfl ?_;intro w5 hp5 hg5) | go_in)
   go_end0
   obtain⟨r1,r2,r3,r4⟩:=HRES.out
   exact⟨rfl,g,n2,q,by rw[bytesN_len];exact r1,r2.of_block (hg5.block S hlS2 (fun h=>hSE (Option.some.inj h))),hp5,r4,r3.grown hg5 (fun b _ h=>.inr (Option.some.inj h).symm)⟩
end Go.Proofs.YtlgejmcihchngaaGreatDoor.Ti
namespace Go.Proofs.YtlgejmcihchngaaGreatDoor.Ti
open Go.RowKit Go.Maps Ba Ru Ck
end Go.Proofs.YtlgejmcihchngaaGreatDoor.Ti
