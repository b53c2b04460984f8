/-
  Put together: CoA, CoB, CoC, CoD.
-/
import Derived.Test.YtmldpkigfhoalaaGreatDoorOb
import Derived.Test.YtmldpkigfhoalaaGreatDoorLaF
import Derived.Lib.Builder
import Derived.Lib.AppendStr
import Derived.Lib.UnsafeStr
import Derived.Laws.Externs
import Derived.Test.YtmldpkigfhoalaaGreatDoorVe
import Derived.Test.YtmldpkigfhoalaaGreatDoorLaE
import Derived.Deep.RegionWith
namespace Go.Proofs.YtmldpkigfhoalaaGreatDoor.Co
open Go.RowKit Go.Shelf
attribute [local go_sem] Oper.semAt_some
theorem infoB:(Tryz.prog.info? 5).map (fun i=>(i.zero,i.size,i.bytes))=some (some (.int .u8 0),1,1):=by kernel_rfl
theorem sizeB:(Tryz.prog.info? 55).map (·.size)=some 2:=by kernel_rfl
theorem liesB:liesAt Tryz.prog Tryz.prog.depth 57 (3 / Tryz.prog.cellsOf 57) 0 55 1=true:=by kernel_rfl
theorem cellsOfB:Tryz.prog.cellsOf 5=1:=by kernel_rfl
def WrAt (b:Nat) (p F:Value) (S:ByteArray) (w:World):Prop :=
 ∃ v,w.heap[b]?=some (.cells #[p,v,F] 57 (0,0))∧w.ownsRow b 5 1 v S.size (Lib.strCells S)∧v.ownBlock≠some b
def IsWr (b:Nat) (F:Value) (S:ByteArray) (w:World):Prop:=WrAt b (.pointer none) F S w∨WrAt b (.pointer (some ⟨b,0,none⟩)) F S w
theorem IsWr.at_ {b:Nat} {F:Value} {S:ByteArray} {w:World} (h:IsWr b F S w):∃ p,WrAt b p F S w:=by
 rcases h with h | h
 ·exact ⟨_,h⟩
 ·exact ⟨_,h⟩
theorem lt_of_heap {w:World} {b:Nat} {o:Obj} (h:w.heap[b]?=some o):b<w.heap.size:=(Array.getElem?_eq_some_iff.1 h).1
theorem WrAt.kept {b:Nat} {p F:Value} {S:ByteArray} {w w':World} {row:Option Nat} (h:WrAt b p F S w) (hg:w.grownBy w' row) (hr:∀ r,row=some r→r<b∨∃ o:Obj,w.heap[r]?=some o∧o.isCells=false):WrAt b p F S w':=by
 obtain ⟨v,hb,hown,hne⟩:=h
 refine ⟨v,(hg.block b (lt_of_heap hb) fun e=>?_).trans hb,hown.kept hg ?_,hne⟩
 ·rcases hr b e.symm with h | ⟨o,ho,hc⟩
  ·omega
  ·rw [hb] at ho;cases ho;cases hc
 ·rcases hown.2 with ⟨rfl,_⟩ | ⟨g,cap,cur,rfl,hbg,hgb,_⟩
  ·exact .inl rfl
  ·refine .inr fun e'=>?_
   rcases hr g e'.symm with h | ⟨o,ho,hc⟩
   ·omega
   ·rw [hgb] at ho;cases ho;cases hc
theorem IsWr.kept {b:Nat} {F:Value} {S:ByteArray} {w w':World} {row:Option Nat} (h:IsWr b F S w) (hg:w.grownBy w' row) (hr:∀ r,row=some r→r<b∨∃ o:Obj,w.heap[r]?=some o∧o.isCells=false):IsWr b F S w' :=
 h.imp (·.kept hg hr) (·.kept hg hr)
set_option maxHeartbeats 1000000 in
set_option maxRecDepth 100000 in
theorem check_used (b:Nat) (w:World) (h0:w.cell? ⟨b,0,none⟩=some (.pointer (some ⟨b,0,none⟩))) :
  Calls Tryz.prog 97 #[.pointer (some ⟨b,0,none⟩)] w fun e w'=>e=.returned (.tuple #[])∧w=w':=by
 obtain ⟨j,hj,_⟩:=Option.map_eq_some_iff.1 sizeB
 go_enter Tryz.func97,Tryz.ntmps97
 go_wp2
 rw [Lib.run_neq_ptr_same w _ (te:=55) (by kernel_rfl) hj]
 go_wp2
 go_end0
 exact ⟨rfl,rfl⟩
set_option maxHeartbeats 1000000 in
set_option maxRecDepth 100000 in
theorem check_fresh (b:Nat) (w:World) (h0:w.cell? ⟨b,0,none⟩=some (.pointer none)) (hsh:w.shape? b=some (57,3)) (hfz:w.frozen? ⟨b,0,none⟩=false) :
  Calls Tryz.prog 97 #[.pointer (some ⟨b,0,none⟩)] w fun e w'=>e=.returned (.tuple #[])∧w'=w.setCell ⟨b,0,none⟩ (.pointer (some ⟨b,0,none⟩)):=by
 obtain ⟨j,hj,hjs⟩:=Option.map_eq_some_iff.1 sizeB
 go_enter Tryz.func97,Tryz.ntmps97
 go_wp2
 rw [Lib.run_to_unsafe (t:=55) w ⟨b,0,none⟩ (by kernel_rfl) (by kernel_rfl) hj (by rw [hjs];decide) hsh (show (0:Nat)<3 by decide)]
 simp only [Result.andThen]
 rw [Oper.upon_value]
 go_wp2
 rw [run_callFunc_extern Tryz.func109 (by kernel_rfl) (by kernel_rfl) (by kernel_rfl) (e:=Extern.AbiNoEscape.same) (by kernel_rfl)]
 rw [Lib.run_noEscape]
 simp only [Result.andThen]
 rw [Oper.upon_value]
 go_wp2
 rw [Lib.run_from_unsafe (u:=55) w ⟨b,0,none⟩ (by kernel_rfl) (by kernel_rfl) hj hsh liesB]
 simp only [Result.andThen]
 rw [Oper.upon_value]
 go_wp2
 go_end0
 exact ⟨rfl,rfl⟩
theorem check_at (b:Nat) (F:Value) (S:ByteArray) (w:World) (h:IsWr b F S w) :
  Calls Tryz.prog 97 #[.pointer (some ⟨b,0,none⟩)] w fun e w'=>e=.returned (.tuple #[])∧WrAt b (.pointer (some ⟨b,0,none⟩)) F S w'∧Below b w w'∧KeepsOthers w w':=by
 rcases h with h | h
 ·obtain ⟨v,hb,hown,hne⟩:=h
  refine (check_fresh b w (by rw [Lib.cell_of_heap hb];rfl) (by simp [World.shape?,hb]) (Lib.frozen_of_heap hb 0)).mono ?_
  rintro e w' ⟨rfl,rfl⟩
  refine ⟨rfl,⟨v,?_,?_,hne⟩,(Below.refl b w).setCell (p:=⟨b,0,none⟩) (Nat.le_refl _) _,KeepsOthers.setCell _ _ _⟩
  ·simp [World.setCell,Array.getElem?_modify,hb]
  ·exact hown.kept (grownBy_setCell' w b _) (.inr hne)
 ·obtain ⟨v,hb,hown,hne⟩:=h
  refine (check_used b w (by rw [Lib.cell_of_heap hb];rfl)).mono ?_
  rintro e w' ⟨rfl,rfl⟩
  exact ⟨rfl,⟨v,hb,hown,hne⟩,Below.refl b _,KeepsOthers.refl _⟩
set_option maxHeartbeats 1000000 in
set_option maxRecDepth 100000 in
theorem len_at (b:Nat) (F:Value) (S:ByteArray) (w:World) (h:IsWr b F S w) :
  Calls Tryz.prog 63 #[.pointer (some ⟨b,0,none⟩)] w fun e w'=>e=.returned (.int .i64 ((S.size:Nat):Int))∧w=w':=by
 obtain ⟨p,v,hbk,hown,hne⟩:=h.at_
 obtain ⟨ao,cap,rfl⟩:∃ ao cap,v=.slice ao S.size cap:=by
  rcases hown.2 with ⟨hv,h0⟩ | ⟨g,cap,cur,hv,_⟩
  ·exact ⟨none,0,by rw [hv,h0]⟩
  ·exact ⟨_,_,hv⟩
 have c1:w.cell? ⟨b,1,none⟩=some (.slice ao S.size cap):=by rw [Lib.cell_of_heap hbk];rfl
 clear hbk hown hne h
 go_enter Tryz.func63,Tryz.ntmps63
 go_wp2
 go_ret
 exact ⟨rfl,rfl⟩
theorem cat_size (S s:ByteArray):(S++s).size=S.size+s.size:=ByteArray.size_append ..
theorem cat_cells (S s:ByteArray):Lib.strCells (S++s)=Lib.strCells S++Lib.strCells s:=by
 unfold Lib.strCells
 rw [ByteArray.data_append,Array.toList_append,List.map_append]
set_option maxHeartbeats 2000000 in
set_option maxRecDepth 100000 in
theorem writeString_at (b:Nat) (F:Value) (S s:ByteArray) (w:World) (h:IsWr b F S w) (hS:S.size≤8192) (hs:s.size≤8192) :
  Calls Tryz.prog 64 #[.pointer (some ⟨b,0,none⟩),.string s] w fun e w'=>e=.returned (.tuple #[.int .i64 ((s.size:Nat):Int),.nilIface])∧IsWr b F (S++s) w'∧Below b w w'∧KeepsOthers w w':=by
 obtain ⟨i0,hi,hz0,hz1,hz2⟩:=info_parts infoB
 have hBw:b≤w.heap.size:=by
  obtain ⟨p,v,hb,-,-⟩:=h.at_
  exact Nat.le_of_lt (lt_of_heap hb)
 go_enter Tryz.func64,Tryz.ntmps64
 go_wp2_with fail
 refine (check_at b F S _ h).mono ?_
 rintro e w1 ⟨rfl,⟨v,hbk,hown,hne⟩,hb1,hk1⟩
 have c0:w1.cell? ⟨b,0,none⟩=some (.pointer (some ⟨b,0,none⟩)):=by rw [Lib.cell_of_heap hbk];rfl
 have c1:w1.cell? ⟨b,1,none⟩=some v:=by rw [Lib.cell_of_heap hbk];rfl
 go_wp2_with (at_builtin;refine Lib.wpList_append_own_string _ rfl _ _ 53 9 rfl b 5 i0 (by kernel_rfl) (by kernel_rfl) hi hz0 hz1 hz2 _ _ _ rfl hown s rfl ?c3 ?c4 ?c5 ?_)
 case c3=>unfold maxLen;omega
 case c4=>omega
 case c5=>have:=hb1.size;omega
 intro v' w2 hown' hgrow _
 have hlt:b<w1.heap.size:=lt_of_heap hbk
 have hb2:w2.heap[b]?=some (.cells #[.pointer (some ⟨b,0,none⟩),v,F] 57 (0,0)):=by
  rw [hgrow.block b hlt (fun e=>hne e.symm)]
  exact hbk
 have d0:w2.cell? ⟨b,0,none⟩=some (.pointer (some ⟨b,0,none⟩)):=by rw [Lib.cell_of_heap hb2];rfl
 have d1:w2.cell? ⟨b,1,none⟩=some v:=by rw [Lib.cell_of_heap hb2];rfl
 have f1:w2.frozen? ⟨b,1,none⟩=false:=Lib.frozen_of_heap hb2 1
 have hTe:(57:TypeId)≠5:=by decide
 have hne':v'.ownBlock≠some b:=Lib.ownBlock_ne hown' hb2 hTe
 obtain ⟨ao,n',cap,rfl⟩:∃ ao n' cap,v'=.slice ao n' cap:=by
  rcases hown'.2 with ⟨hv,_⟩ | ⟨g,cap,cur,hv,_⟩
  ·exact ⟨_,_,_,hv⟩
  ·exact ⟨_,_,_,hv⟩
 have HB:=Lib.hid ((hb1.grown hgrow (by have:=hb1.size;omega) (fun k hk=>(hown.lt k hk).1)).setCell (p:=⟨b,1,none⟩) (Nat.le_refl _) (.slice ao n' cap))
 have HK:=Lib.hid ((hk1.trans (KeepsOthers.of_grownBy hgrow fun j o ej hj=>by
  rcases hown.2 with ⟨rfl,_⟩ | ⟨g,cap,cur,rfl,_,hgb,_⟩
  ·simp [Value.ownBlock] at ej
  ·obtain rfl:g=j:=by simpa [Value.ownBlock] using ej
   rw [hgb] at hj;cases hj;rfl)).trans (KeepsOthers.setCell w2 ⟨b,1,none⟩ (.slice ao n' cap)))
 have HW:=Lib.hid (show WrAt b (.pointer (some ⟨b,0,none⟩)) F (S++s) (w2.setCell ⟨b,1,none⟩ (.slice ao n' cap)) from ⟨_,by simp [World.setCell,Array.getElem?_modify,hb2],by
  rw [cat_size,cat_cells]
  exact hown'.kept (row:=some b) ⟨rfl,rfl,rfl,by simp [World.setCell],fun k _ hk=>Below.heap_setCell _ _ _ _ (fun e=>hk (by simp [e]))⟩ (.inr hne'),hne'⟩)
 clear hown' hgrow hb2 hbk hown hne hne' hb1 hk1 h
 go_wp2
 go_ret2
 exact ⟨rfl,.inr HW.out,HB.out,HK.out⟩
theorem keeps_drew (w:World):KeepsOthers w w.drew:=⟨Nat.le_refl _,fun _ _ h _=>h⟩
theorem keeps_freeze {w:World} {g:Nat} {cs:Array Value} {T:TypeId} {fz:Nat × Nat} (hg:w.heap[g]?=some (.cells cs T fz)) (n:Nat):KeepsOthers w (w.freeze ⟨g,0,none⟩ n):=by
 refine ⟨(Lib.below_freeze (Below.refl 0 w) (p:=⟨g,0,none⟩) (Nat.zero_le _) n).size,fun k o hk ho=>?_⟩
 by_cases e:k=g
 ·subst e
  rw [hg] at hk;cases hk;cases ho
 ·unfold World.freeze
  split
  ·exact hk
  ·simp only [Array.getElem?_modify]
   rw [if_neg (by omega)];exact hk
set_option maxHeartbeats 2000000 in
set_option maxRecDepth 100000 in
theorem string_some (b:Nat) (p F:Value) (S:ByteArray) (w:World) (h:WrAt b p F S w) (h0:S.size≠0) :
  Calls Tryz.prog 32 #[.pointer (some ⟨b,0,none⟩)] w fun e w'=>e=.returned (.string S)∧Below b w w'∧KeepsOthers w w':=by
 obtain ⟨v,hbk,hown,hne⟩:=h
 have hl:S.data.toList.length=S.size:=by rw [Array.length_toList];rfl
 have hl0:S.data.toList≠[]:=fun e=>h0 (by rw [← hl,e];rfl)
 rw [Lib.strCells_eq] at hown
 obtain ⟨g,cap,cur,rfl,hbg,hg,hnc,hcm,hcs,htake⟩:∃ g cap cur,v=.slice (some ⟨g,0,none⟩) S.size cap∧b≤g∧w.heap[g]?=some (.cells cur 5 (0,0))∧S.size≤cap∧cap≤maxLen∧cur.size=cap * 1∧cur.toList.take (S.size * 1)=Lib.byteCells S.data.toList:=by
  rcases hown.2 with ⟨_,hz⟩ | ⟨g,cap,cur,hv,r⟩
  ·exact absurd hz h0
  ·exact ⟨g,cap,cur,hv,r⟩
 have c1:w.drew.cell? ⟨b,1,none⟩=some (.slice (some ⟨g,0,none⟩) S.size cap):=by
  have:w.drew.heap[b]?=some (.cells #[p,.slice (some ⟨g,0,none⟩) S.size cap,F] 57 (0,0)):=hbk
  rw [Lib.cell_of_heap this];rfl
 have hSD:(Builtin.unsafeSliceData_ #[53] 103 #[.slice (some ⟨g,0,none⟩) S.size cap]).run Tryz.prog w.drew=.ok (.pointer (some ⟨g,0,none⟩)) w.drew :=
  Lib.run_unsafeSliceData_row _ _ _ _ _ _ (by omega)
 have hUS:(Builtin.unsafeString_ #[103,3] 9 #[.pointer (some ⟨g,0,none⟩),.int .i64 ((S.size:Nat):Int)]).run Tryz.prog w.drew=.ok (.string S) (w.drew.freeze ⟨g,0,none⟩ S.size):=by
  have:=Lib.run_unsafeString_row (P:=Tryz.prog) w.drew 103 3 9 5 (by kernel_rfl) cellsOfB g cur.size (by have hg':w.drew.heap[g]?=some (.cells cur 5 (0,0)):=hg;simp [World.shape?,hg']) S.data.toList hl0 (by rw [hl];omega) (by rw [hl];unfold maxLen at hcm;omega) (by
   intro j x hx
   exact hown.cells (g:=g) rfl j (.int .u8 x.toNat) (by simp [Lib.byteCells,hx]))
  rwa [hl] at this
 have HBG:=Lib.hid hbg
 have HG:=Lib.hid hg
 clear hown htake hcs hg hbk hne hl hl0 h0 hbg
 go_enter Tryz.func32,Tryz.ntmps32
 go_wp2
 go_region
 all_goals (go_wp2;go_ret;exact ⟨rfl,Lib.below_freeze (Below.drew (Below.refl b w)) (p:=⟨g,0,none⟩) HBG.out _,(keeps_drew w).trans (keeps_freeze (w:=w.drew) HG.out _)⟩)
theorem uS_none (W:World) (q:Option Addr):(Builtin.unsafeString_ #[103,3] 9 #[.pointer q,.int .i64 0]).run Tryz.prog W=.ok (.string .empty) W:=Lib.run_unsafeString_none W _ _ _ q
set_option maxHeartbeats 2000000 in
set_option maxRecDepth 100000 in
theorem string_nil (b:Nat) (p F:Value) (w:World) (hbk:w.heap[b]?=some (.cells #[p,.slice none 0 0,F] 57 (0,0))) :
  Calls Tryz.prog 32 #[.pointer (some ⟨b,0,none⟩)] w fun e w'=>e=.returned (.string ⟨#[]⟩)∧Below b w w'∧KeepsOthers w w':=by
 have hUS:=uS_none
 have c1:w.drew.cell? ⟨b,1,none⟩=some (.slice none 0 0):=by
  have:w.drew.heap[b]?=some (.cells #[p,.slice none 0 0,F] 57 (0,0)):=hbk
  rw [Lib.cell_of_heap this];rfl
 have hSD:(Builtin.unsafeSliceData_ #[53] 103 #[.slice none 0 0]).run Tryz.prog w.drew=.ok (.pointer none) w.drew:=rfl
 clear hbk
 go_enter Tryz.func32,Tryz.ntmps32
 go_wp2
 go_region
 all_goals (go_wp2;go_ret;exact ⟨rfl,Below.drew (Below.refl b w),keeps_drew w⟩)
set_option maxHeartbeats 2000000 in
set_option maxRecDepth 100000 in
theorem string_noroom (b g:Nat) (p F:Value) (cur:Array Value) (w:World) (hbk:w.heap[b]?=some (.cells #[p,.slice (some ⟨g,0,none⟩) 0 0,F] 57 (0,0))) (hg:w.heap[g]?=some (.cells cur 5 (0,0))) :
  Calls Tryz.prog 32 #[.pointer (some ⟨b,0,none⟩)] w fun e w'=>e=.returned (.string ⟨#[]⟩)∧Below b w w'∧KeepsOthers w w':=by
 have hUS:=uS_none
 have hlt:b<w.heap.size:=lt_of_heap hbk
 have c1:w.drew.cell? ⟨b,1,none⟩=some (.slice (some ⟨g,0,none⟩) 0 0):=by
  have:w.drew.heap[b]?=some (.cells #[p,.slice (some ⟨g,0,none⟩) 0 0,F] 57 (0,0)):=hbk
  rw [Lib.cell_of_heap this];rfl
 have hSD:(Builtin.unsafeSliceData_ #[53] 103 #[.slice (some ⟨g,0,none⟩) 0 0]).run Tryz.prog w.drew=.ok (.pointer (some ⟨w.drew.heap.size,0,none⟩)) (w.drew.alloc (.view ⟨g,0,none⟩ 5)) :=
  Lib.run_unsafeSliceData_zero w.drew _ _ 5 (by kernel_rfl) ⟨g,0,none⟩ 0 (5,cur.size) (by have hg':w.drew.heap[g]?=some (.cells cur 5 (0,0)):=hg;simp [World.shape?,hg'])
 have c2:(w.drew.alloc (.view ⟨g,0,none⟩ 5)).cell? ⟨b,1,none⟩=some (.slice (some ⟨g,0,none⟩) 0 0):=by
  have:(w.drew.alloc (.view ⟨g,0,none⟩ 5)).heap[b]?=_:=(Lib.alloc_old w.drew _ b hlt).trans hbk
  rw [Lib.cell_of_heap this];rfl
 have c3:(w.alloc (.view ⟨g,0,none⟩ 5)).drew.cell? ⟨b,1,none⟩=some (.slice (some ⟨g,0,none⟩) 0 0):=c2
 have c0:w.cell? ⟨b,1,none⟩=some (.slice (some ⟨g,0,none⟩) 0 0):=c1
 clear hbk hg
 go_enter Tryz.func32,Tryz.ntmps32
 go_wp2
 go_region
 all_goals (go_wp2;go_ret;exact ⟨rfl,(Below.drew (Below.refl b w)).alloc (Nat.le_of_lt hlt) _,(KeepsOthers.alloc w _).trans (keeps_drew _)⟩)
set_option maxHeartbeats 2000000 in
set_option maxRecDepth 100000 in
theorem string_room (b g cap:Nat) (p F:Value) (w:World) (hc0:cap≠0) (hbk:w.heap[b]?=some (.cells #[p,.slice (some ⟨g,0,none⟩) 0 cap,F] 57 (0,0))) :
  Calls Tryz.prog 32 #[.pointer (some ⟨b,0,none⟩)] w fun e w'=>e=.returned (.string ⟨#[]⟩)∧Below b w w'∧KeepsOthers w w':=by
 have hUS:=uS_none
 have c1:w.drew.cell? ⟨b,1,none⟩=some (.slice (some ⟨g,0,none⟩) 0 cap):=by
  have:w.drew.heap[b]?=some (.cells #[p,.slice (some ⟨g,0,none⟩) 0 cap,F] 57 (0,0)):=hbk
  rw [Lib.cell_of_heap this];rfl
 have hSD:(Builtin.unsafeSliceData_ #[53] 103 #[.slice (some ⟨g,0,none⟩) 0 cap]).run Tryz.prog w.drew=.ok (.pointer (some ⟨g,0,none⟩)) w.drew :=
  Lib.run_unsafeSliceData_row _ _ _ _ _ _ hc0
 clear hc0 hbk
 go_enter Tryz.func32,Tryz.ntmps32
 go_wp2
 go_region
 all_goals (go_wp2;go_ret;exact ⟨rfl,Below.drew (Below.refl b w),keeps_drew w⟩)
theorem string_at (b:Nat) (F:Value) (S:ByteArray) (w:World) (h:IsWr b F S w) :
  Calls Tryz.prog 32 #[.pointer (some ⟨b,0,none⟩)] w fun e w'=>e=.returned (.string S)∧Below b w w'∧KeepsOthers w w':=by
 obtain ⟨p,hw⟩:=h.at_
 by_cases h0:S.size=0
 ·obtain rfl:S={ data:=#[] }:=by
   apply ByteArray.ext
   exact Array.eq_empty_of_size_eq_zero h0
  obtain ⟨v,hbk,hown,hne⟩:=hw
  rcases hown.2 with ⟨rfl,-⟩ | ⟨g,cap,cur,rfl,hbg,hg,-⟩
  ·exact string_nil b p F w hbk
  ·by_cases hc:cap=0
   ·subst hc
    exact string_noroom b g p F cur w hbk hg
   ·exact string_room b g cap p F w hc hbk
 ·exact string_some b p F S w hw h0
end Go.Proofs.YtmldpkigfhoalaaGreatDoor.Co
namespace Go.Proofs.YtmldpkigfhoalaaGreatDoor.Co
open Go.RowKit Tr Nu Cn
def depS (d:Nat) (x:Lx.Lx):Nat:=if x.kind=1 then d else if x.kind=2 then d+1 else d - 1
def depF (d:Nat) (l:List Lx.Lx):Nat:=l.foldl depS d
def toldN (d:Nat) (x:Lx.Lx):List Nat:=if x.kind=1 then Lx.bytesN x.text else if x.kind=2 then 123::(Lx.nameL x.name++[32]) else 125::(if d=1 then [10] else [])
theorem wrC_cons (d:Nat) (x:Lx.Lx) (l:List Lx.Lx):wrC d (x::l)=toldN d x++wrC (depS d x) l:=by
 unfold toldN depS
 by_cases h1:x.kind=1
 ·rw [wrC_k1 h1,if_pos h1,if_pos h1]
 ·by_cases h2:x.kind=2
  ·rw [wrC_k2 h2,if_neg h1,if_pos h2,if_neg h1,if_pos h2];simp
  ·rw [wrC_k3 h1 h2,if_neg h1,if_neg h2,if_neg h1,if_neg h2];simp
theorem wrC_app:∀ (l m:List Lx.Lx) (d:Nat),wrC d (l++m)=wrC d l++wrC (depF d l) m
 | [],m,d=>by simp [wrC,depF]
 | x::l,m,d=>by
  rw [List.cons_append,wrC_cons,wrC_cons,wrC_app l m,List.append_assoc];rfl
theorem depF_app (l m:List Lx.Lx) (d:Nat):depF d (l++m)=depF (depF d l) m:=by unfold depF;rw [List.foldl_append]
theorem depF_snoc (l:List Lx.Lx) (x:Lx.Lx) (d:Nat):depF d (l++[x])=depS (depF d l) x:=by rw [depF_app];rfl
theorem wrC_snoc (l:List Lx.Lx) (x:Lx.Lx) (d:Nat):wrC d (l++[x])=wrC d l++toldN (depF d l) x:=by
 rw [wrC_app,wrC_cons];simp [wrC]
def Gd:Nat→List Lx.Lx→Prop
 | _,[]=>True
 | d,x::l=>(x.kind≠1→x.kind≠2→1≤d)∧Gd (depS d x) l
theorem gd_app:∀ (l m:List Lx.Lx) (d:Nat),Gd d (l++m)→Gd (depF d l) m
 | [],_,_,h=>h
 | x::l,m,d,h=>gd_app l m (depS d x) h.2
theorem wf_gd {F:List Nd} {L:List Lx.Lx} (h:Wf F L):∀ (d:Nat) (M:List Lx.Lx),Gd d M→Gd d (L++M):=by
 induction h with
 | nil=>intro d M h;exact h
 | text s pl _ ih =>
  intro d M h
  rw [List.append_assoc]
  exact ih d _ ⟨fun h1=>absurd rfl h1,h⟩
 | node k pl _ _ _ ih1 ih2 =>
  intro d M h
  rw [List.append_assoc]
  refine ih1 d _ ⟨fun _ h2=>absurd rfl h2,?_⟩
  show Gd (d+1) (_++[clL]++_)
  rw [List.append_assoc]
  exact ih2 (d+1) _ ⟨fun _ _=>by omega,h⟩
theorem wf_at {F:List Nd} {L:List Lx.Lx} (h:Wf F L) {pre:List Lx.Lx} {x:Lx.Lx} (hp:pre++[x] <+: L):x.kind≠1→x.kind≠2→1≤depF 0 pre:=by
 obtain ⟨R,rfl⟩:=hp
 have h1:=wf_gd h 0 [] trivial
 rw [List.append_nil,List.append_assoc] at h1
 exact (gd_app _ _ _ h1).1
theorem depF_le:∀ (l:List Lx.Lx) (d:Nat),depF d l≤d+l.length
 | [],d=>Nat.le_refl _
 | x::l,d=>by
  have h:=depF_le l (depS d x)
  have h2:depS d x≤d+1:=by unfold depS;split<;>(try split)<;>omega
  rw [List.length_cons]
  show depF (depS d x) l≤_
  omega
theorem wf_llen {F:List Nd} {L:List Lx.Lx} (h:Wf F L):L.length≤2 * F.length:=by
 induction h with
 | nil=>exact Nat.le_refl _
 | text s pl _ ih=>rw [List.length_append,List.length_append,List.length_cons,List.length_nil,List.length_cons,List.length_nil];omega
 | node k pl _ _ _ ih1 ih2=>simp only [List.length_append,List.length_cons,List.length_nil];omega
inductive Tw:List Nd→List Lx.Lx→Prop where
 | nil:Tw [] []
 | text {R:List Nd} {L:List Lx.Lx} (s:ByteArray) (pl:Int):Tw R L→Tw (⟨46,s,pl,1⟩::R) (txL s::L)
 | node {G R:List Nd} {M L:List Lx.Lx} (k:Nat) (pl:Int):Tw G M→Tw R L→k≠46→Tw (⟨k,emptyS,pl,(G.length:Int)+1⟩::(G++R)) (opL k::(M++clL::L))
theorem Tw.app {F:List Nd} {L:List Lx.Lx} (h:Tw F L):∀ {G:List Nd} {M:List Lx.Lx},Tw G M→Tw (F++G) (L++M):=by
 induction h with
 | nil=>intro G M h;exact h
 | text s pl _ ih=>intro G M h;exact .text s pl (ih h)
 | node k pl h1 _ hk _ ih=>intro G M h;rw [List.cons_append,List.append_assoc,List.cons_append,List.append_assoc,List.cons_append];exact .node k pl h1 (ih h) hk
theorem wf_tw {F:List Nd} {L:List Lx.Lx} (h:Wf F L):Tw F L:=by
 induction h with
 | nil=>exact .nil
 | text s pl _ ih=>exact ih.app (.text s pl .nil)
 | node k pl _ _ hk ih1 ih2 =>
  have:=ih1.app (Tw.node k pl ih2 .nil hk)
  rwa [List.append_nil] at this
def wrS (l:List Lx.Lx):ByteArray:=Lx.bytesOf (wrC 0 l)
def toldS (d:Nat) (x:Lx.Lx):ByteArray:=Lx.bytesOf (toldN d x)
theorem bytesOf_app (a b:List Nat):Lx.bytesOf (a++b)=Lx.bytesOf a++Lx.bytesOf b:=by
 apply ByteArray.ext
 simp [Lx.bytesOf,ByteArray.data_append]
theorem wrS_snoc (l:List Lx.Lx) (x:Lx.Lx):wrS (l++[x])=wrS l++toldS (depF 0 l) x:=by unfold wrS toldS;rw [wrC_snoc,bytesOf_app]
theorem wrS_le {l L:List Lx.Lx} (h:l <+: L):(wrS l).size≤(wrS L).size:=by
 obtain ⟨R,rfl⟩:=h
 unfold wrS
 rw [wrC_app,bytesOf_app,ByteArray.size_append];omega
theorem can_wrS {t:List Nd} {L:List Lx.Lx} (h:Wf t L):canV t=wrS L:=by unfold canV;rw [wf_ev0 h];rfl
theorem told_1 {d:Nat} {x:Lx.Lx} (h:x.kind=1):toldS d x=x.text:=by unfold toldS toldN;rw [if_pos h];exact Lx.bytesOf_bytesN _
theorem told_2 {d:Nat} {x:Lx.Lx} (h:x.kind=2):toldS d x={ data:=#[123] }++Lx.nameS x.name++{ data:=#[32] }:=by
 unfold toldS toldN
 rw [if_neg (by omega),if_pos h,show 123::(Lx.nameL x.name++[32])=[123]++Lx.nameL x.name++[32] from rfl,bytesOf_app,bytesOf_app]
 rfl
theorem told_31 {x:Lx.Lx} (h1:x.kind≠1) (h2:x.kind≠2):toldS 1 x={ data:=#[125,10] }:=by
 unfold toldS toldN
 rw [if_neg h1,if_neg h2,if_pos rfl];rfl
theorem told_3 {d:Nat} {x:Lx.Lx} (h1:x.kind≠1) (h2:x.kind≠2) (hd:d≠1):toldS d x={ data:=#[125] }:=by
 unfold toldS toldN
 rw [if_neg h1,if_neg h2,if_neg hd];rfl
theorem wrS_nil:wrS []={ data:=#[] }:=rfl
end Go.Proofs.YtmldpkigfhoalaaGreatDoor.Co
namespace Go.Proofs.YtmldpkigfhoalaaGreatDoor.Co
open Go.RowKit Go.Shelf Tr Nu Cn
attribute [local go_sem] Oper.semAt_some
def Turns (c d:Nat) (W W':World):Prop:=W.grownBy W' (some c)∧Boxed W' c 3 (.int .i64 (d:Int))∧KeepsOthers W W'
theorem grown_trans {A B C:World} {row:Option Nat} (h:A.grownBy B row) (k:B.grownBy C row):A.grownBy C row :=
 ⟨k.os.trans h.os,k.tape.trans h.tape,k.output.trans h.output,Nat.le_trans h.size k.size,fun i hi hr=>(k.block i (Nat.lt_of_lt_of_le hi h.size) hr).trans (h.block i hi hr)⟩
theorem grown_below {A B:World} (h:Below A.heap.size A B) (row:Option Nat):A.grownBy B row:=⟨h.os,h.tape,h.output,h.size,fun k hk _=>h.block k hk⟩
theorem keeps_below {A B:World} (h:Below A.heap.size A B):KeepsOthers A B:=⟨h.size,fun k _ hk _=>(h.block k (Array.getElem?_eq_some_iff.1 hk).1).trans hk⟩
theorem turns_of {c d:Nat} {W W2:World} {u v:Value} (hb:Boxed W c 3 u) (hv:v=.int .i64 (d:Int)) (h2:Below (W.setCell ⟨c,0,none⟩ v).heap.size (W.setCell ⟨c,0,none⟩ v) W2):Turns c d W W2:=by
 have b2:=hb.set v
 subst hv
 exact ⟨grown_trans (grownBy_setCell' W c _) (grown_below h2 _),(h2.block c b2.lt).trans b2,(KeepsOthers.setCell _ _ _).trans (keeps_below h2)⟩
theorem box_below (W:World) (o:Obj):Below W.heap.size W (W.alloc o):=(Below.refl _ W).alloc (Nat.le_refl _) _
set_option maxRecDepth 100000 in
set_option maxHeartbeats 4000000 in
theorem tell_1 (c d:Nat) (x:Lx.Lx) (hk:x.kind=1) (W:World) (hb:Boxed W c 3 (.int .i64 (d:Int))) :
  Calls Tryz.prog 59 #[Lx.aggX x,.pointer (some ⟨c,0,none⟩)] W fun e W'=>e=.returned (.string (toldS d x))∧Turns c (depS d x) W W':=by
 have HR:=Lib.hid (show toldS d x=x.text from told_1 hk)
 have HD:=Lib.hid (show depS d x=d by unfold depS;rw [if_pos hk])
 obtain ⟨kd,nm,tx,pl⟩:=x
 simp only [] at hk
 subst hk
 dsimp only [Lx.aggX]
 have HB:=Lib.hid hb
 clear hb
 go_enter Tryz.func59,Tryz.ntmps59
 go_wp2
 go_ret
 refine ⟨Ba.ret_str HR.out.symm,?_⟩
 rw [HD.out]
 exact ⟨grown_below (box_below _ _) _,(box_below W _).block c HB.out.lt |>.trans HB.out,keeps_below (box_below _ _)⟩
set_option maxRecDepth 100000 in
set_option maxHeartbeats 4000000 in
theorem tell_2 (c d:Nat) (hd:d≤100000) (x:Lx.Lx) (hk:x.kind=2) (hn:x.name<256) (W:World) (hb:Boxed W c 3 (.int .i64 (d:Int))) :
  Calls Tryz.prog 59 #[Lx.aggX x,.pointer (some ⟨c,0,none⟩)] W fun e W'=>e=.returned (.string (toldS d x))∧Turns c (depS d x) W W':=by
 have HR:=Lib.hid (show toldS d x=_ from told_2 hk)
 have HD:=Lib.hid (show depS d x=d+1 by unfold depS;rw [if_neg (by omega),if_pos hk])
 obtain ⟨kd,nm,tx,pl⟩:=x
 simp only [] at hk hn HR
 subst hk
 dsimp only [Lx.aggX]
 have HB:=Lib.hid hb
 have hc:=hb.lt
 have c0:=hb.cell
 have f0:=hb.frozen
 clear hb
 go_enter Tryz.func59,Tryz.ntmps59
 go_wp2_with fail
 refine (Lx.cname_any nm hn _).mono ?_
 rintro e w1 ⟨rfl,hb1⟩
 have HT:=Lib.hid (turns_of (d:=d+1) HB.out (by congr 1) ((box_below _ _).trans (hb1.mono (box_below _ _).size)))
 have hsz:=Lx.nameS_size nm
 have hsz2:(Lx.nameS nm).size≤2:=by rw [hsz];unfold Lx.nameL;(repeat' split)<;>simp
 clear hb1 c0 f0 hc hsz
 obtain ⟨t,ht⟩:∃ t,Lx.nameS nm=t:=⟨_,rfl⟩
 rw [ht] at hsz2 HR ⊢
 clear ht
 go_wp2
 go_ret
 refine ⟨Ba.ret_str HR.out.symm,?_⟩
 rw [HD.out]
 exact HT.out
set_option maxRecDepth 100000 in
set_option maxHeartbeats 4000000 in
theorem tell_3 (c d:Nat) (hd:d≤100000) (hd1:1≤d) (x:Lx.Lx) (hk:x.kind=3) (W:World) (hb:Boxed W c 3 (.int .i64 (d:Int))) :
  Calls Tryz.prog 59 #[Lx.aggX x,.pointer (some ⟨c,0,none⟩)] W fun e W'=>e=.returned (.string (toldS d x))∧Turns c (depS d x) W W':=by
 have HD:=Lib.hid (show depS d x=d - 1 by unfold depS;rw [if_neg (by omega),if_neg (by omega)])
 by_cases h1:d=1
 ·subst h1
  have HR:=Lib.hid (told_31 (x:=x) (by omega) (by omega))
  obtain ⟨kd,nm,tx,pl⟩:=x
  simp only [] at hk
  subst hk
  dsimp only [Lx.aggX]
  have HB:=Lib.hid hb
  have hc:=hb.lt
  have c0:=hb.cell
  have f0:=hb.frozen
  clear hb hd
  go_enter Tryz.func59,Tryz.ntmps59
  go_wp2
  go_ret
  refine ⟨Ba.ret_str HR.out.symm,?_⟩
  rw [HD.out]
  exact turns_of (d:=0) HB.out rfl (box_below _ _)
 ·have HR:=Lib.hid (told_3 (d:=d) (x:=x) (by omega) (by omega) h1)
  obtain ⟨kd,nm,tx,pl⟩:=x
  simp only [] at hk
  subst hk
  dsimp only [Lx.aggX]
  have HB:=Lib.hid hb
  have hc:=hb.lt
  have c0:=hb.cell
  have f0:=hb.frozen
  have z0:(((d:Int) - 1)==0)=false:=beq_eq_false_iff_ne.2 (by omega)
  have z1:0≤(d:Int) - 1:=by omega
  clear hb h1
  go_enter Tryz.func59,Tryz.ntmps59
  go_wp2
  go_ret
  refine ⟨Ba.ret_str HR.out.symm,?_⟩
  rw [HD.out]
  exact turns_of (d:=d - 1) HB.out (by congr 1;omega) (box_below _ _)
theorem tell_any (c d:Nat) (hd:d≤100000) (x:Lx.Lx) (hx:LxOk x) (hn:x.name<256) (hp:x.kind≠1→x.kind≠2→1≤d) (a:ByteArray) (ha:toldS d x=a) (W:World) (hb:Boxed W c 3 (.int .i64 (d:Int))) :
  Calls Tryz.prog 59 #[Lx.aggX x,.pointer (some ⟨c,0,none⟩)] W fun e W'=>e=.returned (.string a)∧Turns c (depS d x) W W':=by
 subst ha
 rcases hx with ⟨s,rfl⟩ | ⟨k,-,rfl⟩ | rfl
 ·exact tell_1 c d _ rfl W hb
 ·exact tell_2 c d hd _ rfl hn W hb
 ·exact tell_3 c d hd (hp (by decide) (by decide)) _ rfl W hb
end Go.Proofs.YtmldpkigfhoalaaGreatDoor.Co
namespace Go.Proofs.YtmldpkigfhoalaaGreatDoor.Co
open Go.RowKit Go.Shelf Tr Nu Cn
attribute [local go_sem] Oper.semAt_some
def FV (c:Nat):Value:=.func (.func 59) #[] #[.pointer (some ⟨c,0,none⟩)]
theorem turns_below {c d:Nat} {W W':World} (h:Turns c d W W') (hc:c<W.heap.size):Below c W W':=⟨h.1.os,h.1.tape,h.1.output,h.1.size,fun k hk=>h.1.block k (by omega) (fun e=>by cases e;omega)⟩
def Aft (b c d:Nat) (S:ByteArray) (y:Bool) (W':World):Prop:=y=true→IsWr b (FV c) S W'∧Boxed W' c 3 (.int .i64 (d:Int))
set_option maxRecDepth 100000 in
set_option maxHeartbeats 8000000 in
theorem write_at (b c d:Nat) (hcb:c<b) (S:ByteArray) (hS:S.size≤8192) (hd:d≤100000) (x:Lx.Lx) (hx:LxOk x) (hn:x.name<256) (hp:x.kind≠1→x.kind≠2→1≤d) (a:ByteArray) (ha:toldS d x=a) (ha9:a.size≤1000000000000) (y:Bool) (hy:decide (S.size+a.size≤8192)=y)
  (W:World) (hw:IsWr b (FV c) S W) (hb:Boxed W c 3 (.int .i64 (d:Int))) :
  Calls Tryz.prog 31 #[.pointer (some ⟨b,0,none⟩),Lx.aggX x] W fun e W'=>e=.returned (.bool y)∧Below c W W'∧KeepsOthers W W'∧Aft b c (depS d x) (S++a) y W':=by
 have hcW:=hb.lt
 have hbW:b<W.heap.size:=by
  obtain ⟨p,v,hbk,-,-⟩:=hw.at_
  exact lt_of_heap hbk
 have c2:W.cell? ⟨b,2,none⟩=some (FV c):=by
  obtain ⟨p,v,hbk,-,-⟩:=hw.at_
  rw [Lib.cell_of_heap hbk];rfl
 have hb0:∀ o,Below W.heap.size W ((W.alloc o).drew):=fun o=>(box_below W o).trans (Below.drew (Below.refl _ _))
 have HW0:=Lib.hid (show ∀ o,IsWr b (FV c) S (W.alloc o).drew from fun o=>hw.kept (grown_below (hb0 o) none) (fun r e=>by cases e))
 have HB0:=Lib.hid (show ∀ o,Boxed (W.alloc o).drew c 3 (.int .i64 (d:Int)) from fun o=>((hb0 o).block c hcW).trans hb)
 have HT:=Lib.hid (fun V hV=>tell_any c d hd x hx hn hp a ha V hV)
 have HB:=Lib.hid hb0
 obtain ⟨d',hd'⟩:∃ d',depS d x=d':=⟨_,rfl⟩
 rw [hd'] at HT ⊢
 obtain ⟨kd,nm,tx,pl⟩:=x
 dsimp only [Lx.aggX] at HT ⊢
 have HY:=Lib.hid hy
 clear hw hb hx hn hp ha hd' hb0 hy hd
 unfold FV at c2
 go_enter Tryz.func31,Tryz.ntmps31
 go_wp2
 go_region_with ((with_reducible refine (HT.out _ (HB0.out _)).mono ?_);rintro e w1 ⟨rfl,ht1⟩)
 all_goals
  have HB1:=Lib.hid ((HB.out _).mono (Nat.le_of_lt hcW) |>.trans (turns_below ht1 (Nat.lt_of_lt_of_le hcW (HB.out _).size)))
  have HK1:=Lib.hid ((keeps_below (HB.out _)).trans ht1.2.2)
  have HW1:=Lib.hid ((HW0.out _).kept ht1.1 (fun r e=>by cases e;exact .inl hcb))
  have HC1:=Lib.hid ht1.2.1
  have hc1:c≤W.heap.size:=Nat.le_of_lt hcW
  clear ht1 HT HB0 HW0 HB
  go_wp2_with fail
  refine (len_at b _ S _ HW1.out).mono ?_
  rintro e w2 ⟨rfl,rfl⟩
  by_cases hfit:S.size+a.size≤8192
  ·have t1:decide ((8192:Int) - (S.size:Int)<(a.size:Int))=false:=decide_eq_false (by omega)
   obtain rfl:y=true:=by rw [← HY.out];exact decide_eq_true hfit
   have ha8:a.size≤8192:=by omega
   clear hfit
   go_wp2_with fail
   refine (writeString_at b _ S a _ HW1.out hS ha8).mono ?_
   rintro e w3 ⟨rfl,hw3,hb3,hk3⟩
   have HB3:=Lib.hid (HB1.out.trans (hb3.mono (Nat.le_of_lt hcb)))
   have HK3:=Lib.hid (HK1.out.trans hk3)
   have HC3:=Lib.hid (show Boxed w3 c 3 _ from (hb3.block c hcb).trans HC1.out)
   have HW3:=Lib.hid hw3
   clear hw3 hb3 hk3
   go_wp2
   go_ret
   exact ⟨rfl,HB3.out,HK3.out,fun _=>⟨HW3.out,HC3.out⟩⟩
  ·have t1:decide ((8192:Int) - (S.size:Int)<(a.size:Int))=true:=decide_eq_true (by omega)
   obtain rfl:y=false:=by rw [← HY.out];exact decide_eq_false hfit
   clear hfit
   go_wp2
   go_ret
   exact ⟨rfl,HB1.out,HK1.out,fun h=>Bool.noConfusion h⟩
end Go.Proofs.YtmldpkigfhoalaaGreatDoor.Co
