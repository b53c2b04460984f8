/-
  Put together.
-/
import Derived.Test.YthbigkoihpgcfaaGreatDoorDaN
import Derived.Test.YthbigkoihpgcfaaGreatDoorQe
import Derived.Test.YthbigkoihpgcfaaGreatDoorUb
import Derived.Test.YthbigkoihpgcfaaGreatDoorUm
import Derived.Test.YthbigkoihpgcfaaGreatDoorYa
import Derived.Test.YthbigkoihpgcfaaGreatDoorYb
import Derived.Shelf.Spec.SlicesInsert
import Derived.Laws.CopyRow
import Derived.Lib.Overlaps
import Derived.Lib.AppendZerosOnto
import Derived.BigQuiet
import Derived.Lib.Builder
import Derived.Lib.AppendStr
import Derived.Lib.UnsafeStr
open Go.Lib (hid)
open Go.Proofs.YthbigkoihpgcfaaGreatDoor.Rg (zP zN zA zB zC tk)
set_option maxRecDepth 100000
set_option maxHeartbeats 16000000
namespace Go.Proofs.YthbigkoihpgcfaaGreatDoor.Cu
open Go.RowKit Go.Lib Ba Ru Ck Ti Pa Fl
theorem qK {P:Program} (k:Nat) (w:World) (dT sT ty elem:TypeId) (g o dLen dCap:Nat) (a:Addr) (sLen sCap:Nat) (cur:Array Value) (t:TypeId) (cs:List Value)
  (hu:P.underlying dT=some (.slice elem)) (hs:(P.info? elem).map (·.size)=some k)
  (hg:w.heap[g]?=some (.cells cur t (0,0))) (n:Nat) (hmin:Nat.min sLen dLen=n) (hn:cs.length=n * k)
  (hsrc:∀ j v,cs[j]?=some v→w.cell? (a.add j)=some v) (hfit:o+cs.length≤cur.size) (h1:∀ v ∈ cs,v.oneCell'=true) :
  (Builtin.copy_ #[dT,sT] ty #[.slice (some ⟨g,o,none⟩) dLen dCap,.slice (some a) sLen sCap]).run P w =
   .ok (goInt n) (w.setRow g (cur.toList.take o++cs++cur.toList.drop (o+cs.length)).toArray):=by
 have hl:=run_loadCells_list (P:=P) w a cs hsrc
 have hst:=run_storeCells_at P g o t cs 0 cur w hg (by simpa using hfit) h1
 cases hq:P.info? elem with
 | none=>simp[hq]at hs
 | some i =>
  have hi:i.size=k:=by simpa[hq] using hs
  rw[hn]at hl
  simp[Builtin.copy_,run_underlying hu,Builtin.lenOf,Builtin.firstCells,sizeOf,typeInfo,hq,hi,hmin,hl,hst]
theorem zE (p:List Pc) (x:Pc):cW (x::p)=[.int .i64 (x.rule:Int),.int .i64 (x.aR:Int),.int .i64 (x.len:Int)]++cW p:=rfl
theorem qL (p:List Pc):(cW p).length=p.length * 3:=by
 unfold cW
 rw[dA cQ VM,List.length_map]
theorem CK (p:List Pc):∀ v ∈ cW p,v.oneCell'=true:=IB _
theorem lU {w:World} {g:Nat} {cur:Array Value} {t:TypeId} (h:w.heap[g]?=some (.cells cur t (0,0))) {xs:List Value} (hx:cur.toList.take xs.length=xs):∀ j v,xs[j]?=some v→w.cell? ((⟨g,0,none⟩:Addr).add j)=some v:=fun j v hj=>by
 have e:(⟨g,0,none⟩:Addr).add j=⟨g,j,none⟩:=by unfold Addr.add;split<;>simp_all
 have hjl:=(List.getElem?_eq_some_iff.1 hj).1
 rw[e,cell_of_row w g j cur t (0,0) h,← hj]
 conv=>rhs;rw[← hx]
 rw[List.getElem?_take,if_pos hjl]
 simp
theorem IT (ps:List Pc) (x:Pc) (n c:Nat) (hn:ps.length=n) (h0:0<n) (hn9:n≤100000) (B g:Nat) (w:World) (hB:B≤w.heap.size) (cur:Array Value) (hg:w.heap[g]?=some (.cells cur 77 (0,0))) (hnc:n≤c) (hcur:cur.toList.take (n * 3)=cW ps) (hroom:c<n+1)
  (nb:Nat) (hnb:w.heap[nb]?=some (.cells #[.int .i64 (x.rule:Int),.int .i64 (x.aR:Int),.int .i64 (x.len:Int)] 77 (0,0))) :
  Calls Tryz.prog 171 #[.slice (some ⟨g,0,none⟩) n c,.int .i64 0,.slice (some ⟨nb,0,none⟩) 1 1] w fun e w'=>∃ v',e=.returned v'∧w'.ownsRow B 77 3 v' (n+1) (cW (x::ps))∧w.grownBy w' (some g):=by
 obtain⟨i0,hi0,hz0,hz1,hz2⟩:=info_parts VQ
 have hgl:g<w.heap.size:=(Array.getElem?_eq_some_iff.1 hg).1
 have hnl:nb<w.heap.size:=(Array.getElem?_eq_some_iff.1 hnb).1
 have hold:(Builtin.firstCells i0.size 0 (.slice (some ⟨g,0,none⟩) 0 c)).run Tryz.prog w.drew=.ok ([]:List Value).toArray w.drew:=by
  rw[hz1]
  exact run_firstCells_some w.drew 3 0 ⟨g,0,none⟩ 0 c [] (by simp) (fun j v hj=>by simp at hj)
 have hap:=fun ty=>Lib.run_append_grow_zeros (P:=Tryz.prog) w 74 3 ty 77 i0 _ .i64 .i64 Tryz.underlying74 Tryz.underlying3 hi0 hz0 (some ⟨g,0,none⟩) 0 c [] hold (n+1) (by omega) (by omega) (by omega) (by omega) (by rw[hz2];omega) (by rw[hz2];exact growslice_fits (by omega) (by omega))
 obtain⟨G,hG⟩:∃ G,grownCap w (0+(n+1)) c 77=G:=⟨_,rfl⟩
 have hGn:n+1≤G:=by rw[← hG];have:=grownCap_ge w (0+(n+1)) c 77;omega
 have hGm:G≤maxLen:=by rw[← hG];exact grownCap_le_maxLen w _ _ _ (by unfold maxLen;omega)
 have hGm2:G≤9223372036854775807:=by unfold maxLen at hGm;omega
 rw[hG]at hap
 obtain⟨ROW,hROW⟩:∃ R:Array Value,(([]:List Value).toArray++Builtin.zeroCells (Value.agg #[.int .i64 0,.int .i64 0,.int .i64 0]).cells (n+1)++Builtin.zeroCells (Value.agg #[.int .i64 0,.int .i64 0,.int .i64 0]).cells (G - (0+(n+1))))=R:=⟨_,rfl⟩
 rw[hROW]at hap
 have hRs:ROW.size=G * 3:=by
  rw[← hROW]
  simp[Builtin.zeroCells,Value.cells]
  omega
 obtain⟨N,hN⟩:∃ N,w.heap.size=N:=⟨_,rfl⟩
 obtain⟨vs,hvs⟩:∃ vs:List Value,[.int .i64 (x.rule:Int),.int .i64 (x.aR:Int),.int .i64 (x.len:Int)]=vs:=⟨_,rfl⟩
 have hvl:vs.length=3:=by rw[← hvs];rfl
 have hv1:∀ v ∈ vs,v.oneCell'=true:=by rw[← hvs];simp[Value.oneCell']
 have hrl:(cW ps).length=n * 3:=by rw[qL,hn]
 have hsz:(Tryz.prog.info? 77).map (·.size)=some 3:=by rw[hi0];simp[hz1]
 have hW1:(w.drew.alloc (.cells ROW 77)).heap[N]?=some (.cells ROW 77 (0,0)):=by rw[← hN];exact World.alloc_heap_new w.drew _
 have hG1:(w.drew.alloc (.cells ROW 77)).heap[g]?=some (.cells cur 77 (0,0)):=(Below.heap_alloc _ _ _ hgl).trans hg
 have hV1:(w.drew.alloc (.cells ROW 77)).heap[nb]?=some (.cells vs.toArray 77 (0,0)):=(Below.heap_alloc _ _ _ hnl).trans (by rw[hnb,← hvs])
 obtain⟨W1,hW1e⟩:∃ W1,w.drew.alloc (.cells ROW 77)=W1:=⟨_,rfl⟩
 rw[hW1e]at hW1 hG1 hV1
 obtain⟨R2,hR2⟩:∃ R2,(ROW.toList.take 0++vs++ROW.toList.drop (0+vs.length)).toArray=R2:=⟨_,rfl⟩
 have hR2s:R2.size=G * 3:=by rw[← hR2];simp[hvl,hRs];omega
 obtain⟨R3,hR3⟩:∃ R3,(R2.toList.take 3++cW ps++R2.toList.drop (3+(cW ps).length)).toArray=R3:=⟨_,rfl⟩
 have hR2t:R2.toList.take 3=vs:=by
  rw[← hR2]
  simp only[List.take_zero,List.nil_append]
  rw[← hvl]
  exact List.take_left
 have hR3s:R3.size=G * 3:=by
  rw[← hR3]
  simp only[List.size_toArray,List.length_append,List.length_take,List.length_drop,Array.length_toList,hR2s,hrl]
  omega
 have hR3t:R3.toList.take ((n+1) * 3)=cW (x::ps):=by
  rw[← hR3,hR2t,zE,hvs]
  simp only[]
  rw[show (n+1) * 3=(vs++cW ps).length by rw[List.length_append,hvl,hrl];omega]
  exact List.take_left
 have hcA:∀ (V:World),V.heap=W1.heap→∀ ty dc sc,(Builtin.copy_ #[74,74] ty #[.slice (some ⟨N,0,none⟩) (n+1) dc,.slice (some ⟨nb,0,none⟩) 1 sc]).run Tryz.prog V=.ok (goInt 1) (V.setRow N R2):=fun V hV ty dc sc=>by
  rw[← hR2]
  exact qK 3 V _ _ ty 77 N 0 (n+1) dc ⟨nb,0,none⟩ 1 sc ROW 77 vs Tryz.underlying74 hsz (by rw[hV];exact hW1) 1 (by simp only[Nat.min_def];split<;>omega) (by rw[hvl]) (lU (cur:=vs.toArray) (by rw[hV];exact hV1) (by simp)) (by rw[hvl,hRs];omega) hv1
 have hcB:∀ (V:World),V.heap=(W1.setRow N R2).heap→∀ ty dc sc,(Builtin.copy_ #[74,74] ty #[.slice (some ⟨N,3,none⟩) n dc,.slice (some ⟨g,0,none⟩) n sc]).run Tryz.prog V=.ok (goInt n) (V.setRow N R3):=fun V hV ty dc sc=>by
  rw[← hR3]
  exact qK 3 V _ _ ty 77 N 3 n dc ⟨g,0,none⟩ n sc R2 77 (cW ps) Tryz.underlying74 hsz (by rw[hV];exact setRow_heap W1 N ROW R2 _ _ hW1) n (by simp only[Nat.min_def];split<;>omega) hrl (lU (cur:=cur) (by rw[hV,setRow_other W1 N g R2 (by omega)];exact hG1) (by rw[hrl];exact hcur)) (by rw[hrl,hR2s];omega) (CK ps)
 have hap':∀ ty,(Builtin.append_ #[74,3] ty #[.slice (some ⟨g,0,none⟩) 0 c,.int .i64 ((n:Int)+1)]).run Tryz.prog w=.ok (.slice (some ⟨N,0,none⟩) (n+1) G) W1:=fun ty=>by
  have h:=hap ty
  rw[hN,hW1e,Nat.zero_add,Int.natCast_add]at h
  exact h
 have HAP:=hid hap'
 have HCA:=hid (hcA W1 rfl)
 have HCB:=hid (hcB (W1.setRow N R2) rfl)
 have HCBD:=hid (hcB (W1.setRow N R2).drew rfl)
 have HFI:=hid (show ∀ V:World,V.heap=(W1.setRow N R2).heap→V.os=w.os→V.tape=w.tape→V.output=w.output→(V.setRow N R3).ownsRow B 77 3 (.slice (some ⟨N,0,none⟩) (n+1) G) (n+1) (cW (x::ps))∧w.grownBy (V.setRow N R3) (some g) from fun V hV h1 h2 h3=>by
  have hVN:V.heap[N]?=some (.cells R2 77 (0,0)):=by rw[hV];exact setRow_heap W1 N ROW R2 _ _ hW1
  refine⟨⟨by rw[qL,List.length_cons,hn],.inr ⟨N,G,R3,rfl,by omega,setRow_heap V N R2 R3 _ _ hVN,hGn,hGm,hR3s,hR3t⟩⟩,?_⟩
  refine⟨h1,h2,h3,?_,fun k hk _=>?_⟩
  ·have:V.heap.size=N+1:=by rw[hV,← hW1e,← hN];simp[World.setRow]
   have h5:(V.setRow N R3).heap.size=V.heap.size:=by simp[World.setRow]
   omega
  ·have hkN:k≠N:=by omega
   rw[setRow_other V N k R3 hkN,hV,setRow_other W1 N k R2 hkN,← hW1e]
   exact Below.heap_alloc _ _ _ hk)
 have HOS:=hid (show W1.os=w.os∧W1.tape=w.tape∧W1.output=w.output from by rw[← hW1e];exact⟨rfl,rfl,rfl⟩)
 clear hap hap' hcA hcB hold hG hRs hR2s hR3s hR3t hR2t hW1 hG1 hV1 hW1e hR2 hR3 hvs hvl hv1 hrl hsz hROW hg hnb hcur hn hN
 have q1:((0:Int)==(n:Int))=false:=beq_eq_false_iff_ne.2 (by omega)
 have q2:¬ ((0:Int)=(n:Int)):=by omega
 have q3:¬ (n=0):=by omega
 have q4:¬ (c=0):=by omega
 have q5:¬ (G=0):=by omega
 have q6:¬ (G=1):=by omega
 have q7:IntKind.i64.wrap ((n:Int)+1)=(n:Int)+1:=IntWalk.i64_in _ ⟨by omega,by omega⟩
 have q8:decide ((c:Int)<(n:Int)+1)=true:=decide_eq_true (by omega)
 have q9:(0:Int)≤(n:Int):=by omega
 have q10:(1:Int)≤(n:Int)+1:=by omega
 have hA0:=HCA.out 3 G 1
 have mixed:=Tryz.lays156.mixed
 have e1:IntKind.i64.wrap 1=1:=by decide
 go_enter Tryz.func171,Tryz.ntmps171
 go_wp2_with (at_builtin;refine Lib.wpList_append_run _ rfl _ _ _ _ rfl _ _ rfl rfl _ _ (HAP.out _) ?_)
 all_goals
  go_region_law_o (refine step_copy_runI rfl _ _ 74 74 rfl (.slice (some ⟨N,3,none⟩) n (G - 1)) (.slice (some ⟨g,0,none⟩) n c) (by simp[Act.eval,Act.put]) (by simp[Act.eval,Act.put]) (HCBD.out 3 (G - 1) c) ?_)
 all_goals
  go_wp2
  go_ret
  exact⟨_,rfl,HFI.out (W1.setRow N R2).drew rfl HOS.out.1 HOS.out.2.1 HOS.out.2.2⟩
theorem IU (ps:List Pc) (x:Pc) (n c:Nat) (hn:ps.length=n) (h0:0<n) (hn9:n≤100000) (B g:Nat) (w:World) (hB:B≤g) (cur:Array Value) (hg:w.heap[g]?=some (.cells cur 77 (0,0))) (hcm:c≤maxLen) (hcs:cur.size=c * 3) (hcur:cur.toList.take (n * 3)=cW ps) (hroom:n+1≤c)
  (nb:Nat) (hne:nb≠g) (hnb:w.heap[nb]?=some (.cells #[.int .i64 (x.rule:Int),.int .i64 (x.aR:Int),.int .i64 (x.len:Int)] 77 (0,0))) :
  Calls Tryz.prog 171 #[.slice (some ⟨g,0,none⟩) n c,.int .i64 0,.slice (some ⟨nb,0,none⟩) 1 1] w fun e w'=>∃ v',e=.returned v'∧w'.ownsRow B 77 3 v' (n+1) (cW (x::ps))∧w.grownBy w' (some g):=by
 obtain⟨i0,hi0,hz0,hz1,hz2⟩:=info_parts VQ
 have hgl:g<w.heap.size:=(Array.getElem?_eq_some_iff.1 hg).1
 have hcm2:c≤9223372036854775807:=by unfold maxLen at hcm;omega
 obtain⟨vs,hvs⟩:∃ vs:List Value,[.int .i64 (x.rule:Int),.int .i64 (x.aR:Int),.int .i64 (x.len:Int)]=vs:=⟨_,rfl⟩
 have hvl:vs.length=3:=by rw[← hvs];rfl
 have hv1:∀ v ∈ vs,v.oneCell'=true:=by rw[← hvs];simp[Value.oneCell']
 have hrl:(cW ps).length=n * 3:=by rw[qL,hn]
 have hsz:(Tryz.prog.info? 77).map (·.size)=some 3:=by rw[hi0];simp[hz1]
 have hov:∀ lb cb,(callFunc 217 #[.slice (some ⟨nb,0,none⟩) 1 1,.slice (some ⟨g,3,none⟩) lb cb]).run Tryz.prog w=.ok (.value (.bool false)) w:=fun lb cb=>by
  rw[run_callFunc_extern Tryz.func217 (by kernel_rfl) (by kernel_rfl) (by kernel_rfl) (e:=Extern.SlicesOverlaps.overlaps #[74,74] #[4]) (by kernel_rfl),
   Lib.run_overlaps_apart w 74 4 77 Tryz.underlying74 3 Tryz.sizeOf77 ⟨nb,0,none⟩ ⟨g,3,none⟩ 1 1 lb cb hne 77 77 3 (c * 3) (by simp[World.shape?,hnb]) (by simp[World.shape?,hg,hcs]) (by omega) (by simp[World.frozen?,hnb]) (by simp[World.frozen?,hnb])]
  rfl
 have hV0:w.heap[nb]?=some (.cells vs.toArray 77 (0,0)):=by rw[hnb,← hvs]
 obtain⟨R2,hR2⟩:∃ R2,(cur.toList.take 3++cW ps++cur.toList.drop (3+(cW ps).length)).toArray=R2:=⟨_,rfl⟩
 have hR2s:R2.size=c * 3:=by
  rw[← hR2]
  simp only[List.size_toArray,List.length_append,List.length_take,List.length_drop,Array.length_toList,hcs,hrl]
  omega
 obtain⟨R3,hR3⟩:∃ R3,(R2.toList.take 0++vs++R2.toList.drop (0+vs.length)).toArray=R3:=⟨_,rfl⟩
 have hR2d:R2.toList.drop 3=cW ps++cur.toList.drop (3+(cW ps).length):=by
  rw[← hR2]
  simp only[List.append_assoc]
  have h3:(cur.toList.take 3).length=3:=by rw[List.length_take,Array.length_toList];omega
  exact List.drop_left' h3
 have hR3s:R3.size=c * 3:=by
  rw[← hR3]
  simp only[List.size_toArray,List.length_append,List.length_take,List.length_drop,Array.length_toList,hR2s,hvl]
  omega
 have hR3t:R3.toList.take ((n+1) * 3)=cW (x::ps):=by
  rw[← hR3,zE,hvs]
  simp only[List.take_zero,List.nil_append,hvl,Nat.zero_add]
  rw[hR2d,← List.append_assoc,show (n+1) * 3=(vs++cW ps).length by rw[List.length_append,hvl,hrl];omega]
  exact List.take_left
 have hcA:∀ ty dc sc,(Builtin.copy_ #[74,74] ty #[.slice (some ⟨g,3,none⟩) n dc,.slice (some ⟨g,0,none⟩) (n+1) sc]).run Tryz.prog w.drew=.ok (goInt n) (w.drew.setRow g R2):=fun ty dc sc=>by
  rw[← hR2]
  exact qK 3 w.drew _ _ ty 77 g 3 n dc ⟨g,0,none⟩ (n+1) sc cur 77 (cW ps) Tryz.underlying74 hsz hg n (by simp only[Nat.min_def];split<;>omega) hrl (lU (w:=w.drew) (cur:=cur) hg (by rw[hrl];exact hcur)) (by rw[hrl,hcs];omega) (CK ps)
 have hcB:∀ ty dc sc,(Builtin.copy_ #[74,74] ty #[.slice (some ⟨g,0,none⟩) (n+1) dc,.slice (some ⟨nb,0,none⟩) 1 sc]).run Tryz.prog (w.drew.setRow g R2)=.ok (goInt 1) ((w.drew.setRow g R2).setRow g R3):=fun ty dc sc=>by
  rw[← hR3]
  exact qK 3 _ _ _ ty 77 g 0 (n+1) dc ⟨nb,0,none⟩ 1 sc R2 77 vs Tryz.underlying74 hsz (setRow_heap w.drew g cur R2 _ _ hg) 1 (by simp only[Nat.min_def];split<;>omega) (by rw[hvl]) (lU (cur:=vs.toArray) (by rw[setRow_other w.drew g nb R2 hne];exact hV0) (by simp)) (by rw[hvl,hR2s];omega) hv1
 have HFI:=hid (show ((w.drew.setRow g R2).setRow g R3).ownsRow B 77 3 (.slice (some ⟨g,0,none⟩) (n+1) c) (n+1) (cW (x::ps))∧w.grownBy ((w.drew.setRow g R2).setRow g R3) (some g) from by
  refine⟨⟨by rw[qL,List.length_cons,hn],.inr ⟨g,c,R3,rfl,hB,setRow_heap _ g R2 R3 _ _ (setRow_heap w.drew g cur R2 _ _ hg),hroom,hcm,hR3s,hR3t⟩⟩,?_⟩
  have hsw:((w.drew.setRow g R2).setRow g R3).heap.size=w.drew.heap.size:=by simp[World.setRow]
  refine⟨rfl,rfl,rfl,by rw[hsw];exact Nat.le_refl _,fun k hk hkg=>?_⟩
  have hkN:k≠g:=fun e=>hkg (by rw[e])
  rw[setRow_other _ g k R3 hkN,setRow_other w.drew g k R2 hkN]
  rfl)
 have HCA:=hid (hcA 3 (c - 1) c)
 have hB0:=hcB 3 c 1
 clear hcA hcB hR2 hR3 hvs hvl hv1 hrl hsz hnb hcur hn hg hcs hR2s hR3s hR3t hR2d hV0 hcm
 have q1:((0:Int)==(n:Int))=false:=beq_eq_false_iff_ne.2 (by omega)
 have q2:¬ ((0:Int)=(n:Int)):=by omega
 have q3:¬ (n=0):=by omega
 have q4:¬ (c=0):=by omega
 have q6:¬ (c=1):=by omega
 have q7:IntKind.i64.wrap ((n:Int)+1)=(n:Int)+1:=IntWalk.i64_in _ ⟨by omega,by omega⟩
 have q8:decide ((c:Int)<(n:Int)+1)=false:=decide_eq_false (by omega)
 have q9:(0:Int)≤(n:Int):=by omega
 have q10:(1:Int)≤(n:Int)+1:=by omega
 have q11:(n:Int)+1≤(c:Int):=by omega
 have q12:(0:Int)≤(n:Int)+1:=by omega
 have q13:((n:Int)+1).toNat=n+1:=by omega
 have e1:IntKind.i64.wrap 1=1:=by decide
 have mixed:=Tryz.lays156.mixed
 go_enter Tryz.func171,Tryz.ntmps171
 go_wp2_with (simp only[hov])
 all_goals
  go_region_law_o (refine step_copy_runI rfl _ _ 74 74 rfl (.slice (some ⟨g,3,none⟩) n (c - 1)) (.slice (some ⟨g,0,none⟩) (n+1) c) (by simp[Act.eval,Act.put]) (by simp[Act.eval,Act.put]) HCA.out ?_)
 all_goals
  go_wp2
  go_ret
  exact⟨_,rfl,HFI.out⟩
end Go.Proofs.YthbigkoihpgcfaaGreatDoor.Cu
namespace Go.Proofs.YthbigkoihpgcfaaGreatDoor.Cu
open Go.RowKit Ba Ru Ck Ti Pa Fl
section
variable {T:bT} {w1 W W':World} {tv lv:Value} {l:List Rl} {lo hi:Nat} {t:List Tk} {off g rc:Nat} {ps:List Pc}
theorem V5 (E:Env T w1 tv lv l lo hi t off g rc) (hcap:lS lv) (hW:Below w1.heap.size w1 W) (hK:KI w1.heap.size tv (jD l g rc) lv [] W) :
  Calls Tryz.prog 126 #[.pointer (some ⟨w1.heap.size,0,none⟩)] W fun e W'=>e=.returned (.tuple #[])∧KI w1.heap.size tv (jD l g rc) lv (bI l t) W'∧rR w1.heap.size W W':=by
 have hfew:=E.qT
 obtain⟨A,c,rfl,hA⟩:=E.rS
 have hmc:t.length≤c:=(hcap _ _ _ rfl).1
 have HAA:=hid (show 0<t.length→∃ g,A=some ⟨g,off,none⟩ from fun h=>by obtain⟨g,e,-⟩:=hA h;exact⟨g,e⟩)
 have HTOT:=hid (show (bI l t).length≤4 * t.length from kL l _ _ _ _)
 have HC2:=hid (fun(qs:List Pc) (V:World) (hKV:KI w1.heap.size tv (jD l g rc) (.slice A t.length c) qs V)=>hKV.cells.2.2)
 have HLE:=hid (fun(j:Nat) (hj:j<t.length) (g0:Nat) (hg:A=some ⟨g0,off,none⟩) (V:World) (hV:Below w1.heap.size w1 V) (c':Nat)=>show Calls Tryz.prog 162 #[.slice (some ⟨g0,off+j * 3,none⟩) (t.length - j) c'] V fun e w'=>e=.returned (.string (bytesOf (fA ((t.drop j).takeWhile aJ))))∧Below V.heap.size V w' from by
  have hr:=((E.EI hV).mono hV.size)
  rw[hg]at hr
  have h2:=wJ hr j (t.length - j) c' (by omega)
  rw[List.take_of_length_le (by rw[List.length_drop];exact Nat.le_refl _)]at h2
  exact y9 (t.drop j) _ _ _ _ (List.length_drop ..) (by omega) (fun x hx=>(E.IH x (List.mem_of_mem_drop hx)).2.1) V (E.gR hV) h2 _ rfl)
 have HRU:=hid (fun(s:List Nat) (hs:gE s) (hne:0<s.length) (j:Nat) (hj:j+s.length≤t.length) (r:Bool) (hr:mX t j=r) (V:World) (hV:Below w1.heap.size w1 V) (qs:List Pc) (hq:qs.length≤50000) (hKV:KI w1.heap.size tv (jD l g rc) (.slice A t.length c) qs V)=>aDO E hV hKV hq s hs hne j hj r hr)
 have HSI:=hid (fun(j:Nat) (x:Tk) (hx:t[j]?=some x) (hl:aJ x=false) (r:Bool) (hr:mX t j=r) (V:World) (hV:Below w1.heap.size w1 V) (qs:List Pc) (hq:qs.length≤50000) (hKV:KI w1.heap.size tv (jD l g rc) (.slice A t.length c) qs V)=>RY E hV hKV hq j x hx hl r hr)
 have HKS:=hid (fun(qs:List Pc) (V V':World) (hKV:KI w1.heap.size tv (jD l g rc) (.slice A t.length c) qs V) (hb:Below V.heap.size V V')=>hKV.step hb)
 have HK0:=hid hK
 have HW0:=hid hW
 obtain⟨m,hm⟩:∃ m,t.length=m:=⟨_,rfl⟩
 obtain⟨rv,hrv⟩:∃ v,jD l g rc=v:=⟨_,rfl⟩
 obtain⟨b,hb⟩:∃ b,w1.heap.size=b:=⟨_,rfl⟩
 have HM:=hid hm
 rw[hm]at HAA HTOT HC2 HLE HRU HSI HKS HK0 hfew hmc
 rw[hrv]at HC2 HRU HSI HKS HK0 ⊢
 rw[hb]at HC2 HLE HRU HSI HKS HK0 HW0 ⊢
 rw[hm]
 clear E hW hK hA hm hrv hb hcap
 go_enter Tryz.func126,Tryz.ntmps126
 go_wp2
 go_loopw [2] (fun a wr=>∃ (j:Nat) (ds:List Pc),a=.int .i64 (j:Int)∧j≤m∧bI l t=ds++bM l (t.length - j) j (mX t j) (t.drop j)∧KI b tv rv (.slice A m c) ds wr∧rR b W wr∧Below b w1 wr) (fun a _=>m - (intOf a).toNat)
 case atStart=>exact⟨0,[],rfl,Nat.zero_le _,rfl,HK0.out,rR.refl _ _,HW0.out⟩
 case round =>
  obtain⟨j,ds,rfl,hj,hsp,hk,hst,hw⟩:=hrel
  have HSP:=hid hsp
  have HK:=hid hk
  have HS:=hid hst
  have HW:=hid hw
  have c2:=HC2.out _ _ hk
  have hdl:ds.length≤4000:=by
   have h1:=HTOT.out
   rw[hsp,List.length_append]at h1
   omega
  have j0:(0:Int)≤(j:Int):=by omega
  clear hsp hk hst hw
  by_cases hlt:j<m
  rotate_left
  ·have HE:=hid (show bI l t=ds from by
    have hjm:j=m:=by omega
    rw[HSP.out,hjm,HM.out,Nat.sub_self]
    exact List.append_nil _)
   have t1:decide ((j:Int)<(m:Int))=false:=decide_eq_false (by omega)
   rw[← HE.out]at HK
   go_wp2
   go_end0
   exact⟨rfl,HK.out,HS.out⟩
  ·obtain⟨g0,rfl⟩:=HAA.out (by omega)
   obtain⟨x,hx⟩:∃ x,t[j]?=some x:=⟨_,List.getElem?_eq_getElem (by rw[HM.out];exact hlt)⟩
   obtain⟨L,hL⟩:∃ L,(t.drop j).takeWhile aJ=L:=⟨_,rfl⟩
   have hle:=HLE.out j hlt g0 rfl wr HW.out (c - j)
   rw[hL]at hle
   have hzs:(bytesOf (fA L)).size=L.length:=by rw[aF];exact List.length_map ..
   have j1:(j:Int)≤(m:Int):=by omega
   have jc:¬ c=j:=by omega
   have t1:decide ((j:Int)<(m:Int))=true:=decide_eq_true (by omega)
   by_cases hl:aJ x=true
   ·obtain⟨hs1,hs2,hs3,-,hs5⟩:=RH (l:=l) hx hl (mX t j) hL
    rw[HM.out]at hs3
    have hcl:(fA L).length=L.length:=List.length_map ..
    have HR:=hid (fun(V:World) (hV:Below b w1 V) (hKV:KI b tv rv (.slice (some ⟨g0,off,none⟩) m c) ds V)=>HRU.out (fA L) (mR hs5) (by omega) j (by omega) (mX t j) rfl V hV ds (by omega) hKV)
    have HNC:=hid (show bI l t=(ds++((if mX t j=true then [⟨aG l 8 eX,j,0⟩] else [])++runN l (fA L) j))++bM l (t.length - (j+L.length)) (j+L.length) (mX t (j+L.length)) (t.drop (j+L.length)) from by rw[HSP.out,hs1];simp only[List.append_assoc])
    obtain⟨n,hn⟩:∃ n,L.length=n:=⟨_,rfl⟩
    obtain⟨S,hS⟩:∃ S,bytesOf (fA L)=S:=⟨_,rfl⟩
    obtain⟨es,hes⟩:∃ es,ds++((if mX t j=true then [⟨aG l 8 eX,j,0⟩] else [])++runN l (fA L) j)=es:=⟨_,rfl⟩
    rw[hn]at HNC hs2 hs3 hzs
    rw[hS]at hle HR hzs
    rw[hes]at HNC HR
    subst hzs
    have HL:=hid hle
    have t3:S.toList.isEmpty=false:=Hc.gM S (by omega)
    have t4:IntKind.i64.wrap ((j:Int)+(S.size:Int))=(j:Int)+(S.size:Int):=IntWalk.i64_in _ ⟨by omega,by omega⟩
    clear hx hL hle hl hs1 hs5 hcl hn hS hes
    go_wp2_with fail
    refine HL.out.mono ?_
    rintro e w2 ⟨rfl,hb2⟩
    have HST2:=hid (HKS.out _ _ _ HK.out hb2)
    have HW2:=hid (HW.out.trans HST2.out.2.1)
    clear hb2
    go_wp2_with fail
    refine(HR.out _ HW2.out HST2.out.1).mono ?_
    rintro e w3 ⟨rfl,hk3,hs3'⟩
    have HK3:=hid hk3
    have HS3:=hid ((HS.out.trans HST2.out.2).trans hs3')
    have HW3:=hid (HW2.out.trans hs3'.1)
    clear hk3 hs3'
    go_wp2
    go_roundw
    case rel=>exact⟨j+S.size,es,by go_num,by omega,HNC.out,HK3.out,HS3.out,HW3.out⟩
    case measure=>simp[intOf];omega
   ·have hl:aJ x=false:=by simpa using hl
    have hLn:L=[]:=by
     rw[← hL,drop_at hx,List.takeWhile_cons,if_neg (by rw[hl];decide)]
    have HNC:=hid (show bI l t=(ds++xK l x (mX t j) j)++bM l (t.length - (j+1)) (j+1) (mX t (j+1)) (t.drop (j+1)) from by
     rw[HSP.out,MF hx hl (mX t j),List.append_assoc]
     rfl)
    have HR:=hid (fun(V:World) (hV:Below b w1 V) (hKV:KI b tv rv (.slice (some ⟨g0,off,none⟩) m c) ds V)=>HSI.out j x hx hl (mX t j) rfl V hV ds (by omega) hKV)
    obtain⟨es,hes⟩:∃ es,ds++xK l x (mX t j) j=es:=⟨_,rfl⟩
    rw[hes]at HNC HR
    subst hLn
    have hle:Calls Tryz.prog 162 #[.slice (some ⟨g0,off+j * 3,none⟩) (m - j) (c - j)] wr fun e w'=>e=.returned (.string { data:=#[] })∧Below wr.heap.size wr w':=hle
    have HL:=hid hle
    have t4:IntKind.i64.wrap ((j:Int)+1)=(j:Int)+1:=IntWalk.i64_in _ ⟨by omega,by omega⟩
    clear hx hL hle hl hzs hes
    go_wp2_with fail
    refine HL.out.mono ?_
    rintro e w2 ⟨rfl,hb2⟩
    have HST2:=hid (HKS.out _ _ _ HK.out hb2)
    have HW2:=hid (HW.out.trans HST2.out.2.1)
    clear hb2
    go_wp2_with fail
    refine(HR.out _ HW2.out HST2.out.1).mono ?_
    rintro e w3 ⟨rfl,hk3,hs3'⟩
    have HK3:=hid hk3
    have HS3:=hid ((HS.out.trans HST2.out.2).trans hs3')
    have HW3:=hid (HW2.out.trans hs3'.1)
    clear hk3 hs3'
    go_wp2
    go_roundw
    case rel=>exact⟨j+1,es,by go_num,by omega,HNC.out,HK3.out,HS3.out,HW3.out⟩
    case measure=>simp[intOf];omega
end
theorem uU:∀ {t:List Tk},(t.takeWhile aJ).length=t.length→t.all aJ=true∧t.takeWhile aJ=t
 | [],_=>⟨rfl,rfl⟩
 | x::t,h=>by
  rw[List.takeWhile_cons]at h ⊢
  by_cases hl:aJ x=true
  ·rw[if_pos hl]at h ⊢
   obtain⟨h1,h2⟩:=uU (t:=t) (by simpa using h)
   exact⟨by rw[List.all_cons,hl,h1];rfl,by rw[h2]⟩
  ·rw[if_neg hl]at h
   simp at h
theorem uV:∀ {t:List Tk},t.all aJ=true→t.takeWhile aJ=t
 | [],_=>rfl
 | x::t,h=>by
  rw[List.all_cons,Bool.and_eq_true]at h
  rw[List.takeWhile_cons,if_pos h.1,uV h.2]
theorem aAZ {l:List Rl} {q:Int} {s:List Nat} {k:Nat} (h:cI l q s=some k):∃ x,l[k]?=some x∧x.aE=q∧x.left=s:=by
 unfold cI at h
 rw[List.findIdx?_eq_some_iff_getElem]at h
 obtain⟨hk,hp,-⟩:=h
 exact⟨l[k],List.getElem?_eq_getElem hk,of_decide_eq_true hp⟩
theorem RZ {l:List Rl} (A:Acc dM l):cI l 5 []=none:=by
 cases h:cI l 5 [] with
 | none=>rfl
 | some k =>
  exfalso
  obtain⟨x,hx,h1,h2⟩:=aAZ h
  have ha:=A.alone x (List.mem_of_getElem? hx)
  unfold eF at ha
  rw[Bool.and_eq_true]at ha
  have hm:=ha.2
  unfold nM at hm
  rw[Bool.and_eq_true,Bool.and_eq_true,Bool.and_eq_true]at hm
  have hl:=hm.1.1.2
  rw[h1,h2]at hl
  exact absurd hl (by decide)
theorem aA0 {l:List Rl} {t:List Tk} (A:Acc dM l) (ha:t.all aJ=true) {k:Nat} (hk:cI l 5 (bL (fA t))=some k) (h4:aO (fA t)≠4):dD l t=some (k8 l (aO (fA t)) 0++[⟨k,0,t.length⟩]):=by
 have hne:fA t≠[]:=fun e=>by
  rw[e]at hk
  have:=RZ A
  rw[show bL []=([]:List Nat) from rfl,this]at hk
  cases hk
 have hc:=kY (mR ha) hne
 unfold dD
 rw[if_pos ha,hk]
 show (match aO (fA t)with | 1=>_ | 2=>_ | 3=>_ | _=>none)=_
 obtain⟨c,hcn⟩:∃ c,aO (fA t)=c:=⟨_,rfl⟩
 rw[hcn]at hc h4 ⊢
 have:c=1∨c=2∨c=3:=by
  split at hc
  ·exact .inl hc
  ·split at hc
   ·exact .inr (.inl hc)
   ·split at hc
    ·exact .inr (.inr hc)
    ·exact absurd hc h4
 rcases this with rfl | rfl | rfl<;>rfl
theorem s5 {l:List Rl} {t:List Tk} (h:t.all aJ=false∨cI l 5 (bL (fA t))=none∨aO (fA t)=4):dD l t=none:=by
 unfold dD
 by_cases ha:t.all aJ=true
 ·rw[if_pos ha]
  rcases h with h | h | h
  ·rw[ha]at h;cases h
  ·rw[h]
  ·cases cI l 5 (bL (fA t)) with
   | none=>rfl
   | some k =>
    show (match aO (fA t)with | 1=>_ | 2=>_ | 3=>_ | _=>none)=none
    rw[h]
    rfl
 ·rw[if_neg ha]
section
variable {T:bT} {w1 W W':World} {tv lv:Value} {l:List Rl} {lo hi:Nat} {t:List Tk} {off g rc:Nat} {ps:List Pc}
theorem IS (E:Env T w1 tv lv l lo hi t off g rc) (hW:Below w1.heap.size w1 W) (hK:KI w1.heap.size tv (jD l g rc) lv [] W) :
  Calls Tryz.prog 125 #[.pointer (some ⟨w1.heap.size,0,none⟩)] W fun e W'=>e=.returned (.bool (dD l t).isSome)∧KI w1.heap.size tv (jD l g rc) lv ((dD l t).getD []) W'∧rR w1.heap.size W W':=by
 have hfew:=E.qT
 obtain⟨L,hL⟩:∃ L,t.takeWhile aJ=L:=⟨_,rfl⟩
 have hLm:L.length≤t.length:=by rw[← hL];exact(List.takeWhile_prefix aJ).length_le
 have hcl:(fA L).length=L.length:=List.length_map ..
 have h256:∀ c ∈ fA L,c<256:=fun c hc=>by
  unfold fA at hc
  obtain⟨x,hx,rfl⟩:=List.mem_map.1 hc
  rw[← hL]at hx
  exact(E.IH x ((List.takeWhile_prefix aJ).subset hx)).2.1
 have hzs:(bytesOf (fA L)).size=L.length:=by rw[aF,hcl]
 obtain⟨k,hk⟩:∃ k,aG l 5 (bL (fA L))=k:=⟨_,rfl⟩
 obtain⟨ok,hok⟩:∃ o,(cI l 5 (bL (fA L))).isSome=o:=⟨_,rfl⟩
 obtain⟨cn,hcn⟩:∃ c,aO (fA L)=c:=⟨_,rfl⟩
 have HNO1:=hid (show ok=false→dD l t=none from fun h=>by
  by_cases ha:t.all aJ=true
  ·refine s5 (.inr (.inl ?_))
   have e:L=t:=by rw[← hL];exact uV ha
   rw[e,h]at hok
   cases hf:cI l 5 (bL (fA t)) with
   | none=>rfl
   | some k=>rw[hf]at hok;cases hok
  ·exact s5 (.inl (by simpa using ha)))
 have HNO2:=hid (show L.length<t.length→dD l t=none from fun h=>by
  refine s5 (.inl ?_)
  by_cases ha:t.all aJ=true
  ·have e:L=t:=by rw[← hL];exact uV ha
   rw[e]at h
   exact absurd h (Nat.lt_irrefl _)
  ·simpa using ha)
 have HNO3:=hid (show L.length=t.length→cn=4→dD l t=none from fun h h4=>by
  obtain⟨-,h2⟩:=uU (t:=t) (by rw[hL];exact h)
  refine s5 (.inr (.inr ?_))
  rw[← h2,hL,hcn,h4])
 have HYES:=hid (show ok=true→L.length=t.length→cn≠4→dD l t=some (k8 l cn 0++[⟨k,0,L.length⟩]) from fun h h1 h4=>by
  obtain⟨ha,h2⟩:=uU (t:=t) (by rw[hL];exact h1)
  rw[hL]at h2
  subst h2
  rw[← hok]at h
  obtain⟨k',hk'⟩:=Option.isSome_iff_exists.1 h
  have e:k'=k:=by
   rw[← hk]
   unfold aG
   rw[hk']
   rfl
  subst e
  rw[aA0 E.acc ha hk' (by rw[hcn];exact h4),hcn])
 have HLE:=hid (show Calls Tryz.prog 162 #[lv] W fun e w'=>e=.returned (.string (bytesOf (fA L)))∧Below W.heap.size W w' from by
  have hr:=((E.EI hW).mono hW.size)
  obtain⟨A,c,rfl,-⟩:=E.rS
  exact y9 t A off _ c rfl (by omega) (fun x hx=>(E.IH x hx).2.1) W (E.gR hW) hr L hL)
 have HLV:=hid (show ∃ A c,lv=.slice A t.length c from by obtain⟨A,c,h,-⟩:=E.rS;exact⟨A,c,h⟩)
 have HLW0:=hid (fun(V:World) (hV:Below w1.heap.size w1 V)=>PH (fA L) (by omega) h256 V (E.gR hV))
 have hlow256:=PD h256
 have HFD0:=hid (fun(V:World) (hV:Below w1.heap.size w1 V)=>E.find 5 (by unfold oI;decide) (bL (fA L)) (by rw[aT];omega) hlow256 hV)
 have HCA0:=hid (fun(V:World) (hV:Below w1.heap.size w1 V)=>IK (fA L) (by omega) h256 V (E.gR hV))
 have HTC:=hid (fun(V:World) (hV:Below w1.heap.size w1 V) (hKV:KI w1.heap.size tv (jD l g rc) lv [] V)=>show Calls Tryz.prog 165 #[.pointer (some ⟨w1.heap.size,0,none⟩),.string (bytesOf (fA L)),.int .i64 0] V fun e W'=>e=.returned (.tuple #[])∧KI w1.heap.size tv (jD l g rc) lv (k8 l cn 0) W'∧rR w1.heap.size V W' from by
  have h:=wL E hV hKV (Nat.zero_le _) (bytesOf (fA L)) (by omega) 0
  rw[aB _ h256,hcn,List.nil_append]at h
  exact h)
 have HPU:=hid (fun(V:World) (qs:List Pc) (hq:qs.length≤100000) (hKV:KI w1.heap.size tv (jD l g rc) lv qs V)=>show Calls Tryz.prog 166 #[.pointer (some ⟨w1.heap.size,0,none⟩),.int .i64 (k:Int),.int .i64 0,.int .i64 (L.length:Int)] V fun e W'=>e=.returned (.tuple #[])∧KI w1.heap.size tv (jD l g rc) lv (qs++[⟨k,0,L.length⟩]) W'∧rR w1.heap.size V W' from uT hKV hq k 0 L.length)
 rw[hk,hok]at HFD0
 rw[hcn]at HCA0
 have HKS:=hid (fun(V V':World) (hKV:KI w1.heap.size tv (jD l g rc) lv [] V) (hb:Below V.heap.size V V')=>hKV.step hb)
 have HCC:=hid (fun(V:World) (hKV:KI w1.heap.size tv (jD l g rc) lv [] V)=>hKV.cells)
 have HK0:=hid hK
 have HW0:=hid hW
 have hcp:(k8 l cn 0).length≤1:=by
  unfold k8
  split
  ·exact Nat.le_refl _
  ·split
   ·exact Nat.le_refl _
   ·exact Nat.zero_le _
 obtain⟨wp,hwp⟩:∃ p,dD l t=p:=⟨_,rfl⟩
 obtain⟨n,hn⟩:∃ n,L.length=n:=⟨_,rfl⟩
 obtain⟨m,hm⟩:∃ m,t.length=m:=⟨_,rfl⟩
 obtain⟨SX,hSX⟩:∃ S,bytesOf (fA L)=S:=⟨_,rfl⟩
 obtain⟨SL,hSL⟩:∃ S,bytesOf (bL (fA L))=S:=⟨_,rfl⟩
 obtain⟨rv,hrv⟩:∃ v,jD l g rc=v:=⟨_,rfl⟩
 obtain⟨b,hb⟩:∃ b,w1.heap.size=b:=⟨_,rfl⟩
 obtain⟨cs,hcs⟩:∃ p,k8 l cn 0=p:=⟨_,rfl⟩
 rw[hwp]at HNO1 HNO2 HNO3 HYES
 rw[hn]at HNO2 HNO3 HYES HPU hzs hLm
 rw[hm]at HNO2 HNO3 HYES HLV hfew hLm
 rw[hSX]at HLE HLW0 HCA0 HTC hzs
 rw[hSL]at HLW0 HFD0
 rw[hrv]at HTC HPU HKS HCC HK0 ⊢
 rw[hb]at HLW0 HFD0 HCA0 HTC HPU HKS HCC HK0 HW0 ⊢
 rw[hcs]at HYES HTC hcp
 rw[hwp]
 subst hzs
 clear E hW hK hL hcl h256 hk hok hcn hwp hn hm hSX hSL hrv hb hcs hlow256
 obtain⟨A,c,rfl⟩:=HLV.out
 have hc0:=HCC.out _ HK0.out
 obtain⟨c0,-,c2⟩:=hc0
 clear HLV
 go_enter Tryz.func125,Tryz.ntmps125
 go_wp2_with fail
 refine HLE.out.mono ?_
 rintro e w2 ⟨rfl,hb2⟩
 have HST2:=hid (HKS.out _ _ HK0.out hb2)
 have HW2:=hid (HW0.out.trans HST2.out.2.1)
 have HSS:=hid (show ∀ V:World,Below w2.heap.size w2 V→V.cell? ⟨b,0,none⟩=some tv∧Below w2.heap.size w2 V from fun V hV=>⟨(HCC.out _ (HKS.out _ _ HST2.out.1 hV).1).1,hV⟩)
 have HLW:=hid (fun(V:World) (hV:Below w2.heap.size w2 V)=>HLW0.out V (HW2.out.trans (HKS.out _ _ HST2.out.1 hV).2.1))
 have HFD:=hid (fun(V:World) (hV:Below w2.heap.size w2 V)=>HFD0.out V (HW2.out.trans (HKS.out _ _ HST2.out.1 hV).2.1))
 clear hb2 c0 c2 HLW0 HFD0 HLE HK0
 go_upto_region 2 with fail
 have hS:=(HSS.out _ (Below.refl _ _).drew)
 refine wp_region_held_drew (S:=(fun W:World=>W.cell? ⟨b,0,none⟩=some tv∧Below w2.heap.size w2 W)) (by kernel_rfl) hS (fun hHeld=>?_)
 refine tk 0 (v:=?_) ?_ ?_
 rotate_left
 ·rintro W ⟨x0,-⟩;go_simp;all_goals (with_reducible rfl)
 try simp only[zP,zA,zB,zC]
 refine tk 1 (v:=?_) ?_ ?_
 rotate_left
 ·rintro W ⟨x0,-⟩;go_simp;all_goals (with_reducible rfl)
 try simp only[zP,zA,zB,zC]
 refine tk 2 (v:=?_) ?_ ?_
 rotate_left
 ·rintro W ⟨x0,-⟩;go_simp;all_goals (with_reducible rfl)
 try simp only[zP,zA,zB,zC]
 refine tk 3 (v:=?_) ?_ ?_
 rotate_left
 ·rintro W ⟨x0,-⟩;go_simp;all_goals (with_reducible rfl)
 try simp only[zP,zA,zB,zC]
 refine tk 4 (v:=?_) ?_ ?_
 rotate_left
 ·rintro W ⟨x0,-⟩;go_simp;all_goals (with_reducible rfl)
 try simp only[zP,zA,zB,zC]
 refine Rg.take_one 5 (by simp only[List.getElem?_toArray,List.getElem?_cons_succ,List.getElem?_cons_zero];rfl) (by kernel_rfl) (fun K hK=>?_)
 go_simp
 go_at_call 164
 refine(HLW.out _ hS.2).mono ?_
 rintro e w4 ⟨rfl,hb4⟩
 have hS5:=HSS.out _ (chain hS.2 hS.2.size hb4)
 go_wp2_with fail
 refine hK.out _ _ hS5 (fun hHeld5=>?_)
 clear hK K
 try simp only[zP,zA,zB,zC]
 try simp only[zN]
 refine Rg.take_one 6 (by simp only[List.getElem?_toArray,List.getElem?_cons_succ,List.getElem?_cons_zero];rfl) (by kernel_rfl) (fun K hK=>?_)
 go_simp
 go_at_call 163
 refine(HFD.out _ hS5.2).mono ?_
 rintro e w5 ⟨rfl,hb5⟩
 have hS6:=HSS.out _ (chain hS5.2 hS5.2.size hb5)
 go_wp2_with fail
 refine hK.out _ _ hS6 (fun hHeld6=>?_)
 clear hK K
 try simp only[zP,zA,zB,zC]
 try simp only[zN]
 refine tk 7 (v:=?_) ?_ ?_
 rotate_left
 ·rintro W ⟨x0,-⟩;go_simp;all_goals (with_reducible rfl)
 try simp only[zP,zA,zB,zC]
 refine tk 8 (v:=?_) ?_ ?_
 rotate_left
 ·rintro W ⟨x0,-⟩;go_simp;all_goals (with_reducible rfl)
 try simp only[zP,zA,zB,zC]
 refine tk 9 (v:=?_) ?_ ?_
 rotate_left
 ·rintro W ⟨x0,-⟩;go_simp;all_goals (with_reducible rfl)
 try simp only[zP,zA,zB,zC]
 refine tk 10 (v:=?_) ?_ ?_
 rotate_left
 ·rintro W ⟨x0,-⟩;go_simp;all_goals (with_reducible rfl)
 try simp only[zP,zA,zB,zC]
 refine tk 11 (v:=?_) ?_ ?_
 rotate_left
 ·rintro W ⟨x0,-⟩;go_simp;all_goals (with_reducible rfl)
 try simp only[zP,zA,zB,zC]
 refine wpAnyH_done (by kernel_rfl) ?_ _
 have HB6:=hid hS6.2
 clear hS hS5 hS6
 have HST6:=hid (HKS.out _ _ HST2.out.1 HB6.out)
 have HS6:=hid (HST2.out.2.trans HST6.out.2)
 have HW6:=hid (HW2.out.trans HST6.out.2.1)
 have HC6:=hid (HCA0.out _ HW6.out)
 obtain⟨c0,-,c2⟩:=HCC.out _ HST6.out.1
 clear HST2 HB6 HSS HLW HFD HW2 HCA0
 cases ok
 ·have HV:=hid (HNO1.out rfl)
  go_wp2
  go_ret
  rw[HV.out]
  exact⟨rfl,HST6.out.1,HS6.out⟩
 by_cases h1:SX.size<m
 ·have HV:=hid (HNO2.out h1)
  have t1:decide ((SX.size:Int)<(m:Int))=true:=decide_eq_true (by omega)
  have t2:decide (SX.size<m)=true:=decide_eq_true h1
  go_wp2
  go_ret
  rw[HV.out]
  exact⟨rfl,HST6.out.1,HS6.out⟩
 have h2:SX.size=m:=by omega
 have HYE:=hid (HYES.out rfl h2)
 have HNE:=hid (HNO3.out h2)
 have t1:decide ((SX.size:Int)<(m:Int))=false:=decide_eq_false (by omega)
 have t2:decide (SX.size<m)=false:=decide_eq_false h1
 have t3:m≤SX.size:=by omega
 clear h1 h2 HYES HNO1 HNO2 HNO3
 go_wp2_with fail
 refine HC6.out.mono ?_
 rintro e w7 ⟨rfl,hb7⟩
 have HST7:=hid (HKS.out _ _ HST6.out.1 hb7)
 have HS7:=hid (HS6.out.trans HST7.out.2)
 have HW7:=hid (HW6.out.trans HST7.out.2.1)
 clear hb7 HST6 HS6 HW6 HC6 c0 c2
 by_cases h4:cn=4
 ·have HV:=hid (HNE.out h4)
  subst h4
  go_wp2
  go_ret
  rw[HV.out]
  exact⟨rfl,HST7.out.1,HS7.out⟩
 ·have HV:=hid (HYE.out h4)
  have t4:((cn:Int)==4)=false:=beq_eq_false_iff_ne.2 (by omega)
  clear h4 HYE HNE
  go_wp2_with fail
  refine(HTC.out _ HW7.out HST7.out.1).mono ?_
  rintro e w8 ⟨rfl,hk8,hs8⟩
  have HK8:=hid hk8
  have HS8:=hid (HS7.out.trans hs8)
  clear hk8 hs8
  go_wp2_with fail
  refine(HPU.out _ cs (by omega) HK8.out).mono ?_
  rintro e w9 ⟨rfl,hk9,hs9⟩
  have HK9:=hid hk9
  have HS9:=hid (HS8.out.trans hs9)
  clear hk9 hs9
  go_wp2
  go_ret
  rw[HV.out]
  exact⟨rfl,HK9.out,HS9.out⟩
end
theorem V6:Go.Proofs.Lays.n166 Tryz.prog Tryz.lays156_ren :=
 let L:=Tryz.lays156
 { mixed:=L.mixed,f166:=L.f166,f240:=L.f240,f276:=L.f276,t0:=L.t0,a0:=L.a0,z0:=L.z0,v0:=L.v0,t3:=L.t3,a3:=L.a3,z3:=L.z3,v3:=L.v3,t4:=L.t4,a4:=L.a4,z4:=L.z4,v4:=L.v4,t9:=L.t9,a9:=L.a9,z9:=L.z9,v9:=L.v9,t20:=L.t20,a20:=L.a20,z20:=L.z20,v20:=L.v20,t37:=L.t37,a37:=L.a37,z37:=L.z37,v37:=L.v37,t70:=L.t70,a70:=L.a70,z70:=L.z70,v70:=L.v70,t72:=L.t72,a72:=L.a72,z72:=L.z72,v72:=L.v72,t75:=L.t75,a75:=L.a75,z75:=L.z75,v75:=L.v75,t164:=L.t164,a164:=L.a164,z164:=L.z164,v164:=L.v164 }
abbrev BI (B b:Nat) (S:ByteArray) (w:World):Prop:=Lib.IsBuilder 218 5 B b (Lib.strCells S) w
theorem PI {B b:Nat} {p:Value} {bs:List Value} {w w':World} (h:Lib.BuilderAt 218 5 B b p bs w) (hb:Below w.heap.size w w'):Lib.BuilderAt 218 5 B b p bs w':=by
 obtain⟨h1,v,h2,h3,h4⟩:=h
 exact⟨h1,v,(hb.block b (Array.getElem?_eq_some_iff.1 h2).1).trans h2,a6 h3 hb,h4⟩
theorem BI.below {B b:Nat} {S:ByteArray} {w w':World} (h:BI B b S w) (hb:Below w.heap.size w w'):BI B b S w':=by
 rcases h with h | h
 ·exact .inl (PI h hb)
 ·exact .inr (PI h hb)
theorem R6 (B b:Nat) (S s:ByteArray) (w:World) (h:BI B b S w) (hS:S.size≤1000000000) (hs:s.size≤1000000) (hB:B≤w.heap.size) :
  Calls Tryz.prog 188 #[.pointer (some ⟨b,0,none⟩),.string s] w fun e w'=>e=.returned (.tuple #[.int .i64 ((s.size:Nat):Int),.nilIface])∧BI B b (S++s) w'∧Below B w w':=by
 refine(Go.Proofs.Any.Builder_WriteString V6 Tryz.Builder_Extra_156 B b (Lib.strCells S) s w h (by rw[Lib.strCells_length];omega) hB).mono ?_
 rintro e w' ⟨rfl,h1,h2⟩
 refine⟨rfl,.inr ?_,h2⟩
 have:Lib.strCells (S++s)=Lib.strCells S++Lib.strCells s:=by
  unfold Lib.strCells
  rw[ByteArray.data_append,Array.toList_append,List.map_append]
 rw[this];exact h1
theorem MP (B b:Nat) (S:ByteArray) (w:World) (h:BI B b S w) (hB:B≤w.heap.size) :
  Calls Tryz.prog 189 #[.pointer (some ⟨b,0,none⟩)] w fun e w'=>e=.returned (.string S)∧Below B w w':=by
 refine(Tryz.Builder_String_any B b S.data.toList w h hB).mono ?_
 rintro e w' ⟨rfl,h2⟩
 exact⟨rfl,h2⟩
theorem BI.new (w:World):BI w.heap.size w.heap.size { data:=#[] } (w.alloc (.cells #[.pointer none,.slice none 0 0] 218)) :=
 .inl ⟨Nat.le_refl _,.slice none 0 0,World.alloc_heap_new w _,World.ownsRow_nil _ _ _ _,by simp[Value.ownBlock]⟩
theorem R7 (l:List Rl) (g rc:Nat) (_hl:l.length≤1000) (h9:∀ x ∈ l,x.cells.length≤9000) (v:Value) (ks:List Pq) (off:Nat) (hk:ks.length≤5000) (hval:∀ x ∈ ks,0≤x.rule∧x.rule<l.length) (w:World) (hg:g<w.heap.size) (hr:∀ k x,l[k]?=some x→bZ w g (0+k * 5) x.aE (bytesOf x.left) (bytesOf x.cells) x.prio x.line) (hv:VN off w w.heap.size v ks) :
  Calls Tryz.prog 214 #[.slice (some ⟨g,0,none⟩) l.length rc,v] w fun e w'=>e=.returned (.string (bytesOf (qS l ks)))∧Below w.heap.size w w':=by
 obtain⟨A,c,rfl,hA⟩:=hv
 have HA:=hid hA
 have HV:=hid hval
 have HR:=hid (fun(V:World) (hV:Below w.heap.size w V) (k:Nat) (x:Rl) (hx:l[k]?=some x)=>(hr k x hx).below hV hg)
 have H9:=hid h9
 have HLEN:=hid (fun(k:Nat)=>show (qS l (ks.take k)).length≤45000000 from by
  have h1:=yU h9 (ks.take k)
  have h2:(ks.take k).length≤5000:=by rw[List.length_take];omega
  have h3:(ks.take k).length * 9000≤5000 * 9000:=Nat.mul_le_mul_right _ h2
  omega)
 obtain⟨n,hn⟩:∃ n,ks.length=n:=⟨_,rfl⟩
 obtain⟨nl,hnl⟩:∃ n,l.length=n:=⟨_,rfl⟩
 rw[hn]at HA hk ⊢
 rw[hnl]at HV ⊢
 have HN:=hid hn
 have HNL:=hid hnl
 have HB0:=hid ((Below.refl w.heap.size w).alloc (Nat.le_refl _) (.cells #[.pointer none,.slice none 0 0] 218))
 have HD0:=hid (BI.new w)
 have HALL:=hid (show ks.take n=ks from List.take_of_length_le (by omega))
 clear hA hval hr h9 hn hnl
 go_enter Tryz.func214,Tryz.ntmps214
 go_wp2
 generalize w.alloc (.cells #[.pointer none,.slice none 0 0] 218)=w0 at HB0 HD0 ⊢
 go_loopw [10] (fun i wr=>∃ k:Nat,i=.int .i64 (k:Int)∧k≤n∧BI w.heap.size w.heap.size (bytesOf (qS l (ks.take k))) wr∧Below w.heap.size w wr) (fun i _=>n - (intOf i).toNat)
 case atStart=>exact⟨0,rfl,Nat.zero_le _,HD0.out,HB0.out⟩
 case round =>
  obtain⟨k,rfl,hkn,hd,hB⟩:=hrel
  have HD:=hid hd
  have HB:=hid hB
  have hsz:=hB.size
  have k0:(0:Int)≤(k:Int):=by omega
  clear hd
  by_cases hlt:k<n
  ·obtain⟨g1,rfl,hg1,hc1⟩:=HA.out (by omega)
   obtain⟨p,hp⟩:∃ p,ks[k]?=some p:=⟨_,List.getElem?_eq_getElem (by rw[HN.out];exact hlt)⟩
   obtain⟨q0,q1,q2⟩:=aC2 hc1 k p hp
   have q0:=(hB.cell (p:=⟨g1,off+k * 3,none⟩) hg1).trans q0
   have q1:=(hB.cell (p:=⟨g1,off+k * 3+1,none⟩) hg1).trans q1
   have q2:=(hB.cell (p:=⟨g1,off+k * 3+2,none⟩) hg1).trans q2
   obtain⟨pv0,pv1⟩:=HV.out p (List.mem_of_getElem? hp)
   obtain⟨r,hr⟩:∃ r:Nat,p.rule=(r:Int):=⟨p.rule.toNat,by omega⟩
   obtain⟨x,hx⟩:∃ x,l[r]?=some x:=⟨_,List.getElem?_eq_getElem (by rw[HNL.out];omega)⟩
   have hx9:=H9.out x (List.mem_of_getElem? hx)
   have HRX:=hid (fun(V:World) (hV:Below w.heap.size w V)=>show V.cell? ⟨g,r * 5+2,none⟩=some (.string (bytesOf x.cells)) from by
    have:=(HR.out V hV r x hx).c2
    rw[Nat.zero_add]at this
    exact this)
   have HNX:=hid (show bytesOf (qS l (ks.take (k+1)))=bytesOf (qS l (ks.take k))++bytesOf x.cells from by
    rw[List.take_add_one,hp,Option.toList_some,RB (y:=x) (by rw[hr,Int.toNat_natCast];exact hx),jN])
   have hcur:(bytesOf (qS l (ks.take k))).size≤45000000:=by rw[aF];exact HLEN.out k
   have hxs:(bytesOf x.cells).size≤9000:=by rw[aF];exact hx9
   obtain⟨U,hU⟩:∃ U,bytesOf (qS l (ks.take k))=U:=⟨_,rfl⟩
   obtain⟨X,hX⟩:∃ U,bytesOf x.cells=U:=⟨_,rfl⟩
   rw[hU]at HNX hcur HD
   rw[hX]at HNX hxs HRX
   obtain⟨pr,pf,pn⟩:=p
   simp only[]at q0 q1 q2 hr
   subst hr
   have k1:(k:Int)<(n:Int):=by omega
   have r0:(0:Int)≤(r:Int):=by omega
   have r1:(r:Int)<(nl:Int):=by simp only[]at pv1;omega
   clear hp hx hx9 hU hX hc1 hg1 pv0 pv1 hB
   go_upto_region 5 with fail
   have hb1:=(Below.refl wr.heap.size wr).alloc (Nat.le_refl _) (.cells #[.int .i64 (r:Int),.int .i64 pf,.int .i64 pn] 77)
   have z0:(wr.alloc (.cells #[.int .i64 (r:Int),.int .i64 pf,.int .i64 pn] 77)).cell? ⟨wr.heap.size,0,none⟩=some (.int .i64 (r:Int)):=by rw[World.cell?_alloc_at _ _ _ _ (by simp)];rfl
   clear q0 q1 q2
   generalize wr.alloc _=w1 at hb1 z0 ⊢
   have HB1:=hid (chain HB.out hsz hb1)
   have HWR:=hid (R6 w.heap.size w.heap.size U X w1 (HD.out.below hb1) (by omega) (by omega) (Nat.le_trans hsz hb1.size))
   have y2:=HRX.out w1 HB1.out
   clear hb1 HD
   go_wp2_with fail
   refine HWR.out.mono ?_
   rintro e w2 ⟨rfl,hd2,hb2⟩
   have HD2:=hid hd2
   have HB2:=hid (HB1.out.trans hb2)
   clear hd2 hb2 y2 z0
   go_wp2
   go_roundw
   case rel=>exact⟨k+1,by go_num,by omega,by rw[HNX.out];exact HD2.out,HB2.out⟩
   case measure=>simp[intOf];omega
  ·obtain rfl:k=n:=by omega
   rw[HALL.out]at HD
   obtain⟨U,hU⟩:∃ U,bytesOf (qS l ks)=U:=⟨_,rfl⟩
   rw[hU]at HD
   have HU:=hid hU
   have HST:=hid (MP w.heap.size w.heap.size U wr HD.out hsz)
   have t1:decide ((k:Int)<(k:Int))=false:=decide_eq_false (by omega)
   clear hB hU
   go_wp2_with fail
   refine HST.out.mono ?_
   rintro e w2 ⟨rfl,hb2⟩
   have HB2:=hid (HB.out.trans hb2)
   clear hb2
   go_wp2
   go_ret
   rw[HU.out]
   exact⟨rfl,HB2.out⟩
theorem zD {l:List Rl} {ps:List Pc} (h:Valid l ps):qS l (ps.map Pc.q)=cC l ps:=by
 unfold cC
 rw[if_pos (by rw[List.all_eq_true];exact fun x hx=>decide_eq_true (h x hx))]
 unfold qS
 rw[List.flatMap_map]
 rfl
def gU (l:List Rl) (c:List Nat):List Nat :=
 if (fN l eW).isPrefixOf c=true then c.drop (fN l eW).length else if (fN l cV).isPrefixOf c=true then c.drop (fN l cV).length else c
theorem MQ (l:List Rl) (c:List Nat):jU l c=(cZ l (gU l c)).isSome:=rfl
theorem aA1 (S p:ByteArray):(⟨(Lib.trimPrefix S.data.toList p.data.toList).toArray⟩:ByteArray)=bytesOf (if (aA p).isPrefixOf (aA S)=true then (aA S).drop (aA p).length else aA S):=by
 unfold Lib.trimPrefix
 rw[pZ,aD]
 have hp:p.data.toList.length=p.size:=by rw[Array.length_toList];rfl
 rw[hp]
 split
 ·unfold bytesOf aA
  congr 2
  rw[List.map_drop,List.map_map]
  congr 1
  rw[List.map_congr_left (g:=id) (fun b _=>by simp),List.map_id]
 ·rw[aP]
theorem CJ (l:List Rl) (c:List Nat):(gU l c).length≤c.length:=by
 unfold gU
 split
 ·rw[List.length_drop];omega
 ·split
  ·rw[List.length_drop];omega
  ·exact Nat.le_refl _
theorem R8 (l:List Rl):gU l []=[]:=by
 have:=CJ l []
 exact List.length_eq_zero_iff.1 (by simpa using this)
section
variable {T:bT} {w1 W W':World} {tv lv:Value} {l:List Rl} {lo hi:Nat} {t:List Tk} {off g rc:Nat} {ps:List Pc}
theorem Env.sign (E:Env T w1 tv lv l lo hi t off g rc) (s:List Nat) (hs:s.length≤9000) (h256:∀ c ∈ s,c<256) (hW:Below w1.heap.size w1 W) :
  Calls Tryz.prog 216 #[tv,.string (bytesOf s)] W fun e w'=>e=.returned (.string (bytesOf (fN l s)))∧Below W.heap.size W w':=by
 have h:=T.sign (t:=tv) (bytesOf s) (by rw[aF];exact hs) E.LS E.acc E.fit W (E.gR hW) (E.II hW)
 rw[aB _ h256]at h
 exact h
theorem EJ (c p:List Nat) (hc:∀ z ∈ c,z<256) (hp:∀ z ∈ p,z<256) (b:Bool) (hb:p.isPrefixOf c=b) (W:World) :
  Calls Tryz.prog 215 #[.string (bytesOf c),.string (bytesOf p)] W fun e w'=>e=.returned (.tuple #[.string (bytesOf (if b=true then c.drop p.length else c)),.bool b])∧w'=W:=by
 have h:=Tryz.strings_CutPrefix (bytesOf c) (bytesOf p) W
 rw[aA1,pZ,aB _ hc,aB _ hp,hb]at h
 exact h
theorem aA2 (W:World):(Instr.index 236 (.agg #[.string { data:=#[99,97,112] },.string { data:=#[99,97,112,115] }]) (.int .i64 0)).run Tryz.prog W=.ok (.string { data:=#[99,97,112] }) W:=by kernel_rfl
theorem aA3 (W:World):(Instr.index 236 (.agg #[.string { data:=#[99,97,112] },.string { data:=#[99,97,112,115] }]) (.int .i64 1)).run Tryz.prog W=.ok (.string { data:=#[99,97,112,115] }) W:=by kernel_rfl
theorem MR (E:Env T w1 tv lv l lo hi t off g rc) (hW:Below w1.heap.size w1 W) (hK:KI w1.heap.size tv (jD l g rc) lv ps W) (hps:ps.length≤4500) (hval:Valid l ps) (C:List Nat) (hC:cC l ps=C) :
  Calls Tryz.prog 170 #[.pointer (some ⟨w1.heap.size,0,none⟩)] W fun e W'=>e=.returned (.string (bytesOf (gU l C)))∧Below W.heap.size W W':=by
 have hK0:=hK
 obtain⟨pv,hKV⟩:=hK
 have hl9:∀ x ∈ l,x.cells.length≤9000:=fun x hx=>(E.fit x hx).2.2
 have hfr:∀ x ∈ l,eN x:=fun x hx=>(E.fit x hx).1
 have hC256:∀ z ∈ C,z<256:=fun z hz=>by
  rw[← hC,jL hval]at hz
  unfold bV at hz
  obtain⟨x,hx,hzx⟩:=List.mem_flatMap.1 hz
  exact(hfr x (eA x hx)).2.2.2.2.1 z hzx
 have HCE:=hid (fun(V:World) (hV:Below W.heap.size W V)=>show Calls Tryz.prog 214 #[jD l g rc,pv] V fun e w'=>e=.returned (.string (bytesOf C))∧Below V.heap.size V w' from by
  have hWV:=hW.trans (hV.mono hW.size)
  have hq:=(yT rfl hKV.2).below hV
  have h:=R7 l g rc E.LS hl9 pv (ps.map Pc.q) 0 (by rw[List.length_map];omega) (fun x hx=>by
   obtain⟨y,hy,rfl⟩:=List.mem_map.1 hx
   have:=hval y hy
   exact⟨Int.natCast_nonneg _,by show ((y.rule:Nat):Int)<_;omega⟩) V (Nat.lt_of_lt_of_le E.glt hWV.size) (fun k x hx=>E.aC3 hWV hx) (hq.mono hV.size)
  rw[zD hval,hC]at h
  exact h)
 have HSS:=hid (show ∀ V:World,Below W.heap.size W V→V.cell? ⟨w1.heap.size,1,none⟩=some (jD l g rc)∧V.cell? ⟨w1.heap.size,3,none⟩=some pv∧Below W.heap.size W V from fun V hV=>⟨(hKV.below hV).cells.2.1,(hKV.below hV).cells.2.2.2,hV⟩)
 have HC0:=hid (fun(V:World) (hV:Below W.heap.size W V)=>(hKV.below hV).cells.1)
 have HSG:=hid (fun(s:List Nat) (hs:s.length≤9000) (h256:∀ c ∈ s,c<256) (V:World) (hV:Below W.heap.size W V)=>E.sign s hs h256 (hW.trans (hV.mono hW.size)))
 have hcap:=PA hfr eW
 have hcaps:=PA hfr cV
 obtain⟨D,hD⟩:∃ D,gU l C=D:=⟨_,rfl⟩
 obtain⟨b1,hb1⟩:∃ b,(fN l eW).isPrefixOf C=b:=⟨_,rfl⟩
 obtain⟨b2,hb2⟩:∃ b,(fN l cV).isPrefixOf C=b:=⟨_,rfl⟩
 have HCU1:=hid (fun(V:World)=>EJ C (fN l eW) hC256 hcap b1 hb1 V)
 have HCU2:=hid (fun(V:World)=>EJ C (fN l cV) hC256 hcaps b2 hb2 V)
 have HD1:=hid (show b1=true→C.drop (fN l eW).length=D from fun h=>by rw[← hD];unfold gU;rw[hb1,if_pos h])
 have HD2:=hid (show b1=false→b2=true→C.drop (fN l cV).length=D from fun h h2=>by rw[← hD];unfold gU;rw[hb1,hb2,if_neg (by rw[h];decide),if_pos h2])
 have HD3:=hid (show b1=false→b2=false→C=D from fun h h2=>by rw[← hD];unfold gU;rw[hb1,hb2,if_neg (by rw[h];decide),if_neg (by rw[h2];decide)])
 have HS1:=hid (fun(V:World) (hV:Below W.heap.size W V)=>HSG.out eW (by decide) (by decide) V hV)
 have HS2:=hid (fun(V:World) (hV:Below W.heap.size W V)=>HSG.out cV (by decide) (by decide) V hV)
 rw[show bytesOf eW={ data:=#[99,97,112] } from rfl]at HS1
 rw[show bytesOf cV={ data:=#[99,97,112,115] } from rfl]at HS2
 obtain⟨SC,hSC⟩:∃ S,bytesOf C=S:=⟨_,rfl⟩
 obtain⟨SD,hSD⟩:∃ S,bytesOf D=S:=⟨_,rfl⟩
 obtain⟨X1,hX1⟩:∃ S,bytesOf (fN l eW)=S:=⟨_,rfl⟩
 obtain⟨X2,hX2⟩:∃ S,bytesOf (fN l cV)=S:=⟨_,rfl⟩
 obtain⟨rv,hrv⟩:∃ v,jD l g rc=v:=⟨_,rfl⟩
 obtain⟨b,hb⟩:∃ b,w1.heap.size=b:=⟨_,rfl⟩
 rw[hSC]at HCE HCU1 HCU2
 rw[hX1]at HCU1 HS1
 rw[hX2]at HCU2 HS2
 rw[hrv]at HCE HSS
 rw[hb]at HSS HC0 ⊢
 have HSC:=hid hSC
 have HSD:=hid hSD
 rw[hD,hSD]
 clear E hW hK0 hKV hval hC hl9 hfr hC256 hcap hcaps hD hb1 hb2 hSC hSD hX1 hX2 hrv hb HSG
 go_enter Tryz.func170,Tryz.ntmps170
 go_upto_region 1 with fail
 have hS:=(HSS.out _ (Below.refl _ _).drew)
 refine wp_region_held_drew (S:=(fun V:World=>V.cell? ⟨b,1,none⟩=some rv∧V.cell? ⟨b,3,none⟩=some pv∧Below W.heap.size W V)) (by kernel_rfl) hS (fun hHeld=>?_)
 refine tk 0 (v:=?_) ?_ ?_
 rotate_left
 ·rintro W ⟨x1,x3,-⟩;go_simp;all_goals (with_reducible rfl)
 try simp only[zP,zA,zB,zC]
 refine tk 1 (v:=?_) ?_ ?_
 rotate_left
 ·rintro W ⟨x1,x3,-⟩;go_simp;all_goals (with_reducible rfl)
 try simp only[zP,zA,zB,zC]
 refine tk 2 (v:=?_) ?_ ?_
 rotate_left
 ·rintro W ⟨x1,x3,-⟩;go_simp;all_goals (with_reducible rfl)
 try simp only[zP,zA,zB,zC]
 refine tk 3 (v:=?_) ?_ ?_
 rotate_left
 ·rintro W ⟨x1,x3,-⟩;go_simp;all_goals (with_reducible rfl)
 try simp only[zP,zA,zB,zC]
 refine tk 4 (v:=?_) ?_ ?_
 rotate_left
 ·rintro W ⟨x1,x3,-⟩;go_simp;all_goals (with_reducible rfl)
 try simp only[zP,zA,zB,zC]
 refine tk 5 (v:=?_) ?_ ?_
 rotate_left
 ·rintro W ⟨x1,x3,-⟩;go_simp;all_goals (with_reducible rfl)
 try simp only[zP,zA,zB,zC]
 refine tk 6 (v:=?_) ?_ ?_
 rotate_left
 ·rintro W ⟨x1,x3,-⟩;go_simp;all_goals (with_reducible rfl)
 try simp only[zP,zA,zB,zC]
 refine tk 7 (v:=?_) ?_ ?_
 rotate_left
 ·rintro W ⟨x1,x3,-⟩;go_simp;all_goals (with_reducible rfl)
 try simp only[zP,zA,zB,zC]
 refine Rg.take_one 8 (by simp only[List.getElem?_toArray,List.getElem?_cons_succ,List.getElem?_cons_zero];rfl) (by kernel_rfl) (fun K hK=>?_)
 go_simp
 go_at_call 214
 refine(HCE.out _ hS.2.2).mono ?_
 rintro e w4 ⟨rfl,hb4⟩
 have hS8:=HSS.out _ (chain hS.2.2 hS.2.2.size hb4)
 go_wp2_with fail
 refine hK.out _ _ hS8 (fun hHeld8=>?_)
 clear hK K
 try simp only[zP,zA,zB,zC]
 try simp only[zN]
 refine tk 9 (v:=?_) ?_ ?_
 rotate_left
 ·rintro W ⟨x1,x3,-⟩;go_simp;all_goals (with_reducible rfl)
 try simp only[zP,zA,zB,zC]
 refine wpAnyH_done (by kernel_rfl) ?_ _
 have HB4:=hid hS8.2.2
 clear hS hS8
 clear HCE HSS
 go_wp2
 go_loopw [18] (fun i wr=>∃ k:Nat,i=.int .i64 (k:Int)∧k≤2∧(1≤k→b1=false)∧(2≤k→b2=false)∧Below W.heap.size W wr) (fun i _=>2 - (intOf i).toNat)
 case atStart=>exact⟨0,rfl,Nat.zero_le _,fun h=>by omega,fun h=>by omega,HB4.out⟩
 case round =>
  obtain⟨k,rfl,hk,h1,h2,hB⟩:=hrel
  have HB:=hid hB
  have c0:=HC0.out wr hB
  have HS1W:=hid (HS1.out wr hB)
  have HS2W:=hid (HS2.out wr hB)
  clear hB HB4 HS1 HS2
  obtain rfl | rfl | rfl:k=0∨k=1∨k=2:=by omega
  ·clear h1 h2
   have hix:=aA2 wr
   go_wp2_with fail
   refine HS1W.out.mono ?_
   rintro e w5 ⟨rfl,hb5⟩
   have HB5:=hid (chain HB.out HB.out.size hb5)
   clear hb5
   go_wp2_with fail
   refine(HCU1.out _).mono ?_
   rintro e w6 ⟨rfl,rfl⟩
   cases b1
   ·go_wp2
    go_roundw
    case rel=>exact⟨1,rfl,by decide,fun _=>trivial,fun h=>by omega,HB5.out⟩
    case measure=>simp[intOf]
   ·have HE:=hid (HD1.out rfl)
    go_wp2
    go_ret
    rw[← HSD.out,← HE.out]
    exact⟨rfl,HB5.out⟩
  ·have HF:=hid (h1 (Nat.le_refl _))
   clear h1 h2
   have hix:=aA3 wr
   go_wp2_with fail
   refine HS2W.out.mono ?_
   rintro e w5 ⟨rfl,hb5⟩
   have HB5:=hid (chain HB.out HB.out.size hb5)
   clear hb5
   go_wp2_with fail
   refine(HCU2.out _).mono ?_
   rintro e w6 ⟨rfl,rfl⟩
   cases b2
   ·go_wp2
    go_roundw
    case rel=>exact⟨2,rfl,by decide,fun _=>HF.out,fun _=>trivial,HB5.out⟩
    case measure=>simp[intOf]
   ·have HE:=hid (HD2.out HF.out rfl)
    go_wp2
    go_ret
    rw[← HSD.out,← HE.out]
    exact⟨rfl,HB5.out⟩
  ·have HE:=hid (HD3.out (h1 (by decide)) (h2 (by decide)))
   clear h1 h2
   go_wp2
   go_ret
   rw[← HSD.out,← HE.out,HSC.out]
   exact⟨rfl,HB.out⟩
end
end Go.Proofs.YthbigkoihpgcfaaGreatDoor.Cu
