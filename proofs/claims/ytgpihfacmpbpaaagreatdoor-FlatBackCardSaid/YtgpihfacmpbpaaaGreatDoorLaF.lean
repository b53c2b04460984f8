/-
  lex.Of: what a source is read as, or its first fault.
-/
import Derived.Test.YtgpihfacmpbpaaaGreatDoorLaE
import Derived.Test.YtgpihfacmpbpaaaGreatDoorVg
namespace Go.Proofs.YtgpihfacmpbpaaaGreatDoor.Lx
open Go.RowKit Go.Shelf
attribute [local go_sem] Oper.semAt_some
theorem MN (n R:Nat) (hR0:0<R) (s:ByteArray) (hs:s.size≤70000) (w:World) (hRS:RS R s 0 w) :
  Ra.DS Tryz.prog n 62 #[.pointer (some ⟨R,0,none⟩)] #[] (fun a=>a=⟨R,1,none⟩∨a=⟨R,2,none⟩) ZY (rX R) (iG s 0).1 (RE R s) w:=fun l J Jx W hW hJo hJb hY h0 =>
 ZZ n l R hR0 s hs J Jx hJo hJb hY W (hRS.below hW) h0
def OI (w:World) (pre:List Lx) (W:World):Prop :=
 (∃ v,W.cell? ⟨w.heap.size,0,none⟩=some v∧W.frozen? ⟨w.heap.size,0,none⟩=false∧W.ownsRow (w.heap.size+1) 71 4 v pre.length (pQ pre))∧Below w.heap.size w W∧w.heap.size<W.heap.size
theorem OI.n7 {w:World} {pre:List Lx} {W W':World} {row:Option Nat} (h:OI w pre W) (hg:W.grownBy W' row) (hr:∀ r,row=some r→w.heap.size+1≤r∧∃ o:Obj,W.heap[r]?=some o∧o.isCells=false):OI w pre W':=by
 obtain⟨⟨v,h1,h2,h3⟩,h4,h5⟩:=h
 have hb:=hg.block w.heap.size h5 (fun e=>by have:=(hr _ e.symm).1;omega)
 refine⟨⟨v,(World.cell?_of_block (w:=W) hb).trans h1,(World.frozen?_of_block (w:=W) hb).trans h2,h3.kept hg ?_⟩,h4.grown hg h4.size (fun j ej=>by have:=(hr _ ej).1;omega),Nat.lt_of_lt_of_le h5 hg.size⟩
 rcases h3.2 with⟨rfl,_⟩ | ⟨g,cap,cur,rfl,_,hgb,_⟩
 ·exact .inl rfl
 ·refine .inr fun e'=>?_
  obtain⟨_,o,ho,hc⟩:=hr g e'.symm
  rw[hgb]at ho;cases ho;cases hc
theorem OI.below {w:World} {pre:List Lx} {W W':World} (h:OI w pre W) (hb:Below W.heap.size W W'):OI w pre W':=by
 obtain⟨⟨v,h1,h2,h3⟩,h4,h5⟩:=h
 exact⟨⟨v,(hb.cell (p:=⟨w.heap.size,0,none⟩) h5).trans h1,(hb.frozen (p:=⟨w.heap.size,0,none⟩) h5).trans h2,cV h3 hb⟩,h4.trans (hb.mono h4.size),Nat.lt_of_lt_of_le h5 hb.size⟩
theorem OI.own {w:World} {pre:List Lx} {W:World} (h:OI w pre W) (i:Nat) (hi:1≤i) (x:Value):OI w pre (W.setCell ⟨w.heap.size,i,none⟩ x):=by
 obtain⟨⟨v,h1,h2,h3⟩,h4,h5⟩:=h
 have hne:(⟨w.heap.size,i,none⟩:Addr)≠⟨w.heap.size,0,none⟩:=fun e=>by injection e with _ e _;omega
 exact⟨⟨v,(World.cell?_setCell_other _ _ _ _ hne).trans h1,by rw[World.frozen?_setCell];exact h2,ownsRow_setCell_below h3 (show w.heap.size<w.heap.size+1 by omega) _⟩,h4.setCell (p:=⟨w.heap.size,i,none⟩) (Nat.le_refl _) _,Nat.lt_of_lt_of_le h5 (KeepsOthers.setCell W _ x).size⟩
theorem OI.step {w:World} {pre:List Lx} {x:Lx} {k:Nat} {W w1:World} {v v':Value} {tmp:Obj} (h:OI w pre W) (hw:0<w.heap.size) (hv:W.cell? ⟨w.heap.size,0,none⟩=some v) (hf:W.frozen? ⟨w.heap.size,0,none⟩=false)
  (hrow:W.ownsRow (w.heap.size+1) 71 4 v k (pQ pre)) (hk:pre.length=k) (hown':w1.ownsRow (w.heap.size+1) 71 4 v' (k+1) (pQ pre++dJ x)) (hgrow:(W.alloc tmp).grownBy w1 v.ownBlock) :
  w1.cell? ⟨w.heap.size,0,none⟩=some v∧w1.frozen? ⟨w.heap.size,0,none⟩=false∧∀ B,KeepsFrom B W (w1.setCell ⟨w.heap.size,0,none⟩ v')∧rX w.heap.size W (w1.setCell ⟨w.heap.size,0,none⟩ v')∧OI w (pre++[x]) (w1.setCell ⟨w.heap.size,0,none⟩ v'):=by
 obtain⟨_,h4,h5⟩:=h
 have hblk:w1.heap[w.heap.size]?=W.heap[w.heap.size]?:=(hgrow.block _ (by simp;omega) (fun e=>by have:=(hrow.lt _ e.symm).1;omega)).trans (Below.heap_alloc _ _ _ (by omega))
 have c1:w1.cell? ⟨w.heap.size,0,none⟩=some v:=(World.cell?_of_block (w:=W) hblk).trans hv
 have hbW0:Below w.heap.size W w1:=((Below.refl _ W).alloc (by omega) _).grown hgrow (by simp;omega) (fun j ej=>by have:=(hrow.lt j ej).1;omega)
 have hbW:Below w.heap.size W (w1.setCell ⟨w.heap.size,0,none⟩ v'):=hbW0.setCell (p:=⟨w.heap.size,0,none⟩) (Nat.le_refl _) _
 refine⟨c1,(World.frozen?_of_block (w:=W) hblk).trans hf,fun B=>⟨?_,⟨fun i hi=>?_,fun i=>?_,fun hL=>hL.below hbW hw,hbW.size⟩,⟨v',World.cell?_setCell_same' _ _ _ (by rw[c1];rfl),by rw[World.frozen?_setCell];exact(World.frozen?_of_block (w:=W) hblk).trans hf,?_⟩,h4.trans hbW,Nat.lt_of_lt_of_le h5 hbW.size⟩⟩
 ·refine(((KeepsOthers.alloc W tmp).trans (KeepsOthers.of_grownBy hgrow fun j o ej hj=>?_)).trans (KeepsOthers.setCell _ _ _)).from _
  rcases(hrow.alloc tmp).2 with⟨rfl,_⟩ | ⟨g,cap,cur,rfl,_,hgb,_⟩
  ·simp[Value.ownBlock]at ej
  ·obtain rfl:g=j:=by simpa[Value.ownBlock] using ej
   rw[hgb]at hj;cases hj;rfl
 ·have hne:(⟨w.heap.size,0,none⟩:Addr)≠⟨w.heap.size,i,none⟩:=fun e=>by injection e with _ e _;omega
  exact(World.cell?_setCell_other _ _ _ _ hne).trans (World.cell?_of_block (w:=W) hblk)
 ·rw[World.frozen?_setCell];exact World.frozen?_of_block (w:=W) hblk
 ·rw[F2,List.length_append,hk]
  exact ownsRow_setCell_below hown' (show w.heap.size<w.heap.size+1 by omega) _
def PX (g:Nat) (x:Lx) (W:World):Prop :=
 W.cell? ⟨g,0,none⟩=some (.int .i64 ((x.kind:Nat):Int))∧W.cell? ⟨g,1,none⟩=some (.int .u8 ((x.name:Nat):Int))∧W.cell? ⟨g,2,none⟩=some (.string x.text)∧W.cell? ⟨g,3,none⟩=some (.int .i64 ((x.place:Nat):Int))
theorem PX.put {g:Nat} {x:Lx} {W:World} (h:PX g x W) {l:Nat} {o:Obj} (o':Obj) (hl:W.heap[l]?=some o) (ho:o.isCells=false):PX g x (W.putObj l o'):=by
 obtain⟨a,b,c,d⟩:=h
 have k:∀ r,some l=some r→∃ o:Obj,W.heap[r]?=some o∧o.isCells=false:=fun r e=>by cases e;exact⟨o,hl,ho⟩
 exact⟨cell_kept a (grownBy_putObj' W l o') k,cell_kept b (grownBy_putObj' W l o') k,cell_kept c (grownBy_putObj' W l o') k,cell_kept d (grownBy_putObj' W l o') k⟩
theorem PX.new (W:World) (x:Lx):PX W.heap.size x (W.alloc (.cells #[.int .i64 ((x.kind:Nat):Int),.int .u8 ((x.name:Nat):Int),.string x.text,.int .i64 ((x.place:Nat):Int)] 71)):=by
 refine⟨?_,?_,?_,?_⟩<;>simp
theorem JU {R:Nat} {W W':World} (hR:R<W.heap.size) (h:Below W.heap.size W W'):rX R W W' :=
 ⟨fun i _=>h.cell (p:=⟨R,i,none⟩) hR,fun i=>h.frozen (p:=⟨R,i,none⟩) hR,fun hL=>hL.below h hL.1,h.size⟩
theorem Z0 {R:Nat} {w:World} (hR:R<w.heap.size) (hL:0<R) (W:World) (l:Nat) (o o':Obj) (hl:w.heap.size≤l) (_:W.heap[l]?=some o) (_:o.isCells=false) (_:o.isWalk=false):rX R W (W.putObj l o'):=by
 have hb:(W.putObj l o').heap[R]?=W.heap[R]?:=World.putObj_heap_other (by omega)
 have hb3:(W.putObj l o').heap[0]?=W.heap[0]?:=World.putObj_heap_other (by omega)
 refine⟨fun i _=>World.cell?_of_block (w:=W) hb,fun i=>World.frozen?_of_block (w:=W) hb,fun h2=>⟨Nat.lt_of_lt_of_le h2.1 (grownBy_putObj' W l o').size,fun i hi=>?_⟩,(grownBy_putObj' W l o').size⟩
 exact(World.cell?_of_block (w:=W) hb3).trans (h2.2 i hi)
theorem fL {W:World} {b b' e size n:Nat} {v:Value} {xs:List Value} (h:W.ownsRow b e size v n xs) (hb:b'≤b):W.ownsRow b' e size v n xs:=by
 refine⟨h.1,?_⟩
 rcases h.2 with hn | ⟨g,cap,cur,hv,hbg,rest⟩
 ·exact .inl hn
 ·exact .inr ⟨g,cap,cur,hv,by omega,rest⟩
theorem JV (s:ByteArray):(iG s 0).1.length≤s.size:=yV s s.size 0
def AsX (w:World) (s:ByteArray) (x:Lx) (a:Act) (W:World):Prop :=
 ∃ g,w.heap.size<g∧PX g x W∧a={ tmps:=#[.string s,undef,.slice none 0 0,.int .i64 0,.int .i64 0,.pointer (some ⟨w.heap.size,0,none⟩),.pointer (some ⟨g,0,none⟩),.string s,.int .i64 (s.size:Int),.bool false,.string s,
   .agg #[.slice none 0 0,.int .i64 0,.int .i64 0,.string s],.func (.func 62) #[.pointer (some ⟨w.heap.size,0,none⟩)] #[],RM x,
   undef,undef,undef,undef,undef,undef,undef,undef,undef,undef,undef,undef,undef,undef,undef,undef,undef,undef,undef,undef,undef],defers:=[] }
set_option maxRecDepth 100000 in
set_option maxHeartbeats 4000000 in
theorem Z2 (s:ByteArray) (hm:s.size≤9000) (w:World) (hL:Ka.Laid w) :
  Calls Tryz.prog 34 #[.string s] w fun e w'=>BI s e w' w.heap.size∧Below w.heap.size w w':=by
 by_cases hlong:8192<s.size
 ·have HG:=Lib.hid (BI.nil (w':=w) (B:=w.heap.size) (vN hlong))
  go_enter Tryz.func34,Tryz.ntmps34
  go_wp2
  go_ret3
  exact⟨HG.out,Below.refl _ _⟩
 have HLN:=Lib.hid hlong
 have hs:s.size≤8192:=by omega
 have t1:decide ((8192:Int)<(s.size:Int))=false:=decide_eq_false (by omega)
 have hlen:=JV s
 have hg:=hL.1
 clear hlong
 have hfn:∀ f,Fence.wide.fn f:=fun _=>trivial
 obtain⟨i0,hi,hz0,hz1,hz2⟩:=info_parts Z3
 refine(callsIn_wide (n:=3)).1 ?_
 refine callsIn_of_wp_marks Tryz.func34 rfl trivial ?_ rfl
 simp only[Tryz.ntmps34,List.size_toArray,List.length_cons,List.length_nil,Nat.reduceAdd,Nat.reduceSub,Array.replicate_succ,Array.replicate_zero,List.push_toArray,List.append_toArray,List.nil_append,List.cons_append]
 gi_wp2
 obtain⟨W0,hW0⟩:∃ W0,(w.alloc (.cells #[.slice none 0 0,.int .i64 0,.int .i64 0,.string s] 106))=W0:=⟨_,rfl⟩
 have hsz:W0.heap.size=w.heap.size+1:=by rw[← hW0];simp
 have hB0:Below w.heap.size w W0:=by rw[← hW0];exact(Below.refl _ w).alloc (Nat.le_refl _) _
 have hL0:=hL.below hB0 hg
 have hO0:OI w [] W0:=by
  refine⟨⟨.slice none 0 0,?_,?_,World.ownsRow_nil _ _ _ _⟩,hB0,by omega⟩<;>(rw[← hW0];simp)
 have hR0:RS w.heap.size s 0 W0:=by
  refine⟨?_,?_,?_,?_,?_,hL0,by omega⟩<;>(rw[← hW0];simp)
 rw[hW0]
 clear hW0
 refine Ra.oO (own:=fun a=>a=⟨w.heap.size,1,none⟩∨a=⟨w.heap.size,2,none⟩) (by omega) (gf:=62) (fa:=#[.pointer (some ⟨w.heap.size,0,none⟩)]) (lb:=#[]) rfl (enters_of Tryz.func62 (by kernel_rfl) rfl)
  (fun a ha=>by rcases ha with rfl | rfl<;>(show w.heap.size<W0.heap.size;omega))
  (MN 2 w.heap.size hg s (by omega) W0 hR0) rX.trans (Z0 (by omega) hg)
  (fun W l o' hl hE=>by
   obtain⟨p,z,h1,h2,h3⟩:=hE
   have hb:(W.putObj l o').heap[w.heap.size]?=W.heap[w.heap.size]?:=World.putObj_heap_other (by omega)
   exact⟨p,z,(World.cell?_of_block (w:=W) hb).trans h1,(World.cell?_of_block (w:=W) hb).trans h2,h3⟩) (fun _=>rfl)
  (OI w) (fun _ _=>False)
  (fun pre A B' row hs hg hr=>OI.n7 hs hg (fun r e=>by have:=hr r e;exact⟨by omega,this.2⟩))
  (fun _ _ _ _ hs _ _=>hs)
  (fun pre V a v ha hs=>by rcases ha with rfl | rfl<;>exact OI.own hs _ (by omega) v)
  (fun pre V V' hb hs=>OI.below hs hb)
  hO0
  (AsX w s)
  (fun x a W l o o' hl ho hc hA=>by
   obtain⟨g,h1,h2,h3⟩:=hA
   exact⟨g,h1,h2.put o' ho hc,h3⟩) ?assign ?body ?done ?stop
 case assign =>
  rintro l pre ⟨kd,nm,tx,pl⟩ W hI hpre
  have hbW:Below W.heap.size W (W.alloc (.cells #[.int .i64 (kd:Int),.int .u8 (nm:Int),.string tx,.int .i64 (pl:Int)] 71)):=(Below.refl _ W).alloc (Nat.le_refl _) _
  have HW:=Lib.hid hbW
  have HK:=Lib.hid (JU hI.2.2 hbW)
  have HX:=Lib.hid (PX.new W ⟨kd,nm,tx,pl⟩)
  have HI:=Lib.hid hI.2.2
  clear hbW hI hpre
  dsimp only[ZY,RM]
  gi_wp2
  exact⟨⟨_,HI.out,HX.out,rfl⟩,HW.out,HK.out⟩
 case body =>
  rintro l pre x a W hI hpre ⟨g,hgR,hX,rfl⟩
  obtain⟨kd,nm,tx,pl⟩:=x
  obtain⟨x0,x1,x2,x3⟩:=hX
  simp only[]at x0 x1 x2 x3
  have hk9:pre.length<8192:=by
   have:=hpre.length_le
   rw[List.length_append]at this
   simp at this;omega
  obtain⟨⟨v,hv,hf,hrow⟩,hB,hsW⟩:=id hI
  obtain⟨k,hk⟩:∃ k,pre.length=k:=⟨_,rfl⟩
  rw[hk]at hrow hk9
  have HK:=Lib.hid hk
  clear hpre hk
  dsimp only[RM]
  rcases hrow.2 with⟨rfl,-⟩ | ⟨gb,cap,cur,rfl,-⟩
  all_goals
   gi_wp2_with (gi_at_builtin;refine wpListIn_append_own _ rfl _ _ 58 rfl (w.heap.size+1) 71 i0 _ 4 40 Tryz.underlying58 hi hz0 hz1 hz2 rfl (by decide) _ _ _ rfl (hrow.alloc _) ⟨W.heap.size,0,none⟩ 1 1 [.int .i64 (kd:Int),.int .u8 (nm:Int),.string tx,.int .i64 (pl:Int)] rfl rfl (C6 _ _ _ _ _ _) (by simp[Value.oneCell']) (by unfold maxLen;omega) (by omega) (by simp;omega) ?_;intro v' w1 hown' hgrow _;obtain⟨g',cap',rfl⟩:=ownsRow_succ hown';have hS:=hI.step (x:=⟨kd,nm,tx,pl⟩) hg hv hf hrow HK.out hown' hgrow;have e1:=hS.1;have e2:=hS.2.1)
   exact hS.2.2 _
 case done =>
  rintro D W hD hI hE hK
  obtain⟨p,z,d1,d2,hz⟩:=hE
  obtain⟨⟨v,hv,hf,hrow⟩,hB,hsW⟩:=hI
  rcases hz with⟨hz,hz2⟩ | ⟨hz,rfl⟩
  ·have HG:=Lib.hid (fun W'=>BI.nil (w':=W') (B:=w.heap.size) (Z4 HLN.out hz))
   have z1:((z:Int) != 0)=true:=by
    have z0:((z:Int)==0)=false:=beq_eq_false_iff_ne.2 (by omega)
    rw[bne,z0];rfl
   have hBD:=fun m=>(Ba.below_drewN hB m).trans (belowK_b (w:=w) (Nat.le_refl _) (W.drewN m) D _ (.deferred none) (by omega) hK rfl rfl)
   have HBD:=Lib.hid hBD
   clear hz hz2 hrow hBD hB
   gi_wp2
   gi_quiet (fail)
   gi_wp2
   refine⟨by simp,.inl ⟨_,_,rfl,run_takeDeferred (show (W.drewN _).heap[D]?=_ from hK),?_⟩⟩
   refine⟨.tuple #[.slice none 0 0,.int .i64 ((p:Nat):Int),.int .i64 ((z:Nat):Int)],?_,HG.out _,HBD.out _⟩
   simp[results,Tryz.f34,go_sem]
  ·have hok:=aCU HLN.out (show iG s 0=((iG s 0).1,none) by rw[← hz])
   have HO:=Lib.hid hok
   have HROW:=Lib.hid (ownsRow_putObj (fL (b':=w.heap.size) hrow (by omega)) (.deferred none) hK rfl)
   have HBD:=Lib.hid (hB.trans (belowK_b (w:=w) (Nat.le_refl _) W D _ (.deferred none) (by omega) hK rfl rfl))
   clear hok hz hrow hB
   gi_wp2
   refine⟨by simp,.inl ⟨_,_,rfl,run_takeDeferred hK,?_⟩⟩
   refine⟨.tuple #[v,.int .i64 0,.int .i64 0],?_,?_,HBD.out⟩
   ·simp[results,Tryz.f34,go_sem]
   ·obtain⟨o1,o2,o3⟩:=HO.out
    exact⟨v,by rw[o2,o3];rfl,by rw[o1];exact HROW.out⟩
 case stop =>
  rintro D pre W hD hpre h hK
  exact absurd h id
end Go.Proofs.YtgpihfacmpbpaaaGreatDoor.Lx
