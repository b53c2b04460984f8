/-
  Put together.
-/
import Derived.Test.YthbigkoihpgcfaaGreatDoorQd
import Derived.Test.YthbigkoihpgcfaaGreatDoorSe
import Derived.Test.YthbigkoihpgcfaaGreatDoorUm
import Derived.Deep.AppendLies
open Go.Lib (hid)
open Go.Proofs.YthbigkoihpgcfaaGreatDoor.Rg (zP zN zA zB tk)
set_option maxRecDepth 100000
set_option maxHeartbeats 16000000
namespace Go.Proofs.YthbigkoihpgcfaaGreatDoor.Ti
open Go.RowKit Go.Maps Ba Ru Ck
theorem nK {w:World} {b i:Nat} {cs:Array Value} {T:TypeId} {fr:Nat × Nat} (hb:w.heap[b]?=some (.cells cs T fr)) (u:Value):(w.setCell ⟨b,i,none⟩ u).heap[b]?=some (.cells (cs.setIfInBounds i u) T fr):=by
 simp[World.setCell,Array.getElem?_modify,hb]
theorem aH {w:World} {b i:Nat} {cs:Array Value} {T:TypeId} {fr:Nat × Nat} {u:Value} (hb:w.heap[b]?=some (.cells cs T fr)) (hu:cs[i]?=some u):w.cell? ⟨b,i,none⟩=some u:=by
 simp only[World.cell?,hb]
 simpa using hu
theorem lI {w:World} {b i:Nat} {cs:Array Value} {T:TypeId} (hb:w.heap[b]?=some (.cells cs T (0,0))):w.frozen? ⟨b,i,none⟩=false:=by
 simp[World.frozen?,hb]
theorem vP (w:World) {o:Oper} {a:Act} {K:Act→World→Prop} {Q:Exit→Act→World→Prop} (s x:Operand)
  (ho:o.op=.call { callee:=.builtin .append,args:=#[s,x],argTypes:=#[22,22] })
  (v0:Value) (hs:a.eval s=v0) (B k:Nat) (xs:List Rl) (y:Rl) (hown:w.ownsRow B 48 5 v0 k (rows cR xs)) (hB:B≤w.heap.size) (g:Nat) (hx:a.eval x=.slice (some ⟨g,0,none⟩) 1 1) (hn:k≤9000) (hr:w.heap[g]?=some (.cells (cR y).toArray 48))
  (h:∀ v' w',w'.ownsRow B 48 5 v' (k+1) (rows cR (xs++[y]))→w.grownBy w' v0.ownBlock→K (a.put o.dst v') w'):o.wp Tryz.prog a w K Q:=by
 obtain⟨i0,hi0,hz0,hz1,hz2⟩:=info_parts B4
 refine wp_append_own w s x _ ho B _ i0 _ 5 56 Tryz.underlying22 hi0 hz0 hz1 hz2 rfl (by decide) v0 k _ hs hown ⟨g,0,none⟩ 1 1 (rows cR [y]) hx (by rw[dA cR iA];rfl) ?_ (pP [y]) (by unfold maxLen;omega) (by omega) hB ?_
 ·intro j u hu
  exact World.news_of_block hr j u (by simpa[rows] using hu)
 ·intro v' w' h1 h2 _
  rw[← lN]at h1
  exact h v' w' h1 h2
theorem vQ (w:World) {ops:Array Oper} {o:Oper} {a:Act} {K:Act→World→Prop} {Q:Exit→Act→World→Prop} {E:Prop} (hgd:o.guard=none) (s x:Operand)
  (ho:o.op=.call { callee:=.builtin .append,args:=#[s,x],argTypes:=#[22,22] })
  (v0:Value) (hs:a.eval s=v0) (B k:Nat) (xs:List Rl) (y:Rl) (hown:w.ownsRow B 48 5 v0 k (rows cR xs)) (hB:B≤w.heap.size) (g:Nat) (hx:a.eval x=.slice (some ⟨g,0,none⟩) 1 1) (hn:k≤9000) (hr:w.heap[g]?=some (.cells (cR y).toArray 48))
  (h:∀ v' w',w'.ownsRow B 48 5 v' (k+1) (rows cR (xs++[y]))→w.grownBy w' v0.ownBlock→K (a.put o.dst v') w'):if Region.wanted o (yielded ops a.tmps)=true then Oper.wp Tryz.prog o a w K Q else E:=by
 have hw:Region.wanted o (yielded ops a.tmps)=true:=by simp[Region.wanted,hgd]
 rw[if_pos hw]
 exact vP w s x ho v0 hs B k xs y hown hB g hx hn hr h
structure Mid (w W:World) (lo bx:Nat) (v:BO) (R:Value) (l:List Rl) (k:Nat) (box:Array Value):Prop where
 rule:W.heap[bx]?=some (.cells box 48)
 below:Below lo w W
 tab:W.heap[v.a]?=some (.cells (KU v R) 63)
 own:W.ownsRow (v.e 2+1) 48 5 R (k+1) (rows cR (l.take (k+1)))
 rest:∀ b,b≤v.e 2→b≠v.a→W.heap[b]?=w.heap[b]?
structure Lp (w W:World) (lo bx:Nat) (v:BO) (R:Value) (l:List Rl) (k j:Nat) (box:Array Value):Prop where
 rule:W.heap[bx]?=some (.cells box 48)
 below:Below lo w W
 tab:W.heap[v.a]?=some (.cells (KU v R) 63)
 own:W.ownsRow (v.e 2+1) 48 5 R (k+1) (rows cR (l.take (k+1)))
 top:v.e 2<W.heap.size
 words:∃ n,n≤k∧aY 9 pS tM W v.wo n (cZ (l.take k))
 found:∃ n,n≤k+1∧aY 96 lH pT W v.fo n (fun x=>cI (l.take (k+1)) x.1 x.2)
 rows:∀ i,i<3→KW W (v.s i) (v.e i) l ((i:Int)+1) (if i<j then k+1 else k)
theorem Lp.kept {w W W':World} {lo bx k j:Nat} {v:BO} {R:Value} {l:List Rl} {box:Array Value} (h:Lp w W lo bx v R l k j box) (hb:Below W.heap.size W W') (ho:v.Ord lo) (hlo:lo≤W.heap.size):Lp w W' lo bx v R l k j box where
 rule:=(hb.block bx (Array.getElem?_eq_some_iff.1 h.rule).1).trans h.rule
 below:=h.below.trans (hb.mono hlo)
 tab:=(hb.block _ (Array.getElem?_eq_some_iff.1 h.tab).1).trans h.tab
 own:=eR h.own fun g hg=>hb.block g (h.own.lt g hg).2
 top:=Nat.lt_of_lt_of_le h.top hb.size
 words:=by obtain⟨n,a,b⟩:=h.words;exact⟨n,a,b.of_block (hb.block _ b.lt)⟩
 found:=by obtain⟨n,a,b⟩:=h.found;exact⟨n,a,b.of_block (hb.block _ b.lt)⟩
 rows:=fun i hi=>(h.rows i hi).of_block (hb.block _ (by have:=ho.qX hi;have:=h.top;omega)) (hb.block _ (by have:=ho.qX hi;have:=h.top;omega))
theorem Lp.skip {w W:World} {lo bx k j:Nat} {v:BO} {R:Value} {l:List Rl} {box:Array Value} (h:Lp w W lo bx v R l k j box) {x:Rl} (hx:l[k]?=some x) (hj:iL x ((j:Int)+1)=false):Lp w W lo bx v R l k (j+1) box :=
 ⟨h.rule,h.below,h.tab,h.own,h.top,h.words,h.found,fun i hi=>by
  have hr:=h.rows i hi
  by_cases hij:i<j
  ·rw[if_pos hij]at hr
   rw[if_pos (by omega)]
   exact hr
  ·rw[if_neg hij]at hr
   by_cases he:i=j
   ·subst he
    rw[if_pos (by omega)]
    obtain⟨n,m,f,e,h1,h2,h3,h4,h5⟩:=hr
    exact⟨n,m,f,e,by omega,by omega,h3,h4,h5.congr (YV hx hj)⟩
   ·rw[if_neg (by omega)]
    exact hr⟩
theorem Lp.add {w W W':World} {lo bx k j:Nat} {v:BO} {R:Value} {l:List Rl} {box:Array Value} (h:Lp w W lo bx v R l k j box) (ho:v.Ord lo) (hbx:v.e 2<bx) (hj3:j<3) {x:Rl} (hx:l[k]?=some x) (hj:iL x ((j:Int)+1)=true) (hc:x.cells.length≤9000) {n m:Nat} {e:Nat→Option Nat} (hn:n≤9000 * k) (hm:m≤k)
  (hA:YY W W' (v.s j) (v.e j) n m x.cells k e (AN l ((j:Int)+1) k)):Lp w W' lo bx v R l k (j+1) box:=by
 obtain⟨g,n',p,a1,a2,a3,a4,a5⟩:=hA
 have hs:=ho.qX hj3
 have h0:=ho.lo
 have h1:=ho.o1
 have h2:=ho.o2
 have htop:=h.top
 have hk:∀ b,b<W.heap.size→b≠v.s j→b≠v.e j→W'.heap[b]?=W.heap[b]?:=fun b hb h3 h4=>a5.block b hb (fun h=>h.elim h3 h4)
 have hbl:bx<W.heap.size:=(Array.getElem?_eq_some_iff.1 h.rule).1
 refine⟨(hk bx hbl (by omega) (by omega)).trans h.rule,h.below.trans (a5.YX (by omega) (fun b hb=>by rcases hb with hb | hb<;>omega)),(hk v.a (by omega) (by omega) (by omega)).trans h.tab,eR h.own fun g hg=>hk g (h.own.lt g hg).2 (by have:=(h.own.lt g hg).1;omega) (by have:=(h.own.lt g hg).1;omega),Nat.lt_of_lt_of_le h.top a5.size,?_,?_,fun i hi=>?_⟩
 ·obtain⟨n,a,b⟩:=h.words
  exact⟨n,a,b.of_block (hk _ b.lt (by omega) (by omega))⟩
 ·obtain⟨n,a,b⟩:=h.found
  exact⟨n,a,b.of_block (hk _ b.lt (by omega) (by omega))⟩
 ·have hr:=h.rows i hi
  have hsi:=ho.qX hi
  by_cases he:i=j
  ·subst he
   rw[if_pos (by omega)]
   exact⟨n',m+1,g,_,by omega,by omega,a2,a3,a4.congr (YU hx hj)⟩
  ·obtain⟨q1,q2,q3,q4⟩:=ho.apart hi hj3 he
   have hr2:=hr.of_block (hk _ (by omega) q1 q2) (hk _ (by omega) q3 q4)
   by_cases hij:i<j
   ·rw[if_pos hij]at hr2
    rw[if_pos (by omega)]
    exact hr2
   ·rw[if_neg hij]at hr2
    rw[if_neg (by omega)]
    exact hr2
theorem Lp.paths {w W:World} {lo bx k j:Nat} {v:BO} {R:Value} {l:List Rl} {box:Array Value} (h:Lp w W lo bx v R l k j box) {i:Nat} {u:Value} (hu:(KU v R)[i]?=some u):W.cell? ⟨v.a,i,none⟩=some u:=aH h.tab hu
theorem Lp.Y4 {w W:World} {lo bx k j:Nat} {v:BO} {R:Value} {l:List Rl} {box:Array Value} (h:Lp w W lo bx v R l k j box) {i:Nat} (hi:i<3):W.cell? ⟨v.a,1+i * 2,none⟩=some (.map (some (v.s i)))∧W.cell? ⟨v.a,1+i * 2+1,none⟩=some (.map (some (v.e i))):=by
 obtain rfl | rfl | rfl:i=0∨i=1∨i=2:=by omega
 ·exact⟨h.paths (i:=1) rfl,h.paths (i:=2) rfl⟩
 ·exact⟨h.paths (i:=3) rfl,h.paths (i:=4) rfl⟩
 ·exact⟨h.paths (i:=5) rfl,h.paths (i:=6) rfl⟩
theorem Mid.start {w W W':World} {lo bx k:Nat} {v:BO} {R R0:Value} {l:List Rl} {box:Array Value} (h:Mid w W lo bx v R l k box) (H:Holds w lo v R0 l k) (hbx:v.e 2<bx) {n:Nat} (hn:n≤k) (hg:W.grownBy W' (some v.fo)) (hf:aY 96 lH pT W' v.fo (n+1) (fun x=>cI (l.take (k+1)) x.1 x.2)):Lp w W' lo bx v R l k 0 box:=by
 have ho:=H.ord
 have h0:=ho.lo
 have h1:=ho.o1
 have h2:=ho.o2
 have hbl:bx<W.heap.size:=(Array.getElem?_eq_some_iff.1 h.rule).1
 have hk:∀ b,b<W.heap.size→b≠v.fo→W'.heap[b]?=W.heap[b]?:=fun b hb h3=>hg.block b hb (fun e=>h3 (Option.some.inj e))
 have hs2:=ho.qX (i:=2) (by omega)
 have hr:∀ b,b≤v.e 2→b≠v.a→b≠v.fo→W'.heap[b]?=w.heap[b]?:=fun b hb h3 h4=>(hk b (by omega) h4).trans (h.rest b hb h3)
 refine⟨(hk bx hbl (by omega)).trans h.rule,(h.below).grown hg (by omega) (fun b e=>by have:=Option.some.inj e;omega),(hk v.a (by omega) (by omega)).trans h.tab,eR h.own fun g hg=>hk g (h.own.lt g hg).2 (by have:=(h.own.lt g hg).1;omega),Nat.lt_of_lt_of_le (Nat.lt_trans hbx hbl) hg.size,?_,⟨n+1,by omega,hf⟩,fun i hi=>?_⟩
 ·obtain⟨n,a,b⟩:=H.words
  exact⟨n,a,b.of_block (hr _ (by omega) (by omega) (by omega))⟩
 ·rw[if_neg (by omega)]
  have hsi:=ho.qX hi
  exact(H.rows i hi).of_block (hr _ (by omega) (by omega) (by omega)) (hr _ (by omega) (by omega) (by omega))
theorem Lp.done {w W:World} {lo bx k:Nat} {v:BO} {R:Value} {l:List Rl} {box:Array Value} (h:Lp w W lo bx v R l k 3 box) (ho:v.Ord lo) (hw:∃ n,n≤k+1∧aY 9 pS tM W v.wo n (cZ (l.take (k+1)))):Holds W lo v R l (k+1) :=
 ⟨ho,h.top,h.tab,h.own,hw,h.found,fun i hi=>by have:=h.rows i hi;rw[if_pos hi]at this;exact this⟩
theorem Lp.aEG {w W W':World} {lo bx k:Nat} {v:BO} {R:Value} {l:List Rl} {box:Array Value} (h:Lp w W lo bx v R l k 3 box) (ho:v.Ord lo) (hbx:v.e 2<bx) (hg:W.grownBy W' (some v.wo)) (hw:∃ n,n≤k+1∧aY 9 pS tM W' v.wo n (cZ (l.take (k+1)))):Holds W' lo v R l (k+1)∧Below lo w W':=by
 have h0:=ho.lo
 have h1:=ho.o1
 have h2:=ho.o2
 have hs2:=ho.qX (i:=2) (by omega)
 have htop:=h.top
 have hbl:bx<W.heap.size:=(Array.getElem?_eq_some_iff.1 h.rule).1
 have hk:∀ b,b<W.heap.size→b≠v.wo→W'.heap[b]?=W.heap[b]?:=fun b hb h3=>hg.block b hb (fun e=>h3 (Option.some.inj e))
 refine⟨⟨ho,Nat.lt_of_lt_of_le h.top hg.size,(hk v.a (by omega) (by omega)).trans h.tab,eR h.own fun g hg=>hk g (h.own.lt g hg).2 (by have:=(h.own.lt g hg).1;omega),hw,?_,fun i hi=>?_⟩,h.below.grown hg (by omega) (fun b e=>by have:=Option.some.inj e;omega)⟩
 ·obtain⟨n,a,b⟩:=h.found
  exact⟨n,a,b.of_block (hk _ b.lt (by omega))⟩
 ·have:=h.rows i hi
  rw[if_pos hi]at this
  have hsi:=ho.qX hi
  exact this.of_block (hk _ (by omega) (by omega)) (hk _ (by omega) (by omega))
theorem aCB (v:BO) (R:Value) (l:List Rl) (k lo:Nat) (x:Rl) (A:j5 l) (hl:l.length≤1000) (hf:kD l) (hx:l[k]?=some x) (w:World) (H:Holds w lo v R l k) :
  Calls Tryz.prog 23 #[.pointer (some ⟨v.a,0,none⟩),dE x] w fun e w'=>e=.returned (.tuple #[])∧(∃ R',Holds w' lo v R' l (k+1))∧Below lo w w':=by
 have hkl:k<l.length:=(List.getElem?_eq_some_iff.1 hx).1
 obtain⟨⟨f1,-,-,f4,f5,-,-⟩,f6,f7⟩:=hf x (List.mem_of_getElem? hx)
 have HIN:=hid (fun(row:Int) (W:World)=>VA x row W)
 have HX:=hid hx
 have HA:=hid A
 obtain⟨Rn,hRn⟩:∃ R0,R=R0:=⟨_,rfl⟩
 obtain⟨Ra,Rc,hRf,-,-,-⟩:=aN H.own
 subst hRf
 generalize hRR:Value.slice Ra k Rc=R at H
 have HRR:=hid hRR
 clear hRR hRn
 have HO:=hid H.ord
 have hlo:lo≤v.a:=by have:=H.ord.lo;have:=H.ord.o1;have:=H.ord.o2;omega
 have hae:v.a<v.e 2:=by have:=H.ord.qX (i:=2) (by omega);omega
 have HH:=hid H
 have htop:=H.top
 have hbx0:=H.box
 clear H A hf hx
 obtain⟨q,sl,sc,pr,ln⟩:=x
 simp only[]at f1 f4 f5 f6 f7
 simp only[dE]at HIN ⊢
 obtain⟨L,hL⟩:∃ L,bytesOf sl=L:=⟨_,rfl⟩
 obtain⟨C,hC⟩:∃ C,bytesOf sc=C:=⟨_,rfl⟩
 rw[hL,hC]at HIN ⊢
 have HL:=hid hL
 have HC:=hid hC
 have zL:L.size≤9000:=by rw[← hL,aF];omega
 have zC:C.size≤9000:=by rw[← hC,aF];omega
 clear hL hC
 obtain⟨bx,hbx⟩:∃ bx,w.heap.size=bx:=⟨_,rfl⟩
 rw[hbx]at htop
 have b0:=heap_alloc_new w (.cells #[.int .i64 q,.string L,.string C,.int .i64 pr,.int .i64 ln] 48)
 rw[hbx]at b0
 have w0b:Below w.heap.size w (w.alloc (.cells #[.int .i64 q,.string L,.string C,.int .i64 pr,.int .i64 ln] 48)):=(Below.refl _ _).alloc (Nat.le_refl _) _
 have w0s:(w.alloc (.cells #[.int .i64 q,.string L,.string C,.int .i64 pr,.int .i64 ln] 48)).heap.size=bx+1:=by simp[hbx]
 go_enter Tryz.func23,Tryz.ntmps23
 go_upto_region 1 with fail
 generalize w.alloc (.cells #[.int .i64 q,.string L,.string C,.int .i64 pr,.int .i64 ln] 48)=w0 at b0 w0b w0s ⊢
 rw[hbx]at w0b
 have hwsz:=hid hbx
 clear hbx
 have w0b:=hid w0b
 have hS:=(show w0.drew.heap[bx]?=some (.cells #[.int .i64 q,.string L,.string C,.int .i64 pr,.int .i64 ln] 48)∧bx<w0.drew.heap.size∧Below bx w w0.drew from ⟨b0,by show bx<w0.heap.size;omega,w0b.out.drew⟩)
 refine wp_region_held_drew (S:=(fun W=>W.heap[bx]?=some (.cells #[.int .i64 q,.string L,.string C,.int .i64 pr,.int .i64 ln] 48)∧bx<W.heap.size∧Below bx w W)) (by kernel_rfl) hS (fun hHeld=>?_)
 refine tk 0 (v:=?_) ?_ ?_
 rotate_left
 ·intro W hSw;(have z0:=aH (i:=1) hSw.1 rfl;have z1:=aH (i:=2) hSw.1 rfl;clear hSw);go_simp;all_goals (with_reducible rfl)
 try simp only[zP,zA,zB,Rg.zC]
 refine tk 1 (v:=?_) ?_ ?_
 rotate_left
 ·intro W hSw;(have z0:=aH (i:=1) hSw.1 rfl;have z1:=aH (i:=2) hSw.1 rfl;clear hSw);go_simp;all_goals (with_reducible rfl)
 try simp only[zP,zA,zB,Rg.zC]
 refine tk 3 (v:=?_) ?_ ?_
 rotate_left
 ·intro W hSw;(have z0:=aH (i:=1) hSw.1 rfl;have z1:=aH (i:=2) hSw.1 rfl;clear hSw);go_simp;all_goals (with_reducible rfl)
 try simp only[zP,zA,zB,Rg.zC]
 refine tk 4 (v:=?_) ?_ ?_
 rotate_left
 ·intro W hSw;(have z0:=aH (i:=1) hSw.1 rfl;have z1:=aH (i:=2) hSw.1 rfl;clear hSw);go_simp;all_goals (with_reducible rfl)
 try simp only[zP,zA,zB,Rg.zC]
 refine Rg.take_one 2 (by simp only[List.getElem?_toArray,List.getElem?_cons_succ,List.getElem?_cons_zero];rfl) (by kernel_rfl) (fun K hK=>?_)
 go_simp
 go_at_call 46
 refine(KP L (by omega) _).mono ?_
 rintro e w1 ⟨rfl,hb2⟩
 have hS2:w1.heap[bx]?=some (.cells #[.int .i64 q,.string L,.string C,.int .i64 pr,.int .i64 ln] 48)∧bx<w1.heap.size∧Below bx w w1:=⟨(hb2.block bx hS.2.1).trans hS.1,Nat.lt_of_lt_of_le hS.2.1 hb2.size,chain hS.2.2 (by have:=hS.2.1;omega) hb2⟩
 go_wp2_with fail
 refine hK.out _ _ hS2 (fun hHeld2=>?_)
 clear hK K
 try simp only[zP,zA,zB,Rg.zC]
 try simp only[zN]
 refine tk 6 (v:=?_) ?_ ?_
 rotate_left
 ·intro W hSw;(have z0:=aH (i:=1) hSw.1 rfl;have z1:=aH (i:=2) hSw.1 rfl;clear hSw);go_simp;all_goals (with_reducible rfl)
 try simp only[zP,zA,zB,Rg.zC]
 refine Rg.take_one 5 (by simp only[List.getElem?_toArray,List.getElem?_cons_succ,List.getElem?_cons_zero];rfl) (by kernel_rfl) (fun K hK=>?_)
 go_simp
 go_at_call 46
 refine(KP C (by omega) _).mono ?_
 rintro e w2 ⟨rfl,hb5⟩
 have hS5:w2.heap[bx]?=some (.cells #[.int .i64 q,.string L,.string C,.int .i64 pr,.int .i64 ln] 48)∧bx<w2.heap.size∧Below bx w w2:=⟨(hb5.block bx hS2.2.1).trans hS2.1,Nat.lt_of_lt_of_le hS2.2.1 hb5.size,chain hS2.2.2 (by have:=hS2.2.1;omega) hb5⟩
 go_wp2_with fail
 refine hK.out _ _ hS5 (fun hHeld5=>?_)
 clear hK K
 try simp only[zP,zA,zB,Rg.zC]
 try simp only[zN]
 refine Rg.take_one 7 (by simp only[List.getElem?_toArray,List.getElem?_cons_succ,List.getElem?_cons_zero];rfl) (by kernel_rfl) (fun K hK=>?_)
 have y1:=aH (i:=1) hS5.1 rfl
 have y2:=lI (i:=1) hS5.1
 go_simp
 clear y1 y2
 have hS7:(w2.setCell ⟨bx,1,none⟩ (.string L)).heap[bx]?=some (.cells #[.int .i64 q,.string L,.string C,.int .i64 pr,.int .i64 ln] 48)∧bx<(w2.setCell ⟨bx,1,none⟩ (.string L)).heap.size∧Below bx w (w2.setCell ⟨bx,1,none⟩ (.string L)):=⟨(nK hS5.1 _).trans rfl,by simp[World.setCell];exact hS5.2.1,hS5.2.2.setCell (Nat.le_refl _) _⟩
 generalize w2.setCell ⟨bx,1,none⟩ (.string L)=w3 at hS7 ⊢
 refine hK.out _ _ hS7 (fun hHeld7=>?_)
 clear hK K
 try simp only[zP,zA,zB,Rg.zC]
 try simp only[zN]
 refine tk 8 (v:=?_) ?_ ?_
 rotate_left
 ·intro W hSw;(have z0:=aH (i:=1) hSw.1 rfl;have z1:=aH (i:=2) hSw.1 rfl;clear hSw);go_simp;all_goals (with_reducible rfl)
 try simp only[zP,zA,zB,Rg.zC]
 refine Rg.take_one 9 (by simp only[List.getElem?_toArray,List.getElem?_cons_succ,List.getElem?_cons_zero];rfl) (by kernel_rfl) (fun K hK=>?_)
 have y1:=aH (i:=2) hS7.1 rfl
 have y2:=lI (i:=2) hS7.1
 go_simp
 clear y1 y2
 have hS9:(w3.setCell ⟨bx,2,none⟩ (.string C)).heap[bx]?=some (.cells #[.int .i64 q,.string L,.string C,.int .i64 pr,.int .i64 ln] 48)∧bx<(w3.setCell ⟨bx,2,none⟩ (.string C)).heap.size∧Below bx w (w3.setCell ⟨bx,2,none⟩ (.string C)):=⟨(nK hS7.1 _).trans rfl,by simp[World.setCell];exact hS7.2.1,hS7.2.2.setCell (Nat.le_refl _) _⟩
 generalize w3.setCell ⟨bx,2,none⟩ (.string C)=w4 at hS9 ⊢
 refine hK.out _ _ hS9 (fun hHeld9=>?_)
 clear hK K
 try simp only[zP,zA,zB,Rg.zC]
 try simp only[zN]
 refine wpAnyH_done (by kernel_rfl) ?_ _
 skip
 obtain⟨u1,u2,u3⟩:=hS9
 clear hS hS2 hS5 hS7 hb2 hb5 w0b b0 w0s hHeld hHeld2 hHeld5 hHeld7 hHeld9
 have a4:w4.heap[v.a]?=some (.cells (KU v R) 63):=(u3.block v.a (by omega)).trans hbx0
 have HU:=hid (show w4.heap[bx]?=some (.cells #[.int .i64 q,.string L,.string C,.int .i64 pr,.int .i64 ln] 48)∧bx<w4.heap.size∧Below bx w w4∧w4.heap[v.a]?=some (.cells (KU v R) 63) from ⟨u1,u2,u3,a4⟩)
 have HOWN:=hid (eR HH.out.own fun g hg=>u3.block g (by have:=(HH.out.own.lt g hg).2;rw[hwsz.out]at this;exact this))
 have c0:w4.cell? ⟨v.a,0,none⟩=some (.slice Ra k Rc):=by rw[HRR.out];exact aH a4 rfl
 have e0:=aH (i:=0) u1 rfl
 have e1:=aH (i:=1) u1 rfl
 have e2:=aH (i:=2) u1 rfl
 have e3:=aH (i:=3) u1 rfl
 have e4:=aH (i:=4) u1 rfl
 clear u1 u2 u3 a4 hbx0
 go_wp2
 have HG:=hid (show ∀ w5:World,(w4.alloc (.cells #[.int .i64 q,.string L,.string C,.int .i64 pr,.int .i64 ln] 48)).grownBy w5 (Value.slice Ra k Rc).ownBlock→w5.heap[v.a]?=some (.cells (KU v R) 63)∧w5.heap[bx]?=some (.cells #[.int .i64 q,.string L,.string C,.int .i64 pr,.int .i64 ln] 48)∧(∀ b,b≤v.e 2→w5.heap[b]?=w.heap[b]?)∧Below lo w w5 from fun w5 hg=>by
  obtain⟨u1,u2,u3,a4⟩:=HU.out
  have hR1:∀ g,(Value.slice Ra k Rc).ownBlock=some g→v.e 2+1≤g∧g<bx:=fun g e=>by
   rw[HRR.out]at e
   have:=HH.out.own.lt g e
   rw[hwsz.out]at this
   exact this
  have hk:∀ b,b≤bx→(b≤v.e 2∨b=bx)→w5.heap[b]?=w4.heap[b]?:=fun b hb h=>(hg.block b (by simp;omega) (fun e=>by have:=hR1 b e.symm;omega)).trans (Below.heap_alloc _ _ _ (by omega))
  refine⟨(hk v.a (by omega) (.inl (by omega))).trans a4,(hk bx (Nat.le_refl _) (.inr rfl)).trans u1,fun b hb=>(hk b (by omega) (.inl hb)).trans (u3.block b (by omega)),?_⟩
  have hb:Below bx w (w4.alloc (.cells #[.int .i64 q,.string L,.string C,.int .i64 pr,.int .i64 ln] 48)):=u3.alloc (by omega) _
  exact(hb.mono (by omega)).grown hg (by simp;omega) (fun g e=>by have:=hR1 g e;omega))
 go_cut [] (fun wx=>∃ (R2:Value) (w9:World),w9=wx∧Mid w w9 lo bx v R2 l k #[.int .i64 q,.string L,.string C,.int .i64 pr,.int .i64 ln])
 case first =>
  have cB:(w4.alloc (.cells #[.int .i64 q,.string L,.string C,.int .i64 pr,.int .i64 ln] 48)).cell? ⟨v.a,0,none⟩=some (.slice Ra k Rc):=by rw[HRR.out];exact aH ((Below.heap_alloc _ _ _ (by have:=HU.out.2.1;omega)).trans HU.out.2.2.2) rfl
  go_region_law
   ((refine vQ _ (by rfl) _ _ (by rfl) (.slice Ra k Rc) (by rfl) (v.e 2+1) k (l.take k) ⟨q,sl,sc,pr,ln⟩ ((HRR.out▸HOWN.out).alloc _) (by have:=HU.out.2.1;simp;omega) w4.heap.size (by rfl) (by omega) (by rw[← HL.out,← HC.out];exact heap_alloc_new w4 _) ?_;intro v5 w5 hown5 hgrow5;obtain⟨A5,n5,rfl,-⟩:=aN hown5;have hG5:=HG.out w5 ⟨hgrow5.os,hgrow5.tape,hgrow5.output,hgrow5.size,hgrow5.block⟩;have c5:=aH (i:=0) hG5.1 rfl;have z5:=lI (i:=0) hG5.1;have HG5:=hid hG5;have HO5:=hid hown5;clear hG5 hown5 hgrow5))
  all_goals
   clear c0 e0 e1 e2 e3 e4 c5 z5 cB
   go_wp2_with fail
   go_meet
   obtain⟨g1,g2,g3,g4⟩:=HG5.out
   refine⟨.slice A5 (k+1) n5,_,rfl,⟨(Below.heap_setCell _ _ _ bx (by show bx≠v.a;omega)).trans g2,g4.setCell hlo _,(nK g1 _).trans rfl,?_,fun b hb hn=>(Below.heap_setCell _ _ _ b hn).trans (g3 b hb)⟩⟩
   have h5:=ownsRow_setCell_below (a:=⟨v.a,0,none⟩) HO5.out (by show v.a<_;omega) (.slice A5 (k+1) n5)
   rw[List.take_add_one,HX.out]
   exact h5
 case rest =>
  obtain⟨R2,w9,rfl,hM⟩:=hcut
  have e0:=aH (i:=0) hM.rule rfl
  have e1:=aH (i:=1) hM.rule rfl
  have c8:w9.cell? ⟨v.a,8,none⟩=some (.map (some v.fo)):=aH hM.tab rfl
  obtain⟨nf,hnf,hfo⟩:=HH.out.found
  have HF9:=hid (show aY 96 lH pT (w9.drewN 1) v.fo nf (fun x=>cI (l.take k) x.1 x.2) from hfo.of_block (hM.rest v.fo (by have:=HO.out.o2;omega) (by have:=HO.out.o2;omega)))
  have hfm:=fun q2 s2=>TT HA.out HX.out q2 s2
  have HFM:=hid hfm
  have HD:=hid (show pT (q,sl) from ⟨f1,by unfold maxLen;show sl.length≤_;omega,f4⟩)
  have HM:=hid hM
  clear hfm hfo hM HG HU HOWN c0
  go_wp2
  go_still_tail 10,(by kernel_rfl)
  change wpList _ _ _ _ _ (w9.drewN 1)
  clear e0 e1 c8
  go_wp2_with (first | (at_mapUpdate;refine oC _ rfl _ _ _ rfl DM rfl HF9.out (by unfold maxLen;omega) (q,sl) HD.out (by unfold lH;rw[HL.out];rfl) (HFM.out q sl).1 k (by unfold maxLen;omega) rfl ?_;intro w10 hp10 hg10) | go_in)
  have H10:=hid (((show Mid w (w9.drewN 1) lo bx v R2 l k #[.int .i64 q,.string L,.string C,.int .i64 pr,.int .i64 ln] from ⟨HM.out.rule,Ba.below_drewN HM.out.below _,HM.out.tab,HM.out.own,HM.out.rest⟩).start HH.out htop hnf hg10 (hp10.alike fun y _=>by rw[(HFM.out y.1 y.2).2];rfl)))
  clear hp10 hg10 HF9 HFM HD HM
  go_loopw [39] (fun i wr=>∃ j:Nat,j≤3∧i=.int .i64 (j:Int)∧Lp w wr lo bx v R2 l k j #[.int .i64 q,.string L,.string C,.int .i64 pr,.int .i64 ln]) (fun i _=>3 - (intOf i).toNat)
  case atStart=>exact⟨0,by omega,rfl,H10.out⟩
  case round =>
   obtain⟨j,hj,rfl,hP⟩:=hrel
   have e0:=aH (i:=0) hP.rule rfl
   have e1:=aH (i:=1) hP.rule rfl
   have e2:=aH (i:=2) hP.rule rfl
   have e3:=aH (i:=3) hP.rule rfl
   have e4:=aH (i:=4) hP.rule rfl
   have HP:=hid hP
   have hle:lo≤wr.heap.size:=by have:=hP.top;omega
   clear hP H10
   by_cases hlt:j<3
   ·have hq1:(0:Int)≤(j:Int):=by omega
    have hq2:(j:Int)<3:=by omega
    obtain⟨b,hb⟩:∃ b,iL ⟨q,sl,sc,pr,ln⟩ ((j:Int)+1)=b:=⟨_,rfl⟩
    have HI:=hid (show ∀ W:World,Calls Tryz.prog 47 #[.agg #[.int .i64 q,.string L,.string C,.int .i64 pr,.int .i64 ln],.int .i64 (1+(j:Int))] W fun e w'=>e=.returned (.bool b)∧Below W.heap.size W w' from fun W=>(HIN.out (1+(j:Int)) W).mono fun e w' h=>⟨by rw[h.1,Int.add_comm,hb],h.2⟩)
    have HB:=hid hb
    clear hb
    cases b
    ·go_wp2_with (go_at_call 47;refine(HI.out _).mono ?_;rintro e w11 ⟨rfl,hb11⟩;have HP11:=hid (HP.out.kept hb11 HO.out hle);clear hb11)
     exact⟨⟨j+1,by omega,by go_num,HP11.out.skip HX.out HB.out⟩,by simp[intOf];omega⟩
    ·go_wp2_with (go_at_call 47;refine(HI.out _).mono ?_;rintro e w11 ⟨rfl,hb11⟩;have HP11:=hid (HP.out.kept hb11 HO.out hle);clear e0 e1 e2 e3 e4 hb11)
     have e2:=aH (i:=2) HP11.out.rule rfl
     obtain⟨c1,c2⟩:=HP11.out.Y4 hlt
     have hr:=HP11.out.rows j hlt
     rw[if_neg (Nat.lt_irrefl j)]at hr
     obtain⟨n,m,f,e,a1,a2,a3,a4,a5⟩:=hr
     have HPA:=hid (aCA (v.s j) (v.e j) n m C k f e (AN l ((j:Int)+1) k) (w11.drewN 1) (a3.of_block rfl) (a4.of_block rfl) (by have:=HO.out.qX hlt;omega) a5 (fun r=>by rw[← HC.out,aB _ f5];exact YW HA.out HX.out HB.out r) (by have:=Nat.mul_le_mul_left 9000 (show k≤1000 by omega);omega) (by omega) (by omega))
     have HA12:=hid (Nat.le_trans a1 (Nat.le_refl _))
     have HA22:=hid a2
     clear a1 a2 a3 a4 a5
     obtain⟨Sj,hSj⟩:∃ n,v.s j=n:=⟨_,rfl⟩
     obtain⟨Ej,hEj⟩:∃ n,v.e j=n:=⟨_,rfl⟩
     rw[hSj]at c1 HPA
     rw[hEj]at c2 HPA
     have HSj:=hid hSj
     have HEj:=hid hEj
     clear hSj hEj
     go_still_tail 9,(by kernel_rfl)
     change wpList _ _ _ _ _ (w11.drewN 1)
     clear c1 c2 e2
     go_wp2_with (go_at_call 48;refine HPA.out.mono ?_;rintro x2 w12 ⟨rfl,hA⟩)
     have hA2:YY (w11.drewN 1) w12 (v.s j) (v.e j) n m sc k e (AN l ((j:Int)+1) k):=by
      rw[HSj.out,HEj.out]
      rw[← HC.out,aB _ f5]at hA
      exact hA
     exact⟨⟨j+1,by omega,by go_num,(HP11.out.kept (Ba.below_drewN (Below.refl _ _) 1) HO.out (by have:=HP11.out.top;omega)).add HO.out htop hlt HX.out HB.out f7 HA12.out HA22.out hA2⟩,by simp[intOf];omega⟩
   ·obtain rfl:j=3:=by omega
    clear e1 e2 e3 e4
    by_cases h5:q=5
    ·subst h5
     have c7:wr.cell? ⟨v.a,7,none⟩=some (.map (some v.wo)):=aH HP.out.tab rfl
     have e2:=aH (i:=2) HP.out.rule rfl
     obtain⟨nw,hnw,hwo⟩:=HP.out.words
     have HW9:=hid (show aY 9 pS tM (wr.drewN 1) v.wo nw (cZ (l.take k)) from hwo.of_block rfl)
     have HWM:=hid (fun y=>TU HA.out HX.out rfl y)
     have HD:=hid (show tM sc from ⟨by unfold maxLen;omega,f5⟩)
     clear hwo
     go_wp2
     go_still_tail 7,(by kernel_rfl)
     change wpList _ _ _ _ _ (wr.drewN 1)
     clear c7 e0 e2
     go_wp2_with (first | (at_mapUpdate;refine oC _ rfl _ _ _ rfl KX rfl HW9.out (by unfold maxLen;omega) sc HD.out (by unfold pS;rw[HC.out];rfl) (HWM.out sc).1 k (by unfold maxLen;omega) rfl ?_;intro w13 hp13 hg13) | go_in)
     go_end0
     have hfin:=(HP.out.kept (Ba.below_drewN (Below.refl _ _) 1) HO.out hle).aEG HO.out htop hg13 ⟨nw+1,by omega,hp13.alike fun y _=>by rw[(HWM.out y).2];rfl⟩
     exact⟨rfl,⟨R2,hfin.1⟩,hfin.2⟩
    ·have t5:(q==5)=false:=beq_eq_false_iff_ne.2 h5
     have HW5:=hid h5
     clear h5
     go_wp2
     go_end0
     obtain⟨n,a,b⟩:=HP.out.words
     exact⟨rfl,⟨R2,HP.out.done HO.out ⟨n,by omega,b.alike fun y _=>(TV HX.out HW5.out y).symm⟩⟩,HP.out.below⟩
end Go.Proofs.YthbigkoihpgcfaaGreatDoor.Ti
