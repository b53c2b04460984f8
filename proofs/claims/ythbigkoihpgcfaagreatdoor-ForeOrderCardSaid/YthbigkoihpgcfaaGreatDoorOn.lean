/-
  Put together.
-/
import Derived.Test.YthbigkoihpgcfaaGreatDoorDaN
import Derived.Test.YthbigkoihpgcfaaGreatDoorOe
import Derived.Test.YthbigkoihpgcfaaGreatDoorSb
import Derived.Test.YthbigkoihpgcfaaGreatDoorTsG
import Derived.Test.YthbigkoihpgcfaaGreatDoorVg
import Derived.Lib.MinMax
import Derived.Deep.QuietTactic
import Derived.BigQuiet
import Derived.IntWalk
import Derived.Laws.EntriesVeiled
open Go.Lib (hid)
set_option maxRecDepth 100000
set_option maxHeartbeats 16000000
namespace Go.Proofs.YthbigkoihpgcfaaGreatDoor.Fl
open Go.RowKit Go.Shelf Tr Nu Nl Cn
theorem NT (g off n c:Nat) (l:List Tk) (hn:l.length=n) (hl:n≤200000) (_hc:n≤c) (f:Nat) (hf:f<n) (w:World)
  (hcell:∀ k x,l[k]?=some x→∀ j u,(cT x)[j]?=some u→w.cell? ⟨g,off+(k * 3+j),none⟩=some u) :
  Calls Tryz.prog 134 #[.slice (some ⟨g,off,none⟩) n c,.int .i64 (f:Int)] w fun e w'=>e=.returned (.int .i64 ((eL l f:Nat):Int))∧w=w':=by
 have HC:=hid hcell
 have HN:=hid hn
 clear hcell hn
 go_enter Tryz.func134,Tryz.ntmps134
 go_wp2
 go_loop [5] (fun u5=>∃ k:Nat,u5=.int .i64 (k:Int)∧f≤k∧k≤n∧∀ j x,f≤j→j<k→l[j]?=some x→x.kind=1) (fun u5=>n - (intOf u5).toNat)
 case atStart=>exact⟨f,rfl,Nat.le_refl _,by omega,fun j x h1 h2=>by omega⟩
 case round =>
  obtain⟨k,rfl,hfk,hk,hj⟩:=hrel
  have HJ:=hid hj
  have k0:(0:Int)≤(k:Int):=by omega
  clear hj
  by_cases hlt:k<n
  ·obtain⟨⟨kd,ch,pl⟩,hx⟩:∃ x,l[k]?=some x:=⟨_,List.getElem?_eq_getElem (by rw[HN.out];exact hlt)⟩
   obtain⟨c0,-,-⟩:=pM HC.out k _ hx
   simp only[]at c0
   have HX:=hid hx
   have k1:(k:Int)<(n:Int):=by omega
   clear hx
   by_cases h1:kd=1
   ·subst h1
    have HNX:=hid (show ∀ j x,f≤j→j<k+1→l[j]?=some x→x.kind=1 from fun j x h1 h2 h3=>by
     rcases Nat.eq_or_lt_of_le (show j≤k by omega)with rfl | h4
     ·rw[HX.out]at h3;cases h3;rfl
     ·exact HJ.out j x h1 h4 h3)
    go_wp2
    go_round
    case rel=>exact⟨k+1,by go_num,by omega,by omega,HNX.out⟩
    case measure=>simp[intOf];omega
   ·have t1:(kd==1)=false:=beq_eq_false_iff_ne.2 h1
    have HP:=hid (ES (l:=l) (f:=f) (e:=k) ⟨hfk,by rw[HN.out];omega,HJ.out,fun x hx=>by
     rw[HX.out]at hx;cases hx;exact h1⟩ (by rw[HN.out];omega))
    clear h1
    go_wp2
    go_ret
    refine⟨Ba.aI ?_,rfl⟩
    rw[HP.out];omega
  ·obtain rfl:k=n:=by omega
   have HP:=hid (ES (l:=l) (f:=f) (e:=k) ⟨hfk,by rw[HN.out];omega,HJ.out,fun x hx=>by
    have:=(List.getElem?_eq_some_iff.1 hx).1;have:=HN.out;omega⟩ (by rw[HN.out];omega))
   go_wp2
   go_ret
   refine⟨Ba.aI ?_,rfl⟩
   rw[HP.out];omega
def aE7 (g off c:Nat) (x:Nat × Nat):Array Value:=#[.slice (some ⟨g,off+x.1 * 3,none⟩) (x.2 - x.1) (c - x.1)]
def A3 (V V':World):Prop:=∀ (k:Nat) (cs:Array Value) (fr:Nat × Nat),V.heap[k]?=some (.cells cs 23 fr)→V'.heap[k]?=some (.cells cs 23 fr)
theorem A3.refl (V:World):A3 V V:=fun _ _ _ e=>e
theorem A3.trans {A B C:World} (h:A3 A B) (k:A3 B C):A3 A C:=fun j cs fr e=>k j cs fr (h j cs fr e)
theorem A3.of {V V':World} (h:Below V.heap.size V V'):A3 V V':=fun j _ _ e=>(h.block j (Array.getElem?_eq_some_iff.1 e).1).trans e
attribute [local go_sem] Oper.semAt_some
theorem JV (n n0 B g off m c:Nat) (A:Option Addr) (l:List Tk) (hm:l.length=m) (hm9:m≤200000) (hmc:m≤c) (_hcm:c≤maxLen) (w:World) (hn0:n0≤w.heap.size)
  (hA:0<m→A=some ⟨g,off,none⟩∧g<n0∧∀ k x,l[k]?=some x→∀ j u,(cT x)[j]?=some u→w.cell? ⟨g,off+(k * 3+j),none⟩=some u) (hb:Boxed w B 23 (.slice A m c)) :
  Ra.aC5 Tryz.prog n 133 #[] #[.pointer (some ⟨B,0,none⟩)] (fun _=>False) (aE7 g off c) (fun W W'=>Below n0 W W'∧A3 W W') (bU l 0) (fun _=>True) w:=by
 intro y J Jx W hW _ hJb hY h0
 have HCW:=hid (fun(V:World) (hV:Below n0 W V) (h0:0<m)=>(show A=some ⟨g,off,none⟩∧∀ k x,l[k]?=some x→∀ j u,(cT x)[j]?=some u→V.cell? ⟨g,off+(k * 3+j),none⟩=some u from ⟨(hA h0).1,fun k x hx j u hu=>((hW.mono hn0).trans hV).cell (p:=⟨g,off+(k * 3+j),none⟩) (hA h0).2.1 |>.trans ((hA h0).2.2 k x hx j u hu)⟩))
 have HBX:=hid (fun(V:World) (hV:A3 W V)=>(show Boxed V B 23 (.slice A m c) from hV _ _ _ ((hW.block B hb.lt).trans hb)))
 have HY:=hid hY
 have HJ0:=hid h0
 have HM:=hid hm
 unfold maxLen at _hcm
 clear hY hJb hW h0 hA hb hm hn0
 have hfn:∀ f,Fence.wide.fn f:=fun _=>trivial
 refine callsIn_of_wp Tryz.func133 rfl trivial ?_ rfl
 simp only[Tryz.ntmps133,List.size_toArray,List.length_cons,List.length_nil,Nat.reduceAdd,Nat.reduceSub,Array.replicate_succ,Array.replicate_zero,List.push_toArray,List.append_toArray,List.nil_append,List.cons_append]
 gi_wp2
 gi_loopw [3] (fun u3 wr=>∃ (p:Nat) (pre:List (Nat × Nat)),u3=.int .i64 (p:Int)∧dL l pre p∧J pre wr∧Below n0 W wr∧A3 W wr) (fun u3 _=>m - (intOf u3).toNat)
 case atStart=>exact⟨0,[],rfl,dL.zero l,HJ0.out,Below.refl _ _,A3.refl _⟩
 case round =>
  obtain⟨p,pre,rfl,hcm2,hJ,hB,hKK⟩:=hrel
  have hp:=hcm2.1
  rw[HM.out]at hp
  have p0:(0:Int)≤(p:Int):=by omega
  have c0:=(HBX.out wr hKK).cell
  by_cases hlt:p<m
  ·obtain⟨rfl,hcell⟩:=HCW.out wr hB (by omega)
   obtain⟨hp1,hp2,-,-⟩:=lX (l:=l) (f:=p) (List.getElem?_eq_getElem (by rw[HM.out];exact hlt))
   have hs:=hcm2.succ (by rw[HM.out];exact hlt)
   obtain⟨q,hq⟩:∃ q,eL l p=q:=⟨_,rfl⟩
   rw[hq]at hp1 hp2 hs
   rw[HM.out]at hp2
   obtain⟨fn,tmps,assign,body,hy,hRd⟩:=HY.out pre (p,q) wr hJ hs.front
   have hy:(Instr.yield y #[.slice (some ⟨g,off+p * 3,none⟩) (q - p) (c - p)]).run Tryz.prog wr=_:=hy
   have HPE:=hid (hq▸NT g off m c l HM.out hm9 hmc p hlt wr hcell)
   have HRd:=hid hRd
   have HS:=hid hs
   have HB:=hid (⟨hB,hKK⟩:Below n0 W wr∧A3 W wr)
   have q1:(p:Int)<(q:Int):=by omega
   have q2:(q:Int)≤(m:Int):=by omega
   have q3:p<c:=by omega
   clear hRd hJ hB hKK hs hq hcm2 hcell
   gi_wp2
   refine⟨fun h=>Bool.noConfusion h,(callsIn_wide.2 HPE.out).mono ?_⟩
   rintro e w' ⟨rfl,rfl⟩
   gi_wp2
   refine⟨fun h=>Bool.noConfusion h,HRd.out.mono ?_⟩
   rintro e W6 (⟨rfl,hJ6,hk6⟩ | ⟨rfl,hJx6⟩)
   ·have HJ6:=hid hJ6
    have HB6:=hid (⟨HB.out.1.trans hk6.1,HB.out.2.trans hk6.2⟩:Below n0 W W6∧A3 W W6)
    clear hJ6 hk6
    gi_wp2
    go_roundw
    case rel=>exact⟨q,_,rfl,HS.out,HJ6.out,HB6.out⟩
    case measure=>simp[intOf];omega
   ·gi_wp2
    refine bodyPost_ret (results_none rfl _ _ _) rfl ?_
    exact⟨⟨_,rfl⟩,.inr ⟨_,HS.out.front,hJx6⟩⟩
  ·obtain rfl:p=m:=by omega
   have HEND:=hid (show pre=bU l 0 by
    have e:=zY (l:=l) (f:=p) (by rw[HM.out];exact Nat.le_refl _)
    have h9:=hcm2.2
    rw[e,List.append_nil]at h9
    exact h9.symm)
   have HJ:=hid hJ
   clear hJ hB hKK hcm2
   gi_wp2
   go_end0
   exact⟨⟨_,rfl⟩,.inl ⟨by rw[← HEND.out];exact HJ.out,trivial⟩⟩
end Go.Proofs.YthbigkoihpgcfaaGreatDoor.Fl
namespace Go.Proofs.YthbigkoihpgcfaaGreatDoor.Fl
open Go.RowKit Go.Shelf Tr Nu Nl Cn
def cO (p:Tk × Nat):List Value:=[.int .i64 p.1.kind,.int .u8 (p.1.ch:Int),.int .i64 p.1.place,.int .i64 (p.2:Int)]
theorem vC (p:Tk × Nat):(cO p).length=4:=rfl
def oO (b:Nat) (vn va:Value) (N:List Nd) (R:List (Tk × Nat)) (W:World):Prop :=
 W.heap[b]?=some (.cells #[vn,va] 141 (0,0))∧W.ownsRow (b+1) 188 4 vn N.length (Ba.rows cN N)∧W.ownsRow (b+1) 205 4 va R.length (Ba.rows cO R)
def Z1 (b:Nat) (N:List Nd) (R:List (Tk × Nat)) (W:World):Prop:=∃ vn va,oO b vn va N R W
def lM (b:Nat) (W W':World):Prop:=Below b W W'∧KeepsOthers W W'∧A3 W W'
theorem lM.trans {b:Nat} {A B C:World} (h:lM b A B) (k:lM b B C):lM b A C:=⟨h.1.trans k.1,h.2.1.trans k.2.1,h.2.2.trans k.2.2⟩
theorem EW {A B:World} (h:Below A.heap.size A B):KeepsOthers A B:=⟨h.size,fun k _ hk _=>(h.block k (Array.getElem?_eq_some_iff.1 hk).1).trans hk⟩
theorem lM.of {b:Nat} {A B:World} (hb:b≤A.heap.size) (h:Below A.heap.size A B):lM b A B:=⟨h.mono hb,EW h,A3.of h⟩
theorem vD {b:Nat} {A B:World} (h:lM b A B) (n:Nat):lM b A (B.drewN n):=⟨Ba.below_drewN h.1 n,⟨h.2.1.size,h.2.1.same⟩,h.2.2⟩
theorem XH {b:Nat} {A B:World} (h:lM b A B):lM b A B.drew:=⟨Below.drew h.1,⟨h.2.1.size,h.2.1.same⟩,h.2.2⟩
theorem A3.set {V:World} {a:Addr} {cs:Array Value} {e:TypeId} {fr:Nat × Nat} (h:V.heap[a.block]?=some (.cells cs e fr)) (he:e≠23) (u:Value):A3 V (V.setCell a u):=fun k cs' fr' hk=>by
 refine(Below.heap_setCell V a u k (fun e1=>?_)).trans hk
 rw[e1,h]at hk
 injection hk with hk
 injection hk with _ hk _
 exact he hk
variable {b:Nat} {vn va:Value} {N:List Nd} {R:List (Tk × Nat)} {W W' w6:World}
theorem oO.lt (h:oO b vn va N R W):b<W.heap.size:=(Array.getElem?_eq_some_iff.1 h.1).1
theorem oO.below (h:oO b vn va N R W) (hb:Below W.heap.size W W'):oO b vn va N R W':=⟨(hb.block b h.lt).trans h.1,Ba.a6 h.2.1 hb,Ba.a6 h.2.2 hb⟩
theorem nG {B e size n:Nat} {v:Value} {xs:List Value} (h:W.ownsRow B e size v n xs) {g:Nat} (hg:v.ownBlock=some g):B≤g∧g<W.heap.size∧∃ cs,W.heap[g]?=some (.cells cs e (0,0)):=by
 rcases h.2 with⟨rfl,-⟩ | ⟨g',cap,cur,rfl,hb,hgb,-⟩
 ·cases hg
 ·have e:g'=g:=Option.some.inj hg
  subst e
  exact⟨hb,(Array.getElem?_eq_some_iff.1 hgb).1,cur,hgb⟩
theorem vE {B B' e e' s s' n n':Nat} {v v':Value} {xs xs':List Value} (h:W.ownsRow B e s v n xs) (h':W.ownsRow B' e' s' v' n' xs') (hne:e≠e'):v.ownBlock=none∨v.ownBlock≠v'.ownBlock:=by
 rcases h.2 with⟨rfl,-⟩ | ⟨g,cap,cur,rfl,hb,hgb,-⟩
 ·exact .inl rfl
 ·refine .inr (fun e1=>?_)
  obtain⟨-,-,cs,h2⟩:=nG h' (g:=g) e1.symm
  rw[hgb]at h2
  injection h2 with h2
  injection h2 with _ h2 _
  exact hne h2
theorem z6 {e n e2:Nat} {v:Value} {xs:List Value} {o:Obj} {cs:Array Value} {fr:Nat × Nat} (hrow:W.ownsRow (b+1) e 4 v n xs) (he:e≠23) (hbb:W.heap[b]?=some (.cells cs e2 fr)) (he2:e2≠23) (hb:b<W.heap.size) (hgrow:(W.alloc o).grownBy w6 v.ownBlock) (j:Nat) (u:Value) :
  w6.heap[b]?=W.heap[b]?∧lM b W (w6.setCell ⟨b,j,none⟩ u):=by
 have hlt:=hrow.lt
 have h1:w6.heap[b]?=W.heap[b]?:=(hgrow.block b (by simp;omega) (fun e1=>by have:=(hlt _ e1.symm).1;omega)).trans (Below.heap_alloc _ _ _ hb)
 have h2:Below b W w6:=((Below.refl _ W).alloc (by omega) _).grown hgrow (by simp;omega) (fun j ej=>by have:=(hlt j ej).1;omega)
 refine⟨h1,h2.setCell (p:=⟨b,j,none⟩) (Nat.le_refl _) _,?_,A3.trans (B:=w6) (fun k cs' fr' hk=>?_) (A3.set (a:=⟨b,j,none⟩) (h1.trans hbb) he2 u)⟩
 rotate_left
 ·have hkl:=(Array.getElem?_eq_some_iff.1 hk).1
  refine(hgrow.block k (by simp;omega) (fun e1=>?_)).trans ((Below.heap_alloc _ _ _ hkl).trans hk)
  obtain⟨-,-,cs2,h3⟩:=nG hrow (g:=k) e1.symm
  rw[h3]at hk
  injection hk with hk
  injection hk with _ hk _
  exact he hk
 refine((KeepsOthers.alloc W o).trans (KeepsOthers.of_grownBy hgrow fun j o' ej hj=>?_)).trans (KeepsOthers.setCell _ _ _)
 rcases(hrow.alloc o).2 with⟨rfl,_⟩ | ⟨g,cap,cur,rfl,_,hgb,_⟩
 ·simp[Value.ownBlock]at ej
 ·obtain rfl:g=j:=by simpa[Value.ownBlock] using ej
  rw[hgb]at hj;cases hj;rfl
theorem oO.node {o:Obj} {gg cap:Nat} {x:Nd} (h:oO b vn va N R W) (hgrow:(W.alloc o).grownBy w6 vn.ownBlock) (own6:w6.ownsRow (b+1) 188 4 (.slice (some ⟨gg,0,none⟩) (N.length+1) cap) (N.length+1) (Ba.rows cN (N++[x]))) :
  w6.heap[b]?=some (.cells #[vn,va] 141 (0,0))∧Z1 b (N++[x]) R (w6.setCell ⟨b,0,none⟩ (.slice (some ⟨gg,0,none⟩) (N.length+1) cap))∧lM b W (w6.setCell ⟨b,0,none⟩ (.slice (some ⟨gg,0,none⟩) (N.length+1) cap)):=by
 obtain⟨h1,h2,h3⟩:=h
 obtain⟨s1,s2⟩:=z6 h2 (by decide) h1 (by decide) (Array.getElem?_eq_some_iff.1 h1).1 hgrow 0 (.slice (some ⟨gg,0,none⟩) (N.length+1) cap)
 have h6:=s1.trans h1
 refine⟨h6,⟨.slice (some ⟨gg,0,none⟩) (N.length+1) cap,va,?_,?_,?_⟩,s2⟩
 ·simp only[World.setCell,Array.getElem?_modify,h6];rfl
 ·rw[List.length_append,List.length_singleton]
  exact ownsRow_setCell_below own6 (show b<b+1 by omega) _
 ·exact ownsRow_setCell_below ((h3.alloc o).kept hgrow (vE h3 h2 (by decide))) (show b<b+1 by omega) _
theorem oO.opened {o:Obj} {gg cap:Nat} {p:Tk × Nat} (h:oO b vn va N R W) (hgrow:(W.alloc o).grownBy w6 va.ownBlock) (own6:w6.ownsRow (b+1) 205 4 (.slice (some ⟨gg,0,none⟩) (R.length+1) cap) (R.length+1) (Ba.rows cO (R++[p]))) :
  w6.heap[b]?=some (.cells #[vn,va] 141 (0,0))∧oO b vn (.slice (some ⟨gg,0,none⟩) (R.length+1) cap) N (R++[p]) (w6.setCell ⟨b,1,none⟩ (.slice (some ⟨gg,0,none⟩) (R.length+1) cap))∧lM b W (w6.setCell ⟨b,1,none⟩ (.slice (some ⟨gg,0,none⟩) (R.length+1) cap)):=by
 obtain⟨h1,h2,h3⟩:=h
 obtain⟨s1,s2⟩:=z6 h3 (by decide) h1 (by decide) (Array.getElem?_eq_some_iff.1 h1).1 hgrow 1 (.slice (some ⟨gg,0,none⟩) (R.length+1) cap)
 have h6:=s1.trans h1
 refine⟨h6,⟨?_,?_,?_⟩,s2⟩
 ·simp only[World.setCell,Array.getElem?_modify,h6];rfl
 ·exact ownsRow_setCell_below ((h2.alloc o).kept hgrow (vE h2 h3 (by decide))) (show b<b+1 by omega) _
 ·rw[List.length_append,List.length_singleton]
  exact ownsRow_setCell_below own6 (show b<b+1 by omega) _
theorem oO.sized {g c s:Nat} {x:Nd} (h:oO b (.slice (some ⟨g,0,none⟩) N.length c) va N R W) (hx:N[s]?=some x) (z:Int) :
  oO b (.slice (some ⟨g,0,none⟩) N.length c) va (N.modify s (aU z)) R (W.setCell ⟨g,s * 4+3,none⟩ (.int .i64 z))∧lM b W (W.setCell ⟨g,s * 4+3,none⟩ (.int .i64 z)):=by
 obtain⟨h1,h2,h3⟩:=h
 obtain⟨hg,hgl,csg,hcg⟩:=nG h2 (g:=g) rfl
 have s1:=(h2.stored (s * 4+3) (.int .i64 z)).1
 rw[Ba.xZ cN NL N s x ⟨x.kind,x.text,x.place,z⟩ hx 3 _ (by omega) rfl]at s1
 have hset:N.modify s (aU z)=N.set s ⟨x.kind,x.text,x.place,z⟩:=(Nu.SS hx (aU z)).symm
 have hne:va.ownBlock≠some g:=fun e=>by
  rcases vE h3 h2 (by decide)with h4 | h4
  ·rw[h4]at e;cases e
  ·exact h4 e
 refine⟨⟨(Below.heap_setCell W _ _ b (fun e=>by have e:b=g:=e;omega)).trans h1,?_,Ba.fD h3 _ hne⟩,(Below.refl b W).setCell (p:=⟨g,s * 4+3,none⟩) (by show b≤g;omega) _,KeepsOthers.setCell _ _ _,A3.set (a:=⟨g,s * 4+3,none⟩) hcg (by decide) _⟩
 rw[hset,List.length_set];exact s1
theorem oO.aDY {g c:Nat} {p:Tk × Nat} (h:oO b vn (.slice (some ⟨g,0,none⟩) (R.length+1) c) N (R++[p]) W) :
  oO b vn (.slice (some ⟨g,0,none⟩) R.length c) N R (W.setCell ⟨b,1,none⟩ (.slice (some ⟨g,0,none⟩) R.length c))∧lM b W (W.setCell ⟨b,1,none⟩ (.slice (some ⟨g,0,none⟩) R.length c)):=by
 obtain⟨h1,h2,h3⟩:=h
 have hb:=(Array.getElem?_eq_some_iff.1 h1).1
 rw[List.length_append,List.length_singleton]at h3
 have h4:=Ba.xY h3 (m:=R.length) (by omega)
 rw[Ba.lN,List.take_append_of_le_length (by rw[Ba.dA cO vC];exact Nat.le_refl _),List.take_of_length_le (by rw[Ba.dA cO vC];exact Nat.le_refl _)]at h4
 refine⟨⟨?_,ownsRow_setCell_below h2 (show b<b+1 by omega) _,ownsRow_setCell_below h4 (show b<b+1 by omega) _⟩,(Below.refl b W).setCell (p:=⟨b,1,none⟩) (Nat.le_refl _) _,KeepsOthers.setCell _ _ _,A3.set (a:=⟨b,1,none⟩) h1 (by decide) _⟩
 simp only[World.setCell,Array.getElem?_modify,h1];rfl
end Go.Proofs.YthbigkoihpgcfaaGreatDoor.Fl
namespace Go.Proofs.YthbigkoihpgcfaaGreatDoor.Fl
open Go.RowKit Go.Shelf Tr Nu Nl Cn
attribute [local go_sem] Oper.semAt_some
theorem JY (c a:Nat) (z:Bool) (hz:nY c a=z) (w:World):Calls Tryz.prog 96 #[.int .u8 (c:Int),.int .u8 (a:Int)] w fun e w'=>e=.returned (.bool z)∧w'=w:=by
 have HZ:=hid hz
 clear hz
 by_cases h1:c=10
 ·subst h1
  go_enter Tryz.func96,Tryz.ntmps96
  go_wp2
  go_ret
  exact⟨Ba.aC HZ.out,rfl⟩
 ·have t1:((c:Int)==10)=false:=beq_eq_false_iff_ne.2 (by omega)
  by_cases h2:c=32
  ·subst h2
   by_cases h3:a=32
   ·subst h3
    go_enter Tryz.func96,Tryz.ntmps96
    go_wp2
    go_ret
    exact⟨Ba.aC HZ.out,rfl⟩
   ·have t3:((a:Int)==32)=false:=beq_eq_false_iff_ne.2 (by omega)
    have t4:((a:Int) != 32)=true:=by rw[bne,t3];rfl
    by_cases h4:a=0
    ·subst h4
     go_enter Tryz.func96,Tryz.ntmps96
     go_wp2
     go_ret
     exact⟨Ba.aC HZ.out,rfl⟩
    ·have t5:((a:Int)==0)=false:=beq_eq_false_iff_ne.2 (by omega)
     have t6:((a:Int) != 0)=true:=by rw[bne,t5];rfl
     have HT:=hid (show nY 32 a=true by unfold nY;rw[if_neg (by decide),if_pos rfl,decide_eq_true h3,decide_eq_true h4];rfl)
     clear h1 h3 h4
     go_enter Tryz.func96,Tryz.ntmps96
     go_wp2
     go_ret
     exact⟨Ba.aC (HT.out.symm.trans HZ.out),rfl⟩
  ·have t2:((c:Int)==32)=false:=beq_eq_false_iff_ne.2 (by omega)
   have HT:=hid (show nY c a=true by unfold nY;rw[if_neg h1,if_neg h2])
   clear h1 h2
   go_enter Tryz.func96,Tryz.ntmps96
   go_wp2
   go_ret
   exact⟨Ba.aC (HT.out.symm.trans HZ.out),rfl⟩
def AZ (c:Nat) (S:List Nat) (W:World):Prop:=∃ v,Boxed W c 89 v∧W.ownsRow (c+1) 5 1 v S.length (cY S)
def NW (c:Nat) (S:List Nat) (x:Tk) (W:World) (e:Ending) (W':World):Prop :=
 ∃ z,e=.returned (.bool z)∧Below c W W'∧((gV (some S) x=none∧z=true)∨∃ S',gV (some S) x=some S'∧z=false∧AZ c S' W')
theorem AZ.below {c:Nat} {S:List Nat} {W W':World} (h:AZ c S W) (hb:Below W.heap.size W W'):AZ c S W':=by
 obtain⟨v,h1,h2⟩:=h
 exact⟨v,(hb.block c h1.lt).trans h1,Ba.a6 h2 hb⟩
theorem AZ.lt {c:Nat} {S:List Nat} {W:World} (h:AZ c S W):c<W.heap.size:=by
 obtain⟨v,h1,-⟩:=h
 exact h1.lt
section
variable {c:Nat} {S:List Nat} {W:World}
abbrev EY (W:World) (kd:Int) (ch:Nat) (pl:Int):World:=W.alloc (.cells #[.int .i64 kd,.int .u8 (ch:Int),.int .i64 pl] 37)
theorem qP (h:AZ c S W) (kd:Int) (ch:Nat) (pl:Int):AZ c S (EY W kd ch pl)∧Below c W (EY W kd ch pl):=by
 have hb:Below W.heap.size W (EY W kd ch pl):=(Below.refl _ W).alloc (Nat.le_refl _) _
 exact⟨h.below hb,hb.mono (Nat.le_of_lt h.lt)⟩
theorem aBN (hS:AZ c [] W) (ch:Nat) (pl:Int):Calls Tryz.prog 95 #[.agg #[.int .i64 1,.int .u8 (ch:Int),.int .i64 pl],.pointer (some ⟨c,0,none⟩)] W (NW c [] ⟨1,ch,pl⟩ W):=by
 obtain⟨h1,h2⟩:=qP hS 1 ch pl
 obtain⟨v,hb,hown⟩:=h1
 obtain⟨Av,cv,rfl,-⟩:=eH hown
 have c0:=hb.cell
 have hcl:=hS.lt
 have c1:W.cell? ⟨c,0,none⟩=some (.slice Av 0 cv):=by
  have h:(EY W 1 ch pl).cell? ⟨c,0,none⟩=W.cell? ⟨c,0,none⟩:=World.cell?_of_block (a:=⟨c,0,none⟩) (Below.heap_alloc W _ c hcl)
  rw[← h];exact c0
 have HB:=hid h2
 clear hb hown h2 hS c0
 go_enter Tryz.func95,Tryz.ntmps95
 go_wp2
 go_quiet (fail)
 go_wp2
 go_ret
 exact⟨true,rfl,Ba.below_drewN HB.out _,.inl ⟨rfl,rfl⟩⟩
theorem AB {S0:List Nat} {a:Nat} (hS:AZ c (S0++[a]) W):∃ gs cap,Boxed W c 89 (.slice (some ⟨gs,0,none⟩) (S0.length+1) cap)∧W.ownsRow (c+1) 5 1 (.slice (some ⟨gs,0,none⟩) (S0.length+1) cap) (S0.length+1) (cY (S0++[a]))∧W.cell? ⟨gs,S0.length,none⟩=some (.int .u8 (a:Int))∧S0.length+1≤cap∧c+1≤gs∧gs<W.heap.size:=by
 obtain⟨v,hb,hown⟩:=hS
 rw[List.length_append,List.length_singleton]at hown
 obtain⟨gs,cap,rfl,h1,h2,h3⟩:=Ba.dS hown (by omega)
 refine⟨gs,cap,hb,hown,?_,h3,h2,h1⟩
 rw[hown.cellAt S0.length (by omega)]
 unfold cY
 rw[List.map_append,List.getElem?_append_right (by simp)]
 simp
theorem aBO {S0:List Nat} {a:Nat} (hS:AZ c (S0++[a]) W) (ch:Nat) (pl:Int) (hz:nY ch a=false):Calls Tryz.prog 95 #[.agg #[.int .i64 1,.int .u8 (ch:Int),.int .i64 pl],.pointer (some ⟨c,0,none⟩)] W (NW c (S0++[a]) ⟨1,ch,pl⟩ W):=by
 have hst:gV (some (S0++[a])) ⟨1,ch,pl⟩=none:=by
  rw[ER rfl]
  unfold chW
  simp only[]
  rw[List.getLast?_concat]
  simp only[]
  rw[if_neg (by rw[hz];decide)]
 have hxl:=hS.lt
 obtain⟨h1,h2⟩:=qP hS 1 ch pl
 obtain⟨gs,cap,hb,hown,s0,hcap,-,-⟩:=AB h1
 obtain⟨W1,hW1⟩:∃ W1,EY W 1 ch pl=W1:=⟨_,rfl⟩
 have hx1:W1.heap[W.heap.size]?=some (.cells #[.int .i64 1,.int .u8 (ch:Int),.int .i64 pl] 37 (0,0)):=by rw[← hW1];exact World.alloc_heap_new W _
 rw[hW1]at hb hown s0 h2
 have hW1:W.alloc (.cells #[.int .i64 1,.int .u8 (ch:Int),.int .i64 pl] 37)=W1:=hW1
 obtain⟨xb,hxb⟩:∃ xb,W.heap.size=xb:=⟨_,rfl⟩
 rw[hxb]at hx1
 have c0:=hb.cell
 have x0:W1.cell? ⟨xb,0,none⟩=some (.int .i64 1):=by rw[Lib.cell_of_heap hx1];rfl
 have x1:W1.cell? ⟨xb,1,none⟩=some (.int .u8 (ch:Int)):=by rw[Lib.cell_of_heap hx1];rfl
 obtain⟨r,hr⟩:∃ r,S0.length=r:=⟨_,rfl⟩
 rw[hr]at c0 s0 hcap
 have hr9:r≤maxLen:=by
  have:=(eH hown)
  obtain⟨A1,c1,e,h3,h4,-⟩:=this
  injection e with _ _ e
  omega
 unfold maxLen at hr9
 have HZ:=hid hz
 have HB:=hid h2
 have HST:=hid hst
 have r0:(0:Int)≤(r:Int):=by omega
 have r1:(r:Int)<(r:Int)+1:=by omega
 have r2:r<r+1:=by omega
 have r3:(r:Int)<((r+1:Nat):Int):=by omega
 clear h1 hb hown hx1 hr hz h2 hst
 go_enter Tryz.func95,Tryz.ntmps95
 go_wp2
 go_quiet ((go_at_call 96;exact Calls.quiet_of_same (JY ch a false HZ.out _)))
 go_wp2
 go_ret
 exact⟨true,rfl,Ba.below_drewN HB.out _,.inl ⟨HST.out,rfl⟩⟩
theorem room_le {S0:List Nat} {gs cap:Nat} {xs:List Value} (hown:W.ownsRow (c+1) 5 1 (.slice (some ⟨gs,0,none⟩) (S0.length+1) cap) (S0.length+1) xs):S0.length≤9223372036854775806:=by
 obtain⟨A1,c1,e,h3,h4,-⟩:=eH hown
 injection e with _ _ e
 unfold maxLen at h3
 omega
theorem aBP {S0:List Nat} {a:Nat} (hS:AZ c (S0++[a]) W) (ch:Nat) (pl:Int) (hz:nY ch a=true):Calls Tryz.prog 95 #[.agg #[.int .i64 1,.int .u8 (ch:Int),.int .i64 pl],.pointer (some ⟨c,0,none⟩)] W (NW c (S0++[a]) ⟨1,ch,pl⟩ W):=by
 have hst:gV (some (S0++[a])) ⟨1,ch,pl⟩=some (S0++[ch]):=by
  rw[ER rfl]
  unfold chW
  simp only[]
  rw[List.getLast?_concat]
  simp only[]
  rw[if_pos hz,List.dropLast_concat]
 have hxl:=hS.lt
 obtain⟨h1,h2⟩:=qP hS 1 ch pl
 obtain⟨gs,cap,hb,hown,s0,hcap,hgc,hgl⟩:=AB h1
 obtain⟨W1,hW1⟩:∃ W1,EY W 1 ch pl=W1:=⟨_,rfl⟩
 have hx1:W1.heap[W.heap.size]?=some (.cells #[.int .i64 1,.int .u8 (ch:Int),.int .i64 pl] 37 (0,0)):=by rw[← hW1];exact World.alloc_heap_new W _
 rw[hW1]at hb hown s0 h2 hgl
 have hW1:W.alloc (.cells #[.int .i64 1,.int .u8 (ch:Int),.int .i64 pl] 37)=W1:=hW1
 obtain⟨xb,hxb⟩:∃ xb,W.heap.size=xb:=⟨_,rfl⟩
 rw[hxb]at hx1
 have hr9:=room_le hown
 have c0:=hb.cell
 have x0:W1.cell? ⟨xb,0,none⟩=some (.int .i64 1):=by rw[Lib.cell_of_heap hx1];rfl
 have x1:W1.cell? ⟨xb,1,none⟩=some (.int .u8 (ch:Int)):=by rw[Lib.cell_of_heap hx1];rfl
 have f0:=hown.frozenAt S0.length
 obtain⟨r,hr⟩:∃ r,S0.length=r:=⟨_,rfl⟩
 have HFIN:=hid (fun(n:Nat)=>(show Below c W ((W1.drewN n).setCell ⟨gs,r,none⟩ (.int .u8 (ch:Int)))∧AZ c (S0++[ch]) ((W1.drewN n).setCell ⟨gs,r,none⟩ (.int .u8 (ch:Int))) from by
  refine⟨(Ba.below_drewN h2 n).setCell (p:=⟨gs,r,none⟩) (by show c≤gs;omega) _,?_⟩
  have hb2:Boxed (W1.drewN n) c 89 (.slice (some ⟨gs,0,none⟩) (S0.length+1) cap):=hb
  have hown2:(W1.drewN n).ownsRow (c+1) 5 1 (.slice (some ⟨gs,0,none⟩) (S0.length+1) cap) (S0.length+1) (cY (S0++[a])):=hown
  refine⟨.slice (some ⟨gs,0,none⟩) (S0.length+1) cap,(Below.heap_setCell _ _ _ c (fun e=>by have e:c=gs:=e;omega)).trans hb2,?_⟩
  have h:=(hown2.stored r (.int .u8 (ch:Int))).1
  have e:(cY (S0++[a])).set r (.int .u8 (ch:Int))=cY (S0++[ch]):=by
   unfold cY
   rw[List.map_append,List.map_append,List.set_append_right _ _ (by rw[List.length_map];omega),List.length_map,hr,Nat.sub_self];rfl
  rw[e]at h
  rw[List.length_append,List.length_singleton]
  exact h))
 rw[hr]at c0 s0 hcap f0 hr9
 have HZ:=hid hz
 have HST:=hid hst
 have r0:(0:Int)≤(r:Int):=by omega
 have r1:(r:Int)<(r:Int)+1:=by omega
 have r2:r<r+1:=by omega
 have r3:(r:Int)<((r+1:Nat):Int):=by omega
 clear h1 hb hown hx1 hr hz h2 hst
 go_enter Tryz.func95,Tryz.ntmps95
 go_wp2
 go_quiet ((go_at_call 96;exact Calls.quiet_of_same (JY ch a true HZ.out _)))
 go_wp2
 go_ret
 obtain⟨q1,q2⟩:=HFIN.out _
 exact⟨false,rfl,q1,.inr ⟨_,HST.out,rfl,q2⟩⟩
theorem XQ {S:List Nat} (hS:AZ c S W) (kd:Int) (ch:Nat) (hch:ch<256) (pl:Int) (hk:kd≠1) (hf:dF ch=false):Calls Tryz.prog 95 #[.agg #[.int .i64 kd,.int .u8 (ch:Int),.int .i64 pl],.pointer (some ⟨c,0,none⟩)] W (NW c S ⟨kd,ch,pl⟩ W):=by
 have hst:gV (some S) ⟨kd,ch,pl⟩=some S:=by
  unfold gV
  rw[if_neg hk]
  simp only[]
  rw[if_pos hf]
 have hxl:=hS.lt
 obtain⟨h1,h2⟩:=qP hS kd ch pl
 obtain⟨W1,hW1⟩:∃ W1,EY W kd ch pl=W1:=⟨_,rfl⟩
 have hx1:W1.heap[W.heap.size]?=some (.cells #[.int .i64 kd,.int .u8 (ch:Int),.int .i64 pl] 37 (0,0)):=by rw[← hW1];exact World.alloc_heap_new W _
 rw[hW1]at h1 h2
 have HS1:=hid h1
 obtain⟨v,hb,hown⟩:=h1
 obtain⟨Av,cv,rfl,hcv,hlc,-⟩:=eH hown
 have hW1:W.alloc (.cells #[.int .i64 kd,.int .u8 (ch:Int),.int .i64 pl] 37)=W1:=hW1
 obtain⟨xb,hxb⟩:∃ xb,W.heap.size=xb:=⟨_,rfl⟩
 rw[hxb]at hx1
 have c0:=hb.cell
 have x0:W1.cell? ⟨xb,0,none⟩=some (.int .i64 kd):=by rw[Lib.cell_of_heap hx1];rfl
 have x1:W1.cell? ⟨xb,1,none⟩=some (.int .u8 (ch:Int)):=by rw[Lib.cell_of_heap hx1];rfl
 have hs9:S.length≤9223372036854775806+1:=by unfold maxLen at hcv;omega
 obtain⟨ix,hix⟩:∃ ix,Lib.indexByte rX.data.toList ((ch:Nat):Int).toNat.toUInt8=ix:=⟨_,rfl⟩
 have hneg:decide (0≤ix)=false:=by rw[← hix,XR hch];exact hf
 have t2:decide (ix<0)=true:=decide_eq_true (by have:=of_decide_eq_false hneg;omega)
 have t1:(kd==1)=false:=beq_eq_false_iff_ne.2 hk
 have HIX:=hid hix
 have HST:=hid hst
 have HB:=hid h2
 clear hb hown hx1 h2 hst hix hneg hk hf
 go_enter Tryz.func95,Tryz.ntmps95
 go_wp2_with (go_at_call 97;refine(xW ch ix HIX.out _).mono ?_;rintro e w' ⟨rfl,rfl⟩)
 go_ret
 exact⟨false,rfl,HB.out,.inr ⟨_,HST.out,rfl,HS1.out⟩⟩
theorem aBQ {S:List Nat} (hS:AZ c S W) (hS9:S.length≤200000) (ch:Nat) (hch:ch<256) (pl:Int) (hf:dF ch=true):Calls Tryz.prog 95 #[.agg #[.int .i64 2,.int .u8 (ch:Int),.int .i64 pl],.pointer (some ⟨c,0,none⟩)] W (NW c S ⟨2,ch,pl⟩ W):=by
 obtain⟨i0,hi0,hz0,hz1,hz2⟩:=info_parts XI
 have hst:gV (some S) ⟨2,ch,pl⟩=some (S++[0]):=by
  rw[PO rfl]
  show some (if dF ch=true then S++[0] else S)=_
  rw[if_pos hf]
 have hxl:=hS.lt
 obtain⟨h1,h2⟩:=qP hS 2 ch pl
 obtain⟨W1,hW1⟩:∃ W1,EY W 2 ch pl=W1:=⟨_,rfl⟩
 have hx1:W1.heap[W.heap.size]?=some (.cells #[.int .i64 2,.int .u8 (ch:Int),.int .i64 pl] 37 (0,0)):=by rw[← hW1];exact World.alloc_heap_new W _
 rw[hW1]at h1 h2
 have hcl1:=h1.lt
 obtain⟨v,hb,hown⟩:=h1
 obtain⟨Av,cv,rfl,hcv,hlc,-⟩:=eH hown
 have hW1:W.alloc (.cells #[.int .i64 2,.int .u8 (ch:Int),.int .i64 pl] 37)=W1:=hW1
 obtain⟨xb,hxb⟩:∃ xb,W.heap.size=xb:=⟨_,rfl⟩
 rw[hxb]at hx1
 obtain⟨r,hr⟩:∃ r,S.length=r:=⟨_,rfl⟩
 rw[hr]at hb hown hS9
 have c0:=hb.cell
 have x0:W1.cell? ⟨xb,0,none⟩=some (.int .i64 2):=by rw[Lib.cell_of_heap hx1];rfl
 have x1:W1.cell? ⟨xb,1,none⟩=some (.int .u8 (ch:Int)):=by rw[Lib.cell_of_heap hx1];rfl
 obtain⟨ix,hix⟩:∃ ix,Lib.indexByte rX.data.toList ((ch:Nat):Int).toNat.toUInt8=ix:=⟨_,rfl⟩
 have hneg:decide (0≤ix)=true:=by rw[← hix,XR hch];exact hf
 have t2:decide (ix<0)=false:=decide_eq_false (by have:=of_decide_eq_true hneg;omega)
 have HIX:=hid hix
 have HST:=hid hst
 have HB:=hid h2
 have HOW:=hid hown
 have HLT:=hid hown.lt
 have HBX:=hid hb
 have HR:=hid hr
 clear hb hown hx1 h2 hst hix hneg hf hr
 go_enter Tryz.func95,Tryz.ntmps95
 go_wp2_with (first
  |(go_at_call 97;refine(xW ch ix HIX.out _).mono ?_;rintro e w' ⟨rfl,rfl⟩)
  |(at_builtin;refine wpList_append_own _ rfl _ _ 89 rfl (c+1) 5 i0 _ 1 1 Tryz.underlying89 hi0 hz0 hz1 hz2 rfl (by decide) _ _ _ rfl (HOW.out.alloc _) ⟨W1.heap.size,0,none⟩ 1 1 [.int .u8 0] rfl rfl (World.news_of_block (cs:=#[.int .u8 0]) (t:=5) (fr:=(0,0)) (heap_alloc_new W1 _)) (by simp[Value.oneCell']) (by unfold maxLen;omega) (by omega) (by simp;omega) ?_;intro v' w9 hown' hgrow _;obtain⟨g',cap',rfl⟩:=ownsRow_succ hown';have hb9:=(HBX.out.alloc _).kept hgrow (fun e=>by have:=(HLT.out _ e.symm).1;omega);have b9:=hb9.cell;have f9:=hb9.frozen;have HB9:=hid hb9;have HO9:=hid hown';have HG9:=hid (((Below.refl c W1).alloc (Nat.le_of_lt hcl1) _).grown hgrow (by simp;omega) (fun j ej=>by have:=(HLT.out j ej).1;omega));clear hb9 hown' hgrow))
 go_ret
 refine⟨false,rfl,(HB.out.trans HG9.out).setCell (p:=⟨c,0,none⟩) (Nat.le_refl _) _,.inr ⟨_,HST.out,rfl,⟨_,HB9.out.set _,?_⟩⟩⟩
 rw[List.length_append,List.length_singleton,HR.out,JZ]
 exact ownsRow_setCell_below HO9.out (show c<c+1 by omega) _
theorem XS {S0:List Nat} {a:Nat} (hS:AZ c (S0++[a]) W) (ch:Nat) (hch:ch<256) (pl:Int) (hf:dF ch=true):Calls Tryz.prog 95 #[.agg #[.int .i64 3,.int .u8 (ch:Int),.int .i64 pl],.pointer (some ⟨c,0,none⟩)] W (NW c (S0++[a]) ⟨3,ch,pl⟩ W):=by
 have hst:gV (some (S0++[a])) ⟨3,ch,pl⟩=if a=32 then none else some S0:=by
  rw[PQ rfl]
  show (if dF ch=false then _ else _)=_
  rw[if_neg (by rw[hf];decide),List.getLastD_concat,List.dropLast_concat]
 have hxl:=hS.lt
 obtain⟨h1,h2⟩:=qP hS 3 ch pl
 obtain⟨gs,cap,hb,hown,s0,hcap,hgc,hgl⟩:=AB h1
 obtain⟨W1,hW1⟩:∃ W1,EY W 3 ch pl=W1:=⟨_,rfl⟩
 have hx1:W1.heap[W.heap.size]?=some (.cells #[.int .i64 3,.int .u8 (ch:Int),.int .i64 pl] 37 (0,0)):=by rw[← hW1];exact World.alloc_heap_new W _
 rw[hW1]at hb hown s0 h2 hgl
 have hW1:W.alloc (.cells #[.int .i64 3,.int .u8 (ch:Int),.int .i64 pl] 37)=W1:=hW1
 obtain⟨xb,hxb⟩:∃ xb,W.heap.size=xb:=⟨_,rfl⟩
 rw[hxb]at hx1
 have hr9:=room_le hown
 have c0:=hb.cell
 have f0:=hb.frozen
 have x0:W1.cell? ⟨xb,0,none⟩=some (.int .i64 3):=by rw[Lib.cell_of_heap hx1];rfl
 have x1:W1.cell? ⟨xb,1,none⟩=some (.int .u8 (ch:Int)):=by rw[Lib.cell_of_heap hx1];rfl
 obtain⟨r,hr⟩:∃ r,S0.length=r:=⟨_,rfl⟩
 have HFIN:=hid (show Below c W (W1.setCell ⟨c,0,none⟩ (.slice (some ⟨gs,0,none⟩) r cap))∧AZ c S0 (W1.setCell ⟨c,0,none⟩ (.slice (some ⟨gs,0,none⟩) r cap)) from by
  refine⟨h2.setCell (p:=⟨c,0,none⟩) (Nat.le_refl _) _,?_⟩
  refine⟨.slice (some ⟨gs,0,none⟩) r cap,hb.set _,?_⟩
  have h:=Ba.xY hown (m:=S0.length) (by omega)
  have e:(cY (S0++[a])).take (S0.length * 1)=cY S0:=by
   unfold cY
   rw[List.map_append,Nat.mul_one,List.take_append_of_le_length (by rw[List.length_map];exact Nat.le_refl _),List.take_of_length_le (by rw[List.length_map];exact Nat.le_refl _)]
  rw[e]at h
  rw[← hr]
  exact ownsRow_setCell_below h (show c<c+1 by omega) _)
 rw[hr]at c0 s0 hcap hr9
 obtain⟨ix,hix⟩:∃ ix,Lib.indexByte rX.data.toList ((ch:Nat):Int).toNat.toUInt8=ix:=⟨_,rfl⟩
 have hneg:decide (0≤ix)=true:=by rw[← hix,XR hch];exact hf
 have t2:decide (ix<0)=false:=decide_eq_false (by have:=of_decide_eq_true hneg;omega)
 have HIX:=hid hix
 have HST:=hid hst
 have r0:(0:Int)≤(r:Int):=by omega
 have r1:(r:Int)<(r:Int)+1:=by omega
 have r2:r<r+1:=by omega
 have r3:(r:Int)<((r+1:Nat):Int):=by omega
 clear h1 hb hown hx1 hr h2 hst hix hneg hf
 by_cases h32:a=32
 ·have HN:=hid (HST.out.trans (if_pos h32))
  subst h32
  clear HST
  go_enter Tryz.func95,Tryz.ntmps95
  go_wp2_with (go_at_call 97;refine(xW ch ix HIX.out _).mono ?_;rintro e w' ⟨rfl,rfl⟩)
  go_ret
  exact⟨true,rfl,HFIN.out.1,.inl ⟨HN.out,rfl⟩⟩
 ·have t3:((a:Int)==32)=false:=beq_eq_false_iff_ne.2 (by omega)
  have HN:=hid (HST.out.trans (if_neg h32))
  clear h32 HST
  go_enter Tryz.func95,Tryz.ntmps95
  go_wp2_with (go_at_call 97;refine(xW ch ix HIX.out _).mono ?_;rintro e w' ⟨rfl,rfl⟩)
  go_ret
  exact⟨false,rfl,HFIN.out.1,.inr ⟨_,HN.out,rfl,HFIN.out.2⟩⟩
theorem aD0 {S:List Nat} (hS:AZ c S W) (hS9:S.length≤200000) (kd:Int) (ch:Nat) (hch:ch<256) (pl:Int) (hk:kd=1∨kd=2∨kd=3) (hth:kd=3→dF ch=true→S≠[]) :
  Calls Tryz.prog 95 #[.agg #[.int .i64 kd,.int .u8 (ch:Int),.int .i64 pl],.pointer (some ⟨c,0,none⟩)] W (NW c S ⟨kd,ch,pl⟩ W):=by
 by_cases k1:kd=1
 ·subst k1
  rcases List.eq_nil_or_concat S with rfl | ⟨S0,a,rfl⟩
  ·exact aBN hS ch pl
  ·rw[List.concat_eq_append]at hS ⊢
   cases hz:nY ch a
   ·exact aBO hS ch pl hz
   ·exact aBP hS ch pl hz
 ·cases hf:dF ch
  ·exact XQ hS kd ch hch pl k1 hf
  ·by_cases k2:kd=2
   ·subst k2
    exact aBQ hS hS9 ch hch pl hf
   ·have k3:kd=3:=by omega
    subst k3
    rcases List.eq_nil_or_concat S with rfl | ⟨S0,a,rfl⟩
    ·exact absurd rfl (hth rfl hf)
    ·rw[List.concat_eq_append]at hS ⊢
     exact XS hS ch hch pl hf
end
end Go.Proofs.YthbigkoihpgcfaaGreatDoor.Fl
namespace Go.Proofs.YthbigkoihpgcfaaGreatDoor.Fl
open Go.RowKit Go.Shelf Tr Nu Nl Cn
variable {b:Nat} {vn va:Value} {N:List Nd} {R:List (Tk × Nat)} {W W' w6:World}
theorem NU (n:Nat):(madeCells (Value.cells (.int .u8 0)) (n * 1)).toList=cY (List.replicate n 0):=by
 apply List.ext_getElem?
 intro j
 rcases Nat.lt_or_ge j n with hj | hj
 ·unfold madeCells cY
  simp only[Array.toList_map,Array.toList_range,List.getElem?_map,Nat.mul_one,List.getElem?_range hj,Option.map_some,List.getElem?_replicate,if_pos hj]
  show some ((#[Value.int .u8 0])[j % 1]!)=_
  rw[Nat.mod_one];rfl
 ·rw[List.getElem?_eq_none (by rw[Array.length_toList,size_madeCells];omega),List.getElem?_eq_none (by unfold cY;simp;omega)]
def lD (l:List Nat) (k:Nat):List Nat:=l.take k++List.replicate (l.length - k) 0
theorem SU (l:List Nat) (k:Nat) (c:Nat) (h:l[k]?=some c):(lD l k).set k c=lD l (k+1):=by
 have hk:=(List.getElem?_eq_some_iff.1 h).1
 unfold lD
 rw[List.set_append_right _ _ (by rw[List.length_take];omega),List.length_take,Nat.min_eq_left (Nat.le_of_lt hk),Nat.sub_self,List.take_add_one,h]
 obtain⟨n,hn⟩:∃ n,l.length - k=n+1:=⟨l.length - k - 1,by omega⟩
 rw[hn,show l.length - (k+1)=n by omega,List.replicate_succ]
 simp
theorem SV (l:List Nat) (k:Nat) (h:k≤l.length):(lD l k).length=l.length:=by unfold lD;rw[List.length_append,List.length_take,List.length_replicate];omega
theorem aDZ (hG:oO b vn va N R W) (hN:N.length≤200000) (g off m c:Nat) (part:List Tk) (hm:part.length=m) (h0:0<m) (hm9:m≤200000) (_hmc:m≤c) (hch:∀ x ∈ part,x.ch<256) (x0:Tk) (hx0:part[0]?=some x0) (hg:g<b)
  (hcell:∀ k x,part[k]?=some x→∀ j u,(cT x)[j]?=some u→W.cell? ⟨g,off+(k * 3+j),none⟩=some u) :
  Calls Tryz.prog 135 #[.pointer (some ⟨b,0,none⟩),.slice (some ⟨g,off,none⟩) m c] W fun e W'=>e=.returned (.tuple #[])∧Z1 b (N++[⟨46,Lx.bytesOf (part.map Tk.ch),x0.place,1⟩]) R W'∧lM b W W':=by
 obtain⟨i0,hi0,hz0,hz1,hz2⟩:=info_parts XI
 obtain⟨j0,hj0,gz0,gz1,gz2⟩:=info_parts JF
 have HG:=hid hG
 have hbl:=hG.lt
 have HC:=hid hcell
 have HM:=hid hm
 have HCH:=hid hch
 have HX0:=hid hx0
 have HN:=hid hN
 obtain⟨bs,hbs⟩:∃ bs,part.map Tk.ch=bs:=⟨_,rfl⟩
 have hbl2:bs.length=m:=by rw[← hbs,List.length_map,hm]
 have hbs8:∀ c ∈ bs,c<256:=fun c hc=>by
  rw[← hbs]at hc
  obtain⟨x,hx,rfl⟩:=List.mem_map.1 hc
  exact HCH.out x hx
 have HAT:=hid (fun(k:Nat) (x:Tk) (hx:part[k]?=some x)=>(show bs[k]?=some x.ch by rw[← hbs,List.getElem?_map,hx];rfl))
 have hmk:∃ W1,(Instr.makeSlice 89 (.int .i64 (m:Int)) (.int .i64 (m:Int))).run Tryz.prog W=.ok (.slice (some ⟨W.heap.size,0,none⟩) m m) W1∧W1.ownsRow W.heap.size 5 1 (.slice (some ⟨W.heap.size,0,none⟩) m m) m (cY (List.replicate m 0))∧Below W.heap.size W W1:=by
  have h:=run_make (P:=Tryz.prog) W 89 5 i0 (.int .u8 0) Tryz.underlying89 hi0 hz0 .i64 .i64 (m:Int) (m:Int) (by omega) (Int.le_refl _) (by rw[hz2];omega) (by omega)
  simp only[Int.toNat_natCast,hz1]at h
  refine⟨_,h,?_,(Below.refl _ W).alloc (Nat.le_refl _) _⟩
  have h2:=World.ownsRow_lit (base:=W.heap.size) (e:=5) (size:=1) W (madeCells (Value.cells (.int .u8 0)) (m * 1)) m (Nat.le_refl _) (by unfold maxLen;omega) (size_madeCells _ _)
  rw[NU]at h2
  exact h2
 obtain⟨W1,hmk,hown1,hb1⟩:=hmk
 have hfill0:lD bs 0=List.replicate m 0:=by unfold lD;rw[hbl2];simp
 have HST:=hid (show W1.ownsRow W.heap.size 5 1 (.slice (some ⟨W.heap.size,0,none⟩) m m) m (cY (lD bs 0))∧Below W.heap.size W W1 from ⟨by rw[hfill0];exact hown1,hb1⟩)
 have HBL:=hid hbl2
 have HBS:=hid hbs
 have HB8:=hid hbs8
 obtain⟨s,hs⟩:∃ s,Lx.bytesOf bs=s:=⟨_,rfl⟩
 obtain⟨pl,hpl⟩:∃ pl,x0.place=pl:=⟨_,rfl⟩
 rw[hbs,hs,hpl]
 have HSS:=hid hs
 have HPL:=hid hpl
 clear hG hcell hm hch hx0 hN hown1 hb1 hfill0 hbl2 hbs hbs8 hs hpl
 go_enter Tryz.func135,Tryz.ntmps135
 go_wp2
 clear hmk
 go_loopw [12] (fun u12 wr=>∃ k:Nat,u12=.int .i64 (k:Int)∧k≤m∧wr.ownsRow W.heap.size 5 1 (.slice (some ⟨W.heap.size,0,none⟩) m m) m (cY (lD bs k))∧Below W.heap.size W wr) (fun u12 _=>m - (intOf u12).toNat)
 case atStart=>exact⟨0,rfl,Nat.zero_le _,HST.out.1,HST.out.2⟩
 case round =>
  obtain⟨k,rfl,hk,own,hB⟩:=hrel
  have k0:(0:Int)≤(k:Int):=by omega
  have hBs:=hB.size
  by_cases hlt:k<m
  ·obtain⟨⟨kd,ch,pl⟩,hx⟩:∃ x,part[k]?=some x:=⟨_,List.getElem?_eq_getElem (by rw[HM.out];exact hlt)⟩
   obtain⟨c0,c1,c2⟩:=pM HC.out k _ hx
   simp only[]at c0 c1 c2
   rw[← hB.cell (p:=⟨g,_,none⟩) (show g<W.heap.size by omega)]at c0 c1 c2
   have hc8:=HAT.out k _ hx
   have hgl:g<wr.heap.size:=by omega
   have hown2:=own.alloc (.cells #[.int .i64 kd,.int .u8 (ch:Int),.int .i64 pl] 37)
   have f1:(wr.alloc (.cells #[.int .i64 kd,.int .u8 (ch:Int),.int .i64 pl] 37)).frozen? ⟨W.heap.size,k,none⟩=false:=hown2.frozenAt k
   have e1:=hown2.cellAt k (by omega)
   obtain⟨u,hu⟩:∃ u,(cY (lD bs k))[k]?=some u:=⟨_,List.getElem?_eq_getElem (by unfold cY;rw[List.length_map,SV _ _ (by rw[HBL.out];exact hk),HBL.out];exact hlt)⟩
   rw[hu]at e1
   have HNX:=hid (show World.ownsRow ((wr.setCell ⟨W.heap.size,k,none⟩ (.int .u8 (ch:Int))).alloc (.cells #[.int .i64 kd,.int .u8 (ch:Int),.int .i64 pl] 37)) W.heap.size 5 1 (.slice (some ⟨W.heap.size,0,none⟩) m m) m (cY (lD bs (k+1))) from by
    have h:=(own.stored k (.int .u8 (ch:Int))).1
    have e:(cY (lD bs k)).set k (.int .u8 (ch:Int))=cY (lD bs (k+1)):=by
     rw[← SU bs k ch hc8]
     unfold cY
     rw[List.map_set]
    rw[e]at h
    exact h.alloc _)
   have HB:=hid hB
   have k1:(k:Int)<(m:Int):=by omega
   have hlb:W.heap.size<wr.heap.size:=(nG own (g:=W.heap.size) rfl).2.1
   clear hx hown2 hu own hB hc8
   go_wp2
   go_roundw
   case rel=>exact⟨k+1,by go_num,by omega,HNX.out,(HB.out.setCell (p:=⟨W.heap.size,k,none⟩) (Nat.le_refl _) _).alloc (by simp;omega) _⟩
   case measure=>simp[intOf];omega
  ·obtain rfl:k=m:=by omega
   have hfull:lD bs k=bs:=by unfold lD;rw[← HBL.out,List.take_length,Nat.sub_self,List.replicate_zero,List.append_nil]
   rw[hfull]at own
   have hcv:=XJ wr.drew (l:=bs) HB8.out (by rw[HBL.out];exact own) (by rw[HBL.out];exact h0)
   obtain⟨c0,c1,c2⟩:=pM HC.out 0 x0 HX0.out
   rw[← hB.cell (p:=⟨g,_,none⟩) (show g<W.heap.size by omega)]at c2
   rw[Nat.zero_mul,Nat.add_zero]at c2
   have hGr:=HG.out.below hB
   have b0:wr.cell? ⟨b,0,none⟩=some vn:=by rw[Lib.cell_of_heap hGr.1];rfl
   have HMO:=hid (fun(o:Obj) (w6:World) (gg cap:Nat) hgrow own6=>hGr.node (x:=⟨46,Lx.bytesOf bs,x0.place,1⟩) (o:=o) (w6:=w6) (gg:=gg) (cap:=cap) hgrow own6)
   have HOO:=hid hGr.2.1
   have HB:=hid (show lM b W wr from lM.of (by omega) hB)
   have hN9:=HN.out
   have hbl1:b+1≤wr.heap.size:=by omega
   have hbl0:b<wr.heap.size:=by omega
   obtain⟨An,cn,rfl,-⟩:=eH hGr.2.1
   obtain⟨nn,hnn⟩:∃ nn,N.length=nn:=⟨_,rfl⟩
   rw[HSS.out]at hcv
   rw[HSS.out,HPL.out]at HMO
   rw[HPL.out]at c2
   rw[hnn]at b0 HMO HOO hN9
   have hgl:g<wr.heap.size:=by omega
   clear own hB hfull c0 c1 hGr hnn HG HC HX0 HST HB8 HAT
   go_upto_region 6 with fail
   go_region_law
    ((refine step_append_lies _ (by rfl) _ _ _ (by rfl) (b+1) 188 j0 _ 4 40 Tryz.underlying78 hj0 gz0 gz1 gz2 rfl (by omega) (.slice An nn cn) nn _ (by rfl) ((HOO.out.alloc _).drew) ⟨wr.heap.size,0,none⟩ 1 1 [.int .u8 46,.string s,.int .i64 pl,.int .i64 1] (by rfl) (by rfl) (World.news_of_block (cs:=#[.int .u8 46,.string s,.int .i64 pl,.int .i64 1]) (t:=188) (fr:=(0,0)) (heap_alloc_new wr _)) (by simp[Value.oneCell']) (by omega) (by unfold maxLen;omega) (by omega) (by simp;omega) (wr.heap.size+1) (by simp) ?_;intro gg cap w6 hown6 hgrow6 hat6 hlt6;obtain⟨hg6,hf6,hst6⟩:=HMO.out _ w6 gg cap ⟨hgrow6.os,hgrow6.tape,hgrow6.output,hgrow6.size,hgrow6.block⟩ (by rw[Ba.kJ];exact hown6);have hc6:w6.cell? ⟨b,0,none⟩=some (.slice An nn cn):=(by rw[Lib.cell_of_heap hg6];rfl);have hz6:w6.frozen? ⟨b,0,none⟩=false:=Lib.frozen_of_heap hg6 0;have HF6:=hid hf6;have HS6:=hid hst6;clear hf6 hst6 hg6 hgrow6 hat6 hlt6 hown6))
   all_goals
    go_end0
    exact⟨rfl,HF6.out,HB.out.trans HS6.out⟩
end Go.Proofs.YthbigkoihpgcfaaGreatDoor.Fl
namespace Go.Proofs.YthbigkoihpgcfaaGreatDoor.Fl
open Go.RowKit Go.Shelf Tr Nu Nl Cn
variable {b:Nat} {vn va:Value} {N:List Nd} {R:List (Tk × Nat)} {W W' w6:World}
theorem aE8:(Tryz.prog.info? 205).map (fun i=>(i.zero,i.size,i.bytes))=some (some (.agg #[.int .i64 0,.int .u8 0,.int .i64 0,.int .i64 0]),4,32):=by kernel_rfl
theorem XK (hG:oO b vn va N R W) (hN:N.length≤200000) (hR:R.length≤200000) (kd:Int) (ch:Nat) (pl:Int) :
  Calls Tryz.prog 136 #[.pointer (some ⟨b,0,none⟩),.agg #[.int .i64 kd,.int .u8 (ch:Int),.int .i64 pl]] W fun e W'=>e=.returned (.tuple #[])∧Z1 b (N++[⟨ch,cJ,pl,0⟩]) (R++[(⟨kd,ch,pl⟩,N.length)]) W'∧lM b W W':=by
 obtain⟨j0,hj0,gz0,gz1,gz2⟩:=info_parts JF
 obtain⟨k0,hk0,kz0,kz1,kz2⟩:=info_parts aE8
 have hbl:=hG.lt
 obtain⟨W1,hW1⟩:∃ W1,W.alloc (.cells #[.int .i64 kd,.int .u8 (ch:Int),.int .i64 pl] 37)=W1:=⟨_,rfl⟩
 have hb1:Below W.heap.size W W1:=by rw[← hW1];exact(Below.refl _ W).alloc (Nat.le_refl _) _
 have hx1:W1.heap[W.heap.size]?=some (.cells #[.int .i64 kd,.int .u8 (ch:Int),.int .i64 pl] 37 (0,0)):=by rw[← hW1];exact World.alloc_heap_new W _
 have hG1:=hG.below hb1
 obtain⟨xb,hxb⟩:∃ xb,W.heap.size=xb:=⟨_,rfl⟩
 rw[hxb]at hx1
 have hxl:=(Array.getElem?_eq_some_iff.1 hx1).1
 have hbx:b<xb:=by omega
 have HS1:=hid (show lM b W W1 from lM.of (Nat.le_of_lt hbl) hb1)
 have HX1:=hid hx1
 obtain⟨An,cn,rfl,-⟩:=eH hG1.2.1
 obtain⟨Aa,ca,rfl,-⟩:=eH hG1.2.2
 obtain⟨nn,hnn⟩:∃ nn,N.length=nn:=⟨_,rfl⟩
 obtain⟨nr,hnr⟩:∃ nr,R.length=nr:=⟨_,rfl⟩
 have b0:W1.cell? ⟨b,0,none⟩=some (.slice An N.length cn):=by rw[Lib.cell_of_heap hG1.1];rfl
 have b1:W1.cell? ⟨b,1,none⟩=some (.slice Aa R.length ca):=by rw[Lib.cell_of_heap hG1.1];rfl
 have x0:W1.cell? ⟨xb,0,none⟩=some (.int .i64 kd):=by rw[Lib.cell_of_heap hx1];rfl
 have x1:W1.cell? ⟨xb,1,none⟩=some (.int .u8 (ch:Int)):=by rw[Lib.cell_of_heap hx1];rfl
 have x2:W1.cell? ⟨xb,2,none⟩=some (.int .i64 pl):=by rw[Lib.cell_of_heap hx1];rfl
 have HMO:=hid (fun(o:Obj) (w6:World) (gg cap:Nat) hgrow own6=>hG1.opened (p:=(⟨kd,ch,pl⟩,nn)) (o:=o) (w6:=w6) (gg:=gg) (cap:=cap) hgrow own6)
 have HOO:=hid hG1.2.2
 rw[hnn]at b0 hN ⊢
 rw[hnr]at b1 HMO HOO hR
 have hbl1:b<W1.heap.size:=by omega
 have HR:=hid hnr
 have HN:=hid hnn
 have HXX:=hid (fun(w6:World) (o:Obj) (row:Option Nat) (hg:(W1.alloc o).grownBy w6 row) (hr:some xb≠row)=>(hg.block xb (by simp;omega) hr).trans ((Below.heap_alloc _ _ _ hxl).trans hx1))
 have HNE:=hid (show (Value.slice Aa nr ca).ownBlock≠some xb from fun e=>by
  obtain⟨-,-,cs,h2⟩:=nG HOO.out (g:=xb) e
  rw[hx1]at h2
  injection h2 with h2
  injection h2 with _ h2 _
  revert h2
  decide)
 clear hG hb1 hG1 hnn hnr hx1
 go_enter Tryz.func136,Tryz.ntmps136
 go_upto_region 1 with fail
 clear hW1 hxb
 go_cut [] (fun wx=>Z1 b N (R++[(⟨kd,ch,pl⟩,nn)]) wx∧lM b W wx∧wx.heap[xb]?=some (.cells #[.int .i64 kd,.int .u8 (ch:Int),.int .i64 pl] 37 (0,0)))
 case first =>
  go_region_law
   ((refine step_append_lies _ (by rfl) _ _ _ (by rfl) (b+1) 205 k0 _ 4 32 Tryz.underlying139 hk0 kz0 kz1 kz2 rfl (by omega) (.slice Aa nr ca) nr _ (by rfl) ((HOO.out.alloc _).drew) ⟨W1.heap.size,0,none⟩ 1 1 [.int .i64 kd,.int .u8 (ch:Int),.int .i64 pl,.int .i64 (nn:Int)] (by rfl) (by rfl) (World.news_of_block (cs:=#[.int .i64 kd,.int .u8 (ch:Int),.int .i64 pl,.int .i64 (nn:Int)]) (t:=205) (fr:=(0,0)) (heap_alloc_new W1 _)) (by simp[Value.oneCell']) (by omega) (by unfold maxLen;omega) (by omega) (by simp;omega) (W1.heap.size+1) (by simp) ?_;intro gg cap w6 hown6 hgrow6 hat6 hlt6;have hgr:(W1.alloc _).grownBy w6 _:=⟨hgrow6.os,hgrow6.tape,hgrow6.output,hgrow6.size,hgrow6.block⟩;obtain⟨hg6,hf6,hst6⟩:=HMO.out _ w6 gg cap hgr (by rw[Ba.kJ];exact hown6);have hx6:=HXX.out w6 _ _ hgr (Ne.symm HNE.out);have hc6:w6.cell? ⟨b,1,none⟩=some (.slice Aa nr ca):=(by rw[Lib.cell_of_heap hg6];rfl);have hz6:w6.frozen? ⟨b,1,none⟩=false:=Lib.frozen_of_heap hg6 1;have HF6:=hid hf6;have HS6:=hid hst6;have HX6:=hid hx6;clear hf6 hst6 hg6 hgrow6 hat6 hlt6 hown6 hgr hx6))
  all_goals
   go_wp2_with fail
   go_meet
   exact⟨⟨_,_,HF6.out⟩,HS1.out.trans HS6.out,(Below.heap_setCell _ _ _ xb (by show xb≠b;omega)).trans HX6.out⟩
 case rest =>
  obtain⟨⟨vn2,va2,hG2⟩,hS2,hx2⟩:=hcut
  clear HMO HOO HXX HNE b0 b1 x0 x1 x2 HX1 HS1
  have hbl2:b<wc.heap.size:=hG2.lt
  have hxl2:=(Array.getElem?_eq_some_iff.1 hx2).1
  obtain⟨A2,c2,rfl,-⟩:=eH hG2.2.1
  have b0:wc.cell? ⟨b,0,none⟩=some (.slice A2 N.length c2):=by rw[Lib.cell_of_heap hG2.1];rfl
  have x1:wc.cell? ⟨xb,1,none⟩=some (.int .u8 (ch:Int)):=by rw[Lib.cell_of_heap hx2];rfl
  have x2:wc.cell? ⟨xb,2,none⟩=some (.int .i64 pl):=by rw[Lib.cell_of_heap hx2];rfl
  have HMO:=hid (fun(o:Obj) (w6:World) (gg cap:Nat) hgrow own6=>hG2.node (x:=⟨ch,cJ,pl,0⟩) (o:=o) (w6:=w6) (gg:=gg) (cap:=cap) hgrow own6)
  have HOO:=hid hG2.2.1
  have HS2:=hid hS2
  rw[HN.out]at b0 HMO HOO
  clear hG2 hS2 hx2
  go_upto_region 2 with fail
  go_region_law
   ((refine step_append_lies _ (by rfl) _ _ _ (by rfl) (b+1) 188 j0 _ 4 40 Tryz.underlying78 hj0 gz0 gz1 gz2 rfl (by omega) (.slice A2 nn c2) nn _ (by rfl) ((HOO.out.alloc _).drew) ⟨wc.heap.size,0,none⟩ 1 1 [.int .u8 (ch:Int),.string { data:=#[] },.int .i64 pl,.int .i64 0] (by rfl) (by rfl) (World.news_of_block (cs:=#[.int .u8 (ch:Int),.string { data:=#[] },.int .i64 pl,.int .i64 0]) (t:=188) (fr:=(0,0)) (heap_alloc_new wc _)) (by simp[Value.oneCell']) (by omega) (by unfold maxLen;omega) (by omega) (by simp;omega) (wc.heap.size+1) (by simp) ?_;intro gg cap w6 hown6 hgrow6 hat6 hlt6;obtain⟨hg6,hf6,hst6⟩:=HMO.out _ w6 gg cap ⟨hgrow6.os,hgrow6.tape,hgrow6.output,hgrow6.size,hgrow6.block⟩ (by rw[Ba.kJ];exact hown6);have hc6:w6.cell? ⟨b,0,none⟩=some (.slice A2 nn c2):=(by rw[Lib.cell_of_heap hg6];rfl);have hz6:w6.frozen? ⟨b,0,none⟩=false:=Lib.frozen_of_heap hg6 0;have HF6:=hid hf6;have HS6:=hid hst6;clear hf6 hst6 hg6 hgrow6 hat6 hlt6 hown6))
  all_goals
   go_end0
   exact⟨rfl,HF6.out,HS2.out.trans HS6.out⟩
end Go.Proofs.YthbigkoihpgcfaaGreatDoor.Fl
namespace Go.Proofs.YthbigkoihpgcfaaGreatDoor.Fl
open Go.RowKit Go.Shelf Tr Nu Nl Cn
variable {b:Nat} {vn va:Value} {N:List Nd} {R:List (Tk × Nat)} {W W' w6:World}
theorem SW (h:oO b vn va N R W) (n:Nat):oO b vn va N R (W.drewN n):=h
theorem z7 (hG:oO b vn va N [] W) (kd:Int) (ch:Nat) (pl:Int) :
  Calls Tryz.prog 137 #[.pointer (some ⟨b,0,none⟩),.agg #[.int .i64 kd,.int .u8 (ch:Int),.int .i64 pl]] W fun e W'=>e=.returned (.bool false)∧lM b W W':=by
 have hbl:=hG.lt
 obtain⟨Aa,ca,rfl,-⟩:=eH hG.2.2
 have b1:W.cell? ⟨b,1,none⟩=some (.slice Aa 0 ca):=by rw[Lib.cell_of_heap hG.1];rfl
 have HS1:=hid (show lM b W (W.alloc (.cells #[.int .i64 kd,.int .u8 (ch:Int),.int .i64 pl] 37)) from lM.of (Nat.le_of_lt hbl) ((Below.refl _ W).alloc (Nat.le_refl _) _))
 clear hG
 go_enter Tryz.func137,Tryz.ntmps137
 go_wp2
 go_quiet (fail)
 go_wp2
 go_ret
 exact⟨rfl,vD HS1.out _⟩
theorem JW (y:Tk) (s:Nat) (hG:oO b vn va N (R++[(y,s)]) W) (hR:R.length≤200000) (kd:Int) (ch:Nat) (pl:Int) (hne:y.ch≠ch) :
  Calls Tryz.prog 137 #[.pointer (some ⟨b,0,none⟩),.agg #[.int .i64 kd,.int .u8 (ch:Int),.int .i64 pl]] W fun e W'=>e=.returned (.bool false)∧lM b W W':=by
 have hbl:=hG.lt
 obtain⟨W1,hW1⟩:∃ W1,W.alloc (.cells #[.int .i64 kd,.int .u8 (ch:Int),.int .i64 pl] 37)=W1:=⟨_,rfl⟩
 have hb1:Below W.heap.size W W1:=by rw[← hW1];exact(Below.refl _ W).alloc (Nat.le_refl _) _
 have hx1:W1.heap[W.heap.size]?=some (.cells #[.int .i64 kd,.int .u8 (ch:Int),.int .i64 pl] 37 (0,0)):=by rw[← hW1];exact World.alloc_heap_new W _
 have hG1:=hG.below hb1
 have HS1:=hid (show lM b W W1 from lM.of (Nat.le_of_lt hbl) hb1)
 have hown:=hG1.2.2
 rw[List.length_append,List.length_singleton]at hown
 obtain⟨ga,ca,rfl,hgl,-,hrc⟩:=Ba.dS hown (by omega)
 obtain⟨r,hr⟩:∃ r,R.length=r:=⟨_,rfl⟩
 rw[hr]at hown hrc hR
 have b1:W1.cell? ⟨b,1,none⟩=some (.slice (some ⟨ga,0,none⟩) (r+1) ca):=by rw[Lib.cell_of_heap hG1.1,← hr];rfl
 have hy:(R++[(y,s)])[r]?=some (y,s):=by rw[← hr];exact List.getElem?_concat_length
 have y1:W1.cell? ⟨ga,r * 4+1,none⟩=some (.int .u8 (y.ch:Int)):=by
  rw[hown.cellAt (r * 4+1) (by omega),Ba.fE cO vC _ _ _ hy 1 (by omega)];rfl
 have x1:W1.cell? ⟨W.heap.size,1,none⟩=some (.int .u8 (ch:Int)):=by rw[Lib.cell_of_heap hx1];rfl
 obtain⟨xb,hxb⟩:∃ xb,W.heap.size=xb:=⟨_,rfl⟩
 rw[hxb]at x1
 have t1:((y.ch:Int)==(ch:Int))=false:=beq_eq_false_iff_ne.2 (by omega)
 have t2:((y.ch:Int) != (ch:Int))=true:=by rw[bne,t1];rfl
 obtain⟨yc,hyc⟩:∃ yc:Int,(y.ch:Int)=yc:=⟨_,rfl⟩
 rw[hyc]at y1 t1 t2
 have r0:(0:Int)≤(r:Int):=by omega
 have r1:(r:Int)<(r:Int)+1:=by omega
 have r2:r<r+1:=by omega
 have r3:(r:Int)<((r+1:Nat):Int):=by omega
 clear hG hb1 hx1 hG1 hown hy hr hyc hne
 go_enter Tryz.func137,Tryz.ntmps137
 go_wp2
 go_quiet (fail)
 go_wp2
 go_ret
 exact⟨rfl,vD HS1.out _⟩
theorem SY (y:Tk) (s:Nat) (x:Nd) (hx:N[s]?=some x) (hG:oO b vn va N (R++[(y,s)]) W) (hR:R.length≤200000) (hN:N.length≤200000) (kd:Int) (pl:Int) :
  Calls Tryz.prog 137 #[.pointer (some ⟨b,0,none⟩),.agg #[.int .i64 kd,.int .u8 (y.ch:Int),.int .i64 pl]] W fun e W'=>e=.returned (.bool true)∧Z1 b (N.modify s (aU ((N.length:Int) - (s:Int)))) R W'∧lM b W W':=by
 have hbl:=hG.lt
 obtain⟨W1,hW1⟩:∃ W1,W.alloc (.cells #[.int .i64 kd,.int .u8 (y.ch:Int),.int .i64 pl] 37)=W1:=⟨_,rfl⟩
 have hb1:Below W.heap.size W W1:=by rw[← hW1];exact(Below.refl _ W).alloc (Nat.le_refl _) _
 have hx1:W1.heap[W.heap.size]?=some (.cells #[.int .i64 kd,.int .u8 (y.ch:Int),.int .i64 pl] 37 (0,0)):=by rw[← hW1];exact World.alloc_heap_new W _
 have hG1:=hG.below hb1
 have HS1:=hid (show lM b W W1 from lM.of (Nat.le_of_lt hbl) hb1)
 have hown:=hG1.2.2
 rw[List.length_append,List.length_singleton]at hown
 obtain⟨ga,ca,rfl,hgl,-,hrc⟩:=Ba.dS hown (by omega)
 have hsl:=(List.getElem?_eq_some_iff.1 hx).1
 obtain⟨gn,cn,rfl,hgn,-,hnc⟩:=Ba.dS hG1.2.1 (by omega)
 obtain⟨r,hr⟩:∃ r,R.length=r:=⟨_,rfl⟩
 obtain⟨nn,hnn⟩:∃ nn,N.length=nn:=⟨_,rfl⟩
 rw[hr]at hown hrc hR
 have b0:W1.cell? ⟨b,0,none⟩=some (.slice (some ⟨gn,0,none⟩) nn cn):=by rw[Lib.cell_of_heap hG1.1,← hnn];rfl
 have b1:W1.cell? ⟨b,1,none⟩=some (.slice (some ⟨ga,0,none⟩) (r+1) ca):=by rw[Lib.cell_of_heap hG1.1,← hr];rfl
 have hy:(R++[(y,s)])[r]?=some (y,s):=by rw[← hr];exact List.getElem?_concat_length
 have y1:W1.cell? ⟨ga,r * 4+1,none⟩=some (.int .u8 (y.ch:Int)):=by
  rw[hown.cellAt (r * 4+1) (by omega),Ba.fE cO vC _ _ _ hy 1 (by omega)];rfl
 have y3:W1.cell? ⟨ga,r * 4+3,none⟩=some (.int .i64 (s:Int)):=by
  rw[hown.cellAt (r * 4+3) (by omega),Ba.fE cO vC _ _ _ hy 3 (by omega)];rfl
 have x1:W1.cell? ⟨W.heap.size,1,none⟩=some (.int .u8 (y.ch:Int)):=by rw[Lib.cell_of_heap hx1];rfl
 obtain⟨xb,hxb⟩:∃ xb,W.heap.size=xb:=⟨_,rfl⟩
 rw[hxb]at x1
 rw[hnn]at hN hsl hnc ⊢
 have HG1:=hid hG1
 have HX:=hid hx
 have HR:=hid hr
 have HNN:=hid hnn
 have r0:(0:Int)≤(r:Int):=by omega
 have r1:(r:Int)<(r:Int)+1:=by omega
 have r2:r<r+1:=by omega
 have r3:(r:Int)<((r+1:Nat):Int):=by omega
 have s0:(0:Int)≤(s:Int):=by omega
 have s1:(s:Int)<(nn:Int):=by omega
 obtain⟨yc,hyc⟩:∃ yc,y.ch=yc:=⟨_,rfl⟩
 rw[hyc]at y1 x1 hW1 ⊢
 clear hG hb1 hx1 hG1 hown hy hr hyc hx hnn
 go_enter Tryz.func137,Tryz.ntmps137
 go_wp2
 go_quiet (fail)
 generalize hw2:W1.drewN _=w2
 have hce:∀ a,w2.cell? a=W1.cell? a:=fun a=>by rw[← hw2];rfl
 have hG2:oO b (.slice (some ⟨gn,0,none⟩) N.length cn) (.slice (some ⟨ga,0,none⟩) (R.length+1) ca) N (R++[(y,s)]) w2:=by rw[← hw2];exact SW HG1.out _
 have hS2:lM b W w2:=by rw[← hw2];exact vD HS1.out _
 rw[← hce]at b0 b1 y3
 obtain⟨z,hz⟩:∃ z:Int,(nn:Int) - (s:Int)=z:=⟨_,rfl⟩
 have hwr:IntKind.i64.wrap ((nn:Int) - (s:Int))=z:=by rw[← hz];exact IntWalk.i64_in _ ⟨by omega,by omega⟩
 obtain⟨p1,p2⟩:=hG2.sized HX.out z
 have hp1:oO b (.slice (some ⟨gn,0,none⟩) N.length cn) (.slice (some ⟨ga,0,none⟩) (R.length+1) ca) (N.modify s (aU z)) (R++[(y,s)]) (w2.setCell ⟨gn,s * 4+3,none⟩ (.int .i64 z)).drew:=p1
 have hS3:lM b W (w2.setCell ⟨gn,s * 4+3,none⟩ (.int .i64 z)).drew:=XH (hS2.trans p2)
 obtain⟨q1,q2⟩:=hp1.aDY
 have d1:(w2.setCell ⟨gn,s * 4+3,none⟩ (.int .i64 z)).drew.cell? ⟨b,1,none⟩=some (.slice (some ⟨ga,0,none⟩) (r+1) ca):=by rw[Lib.cell_of_heap hp1.1,HR.out];rfl
 have e1:(w2.setCell ⟨gn,s * 4+3,none⟩ (.int .i64 z)).drew.frozen? ⟨b,1,none⟩=false:=Lib.frozen_of_heap hp1.1 1
 have HFIN:=hid (show Z1 b (N.modify s (aU z)) R ((w2.setCell ⟨gn,s * 4+3,none⟩ (.int .i64 z)).drew.setCell ⟨b,1,none⟩ (.slice (some ⟨ga,0,none⟩) r ca))∧lM b W ((w2.setCell ⟨gn,s * 4+3,none⟩ (.int .i64 z)).drew.setCell ⟨b,1,none⟩ (.slice (some ⟨ga,0,none⟩) r ca)) from by
  rw[HR.out]at q1 q2
  exact⟨⟨_,_,q1⟩,hS3.trans q2⟩)
 obtain⟨-,-,-,n3⟩:=SZ rfl hG2.2.1 HX.out
 have f3:w2.frozen? ⟨gn,s * 4+3,none⟩=false:=hG2.2.1.frozenAt (s * 4+3)
 clear hw2 hce hG2 hS2 p1 p2 hp1 hS3 q1 q2 y1 x1 HS1 HG1
 go_upto_region 5 with fail
 go_region_law (first | fail)
 all_goals
  go_wp2
  go_ret
  refine⟨rfl,?_⟩
  first
   | exact HFIN.out
   |(rw[hz];exact HFIN.out)
end Go.Proofs.YthbigkoihpgcfaaGreatDoor.Fl
namespace Go.Proofs.YthbigkoihpgcfaaGreatDoor.Fl
open Go.RowKit Go.Shelf Tr Nu Nl Cn
variable {b:Nat} {vn va:Value} {N:List Nd} {R:List (Tk × Nat)} {W W' w6:World}
structure XL (g off m c:Nat) (part:List Tk) (x0:Tk) (b:Nat) (W:World):Prop where
 len:part.length=m
 pos:0<m
 LS:m≤200000
 room:m≤c
 fst:part[0]?=some x0
 lt:g<b
 cell:∀ k x,part[k]?=some x→∀ j u,(cT x)[j]?=some u→W.cell? ⟨g,off+(k * 3+j),none⟩=some u
theorem XL.first {g off m c:Nat} {part:List Tk} {x0:Tk} (h:XL g off m c part x0 b W):W.cell? ⟨g,off,none⟩=some (.int .i64 x0.kind)∧W.cell? ⟨g,off+1,none⟩=some (.int .u8 (x0.ch:Int))∧W.cell? ⟨g,off+2,none⟩=some (.int .i64 x0.place):=by
 obtain⟨c0,c1,c2⟩:=pM h.cell 0 x0 h.fst
 rw[Nat.zero_mul,Nat.add_zero]at c0 c1 c2
 exact⟨c0,c1,c2⟩
theorem XL.below {g off m c:Nat} {part:List Tk} {x0:Tk} (h:XL g off m c part x0 b W) (hb:Below W.heap.size W W') (hbl:b≤W.heap.size):XL g off m c part x0 b W' :=
 ⟨h.len,h.pos,h.LS,h.room,h.fst,h.lt,fun k x hx j u hu=>(hb.cell (p:=⟨g,off+(k * 3+j),none⟩) (Nat.lt_of_lt_of_le h.lt hbl)).trans (h.cell k x hx j u hu)⟩
theorem AA (hG:oO b vn va N R W) (o:Obj):Below W.heap.size W (W.alloc o)∧lM b W (W.alloc o)∧oO b vn va N R (W.alloc o):=by
 have hb:Below W.heap.size W (W.alloc o):=(Below.refl _ W).alloc (Nat.le_refl _) _
 exact⟨hb,lM.of (Nat.le_of_lt hG.lt) hb,hG.below hb⟩
theorem XM (hG:oO b vn va N R W) (hN:N.length≤200000) (g off m c:Nat) (part:List Tk) (hch:∀ x ∈ part,x.ch<256) (ch:Nat) (pl:Int) (hP:XL g off m c part ⟨1,ch,pl⟩ b W) :
  Calls Tryz.prog 94 #[.pointer (some ⟨b,0,none⟩),.slice (some ⟨g,off,none⟩) m c] W fun e W'=>e=.returned (.bool true)∧Z1 b (N++[⟨46,Lx.bytesOf (part.map Tk.ch),pl,1⟩]) R W'∧lM b W W':=by
 obtain⟨c0,c1,c2⟩:=hP.first
 simp only[]at c0 c1 c2
 have hbl:=hG.lt
 obtain⟨h1,h2,h3⟩:=AA hG (.cells #[.int .i64 1,.int .u8 (ch:Int),.int .i64 pl] 37)
 have hP1:=hP.below h1 (Nat.le_of_lt hbl)
 have HC:=hid (aDZ h3 hN g off m c part hP1.len hP1.pos hP1.LS hP1.room hch ⟨1,ch,pl⟩ hP1.fst hP1.lt hP1.cell)
 have HS:=hid h2
 have hpos:=hP.pos
 clear h1 h2 h3 hP1 hP hch hN hG
 go_enter Tryz.func94,Tryz.ntmps94
 go_wp2_with fail
 refine HC.out.mono ?_
 rintro e w2 ⟨rfl,hg,hs⟩
 have HG2:=hid hg
 have HS2:=hid (HS.out.trans hs)
 clear hg hs
 go_wp2
 go_ret
 exact⟨rfl,HG2.out,HS2.out⟩
theorem NV (hG:oO b vn va N R W) (hN:N.length≤200000) (hR:R.length≤200000) (g off m c:Nat) (part:List Tk) (ch:Nat) (pl:Int) (hP:XL g off m c part ⟨2,ch,pl⟩ b W) :
  Calls Tryz.prog 94 #[.pointer (some ⟨b,0,none⟩),.slice (some ⟨g,off,none⟩) m c] W fun e W'=>e=.returned (.bool true)∧Z1 b (N++[⟨ch,cJ,pl,0⟩]) (R++[(⟨2,ch,pl⟩,N.length)]) W'∧lM b W W':=by
 obtain⟨c0,c1,c2⟩:=hP.first
 simp only[]at c0 c1 c2
 have hbl:=hG.lt
 obtain⟨h1,h2,h3⟩:=AA hG (.cells #[.int .i64 2,.int .u8 (ch:Int),.int .i64 pl] 37)
 have HC:=hid (XK h3 hN hR 2 ch pl)
 have HS:=hid h2
 have hpos:=hP.pos
 clear h1 h2 h3 hP hN hR hG
 go_enter Tryz.func94,Tryz.ntmps94
 go_wp2_with fail
 refine HC.out.mono ?_
 rintro e w2 ⟨rfl,hg,hs⟩
 have HG2:=hid hg
 have HS2:=hid (HS.out.trans hs)
 clear hg hs
 go_wp2
 go_ret
 exact⟨rfl,HG2.out,HS2.out⟩
theorem XN (y:Tk) (s:Nat) (x:Nd) (hx:N[s]?=some x) (hG:oO b vn va N (R++[(y,s)]) W) (hR:R.length≤200000) (hN:N.length≤200000) (g off m c:Nat) (part:List Tk) (pl:Int) (hP:XL g off m c part ⟨3,y.ch,pl⟩ b W) :
  Calls Tryz.prog 94 #[.pointer (some ⟨b,0,none⟩),.slice (some ⟨g,off,none⟩) m c] W fun e W'=>e=.returned (.bool true)∧Z1 b (N.modify s (aU ((N.length:Int) - (s:Int)))) R W'∧lM b W W':=by
 obtain⟨c0,c1,c2⟩:=hP.first
 simp only[]at c0 c1 c2
 have hbl:=hG.lt
 obtain⟨h1,h2,h3⟩:=AA hG (.cells #[.int .i64 3,.int .u8 (y.ch:Int),.int .i64 pl] 37)
 have HC:=hid (SY y s x hx h3 hR hN 3 pl)
 have HS:=hid h2
 have hpos:=hP.pos
 clear h1 h2 h3 hP hN hR hG hx
 go_enter Tryz.func94,Tryz.ntmps94
 go_wp2_with fail
 refine HC.out.mono ?_
 rintro e w2 ⟨rfl,hg,hs⟩
 have HG2:=hid hg
 have HS2:=hid (HS.out.trans hs)
 clear hg hs
 go_wp2
 go_ret
 exact⟨rfl,HG2.out,HS2.out⟩
theorem C6 (hG:oO b vn va N R W) (hR:R.length≤200000) (g off m c:Nat) (part:List Tk) (ch:Nat) (pl:Int) (hP:XL g off m c part ⟨3,ch,pl⟩ b W) (hbad:R=[]∨∃ R' y s,R=R'++[(y,s)]∧y.ch≠ch) :
  Calls Tryz.prog 94 #[.pointer (some ⟨b,0,none⟩),.slice (some ⟨g,off,none⟩) m c] W fun e W'=>e=.returned (.bool false)∧lM b W W':=by
 obtain⟨c0,c1,c2⟩:=hP.first
 simp only[]at c0 c1 c2
 have hbl:=hG.lt
 obtain⟨h1,h2,h3⟩:=AA hG (.cells #[.int .i64 3,.int .u8 (ch:Int),.int .i64 pl] 37)
 have HC:=hid (show Calls Tryz.prog 137 #[.pointer (some ⟨b,0,none⟩),.agg #[.int .i64 3,.int .u8 (ch:Int),.int .i64 pl]] (W.alloc (.cells #[.int .i64 3,.int .u8 (ch:Int),.int .i64 pl] 37)) fun e W'=>e=.returned (.bool false)∧lM b (W.alloc (.cells #[.int .i64 3,.int .u8 (ch:Int),.int .i64 pl] 37)) W' from by
  rcases hbad with rfl | ⟨R',y,s,rfl,hne⟩
  ·exact z7 h3 3 ch pl
  ·rw[List.length_append]at hR
   exact JW y s h3 (by omega) 3 ch pl hne)
 have HS:=hid h2
 have hpos:=hP.pos
 clear h1 h2 h3 hP hR hG hbad
 go_enter Tryz.func94,Tryz.ntmps94
 go_wp2_with fail
 refine HC.out.mono ?_
 rintro e w2 ⟨rfl,hs⟩
 have HS2:=hid (HS.out.trans hs)
 clear hs
 go_wp2
 go_ret
 exact⟨rfl,HS2.out⟩
theorem XO (hG:oO b vn va N R W) (g off m c:Nat) (part:List Tk) (kd:Int) (ch:Nat) (pl:Int) (hP:XL g off m c part ⟨kd,ch,pl⟩ b W) (k1:kd≠1) (k2:kd≠2) (k3:kd≠3) :
  Calls Tryz.prog 94 #[.pointer (some ⟨b,0,none⟩),.slice (some ⟨g,off,none⟩) m c] W fun e W'=>e=.returned (.bool false)∧lM b W W':=by
 obtain⟨c0,c1,c2⟩:=hP.first
 simp only[]at c0 c1 c2
 have hbl:=hG.lt
 obtain⟨h1,h2,h3⟩:=AA hG (.cells #[.int .i64 kd,.int .u8 (ch:Int),.int .i64 pl] 37)
 have HS:=hid h2
 have hpos:=hP.pos
 have t1:(kd==1)=false:=beq_eq_false_iff_ne.2 k1
 have t2:(kd==2)=false:=beq_eq_false_iff_ne.2 k2
 have t3:(kd==3)=false:=beq_eq_false_iff_ne.2 k3
 clear h1 h2 h3 hP hG k1 k2 k3
 go_enter Tryz.func94,Tryz.ntmps94
 go_wp2
 go_ret
 exact⟨rfl,HS.out⟩
end Go.Proofs.YthbigkoihpgcfaaGreatDoor.Fl
namespace Go.Proofs.YthbigkoihpgcfaaGreatDoor.Fl
open Go.RowKit Go.Shelf Tr Nu Nl Cn
attribute [local go_sem] Oper.semAt_some
theorem aBM {m:List Nat} {n:Nat} (h:m.Pairwise (·<·)) (hn:∀ x ∈ m,x<n):m.length≤n:=by
 cases m with
 | nil=>exact Nat.zero_le _
 | cons a m=>have:=JQ m a n h hn;simp only[List.length_cons];omega
theorem pN {l:List Tk} (hf:iC l) {p:Nat} {E:List Ev} {K:List Nat} (h:aM (l.take p)=some (E,K)):(fB E).1.length≤l.length∧K.length≤l.length∧dep 0 E=some K.length∧(eS E).2.length=K.length∧(fB E).2=(eS E).2:=by
 have hft:iC (l.take p):=fun x hx=>hf x (List.mem_of_mem_take hx)
 obtain⟨-,-,h2⟩:=vA _ hft E K h
 obtain⟨-,-,h3,-⟩:=CZ _ (fun x hx=>(hft x hx).2.1) E K h
 have h4:(eS E).2.length=K.length:=zZ E 0 K.length [] [] rfl h3
 have hg:=Nu.good_row h3
 have h5:=aBM hg.aE6 hg.lt
 rw[tB]at h5
 rw[List.length_take]at h2
 exact⟨by rw[rW h3];omega,by omega,h3,h4,(vB E _ h3).1⟩
def NI (l:List Tk) (w:World) (a:Nat) (pre:List (Nat × Nat)) (W:World):Prop :=
 ∃ p E K R vn va,dL l pre p∧aM (l.take p)=some (E,K)∧XF l p E∧oO (a+2) vn va (fB E).1 R W∧R.map (fun q=>q.1.ch)=K∧R.map Prod.snd=(eS E).2∧Boxed W a 78 (.slice none 0 0)∧Boxed W (a+1) 4 (.bool false)∧Below w.heap.size w W
def NX (l:List Tk) (w:World) (a:Nat) (_pre:List (Nat × Nat)) (W:World):Prop :=
 aM l=none∧Boxed W a 78 (.slice none 0 0)∧Boxed W (a+1) 4 (.bool false)∧Below w.heap.size w W
theorem oO.EX {b:Nat} {vn va:Value} {N:List Nd} {R:List (Tk × Nat)} {W W':World} {row:Option Nat} (h:oO b vn va N R W) (hg:W.grownBy W' row) (hr:∀ r,row=some r→∃ o:Obj,W.heap[r]?=some o∧o.isCells=false):oO b vn va N R W':=by
 obtain⟨h1,h2,h3⟩:=h
 have hne:∀ g cs e fr,W.heap[g]?=some (.cells cs e fr)→some g≠row:=fun g cs e fr hb e1=>by
  obtain⟨o,ho,hc⟩:=hr g e1.symm
  rw[hb]at ho;cases ho;cases hc
 have hrow:∀ {e n:Nat} {v:Value} {xs:List Value},W.ownsRow (b+1) e 4 v n xs→v.ownBlock=none∨v.ownBlock≠row:=fun h4=>by
  rcases h4.2 with⟨rfl,_⟩ | ⟨g,cap,cur,rfl,_,hgb,_⟩
  ·exact .inl rfl
  ·exact .inr (hne g _ _ _ hgb)
 exact⟨(hg.block b (Array.getElem?_eq_some_iff.1 h1).1 (hne b _ _ _ h1)).trans h1,h2.kept hg (hrow h2),h3.kept hg (hrow h3)⟩
theorem n7 {W W':World} {row:Option Nat} {B:Nat} {t:TypeId} {v:Value} (h:Boxed W B t v) (hg:W.grownBy W' row) (hr:∀ r,row=some r→∃ o:Obj,W.heap[r]?=some o∧o.isCells=false):Boxed W' B t v :=
 h.kept hg (fun e=>by
  obtain⟨o,ho,hc⟩:=hr B e.symm
  have h:W.heap[B]?=_:=h
  rw[h]at ho;cases ho;cases hc)
section
variable {l:List Tk} {w:World} {a:Nat} {pre:List (Nat × Nat)} {W W':World}
theorem NI.EX {row:Option Nat} (h:NI l w a pre W) (hwa:w.heap.size≤a) (hg:W.grownBy W' row) (hr:∀ r,row=some r→a≤r∧∃ o:Obj,W.heap[r]?=some o∧o.isCells=false):NI l w a pre W':=by
 obtain⟨p,E,K,R,vn,va,h1,h2,h3,h4,h5,h6,h7,h8,h9⟩:=h
 have hr2:=fun r e=>(hr r e).2
 exact⟨p,E,K,R,vn,va,h1,h2,h3,h4.EX hg hr2,h5,h6,n7 h7 hg hr2,n7 h8 hg hr2,h9.grown hg h9.size (fun j ej=>by have:=(hr _ ej).1;omega)⟩
theorem NX.EX {row:Option Nat} (h:NX l w a pre W) (hwa:w.heap.size≤a) (hg:W.grownBy W' row) (hr:∀ r,row=some r→a≤r∧∃ o:Obj,W.heap[r]?=some o∧o.isCells=false):NX l w a pre W':=by
 obtain⟨h1,h7,h8,h9⟩:=h
 have hr2:=fun r e=>(hr r e).2
 exact⟨h1,n7 h7 hg hr2,n7 h8 hg hr2,h9.grown hg h9.size (fun j ej=>by have:=(hr _ ej).1;omega)⟩
theorem NI.below (h:NI l w a pre W) (hb:Below W.heap.size W W'):NI l w a pre W':=by
 obtain⟨p,E,K,R,vn,va,h1,h2,h3,h4,h5,h6,h7,h8,h9⟩:=h
 exact⟨p,E,K,R,vn,va,h1,h2,h3,h4.below hb,h5,h6,(hb.block a h7.lt).trans h7,(hb.block (a+1) h8.lt).trans h8,h9.trans (hb.mono h9.size)⟩
theorem JX {v u:Value} (hs:lM (a+2) W W') (hwa:w.heap.size≤a) (h7:Boxed W a 78 v) (h8:Boxed W (a+1) 4 u) (h9:Below w.heap.size w W):Boxed W' a 78 v∧Boxed W' (a+1) 4 u∧Below w.heap.size w W' :=
 ⟨(hs.1.block a (by omega)).trans h7,(hs.1.block (a+1) (by omega)).trans h8,h9.trans (hs.1.mono (by omega))⟩
theorem n8 {α β:Type} {f:α→β} {R:List α} {K:List β} {k:β} (h:R.map f=K++[k]):∃ R' q,R=R'++[q]∧R'.map f=K∧f q=k:=by
 rcases List.eq_nil_or_concat R with rfl | ⟨R',q,rfl⟩
 ·exact absurd (congrArg List.length h) (by simp)
 ·rw[List.concat_eq_append]at h ⊢
  rw[List.map_append]at h
  obtain⟨h1,h2⟩:=List.append_inj' h rfl
  exact⟨R',q,rfl,h1,by simpa using h2⟩
theorem XP (hwa:w.heap.size≤a) (hf:iC l) (hl:l.length≤200000) {x:Nat × Nat} (hI:NI l w a pre W) (hpre:pre++[x] <+: bU l 0) (g off c:Nat) (hg:g<a) (hmc:l.length≤c)
  (hcell:∀ k x,l[k]?=some x→∀ j u,(cT x)[j]?=some u→W.cell? ⟨g,off+(k * 3+j),none⟩=some u) :
  (Calls Tryz.prog 94 #[.pointer (some ⟨a+2,0,none⟩),.slice (some ⟨g,off+x.1 * 3,none⟩) (x.2 - x.1) (c - x.1)] W fun e W'=>e=.returned (.bool true)∧NI l w a (pre++[x]) W'∧lM (a+2) W W') ∨
  (aM l=none∧Calls Tryz.prog 94 #[.pointer (some ⟨a+2,0,none⟩),.slice (some ⟨g,off+x.1 * 3,none⟩) (x.2 - x.1) (c - x.1)] W fun e W'=>e=.returned (.bool false)∧lM (a+2) W W'):=by
 obtain⟨p,E,K,R,vn,va,h1,h2,h3,h4,h5,h6,h7,h8,h9⟩:=hI
 obtain⟨hp,rfl⟩:=h1.next hpre
 obtain⟨⟨kd,ch,pl⟩,hx⟩:∃ x,l[p]?=some x:=⟨_,List.getElem?_eq_getElem hp⟩
 obtain⟨q1,q2,q3,q4⟩:=lX hx
 have hs:=h1.succ hp
 obtain⟨n1,n2,n3,n4,n5⟩:=pN hf h2
 have hRl:R.length=K.length:=by rw[← h5,List.length_map]
 have hR9:R.length≤200000:=by omega
 have hP:XL g (off+p * 3) (eL l p - p) (c - p) ((l.drop p).take (eL l p - p)) ⟨kd,ch,pl⟩ (a+2) W:=by
  refine⟨by rw[List.length_take,List.length_drop];omega,by omega,by omega,by omega,?_,by omega,fun k y hy j u hu=>?_⟩
  ·rw[List.getElem?_take,if_pos (by omega),List.getElem?_drop,Nat.add_zero];exact hx
  ·rw[List.getElem?_take]at hy
   split at hy
   ·rw[List.getElem?_drop]at hy
    rw[show off+p * 3+(k * 3+j)=off+((p+k) * 3+j) by rw[Nat.add_mul];omega]
    exact hcell (p+k) y hy j u hu
   ·cases hy
 have hend:∀ {E' K' R'} ,aM (l.take (eL l p))=some (E',K')→XF l (eL l p) E'→R'.map (fun q=>q.1.ch)=K'→R'.map Prod.snd=(eS E').2→∀ W',Z1 (a+2) (fB E').1 R' W'→lM (a+2) W W'→NI l w a (pre++[(p,eL l p)]) W':=fun {E' K' R'} e1 e2 e3 e4 W' ⟨vn',va',e5⟩ e6=>by
  obtain⟨s1,s2,s3⟩:=JX e6 hwa h7 h8 h9
  exact⟨_,E',K',R',vn',va',hs,e1,e2,e5,e3,e4,s1,s2,s3⟩
 show (Calls _ _ #[_,.slice (some ⟨g,off+p * 3,none⟩) (eL l p - p) (c - p)] _ _)∨(_∧Calls _ _ #[_,.slice (some ⟨g,off+p * 3,none⟩) (eL l p - p) (c - p)] _ _)
 by_cases k1:kd=1
 ·subst k1
  obtain⟨e1,e2⟩:=XG hx rfl h2 h3
  left
  refine(XM h4 (by omega) g _ _ _ _ (fun y hy=>(hf y (List.mem_of_mem_drop (List.mem_of_mem_take hy))).2.1) ch pl hP).mono ?_
  rintro e W' ⟨rfl,hg',hs'⟩
  refine⟨rfl,hend e1 (e2 _) h5 ?_ W' ?_ hs',hs'⟩
  ·rw[h6,nZ]
   show _=(wE (eS E) _).2
   rw[show eS E=((eS E).1,(eS E).2) from rfl,rL rfl]
  ·rw[lY,PS rfl];exact hg'
 ·by_cases k2:kd=2
  ·subst k2
   obtain⟨e0,e1⟩:=NQ hx rfl h2
   left
   refine(NV h4 (by omega) (by omega) g _ _ _ _ ch pl hP).mono ?_
   rintro e W' ⟨rfl,hg',hs'⟩
   refine⟨rfl,hend (K':=K++[ch]) (R':=R++[(⟨2,ch,pl⟩,(fB E).1.length)]) (by rw[e0];exact e1) (JT (show (2:Nat)≠1 by decide)) (by rw[List.map_append,h5];rfl) ?_ W' ?_ hs',hs'⟩
   ·rw[List.map_append,h6,nZ]
    show _=(wE (eS E) _).2
    rw[show eS E=((eS E).1,(eS E).2) from rfl,rM rfl,rW n3,tB];rfl
   ·rw[lY,PT rfl];exact hg'
  ·by_cases k3:kd=3
   ·subst k3
    rcases List.eq_nil_or_concat K with rfl | ⟨K',k,rfl⟩
    ·right
     have hR0:R=[]:=List.map_eq_nil_iff.1 h5
     refine⟨JU hx h2 (.inr ⟨rfl,rfl⟩),?_⟩
     exact C6 h4 (by omega) g _ _ _ _ ch pl hP (.inl hR0)
    ·rw[List.concat_eq_append]at *
     obtain⟨e0,e1⟩:=NR hx rfl h2
     obtain⟨R',⟨y,s⟩,rfl,r1,r2⟩:=n8 h5
     have r2:y.ch=k:=r2
     by_cases hk:k=ch
     ·left
      have hyc:y.ch=ch:=r2.trans hk
      subst hyc
      rw[if_pos hk]at e1
      rw[List.map_append]at h6
      have h6:R'.map Prod.snd++[s]=(eS E).2:=h6
      have hg:=Nu.good_row n3
      have hsl:s<(eS E).1.length:=hg.lt s (by rw[← h6];simp)
      rw[tB,← rW n3]at hsl
      have hlen:=hRl
      rw[List.length_append]at hRl
      refine(XN y s _ (List.getElem?_eq_getElem hsl) h4 (by rw[List.length_append]at hR9;omega) (by omega) g _ _ _ _ pl hP).mono ?_
      rintro e W' ⟨rfl,hg',hs'⟩
      refine⟨rfl,hend (by rw[e0];exact e1) (JT (show (3:Nat)≠1 by decide)) r1 ?_ W' ?_ hs',hs'⟩
      ·rw[nZ]
       show _=(wE (eS E) clE).2
       rw[show eS E=((eS E).1,(eS E).2) from rfl,← h6,EU (by decide) (by decide)]
      ·rw[lY,show fB E=((fB E).1,(fB E).2) from rfl,n5,← h6,PU (by decide) (by decide)];exact hg'
     ·right
      rw[if_neg hk]at e1
      refine⟨NS e1,?_⟩
      exact C6 h4 hR9 g _ _ _ _ ch pl hP (.inr ⟨R',y,s,rfl,fun e=>hk (r2.symm.trans e)⟩)
   ·right
    refine⟨JU hx h2 (.inl ⟨k1,k2,k3⟩),?_⟩
    exact XO h4 g _ _ _ _ kd ch pl hP k1 k2 k3
end
end Go.Proofs.YthbigkoihpgcfaaGreatDoor.Fl
namespace Go.Proofs.YthbigkoihpgcfaaGreatDoor.Fl
open Go.RowKit Go.Shelf Tr Nu Nl Cn
attribute [local go_sem] Oper.semAt_some
theorem S3 (A:Option Addr) (m c:Nat) (w:World):Calls Tryz.prog 93 #[.slice A m c] w fun e w'=>e=.returned (.func (.func 133) #[] #[.pointer (some ⟨w.heap.size,0,none⟩)])∧w'=w.alloc (.cells #[.slice A m c] 23):=by
 go_enter Tryz.func93,Tryz.ntmps93
 go_wp2
 go_ret
 exact⟨rfl,rfl⟩
def aC6 (l:List Tk) (w:World) (e:Ending) (w':World):Prop :=
 ∃ v z,e=.returned (.tuple #[v,.bool z])∧Below w.heap.size w w'∧((∃ E,aM l=some (E,[])∧z=true∧w'.ownsRow w.heap.size 188 4 v (jY E).length (Ba.rows cN (jY E)))∨((∀ E,aM l≠some (E,[]))∧z=false))
theorem NK (A:Option Addr) (c off:Nat) (l:List Tk) (hf:iC l) (hl:l.length≤200000) (hc:l.length≤c) (hcm:c≤maxLen) (w:World) (hv:bW off w w.heap.size (.slice A l.length c) l) :
  Calls Tryz.prog 62 #[.slice A l.length c] w (aC6 l w):=by
 have hA:∃ g,(0<l.length→A=some ⟨g,off,none⟩∧g<w.heap.size∧∀ k x,l[k]?=some x→∀ j u,(cT x)[j]?=some u→w.cell? ⟨g,off+(k * 3+j),none⟩=some u):=by
  obtain⟨A',c',e,h⟩:=hv
  injection e with e1 _ e3
  subst e1
  by_cases h0:0<l.length
  ·obtain⟨g,h1,h2,h3⟩:=h h0
   exact⟨g,fun _=>⟨h1,h2,h3⟩⟩
  ·exact⟨0,fun h=>absurd h h0⟩
 obtain⟨g,hA⟩:=hA
 have HA:=hid hA
 have HF:=hid hf
 obtain⟨m,hm⟩:∃ m,l.length=m:=⟨_,rfl⟩
 have HM:=hid hm
 rw[hm]at hl hc ⊢
 clear hA hv hf hm
 have hfn:∀ f,Fence.wide.fn f:=fun _=>trivial
 refine(callsIn_wide (n:=3)).1 ?_
 refine callsIn_of_wp_marks Tryz.func62 rfl trivial ?_ rfl
 simp only[Tryz.ntmps62,List.size_toArray,List.length_cons,List.length_nil,Nat.reduceAdd,Nat.reduceSub,Array.replicate_succ,Array.replicate_zero,List.push_toArray,List.append_toArray,List.nil_append,List.cons_append]
 gi_wp2_with (gi_at_call 93;refine(callsIn_wide.2 (S3 A m c _)).mono ?_;rintro e w' ⟨rfl,rfl⟩)
 obtain⟨W0,hW0⟩:∃ W0,((((w.alloc (.cells #[.slice none 0 0] 78)).alloc (.cells #[.bool false] 4)).alloc (.cells #[.slice none 0 0,.slice none 0 0] 141)).alloc (.cells #[.slice A m c] 23))=W0:=⟨_,rfl⟩
 have hsz:W0.heap.size=w.heap.size+4:=by rw[← hW0];simp
 have hB0:Below w.heap.size w W0:=by
  rw[← hW0]
  exact((((Below.refl _ w).alloc (Nat.le_refl _) _).alloc (by simp) _).alloc (by simp;omega) _).alloc (by simp;omega) _
 have hbx:Boxed W0 (w.heap.size+1+1+1) 23 (.slice A m c):=by
  rw[← hW0]
  have:=Boxed.new (((w.alloc (.cells #[.slice none 0 0] 78)).alloc (.cells #[.bool false] 4)).alloc (.cells #[.slice none 0 0,.slice none 0 0] 141)) 23 (.slice A m c)
  simpa using this
 have hI0:NI l w w.heap.size [] W0:=by
  refine⟨0,[],[],[],.slice none 0 0,.slice none 0 0,dL.zero l,rfl,fun _ _ _=>nF,⟨?_,World.ownsRow_nil _ _ _ _,World.ownsRow_nil _ _ _ _⟩,rfl,rfl,?_,?_,hB0⟩
  ·rw[← hW0]
   have h:=World.alloc_heap_new ((w.alloc (.cells #[.slice none 0 0] 78)).alloc (.cells #[.bool false] 4)) (.cells #[.slice none 0 0,.slice none 0 0] 141)
   refine(Below.heap_alloc _ _ _ (by simp)).trans ?_
   simpa using h
  ·rw[← hW0]
   exact(((Boxed.new w _ _).alloc _).alloc _).alloc _
  ·rw[← hW0]
   have h:=Boxed.new (w.alloc (.cells #[.slice none 0 0] 78)) 4 (.bool false)
   rw[World.size_alloc]at h
   exact(h.alloc _).alloc _
 rw[hW0]
 clear hW0
 refine Ra.xL (own:=fun _=>False) (by omega) (gf:=133) (fa:=#[]) (lb:=#[.pointer (some ⟨w.heap.size+1+1+1,0,none⟩)]) rfl (enters_of Tryz.func133 (by kernel_rfl) rfl) (fun _ h=>absurd h id)
  (JV 2 w.heap.size (w.heap.size+1+1+1) g off m c A l HM.out hl hc hcm W0 (by omega) (fun h0=>by
   obtain⟨a1,a2,a3⟩:=HA.out (by rw[HM.out];exact h0)
   exact⟨a1,a2,fun k x hx j u hu=>(hB0.cell (p:=⟨g,off+(k * 3+j),none⟩) a2).trans (a3 k x hx j u hu)⟩) hbx)
  (fun h k=>⟨h.1.trans k.1,h.2.trans k.2⟩)
  (fun W k o o' hk1 hk2 hk3 hk4=>⟨belowK_b (w:=w) (Nat.le_refl _) W k o o' (by omega) hk2 hk3 hk4,fun b' cs fr e=>by
   refine(World.putObj_heap_other (fun e2=>?_)).trans e
   rw[e2]at e
   rw[e]at hk2
   cases hk2
   cases hk3⟩)
  (fun _ _ _ _ h=>h) (fun _=>rfl) (NI l w w.heap.size) (NX l w w.heap.size)
  (fun pre A B' row hs hg hr=>NI.EX hs (Nat.le_refl _) hg (fun r e=>by have:=hr r e;exact⟨by omega,this.2⟩))
  (fun pre A B' row hs hg hr=>NX.EX hs (Nat.le_refl _) hg (fun r e=>by have:=hr r e;exact⟨by omega,this.2⟩))
  (fun _ _ _ _ h=>absurd h id) (fun pre V V' hb hs=>NI.below hs hb) hI0
  (fun x=>{ tmps:=#[.slice A m c,undef,.pointer (some ⟨w.heap.size,0,none⟩),.pointer (some ⟨w.heap.size+1,0,none⟩),.pointer (some ⟨w.heap.size+1+1,0,none⟩),.slice (some ⟨g,off+x.1 * 3,none⟩) (x.2 - x.1) (c - x.1),.slice A m c,
   .func (.func 133) #[] #[.pointer (some ⟨w.heap.size+1+1+1,0,none⟩)],.slice (some ⟨g,off+x.1 * 3,none⟩) (x.2 - x.1) (c - x.1),undef,undef,undef,undef,undef,undef,undef,undef,undef],defers:=[] }) ?assign ?body ?done ?stop
 case assign =>
  intro l' x W K hK
  dsimp only[aE7]
  gi_wp2
  exact hK
 case body =>
  rintro l' pre x W hI hpre
  have hgr:=XP (Nat.le_refl _) HF.out (by rw[HM.out];exact hl) hI hpre g off c ?hg (by rw[HM.out];exact hc) ?hcell
  case hg =>
   obtain⟨p,E,K,R,vn,va,h1,-⟩:=hI
   have:=(h1.next hpre).1
   exact(HA.out (by omega)).2.1
  case hcell =>
   obtain⟨p,E,K,R,vn,va,h1,h2,h3,h4,h5,h6,h7,h8,h9⟩:=hI
   have:=(h1.next hpre).1
   obtain⟨-,a2,a3⟩:=HA.out (by omega)
   exact fun k x hx j u hu=>(h9.cell (p:=⟨g,off+(k * 3+j),none⟩) a2).trans (a3 k x hx j u hu)
  obtain⟨h7,h8,h9⟩:Boxed W w.heap.size 78 (.slice none 0 0)∧Boxed W (w.heap.size+1) 4 (.bool false)∧Below w.heap.size w W:=by
   obtain⟨p,E,K,R,vn,va,h1,h2,h3,h4,h5,h6,h7,h8,h9⟩:=hI
   exact⟨h7,h8,h9⟩
  have H7:=hid h7
  have H8:=hid h8
  have H9:=hid h9
  clear hI h7 h8 h9 hpre
  rcases hgr with hc1 | ⟨hn,hc1⟩
  ·have HC:=hid hc1
   clear hc1
   gi_wp2_with (gi_at_call 94;refine(CallsIn.inRound l' (callsIn_wide.2 HC.out)).mono ?_;rintro e W2 ⟨rfl,hni,hst⟩;have HNI:=hid hni;have HST:=hid hst;clear hni hst)
   exact⟨HST.out.2.1.from _,⟨HST.out.1.mono (by omega),HST.out.2.2⟩,HNI.out⟩
  ·have HC:=hid hc1
   have HN:=hid hn
   clear hc1 hn
   gi_wp2_with (gi_at_call 94;refine(CallsIn.inRound l' (callsIn_wide.2 HC.out)).mono ?_;rintro e W2 ⟨rfl,hst⟩;have HST:=hid hst;obtain⟨d0,d1,d2⟩:=JX hst (Nat.le_refl _) H7.out H8.out H9.out;have e0:=d0.cell;have e1:=d0.frozen;have e2:=d1.cell;have e3:=d1.frozen;have D0:=hid d0;have D1:=hid d1;have D2:=hid d2;clear hst d0 d1 d2)
   have b0:=D0.out.set (.slice none 0 0)
   have b1:=(D1.out.other (show w.heap.size+1≠w.heap.size by omega) (.slice none 0 0)).set (.bool false)
   refine⟨(HST.out.2.1.from _).trans (((KeepsOthers.setCell _ _ _).from _).trans ((KeepsOthers.setCell _ _ _).from _)),HN.out,b0.other (by omega) _,b1,?_⟩
   exact(D2.out.setCell (p:=⟨w.heap.size,0,none⟩) (Nat.le_refl _) _).setCell (p:=⟨w.heap.size+1,0,none⟩) (by show w.heap.size≤w.heap.size+1;omega) _
 case done =>
  rintro D W hD hI _ hK
  obtain⟨p,E,K,R,vn,va,h1,h2,h3,h4,h5,h6,h7,h8,h9⟩:=hI
  have hp:=h1.all
  subst hp
  rw[List.take_length]at h2
  have hsm:=pN (p:=l.length) HF.out (by rw[List.take_length];exact h2)
  obtain⟨Aa,ca,rfl,-⟩:=eH h4.2.2
  have hvn:∃ An nn cn,vn=.slice An nn cn:=by
   obtain⟨A1,c1,e,-⟩:=eH h4.2.1
   exact⟨_,_,_,e⟩
  obtain⟨An,nn,cn,hvn⟩:=hvn
  have c0:W.drew.cell? ⟨w.heap.size+1+1,0,none⟩=some vn:=by
   show W.cell? _=_
   rw[Lib.cell_of_heap h4.1];rfl
  have c1:W.drew.cell? ⟨w.heap.size+1+1,1,none⟩=some (.slice Aa R.length ca):=by
   show W.cell? _=_
   rw[Lib.cell_of_heap h4.1];rfl
  have h7d:Boxed W.drew w.heap.size 78 (.slice none 0 0):=h7
  have h8d:Boxed W.drew (w.heap.size+1) 4 (.bool false):=h8
  have d0:=h7d.cell
  have d1:=h7d.frozen
  have b8:=h8d.other (show w.heap.size+1≠w.heap.size by omega) vn
  have e0:(W.setCell ⟨w.heap.size,0,none⟩ vn).drew.cell? ⟨w.heap.size+1,0,none⟩=some (.bool false):=b8.cell
  have e1:(W.setCell ⟨w.heap.size,0,none⟩ vn).drew.frozen? ⟨w.heap.size+1,0,none⟩=false:=b8.frozen
  have hg2:(W.setCell ⟨w.heap.size,0,none⟩ vn).drew.heap[w.heap.size+1+1]?=some (.cells #[vn,.slice Aa R.length ca] 141 (0,0)):=(Below.heap_setCell W _ _ (w.heap.size+1+1) (fun e=>by have e:w.heap.size+1+1=w.heap.size:=e;omega)).trans h4.1
  have g1:(W.setCell ⟨w.heap.size,0,none⟩ vn).drew.cell? ⟨w.heap.size+1+1,1,none⟩=some (.slice Aa R.length ca):=by rw[Lib.cell_of_heap hg2];rfl
  have hKd:W.drew.heap[D]?=some (.deferred (some [])):=hK
  have hend:∀ z:Bool,((∃ E,aM l=some (E,[])∧z=true∧W.ownsRow w.heap.size 188 4 vn (jY E).length (Ba.rows cN (jY E)))∨((∀ E,aM l≠some (E,[]))∧z=false)) →
    ∃ W9,W9=((W.setCell ⟨w.heap.size,0,none⟩ vn).setCell ⟨w.heap.size+1,0,none⟩ (.bool z)).drew∧W9.heap[D]?=some (.deferred (some []))∧(W9.putObj D (.deferred none)).cell? ⟨w.heap.size,0,none⟩=some vn∧(W9.putObj D (.deferred none)).cell? ⟨w.heap.size+1,0,none⟩=some (.bool z)∧aC6 l w (.returned (.tuple #[vn,.bool z])) (W9.putObj D (.deferred none)):=by
   intro z hz
   refine⟨_,rfl,?_,?_,?_,?_⟩
   ·exact(KeepsOthers.setCell (W.drew.setCell ⟨w.heap.size,0,none⟩ vn) ⟨w.heap.size+1,0,none⟩ (.bool z)).same D _ ((KeepsOthers.setCell W.drew ⟨w.heap.size,0,none⟩ vn).same D _ hKd rfl) rfl
   all_goals
    have hK':=(KeepsOthers.setCell (W.drew.setCell ⟨w.heap.size,0,none⟩ vn) ⟨w.heap.size+1,0,none⟩ (.bool z)).same D _ ((KeepsOthers.setCell W.drew ⟨w.heap.size,0,none⟩ vn).same D _ hKd rfl) rfl
    have x0:=(h7d.set vn).other (B':=w.heap.size+1) (show w.heap.size≠w.heap.size+1 by omega) (.bool z)
    have x1:=b8.set (.bool z)
   ·exact cell_kept x0.cell (grownBy_putObj' _ D (.deferred none)) (fun r e=>by cases e;exact⟨_,hK',rfl⟩)
   ·exact cell_kept x1.cell (grownBy_putObj' _ D (.deferred none)) (fun r e=>by cases e;exact⟨_,hK',rfl⟩)
   ·have hbl:Below w.heap.size w ((W.drew.setCell ⟨w.heap.size,0,none⟩ vn).setCell ⟨w.heap.size+1,0,none⟩ (.bool z)):=((Below.drew h9).setCell (p:=⟨w.heap.size,0,none⟩) (Nat.le_refl _) _).setCell (p:=⟨w.heap.size+1,0,none⟩) (by show w.heap.size≤w.heap.size+1;omega) _
    refine⟨vn,z,rfl,hbl.trans (belowK_b (w:=w) (Nat.le_refl _) _ D _ _ (by omega) hK' rfl rfl),?_⟩
    rcases hz with⟨E,e1,e2,e3⟩ | h
    ·refine .inl ⟨E,e1,e2,?_⟩
     have hne:∀ j,(j=w.heap.size∨j=w.heap.size+1)→vn.ownBlock≠some j:=fun j hj e=>by
      have:=(nG h4.2.1 (g:=j) e).1
      omega
     have e4:W.drew.ownsRow w.heap.size 188 4 vn (jY E).length (Ba.rows cN (jY E)):=e3
     exact ownsRow_putObj (Ba.fD (Ba.fD e4 (a:=⟨w.heap.size,0,none⟩) _ (hne _ (.inl rfl))) (a:=⟨w.heap.size+1,0,none⟩) _ (hne _ (.inr rfl))) (.deferred none) hK' rfl
    ·exact .inr h
  have hRl:R.length=K.length:=by rw[← h5,List.length_map]
  obtain⟨nr,hnr⟩:∃ nr,R.length=nr:=⟨_,rfl⟩
  by_cases hK0:nr=0
  ·have hE:∃ E,aM l=some (E,[])∧true=true∧W.ownsRow w.heap.size 188 4 vn (jY E).length (Ba.rows cN (jY E)):=by
    have hKn:K=[]:=List.eq_nil_of_length_eq_zero (by omega)
    subst hKn
    refine⟨E,h2,rfl,?_⟩
    have:=h4.2.1
    rw[NP (show Bal E from hsm.2.2.1)]at this
    exact yN this (by omega)
   obtain⟨W9,hW9,y1,y2,y3,y4⟩:=hend true (.inl hE)
   subst hvn
   have HY:=hid y4
   rw[hnr,hK0]at c1 g1
   clear hend hE hsm h1 h2 h3 h4 h5 h6 h7 h8 h9 h7d h8d b8 hRl hnr hg2
   gi_wp2
   gi_region
   all_goals
    gi_wp2
    rw[← hW9]
    refine⟨by simp,.inl ⟨_,_,rfl,run_takeDeferred y1,?_⟩⟩
    exact⟨.tuple #[.slice An nn cn,.bool true],by simp[results,Tryz.f62,go_sem,y2,y3],HY.out⟩
  ·have hE:∀ E,aM l≠some (E,[]):=fun E' e=>by
    rw[h2]at e
    have e:=Option.some.inj e
    have e:=congrArg Prod.snd e
    have e:K=[]:=e
    rw[e]at hRl
    exact hK0 (by rw[← hnr,hRl];rfl)
   obtain⟨W9,hW9,y1,y2,y3,y4⟩:=hend false (.inr ⟨hE,rfl⟩)
   subst hvn
   have HY:=hid y4
   rw[hnr]at c1 g1
   have z0:((nr:Int)==0)=false:=beq_eq_false_iff_ne.2 (by omega)
   clear hend hE hsm h1 h2 h3 h4 h5 h6 h7 h8 h9 h7d h8d b8 hRl hnr hg2 hK0
   gi_wp2
   gi_region
   all_goals
    gi_wp2
    rw[← hW9]
    refine⟨by simp,.inl ⟨_,_,rfl,run_takeDeferred y1,?_⟩⟩
    exact⟨.tuple #[.slice An nn cn,.bool false],by simp[results,Tryz.f62,go_sem,y2,y3],HY.out⟩
 case stop =>
  rintro D pre W hD hpre ⟨hn,hr0,hr1,hbl⟩ hK
  have HN:=hid hn
  have HBL:=hid hbl
  have HR0:=hid hr0
  have HR1:=hid hr1
  clear hbl hr0 hr1 hn
  gi_wp2
  refine⟨by simp,.inl ⟨_,_,rfl,run_takeDeferred hK,?_⟩⟩
  have k0:=cell_kept HR0.out.cell (grownBy_putObj' _ D (.deferred none)) (fun r e=>by cases e;exact⟨_,hK,rfl⟩)
  have k1:=cell_kept HR1.out.cell (grownBy_putObj' _ D (.deferred none)) (fun r e=>by cases e;exact⟨_,hK,rfl⟩)
  refine⟨.tuple #[.slice none 0 0,.bool false],?_,⟨_,_,rfl,HBL.out.trans (belowK_b (w:=w) (Nat.le_refl _) W D _ _ (by omega) hK rfl rfl),.inr ⟨fun E e=>?_,rfl⟩⟩⟩
  ·simp[results,Tryz.f62,go_sem,k0,k1]
  ·have h:=HN.out
   rw[h]at e;cases e
end Go.Proofs.YthbigkoihpgcfaaGreatDoor.Fl
namespace Go.Proofs.YthbigkoihpgcfaaGreatDoor.Fl
open Go.RowKit Go.Shelf Tr Nu Nl Cn
theorem XT {l:List Tk} {p:Nat} (h:tA (l.take p)=none):tA l=none:=by
 have e:∀ m:List Tk,m.foldl gV none=none:=by
  intro m
  induction m with
  | nil=>rfl
  | cons x m ih=>rw[List.foldl_cons,zW];exact ih
 rw[← List.take_append_drop p l]
 unfold tA at h ⊢
 rw[List.foldl_append,h,e]
theorem XU {l:List Tk} {q:List Ev × List Nat} (h:aM l=some q) {S:List Nat} (hS:tA l=some S) (hf:iC l):S.length≤l.length:=by
 obtain⟨E,K⟩:=q
 have h1:=PR l E K S h hS
 have h2:=pN hf (p:=l.length) (by rw[List.take_length];exact h)
 have:=List.length_filter_le dF K
 omega
def aF3 (c:Nat) (l:List Tk) (W:World) (e:Ending) (W':World):Prop :=
 ∃ i:Int,e=.returned (.int .i64 i)∧Below c W W'∧decide (0≤i)=mG l
theorem XV {c:Nat} {W:World} (hS:AZ c [] W) (A:Option Addr) (cp off:Nat) (l:List Tk) (hf:iC l) (hl:l.length≤200000) (hp:∃ q,aM l=some q) (hA:0<l.length→∃ g,A=some ⟨g,off,none⟩∧g<c∧∀ k x,l[k]?=some x→∀ j u,(cT x)[j]?=some u→W.cell? ⟨g,off+(k * 3+j),none⟩=some u) :
  Calls Tryz.prog 84 #[.slice A l.length cp,.func (.func 95) #[] #[.pointer (some ⟨c,0,none⟩)]] W (aF3 c l W):=by
 obtain⟨m,hm⟩:∃ m,l.length=m:=⟨_,rfl⟩
 have HM:=hid hm
 have HA:=hid hA
 have HP:=hid hp
 have HF:=hid hf
 have HS:=hid hS
 rw[hm]at hl ⊢
 clear hm hA hp hf hS
 go_enter Tryz.func84,Tryz.ntmps84
 go_wp2
 go_loopw [8] (fun u8 wr=>∃ (k:Nat) (S:List Nat),u8=.int .i64 (k:Int)∧k≤m∧tA (l.take k)=some S∧AZ c S wr∧Below c W wr) (fun u8 _=>m - (intOf u8).toNat)
 case atStart=>exact⟨0,[],rfl,Nat.zero_le _,rfl,HS.out,Below.refl _ _⟩
 case round =>
  obtain⟨k,S,rfl,hk,hr,hS,hB⟩:=hrel
  have k0:(0:Int)≤(k:Int):=by omega
  by_cases hlt:k<m
  ·obtain⟨⟨kd,ch,pl⟩,hx⟩:∃ x,l[k]?=some x:=⟨_,List.getElem?_eq_getElem (by rw[HM.out];exact hlt)⟩
   obtain⟨g,rfl,hg,hcell⟩:=HA.out (by rw[HM.out];omega)
   obtain⟨c0,c1,c2⟩:=pM hcell k _ hx
   simp only[]at c0 c1 c2
   rw[← hB.cell (p:=⟨g,_,none⟩) hg]at c0 c1 c2
   have hgl:g<wr.heap.size:=Nat.lt_trans hg hS.lt
   obtain⟨q,hq⟩:=HP.out
   have htk:=take_one hx
   obtain⟨q1,hq1⟩:=pL (l:=l.take (k+1)) (m:=l.drop (k+1)) (q:=q) (by rw[List.take_append_drop];exact hq)
   obtain⟨q0,hq0⟩:=pL (l:=l.take k) (m:=l.drop k) (q:=q) (by rw[List.take_append_drop];exact hq)
   rw[htk]at hq1
   have hkd:=NM hq1
   have hSl:=XU hq0 hr (fun x hx=>HF.out x (List.mem_of_mem_take hx))
   rw[List.length_take]at hSl
   have hch:=(HF.out _ (List.mem_of_getElem? hx)).2.1
   have HC:=hid (aD0 hS (by have:=HM.out;omega) kd ch hch pl hkd (fun h3 hf=>SR hq1 hr h3 hf))
   have HST:=hid (show tA (l.take (k+1))=gV (some S) ⟨kd,ch,pl⟩ by rw[htk,C4,hr])
   have HB:=hid hB
   have k1:(k:Int)<(m:Int):=by omega
   clear hx hcell hq htk hq1 hq0 hr hS hB hkd hch hSl
   go_wp2_with fail
   refine HC.out.mono ?_
   rintro e w2 ⟨z,rfl,hb2,hz⟩
   rcases hz with⟨h1,rfl⟩ | ⟨S',h1,rfl,h2⟩
   ·have HW:=hid (show mG l=true by
     unfold mG
     rw[XT (p:=k+1) (HST.out.trans h1)];rfl)
    have HB2:=hid (HB.out.trans hb2)
    clear h1 hb2
    go_wp2
    go_ret
    exact⟨_,rfl,HB2.out,by rw[HW.out];exact decide_eq_true (by omega)⟩
   ·have H1:=hid (HST.out.trans h1)
    have H2:=hid h2
    have HB2:=hid (HB.out.trans hb2)
    clear h1 h2 hb2
    go_wp2
    go_roundw
    case rel=>exact⟨k+1,S',by go_num,by omega,H1.out,H2.out,HB2.out⟩
    case measure=>simp[intOf];omega
  ·obtain rfl:k=m:=by omega
   have HW:=hid (show mG l=false by
    rw[← HM.out,List.take_length]at hr
    unfold mG
    rw[hr];rfl)
   have HB:=hid hB
   clear hr hS hB
   go_wp2
   go_ret
   exact⟨_,rfl,HB.out,by rw[HW.out];rfl⟩
theorem wU {c:Nat} {W:World} (hS:AZ c [] W) (A:Option Addr) (cp off:Nat) (l:List Tk) (hf:iC l) (hl:l.length≤200000) (hp:∃ q,aM l=some q) (hA:0<l.length→∃ g,A=some ⟨g,off,none⟩∧g<c∧∀ k x,l[k]?=some x→∀ j u,(cT x)[j]?=some u→W.cell? ⟨g,off+(k * 3+j),none⟩=some u) (z:Bool) (hz:mG l=z) :
  Calls Tryz.prog 63 #[.slice A l.length cp,.func (.func 95) #[] #[.pointer (some ⟨c,0,none⟩)]] W fun e W'=>e=.returned (.bool z)∧Below c W W':=by
 have HC:=hid (XV hS A cp off l hf hl hp hA)
 have HZ:=hid hz
 clear hS hf hl hp hA hz
 go_enter Tryz.func63,Tryz.ntmps63
 go_wp2_with fail
 refine HC.out.mono ?_
 rintro e w2 ⟨i,rfl,hb,hi⟩
 have HI:=hid (hi.trans HZ.out)
 have HB:=hid hb
 clear hb hi
 go_wp2
 go_ret
 exact⟨Ba.aC HI.out,HB.out⟩
theorem JL (w:World):Calls Tryz.prog 64 #[] w fun e w'=>e=.returned (.func (.func 95) #[] #[.pointer (some ⟨w.heap.size,0,none⟩)])∧w'=w.alloc (.cells #[.slice none 0 0] 89):=by
 go_enter Tryz.func64,Tryz.ntmps64
 go_wp2
 go_ret
 exact⟨rfl,rfl⟩
end Go.Proofs.YthbigkoihpgcfaaGreatDoor.Fl
