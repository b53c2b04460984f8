/-
  Put together: FlI, FlJ, FlK, FlL, FlM.
-/
import Derived.Test.YtgpihfacmpbpaaaGreatDoorOf
import Derived.Test.YtgpihfacmpbpaaaGreatDoorVk
import Derived.IntWalk
import Derived.Test.YtgpihfacmpbpaaaGreatDoorNc
import Derived.Test.YtgpihfacmpbpaaaGreatDoorNh
namespace Go.Proofs.YtgpihfacmpbpaaaGreatDoor.Fl
open Go.RowKit Tr Nu Nl Cn
theorem z7 {l:List Tk} {g:Nat} {w:World} (hcell:∀ k x,l[k]?=some x→∀ j u,(cT x)[j]?=some u→w.cell? ⟨g,0+(k * 3+j),none⟩=some u) (k:Nat) (x:Tk) (hx:l[k]?=some x) :
  w.cell? ⟨g,k * 3,none⟩=some (.int .i64 x.kind)∧w.cell? ⟨g,k * 3+1,none⟩=some (.int .u8 (x.ch:Int))∧w.cell? ⟨g,k * 3+2,none⟩=some (.int .i64 x.place):=by
 have h:=fun j u hu=>hcell k x hx j u hu
 simp only[Nat.zero_add]at h
 exact⟨h 0 _ rfl,h 1 _ rfl,h 2 _ rfl⟩
set_option maxHeartbeats 4000000 in
theorem QO (u v:Value) (l:List Tk) (hl:l.length≤1000000) (w:World) (B1 B2:Nat) (hu:fE 0 w B1 u l) (hv:fE 0 w B2 v l) :
  Calls Tryz.prog 25 #[u,v] w fun e w'=>e=.returned (.bool true)∧∃ n,w'=w.drewN n:=by
 obtain⟨A,c,rfl,hA⟩:=hu
 obtain⟨B,d,rfl,hB⟩:=hv
 have HA:=Lib.hid hA;clear hA
 have HB:=Lib.hid hB;clear hB
 go_enter Tryz.func25,Tryz.ntmps25
 go_wp2
 go_loopw [5] (fun i wr=>∃ (k n:Nat),k≤l.length∧i=.int .i64 k∧wr=w.drewN n) (fun i _=>l.length - (intOf i).toNat)
 case atStart=>exact⟨0,0,by omega,rfl,rfl⟩
 case round =>
  obtain⟨k,n,hk,rfl,rfl⟩:=hrel
  by_cases hlt:k<l.length
  ·obtain⟨g,rfl,-,hg⟩:=HA.out (by omega)
   obtain⟨h,rfl,-,hh⟩:=HB.out (by omega)
   obtain⟨g1,g2,-⟩:=z7 hg k _ (List.getElem?_eq_getElem hlt)
   obtain⟨h1,h2,-⟩:=z7 hh k _ (List.getElem?_eq_getElem hlt)
   clear hg hh HA HB
   go_wp2
   go_big_quiet (fail)
   go_wp2
   go_roundw
   case rel=>exact⟨k+1,n+nq,by omega,by go_num,rfl⟩
   case measure=>simp[intOf];omega
  ·go_wp2
   go_ret
   exact⟨rfl,n,rfl⟩
set_option maxHeartbeats 4000000 in
theorem QP (u v:Value) (l:List Tk) (hl:l.length≤1000000) (w:World) (B1 B2:Nat) (hu:fE 0 w B1 u l) (hv:fE 0 w B2 v l) :
  Calls Tryz.prog 10 #[u,v] w fun e w'=>e=.returned (.bool true)∧∃ n,w'=w.drewN n:=by
 have HSM:=Lib.hid (fun n=>QO u v l hl (w.drewN n) B1 B2 (by
  obtain⟨A,c,rfl,hA⟩:=hu
  exact⟨A,c,rfl,fun h=>by obtain⟨g,e,h1,h2⟩:=hA h;exact⟨g,e,h1,fun k x hx j u hu=>by rw[World.cell?_drewN];exact h2 k x hx j u hu⟩⟩) (by
  obtain⟨A,c,rfl,hA⟩:=hv
  exact⟨A,c,rfl,fun h=>by obtain⟨g,e,h1,h2⟩:=hA h;exact⟨g,e,h1,fun k x hx j u hu=>by rw[World.cell?_drewN];exact h2 k x hx j u hu⟩⟩))
 obtain⟨A,c,rfl,hA⟩:=hu
 obtain⟨B,d,rfl,hB⟩:=hv
 have HA:=Lib.hid hA;clear hA
 have HB:=Lib.hid hB;clear hB
 go_enter Tryz.func10,Tryz.ntmps10
 go_wp2
 go_loopw [5] (fun i wr=>∃ (k n:Nat),k≤l.length∧i=.int .i64 k∧wr=w.drewN n) (fun i _=>l.length - (intOf i).toNat)
 case atStart=>exact⟨0,0,by omega,rfl,rfl⟩
 case round =>
  obtain⟨k,n,hk,rfl,rfl⟩:=hrel
  by_cases hlt:k<l.length
  ·obtain⟨g,rfl,-,hg⟩:=HA.out (by omega)
   obtain⟨h,rfl,-,hh⟩:=HB.out (by omega)
   obtain⟨-,-,g3⟩:=z7 hg k _ (List.getElem?_eq_getElem hlt)
   obtain⟨-,-,h3⟩:=z7 hh k _ (List.getElem?_eq_getElem hlt)
   clear hg hh HA HB
   go_wp2
   go_big_quiet (fail)
   go_wp2
   go_roundw
   case rel=>exact⟨k+1,n+nq,by omega,by go_num,rfl⟩
   case measure=>simp[intOf];omega
  ·go_wp2_with fail
   refine(HSM.out n).mono ?_
   rintro e w' ⟨rfl,n2,rfl⟩
   go_wp2
   go_ret
   exact⟨rfl,n+n2,rfl⟩
end Go.Proofs.YtgpihfacmpbpaaaGreatDoor.Fl
namespace Go.Proofs.YtgpihfacmpbpaaaGreatDoor.Fl
open Go.RowKit Tr Nu Nl Cn
def nC (w w':World) (u v:Value):Prop:=∀ b,b<w.heap.size→(∀ j,u.ownBlock=some j→j≠b)→(∀ i,w'.cell? ⟨b,i,none⟩=w.cell? ⟨b,i,none⟩)∧∀ j,v.ownBlock=some j→j≠b
theorem nC.refl (w:World) (u:Value):nC w w u u:=fun _ _ h=>⟨fun _=>rfl,h⟩
theorem nC.trans {w w1 w2:World} {u v x:Value} (h:nC w w1 u v) (hs:w.heap.size≤w1.heap.size) (k:nC w1 w2 v x):nC w w2 u x:=fun b hb hu=>by
 obtain⟨a1,a2⟩:=h b hb hu
 obtain⟨b1,b2⟩:=k b (by omega) a2
 exact⟨fun i=>(b1 i).trans (a1 i),b2⟩
theorem nC.alloc (w:World) (o:Obj) (u:Value):nC w (w.alloc o) u u:=fun b hb h=>⟨fun i=>World.cell?_of_block (w:=w) (a:=⟨b,i,none⟩) (Below.heap_alloc w o b hb),h⟩
theorem nC.grown {w w5:World} {o:Obj} {u:Value} {gg n cap:Nat} (hg:(w.alloc o).grownBy w5 u.ownBlock) (hat:u.ownBlock=some gg∨gg=w.heap.size+1):nC w w5 u (.slice (some ⟨gg,0,none⟩) n cap):=fun b hb h=>by
 refine⟨fun i=>?_,fun j hj=>?_⟩
 ·rw[hg.cell_far ⟨b,i,none⟩ (by simp;omega) (fun e=>h b e.symm rfl)]
  exact World.cell?_of_block (w:=w) (a:=⟨b,i,none⟩) (Below.heap_alloc w o b hb)
 ·have:gg=j:=by simpa[Value.ownBlock] using hj
  subst this
  rcases hat with e | e
  ·exact h _ e
  ·omega
def aB9 (base:Nat) (o T:List Tk) (u:Value) (w:World) (e:Ending) (w':World):Prop:=∃ v,e=.returned v∧w'.ownsRow base 39 3 v (o.length+T.length) (Ba.rows cT (o++T))∧Below base w w'∧nC w w' u v
def aCA (t:List Nd) (base a e:Nat) (L:List Lx.Lx) (o:List Tk) (u:Value) (w:World) (u0 u2:Value) (wr:World):Prop :=
 ∃ (k r:Nat) (LA LB:List Lx.Lx) (O:List Tk),u2=.int .i64 (k:Int)∧a≤k∧k≤e∧fJ t a k=some LA∧fJ t k e=some LB∧L=LA++LB∧O=o++fU (FJ t a LA)∧O.length=r∧wr.ownsRow base 39 3 u0 r (Ba.rows cT O)∧Below base w wr∧nC w wr u u0∧w.heap.size≤wr.heap.size
def aCB (base B:Nat) (O:List Tk) (r:Nat) (xt:ByteArray) (xk:Nat) (xp xz:Int) (u:Value) (w:World) (u0 u10:Value) (wi:World):Prop :=
 ∃ i:Nat,u10=.int .i64 (i:Int)∧i≤xt.size∧wi.ownsRow base 39 3 u0 (r+i) (Ba.rows cT (O++nZ xp xt i))∧Below base w wi∧nC w wi u u0∧w.heap.size≤wi.heap.size∧B<wi.heap.size∧(∀ j,u0.ownBlock=some j→j≠B)∧wi.cell? ⟨B,0,none⟩=some (.int .u8 (xk:Int))∧wi.cell? ⟨B,1,none⟩=some (.string xt)∧wi.cell? ⟨B,2,none⟩=some (.int .i64 xp)∧wi.cell? ⟨B,3,none⟩=some (.int .i64 xz)
theorem rQ {t:List Nd} (hp:∀ x ∈ t,gM x) {a k:Nat} {LA:List Lx.Lx} (h:fJ t a k=some LA) (hak:a≤k) (hk:k≤t.length) {n:Nat} {M:List Lx.Lx} (hM:fJ t k (k+n)=some M) (hkn:k+n≤t.length):fU (FJ t a (LA++M))=fU (FJ t a LA)++fU (FJ t k M):=by
 have w1:=yN t hp _ a k LA (Nat.le_refl _) hak hk h
 have w2:=yN t hp _ k (k+n) M (Nat.le_refl _) (by omega) hkn hM
 have:=vE w1 w2 (vD t) (aU t) a
 rw[List.length_drop,List.length_take,show a+(min k t.length - a)=k by omega]at this
 exact this
theorem ZD {t:List Nd} {k:Nat} {x:Nd} (hx:t[k]?=some x):fU (FJ t k [pB x.text])=nZ x.place x.text x.text.size:=by
 have:=AS (vD t) (aU t) k x.text
 rw[show vD t k=(x.text,x.place) by unfold vD;rw[hx]]at this
 exact this
theorem aCC {t:List Nd} (hp:∀ x ∈ t,gM x) {k n:Nat} {x:Nd} (hx:t[k]?=some x) {M:List Lx.Lx} (hM:fJ t (k+1) (k+n)=some M) (hn:1≤n) (hkn:k+n≤t.length) :
  fU (FJ t k (jJ x.kind::(M++[nB])))=(⟨2,x.kind,x.place⟩::fU (FJ t (k+1) M))++[⟨3,x.kind,dW (⟨2,x.kind,x.place⟩::fU (FJ t (k+1) M))⟩]:=by
 have w2:=yN t hp _ (k+1) (k+n) M (Nat.le_refl _) (by omega) hkn hM
 have:=AU w2 (vD t) (aU t) k x.kind
 rw[show aU t k=x.place by unfold aU;rw[hx]]at this
 exact this
theorem AX (O:List Tk) (x:Tk):Ba.rows cT (O++[x])=Ba.rows cT O++cT x:=by rw[Ba.cW]
end Go.Proofs.YtgpihfacmpbpaaaGreatDoor.Fl
namespace Go.Proofs.YtgpihfacmpbpaaaGreatDoor.Fl
open Go.RowKit Tr Nu Nl Cn
set_option maxRecDepth 100000 in
set_option maxHeartbeats 8000000 in
theorem UK (t:List Nd) (off:Nat) (v:Value) (ht:t.length≤9000) (hf:Fit t) (hp:∀ x ∈ t,gM x) (base:Nat):∀ n a e L (o:List Tk) (u:Value),e - a≤n→a≤e→e≤t.length→fJ t a e=some L→(o++fU (FJ t a L)).length≤1000000→∀ w:World,base≤w.heap.size→w.ownsRow base 39 3 u o.length (Ba.rows cT o)→aS off w base v t →
  Calls Tryz.prog 24 #[u,v,.int .i64 (a:Int),.int .i64 (e:Int)] w (aB9 base o (fU (FJ t a L)) u w):=by
 intro n
 induction n using Nat.strongRecOn with
 | _ n ih =>
  intro a e L o u hn hae hel hL hsz w hbw hown hv
  have IH:=Lib.hid ih
  have HF:=Lib.hid hf
  have HP:=Lib.hid hp
  have HLL:=Lib.hid hL
  have HSZ:=Lib.hid hsz
  have HV:=Lib.hid hv
  have HOW0:=Lib.hid hown
  obtain⟨A,c,rfl,hA⟩:=hv
  have HA:=Lib.hid hA
  obtain⟨i0,hi0,hz0,hz1,hz2⟩:=info_parts FM
  clear ih hf hp hL hsz hA hown
  go_enter Tryz.func24,Tryz.ntmps24
  go_wp2
  go_loopw [0,2] (fun u0 u2 wr=>aCA t base a e L o u w u0 u2 wr) (fun _ u2 _=>e - (intOf u2).toNat)
  case atStart=>exact⟨a,o.length,[],L,o,rfl,Nat.le_refl _,hae,dT t a a (Nat.le_refl _),HLL.out,rfl,(List.append_nil o).symm,rfl,HOW0.out,Below.refl _ _,nC.refl _ _,Nat.le_refl _⟩
  case round =>
   obtain⟨k,r,LA,LB,O,rfl,hak,hke,h1,h2,h3,hO,hr,own,hB,hfar,hws⟩:=hrel
   by_cases hlt:k<e
   ·obtain⟨x,z,R,hx,hs,hz,hle,hR,htx,hnd⟩:=IV h2 hlt
    obtain⟨g,rfl,hg,hcell⟩:=HA.out (by omega)
    obtain⟨hk2,hts,hpl,-,-⟩:=HF.out _ (List.mem_of_getElem? hx)
    obtain⟨d0,d1,d2,d3⟩:=cE hcell k _ hx
    have upr:=fun i=>World.cell?_of_block (w:=w) (a:=⟨g,i,none⟩) (hB.block g hg)
    rw[← upr]at d0 d1 d2 d3
    have hlast:(O++fU (FJ t k LB)).length≤1000000:=by
     have hsz:=HSZ.out
     have hj:=rQ HP.out h1 hak (by omega) (n:=e - k) (by rw[show k+(e - k)=e by omega];exact h2) (by omega)
     rw[h3,hj,← List.append_assoc,← hO]at hsz
     exact hsz
    have HLAST:=Lib.hid hlast
    have j0:(0:Int)≤(k:Int):=by omega
    have j1:(k:Int)<(t.length:Int):=by omega
    have j2:(k:Int)<(e:Int):=by omega
    have hr9:r≤1000000:=by rw[List.length_append]at hlast;omega
    have hlt2:=own.lt
    obtain⟨xk,xt,xp,xs⟩:=x
    simp only[]at d0 d1 d2 d3 hk2 hs hpl hts htx hnd
    subst hs
    have HB:=Lib.hid hB
    have HOW:=Lib.hid own
    have HFAR:=Lib.hid hfar
    have HX:=Lib.hid hx
    have HR:=Lib.hid hR
    have H1:=Lib.hid h1
    have H2:=Lib.hid h2
    have H3:=Lib.hid h3
    have HO:=Lib.hid hO
    have HRL:=Lib.hid hr
    by_cases k6:xk=46
    ·obtain⟨W0,rfl⟩:∃ W,W=wr:=⟨_,rfl⟩
     have hz1':=htx k6
     subst hz1'
     subst k6
     have hev:fJ t k (k+1)=some [pB xt]:=by rw[oN (by omega) hx rfl rfl,dT t (k+1) (k+1) (Nat.le_refl _)];rfl
     have hA':=nG t _ a k (k+1) LA [pB xt] (Nat.le_refl _) hak (by omega) h1 hev
     have hLB:LB=pB xt::R:=by
      rw[oN hlt hx rfl rfl,hR,Option.map_some,Option.some.injEq]at h2
      exact h2.symm
     have hone:=ZD hx
     have hpart:=rQ HP.out h1 hak (by omega) hev (by omega)
     rw[hone]at hpart
     have hpart:fU (FJ t a (LA++[pB xt]))=fU (FJ t a LA)++nZ xp xt xt.size:=hpart
     have hbd:r+xt.size≤1000000:=by
      have hq:=HLAST.out
      have hj:=rQ HP.out hev (by omega) (by omega) (n:=e - (k+1)) (M:=R) (by rw[show k+1+(e - (k+1))=e by omega];exact hR) (by omega)
      rw[hone]at hj
      rw[hLB,show pB xt::R=[pB xt]++R from rfl,hj,List.length_append,List.length_append]at hq
      have h5:(nZ xp xt xt.size).length=xt.size:=FH _ _ _
      have h6:(nZ (Nd.place ⟨46,xt,xp,((1:Nat):Int)⟩) (Nd.text ⟨46,xt,xp,((1:Nat):Int)⟩) (Nd.text ⟨46,xt,xp,((1:Nat):Int)⟩).size).length=xt.size:=h5
      omega
     have HEND:=Lib.hid (fun(u0:Value) (W:World) (b1:W.ownsRow base 39 3 u0 (r+xt.size) (Ba.rows cT (O++nZ xp xt xt.size))) (b2:Below base w W) (b3:nC w W u u0) (b4:w.heap.size≤W.heap.size)=>(show aCA t base a e L o u w u0 (.int .i64 ((k:Int)+1)) W from ⟨k+1,r+xt.size,LA++[pB xt],R,O++nZ xp xt xt.size,by go_num,by omega,by omega,hA',hR,by rw[H3.out,hLB];simp,by rw[hpart,hO,List.append_assoc],by rw[List.length_append,hr,FH],b1,b2,b3,b4⟩))
     have hbx:Below base w (W0.alloc (.cells #[.int .u8 ((46:Nat):Int),.string xt,.int .i64 xp,.int .i64 ((1:Nat):Int)] 41)):=hB.alloc (by omega) _
     have hst:aCB base W0.heap.size O r xt 46 xp ((1:Nat):Int) u w u0 (.int .i64 0) (W0.alloc (.cells #[.int .u8 ((46:Nat):Int),.string xt,.int .i64 xp,.int .i64 ((1:Nat):Int)] 41)):=by
      refine⟨0,rfl,Nat.zero_le _,?_,hbx,hfar.trans hws (nC.alloc _ _ _),by simp;omega,by simp,fun j hj=>by have:=(hlt2 j hj).2;omega,by simp,by simp,by simp,by simp⟩
      show World.ownsRow _ base _ 3 u0 (r+0) (Ba.rows cT (O++[]))
      rw[List.append_nil,Nat.add_zero]
      exact own.alloc _
     have HST:=Lib.hid hst
     have t1:(((46:Nat):Int)==46)=true:=rfl
     clear hx h1 h2 h3 hO hr own hB hfar hR htx hnd hcell upr hev hA' hLB hone hpart hlast hlt2 hbx hst HLL HSZ
     go_wp2
     go_loopw [0,10] (fun u0 u10 wi=>aCB base W0.heap.size O r xt 46 xp ((1:Nat):Int) u w u0 u10 wi) (fun _ u10 _=>xt.size - (intOf u10).toNat)
     case atStart=>exact HST.out
     case round =>
      obtain⟨i,rfl,hi,own,hB,hfar,hws2,hBlt,hne,c0,c1,c2,c3⟩:=hrel
      have hlt3:=own.lt
      have i0':(0:Int)≤(i:Int):=by omega
      have HOWI:=Lib.hid own
      have HFIN:=Lib.hid (⟨hB,hfar,hws2⟩:Below base w wr∧nC w wr u u0∧w.heap.size≤wr.heap.size)
      by_cases hil:i<xt.size
      ·have E1:=Lx.cJ xt i hil
       obtain⟨b,hb⟩:∃ b,Lx.bT xt i=b:=⟨_,rfl⟩
       have hb2:b<256:=hb▸Lx.eF xt i
       rw[hb]at E1
       obtain⟨zz,hzz⟩:∃ zz,IntKind.i64.wrap (xp+(i:Int))=zz:=⟨_,rfl⟩
       have hzw:wrap64 (xp+(i:Int))=zz:=(IntWalk.i64_left _).symm.trans hzz
       have i1':(i:Int)<(xt.size:Int):=by omega
       have HNX:=Lib.hid (fun(gg cap:Nat) (w5:World) (o1:w5.ownsRow base 39 3 (.slice (some ⟨gg,0,none⟩) (r+i+1) cap) (r+i+1) (Ba.rows cT (O++nZ xp xt i)++[.int .i64 1,.int .u8 (b:Int),.int .i64 zz])) (hg:(wr.alloc (.cells #[.int .i64 1,.int .u8 (b:Int),.int .i64 zz] 39)).grownBy w5 u0.ownBlock) (hat:u0.ownBlock=some gg∨gg=wr.heap.size+1) (_hl:gg<w5.heap.size)=>(show aCB base W0.heap.size O r xt 46 xp ((1:Nat):Int) u w (.slice (some ⟨gg,0,none⟩) (r+i+1) cap) (.int .i64 ((i:Int)+1)) w5 from by
        have hf:=nC.grown (n:=r+i+1) (cap:=cap) hg hat
        obtain⟨q1,q2⟩:=hf W0.heap.size hBlt hne
        refine⟨i+1,by go_num,by omega,?_,(hB.alloc (by omega) _).grown hg (by simp;omega) (fun j ej=>(hlt3 j ej).1),hfar.trans hws2 hf,Nat.le_trans hws2 (Nat.le_trans (by simp) hg.size),Nat.lt_of_lt_of_le hBlt (Nat.le_trans (by simp) hg.size),q2,(q1 0).trans c0,(q1 1).trans c1,(q1 2).trans c2,(q1 3).trans c3⟩
        rw[oL,← List.append_assoc,AX,hb,hzw]
        exact o1))
       clear hb hzw own hB hfar hlt3 hne
       go_upto_region 7 with fail
       go_region_law
        ((refine step_append_lies _ (by rfl) _ _ _ (by rfl) base 39 i0 _ 3 24 Tryz.underlying25 hi0 hz0 hz1 hz2 rfl (by omega) u0 (r+i) _ (by rfl) ((HOWI.out.alloc _).drew) ⟨wr.heap.size,0,none⟩ 1 1 [.int .i64 1,.int .u8 (b:Int),.int .i64 zz] (by rfl) (by rfl) (World.news_of_block (cs:=#[.int .i64 1,.int .u8 (b:Int),.int .i64 zz]) (t:=39) (fr:=(0,0)) (heap_alloc_new wr _)) (by simp[Value.oneCell']) (by omega) (by unfold maxLen;omega) (by omega) (by simp;omega) (wr.heap.size+1) (by simp) ?_;intro gg cap w5 hown5 hgrow5 hat5 hlt5;have HF:=Lib.hid (HNX.out gg cap w5 hown5 ⟨hgrow5.os,hgrow5.tape,hgrow5.output,hgrow5.size,hgrow5.block⟩ hat5 hlt5);clear hown5 hgrow5 hat5 hlt5))
       all_goals
        go_wp2
        go_roundw
        case rel=>exact HF.out
        case measure=>simp[intOf];omega
      ·obtain rfl:i=xt.size:=by omega
       have HE2:=Lib.hid (HEND.out u0 wr HOWI.out HFIN.out.1 HFIN.out.2.1 HFIN.out.2.2)
       clear own hB hfar hlt3 hne
       go_wp2
       go_roundw
       case rel=>exact HE2.out
       case measure=>simp[intOf];omega
    ·obtain⟨M,hM⟩:=hnd k6
     have t1:((xk:Int)==46)=false:=by rw[beq_eq_false_iff_ne];omega
     have hev:fJ t k (k+z)=some (jJ xk::(M++[nB])):=by
      rw[lK hx k6 rfl hz (Nat.le_refl _),hM,dT t (k+z) (k+z) (Nat.le_refl _)];rfl
     have hA':=nG t _ a k (k+z) LA _ (Nat.le_refl _) hak (by omega) h1 hev
     have hLB:LB=jJ xk::(M++nB::R):=by
      rw[lK hx k6 rfl hz hle,hM,hR]at h2
      exact(Option.some.inj h2).symm
     have hin:=aCC HP.out hx hM hz (by omega)
     have hpart:=rQ HP.out h1 hak (by omega) hev (by omega)
     simp only[]at hin
     rw[hin]at hpart
     obtain⟨T,hT⟩:∃ T,fU (FJ t (k+1) M)=T:=⟨_,rfl⟩
     rw[hT]at hpart
     obtain⟨O1,hO1⟩:∃ O1,O++[⟨2,xk,xp⟩]=O1:=⟨_,rfl⟩
     have hO1l:O1.length=r+1:=by rw[← hO1,List.length_append,hr];rfl
     have hbd:r+1+T.length+1≤1000000:=by
      have hq:=HLAST.out
      have hj:=rQ HP.out hev (by omega) (by omega) (n:=e - (k+z)) (M:=R) (by rw[show k+z+(e - (k+z))=e by omega];exact hR) (by omega)
      rw[hLB,show jJ xk::(M++nB::R)=(jJ xk::(M++[nB]))++R by simp,hj,hin,hT,List.length_append,List.length_append,List.length_append,List.length_cons,List.length_singleton,hr]at hq
      omega
     obtain⟨pl,hplv⟩:∃ pl,dW (⟨2,xk,xp⟩::T)=pl:=⟨_,rfl⟩
     rw[hplv]at hpart
     have hlastO:dW (O1++T)=pl:=by
      rw[← hO1,List.append_assoc,show ([⟨2,xk,xp⟩]++T:List Tk)=⟨2,xk,xp⟩::T from rfl,uB _ _ (by simp),hplv]
     have HEND:=Lib.hid (fun(x0:Value) (W:World) (b1:W.ownsRow base 39 3 x0 (r+1+T.length+1) (Ba.rows cT (O1++T)++[.int .i64 3,.int .u8 (xk:Int),.int .i64 pl])) (b2:Below base w W) (b3:nC w W u x0) (b4:w.heap.size≤W.heap.size)=>(show aCA t base a e L o u w x0 (.int .i64 ((k:Int)+(z:Int))) W from ⟨k+z,r+1+T.length+1,LA++jJ xk::(M++[nB]),R,O1++T++[⟨3,xk,pl⟩],by go_num,by omega,by omega,hA',hR,by rw[H3.out,hLB];simp,by rw[hpart,← hO1,hO];simp,by rw[List.length_append,List.length_append,hO1l];rfl,by rw[AX];exact b1,b2,b3,b4⟩))
     have HROW1:=Lib.hid (show Ba.rows cT O1=Ba.rows cT O++[.int .i64 2,.int .u8 (xk:Int),.int .i64 xp] by rw[← hO1,AX];rfl)
     have hbx:Below base w (wr.alloc (.cells #[.int .u8 (xk:Int),.string xt,.int .i64 xp,.int .i64 (z:Int)] 41)):=hB.alloc (by omega) _
     have HBX:=Lib.hid hbx
     have own1:=own.alloc (.cells #[.int .u8 (xk:Int),.string xt,.int .i64 xp,.int .i64 (z:Int)] 41)
     have HFX:=Lib.hid (hfar.trans hws (nC.alloc wr (.cells #[.int .u8 (xk:Int),.string xt,.int .i64 xp,.int .i64 (z:Int)] 41) u0))
     have y0:(wr.alloc (.cells #[.int .u8 (xk:Int),.string xt,.int .i64 xp,.int .i64 (z:Int)] 41)).cell? ⟨wr.heap.size,0,none⟩=some (.int .u8 (xk:Int)):=by simp
     have y2:(wr.alloc (.cells #[.int .u8 (xk:Int),.string xt,.int .i64 xp,.int .i64 (z:Int)] 41)).cell? ⟨wr.heap.size,2,none⟩=some (.int .i64 xp):=by simp
     have y3:(wr.alloc (.cells #[.int .u8 (xk:Int),.string xt,.int .i64 xp,.int .i64 (z:Int)] 41)).cell? ⟨wr.heap.size,3,none⟩=some (.int .i64 (z:Int)):=by simp
     have hs1:(wr.alloc (.cells #[.int .u8 (xk:Int),.string xt,.int .i64 xp,.int .i64 (z:Int)] 41)).heap.size=wr.heap.size+1:=by simp
     have hne0:∀ j,u0.ownBlock=some j→j≠wr.heap.size:=fun j hj=>by have:=(hlt2 j hj).2;omega
     have HNE0:=Lib.hid hne0
     have HLT0:=Lib.hid hlt2
     have HCALL:=Lib.hid (fun W (x0:Value) g1 g2 g3=>IH.out (z - 1) (by omega) (k+1) (k+z) M O1 x0 (by omega) (by omega) (by omega) hM (by rw[hT,List.length_append,hO1l];omega) W g1 g2 g3)
     have HTT:=Lib.hid hT
     have HO1L:=Lib.hid hO1l
     have HVB:=Lib.hid (HV.out.below HBX.out)
     have HLASTO:=Lib.hid hlastO
     clear hx h1 h2 h3 hO hr own hB hfar hR htx hnd hcell upr hev hA' hLB hin hpart hlast hlt2 hbx HLL HSZ hM hT hO1 hO1l hplv hlastO hne0 k6 HLAST
     go_upto_region 8 with fail
     generalize wr.alloc (.cells #[.int .u8 (xk:Int),.string xt,.int .i64 xp,.int .i64 (z:Int)] 41)=w1 at *
     have hw1b:base≤w1.heap.size:=by omega
     have hlb:wr.heap.size<w1.heap.size:=by omega
     have hww:w.heap.size≤w1.heap.size:=by omega
     clear hs1
     go_wp2_with (first
      |(at_builtin;refine wpList_append_lies _ rfl _ _ _ rfl base 39 i0 _ 3 24 Tryz.underlying25 hi0 hz0 hz1 hz2 rfl (by omega) u0 r _ rfl (own1.alloc _) ⟨w1.heap.size,0,none⟩ 1 1 [.int .i64 2,.int .u8 (xk:Int),.int .i64 xp] rfl rfl (World.news_of_block (cs:=#[.int .i64 2,.int .u8 (xk:Int),.int .i64 xp]) (t:=39) (fr:=(0,0)) (heap_alloc_new w1 _)) (by simp[Value.oneCell']) (by omega) (by unfold maxLen;omega) (by omega) (by simp;omega) (w1.heap.size+1) (by simp) ?_;intro gg cap w5 hown5 hgrow5 hat5 hlt5;have hf5:=nC.grown (n:=r+1) (cap:=cap) hgrow5 hat5;obtain⟨q1,q2⟩:=hf5 wr.heap.size hlb HNE0.out;have y05:=(q1 0).trans y0;have y35:=(q1 3).trans y3;have HQ2:=Lib.hid q2;have HF5:=Lib.hid (HFX.out.trans (by omega) hf5);have HB5:=Lib.hid ((HBX.out.alloc hw1b _).grown hgrow5 (by simp;omega) (fun j ej=>(HLT0.out j ej).1));rw[← HROW1.out]at hown5;have HW5:=Lib.hid hown5;have hs5:w1.heap.size≤w5.heap.size:=Nat.le_trans (by simp) hgrow5.size;clear hown5 hgrow5 hat5 hlt5 hf5 q1 q2)
      |(go_at_call 24;refine(HCALL.out _ _ (by omega) (by rw[HO1L.out];exact HW5.out) (HV.out.below HB5.out)).mono ?_;rw[HTT.out];rintro en w6 ⟨v6,rfl,own6,hb6,hf6⟩;rw[HO1L.out]at own6;have hs6:=hb6.size))
     obtain⟨r1,r2⟩:=hf6 wr.heap.size (by omega) HQ2.out
     have y06:=(r1 0).trans y05
     have y36:=(r1 3).trans y35
     obtain⟨m,hm⟩:∃ m,r+T.length=m:=⟨_,rfl⟩
     have hmm:r+1+T.length=m+1:=by omega
     have HEND2:=Lib.hid HEND.out
     rw[hmm]at own6 HEND2
     have hm9:m≤1000000:=by omega
     have hml:(O1++T).length=m+1:=by rw[List.length_append,HO1L.out];omega
     obtain⟨x,hx⟩:∃ x,(O1++T)[m]?=some x:=⟨_,List.getElem?_eq_getElem (by omega)⟩
     have hxp:x.place=pl:=by
      rw[← HLASTO.out]
      unfold dW
      rw[List.getLast?_eq_getElem?,hml,Nat.add_sub_cancel,hx]
     obtain⟨A6,c6,rfl,hc6,hmc6,hA6⟩:=Nu.aW own6
     obtain⟨g6,rfl,hg6,hg6b⟩:=hA6 (by omega)
     have y6:w6.cell? ⟨g6,m * 3+2,none⟩=some (.int .i64 pl):=by
      rw[own6.cellAt (m * 3+2) (by omega),Ba.cB cT wW _ m x hx 2 (by omega),← hxp];rfl
     have HW6:=Lib.hid own6
     have HR2:=Lib.hid r2
     have HB6:=Lib.hid (HB5.out.trans hb6)
     have HF6:=Lib.hid (HF5.out.trans (by omega) hf6)
     have hlt6:=Lib.hid own6.lt
     have hw6b:base≤w6.heap.size:=by omega
     have hww6:w.heap.size≤w6.heap.size:=by omega
     have hB6:wr.heap.size<w6.heap.size:=by omega
     have p0':(0:Int)≤(m:Int):=by omega
     have p1':(m:Int)<(m:Int)+1:=by omega
     have p4':IntKind.i64.wrap ((m:Int)+1 - 1)=(m:Int):=by rw[show (m:Int)+1 - 1=(m:Int) by omega];exact IntWalk.i64_in _ (by omega)
     have p5':IntKind.i64.wrap (m:Int)=(m:Int):=IntWalk.i64_in _ (by omega)
     clear r1 r2 y05 y35 hm hmm hml hx hxp hA6 own6 hb6 hf6 own1 y0 y2 y3 HEND
     go_upto_region 10 with fail
     go_region_law
      ((refine step_append_lies _ (by rfl) _ _ _ (by rfl) base 39 i0 _ 3 24 Tryz.underlying25 hi0 hz0 hz1 hz2 rfl (by omega) (.slice (some ⟨g6,0,none⟩) (m+1) c6) (m+1) _ (by rfl) ((HW6.out.alloc _).drew) ⟨w6.heap.size,0,none⟩ 1 1 [.int .i64 3,.int .u8 (xk:Int),.int .i64 pl] (by rfl) (by rfl) (World.news_of_block (cs:=#[.int .i64 3,.int .u8 (xk:Int),.int .i64 pl]) (t:=39) (fr:=(0,0)) (heap_alloc_new w6 _)) (by simp[Value.oneCell']) (by omega) (by unfold maxLen;omega) (by omega) (by simp;omega) (w6.heap.size+1) (by simp) ?_;intro gg7 cap7 w7 hown7 hgrow7 hat7 hlt7;have hg7:(w6.alloc (.cells #[.int .i64 3,.int .u8 (xk:Int),.int .i64 pl] 39)).grownBy w7 (Value.slice (some ⟨g6,0,none⟩) (m+1) c6).ownBlock:=⟨hgrow7.os,hgrow7.tape,hgrow7.output,hgrow7.size,hgrow7.block⟩;have hf7:=nC.grown (n:=m+1+1) (cap:=cap7) hg7 hat7;have y37:=((hf7 wr.heap.size hB6 HR2.out).1 3).trans y36;have HF:=Lib.hid (HEND2.out _ w7 hown7 ((HB6.out.alloc hw6b _).grown hg7 (by simp;omega) (fun j ej=>(hlt6.out j ej).1)) (HF6.out.trans hww6 hf7) (Nat.le_trans hww6 (Nat.le_trans (by simp) hg7.size)));clear hown7 hgrow7 hat7 hlt7 hg7 hf7))
     all_goals
      go_wp2
      go_roundw
      case rel=>exact HF.out
      case measure=>simp[intOf];omega
   ·obtain rfl:k=e:=by omega
    have hfin:L=LA:=by
     rw[dT t k k (Nat.le_refl _)]at h2
     have h2:([]:List Lx.Lx)=LB:=Option.some.inj h2
     rw[h3,← h2,List.append_nil]
    have HFIN:=Lib.hid (show aB9 base o (fU (FJ t a L)) u w (.returned u0) wr from ⟨u0,rfl,by rw[hfin,← List.length_append,← hO,hr];exact own,hB,hfar⟩)
    clear h1 h2 h3 hfin own hB hfar hO hr
    go_wp2
    go_ret
    exact HFIN.out
end Go.Proofs.YtgpihfacmpbpaaaGreatDoor.Fl
namespace Go.Proofs.YtgpihfacmpbpaaaGreatDoor.Fl
open Go.RowKit Tr Nu Nl Cn
theorem UL (w:World) (B:Nat):fE 0 w B (.slice none 0 0) []:=⟨none,0,rfl,fun h=>absurd h (Nat.lt_irrefl 0)⟩
theorem QQ (t:List Nd) (off:Nat) (v:Value) (ht:t.length≤700) (hf:Fit t) (hx:∀ x ∈ t,x.text.size≤700) (hc:aL t=0) (w:World) (hv:aS off w w.heap.size v t) :
  Calls Tryz.prog 24 #[.slice none 0 0,v,.int .i64 0,.int .i64 (t.length:Int)] w (aB9 w.heap.size [] (rN t) (.slice none 0 0) w):=by
 obtain⟨L,hW,hE⟩:=gT hc
 have hsz:=(vG hc hf).2
 have hsm:gA t≤700 * 700:=Nat.le_trans (FN hx) (Nat.mul_le_mul_right _ ht)
 have htk:rN t=fU (FJ t 0 L):=by unfold rN;rw[hE]
 rw[htk]at hsz ⊢
 exact UK t off v (by omega) hf (rH hc) w.heap.size t.length 0 t.length L [] (.slice none 0 0) (by omega) (Nat.zero_le _) (Nat.le_refl _) hE (by rw[List.nil_append];omega) w (Nat.le_refl _) (World.ownsRow_nil _ _ _ _) hv
set_option maxHeartbeats 2000000 in
theorem QR (v:Value) (t:List Nd) (off:Nat) (ht:t.length≤700) (hf:Fit t) (hx:∀ x ∈ t,x.text.size≤700) (hcap:∀ A n c,v=.slice A n c→c≤maxLen) (l:List Tk) (z:Int) (hl:LF t=l) (hz:((DM t:Nat):Int)=z) (w:World) (hv:aS off w w.heap.size v t) :
  Calls Tryz.prog 9 #[v] w (OM l z w):=by
 have HV:=Lib.hid hv
 by_cases hc:aL t=0
 ·have HCH:=Lib.hid (fun W hv'=>pI t off v ht hf hx W hv' 0 (by rw[hc];rfl))
  cases hb:zP t
  ·have HIS:=Lib.hid (fun W hv'=>z8 v t off ht hf hx hcap false hb W hv')
   have he:DM t=1:=by unfold DM;rw[if_neg (fun h=>h hc),if_pos hb]
   obtain rfl:[]=l:=by rw[← hl];unfold LF;rw[if_neg (by omega)]
   obtain rfl:1=z:=by omega
   clear hl hz he hb hc hf hx hcap hv ht
   go_enter Tryz.func9,Tryz.ntmps9
   go_wp2_with fail
   refine(HCH.out _ HV.out).mono ?_
   rintro e w1 ⟨rfl,hb1⟩
   have HB1:=Lib.hid hb1
   have HV1:=Lib.hid ((HV.out.below hb1).mono hb1.size)
   clear hb1
   go_wp2_with fail
   refine(HIS.out _ HV1.out).mono ?_
   rintro e w2 ⟨rfl,hb2⟩
   have HB2:=Lib.hid (Ba.chain HB1.out HB1.out.size hb2)
   clear hb2
   have HR:=Lib.hid (show OM [] 1 w (.returned (.tuple #[.slice none 0 0,.int .i64 1])) w2 from ⟨_,rfl,UL _ _,HB2.out⟩)
   go_wp2
   refine bodyPost_ret (v:=.tuple #[.slice none 0 0,.int .i64 1]) (by simp[results,Tryz.f9,go_sem]) rfl ?_
   exact HR.out
  ·have HIS:=Lib.hid (fun W hv'=>z8 v t off ht hf hx hcap true hb W hv')
   have he:DM t=0:=FK hb
   obtain rfl:rN t=l:=by rw[← hl];unfold LF;rw[if_pos he]
   obtain rfl:0=z:=by omega
   have HTK:=Lib.hid (fun W hv'=>QQ t off v ht hf hx hc W hv')
   obtain⟨A,c,rfl,-⟩:=hv
   obtain⟨l,hl2⟩:∃ l,rN t=l:=⟨_,rfl⟩
   rw[hl2]at HTK ⊢
   clear hl hz he hb hc hf hx hcap ht hl2
   go_enter Tryz.func9,Tryz.ntmps9
   go_wp2_with fail
   refine(HCH.out _ HV.out).mono ?_
   rintro e w1 ⟨rfl,hb1⟩
   have HB1:=Lib.hid hb1
   have HV1:=Lib.hid ((HV.out.below hb1).mono hb1.size)
   clear hb1
   go_wp2_with fail
   refine(HIS.out _ HV1.out).mono ?_
   rintro e w2 ⟨rfl,hb2⟩
   have HB2:=Lib.hid (Ba.chain HB1.out HB1.out.size hb2)
   have HV2:=Lib.hid ((HV1.out.below hb2).mono hb2.size)
   clear hb2
   go_wp2_with fail
   refine(HTK.out _ HV2.out).mono ?_
   rintro e w3 ⟨v3,rfl,hown,hb3,-⟩
   have HR:=Lib.hid (show OM l 0 w (.returned (.tuple #[v3,.int .i64 0])) w3 from ⟨_,rfl,Ba.Reads.kC wW (by simp) hown,Ba.chain HB2.out HB2.out.size hb3⟩)
   clear hown hb3
   go_wp2
   refine bodyPost_ret (v:=.tuple #[v3,.int .i64 0]) (by simp[results,Tryz.f9,go_sem]) rfl ?_
   exact HR.out
 ·have he:DM t=aL t:=by unfold DM;rw[if_pos hc]
  obtain rfl:[]=l:=by rw[← hl];unfold LF;rw[if_neg (by omega)]
  have h0:z≠0:=by omega
  have t1:(z != 0)=true:=by rw[bne,beq_eq_false_iff_ne.2 h0];rfl
  have HCH:=Lib.hid (fun W hv'=>pI t off v ht hf hx W hv' z (by omega))
  clear hl hz he hc hf hx hcap hv ht h0
  go_enter Tryz.func9,Tryz.ntmps9
  go_wp2_with (go_at_call 22;refine(HCH.out _ HV.out).mono ?_;rintro e w1 ⟨rfl,hb1⟩;have HB1:=Lib.hid hb1;clear hb1)
  have HR:=Lib.hid (show OM [] z w (.returned (.tuple #[.slice none 0 0,.int .i64 z])) w1 from ⟨_,rfl,UL _ _,HB1.out⟩)
  refine bodyPost_ret (v:=.tuple #[.slice none 0 0,.int .i64 z]) (by simp[results,Tryz.f9,go_sem]) rfl ?_
  exact HR.out
end Go.Proofs.YtgpihfacmpbpaaaGreatDoor.Fl
namespace Go.Proofs.YtgpihfacmpbpaaaGreatDoor.Fl
open Go.RowKit Tr Nu Nl Cn
set_option maxHeartbeats 8000000 in
theorem QS (Ld:lJ) (Fd:mJ) (t:List Nd) (A:Option Addr) (off c:Nat) (w:World) (hL:Ka.Laid w) (hcl:t.length≤c) (hcm:c≤maxLen) (ft:Fit t) (hu:aS off w w.heap.size (.slice A t.length c) t) :
  Calls Tryz.prog 3 #[.slice A t.length c] w fun e w'=>e=.returned (.bool true)∧Below w.heap.size w w':=by
 have HU:=Lib.hid hu
 have HL:=Lib.hid hL
 have hLN:=hL.1
 have htm:t.length≤maxLen:=Nat.le_trans hcl hcm
 clear hu hL
 go_enter Tryz.func3,Tryz.ntmps3
 by_cases z1:rP t=true
 ·have Z1:=Lib.hid z1
  clear z1
  go_wp2_with fail
  refine(IQ _ off t htm _ _ HU.out true Z1.out).mono ?_
  rintro e w' ⟨rfl,rfl⟩
  go_wp2_with fail
  refine(UJ Ld Fd _ HL.out).mono ?_
  rintro e w' ⟨rfl,hb⟩
  go_wp2
  go_ret
  exact⟨rfl,hb⟩
 ·have z1:rP t=false:=by simpa using z1
  have Z1:=Lib.hid z1
  obtain⟨t1,t2⟩:=UM z1
  clear z1
  have HT9:=Lib.hid (show ∀ x ∈ t,x.text.size≤9000 from fun x hx=>by have:=t2 x hx;omega)
  have HT7:=Lib.hid (show ∀ x ∈ t,x.text.size≤700 from fun x hx=>by have:=t2 x hx;omega)
  have hsum:gA t≤150 * 100:=Nat.le_trans (FN t2) (Nat.mul_le_mul_right _ t1)
  have HTS:=Lib.hid (show gA t≤100000 by omega)
  have HF:=Lib.hid ft
  obtain⟨z,hz⟩:∃ z:Int,((DM t:Nat):Int)=z:=⟨_,rfl⟩
  have HZ:=Lib.hid hz
  obtain⟨l,hl⟩:∃ l,LF t=l:=⟨_,rfl⟩
  have HLT:=Lib.hid hl
  have hll:l.length≤1000000:=by
   rw[← hl]
   unfold LF
   split
   ·rename_i h0
    have:=(vG (rI (aB8 h0)) ft).2
    omega
   ·exact Nat.zero_le _
  have HLL:=Lib.hid hll
  obtain⟨nt,hnt⟩:∃ nt,t.length=nt:=⟨_,rfl⟩
  have HNT:=Lib.hid hnt
  have HCAP:=Lib.hid (show ∀ A' n c',Value.slice A nt c=.slice A' n c'→c'≤maxLen from fun A' n c' e=>by injection e with _ _ e;omega)
  rw[hnt]at t1 htm HU ⊢
  clear hnt hz hl hll hsum t2 ft hcl
  go_wp2_with fail
  refine(IQ _ off t (by rw[HNT.out];omega) _ _ HU.out false Z1.out).mono ?_
  rintro e w' ⟨rfl,rfl⟩
  go_wp2_with (at_builtin;refine uC _ rfl _ _ rfl (.slice (some ⟨w.heap.size,0,none⟩) 0 0) rfl w.heap.size (World.ownsRow_lit w #[] 0 (Nat.le_refl _) (by decide) rfl) (by simp) A nt c off w.heap.size t rfl HNT.out (by omega) (HU.out.below ((Below.refl _ w).alloc (Nat.le_refl _) _)) ?_;intro v4 w4 hown4 hgrow4;have hB4:Below w.heap.size w w4:=((Below.refl _ w).alloc (Nat.le_refl _) _).grown hgrow4 (by simp) (fun j ej=>by have ej:w.heap.size=j:=(by injection ej);omega);have HO4:=Lib.hid (Ba.Reads.kC dX HNT.out hown4);have HC4:=Lib.hid (rJ hown4);have HB4:=Lib.hid hB4;have HU4:=Lib.hid ((HU.out.below hB4).mono hB4.size);have HL4:=Lib.hid (HL.out.below hB4 hLN);clear hown4 hgrow4 hB4)
  obtain z2:(z==z)=true:=by simp
  go_wp2_with fail
  refine(Fd.aBX v4 t 0 (by rw[HNT.out];omega) HF.out HT9.out HTS.out HC4.out l z HLT.out HZ.out _ HL4.out HO4.out).mono ?_
  rintro e w5 ⟨v5,rfl,hr5,hb5,-⟩
  have HR5:=Lib.hid hr5
  have HB5:=Lib.hid (Ba.chain HB4.out HB4.out.size hb5)
  have HU5:=Lib.hid ((HU4.out.below hb5).mono hb5.size)
  have HO5:=Lib.hid ((HO4.out.below hb5).mono hb5.size)
  clear hb5 hr5
  go_wp2_with fail
  refine(QR _ t off (by rw[HNT.out];omega) HF.out HT7.out HCAP.out l z HLT.out HZ.out _ HU5.out).mono ?_
  rintro e w6 ⟨v6,rfl,hr6,hb6⟩
  have HR6:=Lib.hid hr6
  have HR5':=Lib.hid ((HR5.out.below hb6).mono hb6.size)
  have HB6:=Lib.hid (Ba.chain HB5.out HB5.out.size hb6)
  have HU6:=Lib.hid ((HU5.out.below hb6).mono hb6.size)
  have HO6:=Lib.hid ((HO5.out.below hb6).mono hb6.size)
  clear hb6 hr6
  go_wp2_with fail
  refine(QP _ _ l HLL.out _ _ _ HR5'.out HR6.out).mono ?_
  rintro e wa ⟨rfl,ka,hwa⟩
  have hba:Below w6.heap.size w6 wa:=by rw[hwa];exact Lx.below_drewN (Below.refl w6.heap.size w6) ka
  clear hwa
  have HBA:=Lib.hid (Ba.chain HB6.out HB6.out.size hba)
  have HUA:=Lib.hid ((HU6.out.below hba).mono hba.size)
  have HOA:=Lib.hid ((HO6.out.below hba).mono hba.size)
  clear hba
  go_wp2_with fail
  refine(UN 0 off _ _ t (by rw[HNT.out];omega) _ _ _ HOA.out HUA.out).mono ?_
  rintro e wb ⟨rfl,kb,rfl⟩
  have HBB:=Lib.hid (Lx.below_drewN HBA.out kb)
  have HLB:=Lib.hid (HL.out.below HBB.out hLN)
  go_wp2_with fail
  refine(UJ Ld Fd _ HLB.out).mono ?_
  rintro e w' ⟨rfl,hb⟩
  have HBE:=Lib.hid (Ba.chain HBB.out HBB.out.size hb)
  clear hb
  go_wp2
  go_ret
  exact⟨rfl,HBE.out⟩
end Go.Proofs.YtgpihfacmpbpaaaGreatDoor.Fl
