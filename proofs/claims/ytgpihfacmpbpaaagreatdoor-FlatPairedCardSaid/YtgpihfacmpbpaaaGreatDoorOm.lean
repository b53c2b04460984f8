/-
  Put together: FmI, FmA, FmB, FmC.
-/
import Derived.Test.YtgpihfacmpbpaaaGreatDoorOf
import Derived.Test.YtgpihfacmpbpaaaGreatDoorTsV
import Derived.Test.YtgpihfacmpbpaaaGreatDoorOe
import Derived.Test.YtgpihfacmpbpaaaGreatDoorLaE
import Derived.Test.YtgpihfacmpbpaaaGreatDoorNh
import Derived.Test.YtgpihfacmpbpaaaGreatDoorVg
import Derived.IntWalk
import Derived.Test.YtgpihfacmpbpaaaGreatDoorLaF
import Derived.Laws.EntriesVeiled
namespace Go.Proofs.YtgpihfacmpbpaaaGreatDoor.Fl
open Go.RowKit Tr Nu Nl Cn
theorem mM {g off:Nat} {w:World} {l:List Tk} (h:∀ k x,l[k]?=some x→∀ j u,(cT x)[j]?=some u→w.cell? ⟨g,off+(k * 3+j),none⟩=some u) (k:Nat) (x:Tk) (hx:l[k]?=some x) :
  w.cell? ⟨g,off+k * 3,none⟩=some (.int .i64 x.kind)∧w.cell? ⟨g,off+k * 3+1,none⟩=some (.int .u8 (x.ch:Int))∧w.cell? ⟨g,off+k * 3+2,none⟩=some (.int .i64 x.place):=by
 have e:=h k x hx
 simp only[← Nat.add_assoc]at e
 exact⟨e 0 _ rfl,e 1 _ rfl,e 2 _ rfl⟩
theorem DT:∀ {a b:List Tk},lX a b=true→a.map sS=b.map sS
 | [],[],_=>rfl
 | [],y::b,h=>by cases h
 | x::a,[],h=>by cases h
 | x::a,y::b,h=>by
  unfold lX at h
  rw[Bool.and_eq_true,decide_eq_true_eq,List.zip_cons_cons,List.all_cons,Bool.and_eq_true,decide_eq_true_eq]at h
  have ih:=DT (a:=a) (b:=b) (by
   unfold lX
   rw[Bool.and_eq_true,decide_eq_true_eq]
   exact⟨by have:=h.1;simp at this;exact this,h.2.2⟩)
  rw[List.map_cons,List.map_cons,ih]
  congr 1
  unfold sS
  rw[h.2.1.1,h.2.1.2]
theorem U6 {a b:List Tk} {k:Nat} {x y:Tk} (hx:a[k]?=some x) (hy:b[k]?=some y) (h:¬ (x.kind=y.kind∧x.ch=y.ch)):lX a b=false:=by
 cases hs:lX a b
 ·rfl
 ·have:=congrArg (fun l=>l[k]?) (DT hs)
  simp only[List.getElem?_map,hx,hy]at this
  have e:sS x=sS y:=Option.some.inj this
  exact absurd ⟨congrArg Prod.fst e,congrArg Prod.snd e⟩ h
theorem Q8 {a b:List Tk} (hl:a.length=b.length) (h:∀ (j:Nat) (x y:Tk),a[j]?=some x→b[j]?=some y→x.kind=y.kind∧x.ch=y.ch):lX a b=true:=by
 refine IM (List.ext_getElem? fun j=>?_)
 rw[List.getElem?_map,List.getElem?_map]
 rcases Nat.lt_or_ge j a.length with hj | hj
 ·have h1:=List.getElem?_eq_getElem hj
  have h2:=List.getElem?_eq_getElem (l:=b) (i:=j) (by omega)
  rw[h1,h2]
  obtain⟨e1,e2⟩:=h j _ _ h1 h2
  show some (sS a[j])=some (sS b[j])
  unfold sS
  rw[e1,e2]
 ·rw[List.getElem?_eq_none hj,List.getElem?_eq_none (by omega)]
theorem Q9 {a b:List Tk} (h:a.length≠b.length):lX a b=false:=by unfold lX;rw[decide_eq_false h];rfl
set_option maxHeartbeats 2000000 in
theorem JE (xk yk:Int) (xc yc:Nat) (xp yp:Int) (z:Bool) (hz:decide (xk=yk∧xc=yc)=z) (w:World) :
  Calls Tryz.prog 33 #[.agg #[.int .i64 xk,.int .u8 (xc:Int),.int .i64 xp],.agg #[.int .i64 yk,.int .u8 (yc:Int),.int .i64 yp]] w fun e w'=>e=.returned (.bool z)∧Below w.heap.size w w':=by
 have hb:=Lib.hid (((Below.refl w.heap.size w).alloc (Nat.le_refl _) (.cells #[.int .i64 xk,.int .u8 (xc:Int),.int .i64 xp] 39)).alloc (by simp) (.cells #[.int .i64 yk,.int .u8 (yc:Int),.int .i64 yp] 39))
 by_cases e1:xk=yk
 ·subst e1
  by_cases e2:xc=yc
  ·subst e2
   have HZ:=Lib.hid (show true=z by rw[← hz];exact(decide_eq_true ⟨rfl,rfl⟩).symm)
   clear hz
   go_enter Tryz.func33,Tryz.ntmps33
   go_wp2
   go_ret
   exact⟨Ba.aC HZ.out,hb.out⟩
  ·have t2:((xc:Int)==(yc:Int))=false:=beq_eq_false_iff_ne.2 (by omega)
   have HZ:=Lib.hid (show false=z by rw[← hz];exact(decide_eq_false fun h=>e2 h.2).symm)
   clear hz e2
   go_enter Tryz.func33,Tryz.ntmps33
   go_wp2
   go_ret
   exact⟨Ba.aC HZ.out,hb.out⟩
 ·have t1:(xk==yk)=false:=beq_eq_false_iff_ne.2 e1
  have HZ:=Lib.hid (show false=z by rw[← hz];exact(decide_eq_false fun h=>e1 h.1).symm)
  clear hz e1
  go_enter Tryz.func33,Tryz.ntmps33
  go_wp2
  go_ret
  exact⟨Ba.aC HZ.out,hb.out⟩
set_option maxHeartbeats 4000000 in
theorem RA (a b:Nat) (u v:Value) (t s:List Tk) (ht:t.length≤200000) (_hs:s.length≤200000) (w:World) (hu:fE a w w.heap.size u t) (hv:fE b w w.heap.size v s) (z:Bool) (hz:lX t s=z) :
  Calls Tryz.prog 32 #[u,v,.func (.func 33) #[] #[]] w fun e w'=>e=.returned (.bool z)∧Below w.heap.size w w':=by
 obtain⟨A,c,rfl,hA⟩:=hu
 obtain⟨B,d,rfl,hB⟩:=hv
 have HZ:=Lib.hid hz
 have HA:=Lib.hid hA
 have HB:=Lib.hid hB
 clear hz hA hB
 by_cases hL:t.length=s.length
 ·have HL:=Lib.hid hL
  rw[← hL]
  clear hL
  go_enter Tryz.func32,Tryz.ntmps32
  go_wp2
  go_loopw [17] (fun i wr=>∃ k:Nat,k≤t.length∧i=.int .i64 k∧Below w.heap.size w wr∧∀ (j:Nat) (x y:Tk),j<k→t[j]?=some x→s[j]?=some y→x.kind=y.kind∧x.ch=y.ch) (fun i _=>t.length - (intOf i).toNat)
  case atStart=>exact⟨0,by omega,rfl,Below.refl _ _,fun j x y h=>by omega⟩
  case round =>
   obtain⟨k,hk,rfl,hbw,hj⟩:=hrel
   have HJ:=Lib.hid hj
   clear hj
   by_cases hlt:k<t.length
   ·obtain⟨g,rfl,gl,hg⟩:=HA.out (by omega)
    obtain⟨h,rfl,hl,hh⟩:=HB.out (by have:=HL.out;omega)
    obtain⟨⟨xk,xc,xp⟩,hx⟩:=dM hlt
    obtain⟨⟨yk,yc,yp⟩,hy⟩:=dM (l:=s) (i:=k) (by have:=HL.out;omega)
    have HX:=Lib.hid hx
    have HY:=Lib.hid hy
    obtain⟨g1,g2,g3⟩:=mM hg k _ hx
    obtain⟨h1,h2,h3⟩:=mM hh k _ hy
    simp only[]at g1 g2 g3 h1 h2 h3
    rw[← hbw.cell (p:=⟨g,_,none⟩) gl]at g1 g2 g3
    rw[← hbw.cell (p:=⟨h,_,none⟩) hl]at h1 h2 h3
    have hsz:=hbw.size
    have gl':g<wr.heap.size:=by omega
    have hl':h<wr.heap.size:=by omega
    have HBW:=Lib.hid hbw
    obtain⟨r,hr⟩:∃ r,decide (xk=yk∧xc=yc)=r:=⟨_,rfl⟩
    have HR:=Lib.hid hr
    have j0:(0:Int)≤(k:Int):=by omega
    have j1:(k:Int)<(t.length:Int):=by omega
    clear hg hh hx hy HA HB hbw hr
    cases r
    ·go_wp2_with (first
      |(go_at_call 33;refine(JE xk yk xc yc xp yp false HR.out _).mono ?_;rintro e w5 ⟨rfl,hb5⟩;replace hb5:=Lib.hid hb5))
     go_ret
     refine⟨Ba.aC ((U6 HX.out HY.out (of_decide_eq_false HR.out)).symm.trans HZ.out),?_⟩
     exact(HBW.out.trans ((((Below.refl w.heap.size wr).alloc hsz _).alloc (by simp;omega) _))).trans (hb5.out.mono (by simp;omega))
    ·go_wp2_with (first
      |(go_at_call 33;refine(JE xk yk xc yc xp yp true HR.out _).mono ?_;rintro e w5 ⟨rfl,hb5⟩;replace hb5:=Lib.hid hb5))
     go_roundw
     case rel =>
      refine⟨k+1,by omega,by go_num,(HBW.out.trans ((((Below.refl w.heap.size wr).alloc hsz _).alloc (by simp;omega) _))).trans (hb5.out.mono (by simp;omega)),fun j x y h3 h5 h6=>?_⟩
      rcases Nat.lt_or_ge j k with h7 | h7
      ·exact HJ.out j x y h7 h5 h6
      ·obtain rfl:j=k:=by omega
       obtain rfl:=Option.some.inj (HX.out.symm.trans h5)
       obtain rfl:=Option.some.inj (HY.out.symm.trans h6)
       exact of_decide_eq_true HR.out
     case measure=>simp[intOf];omega
   ·obtain rfl:k=t.length:=by omega
    have HR:=Lib.hid (Q8 HL.out (fun j x y h1 h2=>HJ.out j x y (List.getElem?_eq_some_iff.1 h1).1 h1 h2))
    have HBW:=Lib.hid hbw
    clear hbw
    go_wp2
    go_ret
    exact⟨Ba.aC (HR.out.symm.trans HZ.out),HBW.out⟩
 ·have t1:((t.length:Int)==(s.length:Int))=false:=beq_eq_false_iff_ne.2 (by omega)
  have t2:((t.length:Int) != (s.length:Int))=true:=bne_iff_ne.2 (by omega)
  have HR:=Lib.hid (Q9 hL)
  clear hL
  go_enter Tryz.func32,Tryz.ntmps32
  go_wp2
  go_ret
  exact⟨Ba.aC (HR.out.symm.trans HZ.out),Below.refl _ _⟩
set_option maxHeartbeats 2000000 in
theorem RB (a b:Nat) (u v:Value) (t s:List Tk) (ht:t.length≤200000) (hs:s.length≤200000) (w:World) (hu:fE a w w.heap.size u t) (hv:fE b w w.heap.size v s) :
  Calls Tryz.prog 15 #[u,v] w fun e w'=>e=.returned (.bool (lX t s))∧Below w.heap.size w w':=by
 obtain⟨z,hz⟩:∃ z,lX t s=z:=⟨_,rfl⟩
 have HC:=Lib.hid (RA a b u v t s ht hs w hu hv z hz)
 rw[hz]
 clear hu hv hz
 go_enter Tryz.func15,Tryz.ntmps15
 go_wp2_with (first
  |(go_at_call 32;refine HC.out.mono ?_;rintro e w5 ⟨rfl,hb5⟩;replace hb5:=Lib.hid hb5))
 go_ret
 exact⟨rfl,hb5.out⟩
end Go.Proofs.YtgpihfacmpbpaaaGreatDoor.Fl
namespace Go.Proofs.YtgpihfacmpbpaaaGreatDoor.Fl
open Go.RowKit Go.Shelf Tr Nu Nl Cn
attribute [local go_sem] Oper.semAt_some
def aCJ (x:Tk):Array Value:=#[.agg #[.int .i64 x.kind,.int .u8 (x.ch:Int),.int .i64 x.place]]
def yR (n0:Nat) (V V':World):Prop:=Below n0 V V'∧∀ (b:Nat) (cs:Array Value) (fr:Nat × Nat),V.heap[b]?=some (.cells cs 41 fr)→V'.heap[b]?=some (.cells cs 41 fr)
theorem yR.trans {n0:Nat} {A B C:World} (h:yR n0 A B) (k:yR n0 B C):yR n0 A C:=⟨h.1.trans k.1,fun b cs fr e=>k.2 b cs fr (h.2 b cs fr e)⟩
theorem yR.of {n0:Nat} {V V':World} (hn:n0≤V.heap.size) (h:Below V.heap.size V V'):yR n0 V V':=⟨h.mono hn,fun b _ _ e=>(h.block b (Array.getElem?_eq_some_iff.1 e).1).trans e⟩
theorem yR.refl (n0:Nat) (V:World):yR n0 V V:=⟨Below.refl _ _,fun _ _ _ e=>e⟩
def QY (n0:Nat) (v:Value) (t:List Nd) (W:World):Prop :=
 ∃ A c off,v=.slice A t.length c∧t.length≤c∧c≤maxLen∧(0<t.length→∃ g,A=some ⟨g,off,none⟩∧g<n0∧∀ k x,t[k]?=some x→∀ j u,(cN x)[j]?=some u→W.cell? ⟨g,off+(k * 4+j),none⟩=some u)
theorem QY.below {n0:Nat} {v:Value} {t:List Nd} {W W':World} (h:QY n0 v t W) (hb:Below n0 W W'):QY n0 v t W':=by
 obtain⟨A,c,off,rfl,h1,h2,h3⟩:=h
 refine⟨A,c,off,rfl,h1,h2,fun h0=>?_⟩
 obtain⟨g,rfl,hg,hk⟩:=h3 h0
 exact⟨g,rfl,hg,fun k x hx j u hu=>(hb.cell (p:=⟨g,off+(k * 4+j),none⟩) hg).trans (hk k x hx j u hu)⟩
theorem I6 {n0 g off n c k:Nat} {W:World} {t a b:List Nd} (hcell:∀ k x,t[k]?=some x→∀ j u,(cN x)[j]?=some u→W.cell? ⟨g,off+(k * 4+j),none⟩=some u) (hg:g<n0) (hn:t.length=n) (hc:n≤c) (hm:c≤maxLen) (ht:t=a++b) (hk:a.length=k) :
  QY n0 (.slice (some ⟨g,off,none⟩) k c) a W∧QY n0 (.slice (some ⟨g,off+k * 4,none⟩) (n - k) (c - k)) b W:=by
 subst ht hk
 rw[List.length_append]at hn
 refine⟨⟨_,c,off,rfl,by omega,hm,fun _=>⟨g,rfl,hg,fun i x hx j u hu=>hcell i x ?_ j u hu⟩⟩,⟨_,c - a.length,off+a.length * 4,by rw[show n - a.length=b.length by omega],by omega,by omega,fun _=>⟨g,rfl,hg,fun i x hx j u hu=>?_⟩⟩⟩
 ·rw[List.getElem?_append_left (List.getElem?_eq_some_iff.1 hx).1];exact hx
 ·have:=hcell (a.length+i) x (by rw[List.getElem?_append_right (by omega),show a.length+i - a.length=i by omega];exact hx) j u hu
  rw[show off+a.length * 4+(i * 4+j)=off+((a.length+i) * 4+j) by rw[Nat.add_mul];omega]
  exact this
theorem OW (n0:Nat) (A:Option Addr) (c:Nat) (hm:c≤maxLen) (W:World):QY n0 (.slice A 0 c) [] W:=⟨A,c,0,rfl,Nat.zero_le _,hm,fun h=>absurd h (by simp)⟩
theorem I7 {m m' l:Nat} {args:Array Value} {W:World} {R:Ending→World→Prop} (h:YieldAt Fence.wide m Tryz.prog l args W R):YieldAt Fence.wide m' Tryz.prog l args W R:=by
 obtain⟨fn,tmps,assign,body,hy,h1,h2⟩:=h
 exact⟨fn,tmps,assign,body,hy,h1,fun c cs _=>h2 c cs (fun _ h=>by simp[Fence.wide]at h)⟩
structure YlT (l n0:Nat) (ws:List Tk) (J Jx:List Tk→World→Prop):Prop where
 jb:∀ pre V V',Below V.heap.size V V'→J pre V→J pre V'
 y:∀ m pre x W,J pre W→pre++[x] <+: ws→YieldAt Fence.wide m Tryz.prog l (aCJ x) W fun e W' =>
  (e=.returned (.bool true)∧J (pre++[x]) W'∧yR n0 W W')∨(e=.returned (.bool false)∧Jx (pre++[x]) W')
def I8 (n0:Nat) (ws:List Tk) (J Jx:List Tk→World→Prop) (q0:List Tk) (W:World) (e:Ending) (W':World):Prop :=
 (e=.returned (.bool true)∧J q0 W'∧yR n0 W W')∨(e=.returned (.bool false)∧∃ q,q <+: ws∧Jx q W')
theorem aCL {n0:Nat} {J Jx:List Tk→World→Prop} {pre:List Tk} {W:World} {e:Ending} {W':World} (h:(e=.returned (.bool true)∧J pre W'∧yR n0 W W')∨(e=.returned (.bool false)∧Jx pre W')) :
  ∃ y:Bool,e=.returned (.bool y)∧(y=true→J pre W'∧yR n0 W W')∧(y=false→Jx pre W'):=by
 rcases h with⟨rfl,h1,h2⟩ | ⟨rfl,h1⟩
 ·exact⟨true,rfl,fun _=>⟨h1,h2⟩,fun e=>Bool.noConfusion e⟩
 ·exact⟨false,rfl,fun e=>Bool.noConfusion e,fun _=>h1⟩
def POT (l n0:Nat) (ws:List Tk) (J Jx:List Tk→World→Prop) (t:List Nd) (L:List Tk):Prop :=
 ∀ (n:Nat) (pre q0:List Tk) (v:Value) (W:World),q0=pre++L→q0 <+: ws→J pre W→n0≤W.heap.size→QY n0 v t W →
  CallsIn Fence.wide n Tryz.prog 47 #[v,.func (.yield l) #[] #[]] W (I8 n0 ws J Jx q0 W)
theorem FU {a b c:List Tk} (h:a++b <+: c):a <+: c:=(List.prefix_append a b).trans h
theorem ZL (pl:Int) (s:ByteArray) {k:Nat} (hk:k<s.size):nZ pl s k++[⟨1,Lx.bT s k,wrap64 (pl+(k:Int))⟩] <+: nZ pl s s.size:=by
 rw[← oL]
 obtain⟨m,hm⟩:∃ m,s.size=k+1+m:=⟨s.size - (k+1),by omega⟩
 have h:∀ m,nZ pl s (k+1) <+: nZ pl s (k+1+m):=by
  intro m
  induction m with
  | zero=>exact List.prefix_refl _
  | succ m ih =>
   rw[← Nat.add_assoc,oL pl s (k+1+m)]
   exact ih.trans (List.prefix_append _ _)
 rw[hm]
 exact h m
section
variable {l n0:Nat} {ws:List Tk} {J Jx:List Tk→World→Prop}
set_option maxRecDepth 100000 in
set_option maxHeartbeats 8000000 in
theorem QZ (Y:YlT l n0 ws J Jx) (n:Nat) (pre q0:List Tk) (s:ByteArray) (hs:s.size≤maxLen) (pl:Int) (hq0:q0=pre++nZ pl s s.size) (hw:q0 <+: ws) (W:World) (hJ:J pre W) (hn0:n0≤W.heap.size) :
  CallsIn Fence.wide n Tryz.prog 108 #[.agg #[.int .u8 46,.string s,.int .i64 pl,.int .i64 1],.func (.yield l) #[] #[]] W (I8 n0 ws J Jx q0 W):=by
 have hb0:Below W.heap.size W (W.alloc (.cells #[.int .u8 46,.string s,.int .i64 pl,.int .i64 1] 41)):=(Below.refl _ W).alloc (Nat.le_refl _) _
 have HJ0:=Lib.hid (Y.jb _ _ _ hb0 hJ)
 have HB0:=Lib.hid (yR.of hn0 hb0)
 have HBX:=Lib.hid (World.alloc_heap_new W (.cells #[.int .u8 46,.string s,.int .i64 pl,.int .i64 1] 41))
 have HY:=Lib.hid Y
 have HW:=Lib.hid hw
 have HQ:=Lib.hid hq0
 have HN:=Lib.hid hn0
 have HC:=Lib.hid (fun k (hk:k<s.size)=>(show (pre++nZ pl s k)++[⟨1,Lx.bT s k,wrap64 (pl+(k:Int))⟩] <+: ws from by
  rw[List.append_assoc]
  exact((List.prefix_append_right_inj pre).2 (ZL pl s hk)).trans (hq0▸hw)))
 unfold maxLen at hs
 clear Y hw hq0 hJ hn0 hb0
 have hfn:∀ f,Fence.wide.fn f:=fun _=>trivial
 refine callsIn_of_wp Tryz.func108 rfl trivial ?_ rfl
 simp only[Tryz.ntmps108,List.size_toArray,List.length_cons,List.length_nil,Nat.reduceAdd,Nat.reduceSub,Array.replicate_succ,Array.replicate_zero,List.push_toArray,List.append_toArray,List.nil_append,List.cons_append]
 gi_wp2
 generalize W.alloc (.cells #[.int .u8 46,.string s,.int .i64 pl,.int .i64 1] 41)=W1 at *
 gi_loopw [9] (fun u9 wr=>∃ k:Nat,u9=.int .i64 (k:Int)∧k≤s.size∧J (pre++nZ pl s k) wr∧yR n0 W1 wr) (fun u9 _=>s.size - (intOf u9).toNat)
 case atStart=>exact⟨0,rfl,Nat.zero_le _,by rw[show nZ pl s 0=[] from rfl,List.append_nil];exact HJ0.out,yR.refl _ _⟩
 case round =>
  obtain⟨k,rfl,hk,hJ,hB⟩:=hrel
  have hbx:=hB.2 _ _ _ HBX.out
  have k0:(0:Int)≤(k:Int):=by omega
  by_cases hlt:k<s.size
  ·have c1:wr.cell? ⟨W.heap.size,1,none⟩=some (.string s):=by rw[Lib.cell_of_heap hbx];rfl
   have c2:wr.cell? ⟨W.heap.size,2,none⟩=some (.int .i64 pl):=by rw[Lib.cell_of_heap hbx];rfl
   have E1:=Lx.cJ s k hlt
   obtain⟨b,hb⟩:∃ b,Lx.bT s k=b:=⟨_,rfl⟩
   rw[hb]at E1
   obtain⟨zz,hzz⟩:∃ zz,IntKind.i64.wrap (pl+(k:Int))=zz:=⟨_,rfl⟩
   have hzw:wrap64 (pl+(k:Int))=zz:=(IntWalk.i64_left _).symm.trans hzz
   have hpr:=HC.out k hlt
   rw[hb,hzw]at hpr
   have hsucc:pre++nZ pl s (k+1)=(pre++nZ pl s k)++[⟨1,b,zz⟩]:=by rw[oL,List.append_assoc,hb,hzw]
   have HS:=Lib.hid hsucc
   have hdr:Below wr.heap.size wr wr.drew:=Below.drew (Below.refl _ _)
   have hn1:n0≤wr.heap.size:=by have:=HN.out;have:=hB.1.size;have h9:=(Array.getElem?_eq_some_iff.1 hbx).1;omega
   obtain⟨fn,tmps,assign,body,hy,hRd⟩:=HY.out.y (n - 1) (pre++nZ pl s k) ⟨1,b,zz⟩ wr.drew (HY.out.jb _ _ _ hdr hJ) hpr
   have hy:(Instr.yield l #[.agg #[.int .i64 1,.int .u8 (b:Int),.int .i64 zz]]).run Tryz.prog wr.drew=_:=hy
   have HRd:=Lib.hid hRd
   have HKD:=Lib.hid (hB.trans (yR.of hn1 hdr))
   have HPR:=Lib.hid hpr
   have i1:(k:Int)<(s.size:Int):=by omega
   clear hRd hJ hB hbx hb hzw hpr hsucc hdr hn1
   gi_wp2
   gi_region_with ((refine⟨fun h=>Bool.noConfusion h,HRd.out.mono (fun e W6 hE=>?_)⟩);obtain⟨y,rfl,hT,hF⟩:=aCL hE;clear hE;have HT:=Lib.hid hT;have HF:=Lib.hid hF;clear hT hF)
   all_goals
    cases y
    ·have HX:=Lib.hid (HF.out rfl)
     gi_wp2
     go_ret
     exact .inr ⟨rfl,_,HPR.out,HX.out⟩
    ·obtain⟨hJ6,hk6⟩:=HT.out rfl
     have HJ6:=Lib.hid hJ6
     have HK6:=Lib.hid (HKD.out.trans hk6)
     clear hJ6 hk6
     gi_wp2
     go_roundw
     case rel=>exact⟨k+1,by go_num,by omega,by rw[HS.out];exact HJ6.out,HK6.out⟩
     case measure=>simp[intOf];omega
  ·obtain rfl:k=s.size:=by omega
   have HJ:=Lib.hid hJ
   have HB:=Lib.hid (HB0.out.trans hB)
   clear hJ hB hbx
   gi_wp2
   go_ret
   exact .inl ⟨rfl,by rw[HQ.out];exact HJ.out,HB.out⟩
end
end Go.Proofs.YtgpihfacmpbpaaaGreatDoor.Fl
namespace Go.Proofs.YtgpihfacmpbpaaaGreatDoor.Fl
open Go.RowKit Go.Shelf Tr Nu Nl Cn
attribute [local go_sem] Oper.semAt_some
section
variable {l n0:Nat} {ws:List Tk} {J Jx:List Tk→World→Prop}
set_option maxRecDepth 100000 in
set_option maxHeartbeats 8000000 in
theorem Q0 (Y:YlT l n0 ws J Jx) (n:Nat) (pre q0:List Tk) (s:ByteArray) (hs:s.size≤maxLen) (pl:Int) (hq0:q0=pre++nZ pl s s.size) (hw:q0 <+: ws) (W:World) (hJ:J pre W) (hn0:n0≤W.heap.size) (g off c:Nat)
  (hcell:∀ j u,(cN ⟨46,s,pl,1⟩)[j]?=some u→W.cell? ⟨g,off+j,none⟩=some u) (_hc:1≤c) :
  CallsIn Fence.wide n Tryz.prog 80 #[.slice (some ⟨g,off,none⟩) 1 c,.func (.yield l) #[] #[]] W (I8 n0 ws J Jx q0 W):=by
 have c0:W.cell? ⟨g,off,none⟩=some (.int .u8 46):=hcell 0 _ rfl
 have c1:W.cell? ⟨g,off+1,none⟩=some (.string s):=hcell 1 _ rfl
 have c2:W.cell? ⟨g,off+2,none⟩=some (.int .i64 pl):=hcell 2 _ rfl
 have c3:W.cell? ⟨g,off+3,none⟩=some (.int .i64 1):=hcell 3 _ rfl
 have hb0:Below W.heap.size W (W.alloc (.cells #[.int .u8 46,.string s,.int .i64 pl,.int .i64 1] 41)):=(Below.refl _ W).alloc (Nat.le_refl _) _
 have HC:=Lib.hid (QZ Y (n - 1) pre q0 s hs pl hq0 hw _ (Y.jb _ _ _ hb0 hJ) (Nat.le_trans hn0 hb0.size))
 have HB:=Lib.hid (yR.of hn0 hb0)
 clear hb0 hw hJ hcell Y hn0 hq0
 have hfn:∀ f,Fence.wide.fn f:=fun _=>trivial
 refine callsIn_of_wp Tryz.func80 rfl trivial ?_ rfl
 simp only[Tryz.ntmps80,List.size_toArray,List.length_cons,List.length_nil,Nat.reduceAdd,Nat.reduceSub,Array.replicate_succ,Array.replicate_zero,List.push_toArray,List.append_toArray,List.nil_append,List.cons_append]
 gi_wp2
 refine⟨fun h=>Bool.noConfusion h,HC.out.mono ?_⟩
 rintro e W6 (⟨rfl,hJ6,hk6⟩ | ⟨rfl,hJx6⟩)
 ·gi_wp2
  go_ret
  exact .inl ⟨rfl,hJ6,HB.out.trans hk6⟩
 ·gi_wp2
  go_ret
  exact .inr ⟨rfl,hJx6⟩
set_option maxRecDepth 100000 in
set_option maxHeartbeats 8000000 in
theorem Q1 (Y:YlT l n0 ws J Jx) {G:List Nd} {M:List Tk} (hG:POT l n0 ws J Jx G M) (n:Nat) (pre:List Tk) (k:Nat) (hk:k≠46) (_hk2:k<256) (pl:Int) (q0:List Tk) (hq0:q0=pre++⟨2,k,pl⟩::(M++[⟨3,k,0⟩])) (hw:q0 <+: ws) (W:World) (hJ:J pre W) (hn0:n0≤W.heap.size) (g off m c:Nat) (hgn:g<n0) (hm:G.length=m) (hmc:m+1≤c) (hcm:c≤maxLen)
  (hcell:∀ i x,(⟨k,aA,pl,((m:Nat):Int)+1⟩::G)[i]?=some x→∀ j u,(cN x)[j]?=some u→W.cell? ⟨g,off+(i * 4+j),none⟩=some u) :
  CallsIn Fence.wide n Tryz.prog 80 #[.slice (some ⟨g,off,none⟩) (m+1) c,.func (.yield l) #[] #[]] W (I8 n0 ws J Jx q0 W):=by
 have c0:W.cell? ⟨g,off,none⟩=some (.int .u8 (k:Int)):=hcell 0 _ rfl 0 _ rfl
 have c1:W.cell? ⟨g,off+1,none⟩=some (.string aA):=hcell 0 _ rfl 1 _ rfl
 have c2:W.cell? ⟨g,off+2,none⟩=some (.int .i64 pl):=hcell 0 _ rfl 2 _ rfl
 have c3:W.cell? ⟨g,off+3,none⟩=some (.int .i64 (((m:Nat):Int)+1)):=hcell 0 _ rfl 3 _ rfl
 have hrd:∀ V,Below n0 W V→(c=1→QY n0 (.slice (some ⟨g,off,none⟩) 0 0) G V)∧(c≠1→QY n0 (.slice (some ⟨g,off+4,none⟩) m (c - 1)) G V):=fun V hV=>⟨fun e=>by
   obtain rfl:G=[]:=List.eq_nil_of_length_eq_zero (by omega)
   exact OW n0 _ 0 (by unfold maxLen;omega) V,fun e=>(I6 (a:=[_]) (b:=G) (k:=1) (n:=m+1) hcell hgn (by simp[hm]) hmc hcm rfl rfl).2.below hV⟩
 have hb0:Below W.heap.size W (W.alloc (.cells #[.int .u8 (k:Int),.string aA,.int .i64 pl,.int .i64 (((m:Nat):Int)+1)] 41)):=(Below.refl _ W).alloc (Nat.le_refl _) _
 have hw1:pre++[⟨2,k,pl⟩] <+: ws:=FU (b:=M++[⟨3,k,0⟩]) (by rw[List.append_assoc];rw[hq0]at hw;exact hw)
 have hw2:(pre++[⟨2,k,pl⟩])++M <+: ws:=FU (b:=[⟨3,k,0⟩]) (by rw[hq0]at hw;simpa using hw)
 have hw3:((pre++[⟨2,k,pl⟩])++M)++[⟨3,k,0⟩] <+: ws:=by rw[hq0]at hw;simpa using hw
 have hq3:q0=((pre++[⟨2,k,pl⟩])++M)++[⟨3,k,0⟩]:=by rw[hq0];simp
 have hk0:(((k:Nat):Int)==46)=false:=beq_eq_false_iff_ne.2 (by omega)
 obtain⟨fn,tmps,assign,body,hy,hRd⟩:=Y.y (n - 1) pre ⟨2,k,pl⟩ _ (Y.jb _ _ _ hb0 hJ) hw1
 have hy:(Instr.yield l #[.agg #[.int .i64 2,.int .u8 (k:Int),.int .i64 pl]]).run Tryz.prog _=_:=hy
 have HRd:=Lib.hid hRd
 have HB:=Lib.hid (yR.of hn0 hb0)
 have HN:=Lib.hid hn0
 have HRW:=Lib.hid hrd
 have HY:=Lib.hid Y
 have HG:=Lib.hid hG
 have HW1:=Lib.hid hw1
 have HW2:=Lib.hid hw2
 have HW3:=Lib.hid hw3
 have HQ:=Lib.hid hq3
 have HBX:=Lib.hid (World.alloc_heap_new W (.cells #[.int .u8 (k:Int),.string aA,.int .i64 pl,.int .i64 (((m:Nat):Int)+1)] 41))
 have hm9:m≤maxLen:=by omega
 unfold maxLen at hm9
 clear hRd hb0 hw hw1 hw2 hw3 hJ hcell Y hn0 hrd hq0 hq3 hG hm
 have hfn:∀ f,Fence.wide.fn f:=fun _=>trivial
 refine callsIn_of_wp Tryz.func80 rfl trivial ?_ rfl
 simp only[Tryz.ntmps80,List.size_toArray,List.length_cons,List.length_nil,Nat.reduceAdd,Nat.reduceSub,Array.replicate_succ,Array.replicate_zero,List.push_toArray,List.append_toArray,List.nil_append,List.cons_append]
 gi_wp2
 refine⟨fun h=>Bool.noConfusion h,HRd.out.mono ?_⟩
 clear hy
 rintro e W1 (⟨rfl,hJ1,hk1⟩ | ⟨rfl,hJx1⟩)
 ·have HJ1:=Lib.hid hJ1
  have HX1:=Lib.hid (hk1.2 _ _ _ HBX.out)
  have HB1:=Lib.hid (HB.out.trans hk1)
  have HR1:=Lib.hid (HRW.out W1 HB1.out.1)
  have HN1:=Lib.hid (Nat.le_trans HN.out HB1.out.1.size)
  clear hJ1 hk1 c0 c1 c2 c3
  by_cases hc1:c=1
  ·subst hc1
   obtain rfl:m=0:=by omega
   have HR2:=Lib.hid (HR1.out.1 rfl)
   clear HR1 HRW
   gi_wp2
   refine⟨fun h=>Bool.noConfusion h,(HG.out _ (pre++[⟨2,k,pl⟩]) _ _ _ rfl HW2.out HJ1.out HN1.out HR2.out).mono ?_⟩
   rintro e W2 (⟨rfl,hJ2,hk2⟩ | ⟨rfl,hJx2⟩)
   ·obtain⟨fn2,tmps2,assign2,body2,hy2,hRd2⟩:=HY.out.y (n - 1) _ ⟨3,k,0⟩ W2 hJ2 HW3.out
    have hy2:(Instr.yield l #[.agg #[.int .i64 3,.int .u8 (k:Int),.int .i64 0]]).run Tryz.prog _=_:=hy2
    have d0:W2.cell? ⟨W.heap.size,0,none⟩=some (.int .u8 (k:Int)):=by rw[Lib.cell_of_heap (hk2.2 _ _ _ HX1.out)];rfl
    have HRd2:=Lib.hid hRd2
    have HB2:=Lib.hid (HB1.out.trans hk2)
    clear hRd2 hJ2 hk2
    gi_wp2
    refine⟨fun h=>Bool.noConfusion h,HRd2.out.mono ?_⟩
    rintro e W3 (⟨rfl,hJ3,hk3⟩ | ⟨rfl,hJx3⟩)
    ·gi_wp2
     go_ret
     exact .inl ⟨rfl,by rw[HQ.out];exact hJ3,HB2.out.trans hk3⟩
    ·gi_wp2
     go_ret
     exact .inr ⟨rfl,_,HW3.out,hJx3⟩
   ·gi_wp2
    go_ret
    exact .inr ⟨rfl,hJx2⟩
  ·have HR2:=Lib.hid (HR1.out.2 hc1)
   have hc2:1<c:=by omega
   clear HR1 HRW hc1
   gi_wp2
   refine⟨fun h=>Bool.noConfusion h,(HG.out _ (pre++[⟨2,k,pl⟩]) _ _ _ rfl HW2.out HJ1.out HN1.out HR2.out).mono ?_⟩
   rintro e W2 (⟨rfl,hJ2,hk2⟩ | ⟨rfl,hJx2⟩)
   ·obtain⟨fn2,tmps2,assign2,body2,hy2,hRd2⟩:=HY.out.y (n - 1) _ ⟨3,k,0⟩ W2 hJ2 HW3.out
    have hy2:(Instr.yield l #[.agg #[.int .i64 3,.int .u8 (k:Int),.int .i64 0]]).run Tryz.prog _=_:=hy2
    have d0:W2.cell? ⟨W.heap.size,0,none⟩=some (.int .u8 (k:Int)):=by rw[Lib.cell_of_heap (hk2.2 _ _ _ HX1.out)];rfl
    have HRd2:=Lib.hid hRd2
    have HB2:=Lib.hid (HB1.out.trans hk2)
    clear hRd2 hJ2 hk2
    gi_wp2
    refine⟨fun h=>Bool.noConfusion h,HRd2.out.mono ?_⟩
    rintro e W3 (⟨rfl,hJ3,hk3⟩ | ⟨rfl,hJx3⟩)
    ·gi_wp2
     go_ret
     exact .inl ⟨rfl,by rw[HQ.out];exact hJ3,HB2.out.trans hk3⟩
    ·gi_wp2
     go_ret
     exact .inr ⟨rfl,_,HW3.out,hJx3⟩
   ·gi_wp2
    go_ret
    exact .inr ⟨rfl,hJx2⟩
 ·gi_wp2
  go_ret
  exact .inr ⟨rfl,_,HW1.out,hJx1⟩
theorem U2 {R:List Nd} {L:List Tk} (h:Th R L) (h0:0<R.length) :
  (∃ s pl R' L',R=[⟨46,s,pl,1⟩]++R'∧L=nZ pl s s.size++L'∧Th R' L')∨(∃ k pl G R' M L',R=(⟨k,aA,pl,(G.length:Int)+1⟩::G)++R'∧L=⟨2,k,pl⟩::(M++⟨3,k,0⟩::L')∧Th G M∧Th R' L'∧k≠46):=by
 cases h with
 | nil=>simp at h0
 | text s pl h=>exact .inl ⟨s,pl,_,_,rfl,rfl,h⟩
 | node k pl h1 h2 hk=>exact .inr ⟨k,pl,_,_,_,_,rfl,rfl,h1,h2,hk⟩
def YS (R:List Nd):Prop:=∀ x ∈ R,x.kind<256∧x.text.size≤maxLen
theorem U3 (Y:YlT l n0 ws J Jx) (N:Nat) (IH:∀ (G:List Nd) (M:List Tk),G.length<N→YS G→Th G M→POT l n0 ws J Jx G M) {R:List Nd} {L:List Tk} (hT:Th R L) (h0:0<R.length) (hN:R.length≤N) (hkk:YS R) :
  ∃ (k:Nat) (a R':List Nd) (L1 L':List Tk) (x:Nd),R=a++R'∧a.length=k∧1≤k∧L=L1++L'∧Th R' L'∧R[0]?=some x∧x.size=((k:Nat):Int)∧∀ (n:Nat) (pre:List Tk) (W:World) (g off c:Nat),pre++L1 <+: ws→J pre W→n0≤W.heap.size→g<n0→k≤c→c≤maxLen →
   (∀ i x,R[i]?=some x→∀ j u,(cN x)[j]?=some u→W.cell? ⟨g,off+(i * 4+j),none⟩=some u) →
   CallsIn Fence.wide n Tryz.prog 80 #[.slice (some ⟨g,off,none⟩) k c,.func (.yield l) #[] #[]] W (I8 n0 ws J Jx (pre++L1) W):=by
 rcases U2 hT h0 with⟨s,pl,R',L',rfl,rfl,hT'⟩ | ⟨k,pl,G,R',M,L',rfl,rfl,hG,hT',hk⟩
 ·refine⟨1,[_],R',nZ pl s s.size,L',_,rfl,rfl,Nat.le_refl _,rfl,hT',rfl,rfl,fun n pre W g off c hw hJ hn hg hc _ hcell=>?_⟩
  exact Q0 Y n pre _ s (hkk _ (List.mem_cons_self ..)).2 pl rfl hw W hJ hn g off c (fun j u hu=>by have:=hcell 0 _ rfl j u hu;rwa [Nat.zero_mul,Nat.zero_add]at this) hc
 ·have hGl:G.length<N:=by simp only[List.length_append,List.length_cons]at hN;omega
  refine⟨G.length+1,_,R',⟨2,k,pl⟩::(M++[⟨3,k,0⟩]),L',_,rfl,rfl,by omega,by simp,hT',rfl,by simp,fun n pre W g off c hw hJ hn hg hc hcm hcell=>?_⟩
  refine Q1 Y (IH G M hGl (fun x hx=>hkk x (by simp[hx])) hG) n pre k hk (hkk ⟨k,aA,pl,(G.length:Int)+1⟩ (by simp)).1 pl _ rfl hw W hJ hn g off G.length c hg rfl hc hcm (fun i x hx j u hu=>hcell i x ?_ j u hu)
  rw[List.getElem?_append_left (List.getElem?_eq_some_iff.1 hx).1];exact hx
def aCM (v:Value):Nat:=match v with | .slice _ n _=>n | _=>0
set_option maxRecDepth 100000 in
set_option maxHeartbeats 8000000 in
theorem I9 (Y:YlT l n0 ws J Jx) (t:List Nd) (L:List Tk) (hk256:YS t) (hT:Th t L) (IH:∀ (G:List Nd) (M:List Tk),G.length<t.length→YS G→Th G M→POT l n0 ws J Jx G M):POT l n0 ws J Jx t L:=by
 intro n pre q0 v W hq hw hJ hn0 hrd
 have HW:=Lib.hid hw
 have HY:=Lib.hid Y
 have HIH:=Lib.hid IH
 have HN:=Lib.hid hn0
 have h1:∃ A c,v=.slice A t.length c:=by
  obtain⟨A,c,-,rfl,-⟩:=hrd
  exact⟨A,c,rfl⟩
 obtain⟨A,c,rfl⟩:=h1
 have HRel:=Lib.hid (show ∃ (R:List Nd) (LR pre':List Tk),Th R LR∧pre'++LR=q0∧R.length≤t.length∧YS R∧J pre' W∧yR n0 W W∧QY n0 (.slice A t.length c) R W from ⟨t,L,pre,hT,hq.symm,Nat.le_refl _,hk256,hJ,yR.refl _ _,hrd⟩)
 have hlm:t.length≤maxLen:=by
  obtain⟨_,_,_,h,h1,h2,-⟩:=hrd
  injection h with _ _ h
  omega
 clear hw Y IH hn0 hT hq hk256 hJ hrd
 have hfn:∀ f,Fence.wide.fn f:=fun _=>trivial
 refine callsIn_of_wp Tryz.func47 rfl trivial ?_ rfl
 simp only[Tryz.ntmps47,List.size_toArray,List.length_cons,List.length_nil,Nat.reduceAdd,Nat.reduceSub,Array.replicate_succ,Array.replicate_zero,List.push_toArray,List.append_toArray,List.nil_append,List.cons_append]
 gi_wp2
 gi_loopw [0] (fun t0 wr=>∃ (R:List Nd) (LR pre':List Tk),Th R LR∧pre'++LR=q0∧R.length≤t.length∧YS R∧J pre' wr∧yR n0 W wr∧QY n0 t0 R wr) (fun t0 _=>aCM t0)
 case atStart=>exact HRel.out
 case round =>
  obtain⟨R,LR,pre',hT,hq,hR,hk,hJ,hB,hrd⟩:=hrel
  obtain⟨A,c,off,rfl,hc,hm,hcell⟩:=hrd
  by_cases h0:0<R.length
  ·obtain⟨g,rfl,hg,hcell⟩:=hcell h0
   obtain⟨k,a,R',L1,L',x,ha,hak,hk1,hL,hT',hx,hxs,hone⟩:=U3 HY.out t.length HIH.out hT h0 hR hk
   have hwn:n0≤wr.heap.size:=Nat.le_trans HN.out hB.1.size
   have c3:=hcell 0 x hx 3 _ rfl
   rw[Nat.zero_mul,Nat.zero_add,hxs]at c3
   obtain⟨r,hr⟩:∃ r,R.length=r:=⟨_,rfl⟩
   have hr2:=hr
   rw[ha,List.length_append,hak]at hr2
   have hkr:k≤r:=by omega
   rw[hr]at hc hR h0 ⊢
   have HC:=Lib.hid (hone (n - 1) pre' wr g off c (by rw[hL,← List.append_assoc]at hq;rw[← hq]at HW;exact FU HW.out) hJ hwn hg (by omega) hm hcell)
   have HP:=Lib.hid (fun V (hV:Below n0 wr V)=>(I6 (a:=a) (b:=R') (k:=k) (n:=r) hcell hg hr hc hm ha hak).2.below hV)
   have HR':=Lib.hid (show YS R' from fun x hx=>hk x (by rw[ha];simp[hx]))
   have HQ:=Lib.hid (show (pre'++L1)++L'=q0 by rw[List.append_assoc,← hL];exact hq)
   have HT:=Lib.hid hT'
   have HBB:=Lib.hid hB
   have HLEN:=Lib.hid (show R'.length=r - k by omega)
   have hm9:c≤maxLen:=hm
   unfold maxLen at hm9
   have hk0:0≤(k:Int):=by omega
   clear hone hcell hr hT' hT hq hk hL ha hak hx hxs hB hr2 hJ hwn hm
   gi_wp2
   refine⟨fun h=>Bool.noConfusion h,HC.out.mono ?_⟩
   rintro e W1 (⟨rfl,hJ1,hb1⟩ | ⟨rfl,q,hq,hx1⟩)
   ·have HJ1:=Lib.hid hJ1
    have HB1:=Lib.hid (HBB.out.trans hb1)
    have HP1:=Lib.hid (HP.out W1 hb1.1)
    clear hJ1 hb1 c3
    by_cases hkc:k=c
    ·subst hkc
     obtain rfl:r=k:=by omega
     have HRN:=Lib.hid (List.eq_nil_of_length_eq_zero (by have:=HLEN.out;omega:R'.length=0))
     gi_wp2
     go_roundw
     case rel=>exact⟨R',L',_,HT.out,HQ.out,by have:=HLEN.out;omega,HR'.out,HJ1.out,HB1.out,by rw[HRN.out];exact OW n0 _ 0 (by unfold maxLen;omega) _⟩
     case measure=>simp[aCM];omega
    ·have hkc2:k<c:=by omega
     gi_wp2
     go_roundw
     case rel=>exact⟨R',L',_,HT.out,HQ.out,by have:=HLEN.out;omega,HR'.out,HJ1.out,HB1.out,HP1.out⟩
     case measure=>simp[aCM];omega
   ·gi_wp2
    go_ret
    exact .inr ⟨rfl,q,hq,hx1⟩
  ·have hz:R.length=0:=by omega
   obtain rfl:=List.eq_nil_of_length_eq_zero hz
   have HQ:=Lib.hid (show pre'=q0 by
    cases hT
    rw[← hq,List.append_nil])
   have HJ:=Lib.hid hJ
   have HBB:=Lib.hid hB
   clear hT hq hJ hB hcell hk hR hz h0 hc hm
   gi_wp2
   go_ret
   exact .inl ⟨rfl,by rw[← HQ.out];exact HJ.out,HBB.out⟩
theorem OX (Y:YlT l n0 ws J Jx):∀ (N:Nat) (t:List Nd) (L:List Tk),t.length≤N→YS t→Th t L→POT l n0 ws J Jx t L
 | 0,t,L,hN,hk,hT=>I9 Y t L hk hT (fun G M hG=>absurd hG (by omega))
 | N+1,t,L,hN,hk,hT=>I9 Y t L hk hT (fun G M hG hkG hTG=>OX Y N G M (by omega) hkG hTG)
end
set_option maxRecDepth 100000 in
set_option maxHeartbeats 4000000 in
theorem FW (n n0 B:Nat) (v:Value) (t:List Nd) (L:List Tk) (hT:Th t L) (hk:YS t) (w:World) (hn0:n0≤w.heap.size) (hrd:QY n0 v t w) (hb:Boxed w B 22 v) :
  Ra.DS Tryz.prog n 46 #[] #[.pointer (some ⟨B,0,none⟩)] (fun _=>False) aCJ (yR n0) L (fun _=>True) w:=by
 intro l J Jx W hW _ hJb hY h0
 have Y:YlT l n0 L J Jx:=⟨hJb,fun m pre x V hJ hp=>I7 (hY pre x V hJ hp)⟩
 have HB:=Lib.hid (show Boxed W B 22 v from (hW.block B hb.lt).trans hb)
 have HC:=Lib.hid (OX Y t.length t L (Nat.le_refl _) hk hT (n - 1) [] L v W rfl (List.prefix_refl _) h0 (Nat.le_trans hn0 hW.size) (hrd.below (hW.mono hn0)))
 have c0:=HB.out.cell
 clear hY hJb hW h0 Y hT hk hn0 hrd hb
 have hfn:∀ f,Fence.wide.fn f:=fun _=>trivial
 refine callsIn_of_wp Tryz.func46 rfl trivial ?_ rfl
 simp only[Tryz.ntmps46,List.size_toArray,List.length_cons,List.length_nil,Nat.reduceAdd,Nat.reduceSub,Array.replicate_succ,Array.replicate_zero,List.push_toArray,List.append_toArray,List.nil_append,List.cons_append]
 gi_wp2
 refine⟨fun h=>Bool.noConfusion h,HC.out.mono ?_⟩
 rintro e W1 (⟨rfl,hJ1,hb1⟩ | ⟨rfl,q,hq,hx1⟩)
 ·gi_wp2
  go_end0
  exact⟨⟨_,rfl⟩,.inl ⟨hJ1,trivial⟩⟩
 ·gi_wp2
  go_end0
  exact⟨⟨_,rfl⟩,.inr ⟨q,hq,hx1⟩⟩
end Go.Proofs.YtgpihfacmpbpaaaGreatDoor.Fl
namespace Go.Proofs.YtgpihfacmpbpaaaGreatDoor.Fl
open Go.RowKit Go.Shelf Tr Nu Nl Cn
attribute [local go_sem] Oper.semAt_some
def LG (w:World) (b:Nat) (pre:List Tk) (W:World):Prop:=∃ v,Boxed W b 25 v∧W.ownsRow (b+1) 39 3 v pre.length (Ba.rows cT (pre.foldl kK []))∧Below w.heap.size w W
theorem LG.n7 {w:World} {b:Nat} {pre:List Tk} {W W':World} {row:Option Nat} (h:LG w b pre W) (hg:W.grownBy W' row) (hwb:w.heap.size≤b) (hr:∀ r,row=some r→b+1≤r∧∃ o:Obj,W.heap[r]?=some o∧o.isCells=false):LG w b pre W':=by
 obtain⟨v,h1,h3,h4⟩:=h
 refine⟨v,h1.kept hg (fun e=>by have:=(hr _ e.symm).1;omega),h3.kept hg ?_,h4.grown hg h4.size (fun j ej=>by have:=(hr _ ej).1;omega)⟩
 rcases h3.2 with⟨rfl,_⟩ | ⟨g,cap,cur,rfl,_,hgb,_⟩
 ·exact .inl rfl
 ·refine .inr fun e'=>?_
  obtain⟨_,o,ho,hc⟩:=hr g e'.symm
  rw[hgb]at ho;cases ho;cases hc
theorem LG.below {w:World} {b:Nat} {pre:List Tk} {W W':World} (h:LG w b pre W) (hb:Below W.heap.size W W'):LG w b pre W':=by
 obtain⟨v,h1,h3,h4⟩:=h
 exact⟨v,(hb.block b h1.lt).trans h1,Ba.cV h3 hb,h4.trans (hb.mono h4.size)⟩
def BxT (b g:Nat) (x:Tk) (W:World):Prop:=b<g∧W.heap[g]?=some (.cells #[.int .i64 x.kind,.int .u8 (x.ch:Int),.int .i64 x.place] 39 (0,0))∧∀ v,Boxed W b 25 v→v.ownBlock≠some g
theorem LG.aCN {w:World} {b g:Nat} {pre:List Tk} {x:Tk} {W:World} (h:LG w b pre W) (hwb:w.heap.size≤b) (hx:BxT b g x W) (p:Int):LG w b pre (W.setCell ⟨g,2,none⟩ (.int .i64 p))∧(W.setCell ⟨g,2,none⟩ (.int .i64 p)).heap[g]?=some (.cells #[.int .i64 x.kind,.int .u8 (x.ch:Int),.int .i64 p] 39 (0,0))∧∀ n0,n0≤b→yR n0 W (W.setCell ⟨g,2,none⟩ (.int .i64 p)):=by
 obtain⟨v,h1,h3,h4⟩:=h
 obtain⟨hg,hb,hne⟩:=hx
 have hn:=hne v h1
 refine⟨⟨v,(Below.heap_setCell W _ _ b (fun e=>by have e:b=g:=e;omega)).trans h1,Ba.iT h3 _ hn,h4.setCell (p:=⟨g,2,none⟩) (by show w.heap.size≤g;omega) _⟩,?_,fun n0 hn0=>⟨(Below.refl n0 W).setCell (p:=⟨g,2,none⟩) (by show n0≤g;omega) _,fun c cs fr e=>?_⟩⟩
 ·simp[World.setCell,Array.getElem?_modify,hb]
 ·refine(Below.heap_setCell W _ _ c (fun e2=>?_)).trans e
  have e2:c=g:=e2
  rw[e2,hb]at e
  injection e with e
  injection e with _ e _
  revert e
  decide
theorem LG.step {w:World} {b k:Nat} {pre:List Tk} {x y:Tk} {W w1:World} {v v':Value} {tmp:Obj} (h:LG w b pre W) (hwb:w.heap.size≤b) (hv:Boxed W b 25 v) (hrow:W.ownsRow (b+1) 39 3 v k (Ba.rows cT (pre.foldl kK []))) (hk:pre.length=k) (hxy:kK (pre.foldl kK []) x=pre.foldl kK []++[y])
  (hown':w1.ownsRow (b+1) 39 3 v' (k+1) (Ba.rows cT (pre.foldl kK [])++cT y)) (hgrow:(W.alloc tmp).grownBy w1 v.ownBlock) :
  w1.cell? ⟨b,0,none⟩=some v∧w1.frozen? ⟨b,0,none⟩=false∧(∀ B,KeepsFrom B W (w1.setCell ⟨b,0,none⟩ v'))∧(∀ n0,n0≤b→yR n0 W (w1.setCell ⟨b,0,none⟩ v'))∧LG w b (pre++[x]) (w1.setCell ⟨b,0,none⟩ v'):=by
 obtain⟨-,-,-,h4⟩:=h
 have hbl:=hv.lt
 have hlt:=hrow.lt
 have b1:Boxed w1 b 25 v:=(hv.alloc tmp).kept hgrow (fun e=>by have:=(hlt _ e.symm).1;omega)
 have hbW0:∀ n0,n0≤b→Below n0 W w1:=fun n0 hn=>((Below.refl _ W).alloc (by omega) _).grown hgrow (by simp;omega) (fun j ej=>by have:=(hlt j ej).1;omega)
 have hbW:∀ n0,n0≤b→Below n0 W (w1.setCell ⟨b,0,none⟩ v'):=fun n0 hn=>(hbW0 n0 hn).setCell (p:=⟨b,0,none⟩) hn _
 refine⟨b1.cell,b1.frozen,fun B=>?_,fun n0 hn=>⟨hbW n0 hn,fun c cs fr e=>?_⟩,⟨v',b1.set v',?_,h4.trans (hbW _ hwb)⟩⟩
 ·refine(((KeepsOthers.alloc W tmp).trans (KeepsOthers.of_grownBy hgrow fun j o ej hj=>?_)).trans (KeepsOthers.setCell _ _ _)).from _
  rcases(hrow.alloc tmp).2 with⟨rfl,_⟩ | ⟨g,cap,cur,rfl,_,hgb,_⟩
  ·simp[Value.ownBlock]at ej
  ·obtain rfl:g=j:=by simpa[Value.ownBlock] using ej
   rw[hgb]at hj;cases hj;rfl
 ·have hc:=(Array.getElem?_eq_some_iff.1 e).1
  have n1:c≠b:=fun e2=>by
   subst e2
   have hv:W.heap[c]?=_:=hv
   rw[hv]at e
   injection e with e
   injection e with _ e _
   revert e
   decide
  have n2:some c≠v.ownBlock:=fun e2=>by
   rcases hrow.2 with⟨rfl,_⟩ | ⟨g,cap,cur,rfl,_,hgb,_⟩
   ·cases e2
   ·have e2:c=g:=Option.some.inj e2
    rw[e2,hgb]at e
    injection e with e
    injection e with _ e _
    revert e
    decide
  exact(Below.heap_setCell w1 _ _ c n1).trans ((hgrow.block c (by simp;omega) n2).trans ((Below.heap_alloc W tmp c hc).trans e))
 ·rw[List.length_append,hk,List.foldl_append]
  show World.ownsRow _ _ _ _ _ _ (Ba.rows cT (kK _ x))
  rw[hxy,Ba.iH,show Ba.rows cT [y]=cT y by simp[Ba.rows]]
  exact ownsRow_setCell_below hown' (show b<b+1 by omega) _
theorem Q2 (A:Option Addr) (m c:Nat) (w:World):Calls Tryz.prog 21 #[.slice A m c] w fun e w'=>e=.returned (.func (.func 46) #[] #[.pointer (some ⟨w.heap.size,0,none⟩)])∧w'=w.alloc (.cells #[.slice A m c] 22):=by
 go_enter Tryz.func21,Tryz.ntmps21
 go_wp2
 go_ret
 exact⟨rfl,rfl⟩
def AsT (b:Nat) (A:Option Addr) (n c:Nat) (x:Tk) (a:Act) (W:World):Prop :=
 ∃ g,BxT b g x W∧a={ tmps:=#[.slice A n c,undef,.slice none 0 0,.int .i64 0,.int .i64 0,.pointer (some ⟨b,0,none⟩),.pointer (some ⟨g,0,none⟩),.slice A n c,.int .i64 0,.int .i64 0,.bool false,undef,.slice A n c,.bool true,.bool false,.slice A n c,
   .func (.func 46) #[] #[.pointer (some ⟨b+1,0,none⟩)],.agg #[.int .i64 x.kind,.int .u8 (x.ch:Int),.int .i64 x.place],
   undef,undef,undef,undef,undef,undef,undef,undef,undef,undef,undef,undef,undef,undef,undef,undef],defers:=[] }
theorem Q3 {o:List Tk} {k:Nat} (h:o.length=k+1):∃ y,o[k]?=some y∧y.place=dW o:=by
 obtain⟨y,hy⟩:∃ y,o[k]?=some y:=⟨_,List.getElem?_eq_getElem (by omega)⟩
 refine⟨y,hy,?_⟩
 unfold dW
 rw[List.getLast?_eq_getElem?,h,Nat.add_sub_cancel,hy]
set_option maxRecDepth 100000 in
set_option maxHeartbeats 8000000 in
theorem aCO (Ld:lJ) (A:Option Addr) (c:Nat) (t:List Nd) (off:Nat) (hi:zP t=true) (ht:t.length≤9000) (hf:Fit t) (hx:∀ x ∈ t,x.text.size≤9000) (hs:gA t≤100000) (hc:t.length≤c) (hcm:c≤maxLen) (w:World) (hL:Ka.Laid w) (hv:aS off w w.heap.size (.slice A t.length c) t) :
  Calls Tryz.prog 8 #[.slice A t.length c] w (Y9 (rN t) 0 w):=by
 obtain⟨L,hW,-⟩:=gT (rI hi)
 obtain⟨H,hT,hfix⟩:=aCE hW
 have HCH:=Lib.hid (sX Ld t off (.slice A t.length c) ht hf hx w hL hv 0 (by rw[rI hi];rfl))
 have HIS:=Lib.hid (fun W hLW hvW=>OY Ld (.slice A t.length c) t off ht hf hx true hi W hLW hvW)
 have HL:=Lib.hid hL
 have hLN:=hL.1
 have hrd:QY w.heap.size (.slice A t.length c) t w:=by
  obtain⟨A',c',e,h⟩:=hv
  injection e with e1 _ e3
  subst e1 e3
  exact⟨A,c,off,rfl,hc,hcm,h⟩
 have HV:=Lib.hid hv
 have HF:=Lib.hid (show YS t from fun x hxt=>⟨(hf x hxt).1,Nat.le_trans (hx x hxt) (by decide)⟩)
 have hHL:H.length≤1000000:=by
  have h1:=FO [] H
  have h2:=(vG (rI hi) hf).2
  rw[hfix]at h1
  simp at h1
  omega
 have HFIX:=Lib.hid hfix
 have HRD:=Lib.hid hrd
 have HTH:=Lib.hid hT
 obtain⟨m,hm⟩:∃ m,t.length=m:=⟨_,rfl⟩
 rw[hm]at HCH HIS HV ⊢
 rw[hm]at HRD
 obtain⟨i0,hi0,hz0,hz1,hz2⟩:=info_parts FM
 clear hv hrd hT hfix hW hL hf hx hi hm hs hc ht
 have hfn:∀ f,Fence.wide.fn f:=fun _=>trivial
 refine(callsIn_wide (n:=3)).1 ?_
 refine callsIn_of_wp_marks Tryz.func8 rfl trivial ?_ rfl
 simp only[Tryz.ntmps8,List.size_toArray,List.length_cons,List.length_nil,Nat.reduceAdd,Nat.reduceSub,Array.replicate_succ,Array.replicate_zero,List.push_toArray,List.append_toArray,List.nil_append,List.cons_append]
 gi_wp2
 refine(callsIn_wide.2 HCH.out).mono ?_
 rintro e w1 ⟨rfl,hb1⟩
 have HB1:=Lib.hid hb1
 have HV1:=Lib.hid ((HV.out.below hb1).mono hb1.size)
 have HL1:=Lib.hid (HL.out.below hb1 hLN)
 clear hb1
 gi_wp2
 refine(callsIn_wide.2 (HIS.out _ HL1.out HV1.out)).mono ?_
 rintro e w2 ⟨rfl,hb2⟩
 have HB2:=Lib.hid (Ba.chain HB1.out HB1.out.size hb2)
 clear hb2 HV1 HL1 HB1 HIS HCH
 gi_wp2_with (gi_at_call 21;refine(callsIn_wide.2 (Q2 A m c _)).mono ?_;rintro e w' ⟨rfl,rfl⟩)
 have HB2W:=Lib.hid HB2.out.size
 obtain⟨b,hb⟩:∃ b,w2.heap.size=b:=⟨_,rfl⟩
 obtain⟨W0,hW0⟩:∃ W0,((w2.alloc (.cells #[.slice none 0 0] 25)).alloc (.cells #[.slice A m c] 22))=W0:=⟨_,rfl⟩
 have hsz:W0.heap.size=b+2:=by rw[← hW0,← hb];simp
 have hwb:w.heap.size≤b:=by rw[← hb];exact HB2W.out
 have hB0:Below w.heap.size w W0:=by
  rw[← hW0]
  exact((HB2.out.trans ((Below.refl _ w2).alloc (by rw[hb];exact hwb) _))).trans ((Below.refl _ _).alloc (by simp;omega) _)
 have hI0:LG w b [] W0:=by
  refine⟨.slice none 0 0,?_,World.ownsRow_nil _ _ _ _,hB0⟩
  rw[← hW0,← hb]
  exact(Boxed.new w2 _ _).alloc _
 have hbx:Boxed W0 (b+1) 22 (.slice A m c):=by
  rw[← hW0,← hb]
  have:=Boxed.new (w2.alloc (.cells #[.slice none 0 0] 25)) 22 (.slice A m c)
  simpa using this
 rw[hb,hW0]
 clear hW0 hb HB2 HB2W
 refine Ra.oO (own:=fun _=>False) (by omega) (gf:=46) (fa:=#[]) (lb:=#[.pointer (some ⟨b+1,0,none⟩)]) rfl (enters_of Tryz.func46 (by kernel_rfl) rfl) (fun _ h=>absurd h id)
  (FW 2 w.heap.size (b+1) (.slice A m c) t H HTH.out HF.out W0 (by omega) (HRD.out.below hB0) hbx) yR.trans
  (fun W k o o' hk1 hk2 hk3 hk4=>⟨belowK_b (w:=w) (Nat.le_refl _) W k o o' (by omega) hk2 hk3 hk4,fun b' cs fr e=>by
   refine(World.putObj_heap_other (fun e2=>?_)).trans e
   rw[e2]at e
   rw[e]at hk2
   cases hk2
   cases hk3⟩)
  (fun _ _ _ _ h=>h) (fun _=>rfl) (LG w b) (fun _ _=>False)
  (fun pre A B' row hs hg hr=>LG.n7 hs hg hwb (fun r e=>by have:=hr r e;exact⟨by omega,this.2⟩))
  (fun _ _ _ _ hs _ _=>hs)
  (fun _ _ _ _ h=>absurd h id) (fun pre V V' hb hs=>LG.below hs hb) hI0
  (AsT b A m c) (fun x a W l o o' hl ho hc hA=>by
   obtain⟨g,⟨h1,h2,h3⟩,h4⟩:=hA
   have hlg:g≠l:=fun e=>by
    rw[e,ho]at h2
    cases h2
    cases hc
   refine⟨g,⟨h1,(World.putObj_heap_other hlg).trans h2,fun v hv=>h3 v ?_⟩,h4⟩
   exact(World.putObj_heap_other (show b≠l by omega)).symm.trans hv) ?assign ?body ?done ?stop
 case assign =>
  rintro l pre ⟨kd,ch,pl⟩ W hI hpre
  obtain⟨v,h1,h3,h4⟩:=hI
  have hbl:=h1.lt
  have hbW:Below W.heap.size W (W.alloc (.cells #[.int .i64 kd,.int .u8 (ch:Int),.int .i64 pl] 39)):=(Below.refl _ W).alloc (Nat.le_refl _) _
  have HW:=Lib.hid hbW
  have HK:=Lib.hid (yR.of (n0:=w.heap.size) (by omega) hbW)
  have HX:=Lib.hid (show BxT b W.heap.size ⟨kd,ch,pl⟩ (W.alloc (.cells #[.int .i64 kd,.int .u8 (ch:Int),.int .i64 pl] 39)) from ⟨hbl,World.alloc_heap_new W _,fun u hu e=>by
   have e2:v=u:=by
    have h5:=(h1.alloc (.cells #[.int .i64 kd,.int .u8 (ch:Int),.int .i64 pl] 39))
    have h5:(W.alloc _).heap[b]?=_:=h5
    have hu:(W.alloc _).heap[b]?=_:=hu
    rw[h5]at hu
    injection hu with hu
    injection hu with hu _ _
    exact(Array.mk.inj hu |> List.cons.inj).1
   subst e2
   have:=(h3.lt _ e).2
   omega⟩)
  clear hbW h1 h3 h4 hpre
  dsimp only[aCJ]
  gi_wp2
  exact⟨⟨_,HX.out,rfl⟩,HW.out,HK.out⟩
 case body =>
  rintro l pre x a W hI hpre ⟨g,hX,rfl⟩
  have hp3:=fun hk=>UO HTH.out hpre hk
  have hk9:pre.length<H.length:=by
   have:=hpre.length_le
   rw[List.length_append]at this
   simp at this;omega
  have hol:=FO [] pre
  obtain⟨o,ho⟩:∃ o,pre.foldl kK []=o:=⟨_,rfl⟩
  rw[ho]at hol
  obtain⟨v,hv,hrow,hB⟩:=id hI
  obtain⟨k,hk⟩:∃ k,pre.length=k:=⟨_,rfl⟩
  rw[hk]at hrow hk9
  have hok:o.length=k:=by rw[hol,hk];simp
  have hgX:=hX.2.1
  have hnX:=hX.2.2 v hv
  have hbg:=hX.1
  obtain⟨kd,ch,pl⟩:=x
  by_cases h3:kd=3
  ·have hk0:0<k:=by
    rcases Nat.eq_zero_or_pos k with h | h
    ·exact absurd (List.eq_nil_of_length_eq_zero (by omega)) (hp3 h3)
    ·exact h
   obtain⟨j,rfl⟩:∃ j,k=j+1:=⟨k - 1,by omega⟩
   obtain⟨y,hy,hyp⟩:=Q3 hok
   obtain⟨p1,p2,p3⟩:=hI.aCN hwb hX (dW o)
   have HP1:=Lib.hid p1
   have HP3:=Lib.hid (p3 w.heap.size hwb)
   have hxy:kK o ⟨kd,ch,pl⟩=o++[⟨kd,ch,dW o⟩]:=by unfold kK;rw[if_pos h3]
   subst h3
   have hfarv:(W.setCell ⟨g,2,none⟩ (.int .i64 (dW o))).ownsRow (b+1) 39 3 v (j+1) (Ba.rows cT (pre.foldl kK [])):=Ba.iT hrow _ hnX
   have hvb:Boxed (W.setCell ⟨g,2,none⟩ (.int .i64 (dW o))) b 25 v:=(Below.heap_setCell W _ _ b (fun e=>by have e:b=g:=e;omega)).trans hv
   have hgl:=(Array.getElem?_eq_some_iff.1 hgX).1
   obtain⟨gr,cap,rfl,hgr,hbgr,hkc⟩:=Ba.oE hrow (by omega)
   have d0:=(show Boxed W b _ _ from hv).cell
   have f0:=(show Boxed W b _ _ from hv).frozen
   have e2:W.cell? ⟨gr,j * 3+2,none⟩=some (.int .i64 (dW o)):=by
    rw[hrow.cellAt (j * 3+2) (by omega),ho,Ba.cB cT wW _ _ _ hy 2 (by omega),← hyp];rfl
   have g0:W.cell? ⟨g,0,none⟩=some (.int .i64 3):=by rw[Lib.cell_of_heap hgX];rfl
   have g2:W.cell? ⟨g,2,none⟩=some (.int .i64 pl):=by rw[Lib.cell_of_heap hgX];rfl
   have gf:W.frozen? ⟨g,2,none⟩=false:=Lib.frozen_of_heap hgX 2
   obtain⟨lp,hlp⟩:∃ lp,dW o=lp:=⟨_,rfl⟩
   rw[hlp]at HP1 HP3 hxy hfarv hvb e2 p2
   have HXY:=Lib.hid (show kK (pre.foldl kK []) ⟨3,ch,pl⟩=pre.foldl kK []++[⟨3,ch,lp⟩] by rw[ho];exact hxy)
   have HP2:=Lib.hid p2
   have HV:=Lib.hid hvb
   have HROW:=Lib.hid hfarv
   have HK:=Lib.hid hk
   have j0:(0:Int)≤(j:Int):=by omega
   have hj9:j+1≤1000000:=by omega
   have s0:∀ i,(W.setCell ⟨g,2,none⟩ (.int .i64 lp)).cell? ⟨b,i,none⟩=W.cell? ⟨b,i,none⟩:=fun i=>World.cell?_setCell_other _ _ _ _ (fun e=>by injection e with e _ _;omega)
   have q0:(W.setCell ⟨g,2,none⟩ (.int .i64 lp)).cell? ⟨g,0,none⟩=some (.int .i64 3):=by rw[Lib.cell_of_heap p2];rfl
   have q1:(W.setCell ⟨g,2,none⟩ (.int .i64 lp)).cell? ⟨g,1,none⟩=some (.int .u8 (ch:Int)):=by rw[Lib.cell_of_heap p2];rfl
   have q2:(W.setCell ⟨g,2,none⟩ (.int .i64 lp)).cell? ⟨g,2,none⟩=some (.int .i64 lp):=by rw[Lib.cell_of_heap p2];rfl
   have d1:(W.setCell ⟨g,2,none⟩ (.int .i64 lp)).cell? ⟨b,0,none⟩=some (.slice (some ⟨gr,0,none⟩) (j+1) cap):=hvb.cell
   have hKF:∀ B,KeepsFrom B W (W.setCell ⟨g,2,none⟩ (.int .i64 lp)):=fun B=>(KeepsOthers.setCell _ _ _).from _
   have HKF:=Lib.hid hKF
   have hzz:(W.setCell ⟨g,2,none⟩ (.int .i64 lp)).heap.size=W.heap.size:=by simp
   have HNEW:=Lib.hid (show ((W.setCell ⟨g,2,none⟩ (.int .i64 lp)).alloc (.cells #[.int .i64 3,.int .u8 (ch:Int),.int .i64 lp] 39)).heap[W.heap.size]?=some (.cells #[.int .i64 3,.int .u8 (ch:Int),.int .i64 lp] 39 (0,0)) by
    have h:=World.alloc_heap_new (W.setCell ⟨g,2,none⟩ (.int .i64 lp)) (.cells #[.int .i64 3,.int .u8 (ch:Int),.int .i64 lp] 39)
    rwa [hzz]at h)
   have hWb:b+1≤W.heap.size:=by omega
   clear hI hpre hp3 hol ho hv hrow hB hk hok hgX hnX hX hy hyp p1 p3 hxy hfarv hvb hlp p2 s0 hKF hzz hk9
   gi_wp2_with (gi_at_builtin;refine wpListIn_append_own _ rfl _ _ 25 rfl (b+1) 39 i0 _ 3 24 Tryz.underlying25 hi0 hz0 hz1 hz2 rfl (by decide) _ _ _ rfl (HROW.out.alloc _) ⟨W.heap.size,0,none⟩ 1 1 [.int .i64 3,.int .u8 (ch:Int),.int .i64 lp] rfl rfl (World.news_of_block (cs:=#[.int .i64 3,.int .u8 (ch:Int),.int .i64 lp]) (t:=39) (fr:=(0,0)) HNEW.out) (by simp[Value.oneCell']) (by unfold maxLen;omega) (by omega) (by simp;omega) ?_;intro v' w9 hown' hgrow _;obtain⟨g',cap',rfl⟩:=ownsRow_succ hown';obtain⟨s1,s2,s3,s4,s5⟩:=HP1.out.step hwb HV.out HROW.out HK.out HXY.out hown' hgrow;have HS3:=Lib.hid s3;have HS4:=Lib.hid (s4 w.heap.size hwb);have HS5:=Lib.hid s5;clear s3 s4 s5 hown' hgrow)
   exact⟨(HKF.out _).trans (HS3.out _),HP3.out.trans HS4.out,HS5.out⟩
  ·have t1:(kd==3)=false:=beq_eq_false_iff_ne.2 h3
   have hxy:kK o ⟨kd,ch,pl⟩=o++[⟨kd,ch,pl⟩]:=LQ h3 o
   have HXY:=Lib.hid (show kK (pre.foldl kK []) ⟨kd,ch,pl⟩=pre.foldl kK []++[⟨kd,ch,pl⟩] by rw[ho];exact hxy)
   have d0:=(show Boxed W b _ _ from hv).cell
   have f0:=(show Boxed W b _ _ from hv).frozen
   have g0:W.cell? ⟨g,0,none⟩=some (.int .i64 kd):=by rw[Lib.cell_of_heap hgX];rfl
   have g1:W.cell? ⟨g,1,none⟩=some (.int .u8 (ch:Int)):=by rw[Lib.cell_of_heap hgX];rfl
   have g2:W.cell? ⟨g,2,none⟩=some (.int .i64 pl):=by rw[Lib.cell_of_heap hgX];rfl
   have HI:=Lib.hid hI
   have HV:=Lib.hid hv
   have HROW:=Lib.hid hrow
   have HK:=Lib.hid hk
   have hWb:b+1≤W.heap.size:=hv.lt
   obtain⟨Av,cv,rfl,-⟩:=aW hrow
   clear hI hpre hp3 hol ho hv hrow hB hk hok hgX hnX hX hxy h3
   gi_wp2_with (gi_at_builtin;refine wpListIn_append_own _ rfl _ _ 25 rfl (b+1) 39 i0 _ 3 24 Tryz.underlying25 hi0 hz0 hz1 hz2 rfl (by decide) _ _ _ rfl (HROW.out.alloc _) ⟨W.heap.size,0,none⟩ 1 1 [.int .i64 kd,.int .u8 (ch:Int),.int .i64 pl] rfl rfl (World.news_of_block (cs:=#[.int .i64 kd,.int .u8 (ch:Int),.int .i64 pl]) (t:=39) (fr:=(0,0)) (heap_alloc_new _ _)) (by simp[Value.oneCell']) (by unfold maxLen;omega) (by omega) (by simp;omega) ?_;intro v' w9 hown' hgrow _;obtain⟨g',cap',rfl⟩:=ownsRow_succ hown';obtain⟨s1,s2,s3,s4,s5⟩:=HI.out.step hwb HV.out HROW.out HK.out HXY.out hown' hgrow;have HS3:=Lib.hid s3;have HS4:=Lib.hid (s4 w.heap.size hwb);have HS5:=Lib.hid s5;clear s3 s4 s5 hown' hgrow)
   exact⟨HS3.out _,HS4.out,HS5.out⟩
 case done =>
  rintro D W hD hI _ hK
  obtain⟨v,h1,h3,h4⟩:=hI
  have hlen:H.length=(rN t).length:=by
   have:=FO [] H
   rw[HFIX.out]at this
   simpa using this.symm
  rw[HFIX.out,hlen]at h3
  have c0:=h1.cell
  have HROW:=Lib.hid (ownsRow_putObj (fL (B':=w.heap.size) h3 (by omega)) (.deferred none) hK rfl)
  have HBD:=Lib.hid (h4.trans (belowK_b (w:=w) (Nat.le_refl _) W D _ (.deferred none) (by omega) hK rfl rfl))
  have HCP:=Lib.hid (rJ h3)
  clear h1 h3 h4 hlen
  gi_wp2
  refine⟨by simp,.inl ⟨_,_,rfl,run_takeDeferred hK,?_⟩⟩
  refine⟨.tuple #[v,.int .i64 0],?_,⟨v,rfl,Ba.Reads.kC wW rfl HROW.out,HBD.out,HCP.out⟩⟩
  simp[results,Tryz.f8,go_sem]
 case stop =>
  rintro D pre W hD hpre h hK
  exact absurd h id
theorem rS:AQ (.slice none 0 0):=fun _ _ _ e=>by
 injection e with _ e1 e2
 rw[← e1,← e2]
 exact⟨Nat.le_refl _,Nat.zero_le _⟩
set_option maxRecDepth 100000 in
set_option maxHeartbeats 4000000 in
theorem ZM (Ld:lJ) (v:Value) (t:List Nd) (off:Nat) (ht:t.length≤9000) (hf:Fit t) (hx:∀ x ∈ t,x.text.size≤9000) (hs:gA t≤100000) (hcp:AQ v) (w:World) (hL:Ka.Laid w) (hv:aS off w w.heap.size v t) :
  Calls Tryz.prog 8 #[v] w (Y9 (LF t) ((DM t:Nat):Int) w):=by
 obtain⟨q,hq⟩:∃ q:Nat,aL t=q:=⟨_,rfl⟩
 by_cases hc:q=0
 ·subst hc
  cases hi:zP t with
  | true =>
   have e1:DM t=0:=FK hi
   have e2:LF t=rN t:=by unfold LF;rw[if_pos e1]
   rw[e1,e2]
   obtain⟨A,c,rfl,hA⟩:=id hv
   obtain⟨h1,h2⟩:=hcp _ _ _ rfl
   exact aCO Ld A c t off hi ht hf hx hs h1 h2 w hL hv
  | false =>
   have e1:DM t=1:=by unfold DM;rw[if_neg (by rw[hq];decide),if_pos hi]
   have e2:LF t=[]:=by unfold LF;rw[if_neg (by rw[e1];decide)]
   rw[e1,e2]
   have HCH:=Lib.hid (sX Ld t off v ht hf hx w hL hv 0 (by rw[hq];rfl))
   have HIS:=Lib.hid (fun W hLW hvW=>OY Ld v t off ht hf hx false hi W hLW hvW)
   have HL:=Lib.hid hL
   have hLN:=hL.1
   have HV:=Lib.hid hv
   clear hL hv hq hi e1 e2 hf hx hs hcp ht
   go_enter Tryz.func8,Tryz.ntmps8
   go_wp2_with fail
   refine HCH.out.mono ?_
   rintro e w1 ⟨rfl,hb1⟩
   have HB1:=Lib.hid hb1
   have HV1:=Lib.hid ((HV.out.below hb1).mono hb1.size)
   have HL1:=Lib.hid (HL.out.below hb1 hLN)
   clear hb1
   go_wp2_with fail
   refine(HIS.out _ HL1.out HV1.out).mono ?_
   rintro e w2 ⟨rfl,hb2⟩
   have HB2:=Lib.hid (Ba.chain HB1.out HB1.out.size hb2)
   clear hb2
   go_wp2
   go_ret2
   exact⟨_,rfl,Ba.Reads.nil _ _ _,HB2.out,rS⟩
 ·have e1:DM t=q:=by unfold DM;rw[if_pos (by rw[hq];exact hc),hq]
  have e2:LF t=[]:=by unfold LF;rw[if_neg (by rw[e1];exact hc)]
  rw[e1,e2]
  have z0:(((q:Nat):Int)==0)=false:=beq_eq_false_iff_ne.2 (by omega)
  have z1:(((q:Nat):Int) != 0)=true:=by rw[bne,z0];rfl
  have HCH:=Lib.hid (sX Ld t off v ht hf hx w hL hv ((q:Nat):Int) (by rw[hq]))
  clear hL hv hq e1 e2 hf hx hs hcp ht hc
  go_enter Tryz.func8,Tryz.ntmps8
  go_wp2_with fail
  refine HCH.out.mono ?_
  rintro e w1 ⟨rfl,hb1⟩
  have HB1:=Lib.hid hb1
  clear hb1
  go_wp2
  go_ret2
  exact⟨_,rfl,Ba.Reads.nil _ _ _,HB1.out,rS⟩
end Go.Proofs.YtgpihfacmpbpaaaGreatDoor.Fl
