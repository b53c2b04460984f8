/-
  Put together: CoE, CoF, CoG.
-/
import Derived.Test.YtmldpkigfhoalaaGreatDoorPh
import Derived.Test.YtmldpkigfhoalaaGreatDoorLaE
import Derived.Test.YtmldpkigfhoalaaGreatDoorNh
import Derived.Test.YtmldpkigfhoalaaGreatDoorLaF
import Derived.Laws.EntriesVeiled
import Derived.Test.YtmldpkigfhoalaaGreatDoorOc
namespace Go.Proofs.YtmldpkigfhoalaaGreatDoor.Co
open Go.RowKit Go.Shelf Tr Nu Cn
attribute [local go_sem] Oper.semAt_some
def Rd (n0:Nat) (v:Value) (t:List Nd) (W:World):Prop :=
 ∃ A c off,v=.slice A t.length c∧t.length≤c∧c≤maxLen∧(0<t.length→∃ g,A=some ⟨g,off,none⟩∧g<n0∧∀ k x,t[k]?=some x→∀ j u,(cN x)[j]?=some u→W.cell? ⟨g,off+(k * 4+j),none⟩=some u)
theorem Rd.below {n0:Nat} {v:Value} {t:List Nd} {W W':World} (h:Rd n0 v t W) (hb:Below n0 W W'):Rd n0 v t W':=by
 obtain ⟨A,c,off,rfl,h1,h2,h3⟩:=h
 refine ⟨A,c,off,rfl,h1,h2,fun h0=>?_⟩
 obtain ⟨g,rfl,hg,hk⟩:=h3 h0
 exact ⟨g,rfl,hg,fun k x hx j u hu=>(hb.cell (p:=⟨g,off+(k * 4+j),none⟩) hg).trans (hk k x hx j u hu)⟩
theorem rd_part {n0 g off n c k:Nat} {W:World} {t a b:List Nd} (hcell:∀ k x,t[k]?=some x→∀ j u,(cN x)[j]?=some u→W.cell? ⟨g,off+(k * 4+j),none⟩=some u) (hg:g<n0) (hn:t.length=n) (hc:n≤c) (hm:c≤maxLen) (ht:t=a++b) (hk:a.length=k) :
  Rd n0 (.slice (some ⟨g,off,none⟩) k c) a W∧Rd n0 (.slice (some ⟨g,off+k * 4,none⟩) (n - k) (c - k)) b W:=by
 subst ht hk
 rw [List.length_append] at hn
 refine ⟨⟨_,c,off,rfl,by omega,hm,fun _=>⟨g,rfl,hg,fun i x hx j u hu=>hcell i x ?_ j u hu⟩⟩,⟨_,c - a.length,off+a.length * 4,by rw [show n - a.length=b.length by omega],by omega,by omega,fun _=>⟨g,rfl,hg,fun i x hx j u hu=>?_⟩⟩⟩
 ·rw [List.getElem?_append_left (List.getElem?_eq_some_iff.1 hx).1];exact hx
 ·have:=hcell (a.length+i) x (by rw [List.getElem?_append_right (by omega),show a.length+i - a.length=i by omega];exact hx) j u hu
  rw [show off+a.length * 4+(i * 4+j)=off+((a.length+i) * 4+j) by rw [Nat.add_mul];omega]
  exact this
theorem rd_nil (n0:Nat) (A:Option Addr) (c:Nat) (hm:c≤maxLen) (W:World):Rd n0 (.slice A 0 c) [] W:=⟨A,c,0,rfl,Nat.zero_le _,hm,fun h=>absurd h (by simp)⟩
theorem yield_more {m m' l:Nat} {args:Array Value} {W:World} {R:Ending→World→Prop} (h:YieldAt Fence.wide m Tryz.prog l args W R):YieldAt Fence.wide m' Tryz.prog l args W R:=by
 obtain ⟨fn,tmps,assign,body,hy,h1,h2⟩:=h
 exact ⟨fn,tmps,assign,body,hy,h1,fun c cs _=>h2 c cs (fun _ h=>by simp [Fence.wide] at h)⟩
structure Yl (l n0:Nat) (ws:List Lx.Lx) (J Jx:List Lx.Lx→World→Prop):Prop where
 jb:∀ pre V V',Below V.heap.size V V'→J pre V→J pre V'
 y:∀ m pre x W,J pre W→pre++[x] <+: ws→YieldAt Fence.wide m Tryz.prog l (Lx.encX x) W fun e W' =>
  (e=.returned (.bool true)∧J (pre++[x]) W'∧Below n0 W W')∨(e=.returned (.bool false)∧Jx (pre++[x]) W')
def Goes (n0:Nat) (ws:List Lx.Lx) (J Jx:List Lx.Lx→World→Prop) (q0:List Lx.Lx) (W:World) (e:Ending) (W':World):Prop :=
 (e=.returned (.bool true)∧J q0 W'∧Below n0 W W')∨(e=.returned (.bool false)∧∃ q,q <+: ws∧Jx q W')
def lenOf (v:Value):Nat:=match v with | .slice _ n _=>n | _=>0
def PO (l n0:Nat) (ws:List Lx.Lx) (J Jx:List Lx.Lx→World→Prop) (t:List Nd) (L:List Lx.Lx):Prop :=
 ∀ (n:Nat) (pre q0:List Lx.Lx) (v:Value) (W:World),q0=pre++L→q0 <+: ws→J pre W→n0≤W.heap.size→Rd n0 v t W →
  CallsIn Fence.wide n Tryz.prog 62 #[v,.func (.yield l) #[] #[]] W (Goes n0 ws J Jx q0 W)
section
variable {l n0:Nat} {ws:List Lx.Lx} {J Jx:List Lx.Lx→World→Prop}
theorem pre_of {a b c:List Lx.Lx} (h:a++b <+: c):a <+: c:=(List.prefix_append a b).trans h
set_option maxRecDepth 100000 in
set_option maxHeartbeats 8000000 in
theorem one_text (Y:Yl l n0 ws J Jx) (n:Nat) (pre:List Lx.Lx) (s:ByteArray) (pl:Int) (hw:pre++[txL s] <+: ws) (W:World) (hJ:J pre W) (hn0:n0≤W.heap.size) (g off c:Nat)
  (hcell:∀ j u,(cN ⟨46,s,pl,1⟩)[j]?=some u→W.cell? ⟨g,off+j,none⟩=some u) (_hc:1≤c) :
  CallsIn Fence.wide n Tryz.prog 96 #[.slice (some ⟨g,off,none⟩) 1 c,.func (.yield l) #[] #[]] W (Goes n0 ws J Jx (pre++[txL s]) W):=by
 have c0:W.cell? ⟨g,off,none⟩=some (.int .u8 46):=hcell 0 _ rfl
 have c1:W.cell? ⟨g,off+1,none⟩=some (.string s):=hcell 1 _ rfl
 have c2:W.cell? ⟨g,off+2,none⟩=some (.int .i64 pl):=hcell 2 _ rfl
 have c3:W.cell? ⟨g,off+3,none⟩=some (.int .i64 1):=hcell 3 _ rfl
 have hb0:Below W.heap.size W (W.alloc (.cells #[.int .u8 46,.string s,.int .i64 pl,.int .i64 1] 33)):=(Below.refl _ W).alloc (Nat.le_refl _) _
 obtain ⟨fn,tmps,assign,body,hy,hRd⟩:=Y.y (n - 1) pre (txL s) _ (Y.jb _ _ _ hb0 hJ) hw
 have hy:(Instr.yield l #[.agg #[.int .i64 1,.int .u8 0,.string s,.int .i64 0]]).run Tryz.prog _=_:=hy
 have HRd:=Lib.hid hRd
 have HB:=Lib.hid hb0
 have HW:=Lib.hid hw
 have HN:=Lib.hid hn0
 clear hRd hb0 hw hJ hcell Y hn0
 have hfn:∀ f,Fence.wide.fn f:=fun _=>trivial
 refine callsIn_of_wp Tryz.func96 rfl trivial ?_ rfl
 simp only [Tryz.ntmps96,List.size_toArray,List.length_cons,List.length_nil,Nat.reduceAdd,Nat.reduceSub,Array.replicate_succ,Array.replicate_zero,List.push_toArray,List.append_toArray,List.nil_append,List.cons_append]
 gi_wp2
 refine ⟨fun h=>Bool.noConfusion h,HRd.out.mono ?_⟩
 rintro e W6 (⟨rfl,hJ6,hk6⟩ | ⟨rfl,hJx6⟩)
 ·gi_wp2
  go_ret
  exact .inl ⟨rfl,hJ6,(HB.out.mono HN.out).trans hk6⟩
 ·gi_wp2
  go_ret
  exact .inr ⟨rfl,_,HW.out,hJx6⟩
set_option maxRecDepth 100000 in
set_option maxHeartbeats 8000000 in
theorem one_node (Y:Yl l n0 ws J Jx) {G:List Nd} {M:List Lx.Lx} (hG:PO l n0 ws J Jx G M) (n:Nat) (pre:List Lx.Lx) (k:Nat) (hk:k≠46) (_hk2:k<256) (pl:Int) (q0:List Lx.Lx) (hq0:q0=pre++opL k::(M++[clL])) (hw:q0 <+: ws) (W:World) (hJ:J pre W) (hn0:n0≤W.heap.size) (g off m c:Nat) (hgn:g<n0) (hm:G.length=m) (hmc:m+1≤c) (hcm:c≤maxLen)
  (hcell:∀ i x,(⟨k,emptyS,pl,((m:Nat):Int)+1⟩::G)[i]?=some x→∀ j u,(cN x)[j]?=some u→W.cell? ⟨g,off+(i * 4+j),none⟩=some u) :
  CallsIn Fence.wide n Tryz.prog 96 #[.slice (some ⟨g,off,none⟩) (m+1) c,.func (.yield l) #[] #[]] W (Goes n0 ws J Jx q0 W):=by
 have c0:W.cell? ⟨g,off,none⟩=some (.int .u8 (k:Int)):=hcell 0 _ rfl 0 _ rfl
 have c1:W.cell? ⟨g,off+1,none⟩=some (.string emptyS):=hcell 0 _ rfl 1 _ rfl
 have c2:W.cell? ⟨g,off+2,none⟩=some (.int .i64 pl):=hcell 0 _ rfl 2 _ rfl
 have c3:W.cell? ⟨g,off+3,none⟩=some (.int .i64 (((m:Nat):Int)+1)):=hcell 0 _ rfl 3 _ rfl
 have hrd:∀ V,Below n0 W V→(c=1→Rd n0 (.slice (some ⟨g,off,none⟩) 0 0) G V)∧(c≠1→Rd n0 (.slice (some ⟨g,off+4,none⟩) m (c - 1)) G V):=fun V hV=>⟨fun e=>by
   obtain rfl:G=[]:=List.eq_nil_of_length_eq_zero (by omega)
   exact rd_nil n0 _ 0 (by unfold maxLen;omega) V,fun e=>(rd_part (a:=[_]) (b:=G) (k:=1) (n:=m+1) hcell hgn (by simp [hm]) hmc hcm rfl rfl).2.below hV⟩
 have hb0:Below W.heap.size W (W.alloc (.cells #[.int .u8 (k:Int),.string emptyS,.int .i64 pl,.int .i64 (((m:Nat):Int)+1)] 33)):=(Below.refl _ W).alloc (Nat.le_refl _) _
 have hw1:pre++[opL k] <+: ws:=pre_of (b:=M++[clL]) (by rw [List.append_assoc];rw [hq0] at hw;exact hw)
 have hw2:(pre++[opL k])++M <+: ws:=pre_of (b:=[clL]) (by rw [hq0] at hw;simpa using hw)
 have hw3:((pre++[opL k])++M)++[clL] <+: ws:=by rw [hq0] at hw;simpa using hw
 have hq3:q0=((pre++[opL k])++M)++[clL]:=by rw [hq0];simp
 have hk0:(((k:Nat):Int)==46)=false:=beq_eq_false_iff_ne.2 (by omega)
 obtain ⟨fn,tmps,assign,body,hy,hRd⟩:=Y.y (n - 1) pre (opL k) _ (Y.jb _ _ _ hb0 hJ) hw1
 have hy:(Instr.yield l #[.agg #[.int .i64 2,.int .u8 (k:Int),.string { data:=#[] },.int .i64 0]]).run Tryz.prog _=_:=hy
 have HRd:=Lib.hid hRd
 have HB:=Lib.hid (hb0.mono hn0)
 have HN:=Lib.hid hn0
 have HRW:=Lib.hid hrd
 have HY:=Lib.hid Y
 have HG:=Lib.hid hG
 have HW1:=Lib.hid hw1
 have HW2:=Lib.hid hw2
 have HW3:=Lib.hid hw3
 have HQ:=Lib.hid hq3
 have hm9:m≤maxLen:=by omega
 unfold maxLen at hm9
 clear hRd hb0 hw hw1 hw2 hw3 hJ hcell Y hn0 hrd hq0 hq3 hG hm
 have hfn:∀ f,Fence.wide.fn f:=fun _=>trivial
 refine callsIn_of_wp Tryz.func96 rfl trivial ?_ rfl
 simp only [Tryz.ntmps96,List.size_toArray,List.length_cons,List.length_nil,Nat.reduceAdd,Nat.reduceSub,Array.replicate_succ,Array.replicate_zero,List.push_toArray,List.append_toArray,List.nil_append,List.cons_append]
 gi_wp2
 refine ⟨fun h=>Bool.noConfusion h,HRd.out.mono ?_⟩
 clear hy
 rintro e W1 (⟨rfl,hJ1,hk1⟩ | ⟨rfl,hJx1⟩)
 ·have HJ1:=Lib.hid hJ1
  have HB1:=Lib.hid (HB.out.trans hk1)
  have HR1:=Lib.hid (HRW.out W1 HB1.out)
  have HN1:=Lib.hid (Nat.le_trans HN.out HB1.out.size)
  clear hJ1 hk1 c0 c1 c2 c3
  by_cases hc1:c=1
  ·subst hc1
   obtain rfl:m=0:=by omega
   have HR2:=Lib.hid (HR1.out.1 rfl)
   clear HR1 HRW
   gi_wp2
   refine ⟨fun h=>Bool.noConfusion h,(HG.out _ (pre++[opL k]) _ _ _ rfl HW2.out HJ1.out HN1.out HR2.out).mono ?_⟩
   rintro e W2 (⟨rfl,hJ2,hk2⟩ | ⟨rfl,hJx2⟩)
   ·obtain ⟨fn2,tmps2,assign2,body2,hy2,hRd2⟩:=HY.out.y (n - 1) _ clL W2 hJ2 HW3.out
    have hy2:(Instr.yield l #[.agg #[.int .i64 3,.int .u8 0,.string { data:=#[] },.int .i64 0]]).run Tryz.prog _=_:=hy2
    have HRd2:=Lib.hid hRd2
    have HB2:=Lib.hid (HB1.out.trans hk2)
    clear hRd2 hJ2 hk2
    gi_wp2
    refine ⟨fun h=>Bool.noConfusion h,HRd2.out.mono ?_⟩
    rintro e W3 (⟨rfl,hJ3,hk3⟩ | ⟨rfl,hJx3⟩)
    ·gi_wp2
     go_ret
     exact .inl ⟨rfl,by rw [HQ.out];exact hJ3,HB2.out.trans hk3⟩
    ·gi_wp2
     go_ret
     exact .inr ⟨rfl,_,HW3.out,hJx3⟩
   ·gi_wp2
    go_ret
    exact .inr ⟨rfl,hJx2⟩
  ·have HR2:=Lib.hid (HR1.out.2 hc1)
   have hc2:1<c:=by omega
   clear HR1 HRW hc1
   gi_wp2
   refine ⟨fun h=>Bool.noConfusion h,(HG.out _ (pre++[opL k]) _ _ _ rfl HW2.out HJ1.out HN1.out HR2.out).mono ?_⟩
   rintro e W2 (⟨rfl,hJ2,hk2⟩ | ⟨rfl,hJx2⟩)
   ·obtain ⟨fn2,tmps2,assign2,body2,hy2,hRd2⟩:=HY.out.y (n - 1) _ clL W2 hJ2 HW3.out
    have hy2:(Instr.yield l #[.agg #[.int .i64 3,.int .u8 0,.string { data:=#[] },.int .i64 0]]).run Tryz.prog _=_:=hy2
    have HRd2:=Lib.hid hRd2
    have HB2:=Lib.hid (HB1.out.trans hk2)
    clear hRd2 hJ2 hk2
    gi_wp2
    refine ⟨fun h=>Bool.noConfusion h,HRd2.out.mono ?_⟩
    rintro e W3 (⟨rfl,hJ3,hk3⟩ | ⟨rfl,hJx3⟩)
    ·gi_wp2
     go_ret
     exact .inl ⟨rfl,by rw [HQ.out];exact hJ3,HB2.out.trans hk3⟩
    ·gi_wp2
     go_ret
     exact .inr ⟨rfl,_,HW3.out,hJx3⟩
   ·gi_wp2
    go_ret
    exact .inr ⟨rfl,hJx2⟩
 ·gi_wp2
  go_ret
  exact .inr ⟨rfl,_,HW1.out,hJx1⟩
theorem tw_first {R:List Nd} {L:List Lx.Lx} (h:Tw R L) (h0:0<R.length) :
  (∃ s pl R' L',R=[⟨46,s,pl,1⟩]++R'∧L=txL s::L'∧Tw R' L')∨(∃ k pl G R' M L',R=(⟨k,emptyS,pl,(G.length:Int)+1⟩::G)++R'∧L=opL k::(M++clL::L')∧Tw G M∧Tw R' L'∧k≠46):=by
 cases h with
 | nil=>simp at h0
 | text s pl h=>exact .inl ⟨s,pl,_,_,rfl,rfl,h⟩
 | node k pl h1 h2 hk=>exact .inr ⟨k,pl,_,_,_,_,rfl,rfl,h1,h2,hk⟩
theorem one_any (Y:Yl l n0 ws J Jx) (N:Nat) (IH:∀ (G:List Nd) (M:List Lx.Lx),G.length<N→(∀ x ∈ G,x.kind<256)→Tw G M→PO l n0 ws J Jx G M) {R:List Nd} {L:List Lx.Lx} (hT:Tw R L) (h0:0<R.length) (hN:R.length≤N) (hkk:∀ x ∈ R,x.kind<256) :
  ∃ (k:Nat) (a R':List Nd) (L1 L':List Lx.Lx) (x:Nd),R=a++R'∧a.length=k∧1≤k∧L=L1++L'∧Tw R' L'∧R[0]?=some x∧x.size=((k:Nat):Int)∧∀ (n:Nat) (pre:List Lx.Lx) (W:World) (g off c:Nat),pre++L1 <+: ws→J pre W→n0≤W.heap.size→g<n0→k≤c→c≤maxLen →
   (∀ i x,R[i]?=some x→∀ j u,(cN x)[j]?=some u→W.cell? ⟨g,off+(i * 4+j),none⟩=some u) →
   CallsIn Fence.wide n Tryz.prog 96 #[.slice (some ⟨g,off,none⟩) k c,.func (.yield l) #[] #[]] W (Goes n0 ws J Jx (pre++L1) W):=by
 rcases tw_first hT h0 with ⟨s,pl,R',L',rfl,rfl,hT'⟩ | ⟨k,pl,G,R',M,L',rfl,rfl,hG,hT',hk⟩
 ·refine ⟨1,[_],R',[txL s],L',_,rfl,rfl,Nat.le_refl _,rfl,hT',rfl,rfl,fun n pre W g off c hw hJ hn hg hc _ hcell=>?_⟩
  exact one_text Y n pre s pl hw W hJ hn g off c (fun j u hu=>by have:=hcell 0 _ rfl j u hu;rwa [Nat.zero_mul,Nat.zero_add] at this) hc
 ·have hGl:G.length<N:=by simp only [List.length_append,List.length_cons] at hN;omega
  refine ⟨G.length+1,_,R',opL k::(M++[clL]),L',_,rfl,rfl,by omega,by simp,hT',rfl,by simp,fun n pre W g off c hw hJ hn hg hc hcm hcell=>?_⟩
  refine one_node Y (IH G M hGl (fun x hx=>hkk x (by simp [hx])) hG) n pre k hk (hkk ⟨k,emptyS,pl,(G.length:Int)+1⟩ (by simp)) pl _ rfl hw W hJ hn g off G.length c hg rfl hc hcm (fun i x hx j u hu=>hcell i x ?_ j u hu)
  rw [List.getElem?_append_left (List.getElem?_eq_some_iff.1 hx).1];exact hx
set_option maxRecDepth 100000 in
set_option maxHeartbeats 8000000 in
theorem po_step (Y:Yl l n0 ws J Jx) (t:List Nd) (L:List Lx.Lx) (hk256:∀ x ∈ t,x.kind<256) (hT:Tw t L) (IH:∀ (G:List Nd) (M:List Lx.Lx),G.length<t.length→(∀ x ∈ G,x.kind<256)→Tw G M→PO l n0 ws J Jx G M):PO l n0 ws J Jx t L:=by
 intro n pre q0 v W hq hw hJ hn0 hrd
 have HW:=Lib.hid hw
 have HY:=Lib.hid Y
 have HIH:=Lib.hid IH
 have HN:=Lib.hid hn0
 have h1:∃ A c,v=.slice A t.length c:=by
  obtain ⟨A,c,-,rfl,-⟩:=hrd
  exact ⟨A,c,rfl⟩
 obtain ⟨A,c,rfl⟩:=h1
 have HRel:=Lib.hid (show ∃ (R:List Nd) (LR pre':List Lx.Lx),Tw R LR∧pre'++LR=q0∧R.length≤t.length∧(∀ x ∈ R,x.kind<256)∧J pre' W∧Below n0 W W∧Rd n0 (.slice A t.length c) R W from ⟨t,L,pre,hT,hq.symm,Nat.le_refl _,hk256,hJ,Below.refl _ _,hrd⟩)
 have hlm:t.length≤maxLen:=by
  obtain ⟨_,_,_,h,h1,h2,-⟩:=hrd
  injection h with _ _ h
  omega
 clear hw Y IH hn0 hT hq hk256 hJ hrd
 have hfn:∀ f,Fence.wide.fn f:=fun _=>trivial
 refine callsIn_of_wp Tryz.func62 rfl trivial ?_ rfl
 simp only [Tryz.ntmps62,List.size_toArray,List.length_cons,List.length_nil,Nat.reduceAdd,Nat.reduceSub,Array.replicate_succ,Array.replicate_zero,List.push_toArray,List.append_toArray,List.nil_append,List.cons_append]
 gi_wp2
 gi_loopw [0] (fun t0 wr=>∃ (R:List Nd) (LR pre':List Lx.Lx),Tw R LR∧pre'++LR=q0∧R.length≤t.length∧(∀ x ∈ R,x.kind<256)∧J pre' wr∧Below n0 W wr∧Rd n0 t0 R wr) (fun t0 _=>lenOf t0)
 case atStart=>exact HRel.out
 case round =>
  obtain ⟨R,LR,pre',hT,hq,hR,hk,hJ,hB,hrd⟩:=hrel
  obtain ⟨A,c,off,rfl,hc,hm,hcell⟩:=hrd
  by_cases h0:0<R.length
  ·obtain ⟨g,rfl,hg,hcell⟩:=hcell h0
   obtain ⟨k,a,R',L1,L',x,ha,hak,hk1,hL,hT',hx,hxs,hone⟩:=one_any HY.out t.length HIH.out hT h0 hR hk
   have hwn:n0≤wr.heap.size:=Nat.le_trans HN.out hB.size
   have c3:=hcell 0 x hx 3 _ rfl
   rw [Nat.zero_mul,Nat.zero_add,hxs] at c3
   obtain ⟨r,hr⟩:∃ r,R.length=r:=⟨_,rfl⟩
   have hr2:=hr
   rw [ha,List.length_append,hak] at hr2
   have hkr:k≤r:=by omega
   rw [hr] at hc hR h0 ⊢
   have HC:=Lib.hid (hone (n - 1) pre' wr g off c (by rw [hL,← List.append_assoc] at hq;rw [← hq] at HW;exact pre_of HW.out) hJ hwn hg (by omega) hm hcell)
   have HP:=Lib.hid (fun V (hV:Below n0 wr V)=>(rd_part (a:=a) (b:=R') (k:=k) (n:=r) hcell hg hr hc hm ha hak).2.below hV)
   have HR':=Lib.hid (show ∀ x ∈ R',x.kind<256 from fun x hx=>hk x (by rw [ha];simp [hx]))
   have HQ:=Lib.hid (show (pre'++L1)++L'=q0 by rw [List.append_assoc,← hL];exact hq)
   have HT:=Lib.hid hT'
   have HBB:=Lib.hid hB
   have HLEN:=Lib.hid (show R'.length=r - k by omega)
   have HPR:=Lib.hid (show pre'++L1 <+: ws by have h:=HQ.out;rw [← h] at HW;exact pre_of HW.out)
   have hm9:c≤maxLen:=hm
   unfold maxLen at hm9
   have hk0:0≤(k:Int):=by omega
   clear hone hcell hr hT' hT hq hk hL ha hak hx hxs hB hr2 hJ hwn hm
   gi_wp2
   refine ⟨fun h=>Bool.noConfusion h,HC.out.mono ?_⟩
   rintro e W1 (⟨rfl,hJ1,hb1⟩ | ⟨rfl,q,hq,hx1⟩)
   ·have HJ1:=Lib.hid hJ1
    have HB1:=Lib.hid (HBB.out.trans hb1)
    have HP1:=Lib.hid (HP.out W1 hb1)
    clear hJ1 hb1 c3
    by_cases hkc:k=c
    ·subst hkc
     obtain rfl:r=k:=by omega
     have HRN:=Lib.hid (List.eq_nil_of_length_eq_zero (by have:=HLEN.out;omega:R'.length=0))
     gi_wp2
     go_roundw
     case rel=>exact ⟨R',L',_,HT.out,HQ.out,by have:=HLEN.out;omega,HR'.out,HJ1.out,HB1.out,by rw [HRN.out];exact rd_nil n0 _ 0 (by unfold maxLen;omega) _⟩
     case measure=>simp [lenOf];omega
    ·have hkc2:k<c:=by omega
     gi_wp2
     go_roundw
     case rel=>exact ⟨R',L',_,HT.out,HQ.out,by have:=HLEN.out;omega,HR'.out,HJ1.out,HB1.out,HP1.out⟩
     case measure=>simp [lenOf];omega
   ·gi_wp2
    go_ret
    exact .inr ⟨rfl,q,hq,hx1⟩
  ·have hz:R.length=0:=by omega
   obtain rfl:=List.eq_nil_of_length_eq_zero hz
   have HQ:=Lib.hid (show pre'=q0 by
    cases hT
    rw [← hq,List.append_nil])
   have HJ:=Lib.hid hJ
   have HBB:=Lib.hid hB
   clear hT hq hJ hB hcell hk hR hz h0 hc hm
   gi_wp2
   go_ret
   exact .inl ⟨rfl,by rw [← HQ.out];exact HJ.out,HBB.out⟩
theorem po_any (Y:Yl l n0 ws J Jx):∀ (N:Nat) (t:List Nd) (L:List Lx.Lx),t.length≤N→(∀ x ∈ t,x.kind<256)→Tw t L→PO l n0 ws J Jx t L
 | 0,t,L,hN,hk,hT=>po_step Y t L hk hT (fun G M hG=>absurd hG (by omega))
 | N+1,t,L,hN,hk,hT=>po_step Y t L hk hT (fun G M hG hkG hTG=>po_any Y N G M (by omega) hkG hTG)
end
set_option maxRecDepth 100000 in
set_option maxHeartbeats 4000000 in
theorem parts_hands (n n0 B:Nat) (v:Value) (t:List Nd) (L:List Lx.Lx) (hT:Tw t L) (hk:∀ x ∈ t,x.kind<256) (w:World) (hn0:n0≤w.heap.size) (hrd:Rd n0 v t w) (hb:Boxed w B 22 v) :
  Ra.Hands Tryz.prog n 61 #[] #[.pointer (some ⟨B,0,none⟩)] (fun _=>False) Lx.encX (fun W W'=>Below n0 W W') L (fun _=>True) w:=by
 intro l J Jx W hW _ hJb hY h0
 have Y:Yl l n0 L J Jx:=⟨hJb,fun m pre x V hJ hp=>yield_more (hY pre x V hJ hp)⟩
 have HB:=Lib.hid (show Boxed W B 22 v from (hW.block B hb.lt).trans hb)
 have HC:=Lib.hid (po_any Y t.length t L (Nat.le_refl _) hk hT (n - 1) [] L v W rfl (List.prefix_refl _) h0 (Nat.le_trans hn0 hW.size) (hrd.below (hW.mono hn0)))
 have c0:=HB.out.cell
 clear hY hJb hW h0 Y hT hk hn0 hrd hb
 have hfn:∀ f,Fence.wide.fn f:=fun _=>trivial
 refine callsIn_of_wp Tryz.func61 rfl trivial ?_ rfl
 simp only [Tryz.ntmps61,List.size_toArray,List.length_cons,List.length_nil,Nat.reduceAdd,Nat.reduceSub,Array.replicate_succ,Array.replicate_zero,List.push_toArray,List.append_toArray,List.nil_append,List.cons_append]
 gi_wp2
 refine ⟨fun h=>Bool.noConfusion h,HC.out.mono ?_⟩
 rintro e W1 (⟨rfl,hJ1,hb1⟩ | ⟨rfl,q,hq,hx1⟩)
 ·gi_wp2
  go_end0
  exact ⟨⟨_,rfl⟩,.inl ⟨hJ1,trivial⟩⟩
 ·gi_wp2
  go_end0
  exact ⟨⟨_,rfl⟩,.inr ⟨q,hq,hx1⟩⟩
end Go.Proofs.YtmldpkigfhoalaaGreatDoor.Co
namespace Go.Proofs.YtmldpkigfhoalaaGreatDoor.Co
open Go.RowKit Go.Shelf Tr Nu Cn
attribute [local go_sem] Oper.semAt_some
def WI (w:World) (pre:List Lx.Lx) (W:World):Prop :=
 (wrS pre).size≤8192∧IsWr (w.heap.size+1+1+1) (FV (w.heap.size+1+1)) (wrS pre) W∧Boxed W (w.heap.size+1+1) 3 (.int .i64 ((depF 0 pre:Nat):Int))∧Boxed W w.heap.size 9 (.string { data:=#[] })∧Boxed W (w.heap.size+1) 25 (.int .i64 0)∧Below w.heap.size w W
def WX (w:World) (pre:List Lx.Lx) (W:World):Prop :=
 8192<(wrS pre).size∧Boxed W w.heap.size 9 (.string { data:=#[] })∧Boxed W (w.heap.size+1) 25 (.int .i64 4)∧Below w.heap.size w W
theorem WI.turn {w:World} {pre:List Lx.Lx} {W W':World} {row:Option Nat} (h:WI w pre W) (hg:W.grownBy W' row) (hr:∀ r,row=some r→w.heap.size+4≤r∧∃ o:Obj,W.heap[r]?=some o∧o.isCells=false):WI w pre W':=by
 obtain ⟨h0,h1,h2,h3,h4,h5⟩:=h
 have hn:∀ k,k<w.heap.size+4→some k≠row:=fun k hk e=>by have:=(hr _ e.symm).1;omega
 exact ⟨h0,h1.kept hg (fun r e=>.inr (hr r e).2),h2.kept hg (hn _ (by omega)),h3.kept hg (hn _ (by omega)),h4.kept hg (hn _ (by omega)),h5.grown hg h5.size (fun j ej=>by have:=(hr _ ej).1;omega)⟩
theorem WI.below {w:World} {pre:List Lx.Lx} {W W':World} (h:WI w pre W) (hb:Below W.heap.size W W'):WI w pre W':=by
 obtain ⟨h0,h1,h2,h3,h4,h5⟩:=h
 have hg:=grown_below hb none
 exact ⟨h0,h1.kept hg (fun r e=>by cases e),h2.kept hg (by simp),h3.kept hg (by simp),h4.kept hg (by simp),h5.trans (hb.mono h5.size)⟩
theorem WX.turn {w:World} {pre:List Lx.Lx} {W W':World} {row:Option Nat} (h:WX w pre W) (hg:W.grownBy W' row) (hr:∀ r,row=some r→w.heap.size+4≤r):WX w pre W':=by
 obtain ⟨h0,h1,h2,h3⟩:=h
 have hn:∀ k,k<w.heap.size+4→some k≠row:=fun k hk e=>by have:=hr _ e.symm;omega
 exact ⟨h0,h1.kept hg (hn _ (by omega)),h2.kept hg (hn _ (by omega)),h3.grown hg h3.size (fun j ej=>by have:=hr _ ej;omega)⟩
theorem teller_at (w:World):Calls Tryz.prog 29 #[] w fun e w'=>e=.returned (.func (.func 59) #[] #[.pointer (some ⟨w.heap.size,0,none⟩)])∧w'=w.alloc (.cells #[.int .i64 0] 3):=by
 go_enter Tryz.func29,Tryz.ntmps29
 go_wp2
 go_ret
 exact ⟨rfl,rfl⟩
theorem parts_at (A:Option Addr) (m c:Nat) (w:World):Calls Tryz.prog 30 #[.slice A m c] w fun e w'=>e=.returned (.func (.func 61) #[] #[.pointer (some ⟨w.heap.size,0,none⟩)])∧w'=w.alloc (.cells #[.slice A m c] 22):=by
 go_enter Tryz.func30,Tryz.ntmps30
 go_wp2
 go_ret
 exact ⟨rfl,rfl⟩
def AsP (w:World) (A:Option Addr) (n c:Nat) (x:Lx.Lx) (a:Act) (W:World):Prop :=
 ∃ g,w.heap.size+4≤g∧Lx.PX g x W∧a={ tmps:=#[.slice A n c,undef,.pointer (some ⟨w.heap.size,0,none⟩),.pointer (some ⟨w.heap.size+1,0,none⟩),.pointer (some ⟨w.heap.size+1+1+1,0,none⟩),.pointer (some ⟨g,0,none⟩),
   .func (.func 59) #[] #[.pointer (some ⟨w.heap.size+1+1,0,none⟩)],.agg #[.pointer none,.slice none 0 0,.func (.func 59) #[] #[.pointer (some ⟨w.heap.size+1+1,0,none⟩)]],.slice A n c,
   .func (.func 61) #[] #[.pointer (some ⟨w.heap.size+1+1+1+1,0,none⟩)],Lx.aggX x,undef,undef,undef,undef,undef],defers:=[] }
set_option maxRecDepth 100000 in
set_option maxHeartbeats 8000000 in
theorem written_any (A:Option Addr) (c:Nat) (t:List Nd) (L:List Lx.Lx) (hW:Wf t L) (ht:t.length≤9000) (hc:t.length≤c) (hcm:c≤maxLen) (hk:∀ x ∈ t,x.kind<256) (hx:∀ x ∈ t,x.text.size≤729000000000) (off:Nat) (a:ByteArray) (z:Int) (haz:(8192<(canV t).size→a={ data:=#[] }∧z=4)∧((canV t).size≤8192→a=canV t∧z=0)) (w:World) (hv:ReadsN off w w.heap.size (.slice A t.length c) t) :
  Calls Tryz.prog 15 #[.slice A t.length c] w fun e w'=>e=.returned (.tuple #[.string a,.int .i64 z])∧Below w.heap.size w w':=by
 have hT:=wf_tw hW
 have hLN:=Nl.wf_names hW hk
 have HLX:=Lib.hid (wf_ok hW)
 have HGD:=Lib.hid (fun pre x (h:pre++[x] <+: L)=>wf_at hW h)
 have hLL:=wf_llen hW
 have HTX:=Lib.hid (show ∀ z ∈ L,z.text.size≤729000000000 from fun z hz=>by
  obtain ⟨h1,-⟩:=wf_in hW z hz
  rcases wf_ok hW z hz with ⟨s,rfl⟩ | ⟨k,-,rfl⟩ | rfl
  ·obtain ⟨y,hy,-,e⟩:=h1 rfl
   rw [← e];exact hx y hy
  ·exact Nat.zero_le _
  ·exact Nat.zero_le _)
 have HCAN:=Lib.hid (can_wrS hW)
 have HAZ:=Lib.hid haz
 have hrd:Rd w.heap.size (.slice A t.length c) t w:=by
  obtain ⟨A',c',e,h⟩:=hv
  injection e with e1 _ e3
  subst e1 e3
  exact ⟨A,c,off,rfl,hc,hcm,h⟩
 clear haz hW hx hv hcm hc
 have hfn:∀ f,Fence.wide.fn f:=fun _=>trivial
 refine (callsIn_wide (n:=3)).1 ?_
 refine callsIn_of_wp_marks Tryz.func15 rfl trivial ?_ rfl
 simp only [Tryz.ntmps15,List.size_toArray,List.length_cons,List.length_nil,Nat.reduceAdd,Nat.reduceSub,Array.replicate_succ,Array.replicate_zero,List.push_toArray,List.append_toArray,List.nil_append,List.cons_append]
 gi_wp2_with (first
  |(gi_at_call 29;refine (callsIn_wide.2 (teller_at _)).mono ?_;rintro e w' ⟨rfl,rfl⟩)
  |(gi_at_call 30;refine (callsIn_wide.2 (parts_at A t.length c _)).mono ?_;rintro e w' ⟨rfl,rfl⟩))
 obtain ⟨W0,hW0⟩:∃ W0,(((((w.alloc (.cells #[.string { data:=#[] }] 9)).alloc (.cells #[.int .i64 0] 25)).alloc (.cells #[.int .i64 0] 3)).alloc (.cells #[.pointer none,.slice none 0 0,.func (.func 59) #[] #[.pointer (some ⟨w.heap.size+1+1,0,none⟩)]] 57)).alloc (.cells #[.slice A t.length c] 22))=W0:=⟨_,rfl⟩
 have hsz:W0.heap.size=w.heap.size+5:=by rw [← hW0];simp
 have hB0:Below w.heap.size w W0:=by
  rw [← hW0]
  exact (((((Below.refl _ w).alloc (Nat.le_refl _) _).alloc (by simp) _).alloc (by simp;omega) _).alloc (by simp;omega) _).alloc (by simp;omega) _
 have hI0:WI w [] W0:=by
  obtain ⟨V,hV⟩:∃ V,((w.alloc (.cells #[.string { data:=#[] }] 9)).alloc (.cells #[.int .i64 0] 25))=V:=⟨_,rfl⟩
  have hz:V.heap.size=w.heap.size+1+1:=by rw [← hV];simp
  rw [hV] at hW0
  have x0:Boxed V w.heap.size 9 (.string { data:=#[] }):=by rw [← hV];exact (Boxed.new w _ _).alloc _
  have x1:Boxed V (w.heap.size+1) 25 (.int .i64 0):=by
   rw [← hV]
   have:=Boxed.new (w.alloc (.cells #[.string { data:=#[] }] 9)) 25 (.int .i64 0)
   rwa [World.size_alloc] at this
  have x2:=Boxed.new V 3 (.int .i64 0)
  rw [hz] at x2
  refine ⟨by rw [wrS_nil];decide,.inl ⟨.slice none 0 0,?_,World.ownsRow_nil _ _ _ _,by simp [Value.ownBlock]⟩,?_,?_,?_,hB0⟩
  ·rw [← hW0,Below.heap_alloc _ _ _ (by simp;omega),show w.heap.size+1+1+1=(V.alloc (.cells #[.int .i64 0] 3)).heap.size by simp;omega,World.alloc_heap_new]
   rfl
  ·rw [← hW0];exact (x2.alloc _).alloc _
  ·rw [← hW0];exact ((x0.alloc _).alloc _).alloc _
  ·rw [← hW0];exact ((x1.alloc _).alloc _).alloc _
 have hbx:Boxed W0 (w.heap.size+1+1+1+1) 22 (.slice A t.length c):=by
  rw [← hW0]
  have:=Boxed.new ((((w.alloc (.cells #[.string { data:=#[] }] 9)).alloc (.cells #[.int .i64 0] 25)).alloc (.cells #[.int .i64 0] 3)).alloc (.cells #[.pointer none,.slice none 0 0,.func (.func 59) #[] #[.pointer (some ⟨w.heap.size+1+1,0,none⟩)]] 57)) 22 (.slice A t.length c)
  simpa using this
 rw [hW0]
 clear hW0
 refine Ra.wpIn_range_makes (own:=fun _=>False) (by omega) (gf:=61) (fa:=#[]) (lb:=#[.pointer (some ⟨w.heap.size+1+1+1+1,0,none⟩)]) rfl (enters_of Tryz.func61 (by kernel_rfl) rfl) (fun _ h=>absurd h id)
  (parts_hands 2 w.heap.size (w.heap.size+1+1+1+1) (.slice A t.length c) t L hT hk W0 (by omega) (hrd.below hB0) hbx) Below.trans (fun W k o o' hk1 hk2 hk3 hk4=>belowK_b (w:=w) (Nat.le_refl _) W k o o' (by omega) hk2 hk3 hk4)
  (fun _ _ _ _ h=>h) (fun _=>rfl) (WI w) (WX w)
  (fun pre A B' row hs hg hr=>WI.turn hs hg (fun r e=>by have:=hr r e;exact ⟨by omega,this.2⟩))
  (fun pre A B' row hs hg hr=>WX.turn hs hg (fun r e=>by have:=hr r e;omega))
  (fun _ _ _ _ h=>absurd h id) (fun pre V V' hb hs=>WI.below hs hb) hI0
  (AsP w A t.length c) (fun x a W l o o' hl ho hc hA=>by
   obtain ⟨g,h1,h2,h3⟩:=hA
   exact ⟨g,h1,h2.put o' ho hc,h3⟩) ?assign ?body ?done ?stop
 case assign =>
  rintro l pre ⟨kd,nm,tx,pl⟩ W hI hpre
  have hbW:Below W.heap.size W (W.alloc (.cells #[.int .i64 (kd:Int),.int .u8 (nm:Int),.string tx,.int .i64 (pl:Int)] 62)):=(Below.refl _ W).alloc (Nat.le_refl _) _
  have HW:=Lib.hid hbW
  have HK:=Lib.hid (hbW.mono hI.2.2.2.2.2.size)
  have HX:=Lib.hid (Lx.PX.new W ⟨kd,nm,tx,pl⟩)
  have HI:=Lib.hid (show w.heap.size+4≤W.heap.size by
   obtain ⟨p,v,hb,-⟩:=hI.2.1.at_
   have:=lt_of_heap hb;omega)
  clear hbW hI hpre
  dsimp only [Lx.encX,Lx.aggX]
  gi_wp2
  exact ⟨⟨_,HI.out,HX.out,rfl⟩,HW.out,HK.out⟩
 case body =>
  rintro l pre x a' W hI hpre ⟨g,hgR,hX,rfl⟩
  have hxL:x ∈ L:=hpre.subset (by simp)
  have hdl:=depF_le pre 0
  have hpl:=hpre.length_le
  rw [List.length_append] at hpl
  obtain ⟨hs8,hwr,hbc,hr0,hr1,hbl⟩:=id hI
  have HP0:=Lib.hid (wrS_snoc pre x)
  have HP1:=Lib.hid (depF_snoc pre x 0)
  obtain ⟨s,hs⟩:∃ s,toldS (depF 0 pre) x=s:=⟨_,rfl⟩
  have hs9:s.size≤1000000000000:=by
   rw [← hs]
   rcases HLX.out x hxL with ⟨u,rfl⟩ | ⟨k,-,rfl⟩ | rfl
   ·rw [told_1 rfl];have:=HTX.out _ hxL;have h:u.size≤729000000000:=this;show u.size≤_;omega
   ·rw [told_2 rfl]
    have:(Lx.nameS (opL k).name).size≤2:=by rw [Lx.nameS_size];unfold Lx.nameL;(repeat' split)<;>simp
    rw [ByteArray.size_append,ByteArray.size_append]
    have h1:({ data:=#[123] }:ByteArray).size=1:=rfl
    have h2:({ data:=#[32] }:ByteArray).size=1:=rfl
    omega
   ·by_cases e:depF 0 pre=1
    ·rw [e,told_31 (by decide) (by decide)];decide
    ·rw [told_3 (by decide) (by decide) e];decide
  obtain ⟨y,hy⟩:∃ y,decide ((wrS pre).size+s.size≤8192)=y:=⟨_,rfl⟩
  have HC:=Lib.hid (write_at (w.heap.size+1+1+1) (w.heap.size+1+1) (depF 0 pre) (by omega) (wrS pre) hs8 (by omega) x (HLX.out x hxL) (by
   rcases HLX.out x hxL with ⟨u,rfl⟩ | ⟨k,-,rfl⟩ | rfl
   ·exact (show (0:Nat)<256 by decide)
   ·exact hLN _ hxL rfl
   ·exact (show (0:Nat)<256 by decide)) (HGD.out pre x hpre) s hs hs9 y hy W hwr hbc)
  rw [hs] at HP0
  have HSZ:=Lib.hid (show (wrS (pre++[x])).size=(wrS pre).size+s.size by rw [HP0.out,ByteArray.size_append])
  have HY:=Lib.hid hy
  have HI:=Lib.hid hI
  have hcW:w.heap.size+1+1<W.heap.size:=hbc.lt
  obtain ⟨kd,nm,tx,pl⟩:=x
  obtain ⟨x0,x1,x2,x3⟩:=hX
  simp only [] at x0 x1 x2 x3
  dsimp only [Lx.aggX] at HC ⊢
  have hr0':=Lib.hid hr0
  have hr1':=Lib.hid hr1
  have HBL:=Lib.hid hbl
  clear hI hwr hbc hr0 hr1 hbl hs hy hpre hxL hs9 hdl hpl
  cases y
  ·gi_wp2_with (gi_at_call 31;refine (CallsIn.inRound l (callsIn_wide.2 HC.out)).mono ?_;rintro e W2 ⟨rfl,hb2,hk2,-⟩;have d0:=(hb2.block w.heap.size (by omega)).trans hr0'.out;have d1:=(hb2.block (w.heap.size+1) (by omega)).trans hr1'.out;have e0:=(show Boxed W2 _ _ _ from d0).cell;have e1:=(show Boxed W2 _ _ _ from d1).cell;have e2:=(show Boxed W2 _ _ _ from d0).frozen;have e3:=(show Boxed W2 _ _ _ from d1).frozen;have hg2:W.heap.size≤W2.heap.size:=hb2.size;have HB2:=Lib.hid hb2;have HK2:=Lib.hid hk2;clear hb2 hk2)
   have HS:=Lib.hid (of_decide_eq_false HY.out)
   have b0:=(show Boxed W2 w.heap.size 9 (.string { data:=#[] }) from d0).set (.string { data:=#[] })
   have b1:=((show Boxed W2 (w.heap.size+1) 25 (.int .i64 0) from d1).other (show w.heap.size+1≠w.heap.size by omega) (.string { data:=#[] })).set (.int .i64 4)
   refine ⟨(((HK2.out.from _).trans ((KeepsOthers.setCell _ _ _).from _)).trans ((KeepsOthers.setCell _ _ _).from _)),?_,b0.other (by omega) _,b1,?_⟩
   ·rw [HSZ.out];have:=HS.out;omega
   ·exact ((HBL.out.trans (HB2.out.mono (by omega))).setCell (p:=⟨w.heap.size,0,none⟩) (Nat.le_refl _) _).setCell (p:=⟨w.heap.size+1,0,none⟩) (by show w.heap.size≤w.heap.size+1;omega) _
  ·gi_wp2_with (gi_at_call 31;refine (CallsIn.inRound l (callsIn_wide.2 HC.out)).mono ?_;rintro e W2 ⟨rfl,hb2,hk2,hw2⟩;have HB2:=Lib.hid hb2;have HK2:=Lib.hid hk2;have HW2:=Lib.hid hw2;clear hb2 hk2 hw2)
   have HS:=Lib.hid (of_decide_eq_true HY.out)
   obtain ⟨h1,h2⟩:=HW2.out rfl
   refine ⟨HK2.out.from _,HB2.out.mono (by omega),?_,?_,?_,?_,?_,HBL.out.trans (HB2.out.mono (by omega))⟩
   ·rw [HSZ.out];exact HS.out
   ·rw [HP0.out];exact h1
   ·rw [HP1.out];exact h2
   ·exact (HB2.out.block _ (by omega)).trans hr0'.out
   ·exact (HB2.out.block _ (by omega)).trans hr1'.out
 case done =>
  rintro D W hD hI _ hK
  obtain ⟨hs8,hwr,hbc,hr0,hr1,hbl⟩:=hI
  rw [← HCAN.out] at hs8
  obtain ⟨rfl,rfl⟩:=HAZ.out.2 hs8
  rw [← HCAN.out] at hwr
  have hcW:=hbc.lt
  have HC:=Lib.hid (string_at (w.heap.size+1+1+1) (FV (w.heap.size+1+1)) (canV t) W hwr)
  have HR0:=Lib.hid hr0
  have HR1:=Lib.hid hr1
  have HBL:=Lib.hid hbl
  have HK:=Lib.hid hK
  clear hwr hbc hr0 hr1 hbl hs8 hK
  gi_wp2_with (gi_at_call 32;refine (callsIn_wide.2 HC.out).mono ?_;rintro e W2 ⟨rfl,hb2,hk2⟩;have HK2:=Lib.hid hk2;clear hk2;have d0:=(hb2.block w.heap.size (by omega)).trans HR0.out;have d1:=(hb2.block (w.heap.size+1) (by omega)).trans HR1.out;have e0:=(show Boxed W2 _ _ _ from d0).cell;have e1:=(show Boxed W2 _ _ _ from d1).cell;have e2:=(show Boxed W2 _ _ _ from d0).frozen;have e3:=(show Boxed W2 _ _ _ from d1).frozen;have hg2:W.heap.size≤W2.heap.size:=hb2.size;have HB2:=Lib.hid hb2;clear hb2)
  have b0:=(show Boxed W2 w.heap.size 9 (.string { data:=#[] }) from d0).set (.string (canV t))
  have b1:=((show Boxed W2 (w.heap.size+1) 25 (.int .i64 0) from d1).other (show w.heap.size+1≠w.heap.size by omega) (.string (canV t))).set (.int .i64 0)
  have b0:=b0.other (B':=w.heap.size+1) (by omega) (.int .i64 0)
  have hK':=(KeepsOthers.setCell (W2.setCell ⟨w.heap.size,0,none⟩ (.string (canV t))) ⟨w.heap.size+1,0,none⟩ (.int .i64 0)).same D _ ((KeepsOthers.setCell W2 ⟨w.heap.size,0,none⟩ (.string (canV t))).same D _ (HK2.out.same D _ HK.out rfl) rfl) rfl
  refine ⟨by simp,.inl ⟨_,_,rfl,run_takeDeferred hK',?_⟩⟩
  have k0:=cell_kept b0.cell (grownBy_putObj' _ D (.deferred none)) (fun r e=>by cases e;exact ⟨_,hK',rfl⟩)
  have k1:=cell_kept b1.cell (grownBy_putObj' _ D (.deferred none)) (fun r e=>by cases e;exact ⟨_,hK',rfl⟩)
  refine ⟨.tuple #[.string (canV t),.int .i64 0],?_,rfl,?_⟩
  ·simp [results,Tryz.f15,go_sem,k0,k1]
  ·exact (((HBL.out.trans (HB2.out.mono (by omega))).setCell (p:=⟨w.heap.size,0,none⟩) (Nat.le_refl _) _).setCell (p:=⟨w.heap.size+1,0,none⟩) (by show w.heap.size≤w.heap.size+1;omega) _).trans (belowK_b (w:=w) (Nat.le_refl _) _ D _ _ (by omega) hK' rfl rfl)
 case stop =>
  rintro D pre W hD hpre ⟨hs8,hr0,hr1,hbl⟩ hK
  have h8:=wrS_le hpre
  rw [← HCAN.out] at h8
  obtain ⟨rfl,rfl⟩:=HAZ.out.1 (by omega)
  clear h8 hs8 hpre
  have HBL:=Lib.hid hbl
  have HR0:=Lib.hid hr0
  have HR1:=Lib.hid hr1
  clear hbl hr0 hr1
  gi_wp2
  refine ⟨by simp,.inl ⟨_,_,rfl,run_takeDeferred hK,?_⟩⟩
  have k0:=cell_kept HR0.out.cell (grownBy_putObj' _ D (.deferred none)) (fun r e=>by cases e;exact ⟨_,hK,rfl⟩)
  have k1:=cell_kept HR1.out.cell (grownBy_putObj' _ D (.deferred none)) (fun r e=>by cases e;exact ⟨_,hK,rfl⟩)
  refine ⟨.tuple #[.string { data:=#[] },.int .i64 4],?_,rfl,HBL.out.trans (belowK_b (w:=w) (Nat.le_refl _) W D _ _ (by omega) hK rfl rfl)⟩
  simp [results,Tryz.f15,go_sem,k0,k1]
end Go.Proofs.YtmldpkigfhoalaaGreatDoor.Co
namespace Go.Proofs.YtmldpkigfhoalaaGreatDoor.Co
open Go.RowKit Go.Shelf Tr Nu Nl Cn
attribute [local go_sem] Oper.semAt_some
theorem can_az (t:List Nd) (h:isV t=true) (a:ByteArray) (z:Int) (ha:writeS t=a) (hz:((writeE t:Nat):Int)=z):(8192<(canV t).size→a={ data:=#[] }∧z=4)∧((canV t).size≤8192→a=canV t∧z=0):=by
 have he:=writeE_is h
 constructor
 ·intro h8
  rw [if_pos h8] at he
  refine ⟨?_,by omega⟩
  rw [← ha];unfold writeS;rw [if_neg (by omega)];rfl
 ·intro h8
  rw [if_neg (by omega)] at he
  refine ⟨?_,by omega⟩
  rw [← ha];unfold writeS;rw [if_pos he]
theorem isV_wf {t:List Nd} (h:isV t=true):∃ L,Wf t L:=by
 obtain ⟨L,hW,-⟩:=is_wr h
 exact ⟨L,hW⟩
theorem written_is (v:Value) (t:List Nd) (off:Nat) (h:isV t=true) (ht:t.length≤9000) (hk:∀ x ∈ t,x.kind<256) (hx:∀ x ∈ t,x.text.size≤729000000000) (hcp:Caps v) (a:ByteArray) (z:Int) (ha:writeS t=a) (hz:((writeE t:Nat):Int)=z) (w:World) (hv:ReadsN off w w.heap.size v t) :
  Calls Tryz.prog 15 #[v] w fun e w'=>e=.returned (.tuple #[.string a,.int .i64 z])∧Below w.heap.size w w':=by
 obtain ⟨L,hW⟩:=isV_wf h
 obtain ⟨A,c,rfl,hA⟩:=id hv
 obtain ⟨h1,h2⟩:=hcp _ _ _ rfl
 exact written_any A c t L hW ht h1 h2 hk hx off a z (can_az t h a z ha hz) w hv
set_option maxRecDepth 100000 in
set_option maxHeartbeats 4000000 in
theorem cwrite_any (Ld:Lands) (v:Value) (t:List Nd) (off:Nat) (ht:t.length≤9000) (hf:Fit t) (hx:∀ x ∈ t,x.text.size≤9000) (hcp:Caps v) (w:World) (hL:Ka.Laid w) (hv:ReadsN off w w.heap.size v t) :
  Calls Tryz.prog 7 #[v] w fun e w'=>e=.returned (.tuple #[.string (writeS t),.int .i64 ((writeE t:Nat):Int)])∧Below w.heap.size w w':=by
 obtain ⟨q,hq⟩:∃ q:Nat,checkV t=q:=⟨_,rfl⟩
 have HCH:=Lib.hid (hq▸Ld.check t off v ht hf hx w hL hv)
 have HL:=Lib.hid hL
 have hLN:=hL.1
 have HV:=Lib.hid hv
 have HCP:=Lib.hid hcp
 have HF:=Lib.hid hf
 have HX:=Lib.hid hx
 clear hL hv hcp hf hx
 by_cases hc:q=0
 ·subst hc
  have HQ:=Lib.hid hq
  clear hq
  cases hi:isV t with
  | false =>
   have HR:=Lib.hid (show writeE t=1 by unfold writeE;rw [if_neg (by rw [HQ.out];decide),if_pos hi])
   have HI:=Lib.hid hi
   clear hi
   go_enter Tryz.func7,Tryz.ntmps7
   go_wp2_with fail
   refine HCH.out.mono ?_
   rintro e w1 ⟨rfl,hb1⟩
   have HB1:=Lib.hid hb1
   have HV1:=Lib.hid ((HV.out.below hb1).mono hb1.size)
   have HL1:=Lib.hid (HL.out.below hb1 hLN)
   clear hb1
   go_wp2_with fail
   refine (lis_any Ld v t off ht HF.out HX.out false HI.out _ HL1.out HV1.out).mono ?_
   rintro e w2 ⟨rfl,hb2⟩
   have HB2:=Lib.hid (Ba.chain HB1.out HB1.out.size hb2)
   clear hb2
   go_wp2
   go_ret2
   refine ⟨?_,HB2.out⟩
   rw [show writeS t={ data:=#[] } from by unfold writeS;rw [if_neg (by rw [HR.out];decide)];rfl,HR.out]
   rfl
  | true =>
   obtain ⟨a,ha⟩:∃ a,writeS t=a:=⟨_,rfl⟩
   obtain ⟨z,hz⟩:∃ z:Int,((writeE t:Nat):Int)=z:=⟨_,rfl⟩
   have HI:=Lib.hid hi
   have HA:=Lib.hid ha
   have HZ:=Lib.hid hz
   rw [ha,hz]
   clear hi ha hz
   go_enter Tryz.func7,Tryz.ntmps7
   go_wp2_with fail
   refine HCH.out.mono ?_
   rintro e w1 ⟨rfl,hb1⟩
   have HB1:=Lib.hid hb1
   have HV1:=Lib.hid ((HV.out.below hb1).mono hb1.size)
   have HL1:=Lib.hid (HL.out.below hb1 hLN)
   clear hb1
   go_wp2_with fail
   refine (lis_any Ld v t off ht HF.out HX.out true HI.out _ HL1.out HV1.out).mono ?_
   rintro e w2 ⟨rfl,hb2⟩
   have HB2:=Lib.hid (Ba.chain HB1.out HB1.out.size hb2)
   have HV2:=Lib.hid ((HV1.out.below hb2).mono hb2.size)
   clear hb2
   go_wp2_with fail
   refine (written_is v t off HI.out ht (fun x hx=>(HF.out x hx).1) (fun x hx=>Nat.le_trans (HX.out x hx) (by decide)) HCP.out a z HA.out HZ.out _ HV2.out).mono ?_
   rintro e w3 ⟨rfl,hb3⟩
   have HB3:=Lib.hid (Ba.chain HB2.out HB2.out.size hb3)
   clear hb3
   go_wp2
   go_ret2
   exact ⟨rfl,HB3.out⟩
 ·have HR:=Lib.hid (show writeE t=q by unfold writeE;rw [if_pos (by rw [hq];exact hc),hq])
  have z0:(((q:Nat):Int)==0)=false:=beq_eq_false_iff_ne.2 (by omega)
  have z1:(((q:Nat):Int) != 0)=true:=by rw [bne,z0];rfl
  have HQ:=Lib.hid hc
  clear hq hc
  go_enter Tryz.func7,Tryz.ntmps7
  go_wp2_with fail
  refine HCH.out.mono ?_
  rintro e w1 ⟨rfl,hb1⟩
  have HB1:=Lib.hid hb1
  clear hb1
  go_wp2
  go_ret2
  refine ⟨?_,HB1.out⟩
  rw [show writeS t={ data:=#[] } from by unfold writeS;rw [if_neg (by rw [HR.out];exact HQ.out)];rfl,HR.out]
  rfl
theorem norm_txt {t:List Nd} (ht:t.length≤9000) (hf:Fit t) (hx9:∀ x ∈ t,x.text.size≤9000) (hc:checkV t=0):∀ y ∈ normV t,y.text.size≤729000000000:=by
 obtain ⟨L,hW,-⟩:=check_wf hc
 have hs:=check_sized hc (fun x hx=>(hf x hx).1) hx9
 rw [normV_is hW]
 intro y hy
 have a:=row_tot _ [] [] 0 (by simp) y hy
 have b:totE (joinE (evE (asNew t) (placeAt t) 0 L))=totE []+totE (evE (asNew t) (placeAt t) 0 L):=(join_tot _ []).1
 have c:=evE_tot hs (placeAt t) L 0
 rw [wf_nod hW] at c
 have z1:totE []=0:=rfl
 have d:t.length * (t.length * 9000)≤9000 * (9000 * 9000):=Nat.mul_le_mul ht (Nat.mul_le_mul_right _ ht)
 omega
set_option maxRecDepth 100000 in
set_option maxHeartbeats 4000000 in
theorem cof_any (Ld:Lands) (s:ByteArray) (hs:s.size≤maxLen) (w:World) (hL:Ka.Laid w) :
  Calls Tryz.prog 10 #[.string s] w fun e w'=>e=.returned (.tuple #[.string (canonA s).1,.int .i64 (((canonA s).2.1:Nat):Int),.int .i64 (((canonA s).2.2:Nat):Int)])∧Below w.heap.size w w':=by
 obtain ⟨t,ht⟩:∃ t,(parseA s).1=t:=⟨_,rfl⟩
 obtain ⟨p,hp⟩:∃ p:Nat,(parseA s).2.1=p:=⟨_,rfl⟩
 obtain ⟨q,hq⟩:∃ q:Nat,(parseA s).2.2=q:=⟨_,rfl⟩
 have HPA:=Lib.hid (Ld.at s hs t (p:Int) (q:Int) ht (by rw [hp]) (by rw [hq]) w hL)
 have HL:=Lib.hid hL
 have hLN:=hL.1
 clear hL
 by_cases hc:q=0
 ·subst hc
  have hs8:s.size≤8192:=by
   have h:=(parsed_of hq).1
   rcases Nat.lt_or_ge 8192 s.size with h8 | h8
   ·have:=(Lx.lex_long h8).2.2
    rw [h] at this;cases this
   ·exact h8
  have hchk:=parse_check hq
  obtain ⟨hC,hI⟩:=canonA_e hq
  have hfit:=parse_fit s hs
  have hl9:=parse_few hq
  rw [ht] at hchk hC hI hfit hl9
  have hx9:∀ x ∈ t,x.text.size≤9000:=fun x hx=>Nat.le_trans (hfit.2 x hx) (by omega)
  have ht9:t.length≤9000:=by omega
  have hnt:=norm_txt ht9 hfit.1 hx9 hchk
  have hnf:=fit_norm ht9 hfit.1 hx9 hchk
  have hnl:=norm_len hchk
  obtain ⟨n,hn⟩:∃ n,normV t=n:=⟨_,rfl⟩
  have hof:ofV t=n:=by unfold ofV;rw [if_pos hchk,hn]
  rw [hn] at hC hI hnt hnf hnl
  obtain ⟨a,ha⟩:∃ a,writeS n=a:=⟨_,rfl⟩
  obtain ⟨z,hz⟩:∃ z:Int,((writeE n:Nat):Int)=z:=⟨_,rfl⟩
  have HR:=Lib.hid (show ((canonA s).1=a∧(((canonA s).2.1:Nat):Int)=0)∧(((canonA s).2.2:Nat):Int)=z by rw [hC];exact ⟨⟨ha,rfl⟩,hz⟩)
  have HNO:=Lib.hid (fun W hLW v hv=>hof▸lof_any Ld v t 0 ht9 hfit.1 hx9 0 (by rw [hchk];rfl) W hLW hv)
  have HWR:=Lib.hid (fun W v hcp hv=>written_is v n 0 hI (by omega) (fun x hx=>(hnf x hx).1) hnt hcp a z ha hz W hv)
  clear hchk hC hI hfit hl9 hx9 ht9 hnt hnf hnl hn hof ha hz hs8 ht hp hq hs
  go_enter Tryz.func10,Tryz.ntmps10
  go_wp2_with fail
  refine HPA.out.mono ?_
  rintro e w1 ⟨v,rfl,hv,hb1⟩
  have HB1:=Lib.hid hb1
  have HV1:=Lib.hid hv
  have HL1:=Lib.hid (HL.out.below hb1 hLN)
  clear hb1 hv
  go_wp2_with fail
  refine (HNO.out _ HL1.out _ HV1.out).mono ?_
  rintro e w2 ⟨v2,rfl,hown,hb2⟩
  have HB2:=Lib.hid (Ba.chain HB1.out HB1.out.size hb2)
  have HV2:=Lib.hid (Ba.Reads.of_own cN_len rfl hown)
  have HC2:=Lib.hid (caps_own hown)
  clear hb2 hown
  go_wp2_with fail
  refine (HWR.out _ v2 HC2.out HV2.out).mono ?_
  rintro e w3 ⟨rfl,hb3⟩
  have HB3:=Lib.hid (Ba.chain HB2.out HB2.out.size hb3)
  clear hb3
  go_wp2
  go_ret3
  refine ⟨?_,HB3.out⟩
  rw [HR.out.1.1,HR.out.1.2,HR.out.2]
  rfl
 ·have HR:=Lib.hid (show canonA s=(emptyS,p,q) by unfold canonA;rw [if_pos (by rw [hq];exact hc),hp,hq])
  have z0:(((q:Nat):Int)==0)=false:=beq_eq_false_iff_ne.2 (by omega)
  have z1:(((q:Nat):Int) != 0)=true:=by rw [bne,z0];rfl
  clear ht hp hq hc hs
  go_enter Tryz.func10,Tryz.ntmps10
  go_wp2_with fail
  refine HPA.out.mono ?_
  rintro e w1 ⟨v,rfl,hv,hb1⟩
  have HB1:=Lib.hid hb1
  clear hb1 hv
  go_wp2
  go_ret3
  refine ⟨?_,HB1.out⟩
  rw [HR.out];rfl
theorem clands (Ld:Lands):CLands:=⟨fun v t off ht hf hx hcp w hL hv=>cwrite_any Ld v t off ht hf hx hcp w hL hv,fun s hs w hL=>cof_any Ld s hs w hL⟩
end Go.Proofs.YtmldpkigfhoalaaGreatDoor.Co
