/-
  Put together: TrM, TrN, TrK, TsA, TsM.
-/
import Derived.Test.YtgpihfacmpbpaaaGreatDoorVa
import Derived.Test.YtgpihfacmpbpaaaGreatDoorRows
import Derived.WalkKit
import Derived.WalkSpells
import Derived.Lib.Hide
import Derived.Maps.OwnOps
import Derived.Maps.Views
import Derived.Maps.OwnSet
import Derived.DeepKeys4
namespace Go.Proofs.YtgpihfacmpbpaaaGreatDoor.Tr
open Go.RowKit
structure Nd where
 kind:Nat
 text:ByteArray
 place:Int
 size:Int
structure Op where
 kind:Nat
 kids:ByteArray
 spot:Nat
 notes:Nat
 first:Nat
 text:ByteArray
abbrev aA:ByteArray:=Lx.aA
def root:Op:=⟨0,aA,0,0,0,aA⟩
def cM (k:Nat) (s:ByteArray):Bool:=(Lx.aH s).contains k
def fB:ByteArray:={ data:=#[49,50,51,112,99,110,101,115] }
def bN:ByteArray:={ data:=#[49,50,51,112,105] }
def kX:ByteArray:={ data:=#[49,50,51,112,108,116,107] }
def bU:ByteArray:={ data:=#[110] }
def xT:ByteArray:={ data:=#[101,115,110] }
def q7:ByteArray:={ data:=#[108,116,114] }
def dS (k:Nat):ByteArray:=Lx.bytesOf [k]
def aZ (p:List Op):Op:=p.getLastD root
def aJ (p:List Op):Bool:=cM (aZ p).kind fB || ((aZ p).kind==105 && !cM 108 (aZ p).kids)
def iC (p:List Op) (ks:ByteArray):Nat→Nat
 | 0=>0
 | n+1=>if n=0 then 0 else if cM (p.getD n root).kind ks then n else iC p ks n
def aN (p:List Op) (ks:ByteArray):Nat:=iC p ks p.length
def bG (p:List Op) (k:Nat):Nat:=((p.drop 1).filter fun o=>o.kind==k).length
def aG (k:Nat) (o:Op):Op:={ o with kids:=o.kids++dS k }
def gI (s:ByteArray) (o:Op):Op:={ o with text:=o.text++s }
def cU (o:Op):Op:={ o with notes:=o.notes+1 }
def bW (n:Nat) (o:Op):Op:={ o with first:=n }
def aF (n:Int) (x:Nd):Nd:={ x with size:=n }
def aE (st:List Nd × List Op) (x:Lx.Lx):List Nd × List Op :=
 let t:=st.1
 let p:=st.2
 let top:=p.length - 1
 if x.kind=1 then
  if aJ p then
   let p1:=p.modify top (aG 46)
   let n:=aN p1 bU
   (t++[⟨46,x.text,(x.place:Int),1⟩],if 0<n then p1.modify n (gI x.text) else p1)
  else (t,p)
 else if x.kind=2 then
  let p1:=p.modify top (aG x.name)
  let p2:=if x.name=110 then p1.modify (aN p1 bN) cU else p1
  (t++[⟨x.name,aA,(x.place:Int),1⟩],p2++[⟨x.name,aA,t.length,0,0,aA⟩])
 else
  let o:=aZ p
  let t1:=t.modify o.spot (aF ((t.length:Int) - (o.spot:Int)))
  let p1:=if o.kind=114∧(p.getD (top - 1) root).first=0 then p.modify (top - 1) (bW o.kids.size) else p
  (t1,p1.take top)
def aV (l:List Lx.Lx):List Nd × List Op:=l.foldl aE ([],[root])
theorem k8 (l:List Lx.Lx) (x:Lx.Lx):aV (l++[x])=aE (aV l) x:=by unfold aV;rw[List.foldl_append];rfl
def eH (p:List Op) (k:Nat):Bool :=
 let x:=aZ p
 if p.length=1 then cM k kX
 else if (x.kind=105∧k=108)∨(x.kind=108∧k=105)∨(x.kind=116∧k=114) then true
 else if x.kind=114 then decide (k=99∧x.kids.size<8)
 else if aJ p=false∨cM k xT=false∨0<bG p k then false
 else if k≠110 then true
 else decide (bG p 99=0∧0<aN p bN∧(p.getD (aN p bN) root).notes=0)
def lA (s:ByteArray):Option Nat:=(List.range s.size).find? fun i=>!Lx.iD (Lx.bT s i)
def aD (t:List Nd) (p:List Op) (x:Lx.Lx):Nat × Nat :=
 if x.kind=1 then
  if aJ p=false then (match lA x.text with | some i=>(x.place+i,2) | none=>(0,0))
  else if 2000≤t.length∨(0<aN p bU∧60<(p.getD (aN p bU) root).text.size+x.text.size) then (x.place,4)
  else (0,0)
 else if x.kind=2 then
  if eH p x.name=false then (x.place,2)
  else if 32<p.length∨(x.name=108∧8≤bG p 108) then (x.place,5)
  else if 2000≤t.length then (x.place,4)
  else (0,0)
 else
  let o:=aZ p
  if p.length=1∨(cM o.kind q7=true∧o.kids.size=0) then (x.place,2)
  else if o.kind=114∧0<(p.getD (p.length - 2) root).first∧(p.getD (p.length - 2) root).first≠o.kids.size then (x.place,2)
  else (0,0)
def gQ (st:List Nd × List Op):List Lx.Lx→Option (Nat × Nat)
 | []=>none
 | x::l=>if (aD st.1 st.2 x).2=0 then gQ (aE st x) l else some (aD st.1 st.2 x)
def bH (s:ByteArray):List Nd × Nat × Nat :=
 if Lx.nD s≠0 then ([],Lx.qR s,Lx.nD s)
 else match gQ ([],[root]) (Lx.gV s) with
  | some z=>([],z.1,z.2)
  | none=>if 1<(aV (Lx.gV s)).2.length then ([],s.size,2) else ((aV (Lx.gV s)).1,0,0)
theorem KH (p:List Op) (ks:ByteArray):∀ n,iC p ks n≤n - 1
 | 0=>by simp[iC]
 | n+1=>by
  unfold iC
  by_cases h:n=0
  ·rw[if_pos h];omega
  ·rw[if_neg h]
   by_cases hi:cM (p.getD n root).kind ks=true
   ·rw[if_pos hi];omega
   ·rw[if_neg hi];have:=KH p ks n;omega
theorem oF {p:List Op} (ks:ByteArray) (h:0<p.length):aN p ks<p.length:=by
 have:=KH p ks p.length
 unfold aN;omega
end Go.Proofs.YtgpihfacmpbpaaaGreatDoor.Tr
namespace Go.Proofs.YtgpihfacmpbpaaaGreatDoor.Tr
open Go.RowKit
def pB (s:ByteArray):Lx.Lx:=⟨1,0,s,0⟩
def jJ (k:Nat):Lx.Lx:=⟨2,k,aA,0⟩
def nB:Lx.Lx:=⟨3,0,aA,0⟩
def uW (t:List Nd):Nat→Nat→Nat→Option (List Lx.Lx)
 | 0,a,e=>if a<e then none else some []
 | n+1,a,e=>if a<e then
   match t[a]? with
   | none=>none
   | some x =>
    if x.size<1∨(e:Int)<(a:Int)+x.size then none
    else if x.kind=46 then (if x.size=1 then (uW t n (a+1) e).map (pB x.text::·) else none)
    else (uW t n (a+1) (a+x.size.toNat)).bind fun M=>(uW t n (a+x.size.toNat) e).map fun R=>jJ x.kind::(M++nB::R)
  else some []
def fJ (t:List Nd) (a e:Nat):Option (List Lx.Lx):=uW t (e - a) a e
theorem oY (t:List Nd):∀ n m a e,e - a≤n→e - a≤m→uW t n a e=uW t m a e
 | 0,0,_,_,_,_=>rfl
 | 0,m+1,a,e,h,_=>by unfold uW;rw[if_neg (by omega),if_neg (by omega)]
 | n+1,0,a,e,_,h=>by unfold uW;rw[if_neg (by omega),if_neg (by omega)]
 | n+1,m+1,a,e,h1,h2=>by
  unfold uW
  by_cases h:a<e
  ·rw[if_pos h,if_pos h]
   cases hx:t[a]? with
   | none=>rfl
   | some x =>
    simp only[]
    by_cases hs:x.size<1∨(e:Int)<(a:Int)+x.size
    ·rw[if_pos hs,if_pos hs]
    ·rw[if_neg hs,if_neg hs,oY t n m (a+1) e (by omega) (by omega),oY t n m (a+1) (a+x.size.toNat) (by omega) (by omega),oY t n m (a+x.size.toNat) e (by omega) (by omega)]
  ·rw[if_neg h,if_neg h]
theorem dT (t:List Nd) (a e:Nat) (h:e≤a):fJ t a e=some []:=by
 unfold fJ
 rw[show e - a=0 from by omega];unfold uW;rw[if_neg (by omega)]
theorem iM (t:List Nd) (a e:Nat) (h:a<e):fJ t a e =
  match t[a]? with
  | none=>none
  | some x =>
   if x.size<1∨(e:Int)<(a:Int)+x.size then none
   else if x.kind=46 then (if x.size=1 then (fJ t (a+1) e).map (pB x.text::·) else none)
   else (fJ t (a+1) (a+x.size.toNat)).bind fun M=>(fJ t (a+x.size.toNat) e).map fun R=>jJ x.kind::(M++nB::R):=by
 unfold fJ
 obtain⟨n,hn⟩:∃ n,e - a=n+1:=⟨e - a - 1,by omega⟩
 conv=>lhs;rw[hn];unfold uW
 rw[if_pos h]
 cases hx:t[a]? with
 | none=>rfl
 | some x =>
  simp only[]
  by_cases hs:x.size<1∨(e:Int)<(a:Int)+x.size
  ·rw[if_pos hs,if_pos hs]
  ·rw[if_neg hs,if_neg hs,oY t n (e - (a+1)) (a+1) e (by omega) (by omega),oY t n (a+x.size.toNat - (a+1)) (a+1) (a+x.size.toNat) (by omega) (by omega),oY t n (e - (a+x.size.toNat)) (a+x.size.toNat) e (by omega) (by omega)]
theorem oN {t:List Nd} {a e:Nat} {x:Nd} (h:a<e) (hx:t[a]?=some x) (hk:x.kind=46) (hs:x.size=1):fJ t a e=(fJ t (a+1) e).map (pB x.text::·):=by
 rw[iM t a e h,hx]
 simp only[]
 rw[if_neg (by omega),if_pos hk,if_pos hs]
theorem lK {t:List Nd} {a e n:Nat} {x:Nd} (hx:t[a]?=some x) (hk:x.kind≠46) (hs:x.size=(n:Int)) (h1:1≤n) (h2:a+n≤e) :
  fJ t a e=(fJ t (a+1) (a+n)).bind fun M=>(fJ t (a+n) e).map fun R=>jJ x.kind::(M++nB::R):=by
 rw[iM t a e (by omega),hx]
 simp only[]
 rw[if_neg (by omega),if_neg hk,hs,Int.toNat_natCast]
theorem nG (t:List Nd):∀ n a b c L M,b - a≤n→a≤b→b≤c→fJ t a b=some L→fJ t b c=some M→fJ t a c=some (L++M)
 | 0,a,b,c,L,M,hn,hab,hbc,h1,h2=>by
  obtain rfl:a=b:=by omega
  rw[dT t a a (Nat.le_refl _)]at h1
  cases h1;exact h2
 | n+1,a,b,c,L,M,hn,hab,hbc,h1,h2=>by
  rcases Nat.eq_or_lt_of_le hab with rfl | hlt
  ·rw[dT t a a (Nat.le_refl _)]at h1
   cases h1;exact h2
  rw[iM t a b hlt]at h1
  rw[iM t a c (by omega)]
  cases hx:t[a]? with
  | none=>rw[hx]at h1;cases h1
  | some x =>
   rw[hx]at h1
   simp only[]at h1 ⊢
   by_cases hs:x.size<1∨(b:Int)<(a:Int)+x.size
   ·rw[if_pos hs]at h1;cases h1
   rw[if_neg hs]at h1
   rw[if_neg (by omega)]
   by_cases hk:x.kind=46
   ·rw[if_pos hk]at h1 ⊢
    by_cases h5:x.size=1
    ·rw[if_pos h5]at h1 ⊢
     obtain⟨R,hR,rfl⟩:=Option.map_eq_some_iff.1 h1
     rw[nG t n (a+1) b c R M (by omega) (by omega) hbc hR h2];rfl
    ·rw[if_neg h5]at h1;cases h1
   ·rw[if_neg hk]at h1 ⊢
    obtain⟨K,hK,h3⟩:=Option.bind_eq_some_iff.1 h1
    obtain⟨R,hR,rfl⟩:=Option.map_eq_some_iff.1 h3
    rw[hK,Option.bind_some,nG t n (a+x.size.toNat) b c R M (by omega) (by omega) hbc hR h2]
    simp
inductive Wf:List Nd→List Lx.Lx→Prop where
 | nil:Wf [] []
 | text {F:List Nd} {L:List Lx.Lx} (s:ByteArray) (pl:Int):Wf F L→Wf (F++[⟨46,s,pl,1⟩]) (L++[pB s])
 | node {F G:List Nd} {L M:List Lx.Lx} (k:Nat) (pl:Int):Wf F L→Wf G M→k≠46→Wf (F++⟨k,aA,pl,(G.length:Int)+1⟩::G) (L++jJ k::(M++[nB]))
theorem Wf.app {F:List Nd} {L:List Lx.Lx} (h:Wf F L):∀ {G:List Nd} {M:List Lx.Lx},Wf G M→Wf (F++G) (L++M):=by
 intro G M hG
 induction hG with
 | nil=>simpa using h
 | text s pl _ ih=>rw[← List.append_assoc,← List.append_assoc];exact ih.text s pl
 | node k pl _ hG2 hk ih _=>rw[← List.append_assoc,← List.append_assoc];exact ih.node k pl hG2 hk
theorem aEI {F:List Nd} {L:List Lx.Lx} (h:Wf F L):∀ pre post:List Nd,fJ (pre++(F++post)) pre.length (pre.length+F.length)=some L:=by
 induction h with
 | nil=>intro pre post;exact dT _ _ _ (by simp)
 | @text F L s pl _ ih =>
  intro pre post
  have h1:=ih pre (⟨46,s,pl,1⟩::post)
  have hx:(pre++(F++⟨46,s,pl,1⟩::post))[pre.length+F.length]?=some ⟨46,s,pl,1⟩:=by
   rw[List.getElem?_append_right (by omega),List.getElem?_append_right (by omega)];simp
  have h2:fJ (pre++(F++⟨46,s,pl,1⟩::post)) (pre.length+F.length) (pre.length+F.length+1)=some [pB s]:=by
   rw[oN (by omega) hx rfl rfl,dT _ _ _ (by omega)];rfl
  have:=nG _ _ _ _ (pre.length+F.length+1) _ _ (Nat.le_refl _) (by omega) (by omega) h1 h2
  rw[List.append_assoc,List.singleton_append,List.length_append]
  exact this
 | @node F G L M k pl _ _ hk ih1 ih2 =>
  intro pre post
  have h1:=ih1 pre (⟨k,aA,pl,(G.length:Int)+1⟩::(G++post))
  have hx:(pre++(F++⟨k,aA,pl,(G.length:Int)+1⟩::(G++post)))[pre.length+F.length]?=some ⟨k,aA,pl,(G.length:Int)+1⟩:=by
   rw[List.getElem?_append_right (by omega),List.getElem?_append_right (by omega)];simp
  have h3:=ih2 (pre++(F++[⟨k,aA,pl,(G.length:Int)+1⟩])) post
  have e1:pre++(F++[⟨k,aA,pl,(G.length:Int)+1⟩])++(G++post)=pre++(F++⟨k,aA,pl,(G.length:Int)+1⟩::(G++post)):=by simp
  have e2:(pre++(F++[(⟨k,aA,pl,(G.length:Int)+1⟩:Nd)])).length=pre.length+F.length+1:=by simp;omega
  rw[e1,e2]at h3
  have h2:fJ (pre++(F++⟨k,aA,pl,(G.length:Int)+1⟩::(G++post))) (pre.length+F.length) (pre.length+F.length+(G.length+1))=some (jJ k::(M++[nB])):=by
   rw[lK (n:=G.length+1) hx hk (by simp) (by omega) (by omega),show pre.length+F.length+(G.length+1)=pre.length+F.length+1+G.length from by omega,h3,Option.bind_some,dT _ _ _ (Nat.le_refl _)]
   rfl
  have:=nG _ _ _ _ (pre.length+F.length+(G.length+1)) _ _ (Nat.le_refl _) (by omega) (by omega) h1 h2
  rw[show (F++(⟨k,aA,pl,(G.length:Int)+1⟩:Nd)::G).length=F.length+(G.length+1) from by simp,← Nat.add_assoc pre.length,List.append_assoc,List.cons_append]
  exact this
theorem FE {F:List Nd} {L:List Lx.Lx} (h:Wf F L):fJ F 0 F.length=some L:=by
 have:=aEI h [] []
 simpa using this
def gM (x:Nd):Prop:=x.kind≠46→x.text=aA
theorem yN (t:List Nd) (hp:∀ x ∈ t,gM x):∀ n a e L,e - a≤n→a≤e→e≤t.length→fJ t a e=some L→Wf ((t.take e).drop a) L
 | 0,a,e,L,hn,hae,he,h=>by
  obtain rfl:a=e:=by omega
  rw[dT t a a (Nat.le_refl _)]at h
  cases h
  rw[List.drop_of_length_le (by rw[List.length_take];omega)]
  exact .nil
 | n+1,a,e,L,hn,hae,he,h=>by
  rcases Nat.eq_or_lt_of_le hae with rfl | hlt
  ·rw[dT t a a (Nat.le_refl _)]at h
   cases h
   rw[List.drop_of_length_le (by rw[List.length_take];omega)]
   exact .nil
  rw[iM t a e hlt]at h
  have hxa:t[a]?=some t[a]:=List.getElem?_eq_getElem (by omega)
  obtain⟨x,hx⟩:∃ x,t[a]?=some x:=⟨_,hxa⟩
  have hpx:=hp x (List.mem_of_getElem? hx)
  rw[hx]at h
  simp only[]at h
  have hcut:∀ b,a<b→b≤e→(t.take e).drop a=x::((t.take b).drop (a+1)++(t.take e).drop b):=fun b hab hbe=>by
   apply List.ext_getElem?
   intro j
   cases j with
   | zero=>rw[List.getElem?_drop,Nat.add_zero,List.getElem?_take_of_lt (by omega),hx];rfl
   | succ j =>
    rw[List.getElem?_cons_succ,List.getElem?_drop]
    rcases Nat.lt_or_ge (a+1+j) b with hj | hj
    ·rw[List.getElem?_append_left (by rw[List.length_drop,List.length_take];omega),List.getElem?_drop,List.getElem?_take_of_lt (by omega),List.getElem?_take_of_lt (by omega),show a+(j+1)=a+1+j from by omega]
    ·rw[List.getElem?_append_right (by rw[List.length_drop,List.length_take];omega),List.length_drop,List.length_take,List.getElem?_drop,show b+(j - (min b t.length - (a+1)))=a+(j+1) from by omega]
  by_cases hs:x.size<1∨(e:Int)<(a:Int)+x.size
  ·rw[if_pos hs]at h;cases h
  rw[if_neg hs]at h
  by_cases hk:x.kind=46
  ·rw[if_pos hk]at h
   by_cases h5:x.size=1
   ·rw[if_pos h5]at h
    obtain⟨R,hR,rfl⟩:=Option.map_eq_some_iff.1 h
    have ih:=yN t hp n (a+1) e R (by omega) (by omega) he hR
    rw[hcut (a+1) (by omega) (by omega),List.drop_of_length_le (by rw[List.length_take];omega),List.nil_append]
    obtain⟨kd,tx,pl,sz⟩:=x
    simp only[]at hk h5
    subst hk;subst h5
    exact(Wf.text tx pl .nil).app ih
   ·rw[if_neg h5]at h;cases h
  ·rw[if_neg hk]at h
   obtain⟨K,hK,h3⟩:=Option.bind_eq_some_iff.1 h
   obtain⟨R,hR,rfl⟩:=Option.map_eq_some_iff.1 h3
   have ihK:=yN t hp n (a+1) (a+x.size.toNat) K (by omega) (by omega) (by omega) hK
   have ihR:=yN t hp n (a+x.size.toNat) e R (by omega) (by omega) he hR
   rw[hcut (a+x.size.toNat) (by omega) (by omega)]
   have hlen:(((t.take (a+x.size.toNat)).drop (a+1)).length:Int)+1=x.size:=by rw[List.length_drop,List.length_take];omega
   obtain⟨kd,tx,pl,sz⟩:=x
   simp only[]at hk hlen hpx ihK ihR
   obtain rfl:tx=aA:=hpx hk
   have:=((Wf.node kd pl .nil ihK hk).app ihR)
   rw[hlen]at this
   simpa using this
end Go.Proofs.YtgpihfacmpbpaaaGreatDoor.Tr
namespace Go.Proofs.YtgpihfacmpbpaaaGreatDoor.Tr
open Go.RowKit
def bO (x:Nd):Bool:=(if x.kind=46 then decide (x.text.size≠0) else decide (x.text.size=0∧(Lx.bE x.kind).size≠0)) && (Lx.aH x.text).all Lx.jD
def oB (st:List Nd × List Op) (d b:Bool):List Lx.Lx→Nat
 | []=>if d then 5 else if b then 4 else 0
 | x::l=>if (x.kind=1∧aJ st.2=false)∨(aD st.1 st.2 x).2=2 then 2
  else oB (aE st x) (d || decide ((aD st.1 st.2 x).2=5)) (b || decide ((aD st.1 st.2 x).2=4)) l
def aL (t:List Nd):Nat :=
 if t.all bO=false then 2 else match fJ t 0 t.length with | none=>2 | some l=>oB ([],[root]) false false l
def zW (st:List Nd × List Op):List Lx.Lx→Prop
 | []=>True
 | x::l=>¬ (x.kind=1∧aJ st.2=false)∧(aD st.1 st.2 x).2=0∧zW (aE st x) l
theorem tQ (t:List Nd) (p:List Op) (x:Lx.Lx):(aD t p x).2=0∨(aD t p x).2=2∨(aD t p x).2=4∨(aD t p x).2=5:=by
 unfold aD
 dsimp only
 repeat' split
 all_goals simp
theorem PM:∀ (l:List Lx.Lx) (st:List Nd × List Op) (d b:Bool),oB st d b l=0↔d=false∧b=false∧zW st l
 | [],st,d,b=>by cases d<;>cases b<;>simp[oB,zW]
 | x::l,st,d,b=>by
  unfold oB zW
  by_cases h:(x.kind=1∧aJ st.2=false)∨(aD st.1 st.2 x).2=2
  ·rw[if_pos h]
   constructor
   ·intro e;cases e
   ·rintro⟨_,_,h1,h2,_⟩
    rcases h with h | h
    ·exact absurd h h1
    ·rw[h]at h2;cases h2
  ·rw[if_neg h,PM l]
   have h1:¬ (x.kind=1∧aJ st.2=false):=fun e=>h (.inl e)
   have h2:(aD st.1 st.2 x).2≠2:=fun e=>h (.inr e)
   rcases tQ st.1 st.2 x with e | e | e | e
   ·simp[e,h1]
   ·exact absurd e h2
   ·simp[e]
   ·simp[e]
theorem gX (t:List Nd):aL t=0↔(∀ x ∈ t,bO x=true)∧∃ l,fJ t 0 t.length=some l∧zW ([],[root]) l:=by
 unfold aL
 by_cases h:t.all bO=false
 ·rw[if_pos h]
  constructor
  ·intro e;cases e
  ·rintro⟨h1,_⟩
   rw[List.all_eq_true.2 h1]at h;cases h
 ·rw[if_neg h]
  have h':t.all bO=true:=by simpa using h
  rw[List.all_eq_true]at h'
  cases he:fJ t 0 t.length with
  | none=>simp
  | some l =>
   simp only[]
   rw[PM]
   constructor
   ·rintro⟨_,_,h3⟩;exact⟨h',l,rfl,h3⟩
   ·rintro⟨_,l',h2,h3⟩;cases h2;exact⟨rfl,rfl,h3⟩
theorem BQ:∀ (l:List Lx.Lx) (st:List Nd × List Op) (x:Lx.Lx),zW st (l++[x])↔zW st l∧¬ (x.kind=1∧aJ (l.foldl aE st).2=false)∧(aD (l.foldl aE st).1 (l.foldl aE st).2 x).2=0
 | [],st,x=>by simp[zW]
 | y::l,st,x=>by
  rw[List.cons_append]
  unfold zW
  rw[BQ l,List.foldl_cons]
  simp only[and_assoc]
def bare (x:Nd):Nd:={ x with place:=0 }
def EL (x:Lx.Lx):Lx.Lx:={ x with place:=0 }
theorem NN (t:List Nd) (p:List Op) (x:Lx.Lx):aE (t.map bare,p) (EL x)=((aE (t,p) x).1.map bare,(aE (t,p) x).2):=by
 unfold aE
 simp only[EL,List.length_map]
 by_cases h1:x.kind=1
 ·rw[if_pos h1,if_pos h1]
  by_cases h2:aJ p=true
  ·rw[if_pos h2,if_pos h2];simp[bare]
  ·rw[if_neg h2,if_neg h2]
 ·rw[if_neg h1,if_neg h1]
  by_cases h2:x.kind=2
  ·rw[if_pos h2,if_pos h2];simp[bare];rfl
  ·rw[if_neg h2,if_neg h2]
   simp only[Prod.mk.injEq,and_true]
   apply List.ext_getElem?
   intro i
   simp only[List.getElem?_modify,List.getElem?_map]
   by_cases hi:(aZ p).spot=i
   ·simp only[hi,if_true]
    cases t[i]?<;>simp[bare,aF]
   ·simp only[hi,if_false]
    cases t[i]?<;>simp
theorem GF (t:List Nd) (p:List Op) (x:Lx.Lx):(aD (t.map bare) p (EL x)).2=(aD t p x).2:=by
 unfold aD
 simp only[EL,List.length_map]
 repeat' split
 all_goals simp_all
def pathOf (p:List Op):List (Nat × Nat):=(p.drop 1).map fun o=>(o.kind,o.spot)
inductive Zip:List Nd→List (Nat × Nat)→List Lx.Lx→Prop where
 | base {F:List Nd} {L:List Lx.Lx}:Wf F L→Zip F [] L
 | push {t G:List Nd} {q:List (Nat × Nat)} {L M:List Lx.Lx} (k:Nat) (pl:Int):Zip t q L→Wf G M→k≠46→Zip (t++⟨k,aA,pl,1⟩::G) (q++[(k,t.length)]) (L++jJ k::M)
theorem Zip.text {t:List Nd} {q:List (Nat × Nat)} {L:List Lx.Lx} (h:Zip t q L) (s:ByteArray) (pl:Int):Zip (t++[⟨46,s,pl,1⟩]) q (L++[pB s]):=by
 cases h with
 | base hF=>exact .base (hF.text s pl)
 | push k pk hz hG hk =>
  have:=Zip.push k pk hz (hG.text s pl) hk
  simpa using this
theorem Zip.opened {t:List Nd} {q:List (Nat × Nat)} {L:List Lx.Lx} (h:Zip t q L) (k:Nat) (pl:Int) (hk:k≠46):Zip (t++[⟨k,aA,pl,1⟩]) (q++[(k,t.length)]) (L++[jJ k]):=.push k pl h .nil hk
theorem SW (t G:List Nd) (x:Nd) (f:Nd→Nd):(t++x::G).modify t.length f=t++f x::G:=by
 apply List.ext_getElem?
 intro i
 rw[List.getElem?_modify]
 rcases Nat.lt_trichotomy i t.length with h | h | h
 ·rw[List.getElem?_append_left h,List.getElem?_append_left h]
  have hne:¬ t.length=i:=by omega
  simp only[hne,if_false]
  cases t[i]?<;>rfl
 ·subst h
  rw[List.getElem?_append_right (Nat.le_refl _),List.getElem?_append_right (Nat.le_refl _)];simp
 ·rw[List.getElem?_append_right (by omega),List.getElem?_append_right (by omega)]
  have hne:¬ t.length=i:=by omega
  simp only[hne,if_false]
  obtain⟨j,hj⟩:∃ j,i - t.length=j+1:=⟨i - t.length - 1,by omega⟩
  rw[hj,List.getElem?_cons_succ,List.getElem?_cons_succ]
  cases G[j]?<;>rfl
theorem Zip.closed {t:List Nd} {q:List (Nat × Nat)} {L:List Lx.Lx} {k sp:Nat} (h:Zip t (q++[(k,sp)]) L):Zip (t.modify sp (aF ((t.length:Int) - (sp:Int)))) q (L++[nB]):=by
 generalize hq:q++[(k,sp)]=q' at h
 cases h with
 | base hF=>simp at hq
 | @push t0 G q0 L0 M k' pl hz hG hk =>
  obtain⟨rfl,h2⟩:=List.append_inj' hq rfl
  simp only[List.cons.injEq,Prod.mk.injEq,and_true]at h2
  obtain⟨rfl,rfl⟩:=h2
  rw[SW]
  have hs:aF (((t0++⟨k,aA,pl,1⟩::G).length:Int) - (t0.length:Int)) ⟨k,aA,pl,1⟩=⟨k,aA,pl,(G.length:Int)+1⟩:=by
   unfold aF
   simp only[List.length_append,List.length_cons,Nd.mk.injEq,true_and]
   omega
  rw[hs]
  cases hz with
  | base hF =>
   refine .base ?_
   have:=hF.node k pl hG hk
   simpa using this
  | @push t1 G1 q1 L1 M1 k1 pl1 hz1 hG1 hk1 =>
   have:=Zip.push k1 pl1 hz1 (hG1.node k pl hG hk) hk1
   simpa using this
end Go.Proofs.YtgpihfacmpbpaaaGreatDoor.Tr
namespace Go.Proofs.YtgpihfacmpbpaaaGreatDoor.Tr
open Go.RowKit
structure Lv where
 kind:Nat
 start:Nat
 lists:Nat
 parts:Nat
 rank:Nat
 lW:Nat
 iO:Bool
 bytes:Nat
structure St where
 lv:List Lv
 nodes:Nat
 deep:Bool
 fM:Bool
def fN:Lv:=⟨95,0,0,0,0,0,false,0⟩
def KI:St:=⟨[fN],0,false,false⟩
def jQ:ByteArray:={ data:=#[46,101,115,110] }
def rk (a b:Nat):Nat :=
 if a=95 then (if cM b kX then 1 else 0)
 else if cM a fB then (if cM b jQ then 1 else 0)
 else if a=108 then (if b=105 then 1 else 0)
 else if a=105 then (if cM b jQ then 1 else if b=108 then 2 else 0)
 else if a=116 then (if b=114 then 1 else 0)
 else if a=114 then (if b=99 then 1 else 0)
 else 0
def aT (l:List Lv):Lv:=l.getD (l.length - 1) fN
def tJ (k:Nat):Bool:=k==101 || k==115 || k==110
def gR (l:List Lv) (k:Nat):Nat→Option Nat
 | 0=>none
 | n+1=>if tJ (l.getD n fN).kind then (if (l.getD n fN).kind=k then some n else gR l k n) else none
def cX (l:List Lv) (k:Nat):Option Nat:=gR l k l.length
def dF (l:List Lv):Nat→Nat
 | 0=>0
 | n+1=>if tJ (l.getD n fN).kind then dF l n else n
def aR (l:List Lv):Nat:=dF l l.length
def fR (l:List Lv) (k:Nat):Bool :=
 if rk (aT l).kind k=0∨rk (aT l).kind k<(aT l).rank then false
 else if k=99 then decide ((aT l).parts<8)
 else if k=101∨k=115 then (cX l k).isNone
 else if k=110 then decide ((l.getD (aR l) fN).kind≠99) && !(l.getD (aR l) fN).iO
 else true
def fY (k:Nat) (b:Lv):Lv:={ b with parts:=b.parts+1,rank:=rk b.kind k }
def iP (b:Lv):Lv:={ b with iO:=true }
def lB (n:Nat) (b:Lv):Lv:={ b with bytes:=b.bytes+n }
def oZ (n:Nat) (b:Lv):Lv:={ b with lW:=n }
def bB (o:St) (k:Nat):St:={ o with lv:=o.lv.modify (o.lv.length - 1) (fY k),nodes:=o.nodes+1,fM:=o.fM || decide (2000<o.nodes+1) }
def kA (o:St) (k:Nat):Lv:=⟨k,o.nodes,(aT o.lv).lists+(if k=108 then 1 else 0),0,0,0,false,0⟩
def bD (o:St) (k:Nat):St:=if k=110 then { o with lv:=o.lv.modify (aR o.lv) iP } else o
def cQ (o:St) (k:Nat):St :=
 let o2:=bB (bD o k) k
 { o2 with lv:=o2.lv++[kA o k],deep:=o.deep || decide (32<o.lv.length) || decide (8<(kA o k).lists) }
def kP (o:St) (n:Nat):St :=
 match cX o.lv 110 with
 | none=>bB o 46
 | some i=>{ bB o 46 with lv:=(bB o 46).lv.modify i (lB n),fM:=(bB o 46).fM || decide (60<(o.lv.getD i fN).bytes+n) }
def dG (o:St):Bool :=
 if o.lv.length≤1 then false
 else if (aT o.lv).kind=108∨(aT o.lv).kind=116 then decide (0<(aT o.lv).parts)
 else if (aT o.lv).kind=114 then decide (0<(aT o.lv).parts) && ((o.lv.getD (o.lv.length - 2) fN).lW==0 || (o.lv.getD (o.lv.length - 2) fN).lW==(aT o.lv).parts)
 else true
def cY (o:St):St :=
 { o with lv:=if (aT o.lv).kind=114∧(o.lv.getD (o.lv.length - 2) fN).lW=0 then (o.lv.take (o.lv.length - 1)).modify (o.lv.length - 2) (oZ (aT o.lv).parts) else o.lv.take (o.lv.length - 1) }
def fO (o:St):Nat:=if o.deep then 5 else if o.fM then 4 else 0
def qT (a:Op):Nat:=if a.kids.size=0 then 0 else if a.kind=105∧cM 108 a.kids=true then 2 else 1
structure KJ (i:Nat) (a:Op) (b:Lv):Prop where
 kind:b.kind=if i=0 then 95 else a.kind
 start:b.start=a.spot
 parts:b.parts=a.kids.size
 rank:b.rank=qT a
 lW:b.lW=a.first
 iO:b.iO=decide (0<a.notes)
 bytes:b.bytes=a.text.size
structure Rel (p:List Op) (l:List Lv):Prop where
 len:p.length=l.length
 pos:0<p.length
 one:∀ i,i<p.length→KJ i (p.getD i root) (l.getD i fN)
 lists:∀ i,i<p.length→(l.getD i fN).lists=((p.take (i+1)).drop 1).countP fun o=>o.kind==108
 KK:(p.getD 0 root).kind=0
 CI:∀ i,i+1<p.length→(p.getD (i+1) root).kind≠46∧(p.getD (i+1) root).kind≠95∧rk (l.getD i fN).kind (l.getD (i+1) fN).kind≠0
 notes:∀ i,i<p.length→(l.getD i fN).kind=110→(l.getD (dF l i) fN).iO=true
theorem getD_modify {α:Type} (l:List α) (j:Nat) (f:α→α) (i:Nat) (d:α):(l.modify j f).getD i d=if j=i∧i<l.length then f (l.getD i d) else l.getD i d:=by
 rw[List.getD_eq_getElem?_getD,List.getElem?_modify,List.getD_eq_getElem?_getD]
 by_cases h:i<l.length
 ·rw[List.getElem?_eq_getElem h]
  by_cases hj:j=i
  ·simp[hj,h]
  ·simp[hj]
 ·rw[List.getElem?_eq_none (by omega)]
  simp[h]
theorem getD_take {α:Type} (l:List α) (n i:Nat) (d:α) (h:i<n):(l.take n).getD i d=l.getD i d:=by
 rw[List.getD_eq_getElem?_getD,List.getElem?_take,if_pos h,List.getD_eq_getElem?_getD]
theorem eL {α:Type} (l:List α) (x:α) (i:Nat) (d:α):(l++[x]).getD i d=if i<l.length then l.getD i d else if i=l.length then x else d:=by
 rw[List.getD_eq_getElem?_getD,List.getElem?_append]
 by_cases h:i<l.length
 ·rw[if_pos h,if_pos h,List.getD_eq_getElem?_getD]
 ·rw[if_neg h,if_neg h]
  by_cases h1:i=l.length
  ·subst h1;simp
  ·rw[if_neg h1,List.getElem?_eq_none (by simp;omega)];rfl
theorem gW (p:List Op) (_h:0<p.length):aZ p=p.getD (p.length - 1) root:=by
 unfold aZ
 rw[List.getLastD_eq_getLast?,List.getLast?_eq_getElem?,List.getD_eq_getElem?_getD]
end Go.Proofs.YtgpihfacmpbpaaaGreatDoor.Tr
namespace Go.Proofs.YtgpihfacmpbpaaaGreatDoor.Ts
open Go.RowKit Go.Maps
def XX (a b:Nat):Value:=.agg #[.int .u8 (a:Int),.int .u8 (b:Int)]
theorem laidOut:laidOutB Tryz.prog=true:=by kernel_rfl
theorem aA9:(152:TypeId)<Tryz.prog.types.size:=of_decide_eq_true (by kernel_rfl)
theorem XY:(match Tryz.prog.underlying 152 with | some (.array _ _) | some (.struct _)=>true | _=>false)=true:=by rw[Tryz.underlying152]
theorem aBA:Tryz.prog.keyTypeAt 2 152=true:=by kernel_rfl
set_option maxRecDepth 100000 in
theorem law:Keyed Tryz.prog 152:=Keyed.of_law (deep_law_laid laidOut (m:=2) (by omega) aA9 aBA XY)
theorem XZ:Tryz.prog.keyType 152=true:=by kernel_rfl
theorem aDO:Tryz.prog.cellsOf 152=2:=by kernel_rfl
theorem aBB:Tryz.prog.cellsOf 5=1:=by kernel_rfl
theorem aDP:∃ d,Tryz.prog.types.size+1=d+2:=⟨_,rfl⟩
theorem wf8 {a:Nat} (ha:a<256):(Lit.int .u8 (a:Int)).wf=true:=by
 have h:∀ k:Fin 256,(Lit.int .u8 ((k.val:Nat):Int)).wf=true:=by decide +kernel
 exact h ⟨a,ha⟩
def kl (a b:Nat):Lit:=.string (keyBytes [.int .u8 (a:Int),.int .u8 (b:Int)])
theorem CO {a b:Nat} (ha:a<256) (hb:b<256):keyOf Tryz.prog 152 (XX a b)=some (kl a b):=by
 obtain⟨d,hd⟩:=aDP
 have h1:=wf8 ha
 have h2:=wf8 hb
 unfold keyOf XX kl
 rw[Tryz.underlying152]
 simp only[XZ,hd]
 simp[Value.formed,Tryz.underlying152,aDO,Program.keyLits,Tryz.underlying5,aBB,h1,h2,Value.cells]
theorem aEM {a b a' b':Nat} (ha:a<256) (hb:b<256) (ha':a'<256) (hb':b'<256) (h:¬ (a=a'∧b=b')):kl a b≠kl a' b':=fun e=>by
 have:=law.inj (CO ha hb) (e▸CO ha' hb')
 unfold XX at this
 simp at this
 exact h ⟨by omega,by omega⟩
def aEN:DataW Unit:=.lit (.int .i64 0)
def iE (w:World) (B n:Nat) (f:Nat→Nat→Nat):Prop :=
 ∃ D:DataW Unit,w.ownsMap Tryz.prog 152 (plainElem Tryz.prog 3) B n D∧∀ a b,a<256→b<256→D.atKey (kl a b) aEN=.lit (.int .i64 (f a b:Int))
theorem iE.aX {w w':World} {B n:Nat} {f:Nat→Nat→Nat} (h:iE w B n f) (hb:w'.heap[B]?=w.heap[B]?):iE w' B n f:=by
 obtain⟨D,⟨es,clock,h1,h2⟩,h3⟩:=h
 exact⟨D,⟨es,clock,hb.trans h1,h2⟩,h3⟩
theorem iE.lt {w:World} {B n:Nat} {f:Nat→Nat→Nat} (h:iE w B n f):B<w.heap.size:=by
 obtain⟨D,h1,_⟩:=h
 exact h1.lt
theorem iE.new (w:World):iE (w.alloc (.map #[] 0)) w.heap.size 0 fun _ _=>0 :=
 ⟨_,World.ownsMap_made w _ _ _,fun _ _ _ _=>rfl⟩
theorem aBC (w:World):(zeroValue 3).run Tryz.prog w=.ok (.int .i64 0) w:=by kernel_rfl
theorem iE.look {w:World} {B n:Nat} {f:Nat→Nat→Nat} (h:iE w B n f) {a b:Nat} (ha:a<256) (hb:b<256) :
  (Instr.lookup 61 (.map (some B)) (.agg #[.int .u8 (a:Int),.int .u8 (b:Int)]) false).run Tryz.prog w=.ok (.int .i64 (f a b:Int)) w:=by
 obtain⟨D,h1,h2⟩:=h
 obtain⟨c,hr,hat,_⟩:=h1.lookup_int law Tryz.underlying61 Tryz.underlying3 (aBC w) (CO ha hb)
 have:=h2 a b ha hb
 unfold aEN at this
 rw[hat]at this
 simp only[DataW.lit.injEq,Lit.int.injEq,true_and]at this
 rw[← this]
 exact hr
def upd (f:Nat→Nat→Nat) (a b r:Nat):Nat→Nat→Nat:=fun x y=>if x=a∧y=b then r else f x y
theorem iE.put {w:World} {B n:Nat} {f:Nat→Nat→Nat} (h:iE w B n f) (hn:n<100000) {a b r:Nat} (ha:a<256) (hb:b<256) (hr:r<1000) :
  ∃ w',(Instr.mapUpdate 61 (.map (some B)) (.agg #[.int .u8 (a:Int),.int .u8 (b:Int)]) (.int .i64 (r:Int))).run Tryz.prog w=.ok () w'∧iE w' B (n+1) (upd f a b r)∧w.grownBy w' (some B):=by
 obtain⟨D,h1,h2⟩:=h
 obtain⟨w',e1,e2,e3⟩:=h1.update law Tryz.underlying61 (by unfold maxLen;omega) (CO ha hb) (plainElem_int Tryz.underlying3 (a:=(r:Int)) (WalkArith.wf_i64 (by omega)))
 refine⟨w',e1,⟨_,e2,fun x y hx hy=>?_⟩,e3⟩
 unfold upd
 by_cases he:x=a∧y=b
 ·rw[if_pos he,he.1,he.2]
  exact Maps.atKey_put_same h1.isMap (law.key (CO ha hb)) _ _
 ·rw[if_neg he,Maps.atKey_put_other (aEM hx hy ha hb he)]
  exact h2 x y hx hy
end Go.Proofs.YtgpihfacmpbpaaaGreatDoor.Ts
