/-
  Put together.
-/
import Derived.Test.YthbigkoihpgcfaaGreatDoorVa
import Derived.Test.YthbigkoihpgcfaaGreatDoorRows
import Derived.WalkKit
import Derived.WalkSpells
import Derived.Lib.Hide
import Derived.Maps.OwnOps
import Derived.Maps.Views
import Derived.Maps.OwnSet
import Derived.DeepKeys4
set_option maxRecDepth 100000
set_option maxHeartbeats 16000000
namespace Go.Proofs.YthbigkoihpgcfaaGreatDoor.Tr
open Go.RowKit
structure Nd where
 kind:Nat
 text:ByteArray
 place:Int
 size:Int
structure Op where
 kind:Nat
 kids:ByteArray
 spot:Nat
 notes:Nat
 first:Nat
 text:ByteArray
abbrev cJ:ByteArray:=Lx.cJ
def root:Op:=⟨0,cJ,0,0,0,cJ⟩
def EC (k:Nat) (s:ByteArray):Bool:=(Lx.aA s).contains k
def P8:ByteArray:={ data:=#[49,50,51,112,99,110,101,115] }
def FR:ByteArray:={ data:=#[49,50,51,112,105] }
def ZF:ByteArray:={ data:=#[49,50,51,112,108,116,107] }
def ZG:ByteArray:={ data:=#[110] }
def aDQ:ByteArray:={ data:=#[101,115,110] }
def aE0:ByteArray:={ data:=#[108,116,114] }
def jZ (k:Nat):ByteArray:=Lx.bytesOf [k]
def T4 (p:List Op):Op:=p.getLastD root
def FQ (p:List Op):Bool:=EC (T4 p).kind P8 || ((T4 p).kind==105 && !EC 108 (T4 p).kids)
def aDE (p:List Op) (ks:ByteArray):Nat→Nat
 | 0=>0
 | n+1=>if n=0 then 0 else if EC (p.getD n root).kind ks then n else aDE p ks n
def DN (p:List Op) (ks:ByteArray):Nat:=aDE p ks p.length
def ZH (p:List Op) (k:Nat):Nat:=((p.drop 1).filter fun o=>o.kind==k).length
def ZI (k:Nat) (o:Op):Op:={ o with kids:=o.kids++jZ k }
def aCG (s:ByteArray) (o:Op):Op:={ o with text:=o.text++s }
def aCH (o:Op):Op:={ o with notes:=o.notes+1 }
def ZJ (n:Nat) (o:Op):Op:={ o with first:=n }
def aU (n:Int) (x:Nd):Nd:={ x with size:=n }
def ZE (st:List Nd × List Op) (x:Lx.Lx):List Nd × List Op :=
 let t:=st.1
 let p:=st.2
 let top:=p.length - 1
 if x.kind=1 then
  if FQ p then
   let p1:=p.modify top (ZI 46)
   let n:=DN p1 ZG
   (t++[⟨46,x.text,(x.place:Int),1⟩],if 0<n then p1.modify n (aCG x.text) else p1)
  else (t,p)
 else if x.kind=2 then
  let p1:=p.modify top (ZI x.name)
  let p2:=if x.name=110 then p1.modify (DN p1 FR) aCH else p1
  (t++[⟨x.name,cJ,(x.place:Int),1⟩],p2++[⟨x.name,cJ,t.length,0,0,cJ⟩])
 else
  let o:=T4 p
  let t1:=t.modify o.spot (aU ((t.length:Int) - (o.spot:Int)))
  let p1:=if o.kind=114∧(p.getD (top - 1) root).first=0 then p.modify (top - 1) (ZJ o.kids.size) else p
  (t1,p1.take top)
def aDF (l:List Lx.Lx):List Nd × List Op:=l.foldl ZE ([],[root])
theorem aFX (l:List Lx.Lx) (x:Lx.Lx):aDF (l++[x])=ZE (aDF l) x:=by unfold aDF;rw[List.foldl_append];rfl
def aEJ (p:List Op) (k:Nat):Bool :=
 let x:=T4 p
 if p.length=1 then EC k ZF
 else if (x.kind=105∧k=108)∨(x.kind=108∧k=105)∨(x.kind=116∧k=114) then true
 else if x.kind=114 then decide (k=99∧x.kids.size<8)
 else if FQ p=false∨EC k aDQ=false∨0<ZH p k then false
 else if k≠110 then true
 else decide (ZH p 99=0∧0<DN p FR∧(p.getD (DN p FR) root).notes=0)
def aEK (s:ByteArray):Option Nat:=(List.range s.size).find? fun i=>!Lx.aC8 (Lx.aV s i)
def tO (t:List Nd) (p:List Op) (x:Lx.Lx):Nat × Nat :=
 if x.kind=1 then
  if FQ p=false then (match aEK x.text with | some i=>(x.place+i,2) | none=>(0,0))
  else if 2000≤t.length∨(0<DN p ZG∧60<(p.getD (DN p ZG) root).text.size+x.text.size) then (x.place,4)
  else (0,0)
 else if x.kind=2 then
  if aEJ p x.name=false then (x.place,2)
  else if 32<p.length∨(x.name=108∧8≤ZH p 108) then (x.place,5)
  else if 2000≤t.length then (x.place,4)
  else (0,0)
 else
  let o:=T4 p
  if p.length=1∨(EC o.kind aE0=true∧o.kids.size=0) then (x.place,2)
  else if o.kind=114∧0<(p.getD (p.length - 2) root).first∧(p.getD (p.length - 2) root).first≠o.kids.size then (x.place,2)
  else (0,0)
def P9 (st:List Nd × List Op):List Lx.Lx→Option (Nat × Nat)
 | []=>none
 | x::l=>if (tO st.1 st.2 x).2=0 then P9 (ZE st x) l else some (tO st.1 st.2 x)
theorem aI3 (p:List Op) (ks:ByteArray):∀ n,aDE p ks n≤n - 1
 | 0=>by simp[aDE]
 | n+1=>by
  unfold aDE
  by_cases h:n=0
  ·rw[if_pos h];omega
  ·rw[if_neg h]
   by_cases hi:EC (p.getD n root).kind ks=true
   ·rw[if_pos hi];omega
   ·rw[if_neg hi];have:=aI3 p ks n;omega
theorem aIS {p:List Op} (ks:ByteArray) (h:0<p.length):DN p ks<p.length:=by
 have:=aI3 p ks p.length
 unfold DN;omega
def txL (s:ByteArray):Lx.Lx:=⟨1,0,s,0⟩
def opL (k:Nat):Lx.Lx:=⟨2,k,cJ,0⟩
def clL:Lx.Lx:=⟨3,0,cJ,0⟩
def evF (t:List Nd):Nat→Nat→Nat→Option (List Lx.Lx)
 | 0,a,e=>if a<e then none else some []
 | n+1,a,e=>if a<e then
   match t[a]? with
   | none=>none
   | some x =>
    if x.size<1∨(e:Int)<(a:Int)+x.size then none
    else if x.kind=46 then (if x.size=1 then (evF t n (a+1) e).map (txL x.text::·) else none)
    else (evF t n (a+1) (a+x.size.toNat)).bind fun M=>(evF t n (a+x.size.toNat) e).map fun R=>opL x.kind::(M++clL::R)
  else some []
def evA (t:List Nd) (a e:Nat):Option (List Lx.Lx):=evF t (e - a) a e
theorem aFT (t:List Nd):∀ n m a e,e - a≤n→e - a≤m→evF t n a e=evF t m a e
 | 0,0,_,_,_,_=>rfl
 | 0,m+1,a,e,h,_=>by unfold evF;rw[if_neg (by omega),if_neg (by omega)]
 | n+1,0,a,e,_,h=>by unfold evF;rw[if_neg (by omega),if_neg (by omega)]
 | n+1,m+1,a,e,h1,h2=>by
  unfold evF
  by_cases h:a<e
  ·rw[if_pos h,if_pos h]
   cases hx:t[a]? with
   | none=>rfl
   | some x =>
    simp only[]
    by_cases hs:x.size<1∨(e:Int)<(a:Int)+x.size
    ·rw[if_pos hs,if_pos hs]
    ·rw[if_neg hs,if_neg hs,aFT t n m (a+1) e (by omega) (by omega),aFT t n m (a+1) (a+x.size.toNat) (by omega) (by omega),aFT t n m (a+x.size.toNat) e (by omega) (by omega)]
  ·rw[if_neg h,if_neg h]
theorem aG1 (t:List Nd) (a e:Nat) (h:e≤a):evA t a e=some []:=by
 unfold evA
 rw[show e - a=0 from by omega];unfold evF;rw[if_neg (by omega)]
theorem aG2 (t:List Nd) (a e:Nat) (h:a<e):evA t a e =
  match t[a]? with
  | none=>none
  | some x =>
   if x.size<1∨(e:Int)<(a:Int)+x.size then none
   else if x.kind=46 then (if x.size=1 then (evA t (a+1) e).map (txL x.text::·) else none)
   else (evA t (a+1) (a+x.size.toNat)).bind fun M=>(evA t (a+x.size.toNat) e).map fun R=>opL x.kind::(M++clL::R):=by
 unfold evA
 obtain⟨n,hn⟩:∃ n,e - a=n+1:=⟨e - a - 1,by omega⟩
 conv=>lhs;rw[hn];unfold evF
 rw[if_pos h]
 cases hx:t[a]? with
 | none=>rfl
 | some x =>
  simp only[]
  by_cases hs:x.size<1∨(e:Int)<(a:Int)+x.size
  ·rw[if_pos hs,if_pos hs]
  ·rw[if_neg hs,if_neg hs,aFT t n (e - (a+1)) (a+1) e (by omega) (by omega),aFT t n (a+x.size.toNat - (a+1)) (a+1) (a+x.size.toNat) (by omega) (by omega),aFT t n (e - (a+x.size.toNat)) (a+x.size.toNat) e (by omega) (by omega)]
theorem aK8 {t:List Nd} {a e:Nat} {x:Nd} (h:a<e) (hx:t[a]?=some x) (hk:x.kind=46) (hs:x.size=1):evA t a e=(evA t (a+1) e).map (txL x.text::·):=by
 rw[aG2 t a e h,hx]
 simp only[]
 rw[if_neg (by omega),if_pos hk,if_pos hs]
theorem aK9 {t:List Nd} {a e n:Nat} {x:Nd} (hx:t[a]?=some x) (hk:x.kind≠46) (hs:x.size=(n:Int)) (h1:1≤n) (h2:a+n≤e) :
  evA t a e=(evA t (a+1) (a+n)).bind fun M=>(evA t (a+n) e).map fun R=>opL x.kind::(M++clL::R):=by
 rw[aG2 t a e (by omega),hx]
 simp only[]
 rw[if_neg (by omega),if_neg hk,hs,Int.toNat_natCast]
theorem aHK (t:List Nd):∀ n a b c L M,b - a≤n→a≤b→b≤c→evA t a b=some L→evA t b c=some M→evA t a c=some (L++M)
 | 0,a,b,c,L,M,hn,hab,hbc,h1,h2=>by
  obtain rfl:a=b:=by omega
  rw[aG1 t a a (Nat.le_refl _)]at h1
  cases h1;exact h2
 | n+1,a,b,c,L,M,hn,hab,hbc,h1,h2=>by
  rcases Nat.eq_or_lt_of_le hab with rfl | hlt
  ·rw[aG1 t a a (Nat.le_refl _)]at h1
   cases h1;exact h2
  rw[aG2 t a b hlt]at h1
  rw[aG2 t a c (by omega)]
  cases hx:t[a]? with
  | none=>rw[hx]at h1;cases h1
  | some x =>
   rw[hx]at h1
   simp only[]at h1 ⊢
   by_cases hs:x.size<1∨(b:Int)<(a:Int)+x.size
   ·rw[if_pos hs]at h1;cases h1
   rw[if_neg hs]at h1
   rw[if_neg (by omega)]
   by_cases hk:x.kind=46
   ·rw[if_pos hk]at h1 ⊢
    by_cases h5:x.size=1
    ·rw[if_pos h5]at h1 ⊢
     obtain⟨R,hR,rfl⟩:=Option.map_eq_some_iff.1 h1
     rw[aHK t n (a+1) b c R M (by omega) (by omega) hbc hR h2];rfl
    ·rw[if_neg h5]at h1;cases h1
   ·rw[if_neg hk]at h1 ⊢
    obtain⟨K,hK,h3⟩:=Option.bind_eq_some_iff.1 h1
    obtain⟨R,hR,rfl⟩:=Option.map_eq_some_iff.1 h3
    rw[hK,Option.bind_some,aHK t n (a+x.size.toNat) b c R M (by omega) (by omega) hbc hR h2]
    simp
inductive Wf:List Nd→List Lx.Lx→Prop where
 | nil:Wf [] []
 | text {F:List Nd} {L:List Lx.Lx} (s:ByteArray) (pl:Int):Wf F L→Wf (F++[⟨46,s,pl,1⟩]) (L++[txL s])
 | node {F G:List Nd} {L M:List Lx.Lx} (k:Nat) (pl:Int):Wf F L→Wf G M→k≠46→Wf (F++⟨k,cJ,pl,(G.length:Int)+1⟩::G) (L++opL k::(M++[clL]))
theorem Wf.app {F:List Nd} {L:List Lx.Lx} (h:Wf F L):∀ {G:List Nd} {M:List Lx.Lx},Wf G M→Wf (F++G) (L++M):=by
 intro G M hG
 induction hG with
 | nil=>simpa using h
 | text s pl _ ih=>rw[← List.append_assoc,← List.append_assoc];exact ih.text s pl
 | node k pl _ hG2 hk ih _=>rw[← List.append_assoc,← List.append_assoc];exact ih.node k pl hG2 hk
theorem aMT {F:List Nd} {L:List Lx.Lx} (h:Wf F L):∀ pre post:List Nd,evA (pre++(F++post)) pre.length (pre.length+F.length)=some L:=by
 induction h with
 | nil=>intro pre post;exact aG1 _ _ _ (by simp)
 | @text F L s pl _ ih =>
  intro pre post
  have h1:=ih pre (⟨46,s,pl,1⟩::post)
  have hx:(pre++(F++⟨46,s,pl,1⟩::post))[pre.length+F.length]?=some ⟨46,s,pl,1⟩:=by
   rw[List.getElem?_append_right (by omega),List.getElem?_append_right (by omega)];simp
  have h2:evA (pre++(F++⟨46,s,pl,1⟩::post)) (pre.length+F.length) (pre.length+F.length+1)=some [txL s]:=by
   rw[aK8 (by omega) hx rfl rfl,aG1 _ _ _ (by omega)];rfl
  have:=aHK _ _ _ _ (pre.length+F.length+1) _ _ (Nat.le_refl _) (by omega) (by omega) h1 h2
  rw[List.append_assoc,List.singleton_append,List.length_append]
  exact this
 | @node F G L M k pl _ _ hk ih1 ih2 =>
  intro pre post
  have h1:=ih1 pre (⟨k,cJ,pl,(G.length:Int)+1⟩::(G++post))
  have hx:(pre++(F++⟨k,cJ,pl,(G.length:Int)+1⟩::(G++post)))[pre.length+F.length]?=some ⟨k,cJ,pl,(G.length:Int)+1⟩:=by
   rw[List.getElem?_append_right (by omega),List.getElem?_append_right (by omega)];simp
  have h3:=ih2 (pre++(F++[⟨k,cJ,pl,(G.length:Int)+1⟩])) post
  have e1:pre++(F++[⟨k,cJ,pl,(G.length:Int)+1⟩])++(G++post)=pre++(F++⟨k,cJ,pl,(G.length:Int)+1⟩::(G++post)):=by simp
  have e2:(pre++(F++[(⟨k,cJ,pl,(G.length:Int)+1⟩:Nd)])).length=pre.length+F.length+1:=by simp;omega
  rw[e1,e2]at h3
  have h2:evA (pre++(F++⟨k,cJ,pl,(G.length:Int)+1⟩::(G++post))) (pre.length+F.length) (pre.length+F.length+(G.length+1))=some (opL k::(M++[clL])):=by
   rw[aK9 (n:=G.length+1) hx hk (by simp) (by omega) (by omega),show pre.length+F.length+(G.length+1)=pre.length+F.length+1+G.length from by omega,h3,Option.bind_some,aG1 _ _ _ (Nat.le_refl _)]
   rfl
  have:=aHK _ _ _ _ (pre.length+F.length+(G.length+1)) _ _ (Nat.le_refl _) (by omega) (by omega) h1 h2
  rw[show (F++(⟨k,cJ,pl,(G.length:Int)+1⟩:Nd)::G).length=F.length+(G.length+1) from by simp,← Nat.add_assoc pre.length,List.append_assoc,List.cons_append]
  exact this
theorem aMD {F:List Nd} {L:List Lx.Lx} (h:Wf F L):evA F 0 F.length=some L:=by
 have:=aMT h [] []
 simpa using this
def aEI (x:Nd):Bool:=(if x.kind=46 then decide (x.text.size≠0) else decide (x.text.size=0∧(Lx.J3 x.kind).size≠0)) && (Lx.aA x.text).all Lx.okT
def aFK (st:List Nd × List Op) (d b:Bool):List Lx.Lx→Nat
 | []=>if d then 5 else if b then 4 else 0
 | x::l=>if (x.kind=1∧FQ st.2=false)∨(tO st.1 st.2 x).2=2 then 2
  else aFK (ZE st x) (d || decide ((tO st.1 st.2 x).2=5)) (b || decide ((tO st.1 st.2 x).2=4)) l
def NN (t:List Nd):Nat :=
 if t.all aEI=false then 2 else match evA t 0 t.length with | none=>2 | some l=>aFK ([],[root]) false false l
def okR (st:List Nd × List Op):List Lx.Lx→Prop
 | []=>True
 | x::l=>¬ (x.kind=1∧FQ st.2=false)∧(tO st.1 st.2 x).2=0∧okR (ZE st x) l
theorem aH2 (t:List Nd) (p:List Op) (x:Lx.Lx):(tO t p x).2=0∨(tO t p x).2=2∨(tO t p x).2=4∨(tO t p x).2=5:=by
 unfold tO
 dsimp only
 repeat' split
 all_goals simp
theorem aJ0:∀ (l:List Lx.Lx) (st:List Nd × List Op) (d b:Bool),aFK st d b l=0↔d=false∧b=false∧okR st l
 | [],st,d,b=>by cases d<;>cases b<;>simp[aFK,okR]
 | x::l,st,d,b=>by
  unfold aFK okR
  by_cases h:(x.kind=1∧FQ st.2=false)∨(tO st.1 st.2 x).2=2
  ·rw[if_pos h]
   constructor
   ·intro e;cases e
   ·rintro⟨_,_,h1,h2,_⟩
    rcases h with h | h
    ·exact absurd h h1
    ·rw[h]at h2;cases h2
  ·rw[if_neg h,aJ0 l]
   have h1:¬ (x.kind=1∧FQ st.2=false):=fun e=>h (.inl e)
   have h2:(tO st.1 st.2 x).2≠2:=fun e=>h (.inr e)
   rcases aH2 st.1 st.2 x with e | e | e | e
   ·simp[e,h1]
   ·exact absurd e h2
   ·simp[e]
   ·simp[e]
theorem aH5 (t:List Nd):NN t=0↔(∀ x ∈ t,aEI x=true)∧∃ l,evA t 0 t.length=some l∧okR ([],[root]) l:=by
 unfold NN
 by_cases h:t.all aEI=false
 ·rw[if_pos h]
  constructor
  ·intro e;cases e
  ·rintro⟨h1,_⟩
   rw[List.all_eq_true.2 h1]at h;cases h
 ·rw[if_neg h]
  have h':t.all aEI=true:=by simpa using h
  rw[List.all_eq_true]at h'
  cases he:evA t 0 t.length with
  | none=>simp
  | some l =>
   simp only[]
   rw[aJ0]
   constructor
   ·rintro⟨_,_,h3⟩;exact⟨h',l,rfl,h3⟩
   ·rintro⟨_,l',h2,h3⟩;cases h2;exact⟨rfl,rfl,h3⟩
theorem aGH:∀ (l:List Lx.Lx) (st:List Nd × List Op) (x:Lx.Lx),okR st (l++[x])↔okR st l∧¬ (x.kind=1∧FQ (l.foldl ZE st).2=false)∧(tO (l.foldl ZE st).1 (l.foldl ZE st).2 x).2=0
 | [],st,x=>by simp[okR]
 | y::l,st,x=>by
  rw[List.cons_append]
  unfold okR
  rw[aGH l,List.foldl_cons]
  simp only[and_assoc]
structure Lv where
 kind:Nat
 start:Nat
 lists:Nat
 parts:Nat
 rank:Nat
 oQ:Nat
 tQ:Bool
 bytes:Nat
structure St where
 lv:List Lv
 nodes:Nat
 deep:Bool
 tR:Bool
def sD:Lv:=⟨95,0,0,0,0,0,false,0⟩
def st0:St:=⟨[sD],0,false,false⟩
def ZK:ByteArray:={ data:=#[46,101,115,110] }
def rk (a b:Nat):Nat :=
 if a=95 then (if EC b ZF then 1 else 0)
 else if EC a P8 then (if EC b ZK then 1 else 0)
 else if a=108 then (if b=105 then 1 else 0)
 else if a=105 then (if EC b ZK then 1 else if b=108 then 2 else 0)
 else if a=116 then (if b=114 then 1 else 0)
 else if a=114 then (if b=99 then 1 else 0)
 else 0
def cH (l:List Lv):Lv:=l.getD (l.length - 1) sD
def inT (k:Nat):Bool:=k==101 || k==115 || k==110
def gJ (l:List Lv) (k:Nat):Nat→Option Nat
 | 0=>none
 | n+1=>if inT (l.getD n sD).kind then (if (l.getD n sD).kind=k then some n else gJ l k n) else none
def eC (l:List Lv) (k:Nat):Option Nat:=gJ l k l.length
def oD (l:List Lv):Nat→Nat
 | 0=>0
 | n+1=>if inT (l.getD n sD).kind then oD l n else n
def lJ (l:List Lv):Nat:=oD l l.length
def pU (l:List Lv) (k:Nat):Bool :=
 if rk (cH l).kind k=0∨rk (cH l).kind k<(cH l).rank then false
 else if k=99 then decide ((cH l).parts<8)
 else if k=101∨k=115 then (eC l k).isNone
 else if k=110 then decide ((l.getD (lJ l) sD).kind≠99) && !(l.getD (lJ l) sD).tQ
 else true
def l5 (k:Nat) (b:Lv):Lv:={ b with parts:=b.parts+1,rank:=rk b.kind k }
def K3 (b:Lv):Lv:={ b with tQ:=true }
def nL (n:Nat) (b:Lv):Lv:={ b with bytes:=b.bytes+n }
def tS (n:Nat) (b:Lv):Lv:={ b with oQ:=n }
def bE (o:St) (k:Nat):St:={ o with lv:=o.lv.modify (o.lv.length - 1) (l5 k),nodes:=o.nodes+1,tR:=o.tR || decide (2000<o.nodes+1) }
def kG (o:St) (k:Nat):Lv:=⟨k,o.nodes,(cH o.lv).lists+(if k=108 then 1 else 0),0,0,0,false,0⟩
def bG (o:St) (k:Nat):St:=if k=110 then { o with lv:=o.lv.modify (lJ o.lv) K3 } else o
def lK (o:St) (k:Nat):St :=
 let o2:=bE (bG o k) k
 { o2 with lv:=o2.lv++[kG o k],deep:=o.deep || decide (32<o.lv.length) || decide (8<(kG o k).lists) }
def vS (o:St) (n:Nat):St :=
 match eC o.lv 110 with
 | none=>bE o 46
 | some i=>{ bE o 46 with lv:=(bE o 46).lv.modify i (nL n),tR:=(bE o 46).tR || decide (60<(o.lv.getD i sD).bytes+n) }
def jA (o:St):Bool :=
 if o.lv.length≤1 then false
 else if (cH o.lv).kind=108∨(cH o.lv).kind=116 then decide (0<(cH o.lv).parts)
 else if (cH o.lv).kind=114 then decide (0<(cH o.lv).parts) && ((o.lv.getD (o.lv.length - 2) sD).oQ==0 || (o.lv.getD (o.lv.length - 2) sD).oQ==(cH o.lv).parts)
 else true
def gC (o:St):St :=
 { o with lv:=if (cH o.lv).kind=114∧(o.lv.getD (o.lv.length - 2) sD).oQ=0 then (o.lv.take (o.lv.length - 1)).modify (o.lv.length - 2) (tS (cH o.lv).parts) else o.lv.take (o.lv.length - 1) }
def tT (o:St):Nat:=if o.deep then 5 else if o.tR then 4 else 0
def aGD (a:Op):Nat:=if a.kids.size=0 then 0 else if a.kind=105∧EC 108 a.kids=true then 2 else 1
structure aI4 (i:Nat) (a:Op) (b:Lv):Prop where
 kind:b.kind=if i=0 then 95 else a.kind
 start:b.start=a.spot
 parts:b.parts=a.kids.size
 rank:b.rank=aGD a
 oQ:b.oQ=a.first
 tQ:b.tQ=decide (0<a.notes)
 bytes:b.bytes=a.text.size
structure Rel (p:List Op) (l:List Lv):Prop where
 len:p.length=l.length
 pos:0<p.length
 one:∀ i,i<p.length→aI4 i (p.getD i root) (l.getD i sD)
 lists:∀ i,i<p.length→(l.getD i sD).lists=((p.take (i+1)).drop 1).countP fun o=>o.kind==108
 aI5:(p.getD 0 root).kind=0
 aHT:∀ i,i+1<p.length→(p.getD (i+1) root).kind≠46∧(p.getD (i+1) root).kind≠95∧rk (l.getD i sD).kind (l.getD (i+1) sD).kind≠0
 notes:∀ i,i<p.length→(l.getD i sD).kind=110→(l.getD (oD l i) sD).tQ=true
theorem getD_modify {α:Type} (l:List α) (j:Nat) (f:α→α) (i:Nat) (d:α):(l.modify j f).getD i d=if j=i∧i<l.length then f (l.getD i d) else l.getD i d:=by
 rw[List.getD_eq_getElem?_getD,List.getElem?_modify,List.getD_eq_getElem?_getD]
 by_cases h:i<l.length
 ·rw[List.getElem?_eq_getElem h]
  by_cases hj:j=i
  ·simp[hj,h]
  ·simp[hj]
 ·rw[List.getElem?_eq_none (by omega)]
  simp[h]
theorem getD_take {α:Type} (l:List α) (n i:Nat) (d:α) (h:i<n):(l.take n).getD i d=l.getD i d:=by
 rw[List.getD_eq_getElem?_getD,List.getElem?_take,if_pos h,List.getD_eq_getElem?_getD]
theorem T5 {α:Type} (l:List α) (x:α) (i:Nat) (d:α):(l++[x]).getD i d=if i<l.length then l.getD i d else if i=l.length then x else d:=by
 rw[List.getD_eq_getElem?_getD,List.getElem?_append]
 by_cases h:i<l.length
 ·rw[if_pos h,if_pos h,List.getD_eq_getElem?_getD]
 ·rw[if_neg h,if_neg h]
  by_cases h1:i=l.length
  ·subst h1;simp
  ·rw[if_neg h1,List.getElem?_eq_none (by simp;omega)];rfl
theorem aE5 (p:List Op) (_h:0<p.length):T4 p=p.getD (p.length - 1) root:=by
 unfold T4
 rw[List.getLastD_eq_getLast?,List.getLast?_eq_getElem?,List.getD_eq_getElem?_getD]
end Go.Proofs.YthbigkoihpgcfaaGreatDoor.Tr
namespace Go.Proofs.YthbigkoihpgcfaaGreatDoor.Ts
open Go.RowKit Go.Maps
def ZX (a b:Nat):Value:=.agg #[.int .u8 (a:Int),.int .u8 (b:Int)]
theorem laidOut:laidOutB Tryz.prog=true:=by kernel_rfl
theorem aCV:(209:TypeId)<Tryz.prog.types.size:=of_decide_eq_true (by kernel_rfl)
theorem ZY:(match Tryz.prog.underlying 209 with | some (.array _ _) | some (.struct _)=>true | _=>false)=true:=by rw[Tryz.underlying209]
theorem aCW:Tryz.prog.keyTypeAt 2 209=true:=by kernel_rfl
theorem law:Keyed Tryz.prog 209:=Keyed.of_law (deep_law_laid laidOut (m:=2) (by omega) aCV aCW ZY)
theorem ZZ:Tryz.prog.keyType 209=true:=by kernel_rfl
theorem cC:Tryz.prog.cellsOf 209=2:=by kernel_rfl
theorem FP:Tryz.prog.cellsOf 5=1:=by kernel_rfl
theorem FO:∃ d,Tryz.prog.types.size+1=d+2:=⟨_,rfl⟩
theorem wf8 {a:Nat} (ha:a<256):(Lit.int .u8 (a:Int)).wf=true:=by
 have h:∀ k:Fin 256,(Lit.int .u8 ((k.val:Nat):Int)).wf=true:=by decide +kernel
 exact h ⟨a,ha⟩
def kl (a b:Nat):Lit:=.string (keyBytes [.int .u8 (a:Int),.int .u8 (b:Int)])
theorem AV {a b:Nat} (ha:a<256) (hb:b<256):keyOf Tryz.prog 209 (ZX a b)=some (kl a b):=by
 obtain⟨d,hd⟩:=FO
 have h1:=wf8 ha
 have h2:=wf8 hb
 unfold keyOf ZX kl
 rw[Tryz.underlying209]
 simp only[ZZ,hd]
 simp[Value.formed,Tryz.underlying209,cC,Program.keyLits,Tryz.underlying5,FP,h1,h2,Value.cells]
theorem aFQ {a b a' b':Nat} (ha:a<256) (hb:b<256) (ha':a'<256) (hb':b'<256) (h:¬ (a=a'∧b=b')):kl a b≠kl a' b':=fun e=>by
 have:=law.inj (AV ha hb) (e▸AV ha' hb')
 unfold ZX at this
 simp at this
 exact h ⟨by omega,by omega⟩
def Y6:DataW Unit:=.lit (.int .i64 0)
def aY (w:World) (B n:Nat) (f:Nat→Nat→Nat):Prop :=
 ∃ D:DataW Unit,w.ownsMap Tryz.prog 209 (plainElem Tryz.prog 3) B n D∧∀ a b,a<256→b<256→D.atKey (kl a b) Y6=.lit (.int .i64 (f a b:Int))
theorem aY.of_block {w w':World} {B n:Nat} {f:Nat→Nat→Nat} (h:aY w B n f) (hb:w'.heap[B]?=w.heap[B]?):aY w' B n f:=by
 obtain⟨D,⟨es,clock,h1,h2⟩,h3⟩:=h
 exact⟨D,⟨es,clock,hb.trans h1,h2⟩,h3⟩
theorem aY.lt {w:World} {B n:Nat} {f:Nat→Nat→Nat} (h:aY w B n f):B<w.heap.size:=by
 obtain⟨D,h1,_⟩:=h
 exact h1.lt
theorem aY.new (w:World):aY (w.alloc (.map #[] 0)) w.heap.size 0 fun _ _=>0 :=
 ⟨_,World.ownsMap_made w _ _ _,fun _ _ _ _=>rfl⟩
theorem FN (w:World):(zeroValue 3).run Tryz.prog w=.ok (.int .i64 0) w:=by kernel_rfl
theorem aY.look {w:World} {B n:Nat} {f:Nat→Nat→Nat} (h:aY w B n f) {a b:Nat} (ha:a<256) (hb:b<256) :
  (Instr.lookup 148 (.map (some B)) (.agg #[.int .u8 (a:Int),.int .u8 (b:Int)]) false).run Tryz.prog w=.ok (.int .i64 (f a b:Int)) w:=by
 obtain⟨D,h1,h2⟩:=h
 obtain⟨c,hr,hat,_⟩:=h1.lookup_int law Tryz.underlying148 Tryz.underlying3 (FN w) (AV ha hb)
 have:=h2 a b ha hb
 unfold Y6 at this
 rw[hat]at this
 simp only[DataW.lit.injEq,Lit.int.injEq,true_and]at this
 rw[← this]
 exact hr
def upd (f:Nat→Nat→Nat) (a b r:Nat):Nat→Nat→Nat:=fun x y=>if x=a∧y=b then r else f x y
theorem aY.put {w:World} {B n:Nat} {f:Nat→Nat→Nat} (h:aY w B n f) (hn:n<100000) {a b r:Nat} (ha:a<256) (hb:b<256) (hr:r<1000) :
  ∃ w',(Instr.mapUpdate 148 (.map (some B)) (.agg #[.int .u8 (a:Int),.int .u8 (b:Int)]) (.int .i64 (r:Int))).run Tryz.prog w=.ok () w'∧aY w' B (n+1) (upd f a b r)∧w.grownBy w' (some B):=by
 obtain⟨D,h1,h2⟩:=h
 obtain⟨w',e1,e2,e3⟩:=h1.update law Tryz.underlying148 (by unfold maxLen;omega) (AV ha hb) (plainElem_int Tryz.underlying3 (a:=(r:Int)) (WalkArith.wf_i64 (by omega)))
 refine⟨w',e1,⟨_,e2,fun x y hx hy=>?_⟩,e3⟩
 unfold upd
 by_cases he:x=a∧y=b
 ·rw[if_pos he,he.1,he.2]
  exact Maps.atKey_put_same h1.isMap (law.key (AV ha hb)) _ _
 ·rw[if_neg he,Maps.atKey_put_other (aFQ hx hy ha hb he)]
  exact h2 x y hx hy
end Go.Proofs.YthbigkoihpgcfaaGreatDoor.Ts
