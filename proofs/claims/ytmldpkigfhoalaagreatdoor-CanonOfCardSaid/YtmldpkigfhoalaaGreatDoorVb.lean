/-
  Put together: TrM, TrN, TrK, TsA, TsM.
-/
import Derived.Test.YtmldpkigfhoalaaGreatDoorVa
import Derived.Test.YtmldpkigfhoalaaGreatDoorRows
import Derived.WalkKit
import Derived.WalkSpells
import Derived.Lib.Hide
import Derived.Maps.OwnOps
import Derived.Maps.Views
import Derived.Maps.OwnSet
import Derived.DeepKeys4
namespace Go.Proofs.YtmldpkigfhoalaaGreatDoor.Tr
open Go.RowKit
structure Nd where
 kind:Nat
 text:ByteArray
 place:Int
 size:Int
structure Op where
 kind:Nat
 kids:ByteArray
 spot:Nat
 notes:Nat
 first:Nat
 text:ByteArray
abbrev emptyS:ByteArray:=Lx.emptyS
def root:Op:=⟨0,emptyS,0,0,0,emptyS⟩
def inK (k:Nat) (s:ByteArray):Bool:=(Lx.bytesN s).contains k
def flowS:ByteArray:={ data:=#[49,50,51,112,99,110,101,115] }
def aroundS:ByteArray:={ data:=#[49,50,51,112,105] }
def blockS:ByteArray:={ data:=#[49,50,51,112,108,116,107] }
def noteS:ByteArray:={ data:=#[110] }
def esnS:ByteArray:={ data:=#[101,115,110] }
def ltrS:ByteArray:={ data:=#[108,116,114] }
def oneS (k:Nat):ByteArray:=Lx.bytesOf [k]
def topP (p:List Op):Op:=p.getLastD root
def textsP (p:List Op):Bool:=inK (topP p).kind flowS || ((topP p).kind==105 && !inK 108 (topP p).kids)
def lastF (p:List Op) (ks:ByteArray):Nat→Nat
 | 0=>0
 | n+1=>if n=0 then 0 else if inK (p.getD n root).kind ks then n else lastF p ks n
def lastP (p:List Op) (ks:ByteArray):Nat:=lastF p ks p.length
def manyP (p:List Op) (k:Nat):Nat:=((p.drop 1).filter fun o=>o.kind==k).length
def addKid (k:Nat) (o:Op):Op:={ o with kids:=o.kids++oneS k }
def addText (s:ByteArray) (o:Op):Op:={ o with text:=o.text++s }
def addNote (o:Op):Op:={ o with notes:=o.notes+1 }
def setFirst (n:Nat) (o:Op):Op:={ o with first:=n }
def setSize (n:Int) (x:Nd):Nd:={ x with size:=n }
def stepR (st:List Nd × List Op) (x:Lx.Lx):List Nd × List Op :=
 let t:=st.1
 let p:=st.2
 let top:=p.length - 1
 if x.kind=1 then
  if textsP p then
   let p1:=p.modify top (addKid 46)
   let n:=lastP p1 noteS
   (t++[⟨46,x.text,(x.place:Int),1⟩],if 0<n then p1.modify n (addText x.text) else p1)
  else (t,p)
 else if x.kind=2 then
  let p1:=p.modify top (addKid x.name)
  let p2:=if x.name=110 then p1.modify (lastP p1 aroundS) addNote else p1
  (t++[⟨x.name,emptyS,(x.place:Int),1⟩],p2++[⟨x.name,emptyS,t.length,0,0,emptyS⟩])
 else
  let o:=topP p
  let t1:=t.modify o.spot (setSize ((t.length:Int) - (o.spot:Int)))
  let p1:=if o.kind=114∧(p.getD (top - 1) root).first=0 then p.modify (top - 1) (setFirst o.kids.size) else p
  (t1,p1.take top)
def readL (l:List Lx.Lx):List Nd × List Op:=l.foldl stepR ([],[root])
theorem readL_snoc (l:List Lx.Lx) (x:Lx.Lx):readL (l++[x])=stepR (readL l) x:=by unfold readL;rw [List.foldl_append];rfl
def opensP (p:List Op) (k:Nat):Bool :=
 let x:=topP p
 if p.length=1 then inK k blockS
 else if (x.kind=105∧k=108)∨(x.kind=108∧k=105)∨(x.kind=116∧k=114) then true
 else if x.kind=114 then decide (k=99∧x.kids.size<8)
 else if textsP p=false∨inK k esnS=false∨0<manyP p k then false
 else if k≠110 then true
 else decide (manyP p 99=0∧0<lastP p aroundS∧(p.getD (lastP p aroundS) root).notes=0)
def darkAt (s:ByteArray):Option Nat:=(List.range s.size).find? fun i=>!Lx.white (Lx.bAt s i)
def errStep (t:List Nd) (p:List Op) (x:Lx.Lx):Nat × Nat :=
 if x.kind=1 then
  if textsP p=false then (match darkAt x.text with | some i=>(x.place+i,2) | none=>(0,0))
  else if 2000≤t.length∨(0<lastP p noteS∧60<(p.getD (lastP p noteS) root).text.size+x.text.size) then (x.place,4)
  else (0,0)
 else if x.kind=2 then
  if opensP p x.name=false then (x.place,2)
  else if 32<p.length∨(x.name=108∧8≤manyP p 108) then (x.place,5)
  else if 2000≤t.length then (x.place,4)
  else (0,0)
 else
  let o:=topP p
  if p.length=1∨(inK o.kind ltrS=true∧o.kids.size=0) then (x.place,2)
  else if o.kind=114∧0<(p.getD (p.length - 2) root).first∧(p.getD (p.length - 2) root).first≠o.kids.size then (x.place,2)
  else (0,0)
def errFrom (st:List Nd × List Op):List Lx.Lx→Option (Nat × Nat)
 | []=>none
 | x::l=>if (errStep st.1 st.2 x).2=0 then errFrom (stepR st x) l else some (errStep st.1 st.2 x)
def parseA (s:ByteArray):List Nd × Nat × Nat :=
 if Lx.lexE s≠0 then ([],Lx.lexAt s,Lx.lexE s)
 else match errFrom ([],[root]) (Lx.lexV s) with
  | some z=>([],z.1,z.2)
  | none=>if 1<(readL (Lx.lexV s)).2.length then ([],s.size,2) else ((readL (Lx.lexV s)).1,0,0)
theorem lastF_lt (p:List Op) (ks:ByteArray):∀ n,lastF p ks n≤n - 1
 | 0=>by simp [lastF]
 | n+1=>by
  unfold lastF
  by_cases h:n=0
  ·rw [if_pos h];omega
  ·rw [if_neg h]
   by_cases hi:inK (p.getD n root).kind ks=true
   ·rw [if_pos hi];omega
   ·rw [if_neg hi];have:=lastF_lt p ks n;omega
theorem lastP_lt {p:List Op} (ks:ByteArray) (h:0<p.length):lastP p ks<p.length:=by
 have:=lastF_lt p ks p.length
 unfold lastP;omega
end Go.Proofs.YtmldpkigfhoalaaGreatDoor.Tr
namespace Go.Proofs.YtmldpkigfhoalaaGreatDoor.Tr
open Go.RowKit
def txL (s:ByteArray):Lx.Lx:=⟨1,0,s,0⟩
def opL (k:Nat):Lx.Lx:=⟨2,k,emptyS,0⟩
def clL:Lx.Lx:=⟨3,0,emptyS,0⟩
def evF (t:List Nd):Nat→Nat→Nat→Option (List Lx.Lx)
 | 0,a,e=>if a<e then none else some []
 | n+1,a,e=>if a<e then
   match t[a]? with
   | none=>none
   | some x =>
    if x.size<1∨(e:Int)<(a:Int)+x.size then none
    else if x.kind=46 then (if x.size=1 then (evF t n (a+1) e).map (txL x.text::·) else none)
    else (evF t n (a+1) (a+x.size.toNat)).bind fun M=>(evF t n (a+x.size.toNat) e).map fun R=>opL x.kind::(M++clL::R)
  else some []
def evA (t:List Nd) (a e:Nat):Option (List Lx.Lx):=evF t (e - a) a e
theorem evF_more (t:List Nd):∀ n m a e,e - a≤n→e - a≤m→evF t n a e=evF t m a e
 | 0,0,_,_,_,_=>rfl
 | 0,m+1,a,e,h,_=>by unfold evF;rw [if_neg (by omega),if_neg (by omega)]
 | n+1,0,a,e,_,h=>by unfold evF;rw [if_neg (by omega),if_neg (by omega)]
 | n+1,m+1,a,e,h1,h2=>by
  unfold evF
  by_cases h:a<e
  ·rw [if_pos h,if_pos h]
   cases hx:t[a]? with
   | none=>rfl
   | some x =>
    simp only []
    by_cases hs:x.size<1∨(e:Int)<(a:Int)+x.size
    ·rw [if_pos hs,if_pos hs]
    ·rw [if_neg hs,if_neg hs,evF_more t n m (a+1) e (by omega) (by omega),evF_more t n m (a+1) (a+x.size.toNat) (by omega) (by omega),evF_more t n m (a+x.size.toNat) e (by omega) (by omega)]
  ·rw [if_neg h,if_neg h]
theorem evA_end (t:List Nd) (a e:Nat) (h:e≤a):evA t a e=some []:=by
 unfold evA
 rw [show e - a=0 from by omega];unfold evF;rw [if_neg (by omega)]
theorem evA_step (t:List Nd) (a e:Nat) (h:a<e):evA t a e =
  match t[a]? with
  | none=>none
  | some x =>
   if x.size<1∨(e:Int)<(a:Int)+x.size then none
   else if x.kind=46 then (if x.size=1 then (evA t (a+1) e).map (txL x.text::·) else none)
   else (evA t (a+1) (a+x.size.toNat)).bind fun M=>(evA t (a+x.size.toNat) e).map fun R=>opL x.kind::(M++clL::R):=by
 unfold evA
 obtain ⟨n,hn⟩:∃ n,e - a=n+1:=⟨e - a - 1,by omega⟩
 conv=>lhs;rw [hn];unfold evF
 rw [if_pos h]
 cases hx:t[a]? with
 | none=>rfl
 | some x =>
  simp only []
  by_cases hs:x.size<1∨(e:Int)<(a:Int)+x.size
  ·rw [if_pos hs,if_pos hs]
  ·rw [if_neg hs,if_neg hs,evF_more t n (e - (a+1)) (a+1) e (by omega) (by omega),evF_more t n (a+x.size.toNat - (a+1)) (a+1) (a+x.size.toNat) (by omega) (by omega),evF_more t n (e - (a+x.size.toNat)) (a+x.size.toNat) e (by omega) (by omega)]
theorem evA_text {t:List Nd} {a e:Nat} {x:Nd} (h:a<e) (hx:t[a]?=some x) (hk:x.kind=46) (hs:x.size=1):evA t a e=(evA t (a+1) e).map (txL x.text::·):=by
 rw [evA_step t a e h,hx]
 simp only []
 rw [if_neg (by omega),if_pos hk,if_pos hs]
theorem evA_node {t:List Nd} {a e n:Nat} {x:Nd} (hx:t[a]?=some x) (hk:x.kind≠46) (hs:x.size=(n:Int)) (h1:1≤n) (h2:a+n≤e) :
  evA t a e=(evA t (a+1) (a+n)).bind fun M=>(evA t (a+n) e).map fun R=>opL x.kind::(M++clL::R):=by
 rw [evA_step t a e (by omega),hx]
 simp only []
 rw [if_neg (by omega),if_neg hk,hs,Int.toNat_natCast]
theorem evA_app (t:List Nd):∀ n a b c L M,b - a≤n→a≤b→b≤c→evA t a b=some L→evA t b c=some M→evA t a c=some (L++M)
 | 0,a,b,c,L,M,hn,hab,hbc,h1,h2=>by
  obtain rfl:a=b:=by omega
  rw [evA_end t a a (Nat.le_refl _)] at h1
  cases h1;exact h2
 | n+1,a,b,c,L,M,hn,hab,hbc,h1,h2=>by
  rcases Nat.eq_or_lt_of_le hab with rfl | hlt
  ·rw [evA_end t a a (Nat.le_refl _)] at h1
   cases h1;exact h2
  rw [evA_step t a b hlt] at h1
  rw [evA_step t a c (by omega)]
  cases hx:t[a]? with
  | none=>rw [hx] at h1;cases h1
  | some x =>
   rw [hx] at h1
   simp only [] at h1 ⊢
   by_cases hs:x.size<1∨(b:Int)<(a:Int)+x.size
   ·rw [if_pos hs] at h1;cases h1
   rw [if_neg hs] at h1
   rw [if_neg (by omega)]
   by_cases hk:x.kind=46
   ·rw [if_pos hk] at h1 ⊢
    by_cases h5:x.size=1
    ·rw [if_pos h5] at h1 ⊢
     obtain ⟨R,hR,rfl⟩:=Option.map_eq_some_iff.1 h1
     rw [evA_app t n (a+1) b c R M (by omega) (by omega) hbc hR h2];rfl
    ·rw [if_neg h5] at h1;cases h1
   ·rw [if_neg hk] at h1 ⊢
    obtain ⟨K,hK,h3⟩:=Option.bind_eq_some_iff.1 h1
    obtain ⟨R,hR,rfl⟩:=Option.map_eq_some_iff.1 h3
    rw [hK,Option.bind_some,evA_app t n (a+x.size.toNat) b c R M (by omega) (by omega) hbc hR h2]
    simp
inductive Wf:List Nd→List Lx.Lx→Prop where
 | nil:Wf [] []
 | text {F:List Nd} {L:List Lx.Lx} (s:ByteArray) (pl:Int):Wf F L→Wf (F++[⟨46,s,pl,1⟩]) (L++[txL s])
 | node {F G:List Nd} {L M:List Lx.Lx} (k:Nat) (pl:Int):Wf F L→Wf G M→k≠46→Wf (F++⟨k,emptyS,pl,(G.length:Int)+1⟩::G) (L++opL k::(M++[clL]))
theorem Wf.app {F:List Nd} {L:List Lx.Lx} (h:Wf F L):∀ {G:List Nd} {M:List Lx.Lx},Wf G M→Wf (F++G) (L++M):=by
 intro G M hG
 induction hG with
 | nil=>simpa using h
 | text s pl _ ih=>rw [← List.append_assoc,← List.append_assoc];exact ih.text s pl
 | node k pl _ hG2 hk ih _=>rw [← List.append_assoc,← List.append_assoc];exact ih.node k pl hG2 hk
theorem wf_ev {F:List Nd} {L:List Lx.Lx} (h:Wf F L):∀ pre post:List Nd,evA (pre++(F++post)) pre.length (pre.length+F.length)=some L:=by
 induction h with
 | nil=>intro pre post;exact evA_end _ _ _ (by simp)
 | @text F L s pl _ ih =>
  intro pre post
  have h1:=ih pre (⟨46,s,pl,1⟩::post)
  have hx:(pre++(F++⟨46,s,pl,1⟩::post))[pre.length+F.length]?=some ⟨46,s,pl,1⟩:=by
   rw [List.getElem?_append_right (by omega),List.getElem?_append_right (by omega)];simp
  have h2:evA (pre++(F++⟨46,s,pl,1⟩::post)) (pre.length+F.length) (pre.length+F.length+1)=some [txL s]:=by
   rw [evA_text (by omega) hx rfl rfl,evA_end _ _ _ (by omega)];rfl
  have:=evA_app _ _ _ _ (pre.length+F.length+1) _ _ (Nat.le_refl _) (by omega) (by omega) h1 h2
  rw [List.append_assoc,List.singleton_append,List.length_append]
  exact this
 | @node F G L M k pl _ _ hk ih1 ih2 =>
  intro pre post
  have h1:=ih1 pre (⟨k,emptyS,pl,(G.length:Int)+1⟩::(G++post))
  have hx:(pre++(F++⟨k,emptyS,pl,(G.length:Int)+1⟩::(G++post)))[pre.length+F.length]?=some ⟨k,emptyS,pl,(G.length:Int)+1⟩:=by
   rw [List.getElem?_append_right (by omega),List.getElem?_append_right (by omega)];simp
  have h3:=ih2 (pre++(F++[⟨k,emptyS,pl,(G.length:Int)+1⟩])) post
  have e1:pre++(F++[⟨k,emptyS,pl,(G.length:Int)+1⟩])++(G++post)=pre++(F++⟨k,emptyS,pl,(G.length:Int)+1⟩::(G++post)):=by simp
  have e2:(pre++(F++[(⟨k,emptyS,pl,(G.length:Int)+1⟩:Nd)])).length=pre.length+F.length+1:=by simp;omega
  rw [e1,e2] at h3
  have h2:evA (pre++(F++⟨k,emptyS,pl,(G.length:Int)+1⟩::(G++post))) (pre.length+F.length) (pre.length+F.length+(G.length+1))=some (opL k::(M++[clL])):=by
   rw [evA_node (n:=G.length+1) hx hk (by simp) (by omega) (by omega),show pre.length+F.length+(G.length+1)=pre.length+F.length+1+G.length from by omega,h3,Option.bind_some,evA_end _ _ _ (Nat.le_refl _)]
   rfl
  have:=evA_app _ _ _ _ (pre.length+F.length+(G.length+1)) _ _ (Nat.le_refl _) (by omega) (by omega) h1 h2
  rw [show (F++(⟨k,emptyS,pl,(G.length:Int)+1⟩:Nd)::G).length=F.length+(G.length+1) from by simp,← Nat.add_assoc pre.length,List.append_assoc,List.cons_append]
  exact this
theorem wf_ev0 {F:List Nd} {L:List Lx.Lx} (h:Wf F L):evA F 0 F.length=some L:=by
 have:=wf_ev h [] []
 simpa using this
def plainNd (x:Nd):Prop:=x.kind≠46→x.text=emptyS
theorem ev_wf (t:List Nd) (hp:∀ x ∈ t,plainNd x):∀ n a e L,e - a≤n→a≤e→e≤t.length→evA t a e=some L→Wf ((t.take e).drop a) L
 | 0,a,e,L,hn,hae,he,h=>by
  obtain rfl:a=e:=by omega
  rw [evA_end t a a (Nat.le_refl _)] at h
  cases h
  rw [List.drop_of_length_le (by rw [List.length_take];omega)]
  exact .nil
 | n+1,a,e,L,hn,hae,he,h=>by
  rcases Nat.eq_or_lt_of_le hae with rfl | hlt
  ·rw [evA_end t a a (Nat.le_refl _)] at h
   cases h
   rw [List.drop_of_length_le (by rw [List.length_take];omega)]
   exact .nil
  rw [evA_step t a e hlt] at h
  have hxa:t[a]?=some t[a]:=List.getElem?_eq_getElem (by omega)
  obtain ⟨x,hx⟩:∃ x,t[a]?=some x:=⟨_,hxa⟩
  have hpx:=hp x (List.mem_of_getElem? hx)
  rw [hx] at h
  simp only [] at h
  have hcut:∀ b,a<b→b≤e→(t.take e).drop a=x::((t.take b).drop (a+1)++(t.take e).drop b):=fun b hab hbe=>by
   apply List.ext_getElem?
   intro j
   cases j with
   | zero=>rw [List.getElem?_drop,Nat.add_zero,List.getElem?_take_of_lt (by omega),hx];rfl
   | succ j =>
    rw [List.getElem?_cons_succ,List.getElem?_drop]
    rcases Nat.lt_or_ge (a+1+j) b with hj | hj
    ·rw [List.getElem?_append_left (by rw [List.length_drop,List.length_take];omega),List.getElem?_drop,List.getElem?_take_of_lt (by omega),List.getElem?_take_of_lt (by omega),show a+(j+1)=a+1+j from by omega]
    ·rw [List.getElem?_append_right (by rw [List.length_drop,List.length_take];omega),List.length_drop,List.length_take,List.getElem?_drop,show b+(j - (min b t.length - (a+1)))=a+(j+1) from by omega]
  by_cases hs:x.size<1∨(e:Int)<(a:Int)+x.size
  ·rw [if_pos hs] at h;cases h
  rw [if_neg hs] at h
  by_cases hk:x.kind=46
  ·rw [if_pos hk] at h
   by_cases h5:x.size=1
   ·rw [if_pos h5] at h
    obtain ⟨R,hR,rfl⟩:=Option.map_eq_some_iff.1 h
    have ih:=ev_wf t hp n (a+1) e R (by omega) (by omega) he hR
    rw [hcut (a+1) (by omega) (by omega),List.drop_of_length_le (by rw [List.length_take];omega),List.nil_append]
    obtain ⟨kd,tx,pl,sz⟩:=x
    simp only [] at hk h5
    subst hk;subst h5
    exact (Wf.text tx pl .nil).app ih
   ·rw [if_neg h5] at h;cases h
  ·rw [if_neg hk] at h
   obtain ⟨K,hK,h3⟩:=Option.bind_eq_some_iff.1 h
   obtain ⟨R,hR,rfl⟩:=Option.map_eq_some_iff.1 h3
   have ihK:=ev_wf t hp n (a+1) (a+x.size.toNat) K (by omega) (by omega) (by omega) hK
   have ihR:=ev_wf t hp n (a+x.size.toNat) e R (by omega) (by omega) he hR
   rw [hcut (a+x.size.toNat) (by omega) (by omega)]
   have hlen:(((t.take (a+x.size.toNat)).drop (a+1)).length:Int)+1=x.size:=by rw [List.length_drop,List.length_take];omega
   obtain ⟨kd,tx,pl,sz⟩:=x
   simp only [] at hk hlen hpx ihK ihR
   obtain rfl:tx=emptyS:=hpx hk
   have:=((Wf.node kd pl .nil ihK hk).app ihR)
   rw [hlen] at this
   simpa using this
end Go.Proofs.YtmldpkigfhoalaaGreatDoor.Tr
namespace Go.Proofs.YtmldpkigfhoalaaGreatDoor.Tr
open Go.RowKit
def nodeOk (x:Nd):Bool:=(if x.kind=46 then decide (x.text.size≠0) else decide (x.text.size=0∧(Lx.nameS x.kind).size≠0)) && (Lx.bytesN x.text).all Lx.okT
def runC (st:List Nd × List Op) (d b:Bool):List Lx.Lx→Nat
 | []=>if d then 5 else if b then 4 else 0
 | x::l=>if (x.kind=1∧textsP st.2=false)∨(errStep st.1 st.2 x).2=2 then 2
  else runC (stepR st x) (d || decide ((errStep st.1 st.2 x).2=5)) (b || decide ((errStep st.1 st.2 x).2=4)) l
def checkV (t:List Nd):Nat :=
 if t.all nodeOk=false then 2 else match evA t 0 t.length with | none=>2 | some l=>runC ([],[root]) false false l
def okR (st:List Nd × List Op):List Lx.Lx→Prop
 | []=>True
 | x::l=>¬ (x.kind=1∧textsP st.2=false)∧(errStep st.1 st.2 x).2=0∧okR (stepR st x) l
theorem errStep_cases (t:List Nd) (p:List Op) (x:Lx.Lx):(errStep t p x).2=0∨(errStep t p x).2=2∨(errStep t p x).2=4∨(errStep t p x).2=5:=by
 unfold errStep
 dsimp only
 repeat' split
 all_goals simp
theorem runC_ok:∀ (l:List Lx.Lx) (st:List Nd × List Op) (d b:Bool),runC st d b l=0↔d=false∧b=false∧okR st l
 | [],st,d,b=>by cases d<;>cases b<;>simp [runC,okR]
 | x::l,st,d,b=>by
  unfold runC okR
  by_cases h:(x.kind=1∧textsP st.2=false)∨(errStep st.1 st.2 x).2=2
  ·rw [if_pos h]
   constructor
   ·intro e;cases e
   ·rintro ⟨_,_,h1,h2,_⟩
    rcases h with h | h
    ·exact absurd h h1
    ·rw [h] at h2;cases h2
  ·rw [if_neg h,runC_ok l]
   have h1:¬ (x.kind=1∧textsP st.2=false):=fun e=>h (.inl e)
   have h2:(errStep st.1 st.2 x).2≠2:=fun e=>h (.inr e)
   rcases errStep_cases st.1 st.2 x with e | e | e | e
   ·simp [e,h1]
   ·exact absurd e h2
   ·simp [e]
   ·simp [e]
theorem checkV_ok (t:List Nd):checkV t=0↔(∀ x ∈ t,nodeOk x=true)∧∃ l,evA t 0 t.length=some l∧okR ([],[root]) l:=by
 unfold checkV
 by_cases h:t.all nodeOk=false
 ·rw [if_pos h]
  constructor
  ·intro e;cases e
  ·rintro ⟨h1,_⟩
   rw [List.all_eq_true.2 h1] at h;cases h
 ·rw [if_neg h]
  have h':t.all nodeOk=true:=by simpa using h
  rw [List.all_eq_true] at h'
  cases he:evA t 0 t.length with
  | none=>simp
  | some l =>
   simp only []
   rw [runC_ok]
   constructor
   ·rintro ⟨_,_,h3⟩;exact ⟨h',l,rfl,h3⟩
   ·rintro ⟨_,l',h2,h3⟩;cases h2;exact ⟨rfl,rfl,h3⟩
theorem okR_snoc:∀ (l:List Lx.Lx) (st:List Nd × List Op) (x:Lx.Lx),okR st (l++[x])↔okR st l∧¬ (x.kind=1∧textsP (l.foldl stepR st).2=false)∧(errStep (l.foldl stepR st).1 (l.foldl stepR st).2 x).2=0
 | [],st,x=>by simp [okR]
 | y::l,st,x=>by
  rw [List.cons_append]
  unfold okR
  rw [okR_snoc l,List.foldl_cons]
  simp only [and_assoc]
def bare (x:Nd):Nd:={ x with place:=0 }
def bareX (x:Lx.Lx):Lx.Lx:={ x with place:=0 }
theorem stepR_bare (t:List Nd) (p:List Op) (x:Lx.Lx):stepR (t.map bare,p) (bareX x)=((stepR (t,p) x).1.map bare,(stepR (t,p) x).2):=by
 unfold stepR
 simp only [bareX,List.length_map]
 by_cases h1:x.kind=1
 ·rw [if_pos h1,if_pos h1]
  by_cases h2:textsP p=true
  ·rw [if_pos h2,if_pos h2];simp [bare]
  ·rw [if_neg h2,if_neg h2]
 ·rw [if_neg h1,if_neg h1]
  by_cases h2:x.kind=2
  ·rw [if_pos h2,if_pos h2];simp [bare];rfl
  ·rw [if_neg h2,if_neg h2]
   simp only [Prod.mk.injEq,and_true]
   apply List.ext_getElem?
   intro i
   simp only [List.getElem?_modify,List.getElem?_map]
   by_cases hi:(topP p).spot=i
   ·simp only [hi,if_true]
    cases t[i]?<;>simp [bare,setSize]
   ·simp only [hi,if_false]
    cases t[i]?<;>simp
theorem errStep_bare (t:List Nd) (p:List Op) (x:Lx.Lx):(errStep (t.map bare) p (bareX x)).2=(errStep t p x).2:=by
 unfold errStep
 simp only [bareX,List.length_map]
 repeat' split
 all_goals simp_all
theorem evF_bare (t:List Nd):∀ n a e,evF (t.map bare) n a e=evF t n a e
 | 0,_,_=>rfl
 | n+1,a,e=>by
  unfold evF
  rw [List.getElem?_map]
  cases t[a]? with
  | none=>rfl
  | some x=>simp only [Option.map_some,bare,evF_bare t n]
def pathOf (p:List Op):List (Nat × Nat):=(p.drop 1).map fun o=>(o.kind,o.spot)
inductive Zip:List Nd→List (Nat × Nat)→List Lx.Lx→Prop where
 | base {F:List Nd} {L:List Lx.Lx}:Wf F L→Zip F [] L
 | push {t G:List Nd} {q:List (Nat × Nat)} {L M:List Lx.Lx} (k:Nat) (pl:Int):Zip t q L→Wf G M→k≠46→Zip (t++⟨k,emptyS,pl,1⟩::G) (q++[(k,t.length)]) (L++opL k::M)
theorem Zip.text {t:List Nd} {q:List (Nat × Nat)} {L:List Lx.Lx} (h:Zip t q L) (s:ByteArray) (pl:Int):Zip (t++[⟨46,s,pl,1⟩]) q (L++[txL s]):=by
 cases h with
 | base hF=>exact .base (hF.text s pl)
 | push k pk hz hG hk =>
  have:=Zip.push k pk hz (hG.text s pl) hk
  simpa using this
theorem Zip.opened {t:List Nd} {q:List (Nat × Nat)} {L:List Lx.Lx} (h:Zip t q L) (k:Nat) (pl:Int) (hk:k≠46):Zip (t++[⟨k,emptyS,pl,1⟩]) (q++[(k,t.length)]) (L++[opL k]):=.push k pl h .nil hk
theorem modify_at (t G:List Nd) (x:Nd) (f:Nd→Nd):(t++x::G).modify t.length f=t++f x::G:=by
 apply List.ext_getElem?
 intro i
 rw [List.getElem?_modify]
 rcases Nat.lt_trichotomy i t.length with h | h | h
 ·rw [List.getElem?_append_left h,List.getElem?_append_left h]
  have hne:¬ t.length=i:=by omega
  simp only [hne,if_false]
  cases t[i]?<;>rfl
 ·subst h
  rw [List.getElem?_append_right (Nat.le_refl _),List.getElem?_append_right (Nat.le_refl _)];simp
 ·rw [List.getElem?_append_right (by omega),List.getElem?_append_right (by omega)]
  have hne:¬ t.length=i:=by omega
  simp only [hne,if_false]
  obtain ⟨j,hj⟩:∃ j,i - t.length=j+1:=⟨i - t.length - 1,by omega⟩
  rw [hj,List.getElem?_cons_succ,List.getElem?_cons_succ]
  cases G[j]?<;>rfl
theorem Zip.closed {t:List Nd} {q:List (Nat × Nat)} {L:List Lx.Lx} {k sp:Nat} (h:Zip t (q++[(k,sp)]) L):Zip (t.modify sp (setSize ((t.length:Int) - (sp:Int)))) q (L++[clL]):=by
 generalize hq:q++[(k,sp)]=q' at h
 cases h with
 | base hF=>simp at hq
 | @push t0 G q0 L0 M k' pl hz hG hk =>
  obtain ⟨rfl,h2⟩:=List.append_inj' hq rfl
  simp only [List.cons.injEq,Prod.mk.injEq,and_true] at h2
  obtain ⟨rfl,rfl⟩:=h2
  rw [modify_at]
  have hs:setSize (((t0++⟨k,emptyS,pl,1⟩::G).length:Int) - (t0.length:Int)) ⟨k,emptyS,pl,1⟩=⟨k,emptyS,pl,(G.length:Int)+1⟩:=by
   unfold setSize
   simp only [List.length_append,List.length_cons,Nd.mk.injEq,true_and]
   omega
  rw [hs]
  cases hz with
  | base hF =>
   refine .base ?_
   have:=hF.node k pl hG hk
   simpa using this
  | @push t1 G1 q1 L1 M1 k1 pl1 hz1 hG1 hk1 =>
   have:=Zip.push k1 pl1 hz1 (hG1.node k pl hG hk) hk1
   simpa using this
end Go.Proofs.YtmldpkigfhoalaaGreatDoor.Tr
namespace Go.Proofs.YtmldpkigfhoalaaGreatDoor.Tr
open Go.RowKit
structure Lv where
 kind:Nat
 start:Nat
 lists:Nat
 parts:Nat
 rank:Nat
 cols:Nat
 noted:Bool
 bytes:Nat
structure St where
 lv:List Lv
 nodes:Nat
 deep:Bool
 much:Bool
def lv0:Lv:=⟨95,0,0,0,0,0,false,0⟩
def st0:St:=⟨[lv0],0,false,false⟩
def flowIn:ByteArray:={ data:=#[46,101,115,110] }
def rk (a b:Nat):Nat :=
 if a=95 then (if inK b blockS then 1 else 0)
 else if inK a flowS then (if inK b flowIn then 1 else 0)
 else if a=108 then (if b=105 then 1 else 0)
 else if a=105 then (if inK b flowIn then 1 else if b=108 then 2 else 0)
 else if a=116 then (if b=114 then 1 else 0)
 else if a=114 then (if b=99 then 1 else 0)
 else 0
def topL (l:List Lv):Lv:=l.getD (l.length - 1) lv0
def inT (k:Nat):Bool:=k==101 || k==115 || k==110
def withinF (l:List Lv) (k:Nat):Nat→Option Nat
 | 0=>none
 | n+1=>if inT (l.getD n lv0).kind then (if (l.getD n lv0).kind=k then some n else withinF l k n) else none
def withinL (l:List Lv) (k:Nat):Option Nat:=withinF l k l.length
def blockF (l:List Lv):Nat→Nat
 | 0=>0
 | n+1=>if inT (l.getD n lv0).kind then blockF l n else n
def blockL (l:List Lv):Nat:=blockF l l.length
def mayL (l:List Lv) (k:Nat):Bool :=
 if rk (topL l).kind k=0∨rk (topL l).kind k<(topL l).rank then false
 else if k=99 then decide ((topL l).parts<8)
 else if k=101∨k=115 then (withinL l k).isNone
 else if k=110 then decide ((l.getD (blockL l) lv0).kind≠99) && !(l.getD (blockL l) lv0).noted
 else true
def onePart (k:Nat) (b:Lv):Lv:={ b with parts:=b.parts+1,rank:=rk b.kind k }
def withNote (b:Lv):Lv:={ b with noted:=true }
def moreBytes (n:Nat) (b:Lv):Lv:={ b with bytes:=b.bytes+n }
def withCols (n:Nat) (b:Lv):Lv:={ b with cols:=n }
def countS (o:St) (k:Nat):St:={ o with lv:=o.lv.modify (o.lv.length - 1) (onePart k),nodes:=o.nodes+1,much:=o.much || decide (2000<o.nodes+1) }
def newL (o:St) (k:Nat):Lv:=⟨k,o.nodes,(topL o.lv).lists+(if k=108 then 1 else 0),0,0,0,false,0⟩
def notedS (o:St) (k:Nat):St:=if k=110 then { o with lv:=o.lv.modify (blockL o.lv) withNote } else o
def enterS (o:St) (k:Nat):St :=
 let o2:=countS (notedS o k) k
 { o2 with lv:=o2.lv++[newL o k],deep:=o.deep || decide (32<o.lv.length) || decide (8<(newL o k).lists) }
def sayS (o:St) (n:Nat):St :=
 match withinL o.lv 110 with
 | none=>countS o 46
 | some i=>{ countS o 46 with lv:=(countS o 46).lv.modify i (moreBytes n),much:=(countS o 46).much || decide (60<(o.lv.getD i lv0).bytes+n) }
def leaveB (o:St):Bool :=
 if o.lv.length≤1 then false
 else if (topL o.lv).kind=108∨(topL o.lv).kind=116 then decide (0<(topL o.lv).parts)
 else if (topL o.lv).kind=114 then decide (0<(topL o.lv).parts) && ((o.lv.getD (o.lv.length - 2) lv0).cols==0 || (o.lv.getD (o.lv.length - 2) lv0).cols==(topL o.lv).parts)
 else true
def leaveS (o:St):St :=
 { o with lv:=if (topL o.lv).kind=114∧(o.lv.getD (o.lv.length - 2) lv0).cols=0 then (o.lv.take (o.lv.length - 1)).modify (o.lv.length - 2) (withCols (topL o.lv).parts) else o.lv.take (o.lv.length - 1) }
def beyondS (o:St):Nat:=if o.deep then 5 else if o.much then 4 else 0
def rankO (a:Op):Nat:=if a.kids.size=0 then 0 else if a.kind=105∧inK 108 a.kids=true then 2 else 1
structure RelAt (i:Nat) (a:Op) (b:Lv):Prop where
 kind:b.kind=if i=0 then 95 else a.kind
 start:b.start=a.spot
 parts:b.parts=a.kids.size
 rank:b.rank=rankO a
 cols:b.cols=a.first
 noted:b.noted=decide (0<a.notes)
 bytes:b.bytes=a.text.size
structure Rel (p:List Op) (l:List Lv):Prop where
 len:p.length=l.length
 pos:0<p.length
 one:∀ i,i<p.length→RelAt i (p.getD i root) (l.getD i lv0)
 lists:∀ i,i<p.length→(l.getD i lv0).lists=((p.take (i+1)).drop 1).countP fun o=>o.kind==108
 root0:(p.getD 0 root).kind=0
 no105:∀ i,i+1<p.length→(p.getD (i+1) root).kind≠46∧(p.getD (i+1) root).kind≠95∧rk (l.getD i lv0).kind (l.getD (i+1) lv0).kind≠0
 notes:∀ i,i<p.length→(l.getD i lv0).kind=110→(l.getD (blockF l i) lv0).noted=true
theorem getD_modify {α:Type} (l:List α) (j:Nat) (f:α→α) (i:Nat) (d:α):(l.modify j f).getD i d=if j=i∧i<l.length then f (l.getD i d) else l.getD i d:=by
 rw [List.getD_eq_getElem?_getD,List.getElem?_modify,List.getD_eq_getElem?_getD]
 by_cases h:i<l.length
 ·rw [List.getElem?_eq_getElem h]
  by_cases hj:j=i
  ·simp [hj,h]
  ·simp [hj]
 ·rw [List.getElem?_eq_none (by omega)]
  simp [h]
theorem getD_take {α:Type} (l:List α) (n i:Nat) (d:α) (h:i<n):(l.take n).getD i d=l.getD i d:=by
 rw [List.getD_eq_getElem?_getD,List.getElem?_take,if_pos h,List.getD_eq_getElem?_getD]
theorem getD_snoc {α:Type} (l:List α) (x:α) (i:Nat) (d:α):(l++[x]).getD i d=if i<l.length then l.getD i d else if i=l.length then x else d:=by
 rw [List.getD_eq_getElem?_getD,List.getElem?_append]
 by_cases h:i<l.length
 ·rw [if_pos h,if_pos h,List.getD_eq_getElem?_getD]
 ·rw [if_neg h,if_neg h]
  by_cases h1:i=l.length
  ·subst h1;simp
  ·rw [if_neg h1,List.getElem?_eq_none (by simp;omega)];rfl
theorem topP_getD (p:List Op) (_h:0<p.length):topP p=p.getD (p.length - 1) root:=by
 unfold topP
 rw [List.getLastD_eq_getLast?,List.getLast?_eq_getElem?,List.getD_eq_getElem?_getD]
end Go.Proofs.YtmldpkigfhoalaaGreatDoor.Tr
namespace Go.Proofs.YtmldpkigfhoalaaGreatDoor.Ts
open Go.RowKit Go.Maps
def pairV (a b:Nat):Value:=.agg #[.int .u8 (a:Int),.int .u8 (b:Int)]
theorem laidOut:laidOutB Tryz.prog=true:=by kernel_rfl
theorem pairRow:(142:TypeId)<Tryz.prog.types.size:=of_decide_eq_true (by kernel_rfl)
theorem pairWide:(match Tryz.prog.underlying 142 with | some (.array _ _) | some (.struct _)=>true | _=>false)=true:=by rw [Tryz.underlying142]
theorem pairKey:Tryz.prog.keyTypeAt 2 142=true:=by kernel_rfl
set_option maxRecDepth 100000 in
theorem law:Keyed Tryz.prog 142:=Keyed.of_law (deep_law_laid laidOut (m:=2) (by omega) pairRow pairKey pairWide)
theorem keyTypeP:Tryz.prog.keyType 142=true:=by kernel_rfl
theorem cellsP:Tryz.prog.cellsOf 142=2:=by kernel_rfl
theorem cellsB8:Tryz.prog.cellsOf 5=1:=by kernel_rfl
theorem typesP:∃ d,Tryz.prog.types.size+1=d+2:=⟨_,rfl⟩
theorem wf8 {a:Nat} (ha:a<256):(Lit.int .u8 (a:Int)).wf=true:=by
 have h:∀ k:Fin 256,(Lit.int .u8 ((k.val:Nat):Int)).wf=true:=by decide +kernel
 exact h ⟨a,ha⟩
def kl (a b:Nat):Lit:=.string (keyBytes [.int .u8 (a:Int),.int .u8 (b:Int)])
theorem key_kl {a b:Nat} (ha:a<256) (hb:b<256):keyOf Tryz.prog 142 (pairV a b)=some (kl a b):=by
 obtain ⟨d,hd⟩:=typesP
 have h1:=wf8 ha
 have h2:=wf8 hb
 unfold keyOf pairV kl
 rw [Tryz.underlying142]
 simp only [keyTypeP,hd]
 simp [Value.formed,Tryz.underlying142,cellsP,Program.keyLits,Tryz.underlying5,cellsB8,h1,h2,Value.cells]
theorem kl_ne {a b a' b':Nat} (ha:a<256) (hb:b<256) (ha':a'<256) (hb':b'<256) (h:¬ (a=a'∧b=b')):kl a b≠kl a' b':=fun e=>by
 have:=law.inj (key_kl ha hb) (e▸key_kl ha' hb')
 unfold pairV at this
 simp at this
 exact h ⟨by omega,by omega⟩
def zInt:DataW Unit:=.lit (.int .i64 0)
def MapIs (w:World) (B n:Nat) (f:Nat→Nat→Nat):Prop :=
 ∃ D:DataW Unit,w.ownsMap Tryz.prog 142 (plainElem Tryz.prog 3) B n D∧∀ a b,a<256→b<256→D.atKey (kl a b) zInt=.lit (.int .i64 (f a b:Int))
theorem MapIs.of_block {w w':World} {B n:Nat} {f:Nat→Nat→Nat} (h:MapIs w B n f) (hb:w'.heap[B]?=w.heap[B]?):MapIs w' B n f:=by
 obtain ⟨D,⟨es,clock,h1,h2⟩,h3⟩:=h
 exact ⟨D,⟨es,clock,hb.trans h1,h2⟩,h3⟩
theorem MapIs.lt {w:World} {B n:Nat} {f:Nat→Nat→Nat} (h:MapIs w B n f):B<w.heap.size:=by
 obtain ⟨D,h1,_⟩:=h
 exact h1.lt
theorem MapIs.new (w:World):MapIs (w.alloc (.map #[] 0)) w.heap.size 0 fun _ _=>0 :=
 ⟨_,World.ownsMap_made w _ _ _,fun _ _ _ _=>rfl⟩
theorem zeroInt (w:World):(zeroValue 3).run Tryz.prog w=.ok (.int .i64 0) w:=by kernel_rfl
theorem MapIs.look {w:World} {B n:Nat} {f:Nat→Nat→Nat} (h:MapIs w B n f) {a b:Nat} (ha:a<256) (hb:b<256) :
  (Instr.lookup 41 (.map (some B)) (.agg #[.int .u8 (a:Int),.int .u8 (b:Int)]) false).run Tryz.prog w=.ok (.int .i64 (f a b:Int)) w:=by
 obtain ⟨D,h1,h2⟩:=h
 obtain ⟨c,hr,hat,_⟩:=h1.lookup_int law Tryz.underlying41 Tryz.underlying3 (zeroInt w) (key_kl ha hb)
 have:=h2 a b ha hb
 unfold zInt at this
 rw [hat] at this
 simp only [DataW.lit.injEq,Lit.int.injEq,true_and] at this
 rw [← this]
 exact hr
def upd (f:Nat→Nat→Nat) (a b r:Nat):Nat→Nat→Nat:=fun x y=>if x=a∧y=b then r else f x y
theorem MapIs.put {w:World} {B n:Nat} {f:Nat→Nat→Nat} (h:MapIs w B n f) (hn:n<100000) {a b r:Nat} (ha:a<256) (hb:b<256) (hr:r<1000) :
  ∃ w',(Instr.mapUpdate 41 (.map (some B)) (.agg #[.int .u8 (a:Int),.int .u8 (b:Int)]) (.int .i64 (r:Int))).run Tryz.prog w=.ok () w'∧MapIs w' B (n+1) (upd f a b r)∧w.grownBy w' (some B):=by
 obtain ⟨D,h1,h2⟩:=h
 obtain ⟨w',e1,e2,e3⟩:=h1.update law Tryz.underlying41 (by unfold maxLen;omega) (key_kl ha hb) (plainElem_int Tryz.underlying3 (a:=(r:Int)) (WalkArith.wf_i64 (by omega)))
 refine ⟨w',e1,⟨_,e2,fun x y hx hy=>?_⟩,e3⟩
 unfold upd
 by_cases he:x=a∧y=b
 ·rw [if_pos he,he.1,he.2]
  exact Maps.atKey_put_same h1.isMap (law.key (key_kl ha hb)) _ _
 ·rw [if_neg he,Maps.atKey_put_other (kl_ne hx hy ha hb he)]
  exact h2 x y hx hy
end Go.Proofs.YtmldpkigfhoalaaGreatDoor.Ts
