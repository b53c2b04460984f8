/-
  Put together: NwA, NwB.
-/
import Derived.Test.YtmldpkigfhoalaaGreatDoorNb
import Derived.Test.YtmldpkigfhoalaaGreatDoorVc
namespace Go.Proofs.YtmldpkigfhoalaaGreatDoor.Nu
open Go.RowKit Tr
def op0 (o:Tr.Op):Tr.Op:={ o with text:=emptyS }
def k2 (x:Lx.Lx):Nat × Nat:=(x.kind,x.name)
theorem op0_get (p:List Tr.Op) (n:Nat):(p.map op0).getD n root=op0 (p.getD n root):=by
 rw [List.getD_eq_getElem?_getD,List.getD_eq_getElem?_getD,List.getElem?_map]
 cases p[n]?<;>rfl
theorem op0_top (p:List Tr.Op):topP (p.map op0)=op0 (topP p):=by
 unfold topP
 rcases List.eq_nil_or_concat p with rfl | ⟨q,o,rfl⟩
 ·rfl
 ·rw [List.concat_eq_append,List.map_append];simp
theorem op0_texts (p:List Tr.Op):textsP (p.map op0)=textsP p:=by unfold textsP;rw [op0_top];rfl
theorem op0_lastF (p:List Tr.Op) (ks:ByteArray):∀ n,lastF (p.map op0) ks n=lastF p ks n
 | 0=>rfl
 | n+1=>by
  unfold lastF
  rw [op0_get,op0_lastF p ks n];rfl
theorem op0_last (p:List Tr.Op) (ks:ByteArray):lastP (p.map op0) ks=lastP p ks:=by unfold lastP;rw [List.length_map,op0_lastF]
theorem op0_many (p:List Tr.Op) (k:Nat):manyP (p.map op0) k=manyP p k:=by
 unfold manyP
 rw [← List.map_drop,List.filter_map,List.length_map];rfl
theorem op0_opens (p:List Tr.Op) (k:Nat):opensP (p.map op0) k=opensP p k:=by
 unfold opensP
 rw [op0_top,op0_texts,op0_many,op0_many,op0_last,op0_get,List.length_map];rfl
theorem op0_mod (p:List Tr.Op) (i:Nat) (f g:Tr.Op→Tr.Op) (h:∀ o,op0 (f o)=g (op0 o)):(p.modify i f).map op0=(p.map op0).modify i g:=by
 apply List.ext_getElem?
 intro j
 rw [List.getElem?_map,List.getElem?_modify,List.getElem?_modify,List.getElem?_map]
 cases p[j]? with
 | none=>rfl
 | some o =>
  by_cases hj:i=j
  ·simp [hj,h]
  ·simp [hj]
def RelS (s s':List Nd × List Tr.Op):Prop:=s.1.length=s'.1.length∧s.2.map op0=s'.2.map op0
def stepP0 (n:Nat) (p:List Tr.Op) (k nm:Nat):List Tr.Op :=
 if k=1 then (if textsP p then p.modify (p.length - 1) (addKid 46) else p)
 else if k=2 then
  let p1:=p.modify (p.length - 1) (addKid nm)
  (if nm=110 then p1.modify (lastP p1 aroundS) addNote else p1)++[⟨nm,emptyS,n,0,0,emptyS⟩]
 else (if (topP p).kind=114∧(p.getD (p.length - 1 - 1) root).first=0 then p.modify (p.length - 1 - 1) (setFirst (topP p).kids.size) else p).take (p.length - 1)
theorem step_open (s:List Nd × List Tr.Op) (x:Lx.Lx):(stepR s x).2.map op0=stepP0 s.1.length (s.2.map op0) x.kind x.name:=by
 obtain ⟨T,p⟩:=s
 unfold stepR stepP0
 simp only [List.length_map]
 by_cases h1:x.kind=1
 ·rw [if_pos h1,if_pos h1,op0_texts]
  by_cases h2:textsP p=true
  ·rw [if_pos h2,if_pos h2]
   simp only []
   have e:=op0_mod p (p.length - 1) (addKid 46) (addKid 46) (fun _=>rfl)
   split
   ·rw [op0_mod _ _ (addText x.text) id (fun _=>rfl),e]
    apply List.ext_getElem?
    intro j
    rw [List.getElem?_modify]
    cases ((p.map op0).modify (p.length - 1) (addKid 46))[j]? with
    | none=>rfl
    | some o=>simp
   ·exact e
  ·rw [if_neg h2,if_neg h2]
 ·rw [if_neg h1,if_neg h1]
  by_cases h2:x.kind=2
  ·rw [if_pos h2,if_pos h2]
   simp only []
   have e:=op0_mod p (p.length - 1) (addKid x.name) (addKid x.name) (fun _=>rfl)
   rw [List.map_append]
   congr 1
   by_cases h3:x.name=110
   ·rw [if_pos h3,if_pos h3,op0_mod _ _ addNote addNote (fun _=>rfl),← e,op0_last]
   ·rw [if_neg h3,if_neg h3,e]
  ·rw [if_neg h2,if_neg h2]
   simp only []
   rw [List.map_take,op0_top,op0_get]
   congr 1
   show List.map op0 (if _ then _ else _)=if (topP p).kind=114∧(p.getD (p.length - 1 - 1) root).first=0 then _ else _
   by_cases h3:(topP p).kind=114∧(p.getD (p.length - 1 - 1) root).first=0
   ·rw [if_pos h3,if_pos h3,op0_mod _ _ (setFirst (topP p).kids.size) (setFirst (topP p).kids.size) (fun _=>rfl)];rfl
   ·rw [if_neg h3,if_neg h3]
theorem step_len (s:List Nd × List Tr.Op) (x:Lx.Lx):(stepR s x).1.length=if x.kind=1 then (if textsP s.2 then s.1.length+1 else s.1.length) else if x.kind=2 then s.1.length+1 else s.1.length:=by
 obtain ⟨T,p⟩:=s
 unfold stepR
 simp only []
 by_cases h1:x.kind=1
 ·rw [if_pos h1,if_pos h1]
  by_cases h2:textsP p=true
  ·rw [if_pos h2,if_pos h2];simp
  ·rw [if_neg h2,if_neg h2]
 ·rw [if_neg h1,if_neg h1]
  by_cases h2:x.kind=2
  ·rw [if_pos h2,if_pos h2];simp
  ·rw [if_neg h2,if_neg h2];simp
theorem RelS.texts {s s':List Nd × List Tr.Op} (h:RelS s s'):textsP s.2=textsP s'.2:=by rw [← op0_texts,h.2,op0_texts]
theorem RelS.step {s s':List Nd × List Tr.Op} (h:RelS s s') {x x':Lx.Lx} (hx:k2 x=k2 x'):RelS (stepR s x) (stepR s' x'):=by
 unfold k2 at hx
 injection hx with hk hn
 refine ⟨?_,?_⟩
 ·rw [step_len,step_len,hk,h.texts,h.1]
 ·rw [step_open,step_open,hk,hn,h.1,h.2]
theorem err_open (T:List Nd) (p:List Tr.Op) (x:Lx.Lx) (h:x.kind≠1):(errStep T p x).2 =
  (if x.kind=2 then (if opensP (p.map op0) x.name=false then 2 else if 32<(p.map op0).length∨(x.name=108∧8≤manyP (p.map op0) 108) then 5 else if 2000≤T.length then 4 else 0)
   else if (p.map op0).length=1∨(inK (topP (p.map op0)).kind ltrS=true∧(topP (p.map op0)).kids.size=0) then 2
   else if (topP (p.map op0)).kind=114∧0<((p.map op0).getD ((p.map op0).length - 2) root).first∧((p.map op0).getD ((p.map op0).length - 2) root).first≠(topP (p.map op0)).kids.size then 2 else 0):=by
 unfold errStep
 rw [if_neg h,op0_opens,op0_many,op0_top,op0_get,List.length_map]
 by_cases h2:x.kind=2
 ·rw [if_pos h2,if_pos h2]
  repeat' split
  all_goals first | rfl | contradiction
 ·rw [if_neg h2,if_neg h2]
  show (if _ then _ else if _ then _ else _:Nat × Nat).2=if p.length=1∨(inK (topP p).kind ltrS=true∧(topP p).kids.size=0) then 2 else if (topP p).kind=114∧0<(p.getD (p.length - 2) root).first∧(p.getD (p.length - 2) root).first≠(topP p).kids.size then 2 else 0
  repeat' split
  all_goals first | rfl | contradiction
theorem RelS.err {s s':List Nd × List Tr.Op} (h:RelS s s') {x x':Lx.Lx} (hx:k2 x=k2 x') (h1:x.kind≠1):(errStep s.1 s.2 x).2=(errStep s'.1 s'.2 x').2:=by
 unfold k2 at hx
 injection hx with hk hn
 rw [err_open _ _ _ h1,err_open _ _ _ (by rw [← hk];exact h1),hk,hn,h.1,h.2]
def Skin (t t':List Nd):Prop:=∀ i:Nat,(t'[i]?).map (fun (x:Nd)=>(x.kind,x.size,x.place))=(t[i]?).map (fun (x:Nd)=>(x.kind,x.size,x.place))
theorem Skin.some {t t':List Nd} (h:Skin t t') {i:Nat} {x:Nd} (hx:t[i]?=some x):∃ x',t'[i]?=some x'∧x'.kind=x.kind∧x'.size=x.size∧x'.place=x.place:=by
 have:=h i
 rw [hx] at this
 obtain ⟨x',hx',he⟩:=Option.map_eq_some_iff.1 this
 injection he with a b
 injection b with b c
 exact ⟨x',hx',a,b,c⟩
theorem Skin.none {t t':List Nd} (h:Skin t t') {i:Nat} (hx:t[i]?=none):t'[i]?=none:=by
 have:=h i
 rw [hx] at this
 exact Option.map_eq_none_iff.1 this
theorem Skin.len {t t':List Nd} (h:Skin t t'):t'.length=t.length:=by
 have a:=h.none (i:=t.length) (List.getElem?_eq_none (Nat.le_refl _))
 have a:=List.getElem?_eq_none_iff.1 a
 rcases Nat.lt_or_ge t'.length t.length with hlt | hge
 ·obtain ⟨x',hx',-⟩:=h.some (List.getElem?_eq_getElem hlt)
  have:=(List.getElem?_eq_some_iff.1 hx').1
  omega
 ·omega
end Go.Proofs.YtmldpkigfhoalaaGreatDoor.Nu
namespace Go.Proofs.YtmldpkigfhoalaaGreatDoor.Nu
open Go.RowKit Tr
def colP (a:Nat):List (Nat × Nat)→List (Nat × Nat)
 | []=>[]
 | x::l=>if x.1=32∧a=32 then colP a l else x::colP x.1 l
def lasP (a:Nat):List (Nat × Nat)→Nat
 | []=>a
 | x::l=>lasP x.1 l
theorem colP_app (a:Nat):∀ l m:List (Nat × Nat),colP a (l++m)=colP a l++colP (lasP a l) m:=by
 intro l
 induction l generalizing a with
 | nil=>intro m;rfl
 | cons x l ih =>
  intro m
  rw [List.cons_append]
  by_cases h:x.1=32∧a=32
  ·rw [colP,if_pos h,colP,if_pos h,ih a m]
   show _=_++colP (lasP x.1 l) m
   rw [h.1,h.2]
  ·rw [colP,if_neg h,colP,if_neg h,ih x.1 m];rfl
theorem lasP_app (a:Nat):∀ l m:List (Nat × Nat),lasP a (l++m)=lasP (lasP a l) m:=by
 intro l
 induction l generalizing a with
 | nil=>intro m;rfl
 | cons x l ih=>intro m;exact ih x.1 m
def EqW (P P':List (Nat × Nat)):Prop:=∀ a,colP a P=colP a P'∧lasP a P=lasP a P'
theorem EqW.refl (P:List (Nat × Nat)):EqW P P:=fun _=>⟨rfl,rfl⟩
theorem EqW.app {P P' Q Q':List (Nat × Nat)} (h:EqW P P') (k:EqW Q Q'):EqW (P++Q) (P'++Q'):=fun a=>by
 rw [colP_app,colP_app,lasP_app,lasP_app,(h a).1,(h a).2,(k _).1,(k _).2]
 exact ⟨rfl,rfl⟩
section
variable {t t':List Nd} (h:Skin t t')
include h
end
def ev0 (x:Ev):Ev:={ x with place:=0 }
theorem ndE_0 (x:Ev):bare (ndE x)=ndE (ev0 x):=by unfold ndE ev0 bare;split<;>rfl
theorem bld_0 (T:List Nd) (S:List Nat) (x:Ev):bld (T.map bare,S) (ev0 x)=((bld (T,S) x).1.map bare,(bld (T,S) x).2):=by
 have hk:(ev0 x).kind=x.kind:=rfl
 by_cases h1:x.kind=1
 ·rw [bld_tx (x:=ev0 x) h1,bld_tx h1,List.map_append,← ndE_0];rfl
 ·by_cases h2:x.kind=2
  ·rw [bld_op (x:=ev0 x) h2,bld_op h2,List.map_append,← ndE_0,List.length_map];rfl
  ·unfold bld
   rw [hk,if_neg h1,if_neg h2,if_neg h1,if_neg h2]
   simp only [List.length_map,Prod.mk.injEq,and_true]
   apply List.ext_getElem?
   intro j
   rw [List.getElem?_map,List.getElem?_modify,List.getElem?_modify,List.getElem?_map]
   cases T[j]? with
   | none=>rfl
   | some y =>
    by_cases hj:S.getLastD 0=j
    ·simp only [Option.map_some,if_pos hj];rfl
    ·simp only [if_neg hj];rfl
theorem row_0:∀ (L:List Ev) (T:List Nd) (S:List Nat),(L.foldl bld (T,S)).1.map bare=((L.map ev0).foldl bld (T.map bare,S)).1:=by
 intro L
 induction L with
 | nil=>intro T S;rfl
 | cons x L ih =>
  intro T S
  rw [List.foldl_cons,List.map_cons,List.foldl_cons,bld_0]
  exact ih _ _
theorem step_0 (acc:List Ev) (x:Ev):(stepJ acc x).map ev0=stepJ (acc.map ev0) (ev0 x):=by
 have hk:(ev0 x).kind=x.kind:=rfl
 have ht:(ev0 x).text=x.text:=rfl
 by_cases h:x.kind=1
 ·by_cases h0:x.text.size=0
  ·rw [stepJ_gone h h0,stepJ_gone (x:=ev0 x) h h0]
  ·rcases List.eq_nil_or_concat acc with rfl | ⟨B',y,rfl⟩
   ·rw [stepJ_first h h0 endsE_nil,List.map_nil,stepJ_first (x:=ev0 x) h h0 endsE_nil];rfl
   ·rw [List.concat_eq_append,List.map_append]
    by_cases hy:y.kind=1
    ·rw [stepJ_more h h0 hy]
     show _=stepJ (B'.map ev0++[ev0 y]) (ev0 x)
     rw [stepJ_more (x:=ev0 x) (y:=ev0 y) h h0 hy,List.map_append];rfl
    ·rw [stepJ_first h h0 (endsE_snoc hy)]
     show _=stepJ (B'.map ev0++[ev0 y]) (ev0 x)
     rw [stepJ_first (x:=ev0 x) h h0 (endsE_snoc (x:=ev0 y) hy),List.map_append,List.map_append];rfl
 ·rw [stepJ_node h,stepJ_node (x:=ev0 x) h,List.map_append];rfl
theorem join_0:∀ (L acc:List Ev),(L.foldl stepJ acc).map ev0=(L.map ev0).foldl stepJ (acc.map ev0):=by
 intro L
 induction L with
 | nil=>intro acc;rfl
 | cons x L ih=>intro acc;rw [List.foldl_cons,List.map_cons,List.foldl_cons,ih,step_0]
end Go.Proofs.YtmldpkigfhoalaaGreatDoor.Nu
