/-
  Put together: TrL, TrP, TrQ, TrR, TrS, TrT, TrU.
-/
import Derived.Test.YtmldpkigfhoalaaGreatDoorVb
namespace Go.Proofs.YtmldpkigfhoalaaGreatDoor.Tr
open Go.RowKit
def core (x:Nd):Nat × ByteArray × Int:=(x.kind,x.text,x.place)
def NodeP (s:ByteArray) (c:Nat × ByteArray × Int):Prop :=
 (∀ z,nodeOk ⟨c.1,c.2.1,c.2.2,z⟩=true)∧∃ pl:Nat,c.2.2=(pl:Int)∧pl<s.size∧(c.1=46→0<c.2.1.size∧pl+c.2.1.size≤s.size∧s.extract pl (pl+c.2.1.size)=c.2.1)∧(c.1≠46→Lx.bAt s pl=123)
theorem core_modify (t:List Nd) (i:Nat) (z:Int):(t.modify i (setSize z)).map core=t.map core:=by
 apply List.ext_getElem?
 intro j
 rw [List.getElem?_map,List.getElem?_map,List.getElem?_modify]
 by_cases h:i=j
 ·simp only [h,if_true]
  cases t[j]?<;>rfl
 ·simp only [h,if_false]
  cases t[j]?<;>rfl
theorem path_modify (p:List Op) (i:Nat) (f:Op→Op) (hf:∀ o,(f o).kind=o.kind∧(f o).spot=o.spot):pathOf (p.modify i f)=pathOf p:=by
 unfold pathOf
 apply List.ext_getElem?
 intro j
 rw [List.getElem?_map,List.getElem?_map,List.getElem?_drop,List.getElem?_drop,List.getElem?_modify]
 cases p[1+j]? with
 | none=>rfl
 | some o =>
  by_cases h:i=1+j
  ·simp [h,hf o]
  ·simp [h]
theorem path_snoc (p:List Op) (o:Op) (h:0<p.length):pathOf (p++[o])=pathOf p++[(o.kind,o.spot)]:=by
 unfold pathOf
 rw [List.drop_append_of_le_length (by omega),List.map_append];rfl
theorem topP_snoc (p:List Op) (o:Op):topP (p++[o])=o:=by unfold topP;simp
structure Inv (s:ByteArray) (p:Nat) (st:List Nd × List Op):Prop where
 zip:∃ L,okR ([],[root]) L∧readL L=(st.1.map bare,st.2)∧Zip st.1 (pathOf st.2) L
 open1:0<st.2.length
 nodes:∀ c ∈ st.1.map core,NodeP s c∧c.2.2<(p:Int)
 rise:(st.1.map core).Pairwise fun a b=>a.2.2<b.2.2
 few:st.1.length≤2000
theorem Inv.start (s:ByteArray):Inv s 0 ([],[root]) :=
 ⟨⟨[],trivial,rfl,.base .nil⟩,by simp,fun c hc=>by simp at hc,by simp,by simp⟩
theorem Inv.mono {s:ByteArray} {p p':Nat} {st:List Nd × List Op} (h:Inv s p st) (hp:p≤p'):Inv s p' st :=
 ⟨h.zip,h.open1,fun c hc=>⟨(h.nodes c hc).1,by have:=(h.nodes c hc).2;omega⟩,h.rise,h.few⟩
theorem rise_snoc {l:List (Nat × ByteArray × Int)} {c:Nat × ByteArray × Int} (h:l.Pairwise fun a b=>a.2.2<b.2.2) (hc:∀ a ∈ l,a.2.2<c.2.2):(l++[c]).Pairwise fun a b=>a.2.2<b.2.2:=by
 rw [List.pairwise_append]
 exact ⟨h,by simp,fun a ha b hb=>by simp at hb;subst hb;exact hc a ha⟩
theorem stepR_open (t:List Nd) (p:List Op) (c:Nat) (tx:ByteArray) (pl:Nat):stepR (t,p) ⟨2,c,tx,pl⟩ =
  (t++[⟨c,emptyS,(pl:Int),1⟩],(if c=110 then (p.modify (p.length - 1) (addKid c)).modify (lastP (p.modify (p.length - 1) (addKid c)) aroundS) addNote else p.modify (p.length - 1) (addKid c))++[⟨c,emptyS,t.length,0,0,emptyS⟩]):=rfl
theorem stepR_text {p:List Op} (t:List Nd) (tx:ByteArray) (pl:Nat) (h:textsP p=true):stepR (t,p) ⟨1,0,tx,pl⟩ =
  (t++[⟨46,tx,(pl:Int),1⟩],if 0<lastP (p.modify (p.length - 1) (addKid 46)) noteS then (p.modify (p.length - 1) (addKid 46)).modify (lastP (p.modify (p.length - 1) (addKid 46)) noteS) (addText tx) else p.modify (p.length - 1) (addKid 46)):=by
 show (if textsP p=true then _ else _)=_
 rw [if_pos h]
theorem stepR_none {p:List Op} (t:List Nd) (tx:ByteArray) (pl:Nat) (h:textsP p=false):stepR (t,p) ⟨1,0,tx,pl⟩=(t,p):=by
 show (if textsP p=true then _ else _)=_
 rw [if_neg (by rw [h];decide)]
theorem stepR_close (t:List Nd) (p:List Op) (tx:ByteArray) (pl:Nat):stepR (t,p) ⟨3,0,tx,pl⟩ =
  (t.modify (topP p).spot (setSize ((t.length:Int) - ((topP p).spot:Int))),(if (topP p).kind=114∧(p.getD (p.length - 1 - 1) root).first=0 then p.modify (p.length - 1 - 1) (setFirst (topP p).kids.size) else p).take (p.length - 1)):=rfl
theorem err_close {t:List Nd} {p:List Op} {tx:ByteArray} {pl:Nat} (h:(errStep t p ⟨3,0,tx,pl⟩).2=0):p.length≠1:=fun e=>by
 change (if p.length=1∨(inK (topP p).kind ltrS=true∧(topP p).kids.size=0) then (pl,2) else _).2=0 at h
 rw [if_pos (.inl e)] at h;cases h
theorem err_open {t:List Nd} {p:List Op} {c:Nat} {tx:ByteArray} {pl:Nat} (h:(errStep t p ⟨2,c,tx,pl⟩).2=0):t.length<2000:=by
 change (if opensP p c=false then (pl,2) else if 32<p.length∨(c=108∧8≤manyP p 108) then (pl,5) else if 2000≤t.length then (pl,4) else (0,0)).2=0 at h
 rcases Nat.lt_or_ge t.length 2000 with h2 | h2
 ·exact h2
 ·exfalso
  repeat' split at h
  all_goals first | omega | cases h
theorem err_text {t:List Nd} {p:List Op} {tx:ByteArray} {pl:Nat} (ht:textsP p=true) (h:(errStep t p ⟨1,0,tx,pl⟩).2=0):t.length<2000:=by
 change (if textsP p=false then _ else if 2000≤t.length∨(0<lastP p noteS∧60<(p.getD (lastP p noteS) root).text.size+tx.size) then (pl,4) else (0,0)).2=0 at h
 rw [if_neg (by rw [ht];decide)] at h
 rcases Nat.lt_or_ge t.length 2000 with h2 | h2
 ·exact h2
 ·rw [if_pos (.inl h2)] at h;cases h
theorem Inv.step {s:ByteArray} {p q:Nat} {st:List Nd × List Op} {x:Lx.Lx} (h:Inv s p st) (hp:p<s.size) (hs:Lx.stepF s p=.inl (x,q)) (he:(errStep st.1 st.2 x).2=0):Inv s q (stepR st x):=by
 obtain ⟨t,o⟩:=st
 obtain ⟨⟨L,hL,hR,hZ⟩,h1,hN,hr,hf⟩:=h
 have hpq:=Lx.stepF_lt hp hs
 simp only [] at hL hR hZ h1 hN hr hf he
 have snoc:∀ y,bareX x=y→¬ (x.kind=1∧textsP o=false)→okR ([],[root]) (L++[y])∧readL (L++[y])=((stepR (t,o) x).1.map bare,(stepR (t,o) x).2):=fun y hy hx=>by
  subst hy
  have hfold:L.foldl stepR ([],[root])=(t.map bare,o):=hR
  refine ⟨(okR_snoc L _ _).2 ⟨hL,by rw [hfold];exact hx,by rw [hfold];show (errStep (t.map bare) o (bareX x)).2=0;rw [errStep_bare];exact he⟩,?_⟩
  rw [readL_snoc,hR,stepR_bare]
 have hNq:∀ c ∈ t.map core,NodeP s c∧c.2.2<(q:Int):=fun c hc=>⟨(hN c hc).1,by have:=(hN c hc).2;omega⟩
 have hx:=Lx.step_cases hp hs
 rcases hx with ⟨rfl,rfl,hb,_⟩ | ⟨c,n,hc256,hcn,hn0,hn2,rfl,hb,hle,_,rfl⟩ | ⟨e,he1,he2,rfl,rfl,hok,hend⟩
 ·-- a closing
  obtain ⟨hy1,hy2⟩:=snoc clL rfl (fun e=>by cases e.1)
  have hlen:o.length≠1:=err_close he
  obtain ⟨o0,ol,rfl⟩:∃ o0 ol,o=o0++[ol]:=⟨o.dropLast,o.getLast (by intro e;subst e;simp at h1),(List.dropLast_concat_getLast _).symm⟩
  have h0:0<o0.length:=by rw [List.length_append,List.length_singleton] at hlen;omega
  have hst:stepR (t,o0++[ol]) ⟨3,0,Lx.emptyS,p⟩=(t.modify ol.spot (setSize ((t.length:Int) - (ol.spot:Int))),((if ol.kind=114∧((o0++[ol]).getD ((o0++[ol]).length - 1 - 1) root).first=0 then (o0++[ol]).modify ((o0++[ol]).length - 1 - 1) (setFirst ol.kids.size) else (o0++[ol])).take ((o0++[ol]).length - 1))):=by
   rw [stepR_close,topP_snoc]
  have hpath:pathOf (stepR (t,o0++[ol]) ⟨3,0,Lx.emptyS,p⟩).2=pathOf o0∧(stepR (t,o0++[ol]) ⟨3,0,Lx.emptyS,p⟩).2.length=o0.length:=by
   rw [hst]
   simp only []
   split
   ·rw [List.length_append,List.length_singleton,Nat.add_sub_cancel]
    have e:(((o0++[ol]).modify (o0.length - 1) (setFirst ol.kids.size)).take o0.length)=o0.modify (o0.length - 1) (setFirst ol.kids.size):=by
     apply List.ext_getElem?
     intro j
     rcases Nat.lt_or_ge j o0.length with hj | hj
     ·rw [List.getElem?_take_of_lt hj,List.getElem?_modify,List.getElem?_modify,List.getElem?_append_left hj]
     ·rw [List.getElem?_eq_none (by rw [List.length_take];omega),List.getElem?_eq_none (by rw [List.length_modify];exact hj)]
    rw [e]
    exact ⟨path_modify _ _ (setFirst ol.kids.size) (fun o=>⟨rfl,rfl⟩),List.length_modify ..⟩
   ·rw [List.length_append,List.length_singleton,Nat.add_sub_cancel,List.take_append_of_le_length (Nat.le_refl _),List.take_length]
    exact ⟨rfl,rfl⟩
  rw [path_snoc _ _ h0] at hZ
  have hz:=hZ.closed
  refine ⟨⟨_,hy1,hy2,?_⟩,by rw [hpath.2];exact h0,?_,?_,?_⟩
  ·rw [hpath.1,hst];exact hz
  ·rw [hst];simp only [core_modify];exact hNq
  ·rw [hst];simp only [core_modify];exact hr
  ·rw [hst];simp only [List.length_modify];exact hf
 ·-- an opening
  obtain ⟨hy1,hy2⟩:=snoc (opL c) rfl (fun e=>by cases e.1)
  have hc46:c≠46:=fun e=>by
   subst e
   have:Lx.nameS 46=Lx.emptyS:=by decide +kernel
   rw [this] at hcn;subst hcn
   exact absurd hn0 (by decide)
  have hbound:t.length<2000:=err_open he
  obtain ⟨p2,hp2,hpl⟩:∃ p2,(stepR (t,o) ⟨2,c,Lx.emptyS,p⟩).2=p2++[⟨c,emptyS,t.length,0,0,emptyS⟩]∧(pathOf p2=pathOf o∧p2.length=o.length):=by
   rw [stepR_open]
   refine ⟨_,rfl,?_⟩
   split
   ·exact ⟨(path_modify _ _ addNote (fun o=>⟨rfl,rfl⟩)).trans (path_modify _ _ (addKid c) (fun o=>⟨rfl,rfl⟩)),by rw [List.length_modify,List.length_modify]⟩
   ·exact ⟨path_modify _ _ (addKid c) (fun o=>⟨rfl,rfl⟩),List.length_modify ..⟩
  have ht:(stepR (t,o) ⟨2,c,Lx.emptyS,p⟩).1=t++[⟨c,emptyS,(p:Int),1⟩]:=by rw [stepR_open]
  have hNew:NodeP s (core ⟨c,emptyS,(p:Int),1⟩):=by
   refine ⟨fun z=>?_,p,rfl,hp,fun e=>absurd e hc46,fun _=>hb⟩
   unfold nodeOk core
   simp only []
   rw [if_neg hc46,hcn]
   have e0:emptyS.size=0:=by decide
   have eB:(Lx.bytesN emptyS).all Lx.okT=true:=by decide +kernel
   rw [eB,Bool.and_true]
   simp only [decide_eq_true_eq]
   exact ⟨e0,by omega⟩
  refine ⟨⟨_,hy1,hy2,?_⟩,by rw [hp2];simp,?_,?_,?_⟩
  ·rw [hp2,ht,path_snoc _ _ (by rw [hpl.2];exact h1),hpl.1]
   exact hZ.opened c (p:Int) hc46
  ·rw [ht,List.map_append]
   intro d hd
   rcases List.mem_append.1 hd with hd | hd
   ·exact hNq d hd
   ·simp at hd;subst hd
    exact ⟨hNew,by show (p:Int)<_;omega⟩
  ·rw [ht,List.map_append]
   exact rise_snoc hr (fun a ha=>(hN a ha).2)
  ·rw [ht,List.length_append];simp;omega
 ·-- a text
  by_cases htx:textsP o=false
  ·have hsame:stepR (t,o) ⟨1,0,s.extract p q,p⟩=(t,o):=stepR_none t _ p htx
   rw [hsame]
   exact ⟨⟨L,hL,hR,hZ⟩,h1,hNq,hr,hf⟩
  ·have htx':textsP o=true:=by simpa using htx
   obtain ⟨hy1,hy2⟩:=snoc (txL (s.extract p q)) rfl (fun e=>htx e.2)
   have hbound:t.length<2000:=err_text htx' he
   have ht:(stepR (t,o) ⟨1,0,s.extract p q,p⟩).1=t++[⟨46,s.extract p q,(p:Int),1⟩]:=by rw [stepR_text t _ p htx']
   have hpl:pathOf (stepR (t,o) ⟨1,0,s.extract p q,p⟩).2=pathOf o∧(stepR (t,o) ⟨1,0,s.extract p q,p⟩).2.length=o.length:=by
    rw [stepR_text t _ p htx']
    simp only []
    split
    ·exact ⟨(path_modify _ _ (addText (s.extract p q)) (fun o=>⟨rfl,rfl⟩)).trans (path_modify _ _ (addKid 46) (fun o=>⟨rfl,rfl⟩)),by rw [List.length_modify,List.length_modify]⟩
    ·exact ⟨path_modify _ _ (addKid 46) (fun o=>⟨rfl,rfl⟩),List.length_modify ..⟩
   have hte:=Lx.step_text (s:=s) hok
   rw [hs] at hte
   simp only [Sum.inl.injEq,Prod.mk.injEq] at hte
   have hq:q=Lx.tend s p:=hte.2
   obtain ⟨_,z2,z3,_⟩:=Lx.tend_is s p (by omega)
   rw [← hq] at z2 z3
   have hsz:=Lx.ext_size s p q z2
   have hNew:NodeP s (core ⟨46,s.extract p q,(p:Int),1⟩):=by
    refine ⟨fun z=>?_,p,rfl,hp,fun _=>?_,fun e=>absurd rfl e⟩
    ·unfold nodeOk core
     simp only []
     rw [if_pos trivial]
     have hb:(Lx.bytesN (s.extract p q)).all Lx.okT=true:=by
      rw [List.all_eq_true]
      intro b hb
      rw [Lx.bytesN_ext] at hb
      obtain ⟨j,hj,rfl⟩:=List.mem_iff_getElem.1 hb
      rw [List.length_take,List.length_drop,Lx.bytesN_len] at hj
      rw [List.getElem_take,List.getElem_drop]
      have:=z3 (p+j) (by omega) (by omega)
      unfold Lx.bAt at this
      rwa [List.getD_eq_getElem?_getD,List.getElem?_eq_getElem (by rw [Lx.bytesN_len];omega)] at this
     rw [hb,Bool.and_true]
     simp only [decide_eq_true_eq];omega
    ·show 0<(s.extract p q).size∧p+(s.extract p q).size≤s.size∧s.extract p (p+(s.extract p q).size)=s.extract p q
     rw [hsz,show p+(q - p)=q from by omega]
     exact ⟨by omega,z2,rfl⟩
   refine ⟨⟨_,hy1,hy2,?_⟩,by rw [hpl.2];exact h1,?_,?_,?_⟩
   ·rw [hpl.1,ht]
    exact hZ.text _ _
   ·rw [ht,List.map_append]
    intro d hd
    rcases List.mem_append.1 hd with hd | hd
    ·exact hNq d hd
    ·simp at hd;subst hd
     exact ⟨hNew,by show (p:Int)<_;omega⟩
   ·rw [ht,List.map_append]
    exact rise_snoc hr (fun a ha=>(hN a ha).2)
   ·rw [ht,List.length_append];simp;omega
theorem Inv.run {s:ByteArray} {l:List Lx.Lx}:∀ (n k p:Nat) (st:List Nd × List Op),l.length - k≤n→Lx.At s l k p→Inv s p st→errFrom st (l.drop k)=none→Inv s s.size ((l.drop k).foldl stepR st)
 | 0,k,p,st,hn,hA,hI,_=>by
  have hk:l.length≤k:=by omega
  rw [List.drop_of_length_le hk]
  exact hI.mono hA.1
 | n+1,k,p,st,hn,hA,hI,he=>by
  rcases Nat.lt_or_ge k l.length with hk | hk
  ·obtain ⟨x,q,hx,hs,hA2⟩:=hA.step hk
   have hd:l.drop k=x::l.drop (k+1):=by
    rw [List.drop_eq_getElem_cons hk]
    rw [List.getElem?_eq_getElem hk] at hx
    rw [Option.some.inj hx]
   rw [hd] at he ⊢
   unfold errFrom at he
   by_cases h0:(errStep st.1 st.2 x).2=0
   ·rw [if_pos h0] at he
    rw [List.foldl_cons]
    exact Inv.run n (k+1) q _ (by omega) hA2 (hI.step (hA.lt hk) hs h0) he
   ·rw [if_neg h0] at he;cases he
  ·rw [List.drop_of_length_le hk]
   exact hI.mono hA.1
theorem wf_size {F:List Nd} {L:List Lx.Lx} (h:Wf F L):∀ (i:Nat) (x:Nd),F[i]?=some x→1≤x.size∧x.size≤(F.length:Int) - (i:Int)∧(x.kind=46→x.size=1):=by
 induction h with
 | nil=>intro i x hx;simp at hx
 | @text F L s pl _ ih =>
  intro i x hx
  rcases Nat.lt_or_ge i F.length with h1 | h1
  ·rw [List.getElem?_append_left h1] at hx
   obtain ⟨a,b,c⟩:=ih i x hx
   exact ⟨a,by rw [List.length_append];simp;omega,c⟩
  ·rw [List.getElem?_append_right h1] at hx
   obtain h2:i - F.length=0:=by
    rcases Nat.eq_zero_or_pos (i - F.length) with h | h
    ·exact h
    ·rw [List.getElem?_eq_none (by simp;omega)] at hx;cases hx
   rw [h2] at hx
   simp at hx
   subst hx
   exact ⟨by show (1:Int)≤1;omega,by rw [List.length_append];simp;omega,fun _=>rfl⟩
 | @node F G L M k pl _ _ hk ih1 ih2 =>
  intro i x hx
  rcases Nat.lt_or_ge i F.length with h1 | h1
  ·rw [List.getElem?_append_left h1] at hx
   obtain ⟨a,b,c⟩:=ih1 i x hx
   exact ⟨a,by rw [List.length_append];simp;omega,c⟩
  ·rw [List.getElem?_append_right h1] at hx
   cases hj:i - F.length with
   | zero =>
    rw [hj] at hx
    simp at hx
    subst hx
    exact ⟨by simp only [];omega,by rw [List.length_append];simp;omega,fun e=>absurd e hk⟩
   | succ j =>
    rw [hj,List.getElem?_cons_succ] at hx
    obtain ⟨a,b,c⟩:=ih2 j x hx
    exact ⟨a,by rw [List.length_append];simp;omega,c⟩
theorem Zip.wf {t:List Nd} {q:List (Nat × Nat)} {L:List Lx.Lx} (h:Zip t q L) (hq:q=[]):Wf t L:=by
 cases h with
 | base hF=>exact hF
 | push k pl hz hG hk=>simp at hq
theorem parse_may (s:ByteArray) (h:Lx.lexE s=0) (he:errFrom ([],[root]) (Lx.lexV s)=none) (h1:(readL (Lx.lexV s)).2.length≤1) :
  checkV (readL (Lx.lexV s)).1=0∧(readL (Lx.lexV s)).1.length≤2000 ∧
  (∀ (i:Nat) (x:Nd),(readL (Lx.lexV s)).1[i]?=some x→NodeP s (core x)∧1≤x.size∧x.size≤((readL (Lx.lexV s)).1.length:Int) - (i:Int)∧(x.kind=46→x.size=1)) ∧
  ((readL (Lx.lexV s)).1.map core).Pairwise fun a b=>a.2.2<b.2.2:=by
 have hI:=Inv.run _ 0 0 ([],[root]) (Nat.le_refl _) (Lx.At.zero (Lx.lex_all h)) (Inv.start s) he
 rw [List.drop_zero] at hI
 have hI:Inv s s.size (readL (Lx.lexV s)):=hI
 obtain ⟨st,hst⟩:∃ st,readL (Lx.lexV s)=st:=⟨_,rfl⟩
 rw [hst] at hI h1 ⊢
 obtain ⟨⟨L,hL,hR,hZ⟩,ho,hN,hr,hf⟩:=hI
 have hp:pathOf st.2=[]:=by unfold pathOf;rw [List.drop_of_length_le h1];rfl
 have hW:Wf st.1 L:=hZ.wf hp
 refine ⟨?_,hf,fun i x hx=>⟨(hN (core x) (List.mem_map.2 ⟨x,List.mem_of_getElem? hx,rfl⟩)).1,wf_size hW i x hx⟩,hr⟩
 rw [checkV_ok]
 refine ⟨fun x hx=>?_,L,wf_ev0 hW,hL⟩
 exact (hN (core x) (List.mem_map.2 ⟨x,hx,rfl⟩)).1.1 x.size
end Go.Proofs.YtmldpkigfhoalaaGreatDoor.Tr
namespace Go.Proofs.YtmldpkigfhoalaaGreatDoor.Tr
open Go.RowKit
def shiftO (d:Nat) (o:Op):Op:={ o with spot:=d+o.spot }
structure Sim (pre:List Nd) (st st':List Nd × List Op):Prop where
 nodes:st.1=pre++st'.1
 stack:∃ r r' p,st.2=r::p.map (shiftO pre.length)∧st'.2=r'::p∧r.kind=0∧r'.kind=0∧r.first=0∧r'.first=0∧∀ a,p[0]?=some a→a.kind≠114
theorem nil_or_snoc {α:Type} (p:List α):p=[]∨∃ q o,p=q++[o]:=by
 rcases List.eq_nil_or_concat p with h | ⟨q,o,h⟩
 ·exact .inl h
 ·exact .inr ⟨q,o,by rw [h,List.concat_eq_append]⟩
theorem topP_cons (r o:Op) (p:List Op):topP (r::(p++[o]))=o:=topP_snoc (r::p) o
theorem topP_one (r:Op):topP [r]=r:=rfl
theorem texts_root {r:Op} (h:r.kind=0):textsP [r]=false:=by
 unfold textsP
 rw [topP_one,h]
 have h0:inK 0 flowS=false:=by decide +kernel
 rw [h0];rfl
theorem texts_cons (r r':Op) (d:Nat) (p:List Op) (h:r.kind=0) (h':r'.kind=0):textsP (r::p.map (shiftO d))=textsP (r'::p):=by
 rcases nil_or_snoc p with rfl | ⟨q,o,rfl⟩
 ·rw [List.map_nil,texts_root h,texts_root h']
 ·rw [List.map_append,List.map_cons,List.map_nil]
  unfold textsP
  rw [topP_cons,topP_cons];rfl
theorem getD_map (d:Nat) (p:List Op) (r r':Op) (n:Nat) (hn:1≤n) (hl:n≤p.length):(r::p.map (shiftO d)).getD n root=shiftO d ((r'::p).getD n root):=by
 obtain ⟨m,rfl⟩:∃ m,n=m+1:=⟨n - 1,by omega⟩
 rw [List.getD_cons_succ,List.getD_cons_succ,List.getD_eq_getElem?_getD,List.getD_eq_getElem?_getD,List.getElem?_map,List.getElem?_eq_getElem (show m<p.length by omega)]
 rfl
theorem lastF_cons (r r':Op) (d:Nat) (p:List Op) (ks:ByteArray):∀ n,n≤p.length+1→lastF (r::p.map (shiftO d)) ks n=lastF (r'::p) ks n
 | 0,_=>rfl
 | n+1,hn=>by
  unfold lastF
  by_cases h:n=0
  ·rw [if_pos h,if_pos h]
  ·rw [if_neg h,if_neg h,getD_map d p r r' n (by omega) (by omega),lastF_cons r r' d p ks n (by omega)];rfl
theorem lastP_cons (r r':Op) (d:Nat) (p:List Op) (ks:ByteArray):lastP (r::p.map (shiftO d)) ks=lastP (r'::p) ks:=by
 unfold lastP
 rw [List.length_cons,List.length_cons,List.length_map]
 exact lastF_cons r r' d p ks _ (Nat.le_refl _)
theorem manyP_cons (r r':Op) (d:Nat) (p:List Op) (k:Nat):manyP (r::p.map (shiftO d)) k=manyP (r'::p) k:=by
 unfold manyP
 rw [List.drop_one,List.drop_one,List.tail_cons,List.tail_cons,List.filter_map,List.length_map];rfl
theorem opens_cons (r r':Op) (d:Nat) (p:List Op) (k:Nat) (h:r.kind=0) (h':r'.kind=0):opensP (r::p.map (shiftO d)) k=opensP (r'::p) k:=by
 rcases nil_or_snoc p with rfl | ⟨q,o,rfl⟩
 ·rfl
 ·have ht:=texts_cons r r' d (q++[o]) h h'
  have hm:=fun k=>manyP_cons r r' d (q++[o]) k
  have hl:=lastP_cons r r' d (q++[o]) aroundS
  have hle:lastP (r'::(q++[o])) aroundS≤(q++[o]).length:=by have:=lastP_lt (p:=r'::(q++[o])) aroundS (by simp);rw [List.length_cons] at this;omega
  have hg:0<lastP (r'::(q++[o])) aroundS→((r::(q++[o]).map (shiftO d)).getD (lastP (r'::(q++[o])) aroundS) root).notes=((r'::(q++[o])).getD (lastP (r'::(q++[o])) aroundS) root).notes:=fun h0=>by
   rw [getD_map d (q++[o]) r r' _ h0 hle];rfl
  have ht1:topP (r::(q++[o]).map (shiftO d))=shiftO d o:=by rw [List.map_append,List.map_cons,List.map_nil,topP_cons]
  unfold opensP
  simp only [ht1,topP_cons,ht,hm,hl,List.length_cons,List.length_map]
  have hk:(shiftO d o).kind=o.kind:=rfl
  have hk2:(shiftO d o).kids=o.kids:=rfl
  rw [hk,hk2]
  by_cases h0:0<lastP (r'::(q++[o])) aroundS
  ·rw [hg h0]
  ·have:∀ z w:Nat,(decide (manyP (r'::(q++[o])) 99=0∧0<lastP (r'::(q++[o])) aroundS∧z=0))=(decide (manyP (r'::(q++[o])) 99=0∧0<lastP (r'::(q++[o])) aroundS∧w=0)):=fun z w=>by
    rw [decide_eq_decide];constructor<;>(rintro ⟨_,h2,_⟩;exact absurd h2 h0)
   rw [this]
theorem Sim.err {pre:List Nd} {st st':List Nd × List Op} (h:Sim pre st st') (x:Lx.Lx) (hb:¬ (x.kind=1∧textsP st.2=false)→x.kind=1∨x.kind=2→st.1.length<2000):(errStep st.1 st.2 x).2=(errStep st'.1 st'.2 x).2:=by
 obtain ⟨t,p⟩:=st
 obtain ⟨u,q⟩:=st'
 obtain ⟨rfl,r,r',p,rfl,rfl,hr,hr',hf,hf',ha⟩:=h
 simp only [] at hb
 rw [texts_cons r r' _ p hr hr'] at hb
 unfold errStep
 rw [texts_cons r r' _ p hr hr',opens_cons r r' _ p _ hr hr',lastP_cons r r' _ p noteS,manyP_cons r r' _ p 108]
 simp only [List.length_cons,List.length_map,List.length_append] at hb ⊢
 by_cases h1:x.kind=1
 ·rw [if_pos h1,if_pos h1]
  split
  ·rfl
  ·have hlen:¬ 2000≤pre.length+u.length:=by have:=hb (fun e=>(by assumption:¬ textsP (r'::p)=false) e.2) (.inl h1);omega
   have hlen':¬ 2000≤u.length:=by omega
   by_cases h0:0<lastP (r'::p) noteS
   ·have hle:lastP (r'::p) noteS≤p.length:=by have:=lastP_lt (p:=r'::p) noteS (by simp);rw [List.length_cons] at this;omega
    rw [getD_map _ p r r' _ h0 hle]
    simp only [hlen,hlen',false_or]
    rfl
   ·simp only [hlen,hlen',h0,false_or,false_and,if_false]
 ·rw [if_neg h1,if_neg h1]
  by_cases h2:x.kind=2
  ·rw [if_pos h2,if_pos h2]
   have hlen:¬ 2000≤pre.length+u.length:=by have:=hb (fun e=>h1 e.1) (.inr h2);omega
   have hlen':¬ 2000≤u.length:=by omega
   simp only [hlen,hlen',if_false]
  ·rw [if_neg h2,if_neg h2]
   rcases nil_or_snoc p with rfl | ⟨q,o,rfl⟩
   ·simp
   ·have ht1:topP (r::(q++[o]).map (shiftO pre.length))=shiftO pre.length o:=by rw [List.map_append,List.map_cons,List.map_nil,topP_cons]
    rw [ht1,topP_cons]
    have hk:(shiftO pre.length o).kind=o.kind:=rfl
    have hk2:(shiftO pre.length o).kids=o.kids:=rfl
    simp only [hk,hk2]
    rcases nil_or_snoc q with rfl | ⟨q2,o2,rfl⟩
    ·have h114:o.kind≠114:=ha o (by simp)
     simp [h114]
    ·rw [getD_map pre.length ((q2++[o2])++[o]) r r' _ (by simp) (by simp)]
     rfl
end Go.Proofs.YtmldpkigfhoalaaGreatDoor.Tr
namespace Go.Proofs.YtmldpkigfhoalaaGreatDoor.Tr
open Go.RowKit
def St2 (d:Nat) (q q':List Op):Prop:=∃ r r' p,q=r::p.map (shiftO d)∧q'=r'::p∧r.kind=0∧r'.kind=0∧r.first=0∧r'.first=0∧∀ a,p[0]?=some a→a.kind≠114
theorem St2.len {d:Nat} {q q':List Op} (h:St2 d q q'):q.length=q'.length:=by obtain ⟨r,r',p,rfl,rfl,_⟩:=h;simp
theorem St2.last {d:Nat} {q q':List Op} (h:St2 d q q') (ks:ByteArray):lastP q ks=lastP q' ks:=by obtain ⟨r,r',p,rfl,rfl,_⟩:=h;exact lastP_cons r r' d p ks
theorem modify_shift (d:Nat) (f:Op→Op) (hc:∀ o,f (shiftO d o)=shiftO d (f o)):∀ (p:List Op) (n:Nat),(p.map (shiftO d)).modify n f=(p.modify n f).map (shiftO d)
 | [],n=>by cases n<;>rfl
 | o::p,0=>by
  show f (shiftO d o)::_=_
  rw [hc];rfl
 | o::p,n+1=>by
  show shiftO d o::(p.map (shiftO d)).modify n f=_
  rw [modify_shift d f hc p n];rfl
theorem St2.modify {d:Nat} {q q':List Op} (h:St2 d q q') (n:Nat) (f:Op→Op) (hc:∀ o,f (shiftO d o)=shiftO d (f o)) (hk:∀ o,(f o).kind=o.kind) (hf:n=0→∀ o,(f o).first=o.first):St2 d (q.modify n f) (q'.modify n f):=by
 obtain ⟨r,r',p,rfl,rfl,h1,h2,h3,h4,ha⟩:=h
 cases n with
 | zero=>exact ⟨f r,f r',p,rfl,rfl,(hk r).trans h1,(hk r').trans h2,(hf rfl r).trans h3,(hf rfl r').trans h4,ha⟩
 | succ n =>
  refine ⟨r,r',p.modify n f,?_,rfl,h1,h2,h3,h4,fun a hx=>?_⟩
  ·show r::(p.map (shiftO d)).modify n f=_
   rw [modify_shift d f hc]
  ·rw [List.getElem?_modify] at hx
   obtain ⟨b,hb,rfl⟩:=Option.map_eq_some_iff.1 hx
   split
   ·rw [hk];exact ha b hb
   ·exact ha b hb
theorem St2.snoc {d:Nat} {q q':List Op} (h:St2 d q q') (o:Op) (ho:q'.length=1→o.kind≠114):St2 d (q++[shiftO d o]) (q'++[o]):=by
 obtain ⟨r,r',p,rfl,rfl,h1,h2,h3,h4,ha⟩:=h
 refine ⟨r,r',p++[o],by simp,by simp,h1,h2,h3,h4,fun a hx=>?_⟩
 cases p with
 | nil=>simp at hx;subst hx;exact ho rfl
 | cons b p=>exact ha a (by simpa using hx)
theorem St2.take {d:Nat} {q q':List Op} (h:St2 d q q') (n:Nat) (hn:1≤n):St2 d (q.take n) (q'.take n):=by
 obtain ⟨r,r',p,rfl,rfl,h1,h2,h3,h4,ha⟩:=h
 obtain ⟨m,rfl⟩:∃ m,n=m+1:=⟨n - 1,by omega⟩
 refine ⟨r,r',p.take m,by simp,by simp,h1,h2,h3,h4,fun a hx=>?_⟩
 cases m with
 | zero=>simp at hx
 | succ m=>exact ha a (by rwa [List.getElem?_take_of_lt (by omega)] at hx)
theorem modify_far (pre u:List Nd) (i:Nat) (f:Nd→Nd):(pre++u).modify (pre.length+i) f=pre++u.modify i f:=by
 apply List.ext_getElem?
 intro j
 rcases Nat.lt_or_ge j pre.length with h | h
 ·rw [List.getElem?_modify,List.getElem?_append_left h,List.getElem?_append_left h]
  have hne:¬ pre.length+i=j:=by omega
  simp only [hne,if_false]
  cases pre[j]?<;>rfl
 ·rw [List.getElem?_modify,List.getElem?_append_right h,List.getElem?_append_right h,List.getElem?_modify]
  by_cases he:pre.length+i=j
  ·subst he
   rw [Nat.add_sub_cancel_left]
   simp
  ·have:¬ i=j - pre.length:=by omega
   simp only [he,this]
theorem Sim.step {pre:List Nd} {st st':List Nd × List Op} (h:Sim pre st st') (x:Lx.Lx) (he:(errStep st'.1 st'.2 x).2=0):Sim pre (stepR st x) (stepR st' x):=by
 obtain ⟨t,q⟩:=st
 obtain ⟨u,q'⟩:=st'
 obtain ⟨h0,h⟩:=h
 simp only [] at h0 h he
 subst h0
 have h:St2 pre.length q q':=h
 have hl:=h.len
 unfold stepR
 simp only []
 by_cases h1:x.kind=1
 ·rw [if_pos h1,if_pos h1]
  have ht:textsP q=textsP q':=by obtain ⟨r,r',p,rfl,rfl,a,b,_⟩:=h;exact texts_cons r r' _ p a b
  rw [ht]
  by_cases htx:textsP q'=true
  ·rw [if_pos htx,if_pos htx]
   have hA:=h.modify (q.length - 1) (addKid 46) (fun o=>rfl) (fun o=>rfl) (fun _ o=>rfl)
   have hA2:=hA.modify (lastP (q.modify (q.length - 1) (addKid 46)) noteS) (addText x.text) (fun o=>rfl) (fun o=>rfl) (fun _ o=>rfl)
   rw [hA.last noteS] at hA2 ⊢
   rw [hl] at hA hA2 ⊢
   refine ⟨by simp,?_⟩
   simp only []
   split
   ·exact hA2
   ·exact hA
  ·rw [if_neg htx,if_neg htx]
   exact ⟨rfl,h⟩
 ·rw [if_neg h1,if_neg h1]
  by_cases h2:x.kind=2
  ·rw [if_pos h2,if_pos h2]
   have hk:q'.length=1→x.name≠114:=fun e e2=>by
    unfold errStep at he
    rw [if_neg h1,if_pos h2] at he
    unfold opensP at he
    simp only [e,e2,if_true] at he
    rw [if_pos (show inK 114 blockS=false by decide +kernel)] at he
    cases he
   have hA:=h.modify (q.length - 1) (addKid x.name) (fun o=>rfl) (fun o=>rfl) (fun _ o=>rfl)
   have hA2:=hA.modify (lastP (q.modify (q.length - 1) (addKid x.name)) aroundS) addNote (fun o=>rfl) (fun o=>rfl) (fun _ o=>rfl)
   rw [hA.last aroundS] at hA2 ⊢
   rw [hl] at hA hA2 ⊢
   refine ⟨by simp,?_⟩
   have hn:(⟨x.name,emptyS,(pre++u).length,0,0,emptyS⟩:Op)=shiftO pre.length ⟨x.name,emptyS,u.length,0,0,emptyS⟩:=by simp [shiftO]
   rw [hn]
   simp only []
   split
   ·exact hA2.snoc _ (fun e=>hk (by rw [List.length_modify,List.length_modify] at e;exact e))
   ·exact hA.snoc _ (fun e=>hk (by rw [List.length_modify] at e;exact e))
  ·rw [if_neg h2,if_neg h2]
   have hlen:q'.length≠1:=fun e=>by
    unfold errStep at he
    rw [if_neg h1,if_neg h2,if_pos (.inl e)] at he
    cases he
   have hs2:=h
   obtain ⟨r,r',p,rfl,rfl,a1,a2,a3,a4,ha⟩:=h
   rcases nil_or_snoc p with rfl | ⟨p0,o,rfl⟩
   ·simp at hlen
   ·have ht1:topP (r::(p0++[o]).map (shiftO pre.length))=shiftO pre.length o:=by rw [List.map_append,List.map_cons,List.map_nil,topP_cons]
    rw [ht1,topP_cons]
    have hk:(shiftO pre.length o).kind=o.kind:=rfl
    have hk2:(shiftO pre.length o).kids=o.kids:=rfl
    have hk3:(shiftO pre.length o).spot=pre.length+o.spot:=rfl
    rw [hk,hk2,hk3,hl,modify_far]
    have hsz:(((pre++u).length:Nat):Int) - ((pre.length+o.spot:Nat):Int)=(u.length:Int) - (o.spot:Int):=by rw [List.length_append];omega
    rw [hsz]
    refine ⟨rfl,?_⟩
    have hL:(r'::(p0++[o])).length - 1=p0.length+1:=by simp
    rw [hL,Nat.add_sub_cancel]
    rcases nil_or_snoc p0 with rfl | ⟨p1,o1,rfl⟩
    ·have h114:o.kind≠114:=ha o (by simp)
     simp only [h114,false_and,if_false]
     exact hs2.take _ (by omega)
    ·have hg:=getD_map pre.length ((p1++[o1])++[o]) r r' (p1++[o1]).length (by simp) (by simp)
     rw [hg]
     have hk4:∀ z:Op,(shiftO pre.length z).first=z.first:=fun _=>rfl
     rw [hk4]
     simp only []
     split
     ·exact (hs2.modify _ (setFirst o.kids.size) (fun o=>rfl) (fun o=>rfl) (fun e=>by simp at e)).take _ (by omega)
     ·exact hs2.take _ (by omega)
theorem err_len {t:List Nd} {p:List Op} {x:Lx.Lx} (h:(errStep t p x).2=0) (hx:¬ (x.kind=1∧textsP p=false)):x.kind=1∨x.kind=2→t.length<2000:=fun hk=>by
 rcases Nat.lt_or_ge t.length 2000 with h2 | h2
 ·exact h2
 exfalso
 unfold errStep at h
 by_cases h1:x.kind=1
 ·rw [if_pos h1,if_neg (fun e=>hx ⟨h1,e⟩),if_pos (.inl h2)] at h;cases h
 ·have h3:x.kind=2:=by rcases hk with e | e;exact absurd e h1;exact e
  rw [if_neg h1,if_pos h3] at h
  repeat' split at h
  all_goals first | omega | cases h
theorem Sim.texts {pre:List Nd} {st st':List Nd × List Op} (h:Sim pre st st'):textsP st.2=textsP st'.2:=by
 obtain ⟨_,r,r',p,e1,e2,a,b,_⟩:=h
 rw [e1,e2];exact texts_cons r r' _ p a b
theorem Sim.alone {pre:List Nd}:∀ (l:List Lx.Lx) (st st':List Nd × List Op),Sim pre st st'→okR st l→okR st' l∧Sim pre (l.foldl stepR st) (l.foldl stepR st')
 | [],_,_,h,_=>⟨trivial,h⟩
 | x::l,st,st',h,⟨h1,h2,h3⟩=>by
  have he:=h.err x (fun _=>err_len h2 h1)
  have hs:=h.step x (by rw [← he];exact h2)
  obtain ⟨k1,k2⟩:=Sim.alone l _ _ hs h3
  exact ⟨⟨by rw [← h.texts];exact h1,by rw [← he];exact h2,k1⟩,k2⟩
theorem stepR_len (st:List Nd × List Op) (x:Lx.Lx):st.1.length≤(stepR st x).1.length∧(¬ (x.kind=1∧textsP st.2=false)→x.kind=1∨x.kind=2→st.1.length+1=(stepR st x).1.length):=by
 unfold stepR
 simp only []
 by_cases h1:x.kind=1
 ·rw [if_pos h1]
  by_cases ht:textsP st.2=true
  ·rw [if_pos ht];simp
  ·rw [if_neg ht]
   exact ⟨Nat.le_refl _,fun h=>absurd ⟨h1,by simpa using ht⟩ h⟩
 ·rw [if_neg h1]
  by_cases h2:x.kind=2
  ·rw [if_pos h2];simp
  ·rw [if_neg h2]
   simp [h1,h2]
theorem foldR_len:∀ (l:List Lx.Lx) (st:List Nd × List Op),st.1.length≤(l.foldl stepR st).1.length
 | [],_=>Nat.le_refl _
 | x::l,st=>Nat.le_trans (stepR_len st x).1 (foldR_len l _)
theorem Sim.behind {pre:List Nd}:∀ (l:List Lx.Lx) (st st':List Nd × List Op),Sim pre st st'→okR st' l→pre.length+(l.foldl stepR st').1.length≤2000→okR st l∧Sim pre (l.foldl stepR st) (l.foldl stepR st')
 | [],_,_,h,_,_=>⟨trivial,h⟩
 | x::l,st,st',h,⟨h1,h2,h3⟩,hb=>by
  have hlen:x.kind=1∨x.kind=2→st.1.length<2000:=fun hk=>by
   have e1:=(stepR_len st' x).2 h1 hk
   have e2:=foldR_len l (stepR st' x)
   rw [List.foldl_cons] at hb
   rw [h.nodes,List.length_append];omega
  have he:=h.err x (fun _=>hlen)
  have hs:=h.step x h2
  obtain ⟨k1,k2⟩:=Sim.behind l _ _ hs h3 hb
  exact ⟨⟨by rw [h.texts];exact h1,by rw [he];exact h2,k1⟩,k2⟩
theorem okR_app:∀ (l m:List Lx.Lx) (st:List Nd × List Op),okR st (l++m)↔okR st l∧okR (l.foldl stepR st) m
 | [],m,st=>by simp [okR]
 | x::l,m,st=>by
  show (_∧_∧okR (stepR st x) (l++m))↔(_∧_∧okR (stepR st x) l)∧_
  rw [okR_app l m,List.foldl_cons]
  simp only [and_assoc]
theorem step_tx (st:List Nd × List Op) (s:ByteArray):(stepR st (txL s)).2.length=st.2.length:=by
 obtain ⟨t,p⟩:=st
 by_cases h:textsP p=true
 ·rw [show txL s=⟨1,0,s,0⟩ from rfl,stepR_text t s 0 h]
  simp only []
  split<;>simp
 ·rw [show txL s=⟨1,0,s,0⟩ from rfl,stepR_none t s 0 (by simpa using h)]
theorem step_op (st:List Nd × List Op) (k:Nat):(stepR st (opL k)).2.length=st.2.length+1:=by
 obtain ⟨t,p⟩:=st
 rw [show opL k=⟨2,k,emptyS,0⟩ from rfl,stepR_open]
 simp only []
 split<;>simp
theorem step_cl (st:List Nd × List Op):(stepR st clL).2.length=st.2.length - 1:=by
 obtain ⟨t,p⟩:=st
 rw [show clL=⟨3,0,emptyS,0⟩ from rfl,stepR_close]
 simp only []
 split<;>simp
theorem wf_len {F:List Nd} {L:List Lx.Lx} (h:Wf F L):∀ st:List Nd × List Op,(L.foldl stepR st).2.length=st.2.length:=by
 induction h with
 | nil=>intro st;rfl
 | text s pl _ ih=>intro st;rw [List.foldl_append,List.foldl_cons,List.foldl_nil,step_tx,ih]
 | node k pl _ _ _ ih1 ih2 =>
  intro st
  rw [List.foldl_append,List.foldl_cons,List.foldl_append,List.foldl_cons,List.foldl_nil,step_cl,ih2,step_op,ih1];omega
end Go.Proofs.YtmldpkigfhoalaaGreatDoor.Tr
namespace Go.Proofs.YtmldpkigfhoalaaGreatDoor.Tr
open Go.RowKit
theorem evA_split {t:List Nd} {a e:Nat} {L:List Lx.Lx} (h:evA t a e=some L) (hlt:a<e) :
  ∃ x n Lb R,t[a]?=some x∧x.size=((n:Nat):Int)∧1≤n∧a+n≤e∧evA t a (a+n)=some Lb∧evA t (a+n) e=some R∧L=Lb++R:=by
 rw [evA_step t a e hlt] at h
 cases hx:t[a]? with
 | none=>rw [hx] at h;cases h
 | some x =>
  rw [hx] at h
  simp only [] at h
  by_cases hs:x.size<1∨(e:Int)<(a:Int)+x.size
  ·rw [if_pos hs] at h;cases h
  rw [if_neg hs] at h
  by_cases hk:x.kind=46
  ·rw [if_pos hk] at h
   by_cases h5:x.size=1
   ·rw [if_pos h5] at h
    obtain ⟨R,hR,rfl⟩:=Option.map_eq_some_iff.1 h
    exact ⟨x,1,[txL x.text],R,rfl,h5,Nat.le_refl _,by omega,by rw [evA_text (by omega) hx hk h5,evA_end _ _ _ (Nat.le_refl _)];rfl,hR,rfl⟩
   ·rw [if_neg h5] at h;cases h
  ·rw [if_neg hk] at h
   obtain ⟨K,hK,h3⟩:=Option.bind_eq_some_iff.1 h
   obtain ⟨R,hR,rfl⟩:=Option.map_eq_some_iff.1 h3
   obtain ⟨n,hn⟩:∃ n:Nat,x.size=(n:Int):=⟨x.size.toNat,by omega⟩
   rw [hn,Int.toNat_natCast] at hK hR
   refine ⟨x,n,opL x.kind::(K++[clL]),R,rfl,hn,by omega,by omega,?_,hR,by simp⟩
   rw [evA_node hx hk hn (by omega) (Nat.le_refl _),hK,Option.bind_some,evA_end _ _ _ (Nat.le_refl _)];rfl
theorem plain_ok {x:Nd} (h:nodeOk x=true):plainNd x:=fun hk=>by
 unfold nodeOk at h
 rw [if_neg hk,Bool.and_eq_true,decide_eq_true_eq] at h
 exact ByteArray.ext (Array.eq_empty_of_size_eq_zero h.1.1)
def Bd (t:List Nd) (a:Nat):Prop:=a≤t.length∧∃ L1 L2,evA t 0 a=some L1∧evA t a t.length=some L2∧okR ([],[root]) (L1++L2)
theorem Bd.zero {t:List Nd} (h:checkV t=0):Bd t 0:=by
 obtain ⟨_,l,hl,hok⟩:=(checkV_ok t).1 h
 exact ⟨Nat.zero_le _,[],l,evA_end _ _ _ (Nat.le_refl _),hl,hok⟩
theorem sim_root:Sim [] ([],[root]) ([],[root]):=⟨rfl,root,root,[],rfl,rfl,rfl,rfl,rfl,rfl,fun a h=>by simp at h⟩
theorem root_open {F:List Nd} {L:List Lx.Lx} (hW:Wf F L) (h:okR ([],[root]) L):Sim (readL L).1 (readL L) ([],[root]):=by
 obtain ⟨_,hs⟩:=sim_root.alone L _ _ h
 have hl:(readL L).2.length=1:=wf_len hW ([],[root])
 obtain ⟨_,r,r',p,e1,_,h1,_,h3,_,_⟩:=hs
 have e1:(readL L).2=r::p.map (shiftO 0):=e1
 have hp:p=[]:=by
  rw [e1] at hl
  simp at hl;exact hl
 subst hp
 exact ⟨by simp,r,root,[],e1,rfl,h1,rfl,h3,rfl,fun a h=>by simp at h⟩
theorem Bd.step {t:List Nd} (h:checkV t=0) {a:Nat} (hB:Bd t a) (hlt:a<t.length) :
  ∃ x n,t[a]?=some x∧x.size=((n:Nat):Int)∧1≤n∧a+n≤t.length∧checkV ((t.take (a+n)).drop a)=0∧Bd t (a+n):=by
 obtain ⟨hN,_⟩:=(checkV_ok t).1 h
 obtain ⟨ha,L1,L2,h1,h2,hok⟩:=hB
 obtain ⟨x,n,Lb,R,hx,hs,hn,hle,hb,hr,rfl⟩:=evA_split h2 hlt
 have hp:∀ x ∈ t,plainNd x:=fun x hx=>plain_ok (hN x hx)
 have hW1:=ev_wf t hp _ 0 a L1 (Nat.le_refl _) (Nat.zero_le _) ha h1
 have hWb:=ev_wf t hp _ a (a+n) Lb (Nat.le_refl _) (by omega) hle hb
 have hok2:=hok
 rw [← List.append_assoc] at hok2
 have hk:=(okR_app (L1++Lb) R _).1 hok2
 have hk1:=(okR_app L1 Lb _).1 hk.1
 have hsim:=root_open hW1 hk1.1
 have hbOk:=(hsim.alone Lb _ _ hk1.2).1
 refine ⟨x,n,hx,hs,hn,hle,?_,by omega,L1++Lb,R,evA_app t _ 0 a (a+n) L1 Lb (Nat.le_refl _) (Nat.zero_le _) (by omega) h1 hb,hr,hok2⟩
 rw [checkV_ok]
 exact ⟨fun y hy=>hN y (List.mem_of_mem_take (List.mem_of_mem_drop hy)),Lb,wf_ev0 hWb,hbOk⟩
def sameNd (x y:Nd):Bool:=decide (x.kind=y.kind∧x.text=y.text∧x.size=y.size)
def sameV (t u:List Nd):Bool:=decide (t.length=u.length) && (List.zip t u).all fun z=>sameNd z.1 z.2
theorem sameV_refl:∀ t:List Nd,sameV t t=true
 | []=>rfl
 | x::t=>by
  have ih:=sameV_refl t
  unfold sameV at ih ⊢
  rw [Bool.and_eq_true] at ih ⊢
  refine ⟨by simp,?_⟩
  rw [List.zip_cons_cons,List.all_cons,ih.2]
  simp [sameNd]
end Go.Proofs.YtmldpkigfhoalaaGreatDoor.Tr
namespace Go.Proofs.YtmldpkigfhoalaaGreatDoor.Tr
open Go.RowKit Lx
def nlS:ByteArray:={ data:=#[10] }
def join (a b:ByteArray):ByteArray:=(a++nlS)++b
end Go.Proofs.YtmldpkigfhoalaaGreatDoor.Tr
namespace Go.Proofs.YtmldpkigfhoalaaGreatDoor.Tr
open Go.RowKit Lx
theorem errFrom_app:∀ (l m:List Lx) (st:List Nd × List Op),errFrom st (l++m)=none↔errFrom st l=none∧errFrom (l.foldl stepR st) m=none
 | [],m,st=>by simp [errFrom]
 | x::l,m,st=>by
  rw [List.cons_append,List.foldl_cons]
  unfold errFrom
  by_cases h:(errStep st.1 st.2 x).2=0
  ·rw [if_pos h,if_pos h]
   cases l<;>cases m<;>first | exact errFrom_app _ _ _ | exact errFrom_app _ _ _
  ·rw [if_neg h,if_neg h];simp
theorem Inv.part {s:ByteArray} {l:List Lx} (hA:lexA s 0=(l,none)) (he:errFrom ([],[root]) l=none):∀ m,m≤l.length→∃ p,At s l m p∧Inv s p (readL (l.take m))
 | 0,_=>⟨0,At.zero hA,Inv.start s⟩
 | m+1,hm=>by
  obtain ⟨p,hA1,hI⟩:=Inv.part hA he m (by omega)
  obtain ⟨x,q,hx,hs,hA2⟩:=hA1.step (by omega)
  refine ⟨q,hA2,?_⟩
  have ht:l.take (m+1)=l.take m++[x]:=by rw [List.take_add_one,hx];rfl
  have hd:l=(l.take m++[x])++l.drop (m+1):=by rw [← ht,List.take_append_drop]
  rw [hd] at he
  have h1:=((errFrom_app _ _ _).1 ((errFrom_app _ _ _).1 he).1).2
  have h0:(errStep (readL (l.take m)).1 (readL (l.take m)).2 x).2=0:=by
   have h1:errFrom (readL (l.take m)) [x]=none:=h1
   unfold errFrom at h1
   by_cases h:(errStep (readL (l.take m)).1 (readL (l.take m)).2 x).2=0
   ·exact h
   ·rw [if_neg h] at h1;cases h1
  rw [ht,readL_snoc]
  exact hI.step (hA1.lt (by omega)) hs h0
theorem err_white {t:List Nd} {p:List Op} {tx:ByteArray} {pl:Nat} (ht:textsP p=false):(errStep t p ⟨1,0,tx,pl⟩).2=0↔darkAt tx=none:=by
 change (if textsP p=false then (match darkAt tx with | some i=>(pl+i,2) | none=>(0,0)) else _).2=0↔_
 rw [if_pos ht]
 cases darkAt tx<;>simp
theorem bare_same:∀ t u:List Nd,t.map bare=u.map bare→sameV t u=true
 | [],[],_=>rfl
 | [],y::u,h=>by simp at h
 | x::t,[],h=>by simp at h
 | x::t,y::u,h=>by
  simp only [List.map_cons,List.cons.injEq] at h
  have ih:=bare_same t u h.2
  unfold sameV at ih ⊢
  rw [Bool.and_eq_true] at ih ⊢
  have hd:=ih.1
  rw [decide_eq_true_eq] at hd
  refine ⟨by simp [hd],?_⟩
  rw [List.zip_cons_cons,List.all_cons,ih.2,Bool.and_true]
  obtain ⟨a1,a2,a3,a4⟩:=x
  obtain ⟨b1,b2,b3,b4⟩:=y
  have h1:=h.1
  simp only [bare,Nd.mk.injEq] at h1
  simp [sameNd,h1]
def Parsed (s:ByteArray):Prop:=lexE s=0∧errFrom ([],[root]) (lexV s)=none∧(readL (lexV s)).2.length≤1
theorem Parsed.last {s:ByteArray} (h:Parsed s):∀ x,(lexV s).getLast?=some x→x.kind≠2:=fun x hx hk=>by
 obtain ⟨h1,h2,h3⟩:=h
 have hA:=lex_all h1
 rcases nil_or_snoc (lexV s) with e | ⟨l,y,e⟩
 ·rw [e] at hx;cases hx
 ·rw [e] at hx hA h2 h3
  simp at hx
  subst hx
  obtain ⟨p,_,hI⟩:=Inv.part hA h2 l.length (by simp)
  rw [List.take_append_of_le_length (Nat.le_refl _),List.take_length] at hI
  have ho:=hI.open1
  obtain ⟨z,_,hz,hs,_⟩:=(Inv.part hA h2 l.length (by simp)).choose_spec.1.step (by simp)
  simp at hz
  subst hz
  rw [readL_snoc] at h3
  obtain ⟨yk,yn,yt,yp⟩:=y
  simp only [] at hk
  subst hk
  have e2:(stepR (readL l) ⟨2,yn,yt,yp⟩).2.length=(readL l).2.length+1:=by
   rw [show readL l=((readL l).1,(readL l).2) from rfl,stepR_open]
   simp only []
   split<;>simp
  rw [e2] at h3
  omega
theorem Parsed.cut {s:ByteArray} (h:Parsed s) {L W:List Lx} (he:lexV s=L++W) (hW:W=[]∨∃ tx pl,W=[⟨1,0,tx,pl⟩]) :
  errFrom ([],[root]) L=none∧readL L=readL (lexV s)∧Sim ((readL L).1.map bare) ((readL L).1.map bare,(readL L).2) ([],[root])∧(∀ tx pl,W=[⟨1,0,tx,pl⟩]→darkAt tx=none)∧textsP (readL L).2=false∧(readL L).2.length=1:=by
 obtain ⟨h1,h2,h3⟩:=h
 have hA:=lex_all h1
 rw [he] at hA h2 h3
 obtain ⟨e1,e2⟩:=(errFrom_app L W _).1 h2
 obtain ⟨p,_,hI⟩:=Inv.part hA h2 L.length (by simp)
 rw [List.take_append_of_le_length (Nat.le_refl _),List.take_length] at hI
 have hlen:(readL L).2.length=1:=by
  have ho:=hI.open1
  rcases hW with rfl | ⟨tx,pl,rfl⟩
  ·rw [List.append_nil] at h3;omega
  ·rw [readL_snoc] at h3
   have:(stepR (readL L) ⟨1,0,tx,pl⟩).2.length=(readL L).2.length:=by
    by_cases ht:textsP (readL L).2=true
    ·rw [show readL L=((readL L).1,(readL L).2) from rfl,stepR_text _ tx pl ht]
     simp only []
     split<;>simp
    ·rw [show readL L=((readL L).1,(readL L).2) from rfl,stepR_none _ tx pl (by simpa using ht)]
   omega
 obtain ⟨K,hK,hR,hZ⟩:=hI.zip
 have hp:pathOf (readL L).2=[]:=by unfold pathOf;rw [List.drop_of_length_le (by omega)];rfl
 have hWf:=hZ.wf hp
 have hS:=root_open hWf hK
 rw [hR] at hS
 have hS:Sim ((readL L).1.map bare) ((readL L).1.map bare,(readL L).2) ([],[root]):=hS
 have ht:textsP (readL L).2=false:=hS.texts.trans (texts_root rfl)
 have hdark:∀ tx pl,W=[⟨1,0,tx,pl⟩]→darkAt tx=none:=fun tx pl hw=>by
  subst hw
  have e2:errFrom (readL L) [⟨1,0,tx,pl⟩]=none:=e2
  unfold errFrom at e2
  by_cases h0:(errStep (readL L).1 (readL L).2 ⟨1,0,tx,pl⟩).2=0
  ·exact (err_white ht).1 h0
  ·rw [if_neg h0] at e2;cases e2
 refine ⟨e1,?_,hS,hdark,ht,hlen⟩
 rw [he]
 rcases hW with rfl | ⟨tx,pl,rfl⟩
 ·rw [List.append_nil]
 ·rw [readL_snoc,show readL L=((readL L).1,(readL L).2) from rfl,stepR_none _ tx pl ht]
end Go.Proofs.YtmldpkigfhoalaaGreatDoor.Tr
namespace Go.Proofs.YtmldpkigfhoalaaGreatDoor.Tr
open Go.RowKit Lx
theorem parseA_ok {s:ByteArray} (h:Parsed s):parseA s=((readL (lexV s)).1,0,0):=by
 unfold parseA
 rw [if_neg (by rw [h.1];decide),h.2.1]
 simp only []
 rw [if_neg (by have:=h.2.2;omega)]
theorem parsed_of {s:ByteArray} (h:(parseA s).2.2=0):Parsed s:=by
 unfold parseA at h
 by_cases h1:lexE s≠0
 ·rw [if_pos h1] at h;exact absurd h h1
 ·rw [if_neg h1] at h
  have h1:lexE s=0:=by simpa using h1
  cases he:errFrom ([],[root]) (lexV s) with
  | some z =>
   rw [he] at h
   simp only [] at h
   exfalso
   have:∀ (l:List Lx) (st:List Nd × List Op),errFrom st l=some z→z.2≠0:=by
    intro l
    induction l with
    | nil=>intro st h;cases h
    | cons x l ih =>
     intro st h
     unfold errFrom at h
     by_cases h0:(errStep st.1 st.2 x).2=0
     ·rw [if_pos h0] at h;exact ih _ h
     ·rw [if_neg h0] at h;cases h;exact h0
   exact this _ _ he h
  | none =>
   rw [he] at h
   simp only [] at h
   by_cases h3:1<(readL (lexV s)).2.length
   ·rw [if_pos h3] at h;cases h
   ·exact ⟨h1,he,by omega⟩
end Go.Proofs.YtmldpkigfhoalaaGreatDoor.Tr
