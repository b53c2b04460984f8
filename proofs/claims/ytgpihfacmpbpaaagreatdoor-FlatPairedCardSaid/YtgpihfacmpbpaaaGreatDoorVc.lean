/-
  Put together: TrL, TrP, TrQ, TrR, TrS, TrT, TrU.
-/
import Derived.Test.YtgpihfacmpbpaaaGreatDoorVb
namespace Go.Proofs.YtgpihfacmpbpaaaGreatDoor.Tr
open Go.RowKit
def core (x:Nd):Nat × ByteArray × Int:=(x.kind,x.text,x.place)
def KF (s:ByteArray) (c:Nat × ByteArray × Int):Prop :=
 (∀ z,bO ⟨c.1,c.2.1,c.2.2,z⟩=true)∧∃ pl:Nat,c.2.2=(pl:Int)∧pl<s.size∧(c.1=46→0<c.2.1.size∧pl+c.2.1.size≤s.size∧s.extract pl (pl+c.2.1.size)=c.2.1)∧(c.1≠46→Lx.bT s pl=123)
theorem zD (t:List Nd) (i:Nat) (z:Int):(t.modify i (aF z)).map core=t.map core:=by
 apply List.ext_getElem?
 intro j
 rw[List.getElem?_map,List.getElem?_map,List.getElem?_modify]
 by_cases h:i=j
 ·simp only[h,if_true]
  cases t[j]?<;>rfl
 ·simp only[h,if_false]
  cases t[j]?<;>rfl
theorem iN (p:List Op) (i:Nat) (f:Op→Op) (hf:∀ o,(f o).kind=o.kind∧(f o).spot=o.spot):pathOf (p.modify i f)=pathOf p:=by
 unfold pathOf
 apply List.ext_getElem?
 intro j
 rw[List.getElem?_map,List.getElem?_map,List.getElem?_drop,List.getElem?_drop,List.getElem?_modify]
 cases p[1+j]? with
 | none=>rfl
 | some o =>
  by_cases h:i=1+j
  ·simp[h,hf o]
  ·simp[h]
theorem EM (p:List Op) (o:Op) (h:0<p.length):pathOf (p++[o])=pathOf p++[(o.kind,o.spot)]:=by
 unfold pathOf
 rw[List.drop_append_of_le_length (by omega),List.map_append];rfl
theorem SX (p:List Op) (o:Op):aZ (p++[o])=o:=by unfold aZ;simp
structure Inv (s:ByteArray) (p:Nat) (st:List Nd × List Op):Prop where
 zip:∃ L,zW ([],[root]) L∧aV L=(st.1.map bare,st.2)∧Zip st.1 (pathOf st.2) L
 aEH:0<st.2.length
 nodes:∀ c ∈ st.1.map core,KF s c∧c.2.2<(p:Int)
 vH:(st.1.map core).Pairwise fun a b=>a.2.2<b.2.2
 few:st.1.length≤2000
theorem Inv.start (s:ByteArray):Inv s 0 ([],[root]) :=
 ⟨⟨[],trivial,rfl,.base .nil⟩,by simp,fun c hc=>by simp at hc,by simp,by simp⟩
theorem Inv.mono {s:ByteArray} {p p':Nat} {st:List Nd × List Op} (h:Inv s p st) (hp:p≤p'):Inv s p' st :=
 ⟨h.zip,h.aEH,fun c hc=>⟨(h.nodes c hc).1,by have:=(h.nodes c hc).2;omega⟩,h.vH,h.few⟩
theorem EN {l:List (Nat × ByteArray × Int)} {c:Nat × ByteArray × Int} (h:l.Pairwise fun a b=>a.2.2<b.2.2) (hc:∀ a ∈ l,a.2.2<c.2.2):(l++[c]).Pairwise fun a b=>a.2.2<b.2.2:=by
 rw[List.pairwise_append]
 exact⟨h,by simp,fun a ha b hb=>by simp at hb;subst hb;exact hc a ha⟩
theorem CG (t:List Nd) (p:List Op) (c:Nat) (tx:ByteArray) (pl:Nat):aE (t,p) ⟨2,c,tx,pl⟩ =
  (t++[⟨c,aA,(pl:Int),1⟩],(if c=110 then (p.modify (p.length - 1) (aG c)).modify (aN (p.modify (p.length - 1) (aG c)) bN) cU else p.modify (p.length - 1) (aG c))++[⟨c,aA,t.length,0,0,aA⟩]):=rfl
theorem CH {p:List Op} (t:List Nd) (tx:ByteArray) (pl:Nat) (h:aJ p=true):aE (t,p) ⟨1,0,tx,pl⟩ =
  (t++[⟨46,tx,(pl:Int),1⟩],if 0<aN (p.modify (p.length - 1) (aG 46)) bU then (p.modify (p.length - 1) (aG 46)).modify (aN (p.modify (p.length - 1) (aG 46)) bU) (gI tx) else p.modify (p.length - 1) (aG 46)):=by
 show (if aJ p=true then _ else _)=_
 rw[if_pos h]
theorem NO {p:List Op} (t:List Nd) (tx:ByteArray) (pl:Nat) (h:aJ p=false):aE (t,p) ⟨1,0,tx,pl⟩=(t,p):=by
 show (if aJ p=true then _ else _)=_
 rw[if_neg (by rw[h];decide)]
theorem KG (t:List Nd) (p:List Op) (tx:ByteArray) (pl:Nat):aE (t,p) ⟨3,0,tx,pl⟩ =
  (t.modify (aZ p).spot (aF ((t.length:Int) - ((aZ p).spot:Int))),(if (aZ p).kind=114∧(p.getD (p.length - 1 - 1) root).first=0 then p.modify (p.length - 1 - 1) (bW (aZ p).kids.size) else p).take (p.length - 1)):=rfl
theorem SY {t:List Nd} {p:List Op} {tx:ByteArray} {pl:Nat} (h:(aD t p ⟨3,0,tx,pl⟩).2=0):p.length≠1:=fun e=>by
 change (if p.length=1∨(cM (aZ p).kind q7=true∧(aZ p).kids.size=0) then (pl,2) else _).2=0 at h
 rw[if_pos (.inl e)]at h;cases h
theorem XG {t:List Nd} {p:List Op} {c:Nat} {tx:ByteArray} {pl:Nat} (h:(aD t p ⟨2,c,tx,pl⟩).2=0):t.length<2000:=by
 change (if eH p c=false then (pl,2) else if 32<p.length∨(c=108∧8≤bG p 108) then (pl,5) else if 2000≤t.length then (pl,4) else (0,0)).2=0 at h
 rcases Nat.lt_or_ge t.length 2000 with h2 | h2
 ·exact h2
 ·exfalso
  repeat' split at h
  all_goals first | omega | cases h
theorem XH {t:List Nd} {p:List Op} {tx:ByteArray} {pl:Nat} (ht:aJ p=true) (h:(aD t p ⟨1,0,tx,pl⟩).2=0):t.length<2000:=by
 change (if aJ p=false then _ else if 2000≤t.length∨(0<aN p bU∧60<(p.getD (aN p bU) root).text.size+tx.size) then (pl,4) else (0,0)).2=0 at h
 rw[if_neg (by rw[ht];decide)]at h
 rcases Nat.lt_or_ge t.length 2000 with h2 | h2
 ·exact h2
 ·rw[if_pos (.inl h2)]at h;cases h
theorem Inv.step {s:ByteArray} {p q:Nat} {st:List Nd × List Op} {x:Lx.Lx} (h:Inv s p st) (hp:p<s.size) (hs:Lx.dB s p=.inl (x,q)) (he:(aD st.1 st.2 x).2=0):Inv s q (aE st x):=by
 obtain⟨t,o⟩:=st
 obtain⟨⟨L,hL,hR,hZ⟩,h1,hN,hr,hf⟩:=h
 have hpq:=Lx.oK hp hs
 simp only[]at hL hR hZ h1 hN hr hf he
 have snoc:∀ y,EL x=y→¬ (x.kind=1∧aJ o=false)→zW ([],[root]) (L++[y])∧aV (L++[y])=((aE (t,o) x).1.map bare,(aE (t,o) x).2):=fun y hy hx=>by
  subst hy
  have hfold:L.foldl aE ([],[root])=(t.map bare,o):=hR
  refine⟨(BQ L _ _).2 ⟨hL,by rw[hfold];exact hx,by rw[hfold];show (aD (t.map bare) o (EL x)).2=0;rw[GF];exact he⟩,?_⟩
  rw[k8,hR,NN]
 have hNq:∀ c ∈ t.map core,KF s c∧c.2.2<(q:Int):=fun c hc=>⟨(hN c hc).1,by have:=(hN c hc).2;omega⟩
 have hx:=Lx.pG hp hs
 rcases hx with⟨rfl,rfl,hb,_⟩ | ⟨c,n,hc256,hcn,hn0,hn2,rfl,hb,hle,_,rfl⟩ | ⟨e,he1,he2,rfl,rfl,hok,hend⟩
 ·-- a closing
  obtain⟨hy1,hy2⟩:=snoc nB rfl (fun e=>by cases e.1)
  have hlen:o.length≠1:=SY he
  obtain⟨o0,ol,rfl⟩:∃ o0 ol,o=o0++[ol]:=⟨o.dropLast,o.getLast (by intro e;subst e;simp at h1),(List.dropLast_concat_getLast _).symm⟩
  have h0:0<o0.length:=by rw[List.length_append,List.length_singleton]at hlen;omega
  have hst:aE (t,o0++[ol]) ⟨3,0,Lx.aA,p⟩=(t.modify ol.spot (aF ((t.length:Int) - (ol.spot:Int))),((if ol.kind=114∧((o0++[ol]).getD ((o0++[ol]).length - 1 - 1) root).first=0 then (o0++[ol]).modify ((o0++[ol]).length - 1 - 1) (bW ol.kids.size) else (o0++[ol])).take ((o0++[ol]).length - 1))):=by
   rw[KG,SX]
  have hpath:pathOf (aE (t,o0++[ol]) ⟨3,0,Lx.aA,p⟩).2=pathOf o0∧(aE (t,o0++[ol]) ⟨3,0,Lx.aA,p⟩).2.length=o0.length:=by
   rw[hst]
   simp only[]
   split
   ·rw[List.length_append,List.length_singleton,Nat.add_sub_cancel]
    have e:(((o0++[ol]).modify (o0.length - 1) (bW ol.kids.size)).take o0.length)=o0.modify (o0.length - 1) (bW ol.kids.size):=by
     apply List.ext_getElem?
     intro j
     rcases Nat.lt_or_ge j o0.length with hj | hj
     ·rw[List.getElem?_take_of_lt hj,List.getElem?_modify,List.getElem?_modify,List.getElem?_append_left hj]
     ·rw[List.getElem?_eq_none (by rw[List.length_take];omega),List.getElem?_eq_none (by rw[List.length_modify];exact hj)]
    rw[e]
    exact⟨iN _ _ (bW ol.kids.size) (fun o=>⟨rfl,rfl⟩),List.length_modify ..⟩
   ·rw[List.length_append,List.length_singleton,Nat.add_sub_cancel,List.take_append_of_le_length (Nat.le_refl _),List.take_length]
    exact⟨rfl,rfl⟩
  rw[EM _ _ h0]at hZ
  have hz:=hZ.closed
  refine⟨⟨_,hy1,hy2,?_⟩,by rw[hpath.2];exact h0,?_,?_,?_⟩
  ·rw[hpath.1,hst];exact hz
  ·rw[hst];simp only[zD];exact hNq
  ·rw[hst];simp only[zD];exact hr
  ·rw[hst];simp only[List.length_modify];exact hf
 ·-- an opening
  obtain⟨hy1,hy2⟩:=snoc (jJ c) rfl (fun e=>by cases e.1)
  have hc46:c≠46:=fun e=>by
   subst e
   have:Lx.bE 46=Lx.aA:=by decide +kernel
   rw[this]at hcn;subst hcn
   exact absurd hn0 (by decide)
  have hbound:t.length<2000:=XG he
  obtain⟨p2,hp2,hpl⟩:∃ p2,(aE (t,o) ⟨2,c,Lx.aA,p⟩).2=p2++[⟨c,aA,t.length,0,0,aA⟩]∧(pathOf p2=pathOf o∧p2.length=o.length):=by
   rw[CG]
   refine⟨_,rfl,?_⟩
   split
   ·exact⟨(iN _ _ cU (fun o=>⟨rfl,rfl⟩)).trans (iN _ _ (aG c) (fun o=>⟨rfl,rfl⟩)),by rw[List.length_modify,List.length_modify]⟩
   ·exact⟨iN _ _ (aG c) (fun o=>⟨rfl,rfl⟩),List.length_modify ..⟩
  have ht:(aE (t,o) ⟨2,c,Lx.aA,p⟩).1=t++[⟨c,aA,(p:Int),1⟩]:=by rw[CG]
  have hNew:KF s (core ⟨c,aA,(p:Int),1⟩):=by
   refine⟨fun z=>?_,p,rfl,hp,fun e=>absurd e hc46,fun _=>hb⟩
   unfold bO core
   simp only[]
   rw[if_neg hc46,hcn]
   have e0:aA.size=0:=by decide
   have eB:(Lx.aH aA).all Lx.jD=true:=by decide +kernel
   rw[eB,Bool.and_true]
   simp only[decide_eq_true_eq]
   exact⟨e0,by omega⟩
  refine⟨⟨_,hy1,hy2,?_⟩,by rw[hp2];simp,?_,?_,?_⟩
  ·rw[hp2,ht,EM _ _ (by rw[hpl.2];exact h1),hpl.1]
   exact hZ.opened c (p:Int) hc46
  ·rw[ht,List.map_append]
   intro d hd
   rcases List.mem_append.1 hd with hd | hd
   ·exact hNq d hd
   ·simp at hd;subst hd
    exact⟨hNew,by show (p:Int)<_;omega⟩
  ·rw[ht,List.map_append]
   exact EN hr (fun a ha=>(hN a ha).2)
  ·rw[ht,List.length_append];simp;omega
 ·-- a text
  by_cases htx:aJ o=false
  ·have hsame:aE (t,o) ⟨1,0,s.extract p q,p⟩=(t,o):=NO t _ p htx
   rw[hsame]
   exact⟨⟨L,hL,hR,hZ⟩,h1,hNq,hr,hf⟩
  ·have htx':aJ o=true:=by simpa using htx
   obtain⟨hy1,hy2⟩:=snoc (pB (s.extract p q)) rfl (fun e=>htx e.2)
   have hbound:t.length<2000:=XH htx' he
   have ht:(aE (t,o) ⟨1,0,s.extract p q,p⟩).1=t++[⟨46,s.extract p q,(p:Int),1⟩]:=by rw[CH t _ p htx']
   have hpl:pathOf (aE (t,o) ⟨1,0,s.extract p q,p⟩).2=pathOf o∧(aE (t,o) ⟨1,0,s.extract p q,p⟩).2.length=o.length:=by
    rw[CH t _ p htx']
    simp only[]
    split
    ·exact⟨(iN _ _ (gI (s.extract p q)) (fun o=>⟨rfl,rfl⟩)).trans (iN _ _ (aG 46) (fun o=>⟨rfl,rfl⟩)),by rw[List.length_modify,List.length_modify]⟩
    ·exact⟨iN _ _ (aG 46) (fun o=>⟨rfl,rfl⟩),List.length_modify ..⟩
   have hte:=Lx.iZ (s:=s) hok
   rw[hs]at hte
   simp only[Sum.inl.injEq,Prod.mk.injEq]at hte
   have hq:q=Lx.C5 s p:=hte.2
   obtain⟨_,z2,z3,_⟩:=Lx.pP s p (by omega)
   rw[← hq]at z2 z3
   have hsz:=Lx.fH s p q z2
   have hNew:KF s (core ⟨46,s.extract p q,(p:Int),1⟩):=by
    refine⟨fun z=>?_,p,rfl,hp,fun _=>?_,fun e=>absurd rfl e⟩
    ·unfold bO core
     simp only[]
     rw[if_pos trivial]
     have hb:(Lx.aH (s.extract p q)).all Lx.jD=true:=by
      rw[List.all_eq_true]
      intro b hb
      rw[Lx.pT]at hb
      obtain⟨j,hj,rfl⟩:=List.mem_iff_getElem.1 hb
      rw[List.length_take,List.length_drop,Lx.bL]at hj
      rw[List.getElem_take,List.getElem_drop]
      have:=z3 (p+j) (by omega) (by omega)
      unfold Lx.bT at this
      rwa [List.getD_eq_getElem?_getD,List.getElem?_eq_getElem (by rw[Lx.bL];omega)]at this
     rw[hb,Bool.and_true]
     simp only[decide_eq_true_eq];omega
    ·show 0<(s.extract p q).size∧p+(s.extract p q).size≤s.size∧s.extract p (p+(s.extract p q).size)=s.extract p q
     rw[hsz,show p+(q - p)=q from by omega]
     exact⟨by omega,z2,rfl⟩
   refine⟨⟨_,hy1,hy2,?_⟩,by rw[hpl.2];exact h1,?_,?_,?_⟩
   ·rw[hpl.1,ht]
    exact hZ.text _ _
   ·rw[ht,List.map_append]
    intro d hd
    rcases List.mem_append.1 hd with hd | hd
    ·exact hNq d hd
    ·simp at hd;subst hd
     exact⟨hNew,by show (p:Int)<_;omega⟩
   ·rw[ht,List.map_append]
    exact EN hr (fun a ha=>(hN a ha).2)
   ·rw[ht,List.length_append];simp;omega
theorem Inv.run {s:ByteArray} {l:List Lx.Lx}:∀ (n k p:Nat) (st:List Nd × List Op),l.length - k≤n→Lx.At s l k p→Inv s p st→gQ st (l.drop k)=none→Inv s s.size ((l.drop k).foldl aE st)
 | 0,k,p,st,hn,hA,hI,_=>by
  have hk:l.length≤k:=by omega
  rw[List.drop_of_length_le hk]
  exact hI.mono hA.1
 | n+1,k,p,st,hn,hA,hI,he=>by
  rcases Nat.lt_or_ge k l.length with hk | hk
  ·obtain⟨x,q,hx,hs,hA2⟩:=hA.step hk
   have hd:l.drop k=x::l.drop (k+1):=by
    rw[List.drop_eq_getElem_cons hk]
    rw[List.getElem?_eq_getElem hk]at hx
    rw[Option.some.inj hx]
   rw[hd]at he ⊢
   unfold gQ at he
   by_cases h0:(aD st.1 st.2 x).2=0
   ·rw[if_pos h0]at he
    rw[List.foldl_cons]
    exact Inv.run n (k+1) q _ (by omega) hA2 (hI.step (hA.lt hk) hs h0) he
   ·rw[if_neg h0]at he;cases he
  ·rw[List.drop_of_length_le hk]
   exact hI.mono hA.1
theorem sL {F:List Nd} {L:List Lx.Lx} (h:Wf F L):∀ (i:Nat) (x:Nd),F[i]?=some x→1≤x.size∧x.size≤(F.length:Int) - (i:Int)∧(x.kind=46→x.size=1):=by
 induction h with
 | nil=>intro i x hx;simp at hx
 | @text F L s pl _ ih =>
  intro i x hx
  rcases Nat.lt_or_ge i F.length with h1 | h1
  ·rw[List.getElem?_append_left h1]at hx
   obtain⟨a,b,c⟩:=ih i x hx
   exact⟨a,by rw[List.length_append];simp;omega,c⟩
  ·rw[List.getElem?_append_right h1]at hx
   obtain h2:i - F.length=0:=by
    rcases Nat.eq_zero_or_pos (i - F.length)with h | h
    ·exact h
    ·rw[List.getElem?_eq_none (by simp;omega)]at hx;cases hx
   rw[h2]at hx
   simp at hx
   subst hx
   exact⟨by show (1:Int)≤1;omega,by rw[List.length_append];simp;omega,fun _=>rfl⟩
 | @node F G L M k pl _ _ hk ih1 ih2 =>
  intro i x hx
  rcases Nat.lt_or_ge i F.length with h1 | h1
  ·rw[List.getElem?_append_left h1]at hx
   obtain⟨a,b,c⟩:=ih1 i x hx
   exact⟨a,by rw[List.length_append];simp;omega,c⟩
  ·rw[List.getElem?_append_right h1]at hx
   cases hj:i - F.length with
   | zero =>
    rw[hj]at hx
    simp at hx
    subst hx
    exact⟨by simp only[];omega,by rw[List.length_append];simp;omega,fun e=>absurd e hk⟩
   | succ j =>
    rw[hj,List.getElem?_cons_succ]at hx
    obtain⟨a,b,c⟩:=ih2 j x hx
    exact⟨a,by rw[List.length_append];simp;omega,c⟩
theorem Zip.wf {t:List Nd} {q:List (Nat × Nat)} {L:List Lx.Lx} (h:Zip t q L) (hq:q=[]):Wf t L:=by
 cases h with
 | base hF=>exact hF
 | push k pl hz hG hk=>simp at hq
theorem DJ (s:ByteArray) (h:Lx.nD s=0) (he:gQ ([],[root]) (Lx.gV s)=none) (h1:(aV (Lx.gV s)).2.length≤1) :
  aL (aV (Lx.gV s)).1=0∧(aV (Lx.gV s)).1.length≤2000 ∧
  (∀ (i:Nat) (x:Nd),(aV (Lx.gV s)).1[i]?=some x→KF s (core x)∧1≤x.size∧x.size≤((aV (Lx.gV s)).1.length:Int) - (i:Int)∧(x.kind=46→x.size=1)) ∧
  ((aV (Lx.gV s)).1.map core).Pairwise fun a b=>a.2.2<b.2.2:=by
 have hI:=Inv.run _ 0 0 ([],[root]) (Nat.le_refl _) (Lx.At.zero (Lx.zY h)) (Inv.start s) he
 rw[List.drop_zero]at hI
 have hI:Inv s s.size (aV (Lx.gV s)):=hI
 obtain⟨st,hst⟩:∃ st,aV (Lx.gV s)=st:=⟨_,rfl⟩
 rw[hst]at hI h1 ⊢
 obtain⟨⟨L,hL,hR,hZ⟩,ho,hN,hr,hf⟩:=hI
 have hp:pathOf st.2=[]:=by unfold pathOf;rw[List.drop_of_length_le h1];rfl
 have hW:Wf st.1 L:=hZ.wf hp
 refine⟨?_,hf,fun i x hx=>⟨(hN (core x) (List.mem_map.2 ⟨x,List.mem_of_getElem? hx,rfl⟩)).1,sL hW i x hx⟩,hr⟩
 rw[gX]
 refine⟨fun x hx=>?_,L,FE hW,hL⟩
 exact(hN (core x) (List.mem_map.2 ⟨x,hx,rfl⟩)).1.1 x.size
end Go.Proofs.YtgpihfacmpbpaaaGreatDoor.Tr
namespace Go.Proofs.YtgpihfacmpbpaaaGreatDoor.Tr
open Go.RowKit
end Go.Proofs.YtgpihfacmpbpaaaGreatDoor.Tr
namespace Go.Proofs.YtgpihfacmpbpaaaGreatDoor.Tr
open Go.RowKit
theorem uZ:∀ (l m:List Lx.Lx) (st:List Nd × List Op),zW st (l++m)↔zW st l∧zW (l.foldl aE st) m
 | [],m,st=>by simp[zW]
 | x::l,m,st=>by
  show (_∧_∧zW (aE st x) (l++m))↔(_∧_∧zW (aE st x) l)∧_
  rw[uZ l m,List.foldl_cons]
  simp only[and_assoc]
end Go.Proofs.YtgpihfacmpbpaaaGreatDoor.Tr
namespace Go.Proofs.YtgpihfacmpbpaaaGreatDoor.Tr
open Go.RowKit
theorem R7 {t:List Nd} {a e:Nat} {L:List Lx.Lx} (h:fJ t a e=some L) (hlt:a<e) :
  ∃ x n Lb R,t[a]?=some x∧x.size=((n:Nat):Int)∧1≤n∧a+n≤e∧fJ t a (a+n)=some Lb∧fJ t (a+n) e=some R∧L=Lb++R:=by
 rw[iM t a e hlt]at h
 cases hx:t[a]? with
 | none=>rw[hx]at h;cases h
 | some x =>
  rw[hx]at h
  simp only[]at h
  by_cases hs:x.size<1∨(e:Int)<(a:Int)+x.size
  ·rw[if_pos hs]at h;cases h
  rw[if_neg hs]at h
  by_cases hk:x.kind=46
  ·rw[if_pos hk]at h
   by_cases h5:x.size=1
   ·rw[if_pos h5]at h
    obtain⟨R,hR,rfl⟩:=Option.map_eq_some_iff.1 h
    exact⟨x,1,[pB x.text],R,rfl,h5,Nat.le_refl _,by omega,by rw[oN (by omega) hx hk h5,dT _ _ _ (Nat.le_refl _)];rfl,hR,rfl⟩
   ·rw[if_neg h5]at h;cases h
  ·rw[if_neg hk]at h
   obtain⟨K,hK,h3⟩:=Option.bind_eq_some_iff.1 h
   obtain⟨R,hR,rfl⟩:=Option.map_eq_some_iff.1 h3
   obtain⟨n,hn⟩:∃ n:Nat,x.size=(n:Int):=⟨x.size.toNat,by omega⟩
   rw[hn,Int.toNat_natCast]at hK hR
   refine⟨x,n,jJ x.kind::(K++[nB]),R,rfl,hn,by omega,by omega,?_,hR,by simp⟩
   rw[lK hx hk hn (by omega) (Nat.le_refl _),hK,Option.bind_some,dT _ _ _ (Nat.le_refl _)];rfl
theorem IF {x:Nd} (h:bO x=true):gM x:=fun hk=>by
 unfold bO at h
 rw[if_neg hk,Bool.and_eq_true,decide_eq_true_eq]at h
 exact ByteArray.ext (Array.eq_empty_of_size_eq_zero h.1.1)
def kI (x y:Nd):Bool:=decide (x.kind=y.kind∧x.text=y.text∧x.size=y.size)
def gU (t u:List Nd):Bool:=decide (t.length=u.length) && (List.zip t u).all fun z=>kI z.1 z.2
theorem CF:∀ t:List Nd,gU t t=true
 | []=>rfl
 | x::t=>by
  have ih:=CF t
  unfold gU at ih ⊢
  rw[Bool.and_eq_true]at ih ⊢
  refine⟨by simp,?_⟩
  rw[List.zip_cons_cons,List.all_cons,ih.2]
  simp[kI]
end Go.Proofs.YtgpihfacmpbpaaaGreatDoor.Tr
namespace Go.Proofs.YtgpihfacmpbpaaaGreatDoor.Tr
open Go.RowKit Lx
def nlS:ByteArray:={ data:=#[10] }
def join (a b:ByteArray):ByteArray:=(a++nlS)++b
end Go.Proofs.YtgpihfacmpbpaaaGreatDoor.Tr
namespace Go.Proofs.YtgpihfacmpbpaaaGreatDoor.Tr
open Go.RowKit Lx
theorem wV:∀ t u:List Nd,t.map bare=u.map bare→gU t u=true
 | [],[],_=>rfl
 | [],y::u,h=>by simp at h
 | x::t,[],h=>by simp at h
 | x::t,y::u,h=>by
  simp only[List.map_cons,List.cons.injEq]at h
  have ih:=wV t u h.2
  unfold gU at ih ⊢
  rw[Bool.and_eq_true]at ih ⊢
  have hd:=ih.1
  rw[decide_eq_true_eq]at hd
  refine⟨by simp[hd],?_⟩
  rw[List.zip_cons_cons,List.all_cons,ih.2,Bool.and_true]
  obtain⟨a1,a2,a3,a4⟩:=x
  obtain⟨b1,b2,b3,b4⟩:=y
  have h1:=h.1
  simp only[bare,Nd.mk.injEq]at h1
  simp[kI,h1]
def XI (s:ByteArray):Prop:=nD s=0∧gQ ([],[root]) (gV s)=none∧(aV (gV s)).2.length≤1
end Go.Proofs.YtgpihfacmpbpaaaGreatDoor.Tr
namespace Go.Proofs.YtgpihfacmpbpaaaGreatDoor.Tr
open Go.RowKit Lx
theorem sR {s:ByteArray} (h:XI s):bH s=((aV (gV s)).1,0,0):=by
 unfold bH
 rw[if_neg (by rw[h.1];decide),h.2.1]
 simp only[]
 rw[if_neg (by have:=h.2.2;omega)]
theorem sQ {s:ByteArray} (h:(bH s).2.2=0):XI s:=by
 unfold bH at h
 by_cases h1:nD s≠0
 ·rw[if_pos h1]at h;exact absurd h h1
 ·rw[if_neg h1]at h
  have h1:nD s=0:=by simpa using h1
  cases he:gQ ([],[root]) (gV s) with
  | some z =>
   rw[he]at h
   simp only[]at h
   exfalso
   have:∀ (l:List Lx) (st:List Nd × List Op),gQ st l=some z→z.2≠0:=by
    intro l
    induction l with
    | nil=>intro st h;cases h
    | cons x l ih =>
     intro st h
     unfold gQ at h
     by_cases h0:(aD st.1 st.2 x).2=0
     ·rw[if_pos h0]at h;exact ih _ h
     ·rw[if_neg h0]at h;cases h;exact h0
   exact this _ _ he h
  | none =>
   rw[he]at h
   simp only[]at h
   by_cases h3:1<(aV (gV s)).2.length
   ·rw[if_pos h3]at h;cases h
   ·exact⟨h1,he,by omega⟩
end Go.Proofs.YtgpihfacmpbpaaaGreatDoor.Tr
