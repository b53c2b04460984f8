/-
  Put together.
-/
import Derived.Test.YthbigkoihpgcfaaGreatDoorOe
import Derived.Test.YthbigkoihpgcfaaGreatDoorVd
import Derived.Test.YthbigkoihpgcfaaGreatDoorWa
namespace Go.Proofs.YthbigkoihpgcfaaGreatDoor.Da
open Go.RowKit Tr Nu Nl Cn Fl
def fO (o:Tr.Op):Nat × Bool:=(o.kind,EC 108 o.kids)
def aER (p:List Tr.Op):List (Nat × Bool):=(p.map fO).reverse
def tP (a:Nat × Bool):Bool:=EC a.1 P8 || (a.1==105 && !a.2)
def opM (a:Nat × Bool) (r:List (Nat × Bool)) (k:Nat):Prop :=
 (r=[]∧EC k ZF=true)∨(r≠[]∧((a.1=105∧k=108)∨(a.1=108∧k=105)∨(a.1=116∧k=114)∨(a.1=114∧k=99)∨(tP a=true∧EC k aDQ=true)))
inductive Run:List Tk→List (Nat × Bool)→Prop
 | nil:Run [] [(0,false)]
 | ch {l:List Tk} {x:Tk} {a:Nat × Bool} {r:List (Nat × Bool)}:Run l (a::r)→x.kind=1→tP a=true→Run (l++[x]) (a::r)
 | op {l:List Tk} {x:Tk} {a:Nat × Bool} {r:List (Nat × Bool)}:Run l (a::r)→x.kind=2→opM a r x.ch→Run (l++[x]) ((x.ch,false)::(a.1,a.2 || decide (x.ch=108))::r)
 | cl {l:List Tk} {x:Tk} {a:Nat × Bool} {r:List (Nat × Bool)}:Run l (a::r)→x.kind=3→r≠[]→a.1=x.ch→Run (l++[x]) r
theorem aJS {p q:List Tr.Op} (h:q.length=p.length) (hi:∀ i,fO (q.getD i root)=fO (p.getD i root)):q.map fO=p.map fO:=by
 refine List.ext_getElem (by rw[List.length_map,List.length_map,h]) (fun i h1 h2=>?_)
 rw[List.length_map]at h1 h2
 have:=hi i
 rw[List.getD_eq_getElem?_getD,List.getD_eq_getElem?_getD,List.getElem?_eq_getElem h1,List.getElem?_eq_getElem h2]at this
 rw[List.getElem_map,List.getElem_map]
 exact this
theorem aJT {p:List Tr.Op} (n:Nat) {f:Tr.Op→Tr.Op} (hf:∀ o,fO (f o)=fO o):(p.modify n f).map fO=p.map fO :=
 aJS (by simp) fun i=>by
  rw[aHL]
  split
  ·exact hf _
  ·rfl
theorem aIV:∀ (p:List Tr.Op) (o:Tr.Op) (f:Tr.Op→Tr.Op),(p++[o]).modify p.length f=p++[f o]
 | [],_,_=>rfl
 | a::p,o,f=>congrArg (a::·) (aIV p o f)
theorem aHO {t:List Nd} {p:List Tr.Op} {x:Lx.Lx} (hx:x.kind=1) (ht:FQ p=true):aER (ZE (t,p) x).2=aER p:=by
 obtain⟨-,d⟩:=aJE (t:=t) hx ht
 unfold aER
 rw[aJS d.1 fun i=>?_]
 exact Prod.ext (d.2 i).kind (d.2 i).list
theorem aGG (p:List Tr.Op) (o:Tr.Op):aER (p++[o])=fO o::aER p:=by
 unfold aER
 rw[List.map_append,List.reverse_append];rfl
theorem aKR {k:Nat} (h:k<256):EC 108 (jZ k)=decide (k=108):=by
 rw[Bool.eq_iff_iff,aCX,aJF h,List.mem_singleton,decide_eq_true_eq]
 exact eq_comm
theorem aKS {t:List Nd} {p:List Tr.Op} {o:Tr.Op} {x:Lx.Lx} (hx:x.kind=2) (hn:x.name<256):aER (ZE (t,p++[o]) x).2=(x.name,false)::(o.kind,EC 108 o.kids || decide (x.name=108))::aER p:=by
 have e:(ZE (t,p++[o]) x).2=(if x.name=110 then ((p++[o]).modify ((p++[o]).length - 1) (ZI x.name)).modify (DN ((p++[o]).modify ((p++[o]).length - 1) (ZI x.name)) FR) aCH else (p++[o]).modify ((p++[o]).length - 1) (ZI x.name))++[⟨x.name,cJ,t.length,0,0,cJ⟩]:=by
  unfold ZE
  simp only[hx,show ¬ ((2:Nat)=1) by decide,if_false,if_true]
 rw[e,aGG]
 have h1:(p++[o]).modify ((p++[o]).length - 1) (ZI x.name)=p++[ZI x.name o]:=by
  rw[show (p++[o]).length - 1=p.length by rw[List.length_append,List.length_singleton];omega,aIV]
 have h2:aER (p++[ZI x.name o])=(o.kind,EC 108 o.kids || decide (x.name=108))::aER p:=by
  rw[aGG]
  congr 1
  show (o.kind,EC 108 (o.kids++jZ x.name))=_
  rw[aJQ,aKR hn]
 rw[h1]
 congr 1
 split
 ·rw[← h2]
  unfold aER
  rw[aJT (f:=aCH) _ (fun o=>rfl)]
 ·exact h2
theorem aJ7 {t:List Nd} {p:List Tr.Op} {o:Tr.Op} {x:Lx.Lx} (h1:x.kind≠1) (h2:x.kind≠2):aER (ZE (t,p++[o]) x).2=aER p:=by
 have e:(ZE (t,p++[o]) x).2=(if (T4 (p++[o])).kind=114∧((p++[o]).getD ((p++[o]).length - 1 - 1) root).first=0 then (p++[o]).modify ((p++[o]).length - 1 - 1) (ZJ (T4 (p++[o])).kids.size) else p++[o]).take ((p++[o]).length - 1):=by
  unfold ZE
  simp only[h1,h2,if_false]
 rw[e]
 unfold aER
 rw[List.map_take]
 have:(if (T4 (p++[o])).kind=114∧((p++[o]).getD ((p++[o]).length - 1 - 1) root).first=0 then (p++[o]).modify ((p++[o]).length - 1 - 1) (ZJ (T4 (p++[o])).kids.size) else p++[o]).map fO=(p++[o]).map fO:=by
  split
  ·exact aJT _ fun o=>rfl
  ·rfl
 rw[this,List.length_append,List.length_singleton,Nat.add_sub_cancel,← List.map_take,List.take_left]
theorem aLO {p:List Tr.Op} {o:Tr.Op} {k:Nat} (h:aEJ (p++[o]) k=true):opM (fO o) (aER p) k:=by
 have hl:(aER p).length=p.length:=by unfold aER;rw[List.length_reverse,List.length_map]
 unfold aEJ at h
 simp only[Tr.aG7]at h
 by_cases h1:(p++[o]).length=1
 ·rw[if_pos h1]at h
  rw[List.length_append,List.length_singleton]at h1
  exact .inl ⟨List.eq_nil_of_length_eq_zero (by omega),h⟩
 ·rw[if_neg h1]at h
  rw[List.length_append,List.length_singleton]at h1
  refine .inr ⟨fun e=>h1 (by rw[e]at hl;rw[← hl];rfl),?_⟩
  by_cases h2:(o.kind=105∧k=108)∨(o.kind=108∧k=105)∨(o.kind=116∧k=114)
  ·rcases h2 with h2 | h2 | h2
   ·exact .inl h2
   ·exact .inr (.inl h2)
   ·exact .inr (.inr (.inl h2))
  ·rw[if_neg h2]at h
   by_cases h3:o.kind=114
   ·rw[if_pos h3,decide_eq_true_eq]at h
    exact .inr (.inr (.inr (.inl ⟨h3,h.1⟩)))
   ·rw[if_neg h3]at h
    by_cases h4:FQ (p++[o])=false∨EC k aDQ=false∨0<ZH (p++[o]) k
    ·rw[if_pos h4]at h;cases h
    ·refine .inr (.inr (.inr (.inr ⟨?_,?_⟩)))
     ·have:FQ (p++[o])=true:=by
       cases e:FQ (p++[o]) with
       | true=>rfl
       | false=>exact absurd (.inl e) h4
      unfold FQ at this
      rw[Tr.aG7]at this
      exact this
     ·cases e:EC k aDQ with
      | true=>rfl
      | false=>exact absurd (.inr (.inl e)) h4
theorem aJU {p:List Tr.Op} (h:FQ p=true):∃ a r,aER p=a::r∧tP a=true:=by
 rcases List.eq_nil_or_concat p with rfl | ⟨q,o,rfl⟩
 ·cases h
 ·rw[List.concat_eq_append]at h ⊢
  refine⟨_,_,aGG q o,?_⟩
  unfold FQ at h
  rw[Tr.aG7]at h
  exact h
theorem aMC (l:List Tk):(∀ x ∈ l,x.ch<256)→∀ E K,aM l=some (E,K)→okR ([],[root]) (E.map e2l)→Run l (aER (aDF (E.map e2l)).2)∧(aER (aDF (E.map e2l)).2).map (·.1)=K.reverse++[0]:=by
 refine mP (P:=fun l=>(∀ x ∈ l,x.ch<256)→∀ E K,aM l=some (E,K)→okR ([],[root]) (E.map e2l)→Run l (aER (aDF (E.map e2l)).2)∧(aER (aDF (E.map e2l)).2).map (·.1)=K.reverse++[0]) ?_ ?_ l.length l rfl
 ·intro _ E K h _
  cases h
  exact⟨.nil,rfl⟩
 ·intro l x ih hl E K h hr
  have hx:x.ch<256:=hl x (by simp)
  have hl0:∀ y ∈ l,y.ch<256:=fun y hy=>hl y (by simp[hy])
  unfold aM at h
  rw[List.foldl_append]at h
  have h:eM (aM l) x=some (E,K):=h
  cases hp:aM l with
  | none=>rw[hp]at h;cases h
  | some q =>
   obtain⟨E0,K0⟩:=q
   have ih:=ih hl0 E0 K0 hp
   rw[hp]at h
   unfold eM at h
   simp only[]at h
   by_cases h1:x.kind=1
   ·rw[if_pos h1]at h
    obtain⟨rfl,rfl⟩:=Prod.mk.inj (Option.some.inj h)
    have hone:(JP (jZ x.ch) x.place).text.size≠0:=by show (1:Nat)≠0;decide
    have plain:nE E0 (JP (jZ x.ch) x.place)=E0++[JP (jZ x.ch) x.place]→Run (l++[x]) (aER (aDF ((nE E0 (JP (jZ x.ch) x.place)).map e2l)).2)∧(aER (aDF ((nE E0 (JP (jZ x.ch) x.place)).map e2l)).2).map (·.1)=K0.reverse++[0]:=fun e=>by
     rw[e,List.map_append]at hr ⊢
     rw[show [JP (jZ x.ch) x.place].map e2l=[e2l (JP (jZ x.ch) x.place)] from rfl]at hr ⊢
     rw[aGH]at hr
     obtain⟨r1,r2,-⟩:=hr
     obtain⟨i1,i2⟩:=ih r1
     have ht:FQ (aDF (E0.map e2l)).2=true:=by
      cases e:FQ (aDF (E0.map e2l)).2 with
      | true=>rfl
      | false=>exact absurd ⟨rfl,e⟩ r2
     rw[aFX]
     have:=aHO (t:=(aDF (E0.map e2l)).1) (x:=e2l (JP (jZ x.ch) x.place)) rfl ht
     rw[show ZE (aDF (E0.map e2l))=ZE ((aDF (E0.map e2l)).1,(aDF (E0.map e2l)).2) from rfl,this]
     refine⟨?_,i2⟩
     obtain⟨a,r,ea,et⟩:=aJU ht
     rw[ea]at i1 ⊢
     exact .ch i1 h1 et
    rcases List.eq_nil_or_concat E0 with rfl | ⟨A,y,rfl⟩
    ·exact plain (dV rfl hone nF)
    ·rw[List.concat_eq_append]at *
     by_cases hy:y.kind=1
     ·clear plain
      rw[lB rfl hone hy]at hr ⊢
      rw[List.map_append]at hr ih ⊢
      rw[show ∀ z:Ev,[z].map e2l=[e2l z] from fun _=>rfl]at hr ih ⊢
      rw[aGH]at hr ih
      obtain⟨r1,r2,r3⟩:=hr
      have hs:(A.map e2l).foldl ZE ([],[root])=((aDF (A.map e2l)).1,(aDF (A.map e2l)).2):=rfl
      rw[hs]at r2 r3 ih
      simp only[]at r2 r3 ih
      have ht:FQ (aDF (A.map e2l)).2=true:=by
       cases e:FQ (aDF (A.map e2l)).2 with
       | true=>rfl
       | false=>exact absurd ⟨hy,e⟩ r2
      rw[aH3 (show (e2l { y with text:=y.text++(JP (jZ x.ch) x.place).text }).kind=1 from hy) ht]at r3
      have hsz:(e2l { y with text:=y.text++(JP (jZ x.ch) x.place).text }).text.size=y.text.size+1:=ByteArray.size_append
      rw[hsz]at r3
      obtain⟨i1,i2⟩:=ih ⟨r1,by rw[ht];exact fun hh=>Bool.noConfusion hh.2,by
       rw[aH3 (show (e2l y).kind=1 from hy) ht]
       show ¬ (_∨(_∧60<_+y.text.size))
       omega⟩
      rw[aFX]at i1 i2 ⊢
      rw[show ZE (aDF (A.map e2l))=ZE ((aDF (A.map e2l)).1,(aDF (A.map e2l)).2) from rfl]at i1 i2 ⊢
      rw[aHO (x:=e2l y) hy ht]at i1 i2
      rw[aHO (x:=e2l { y with text:=y.text++(JP (jZ x.ch) x.place).text }) hy ht]
      refine⟨?_,i2⟩
      obtain⟨a,r,ea,et⟩:=aJU ht
      rw[ea]at i1 ⊢
      exact .ch i1 h1 et
     ·exact plain (dV rfl hone (lC hy))
   ·rw[if_neg h1]at h
    have hlen:∀ p:List Tr.Op,∀ K:List Nat,(aER p).map (·.1)=K.reverse++[0]→∃ p' o,p=p'++[o]:=fun p K e=>by
     rcases List.eq_nil_or_concat p with rfl | ⟨q,o,rfl⟩
     ·have e:([]:List Nat)=K.reverse++[0]:=e
      exact absurd e (by simp)
     ·exact⟨q,o,List.concat_eq_append ..⟩
    by_cases h2:x.kind=2
    ·rw[if_pos h2]at h
     obtain⟨rfl,rfl⟩:=Prod.mk.inj (Option.some.inj h)
     rw[List.map_append]at hr ⊢
     rw[show ∀ z:Ev,[z].map e2l=[e2l z] from fun _=>rfl]at hr ⊢
     rw[aGH]at hr
     obtain⟨r1,-,r3⟩:=hr
     obtain⟨i1,i2⟩:=ih r1
     have hs:(E0.map e2l).foldl ZE ([],[root])=((aDF (E0.map e2l)).1,(aDF (E0.map e2l)).2):=rfl
     rw[hs]at r3
     simp only[]at r3
     obtain⟨p,o,hp2⟩:=hlen _ _ i2
     rw[aFX,show ZE (aDF (E0.map e2l))=ZE ((aDF (E0.map e2l)).1,(aDF (E0.map e2l)).2) from rfl]
     rw[hp2]at i1 i2 r3 ⊢
     rw[aKS (x:=e2l (opE x.ch x.place)) rfl hx]
     rw[aGG]at i1 i2
     have ho:aEJ (p++[o]) x.ch=true:=by
      unfold tO at r3
      rw[if_neg (show ¬ (e2l (opE x.ch x.place)).kind=1 from fun e=>by cases e),if_pos (show (e2l (opE x.ch x.place)).kind=2 from rfl)]at r3
      cases e:aEJ (p++[o]) x.ch with
      | true=>rfl
      | false =>
       rw[if_pos (show aEJ (p++[o]) (e2l (opE x.ch x.place)).name=false from e)]at r3
       cases r3
     refine⟨.op i1 h2 (aLO ho),?_⟩
     rw[List.reverse_append]
     exact congrArg (x.ch::·) i2
    ·rw[if_neg h2]at h
     by_cases h3:x.kind=3
     ·rw[if_pos h3]at h
      rcases List.eq_nil_or_concat K0 with rfl | ⟨K',k,rfl⟩
      ·cases h
      ·rw[List.concat_eq_append]at *
       rw[List.getLast?_concat]at h
       simp only[]at h
       by_cases hk:k=x.ch
       ·rw[if_pos hk,List.dropLast_concat]at h
        obtain⟨rfl,rfl⟩:=Prod.mk.inj (Option.some.inj h)
        rw[List.map_append]at hr ⊢
        rw[show ∀ z:Ev,[z].map e2l=[e2l z] from fun _=>rfl]at hr ⊢
        rw[aGH]at hr
        obtain⟨r1,-,-⟩:=hr
        obtain⟨i1,i2⟩:=ih r1
        obtain⟨p,o,hp2⟩:=hlen _ _ i2
        rw[aFX,show ZE (aDF (E0.map e2l))=ZE ((aDF (E0.map e2l)).1,(aDF (E0.map e2l)).2) from rfl]
        rw[hp2]at i1 i2 ⊢
        rw[aJ7 (x:=e2l clE) (fun e=>by cases e) (fun e=>by cases e)]
        rw[aGG]at i1 i2
        rw[List.reverse_append]at i2
        have i2:(fO o).1::(aER p).map (·.1)=k::(K'.reverse++[0]):=i2
        rw[List.cons.injEq]at i2
        refine⟨.cl i1 h3 (fun e=>?_) (i2.1.trans hk),i2.2⟩
        rw[e]at i2
        exact absurd i2.2 (by simp)
       ·rw[if_neg hk]at h;cases h
     ·rw[if_neg h3]at h;cases h
theorem aFN {l:List Tk} (hl:∀ x ∈ l,x.ch<256) (h:(WG l).2=0):∃ S,Run l S∧S.length=1:=by
 unfold WG at h
 cases hp:pI l with
 | none=>rw[hp]at h;cases h
 | some t =>
  rw[hp]at h
  simp only[]at h
  by_cases hw:mG l=true
  ·rw[if_pos hw]at h;cases h
  ·rw[if_neg hw]at h
   by_cases hc:NN t≠0
   ·rw[if_pos hc]at h;exact absurd h hc
   ·have hc:NN t=0:=by omega
    obtain⟨E,hE,rfl⟩:=JM hp
    obtain⟨i1,i2,i3,i4⟩:=CZ l hl E [] hE
    have hb:Bal E:=i3
    obtain⟨hok,L,hL,hR⟩:=(aH5 _).1 hc
    have ho:∀ x ∈ E,aKP x:=fun x hx=>by
     rcases i4 x hx with h | ⟨k,pl,rfl⟩ | h
     ·exact .inl h
     ·refine .inr (.inl ⟨k,pl,?_,rfl⟩)
      rintro rfl
      obtain⟨A,B,rfl⟩:=List.append_of_mem hx
      obtain⟨z,hz⟩:=aIW hb (x:=opE 46 pl) (.inr rfl)
      have:=hok _ (List.mem_of_getElem? hz)
      have e:aEI (aU z (LH (opE 46 pl)))=false:=rfl
      rw[e]at this;cases this
     ·exact .inr (.inr h)
    rw[aMD (aIH E hb ho)]at hL
    cases hL
    obtain⟨j1,j2⟩:=aMC l hl E [] hE hR
    exact⟨_,j1,by rw[← List.length_map (f:=(·.1)),j2];rfl⟩
def zH (x:Tk):Bool:=decide (x.kind=1) || ((decide (x.kind=2) || decide (x.kind=3)) && EC x.ch aDQ)
def M0 (k:Nat):Bool:=k==49 || k==50 || k==51 || k==112 || k==105 || k==99 || k==107
def mD (x:Tk):Bool:=decide (x.kind=2) && M0 x.ch
def SE (k:Nat) (x:Tk):Bool:=(decide (x.kind=3) && x.ch==k) || (decide (x.kind=2) && x.ch==108)
def Quiet (l:List Tk) (a b:Nat):Prop:=∀ (j:Nat) (x:Tk),a≤j→j<b→l[j]?=some x→zH x=true
def aLP:List (Nat × Bool)→Prop
 | a::b::r=>(tP b=false∨EC a.1 aDQ=true)∧aLP (b::r)
 | _=>True
theorem tC {l:List Tk} {x y:Tk} {j:Nat} (h:(l++[x])[j]?=some y):l[j]?=some y∨(j=l.length∧y=x):=by
 by_cases hj:j<l.length
 ·rw[List.getElem?_append_left hj]at h;exact .inl h
 ·rw[List.getElem?_append_right (by omega)]at h
  have e:j - l.length=0:=by
   by_cases h0:j - l.length=0
   ·exact h0
   ·rw[List.getElem?_eq_none (by rw[List.length_singleton];omega)]at h;cases h
  rw[e]at h
  exact .inr ⟨by omega,(Option.some.inj h).symm⟩
theorem M1 {l:List Tk} {y:Tk} {j:Nat} (h:l[j]?=some y):j<l.length:=(List.getElem?_eq_some_iff.1 h).1
theorem aBK {l:List Tk} {x y:Tk} {j:Nat} (h:l[j]?=some y):(l++[x])[j]?=some y:=by rw[List.getElem?_append_left (M1 h)];exact h
theorem aGN (l:List Tk) (x:Tk):(l++[x])[l.length]?=some x:=by simp
theorem aGI (l:List Tk) (x:Tk):(l++[x]).length=l.length+1:=by rw[List.length_append,List.length_singleton]
theorem Quiet.xJ {l:List Tk} {a b:Nat} (h:Quiet l a b) (x:Tk) (hb:b≤l.length):Quiet (l++[x]) a b:=fun j _ h1 h2 h3=>h j _ h1 h2 ((tC h3).resolve_right (fun g=>by omega))
theorem Quiet.snoc {l:List Tk} {a:Nat} (h:Quiet l a l.length) {x:Tk} (hq:zH x=true):Quiet (l++[x]) a (l++[x]).length:=fun j y h1 h2 h3=>by
 rcases tC h3 with g | ⟨-,rfl⟩
 ·exact h j y h1 (M1 g) g
 ·exact hq
theorem aGO (l:List Tk) (x:Tk):Quiet (l++[x]) (l.length+1) (l++[x]).length:=fun j y h1 h2 _=>by rw[aGI]at h2;omega
theorem aLQ {k:Nat} {f g:Bool}:∀ {r:List (Nat × Bool)},aLP ((k,f)::r)→aLP ((k,g)::r)
 | [],_=>trivial
 | _::_,h=>h
theorem aKU {k:Nat} (h:EC k aDQ=true):EC k P8=true:=by
 rw[aGX]
 rw[aBI]at h
 omega
theorem aLR {a:Nat × Bool} (h:tP a=true):EC a.1 P8=true∨a.1=105:=by
 unfold tP at h
 rw[Bool.or_eq_true,Bool.and_eq_true,beq_iff_eq]at h
 rcases h with h | h
 ·exact .inl h
 ·exact .inr h.1
structure Inv (l:List Tk) (S:List (Nat × Bool)):Prop where
 len:S.length≤l.length+1
 bot:(S.map (·.1)).getLast?=some 0
 chn:aLP S
 top:∀ a r,S=a::r→tP a=true→∃ i x,l[i]?=some x∧mD x=true∧Quiet l (i+1) l.length
 chr:∀ j y,l[j]?=some y→y.kind=1→∃ i x,i<j∧l[i]?=some x∧mD x=true∧Quiet l (i+1) j
 ends:∀ i x,l[i]?=some x→mD x=true→(∃ T y,i<T∧l[T]?=some y∧SE x.ch y=true∧Quiet l (i+1) T)∨(Quiet l (i+1) l.length∧∃ es r,S=es++(x.ch,false)::r∧r≠[]∧∀ e ∈ es,EC e.1 aDQ=true)
 fst:∀ x,l[0]?=some x→x.kind=2→x.ch≠105∧x.ch≠99∧x.ch≠114
theorem I1 {x:Tk} (h:mD x=true):x.kind=2∧(x.ch=49∨x.ch=50∨x.ch=51∨x.ch=112∨x.ch=105∨x.ch=99∨x.ch=107):=by
 unfold mD M0 at h
 simp only[Bool.and_eq_true,Bool.or_eq_true,decide_eq_true_eq,beq_iff_eq]at h
 omega
theorem WE {x:Tk} (h:x.kind=2) (h2:x.ch=49∨x.ch=50∨x.ch=51∨x.ch=112∨x.ch=105∨x.ch=99∨x.ch=107):mD x=true:=by
 unfold mD M0
 simp only[Bool.and_eq_true,Bool.or_eq_true,decide_eq_true_eq,beq_iff_eq]
 omega
theorem Inv.ch {l:List Tk} {x:Tk} {a:Nat × Bool} {r:List (Nat × Bool)} (h:Inv l (a::r)) (h1:x.kind=1) (ht:tP a=true):Inv (l++[x]) (a::r):=by
 have hq:zH x=true:=by unfold zH;rw[decide_eq_true h1];rfl
 obtain⟨i,z,hz,hc,hQ⟩:=h.top a r rfl ht
 refine⟨by rw[aGI];have:=h.len;omega,h.bot,h.chn,fun a' r' e t=>?_,fun j y hy hk=>?_,fun j y hy hk=>?_,fun y hy hk=>?_⟩
 ·exact⟨i,z,aBK hz,hc,hQ.snoc hq⟩
 ·rcases tC hy with g | ⟨rfl,rfl⟩
  ·obtain⟨i,z,hi,hz,hc,hQ⟩:=h.chr j y g hk
   exact⟨i,z,hi,aBK hz,hc,hQ.xJ x (Nat.le_of_lt (M1 g))⟩
  ·exact⟨i,z,M1 hz,aBK hz,hc,hQ.xJ y (Nat.le_refl _)⟩
 ·rcases tC hy with g | ⟨rfl,rfl⟩
  ·rcases h.ends j y g hk with⟨T,u,hT,hu,he,hQ⟩ | ⟨hQ,hS⟩
   ·exact .inl ⟨T,u,hT,aBK hu,he,hQ.xJ x (Nat.le_of_lt (M1 hu))⟩
   ·exact .inr ⟨hQ.snoc hq,hS⟩
  ·have:=(I1 hk).1
   omega
 ·rcases tC hy with g | ⟨-,rfl⟩
  ·exact h.fst y g hk
  ·omega
theorem Inv.op {l:List Tk} {x:Tk} {a:Nat × Bool} {r:List (Nat × Bool)} (h:Inv l (a::r)) (h2:x.kind=2) (ho:opM a r x.ch):Inv (l++[x]) ((x.ch,false)::(a.1,a.2 || decide (x.ch=108))::r):=by
 have hroot:r=[]→a.1=0:=fun e=>by
  have:=h.bot
  rw[e]at this
  exact Option.some.inj this
 have hq:EC x.ch aDQ=true→zH x=true:=fun g=>by unfold zH;rw[g,decide_eq_true h2];simp
 have hch:tP (x.ch,false)=true→EC x.ch P8=true∨x.ch=105:=aLR
 rw[aGX]at hch
 refine⟨by rw[aGI];have:=h.len;rw[List.length_cons]at this ⊢;rw[List.length_cons];omega,?_,⟨?_,aLQ h.chn⟩,fun a' r' e t=>?_,fun j y hy hk=>?_,fun j y hy hk=>?_,fun y hy hk=>?_⟩
 ·have:=h.bot
  rw[List.map_cons]at this
  rw[List.map_cons,List.map_cons,List.getLast?_cons,this];rfl
 ·rcases ho with⟨e,-⟩ | ⟨-,⟨e,e2⟩ | ⟨e,e2⟩ | ⟨e,e2⟩ | ⟨e,e2⟩ | ⟨-,e⟩⟩
  ·refine .inl ?_
   rw[show (a.1,a.2 || decide (x.ch=108))=(0,a.2 || decide (x.ch=108)) by rw[hroot e]];rfl
  ·refine .inl ?_
   rw[e,e2,decide_eq_true rfl,Bool.or_true];rfl
  ·rw[e];exact .inl rfl
  ·rw[e];exact .inl rfl
  ·rw[e];exact .inl rfl
  ·exact .inr e
 ·obtain⟨rfl,rfl⟩:=List.cons.inj e
  have hcd:=hch t
  rcases ho with⟨-,e⟩ | ⟨-,⟨-,e⟩ | ⟨-,e⟩ | ⟨-,e⟩ | ⟨-,e⟩ | ⟨e,e2⟩⟩
  ·rw[aA5]at e
   exact⟨l.length,x,aGN l x,WE h2 (by omega),aGO l x⟩
  ·omega
  ·exact⟨l.length,x,aGN l x,WE h2 (by omega),aGO l x⟩
  ·omega
  ·exact⟨l.length,x,aGN l x,WE h2 (by omega),aGO l x⟩
  ·obtain⟨i,z,hz,hc,hQ⟩:=h.top a r rfl e
   exact⟨i,z,aBK hz,hc,hQ.snoc (hq e2)⟩
 ·rcases tC hy with g | ⟨-,rfl⟩
  ·obtain⟨i,z,hi,hz,hc,hQ⟩:=h.chr j y g hk
   exact⟨i,z,hi,aBK hz,hc,hQ.xJ x (Nat.le_of_lt (M1 g))⟩
  ·omega
 ·rcases tC hy with g | ⟨rfl,rfl⟩
  ·rcases h.ends j y g hk with⟨T,u,hT,hu,he,hQ⟩ | ⟨hQ,es,r1,hS,hr,hes⟩
   ·exact .inl ⟨T,u,hT,aBK hu,he,hQ.xJ x (Nat.le_of_lt (M1 hu))⟩
   ·have hcy:=(I1 hk).2
    cases es with
    | nil =>
     obtain⟨rfl,rfl⟩:=List.cons.inj (show a::r=(y.ch,false)::r1 from hS)
     dsimp only[opM]at ho
     rcases ho with⟨e,-⟩ | ⟨-,⟨e,e2⟩ | ⟨e,-⟩ | ⟨e,-⟩ | ⟨e,-⟩ | ⟨-,e⟩⟩
     ·exact absurd e hr
     ·refine .inl ⟨l.length,x,M1 g,aGN l x,?_,hQ.xJ x (Nat.le_refl _)⟩
      unfold SE
      rw[decide_eq_true h2,e2];simp
     ·omega
     ·omega
     ·omega
     ·refine .inr ⟨hQ.snoc (hq e),[(x.ch,false)],r,?_,hr,fun z hz=>?_⟩
      ·have:x.ch≠108:=by rw[aBI]at e;omega
       rw[decide_eq_false this];rfl
      ·rw[List.mem_singleton]at hz
       rw[hz];exact e
    | cons b es =>
     obtain⟨rfl,hr2⟩:=List.cons.inj (show a::r=b::(es++(y.ch,false)::r1) from hS)
     have hb:=hes a (List.mem_cons_self ..)
     rw[aBI]at hb
     rcases ho with⟨e,-⟩ | ⟨-,⟨e,-⟩ | ⟨e,-⟩ | ⟨e,-⟩ | ⟨e,-⟩ | ⟨-,e⟩⟩
     ·rw[e]at hr2;exact absurd hr2 (by simp)
     ·omega
     ·omega
     ·omega
     ·omega
     ·refine .inr ⟨hQ.snoc (hq e),(x.ch,false)::(a.1,a.2 || decide (x.ch=108))::es,r1,by rw[hr2];rfl,hr,fun z hz=>?_⟩
      rcases List.mem_cons.1 hz with rfl | hz
      ·exact e
      ·rcases List.mem_cons.1 hz with rfl | hz
       ·exact hes a (List.mem_cons_self ..)
       ·exact hes z (List.mem_cons_of_mem _ hz)
  ·exact .inr ⟨aGO l y,[],_,rfl,by simp,fun z hz=>by cases hz⟩
 ·rcases tC hy with g | ⟨e,rfl⟩
  ·exact h.fst y g hk
  ·have:=h.len
   rw[List.length_cons]at this
   have hr:r=[]:=List.eq_nil_of_length_eq_zero (by omega)
   rcases ho with⟨-,e⟩ | ⟨e,-⟩
   ·rw[aA5]at e;omega
   ·exact absurd hr e
theorem Inv.cl {l:List Tk} {x:Tk} {a:Nat × Bool} {r:List (Nat × Bool)} (h:Inv l (a::r)) (h3:x.kind=3) (hr:r≠[]) (ha:a.1=x.ch):Inv (l++[x]) r:=by
 obtain⟨b,r',rfl⟩:∃ b r',r=b::r':=by
  cases r with
  | nil=>exact absurd rfl hr
  | cons b r'=>exact⟨b,r',rfl⟩
 have hq:EC a.1 aDQ=true→zH x=true:=fun g=>by rw[ha]at g;unfold zH;rw[g,decide_eq_true h3];simp
 refine⟨by rw[aGI];have:=h.len;rw[List.length_cons]at this;omega,?_,h.chn.2,fun a' r2 e t=>?_,fun j y hy hk=>?_,fun j y hy hk=>?_,fun y hy hk=>?_⟩
 ·have:=h.bot
  rw[List.map_cons,List.map_cons,List.getLast?_cons,List.getLast?_cons]at this
  rw[List.map_cons,List.getLast?_cons]
  exact this
 ·obtain⟨rfl,rfl⟩:=List.cons.inj e
  have he:EC a.1 aDQ=true:=h.chn.1.resolve_left (by rw[t];decide)
  have hta:tP a=true:=by unfold tP;rw[aKU he];rfl
  obtain⟨i,z,hz,hc,hQ⟩:=h.top a _ rfl hta
  exact⟨i,z,aBK hz,hc,hQ.snoc (hq he)⟩
 ·rcases tC hy with g | ⟨-,rfl⟩
  ·obtain⟨i,z,hi,hz,hc,hQ⟩:=h.chr j y g hk
   exact⟨i,z,hi,aBK hz,hc,hQ.xJ x (Nat.le_of_lt (M1 g))⟩
  ·omega
 ·rcases tC hy with g | ⟨-,rfl⟩
  ·rcases h.ends j y g hk with⟨T,u,hT,hu,he,hQ⟩ | ⟨hQ,es,r1,hS,hr,hes⟩
   ·exact .inl ⟨T,u,hT,aBK hu,he,hQ.xJ x (Nat.le_of_lt (M1 hu))⟩
   ·cases es with
    | nil =>
     obtain⟨rfl,-⟩:=List.cons.inj (show a::b::r'=(y.ch,false)::r1 from hS)
     refine .inl ⟨l.length,x,M1 g,aGN l x,?_,hQ.xJ x (Nat.le_refl _)⟩
     unfold SE
     rw[decide_eq_true h3,← ha];simp
    | cons c es =>
     obtain⟨rfl,hr2⟩:=List.cons.inj (show a::b::r'=c::(es++(y.ch,false)::r1) from hS)
     exact .inr ⟨hQ.snoc (hq (hes a (List.mem_cons_self ..))),es,r1,hr2,hr,fun z hz=>hes z (List.mem_cons_of_mem _ hz)⟩
  ·have:=(I1 hk).1
   omega
 ·rcases tC hy with g | ⟨-,rfl⟩
  ·exact h.fst y g hk
  ·omega
theorem aJV {l:List Tk} {S:List (Nat × Bool)} (h:Run l S):Inv l S:=by
 induction h with
 | nil=>exact⟨by decide,rfl,trivial,fun a r e t=>(by obtain⟨rfl,rfl⟩:=List.cons.inj e;cases t),fun j y hy=>(by cases hy),fun j y hy=>(by cases hy),fun y hy=>(by cases hy)⟩
 | ch _ h1 ht ih=>exact ih.ch h1 ht
 | op _ h2 ho ih=>exact ih.op h2 ho
 | cl _ h3 hr ha ih=>exact ih.cl h3 hr ha
theorem aJ8 {l:List Tk} (hl:∀ x ∈ l,x.ch<256) (h:(WG l).2=0) {i:Nat} {x:Tk} (hx:l[i]?=some x) (hc:mD x=true):∃ T y,i<T∧l[T]?=some y∧SE x.ch y=true∧Quiet l (i+1) T:=by
 obtain⟨S,hS,h1⟩:=aFN hl h
 rcases(aJV hS).ends i x hx hc with g | ⟨-,es,r,e,hr,-⟩
 ·exact g
 ·rw[e,List.length_append,List.length_cons]at h1
  exact absurd (List.eq_nil_of_length_eq_zero (by omega)) hr
theorem aLS {l:List Tk} (hl:∀ x ∈ l,x.ch<256) (h:(WG l).2=0) {j:Nat} {y:Tk} (hy:l[j]?=some y) (hk:y.kind=1):∃ i x,i<j∧l[i]?=some x∧mD x=true∧Quiet l (i+1) j:=by
 obtain⟨S,hS,-⟩:=aFN hl h
 exact(aJV hS).chr j y hy hk
theorem aH6 {k:Nat} (hk:k=49∨k=50∨k=51∨k=112∨k=105∨k=99∨k=107) {x:Tk} (h:zH x=true):SE k x=false:=by
 cases e:SE k x with
 | false=>rfl
 | true =>
  unfold SE at e
  unfold zH at h
  simp only[Bool.or_eq_true,Bool.and_eq_true,decide_eq_true_eq,beq_iff_eq,aBI]at e h
  omega
theorem aIX {x:Tk} (h:zH x=true):mD x=false:=by
 cases e:mD x with
 | false=>rfl
 | true =>
  have:=I1 e
  unfold zH at h
  simp only[Bool.or_eq_true,Bool.and_eq_true,decide_eq_true_eq,aBI]at h
  omega
structure Fw where
 code:Nat
 depth:Int
 aR:Nat
 til:Nat
def mE (l:List Tk) (i c:Nat):Bool:=match l[i]? with | some x=>decide (x.kind=2) && x.ch==c | none=>false
def codeF (l:List Tk) (i:Nat) (x:Tk):Nat :=
 if x.kind≠2 then 0
 else if 49≤x.ch∧x.ch≤51 then x.ch - 48
 else if x.ch=112 then 4
 else if x.ch=107 then 10
 else if x.ch=105 then (if mE l (i - 1) 108=true then 5 else 6)
 else if x.ch≠99 then 0
 else if mE l (i - 1) 114=false then 9
 else if mE l (i - 2) 116=true then 7 else 8
def wO (x:Tk):Int:=if x.ch=108∧x.kind=2 then 1 else if x.ch=108∧x.kind=3 then -1 else 0
def iF (l:List Tk) (i:Nat):Int:=((l.take i).map wO).sum
def SF (l:List Tk) (i k:Nat):Nat:=i+1+((l.drop (i+1)).takeWhile fun y=>!SE k y).length
def nV (l:List Tk) (i:Nat):Option Fw:=match l[i]? with
 | none=>none
 | some x=>if codeF l i x=0 then none else some ⟨codeF l i x,if x.ch=105 then iF l i else 0,i+1,SF l i x.ch⟩
def fR (l:List Tk):List Fw:=(List.range l.length).filterMap (nV l)
theorem aLT (l:List Tk) (i:Nat) (x:Tk):codeF l i x≤10:=by
 unfold codeF
 repeat' split
 all_goals omega
theorem M3 (l:List Tk) (i:Nat) (x:Tk):codeF l i x≠0↔mD x=true:=by
 constructor
 ·intro h
  unfold codeF at h
  by_cases h1:x.kind≠2
  ·rw[if_pos h1]at h;exact absurd rfl h
  ·rw[if_neg h1]at h
   refine WE (by omega) ?_
   by_cases h2:49≤x.ch∧x.ch≤51
   ·omega
   ·rw[if_neg h2]at h
    by_cases h3:x.ch=112
    ·omega
    ·rw[if_neg h3]at h
     by_cases h4:x.ch=107
     ·omega
     ·rw[if_neg h4]at h
      by_cases h5:x.ch=105
      ·omega
      ·rw[if_neg h5]at h
       by_cases h6:x.ch≠99
       ·rw[if_pos h6]at h;exact absurd rfl h
       ·omega
 ·intro h
  obtain⟨h1,h2⟩:=I1 h
  unfold codeF
  rw[if_neg (by omega)]
  split
  ·omega
  ·split
   ·omega
   ·split
    ·omega
    ·split
     ·split<;>omega
     ·split
      ·omega
      ·split
       ·omega
       ·split<;>omega
theorem aH7 {p:Tk→Bool}:∀ (l:List Tk) (n:Nat),(∀ j x,j<n→l[j]?=some x→p x=true)→(∀ y,l[n]?=some y→p y=false)→n≤l.length→(l.takeWhile p).length=n
 | [],n,_,_,hn=>by
  have hn:n≤0:=hn
  obtain rfl:n=0:=by omega
  rfl
 | x::l,0,_,hy,_=>by
  rw[List.takeWhile_cons,if_neg (by rw[hy x rfl];decide)];rfl
 | x::l,n+1,hx,hy,hn=>by
  rw[List.takeWhile_cons,if_pos (hx 0 x (by omega) rfl),List.length_cons]
  rw[aH7 l n (fun j z hj hz=>hx (j+1) z (by omega) hz) (fun y e=>hy y e) (by rw[List.length_cons]at hn;omega)]
section
variable {l:List Tk} (hl:∀ x ∈ l,x.ch<256) (h:(WG l).2=0)
include hl h
theorem aJW {i:Nat} {x:Tk} (hx:l[i]?=some x) (hc:mD x=true):i<SF l i x.ch∧(∃ y,l[SF l i x.ch]?=some y∧SE x.ch y=true)∧Quiet l (i+1) (SF l i x.ch):=by
 obtain⟨T,y,hT,hy,he,hQ⟩:=aJ8 hl h hx hc
 have e:SF l i x.ch=T:=by
  unfold SF
  rw[aH7 (l.drop (i+1)) (T - (i+1)) (fun j z hj hz=>?_) (fun z hz=>?_) (by rw[List.length_drop];have:=M1 hy;omega)]
  ·omega
  ·rw[List.getElem?_drop]at hz
   rw[aH6 (I1 hc).2 (hQ (i+1+j) z (by omega) (by omega) hz)];rfl
  ·rw[List.getElem?_drop,show i+1+(T - (i+1))=T by omega,hy]at hz
   cases hz
   rw[he];rfl
 rw[e]
 exact⟨hT,⟨y,hy,he⟩,hQ⟩
omit hl h in
theorem aIJ {i:Nat} {f:Fw} (hf:nV l i=some f):∃ x,l[i]?=some x∧mD x=true∧f=⟨codeF l i x,if x.ch=105 then iF l i else 0,i+1,SF l i x.ch⟩:=by
 unfold nV at hf
 cases hx:l[i]? with
 | none=>rw[hx]at hf;cases hf
 | some x =>
  rw[hx]at hf
  simp only[]at hf
  by_cases hc:codeF l i x=0
  ·rw[if_pos hc]at hf;cases hf
  ·rw[if_neg hc]at hf
   exact⟨x,rfl,(M3 l i x).1 hc,(Option.some.inj hf).symm⟩
theorem aFS {f:Fw} (hf:f ∈ fR l):1≤f.code∧f.code≤10∧f.aR≤f.til∧f.til≤l.length∧Quiet l f.aR f.til:=by
 unfold fR at hf
 obtain⟨i,-,hi⟩:=List.mem_filterMap.1 hf
 obtain⟨x,hx,hc,rfl⟩:=aIJ hi
 obtain⟨h1,⟨y,hy,-⟩,h3⟩:=aJW hl h hx hc
 have:=(M3 l i x).2 hc
 exact⟨show 1≤codeF l i x by omega,aLT l i x,h1,Nat.le_of_lt (M1 hy),h3⟩
theorem aHC:(fR l).Pairwise fun a b=>a.til≤b.aR:=by
 unfold fR
 rw[List.pairwise_filterMap]
 refine List.pairwise_lt_range.imp fun {i j} hij a ha b hb=>?_
 obtain⟨x,hx,hc,rfl⟩:=aIJ ha
 obtain⟨y,hy,hd,rfl⟩:=aIJ hb
 obtain⟨-,-,h3⟩:=aJW hl h hx hc
 show SF l i x.ch≤j+1
 by_cases g:j<SF l i x.ch
 ·have:=aIX (h3 j y (by omega) g hy)
  rw[hd]at this;cases this
 ·omega
theorem aJ9 {j:Nat} {y:Tk} (hy:l[j]?=some y) (hk:y.kind=1):∃ f ∈ fR l,f.aR≤j∧j<f.til:=by
 obtain⟨i,x,hi,hx,hc,hQ⟩:=aLS hl h hy hk
 obtain⟨h1,⟨z,hz,he⟩,-⟩:=aJW hl h hx hc
 refine⟨⟨codeF l i x,if x.ch=105 then iF l i else 0,i+1,SF l i x.ch⟩,?_,hi,?_⟩
 ·unfold fR
  refine List.mem_filterMap.2 ⟨i,List.mem_range.2 (M1 hx),?_⟩
  unfold nV
  rw[hx]
  exact if_neg ((M3 l i x).2 hc)
 ·show j<SF l i x.ch
  by_cases g:SF l i x.ch<j
  ·have:=aH6 (I1 hc).2 (hQ _ z (by omega) g hz)
   rw[he]at this;cases this
  ·by_cases g2:SF l i x.ch=j
   ·rw[g2,hy]at hz
    cases hz
    have:=(I1 hc).2
    unfold SE at he
    simp only[Bool.or_eq_true,Bool.and_eq_true,decide_eq_true_eq,beq_iff_eq]at he
    omega
   ·omega
end
def aDW (l:List Tk) (a b:Nat):Nat:=(((l.take b).drop a).filter fun x=>decide (x.kind=1)).length
theorem aGJ {l:List Tk} {a b:Nat} (h:a≤b) {x:Tk} (hx:l[b]?=some x):aDW l a (b+1)=aDW l a b+if x.kind=1 then 1 else 0:=by
 unfold aDW
 rw[List.take_add_one,hx,Option.toList_some,List.drop_append_of_le_length (by rw[List.length_take];have:=M1 hx;omega),List.filter_append,List.length_append]
 by_cases hk:x.kind=1
 ·rw[if_pos hk,List.filter_cons_of_pos (by rw[decide_eq_true hk])];rfl
 ·rw[if_neg hk,List.filter_cons_of_neg (by rw[decide_eq_false hk];decide)];rfl
theorem aGK (l:List Tk) (a:Nat):aDW l a a=0:=by
 unfold aDW
 rw[List.drop_eq_nil_of_le (by rw[List.length_take];omega)];rfl
theorem aGZ {l:List Tk} {a b:Nat} (h:a≤b):∀ n,b+n≤l.length→aDW l a (b+n)=aDW l a b+aDW l b (b+n)
 | 0,_=>by rw[Nat.add_zero,aGK];omega
 | n+1,hn=>by
  have hx:l[b+n]?=some l[b+n]:=List.getElem?_eq_getElem (by omega)
  rw[show b+(n+1)=(b+n)+1 from rfl,aGJ (by omega) hx,aGJ (by omega) hx,aGZ h n (by omega)]
  omega
theorem aHP {l:List Tk} {a:Nat}:∀ n,a+n≤l.length→(∀ j x,a≤j→j<a+n→l[j]?=some x→x.kind≠1)→aDW l a (a+n)=0
 | 0,_,_=>aGK l a
 | n+1,hn,hx=>by
  have e:l[a+n]?=some l[a+n]:=List.getElem?_eq_getElem (by omega)
  rw[show a+(n+1)=(a+n)+1 from rfl,aGJ (by omega) e,aHP n (by omega) (fun j x h1 h2=>hx j x h1 (by omega)),if_neg (hx _ _ (by omega) (by omega) e)]
def y8 (l:List Tk) (k:Nat):Nat:=match k with | 0=>0 | k+1=>((fR l)[k]?.map (·.til)).getD 0
section
variable {l:List Tk} (hl:∀ x ∈ l,x.ch<256) (h:(WG l).2=0)
include hl h
theorem aJX {k:Nat} {f:Fw} (hf:(fR l)[k]?=some f):y8 l k≤f.aR:=by
 cases k with
 | zero=>exact Nat.zero_le _
 | succ k =>
  have hk:=(List.getElem?_eq_some_iff.1 hf).1
  have hg:(fR l)[k]?=some (fR l)[k]:=List.getElem?_eq_getElem (by omega)
  show ((fR l)[k]?.map (·.til)).getD 0≤f.aR
  rw[hg]
  have:=List.pairwise_iff_getElem.1 (aHC hl h) k (k+1) (by omega) hk (by omega)
  rw[(List.getElem?_eq_some_iff.1 hf).2]at this
  exact this
theorem aIY {k b:Nat} (hb:∀ f,(fR l)[k]?=some f→b≤f.aR) (hk:k≤(fR l).length):∀ j x,y8 l k≤j→j<b→l[j]?=some x→x.kind≠1:=fun j x h1 h2 hx hk1=>by
 obtain⟨f,hf,hf1,hf2⟩:=aJ9 hl h hx hk1
 obtain⟨m,hm,rfl⟩:=List.mem_iff_getElem.1 hf
 have hP:=List.pairwise_iff_getElem.1 (aHC hl h)
 have hlie:=fun(m:Nat) (hm:m<(fR l).length)=>(aFS hl h (List.getElem_mem hm)).2.2.1
 by_cases g:m<k
 ·obtain⟨k,rfl⟩:∃ k',k=k'+1:=⟨k - 1,by omega⟩
  have e:y8 l (k+1)=(fR l)[k].til:=by
   show ((fR l)[k]?.map (·.til)).getD 0=_
   rw[List.getElem?_eq_getElem (by omega)];rfl
  by_cases g2:m=k
  ·subst g2;omega
  ·have:=hP m k hm (by omega) (by omega)
   have:=hlie k (by omega)
   omega
 ·have hk2:k<(fR l).length:=by omega
  have:=hb _ (List.getElem?_eq_getElem hk2)
  by_cases g2:m=k
  ·subst g2;omega
  ·have:=hP k m hk2 hm (by omega)
   have:=hlie k hk2
   omega
theorem aIZ {k:Nat} (hk:k≤(fR l).length):y8 l k≤l.length:=by
 cases k with
 | zero=>exact Nat.zero_le _
 | succ k =>
  show ((fR l)[k]?.map (·.til)).getD 0≤_
  rw[List.getElem?_eq_getElem (by omega)]
  exact(aFS hl h (List.getElem_mem (by omega:k<(fR l).length))).2.2.2.1
theorem aKV {k:Nat} {f:Fw} (hf:(fR l)[k]?=some f):aDW l 0 f.til=aDW l 0 (y8 l k)+aDW l f.aR f.til:=by
 have hm:=List.mem_of_getElem? hf
 obtain⟨-,-,h1,h2,-⟩:=aFS hl h hm
 have h3:=aJX hl h hf
 have hk:=(List.getElem?_eq_some_iff.1 hf).1
 have a:=aGZ (l:=l) (a:=0) (b:=y8 l k) (Nat.zero_le _) (f.aR - y8 l k) (by omega)
 have b:=aGZ (l:=l) (a:=0) (b:=f.aR) (Nat.zero_le _) (f.til - f.aR) (by omega)
 have c:=aHP (l:=l) (a:=y8 l k) (f.aR - y8 l k) (by omega) (fun j x q1 q2=>aIY hl h (fun g hg=>by rw[hf]at hg;cases hg;exact Nat.le_refl _) (Nat.le_of_lt hk) j x q1 (by omega))
 rw[show y8 l k+(f.aR - y8 l k)=f.aR by omega]at a c
 rw[show f.aR+(f.til - f.aR)=f.til by omega]at b
 omega
theorem aLU:aDW l 0 (y8 l (fR l).length)=aDW l 0 l.length:=by
 have hle:=aIZ hl h (Nat.le_refl (fR l).length)
 have a:=aGZ (l:=l) (a:=0) (b:=y8 l (fR l).length) (Nat.zero_le _) (l.length - y8 l (fR l).length) (by omega)
 have c:=aHP (l:=l) (a:=y8 l (fR l).length) (l.length - y8 l (fR l).length) (by omega) (fun j x q1 q2 hx=>aIY hl h (b:=l.length) (fun g hg=>by rw[List.getElem?_eq_none (Nat.le_refl _)]at hg;cases hg) (Nat.le_refl _) j x q1 (M1 hx) hx)
 rw[show y8 l (fR l).length+(l.length - y8 l (fR l).length)=l.length by omega]at a c
 omega
end
def opW (b:Nat) (r:List (Nat × Bool)) (k:Nat):Prop:=(r=[]∧EC k ZF=true)∨(r≠[]∧((b=105∧k=108)∨(b=108∧k=105)∨(b=116∧k=114)∨(b=114∧k=99)∨EC k aDQ=true))
def okS:List (Nat × Bool)→Prop
 | a::b::r=>opW b.1 r a.1∧okS (b::r)
 | [a]=>a.1=0
 | []=>True
def aKB (S:List (Nat × Bool)):Int:=(S.map fun a=>if a.1=108 then (1:Int) else 0).sum
theorem aLV {k:Nat} {f g:Bool}:∀ {r:List (Nat × Bool)},okS ((k,f)::r)→okS ((k,g)::r)
 | [],h=>h
 | _::_,h=>h
theorem aKX {a:Nat × Bool}:∀ {r:List (Nat × Bool)},okS (a::r)→okS r
 | [],_=>trivial
 | _::_,h=>h.2
theorem aDX (a:Nat × Bool) (r:List (Nat × Bool)):aKB (a::r)=(if a.1=108 then 1 else 0)+aKB r:=by
 unfold aKB
 rw[List.map_cons,List.sum_cons]
theorem aME {l:List Tk} {S:List (Nat × Bool)} (h:Run l S):okS S:=by
 induction h with
 | nil=>exact rfl
 | ch _ _ _ ih=>exact ih
 | op _ _ ho ih =>
  refine⟨?_,aLV ih⟩
  rcases ho with⟨h1,h2⟩ | ⟨h1,h2⟩
  ·exact .inl ⟨h1,h2⟩
  ·refine .inr ⟨h1,?_⟩
   rcases h2 with h | h | h | h | h
   ·exact .inl h
   ·exact .inr (.inl h)
   ·exact .inr (.inr (.inl h))
   ·exact .inr (.inr (.inr (.inl h)))
   ·exact .inr (.inr (.inr (.inr h.2)))
 | cl _ _ _ _ ih=>exact aKX ih
theorem aGS (l:List Tk) (x:Tk):((l++[x]).map wO).sum=(l.map wO).sum+wO x:=by
 rw[List.map_append,List.sum_append];simp
theorem aKC {l:List Tk} {S:List (Nat × Bool)} (h:Run l S):(l.map wO).sum=aKB S:=by
 induction h with
 | nil=>rfl
 | ch _ h1 _ ih =>
  rw[aGS,ih]
  unfold wO
  rw[if_neg (by omega),if_neg (by omega)]
  omega
 | op _ h2 _ ih =>
  rw[aGS,ih,aDX,aDX,aDX]
  unfold wO
  split<;>(split<;>(try split)<;>omega)
 | cl _ h3 _ ha ih =>
  rw[aGS,ih,aDX,ha]
  unfold wO
  split<;>(split<;>(try split)<;>omega)
theorem aI1 {l:List Tk} {S:List (Nat × Bool)} (h:Run l S):∀ (i:Nat) (x:Tk),l[i]?=some x→x.kind=2→∃ a r,Run (l.take i) (a::r)∧opM a r x.ch:=by
 have tk:∀ (l:List Tk) (x:Tk) (i:Nat),i≤l.length→(l++[x]).take i=l.take i:=fun l x i hi=>List.take_append_of_le_length hi
 induction h with
 | nil=>intro i x hx;cases hx
 | ch _ h1 _ ih =>
  intro i x hx hk
  rcases tC hx with g | ⟨rfl,rfl⟩
  ·rw[tk _ _ _ (Nat.le_of_lt (M1 g))];exact ih i x g hk
  ·omega
 | op hr h2 ho ih =>
  intro i x hx hk
  rcases tC hx with g | ⟨rfl,rfl⟩
  ·rw[tk _ _ _ (Nat.le_of_lt (M1 g))];exact ih i x g hk
  ·rw[tk _ _ _ (Nat.le_refl _),List.take_length]
   exact⟨_,_,hr,ho⟩
 | cl _ h3 _ _ ih =>
  intro i x hx hk
  rcases tC hx with g | ⟨rfl,rfl⟩
  ·rw[tk _ _ _ (Nat.le_of_lt (M1 g))];exact ih i x g hk
  ·omega
theorem aKY {l:List Tk} {S:List (Nat × Bool)} (h:Run l S):(l=[]∧S=[(0,false)])∨∃ y,l[l.length - 1]?=some y∧1≤l.length∧∀ a r,S=a::r→(y.kind=1∧tP a=true)∨(y.kind=2∧a.1=y.ch)∨y.kind=3:=by
 have lst:∀ (l:List Tk) (x:Tk),(l++[x])[(l++[x]).length - 1]?=some x∧1≤(l++[x]).length:=fun l x=>by
  rw[aGI,Nat.add_sub_cancel]
  exact⟨aGN l x,by omega⟩
 cases h with
 | nil=>exact .inl ⟨rfl,rfl⟩
 | ch _ h1 ht=>exact .inr ⟨_,(lst _ _).1,(lst _ _).2,fun a r e=>.inl ⟨h1,by obtain⟨rfl,rfl⟩:=List.cons.inj e;exact ht⟩⟩
 | op _ h2 ho=>exact .inr ⟨_,(lst _ _).1,(lst _ _).2,fun a r e=>.inr (.inl ⟨h2,by obtain⟨rfl,rfl⟩:=List.cons.inj e;rfl⟩)⟩
 | cl _ h3 _ _=>exact .inr ⟨_,(lst _ _).1,(lst _ _).2,fun a r e=>.inr (.inr h3)⟩
def M4 (l:List Tk) (i:Nat):Bool:=match l[i]? with | some y=>decide (y.kind=2) | none=>false
theorem aIK {l:List Tk} {S:List (Nat × Bool)} (h:Run l S) {i:Nat} {x:Tk} (hx:l[i]?=some x) (hk:x.kind=2) {p:Nat} (hp:p=108∨p=114∨p=116) (hin:∀ a r,opM a r x.ch→a.1=p):1≤i∧M4 l (i - 1)=mE l (i - 1) p:=by
 obtain⟨a,r,hR,ho⟩:=aI1 h i x hx hk
 have ha:=hin a r ho
 have hlt:=M1 hx
 rcases aKY hR with⟨-,e⟩ | ⟨y,hy,h1,hl⟩
 ·obtain⟨rfl,-⟩:=List.cons.inj e
  have ha:0=p:=ha
  omega
 ·rw[List.length_take,Nat.min_eq_left (Nat.le_of_lt hlt)]at hy h1
  rw[List.getElem?_take_of_lt (by omega)]at hy
  refine⟨h1,?_⟩
  unfold M4 mE
  rw[hy]
  simp only[]
  rcases hl a r rfl with⟨k1,t⟩ | ⟨k2,e⟩ | k3
  ·rw[decide_eq_false (by omega)];rfl
  ·rw[decide_eq_true k2,← ha,e];simp
  ·rw[decide_eq_false (by omega)];rfl
theorem aLW {a:Nat × Bool} {r:List (Nat × Bool)} (h:opM a r 105):a.1=108:=by
 rcases h with⟨-,h⟩ | ⟨-,h | h | h | h | h⟩
 ·rw[aA5]at h;omega
 ·omega
 ·exact h.1
 ·omega
 ·omega
 ·have:=aBI.1 h.2;omega
theorem aMF {a:Nat × Bool} {r:List (Nat × Bool)} (h:opM a r 114):a.1=116:=by
 rcases h with⟨-,h⟩ | ⟨-,h | h | h | h | h⟩
 ·rw[aA5]at h;omega
 ·omega
 ·omega
 ·exact h.1
 ·omega
 ·have:=aBI.1 h.2;omega
theorem aJY {a:Nat × Bool} {r:List (Nat × Bool)} (h:opM a r 99):a.1=114∧r≠[]:=by
 rcases h with⟨-,h⟩ | ⟨hr,h | h | h | h | h⟩
 ·rw[aA5]at h;omega
 ·omega
 ·omega
 ·omega
 ·exact⟨h.1,hr⟩
 ·have:=aBI.1 h.2;omega
theorem aKZ:∀ {a:Nat × Bool} {r:List (Nat × Bool)},okS (a::r)→r=[]→aKB (a::r)=0
 | a,[],h,_=>by
  have h:a.1=0:=h
  rw[aDX,if_neg (by omega)];rfl
theorem aJH {a:Nat × Bool} {r:List (Nat × Bool)} (hS:okS (a::r)) {k:Nat} (h:opM a r k) (hk:k=49∨k=50∨k=51∨k=112∨k=99∨k=107):aKB (a::r)=0:=by
 by_cases hc:k=99
 ·subst hc
  obtain⟨ha,hr⟩:=aJY h
  match r,hr,hS with
  | b::q,_,hS =>
   obtain⟨hW,hT⟩:=hS
   rw[ha]at hW
   have hb:b.1=116∧q≠[]:=by
    rcases hW with⟨-,h⟩ | ⟨hq,h | h | h | h | h⟩
    ·rw[aA5]at h;omega
    ·omega
    ·omega
    ·exact⟨h.1,hq⟩
    ·omega
    ·have:=aBI.1 h;omega
   match q,hb.2,hT with
   | c::s,_,hT =>
    obtain⟨hV,hU⟩:=hT
    rw[hb.1]at hV
    have hs:s=[]:=by
     rcases hV with⟨h,-⟩ | ⟨-,h | h | h | h | h⟩
     ·exact h
     ·omega
     ·omega
     ·omega
     ·omega
     ·have:=aBI.1 h;omega
    rw[aDX,aDX,aKZ hU hs,if_neg (by omega),if_neg (by omega)]
    rfl
 ·have hr:r=[]:=by
   rcases h with⟨h,-⟩ | ⟨-,h | h | h | h | h⟩
   ·exact h
   ·omega
   ·omega
   ·omega
   ·omega
   ·have:=aBI.1 h.2;omega
  exact aKZ hS hr
section
variable {l:List Tk} (hl:∀ x ∈ l,x.ch<256) (h:(WG l).2=0)
include hl h
theorem aJI {i:Nat} {x:Tk} (hx:l[i]?=some x) (hc:mD x=true) (h5:x.ch≠105):iF l i=0:=by
 obtain⟨S,hS,-⟩:=aFN hl h
 obtain⟨hk,hch⟩:=I1 hc
 obtain⟨a,r,hR,ho⟩:=aI1 hS i x hx hk
 show ((l.take i).map wO).sum=0
 rw[aKC hR]
 exact aJH (aME hR) ho (by omega)
theorem aJJ {i:Nat} {x:Tk} (hx:l[i]?=some x) (hk:x.kind=2) (h5:x.ch=105):1≤i∧M4 l (i - 1)=mE l (i - 1) 108:=by
 obtain⟨S,hS,-⟩:=aFN hl h
 exact aIK hS hx hk (.inl rfl) fun a r ho=>aLW (h5▸ho)
theorem aJK {i:Nat} {x:Tk} (hx:l[i]?=some x) (hk:x.kind=2) (h5:x.ch=99):1≤i∧M4 l (i - 1)=mE l (i - 1) 114:=by
 obtain⟨S,hS,-⟩:=aFN hl h
 exact aIK hS hx hk (.inr (.inl rfl)) fun a r ho=>(aJY (h5▸ho)).1
theorem aKD {i:Nat} (ho:mE l i 114=true):1≤i∧M4 l (i - 1)=mE l (i - 1) 116:=by
 obtain⟨S,hS,-⟩:=aFN hl h
 unfold mE at ho
 cases hx:l[i]? with
 | none=>rw[hx]at ho;cases ho
 | some x =>
  rw[hx]at ho
  simp only[Bool.and_eq_true,decide_eq_true_eq,beq_iff_eq]at ho
  exact aIK hS hx ho.1 (.inr (.inr rfl)) fun a r hp=>aMF (ho.2▸hp)
end
end Go.Proofs.YthbigkoihpgcfaaGreatDoor.Da
namespace Go.Proofs.YthbigkoihpgcfaaGreatDoor.Da
open Go.RowKit Ba Ru Ck Ti Pa Fl Cu
def I3 (t:List Tk) (f:Fw):List Tk:=(t.drop f.aR).take (f.til - f.aR)
def iW (l:List Rl) (t:List Tk) (f:Fw):List (Nat × Nat):=(iE l (I3 t f)).map fun z=>(z.1,f.aR+z.2)
theorem aJG {l:List Rl} (A:Acc dM l) (t:List Tk):(∀ z ∈ iE l t,z.2<t.length∧z.1≤63)∧(iE l t).Pairwise fun a b=>a.2≤b.2:=by
 unfold iE
 by_cases h:gA t=true
 ·rw[if_pos h];exact aKA A h
 ·rw[if_neg h];exact⟨fun z hz=>(by cases hz),List.Pairwise.nil⟩
theorem aI0 {l:List Rl} (A:Acc dM l) {t:List Tk} {f:Fw} (h:f.til≤t.length):(∀ z ∈ iW l t f,f.aR≤z.2∧z.2<f.til∧z.1≤63)∧(iW l t f).Pairwise fun a b=>a.2≤b.2:=by
 obtain⟨h1,h2⟩:=aJG A (I3 t f)
 have hl:(I3 t f).length=f.til - f.aR:=by
  unfold I3
  rw[List.length_take,List.length_drop];omega
 refine⟨fun z hz=>?_,?_⟩
 ·unfold iW at hz
  obtain⟨y,hy,rfl⟩:=List.mem_map.1 hz
  have:=h1 y hy
  rw[hl]at this
  show f.aR≤f.aR+y.2∧f.aR+y.2<f.til∧y.1≤63
  omega
 ·unfold iW
  rw[List.pairwise_map]
  exact h2.imp fun {a b} hab=>Nat.add_le_add_left hab _
theorem aMR {y:Tk} {pl:Int} {s:ByteArray} (h:y ∈ chT pl s s.size):y.ch ∈ Lx.aA s:=by
 unfold chT at h
 obtain⟨i,hi,rfl⟩:=List.mem_map.1 h
 have hi:=List.mem_range.1 hi
 show Lx.aV s i ∈ Lx.aA s
 unfold Lx.aV
 rw[List.getD_eq_getElem?_getD,List.getElem?_eq_getElem (by rw[Lx.aD];exact hi)]
 exact List.getElem_mem _
theorem aJZ:∀ {t:List Tk},(∀ x ∈ t,jG x=true∨s6 x=true)→gA t=true
 | [],_=>rfl
 | x::t,h=>by
  have ih:=aJZ (t:=t) fun y hy=>h y (List.mem_cons_of_mem _ hy)
  unfold gA at ih ⊢
  rw[iD]
  by_cases hx:s6 x=true
  ·rw[if_pos hx,List.all_cons,ih];rfl
  ·rw[if_neg hx]
   have hk:jG x=true:=(h x (List.mem_cons_self ..)).resolve_right hx
   cases hc:aS t with
   | nil=>exact absurd hc (aFB t)
   | cons c r =>
    rw[hc,List.all_cons,Bool.and_eq_true]at ih
    simp only[]
    rw[List.all_cons,ih.2,Bool.and_true]
    show (x::c).all jG=true
    rw[List.all_cons,hk]
    exact ih.1
theorem aH8:∀ (R:List Nu.Ev) (o:List Tk) (S:List Nat),∀ y ∈ (R.foldl Fl.stepT (o,S)).1,y.kind=1→y ∈ o∨∃ e ∈ R,e.kind=1∧y ∈ chT e.place e.text e.text.size
 | [],_,_,_,hy,_=>.inl hy
 | x::R,o,S,y,hy,hk=>by
  have hy:y ∈ (R.foldl Fl.stepT (Fl.stepT (o,S) x)).1:=hy
  obtain⟨o',S',e⟩:∃ o' S',Fl.stepT (o,S) x=(o',S'):=⟨_,_,rfl⟩
  rw[e]at hy
  rcases aH8 R o' S' y hy hk with h | ⟨z,hz,h⟩
  ·have e1:o'=(Fl.stepT (o,S) x).1:=by rw[e]
   rw[e1]at h
   unfold Fl.stepT at h
   split at h
   ·rename_i h1
    rcases List.mem_append.1 h with h | h
    ·exact .inl h
    ·exact .inr ⟨x,List.mem_cons_self ..,h1,h⟩
   ·split at h
    ·rcases List.mem_append.1 h with h | h
     ·exact .inl h
     ·rw[List.mem_singleton]at h
      subst h
      exact absurd (show (2:Int)=1 from hk) (by decide)
    ·rcases List.mem_append.1 h with h | h
     ·exact .inl h
     ·rw[List.mem_singleton]at h
      subst h
      exact absurd (show (3:Int)=1 from hk) (by decide)
  ·exact .inr ⟨z,List.mem_cons_of_mem _ hz,h⟩
theorem aMG:∀ c:Fin 256,Lx.okT c.val=true→c.val≠10→c.val=32∨jG ⟨1,c.val,0⟩=true:=by decide +kernel
theorem aKE {x:Tk} (h:x.kind=1):jG x=jG ⟨1,x.ch,0⟩:=by
 obtain⟨k,c,p⟩:=x
 have h:k=1:=h
 subst h
 rfl
theorem aLX {l:List Tk} (hw:mG l≠true) {x:Tk} (hx:x ∈ l) (hk:x.kind=1):x.ch≠10:=by
 intro h10
 obtain⟨A,B,rfl⟩:=List.append_of_mem hx
 refine hw ?_
 unfold mG tA
 have hn:∀ B:List Tk,B.foldl gV none=none:=fun B=>by
  induction B with
  | nil=>rfl
  | cons y B ih=>rw[List.foldl_cons,zW,ih]
 rw[List.foldl_append,List.foldl_cons]
 have:gV (A.foldl gV (some [])) x=none:=by
  unfold gV
  rw[if_pos hk,h10]
  unfold chW
  split
  ·rfl
  ·split
   ·rfl
   ·rw[if_neg (by unfold nY;rw[if_pos rfl];decide)]
 rw[this,hn]
 rfl
theorem aLY {l:List Tk} (hl:∀ x ∈ l,x.ch<256) (h:(WG l).2=0) {x:Tk} (hx:x ∈ l) (hk:x.kind=1):jG x=true∨s6 x=true:=by
 unfold WG at h
 cases hp:pI l with
 | none=>rw[hp]at h;cases h
 | some t =>
  rw[hp]at h
  simp only[]at h
  by_cases hw:mG l=true
  ·rw[if_pos hw]at h;cases h
  ·rw[if_neg hw]at h
   by_cases hc:Tr.NN t≠0
   ·rw[if_pos hc]at h;exact absurd h hc
   ·have hc:Tr.NN t=0:=by omega
    obtain⟨E,hE,rfl⟩:=JM hp
    obtain⟨i1,-,i3,-⟩:=CZ l hl E [] hE
    have hb:Nu.Bal E:=i3
    have hok:=((Tr.aH5 _).1 hc).1
    have hm:zU x ∈ (E.foldl Fl.stepT ([],[])).1.map zU:=by rw[i1];exact List.mem_map_of_mem hx
    obtain⟨y,hy,e⟩:=List.mem_map.1 hm
    have e1:y.kind=x.kind:=congrArg Prod.fst e
    have e2:y.ch=x.ch:=congrArg Prod.snd e
    rcases aH8 E [] [] y hy (by rw[e1];exact hk)with hy | ⟨z,hz,hz1,hzy⟩
    ·cases hy
    ·obtain⟨P,Q,rfl⟩:=List.append_of_mem hz
     obtain⟨n,hn⟩:=Nu.aIW hb (.inl hz1)
     have hno:=hok _ (List.mem_of_getElem? hn)
     unfold Tr.aEI at hno
     rw[Bool.and_eq_true]at hno
     have hall:=List.all_eq_true.1 hno.2
     have ht:(Tr.aU n (Nu.LH z)).text=z.text:=by
      unfold Nu.LH
      rw[if_pos hz1]
      rfl
     rw[ht]at hall
     have hin:y.ch ∈ Lx.aA z.text:=aMR hzy
     have hch:=hall _ hin
     rw[e2]at hch
     have h256:=hl x hx
     rcases aMG ⟨x.ch,h256⟩ hch (aLX hw hx hk)with g | g
     ·refine .inr ?_
      unfold s6
      rw[decide_eq_true hk,decide_eq_true g];rfl
     ·exact .inl ((aKE hk).trans g)
theorem aLZ {l:List Tk} (hl:∀ x ∈ l,x.ch<256) (h:(WG l).2=0) {f:Fw} (hf:f ∈ fR l):gA (I3 l f)=true:=by
 obtain⟨-,-,h3,h4,hQ⟩:=aFS hl h hf
 refine aJZ fun x hx=>?_
 obtain⟨j,hj⟩:=List.mem_iff_getElem?.1 hx
 have hlt:j<f.til - f.aR:=by
  have:=M1 hj
  unfold I3 at this
  rw[List.length_take]at this
  omega
 unfold I3 at hj
 rw[List.getElem?_take_of_lt hlt,List.getElem?_drop]at hj
 have hq:=hQ (f.aR+j) x (by omega) (by omega) hj
 unfold zH at hq
 rw[Bool.or_eq_true]at hq
 rcases hq with hq | hq
 ·exact aLY hl h (List.mem_of_getElem? hj) (of_decide_eq_true hq)
 ·rw[Bool.and_eq_true,Bool.or_eq_true,decide_eq_true_eq,decide_eq_true_eq]at hq
  refine .inl ?_
  have he:=Tr.aBI.1 hq.2
  have hn:(cM x).isEmpty=false:=by
   unfold cM
   rw[if_pos (by omega)]
   rcases hq.1 with g | g
   ·rw[if_pos g];rfl
   ·rw[if_neg (by omega),if_pos g];rfl
  unfold jG
  rw[hn,Bool.not_false,Bool.or_true]
def fH (l:List Rl) (t:List Tk) (f:Fw) (a:Value):List Value:=[.int .i64 f.code,.int .i64 f.depth,.string (bytesOf ((iW l t f).map (·.1))),a,.int .i64 f.aR,.int .i64 f.til]
def mF (l:List Rl) (t:List Tk):List Fw→List Value→List Value
 | f::fs,a::vs=>fH l t f a++mF l t fs vs
 | _,_=>[]
def I6 (B:Nat) (w:World) (v:Value) (l:List Rl) (t:List Tk) (fs:List Fw):Prop :=
 ∃ avs:List Value,avs.length=fs.length∧w.ownsRow B 44 6 v fs.length (mF l t fs avs)∧∀ (k:Nat) (f:Fw) (a:Value),fs[k]?=some f→avs[k]?=some a→w.ownsRow B 3 1 a (iW l t f).length (iV ((iW l t f).map (·.2)))
end Go.Proofs.YthbigkoihpgcfaaGreatDoor.Da
