/-
  Put together: CnF, CnG, CnH.
-/
import Derived.Test.YtmldpkigfhoalaaGreatDoorOa
import Derived.Test.YtmldpkigfhoalaaGreatDoorVc
namespace Go.Proofs.YtmldpkigfhoalaaGreatDoor.Cn
open Go.RowKit Tr Nu
def wrC:Nat→List Lx.Lx→List Nat
 | _,[]=>[]
 | d,x::l=>if x.kind=1 then Lx.bytesN x.text++wrC d l
   else if x.kind=2 then 123::(Lx.nameL x.name++32::wrC (d+1) l)
   else 125::((if d=1 then [10] else [])++wrC (d - 1) l)
def canV (t:List Nd):ByteArray:=match evA t 0 t.length with | some L=>Lx.bytesOf (wrC 0 L) | none=>emptyS
theorem wrC_k1 {d:Nat} {x:Lx.Lx} {l:List Lx.Lx} (h:x.kind=1):wrC d (x::l)=Lx.bytesN x.text++wrC d l:=by rw [wrC,if_pos h]
theorem wrC_k2 {d:Nat} {x:Lx.Lx} {l:List Lx.Lx} (h:x.kind=2):wrC d (x::l)=123::(Lx.nameL x.name++32::wrC (d+1) l):=by rw [wrC,if_neg (by omega),if_pos h]
theorem wrC_k3 {d:Nat} {x:Lx.Lx} {l:List Lx.Lx} (h1:x.kind≠1) (h2:x.kind≠2):wrC d (x::l)=125::((if d=1 then [10] else [])++wrC (d - 1) l):=by rw [wrC,if_neg h1,if_neg h2]
def Wr:Bool→Nat→List Lx.Lx→Prop
 | _,_,[]=>True
 | b,d,x::l=>if x.kind=1 then b=false∧d≠0∧x=txL x.text∧x.text.size≠0∧(Lx.bytesN x.text).all Lx.okT=true∧Wr true d l
   else if x.kind=2 then x=opL x.name∧Lx.nameL x.name≠[]∧Wr false (d+1) l
   else x=clL∧d≠0∧Wr false (d - 1) l
theorem white_32:Lx.white 32=true:=by decide +kernel
end Go.Proofs.YtmldpkigfhoalaaGreatDoor.Cn
namespace Go.Proofs.YtmldpkigfhoalaaGreatDoor.Cn
open Go.RowKit Tr Nu
def LxOk (x:Lx.Lx):Prop:=(∃ s,x=txL s)∨(∃ k,k≠46∧x=opL k)∨x=clL
theorem wf_ok {F:List Nd} {L:List Lx.Lx} (h:Wf F L):∀ x ∈ L,LxOk x:=by
 induction h with
 | nil=>intro x hx;cases hx
 | text s pl _ ih =>
  intro x hx
  rcases List.mem_append.1 hx with h | h
  ·exact ih x h
  ·rw [List.mem_singleton] at h;exact .inl ⟨s,h⟩
 | node k pl _ _ hk ih1 ih2 =>
  intro x hx
  rcases List.mem_append.1 hx with h | h
  ·exact ih1 x h
  ·rcases List.mem_cons.1 h with rfl | h
   ·exact .inr (.inl ⟨k,hk,rfl⟩)
   ·rcases List.mem_append.1 h with h | h
    ·exact ih2 x h
    ·rw [List.mem_singleton] at h;exact .inr (.inr h)
def TopNo (p:List Tr.Op):Prop:=∀ o,p[0]?=some o→o.kind=0
theorem topNo_texts {p:List Tr.Op} (h:TopNo p) (h1:p.length=1):textsP p=false:=by
 obtain ⟨r,rfl⟩:=List.length_eq_one_iff.1 h1
 exact texts_root (h r rfl)
theorem wr_of {L:List Lx.Lx} (hok:okR ([],[root]) L) (hx:∀ x ∈ L,LxOk x) (hn:∀ k,opL k ∈ L→Lx.nameL k≠[]) (ht:∀ s,txL s ∈ L→s.size≠0∧(Lx.bytesN s).all Lx.okT=true)
  (hno:∀ A s s' B,L≠A++txL s::txL s'::B):Wr false 0 L:=by
 have key:∀ (l A:List Lx.Lx) (b:Bool),L=A++l→okR (readL A) l→(b=true→∃ A' s,A=A'++[txL s])→((readL A).2.map Tr.Op.kind)[0]?=some 0→Wr b ((readL A).2.length - 1) l:=by
  intro l
  induction l with
  | nil=>intro A b _ _ _ _;trivial
  | cons x l ih =>
   intro A b hL hok hb h0
   have hx':=hx x (by rw [hL];simp)
   obtain ⟨k1,k2,k3⟩:=hok
   have hL':L=(A++[x])++l:=by rw [hL];simp
   have ih:=ih (A++[x])
   rw [readL_snoc] at ih
   generalize readL A=S at k1 k2 k3 ih h0 ⊢
   obtain ⟨T,p⟩:=S
   simp only [] at k1 k2 h0 ⊢
   have hp0:0<p.length:=by
    cases p with
    | nil=>simp at h0
    | cons _ _=>exact Nat.succ_pos _
   rcases hx' with ⟨s,rfl⟩ | ⟨k,hk,rfl⟩ | rfl
   ·have hkd:=Nl.kd_text T p (txL s) rfl
    have hl:(stepR (T,p) (txL s)).2.length=p.length:=step_tx (T,p) s
    have ih:=ih true hL' k3 (fun _=>⟨A,s,rfl⟩) (by show (Nl.kdO _)[0]?=_;rw [hkd];exact h0)
    rw [hl] at ih
    unfold Wr
    rw [if_pos (show (txL s).kind=1 from rfl)]
    refine ⟨?_,?_,rfl,(ht s (by rw [hL];simp)).1,(ht s (by rw [hL];simp)).2,ih⟩
    ·cases b with
     | false=>rfl
     | true =>
      obtain ⟨A',s',rfl⟩:=hb rfl
      exact absurd (by rw [hL];simp) (hno A' s' s l)
    ·intro e
     have htx:textsP p=false:=topNo_texts (fun o ho=>by
      rw [List.getElem?_map,ho] at h0
      simpa using h0) (by omega)
     exact k1 ⟨rfl,htx⟩
   ·have hkd:=Nl.kd_open T p (opL k) rfl
    have hl:(stepR (T,p) (opL k)).2.length=p.length+1:=step_op (T,p) k
    have ih:=ih false hL' k3 (fun e=>by cases e) (by
     show (Nl.kdO _)[0]?=_
     rw [hkd,List.getElem?_append_left (by unfold Nl.kdO;rw [List.length_map];omega)];exact h0)
    rw [hl] at ih
    unfold Wr
    rw [if_neg (show ¬ (opL k).kind=1 from (by decide:¬ (2:Nat)=1)),if_pos (show (opL k).kind=2 from rfl)]
    refine ⟨rfl,hn k (by rw [hL];simp),?_⟩
    rw [show p.length - 1+1=p.length+1 - 1 by omega];exact ih
   ·have hkd:=Nl.kd_close T p clL (by decide) (by decide)
    have hl:(stepR (T,p) clL).2.length=p.length - 1:=step_cl (T,p)
    have hne:p.length≠1:=err_close k2
    have ih:=ih false hL' k3 (fun e=>by cases e) (by
     show (Nl.kdO _)[0]?=_
     rw [hkd,List.getElem?_take,if_pos (by omega)];exact h0)
    rw [hl] at ih
    unfold Wr
    rw [if_neg (by decide:¬ clL.kind=1),if_neg (by decide:¬ clL.kind=2)]
    exact ⟨rfl,by omega,ih⟩
 exact key L [] false rfl hok (fun e=>by cases e) rfl
end Go.Proofs.YtmldpkigfhoalaaGreatDoor.Cn
namespace Go.Proofs.YtmldpkigfhoalaaGreatDoor.Cn
open Go.RowKit Tr Nu
theorem same_bare:∀ t u:List Nd,sameV t u=true→t.map bare=u.map bare
 | [],[],_=>rfl
 | [],y::u,h=>by unfold sameV at h;simp at h
 | x::t,[],h=>by unfold sameV at h;simp at h
 | x::t,y::u,h=>by
  unfold sameV at h
  rw [Bool.and_eq_true,decide_eq_true_eq,List.zip_cons_cons,List.all_cons,Bool.and_eq_true] at h
  obtain ⟨h1,h2,h3⟩:=h
  unfold sameNd at h2
  rw [decide_eq_true_eq] at h2
  have ih:=same_bare t u (by unfold sameV;rw [Bool.and_eq_true,decide_eq_true_eq];exact ⟨by simpa using h1,h3⟩)
  rw [List.map_cons,List.map_cons,ih]
  obtain ⟨a,b,c,d⟩:=x
  obtain ⟨a',b',c',d'⟩:=y
  simp only [] at h2
  obtain ⟨rfl,rfl,rfl⟩:=h2
  rfl
theorem evA_bare (t:List Nd) (a e:Nat):evA (t.map bare) a e=evA t a e:=evF_bare t (e - a) a e
theorem evA_of_bare {t u:List Nd} (h:t.map bare=u.map bare):evA t 0 t.length=evA u 0 u.length:=by
 have hl:t.length=u.length:=by have:=congrArg List.length h;simpa using this
 rw [← evA_bare t,← evA_bare u,h,hl]
theorem is_check {t:List Nd} (h:isV t=true):checkV t=0:=by
 unfold isV at h
 rw [Bool.and_eq_true,decide_eq_true_eq] at h;exact h.1
theorem rd_no {J:List Ev} (h:Rd J):∀ (A B:List Ev) (y x:Ev),J=A++y::x::B→¬ (y.kind=1∧x.kind=1):=by
 have key:∀ (A B A':List Ev) (y x z:Ev),A'++[z]=A++y::x::B→(B=[]∧A'=A++[y]∧z=x)∨∃ B',A'=A++y::x::B':=fun A B A' y x z e=>by
  rcases List.eq_nil_or_concat B with rfl | ⟨B',w,rfl⟩
  ·refine .inl ⟨rfl,?_⟩
   have e:A'++[z]=(A++[y])++[x]:=by rw [e];simp
   obtain ⟨e1,e2⟩:=List.append_inj' e rfl
   exact ⟨e1,by simpa using e2⟩
  ·rw [List.concat_eq_append] at e
   have e:A'++[z]=(A++y::x::B')++[w]:=by rw [e];simp
   exact .inr ⟨B',(List.append_inj' e rfl).1⟩
 induction h with
 | nil=>intro A B y x e;simp at e
 | node _ hk ih =>
  intro A B y x e hh
  rcases key A B _ y x _ e with ⟨-,-,rfl⟩ | ⟨B',h⟩
  ·exact hk hh.2
  ·exact ih A B' y x h hh
 | text _ he _ _ ih =>
  intro A B y x e hh
  rcases key A B _ y x _ e with ⟨-,rfl,-⟩ | ⟨B',h⟩
  ·exact he y (List.getLast?_concat ..) hh.1
  ·exact ih A B' y x h hh
theorem wf_in {F:List Nd} {L:List Lx.Lx} (h:Wf F L):∀ z ∈ L,(z.kind=1→∃ x ∈ F,x.kind=46∧x.text=z.text)∧(z.kind=2→∃ x ∈ F,x.kind=z.name∧x.kind≠46):=by
 have up:∀ {F G:List Nd} {z:Lx.Lx},(∀ x ∈ F,x ∈ G)→((z.kind=1→∃ x ∈ F,x.kind=46∧x.text=z.text)∧(z.kind=2→∃ x ∈ F,x.kind=z.name∧x.kind≠46))→(z.kind=1→∃ x ∈ G,x.kind=46∧x.text=z.text)∧(z.kind=2→∃ x ∈ G,x.kind=z.name∧x.kind≠46):=fun hs h =>
  ⟨fun k=>by obtain ⟨x,hx,h⟩:=h.1 k;exact ⟨x,hs x hx,h⟩,fun k=>by obtain ⟨x,hx,h⟩:=h.2 k;exact ⟨x,hs x hx,h⟩⟩
 induction h with
 | nil=>intro z hz;cases hz
 | text s pl _ ih =>
  intro z hz
  rcases List.mem_append.1 hz with h | h
  ·exact up (fun x hx=>List.mem_append_left _ hx) (ih z h)
  ·rw [List.mem_singleton] at h
   subst h
   exact ⟨fun _=>⟨_,List.mem_append_right _ (List.mem_singleton.2 rfl),rfl,rfl⟩,fun k=>by cases k⟩
 | node k pl _ _ hk ih1 ih2 =>
  intro z hz
  rcases List.mem_append.1 hz with h | h
  ·exact up (fun x hx=>List.mem_append_left _ hx) (ih1 z h)
  ·rcases List.mem_cons.1 h with rfl | h
   ·exact ⟨fun k=>(by cases k),fun _=>⟨_,List.mem_append_right _ (List.mem_cons_self ..),rfl,hk⟩⟩
   ·rcases List.mem_append.1 h with h | h
    ·exact up (fun x hx=>List.mem_append_right _ (List.mem_cons_of_mem _ hx)) (ih2 z h)
    ·rw [List.mem_singleton] at h
     subst h
     exact ⟨fun k=>(by cases k),fun k=>(by cases k)⟩
theorem is_wr {t:List Nd} (h:isV t=true):∃ L,Wf t L∧evA t 0 t.length=some L∧okR ([],[root]) L∧Wr false 0 L:=by
 have hc:=is_check h
 obtain ⟨hn,L,hE,hok⟩:=(checkV_ok t).1 hc
 obtain ⟨L',hW,hE'⟩:=check_wf hc
 rw [hE'] at hE
 cases hE
 refine ⟨L,hW,hE',hok,wr_of hok (wf_ok hW) (fun k hk=>?_) (fun s hs=>?_) (fun A s s' B e=>?_)⟩
 ·obtain ⟨x,hx,h1,h2⟩:=(wf_in hW _ hk).2 rfl
  have:=hn x hx
  unfold nodeOk at this
  rw [if_neg h2,Bool.and_eq_true,decide_eq_true_eq,Lx.nameS_size] at this
  intro e
  have h1:x.kind=k:=h1
  rw [h1,e] at this
  exact this.1.2 rfl
 ·obtain ⟨x,hx,h1,h2⟩:=(wf_in hW _ hs).1 rfl
  have:=hn x hx
  unfold nodeOk at this
  rw [if_pos h1,Bool.and_eq_true,decide_eq_true_eq] at this
  have h2:x.text=s:=h2
  rw [h2] at this
  exact this
 ·unfold isV at h
  rw [Bool.and_eq_true] at h
  have hb:=same_bare _ _ h.2
  have hv:=evA_of_bare hb
  rw [hE',wf_ev0 (norm_wf hW)] at hv
  have hv:=Option.some.inj hv
  rw [hv] at e
  obtain ⟨A',R,e1,rfl,e2⟩:=List.map_eq_append_iff.1 e
  obtain ⟨y,R2,rfl,hy,e3⟩:=List.map_eq_cons_iff.1 e2
  obtain ⟨x,B',rfl,hx,-⟩:=List.map_eq_cons_iff.1 e3
  refine rd_no (rd_join _) A' B' y x e1 ⟨?_,?_⟩
  ·exact congrArg Lx.Lx.kind hy
  ·exact congrArg Lx.Lx.kind hx
def writeE (t:List Nd):Nat:=if checkV t≠0 then checkV t else if isV t=false then 1 else if 8192<(canV t).size then 4 else 0
def writeS (t:List Nd):ByteArray:=if writeE t=0 then canV t else emptyS
theorem writeE_is {t:List Nd} (h:isV t=true):writeE t=if 8192<(canV t).size then 4 else 0:=by
 unfold writeE
 rw [if_neg (by rw [is_check h];exact fun e=>e rfl),if_neg (by rw [h];exact fun e=>Bool.noConfusion e)]
def canonA (s:ByteArray):ByteArray × Nat × Nat :=
 if (parseA s).2.2≠0 then (emptyS,(parseA s).2.1,(parseA s).2.2) else (writeS (normV (parseA s).1),0,writeE (normV (parseA s).1))
theorem parse_check {s:ByteArray} (h:(parseA s).2.2=0):checkV (parseA s).1=0:=by
 have hP:=parsed_of h
 rw [parseA_ok hP]
 exact (parse_may s hP.1 hP.2.1 hP.2.2).1
theorem canonA_e {s:ByteArray} (h:(parseA s).2.2=0):canonA s=(writeS (normV (parseA s).1),0,writeE (normV (parseA s).1))∧isV (normV (parseA s).1)=true:=by
 unfold canonA
 rw [if_neg (by rw [h];exact fun e=>e rfl)]
 exact ⟨rfl,is_norm (parse_check h)⟩
end Go.Proofs.YtmldpkigfhoalaaGreatDoor.Cn
