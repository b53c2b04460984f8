/-
  Put together.
-/
import Derived.Test.YthbigkoihpgcfaaGreatDoorSe
import Derived.Test.YthbigkoihpgcfaaGreatDoorSj
import Derived.Test.YthbigkoihpgcfaaGreatDoorTsC
import Derived.Test.YthbigkoihpgcfaaGreatDoorUa
namespace Go.Proofs.YthbigkoihpgcfaaGreatDoor.Da
open Go.RowKit Ba Ru Ck Ti Pa Fl Cu
theorem aA8 {c t:List Nat} (h:dM c=some t):∀ x ∈ c,x≠0∧x≤63:=by
 unfold dM at h
 split at h
 ·rename_i hk
  obtain⟨h256,-,-,hbad⟩:=hk
  intro x hx
  obtain⟨j,hj,rfl⟩:=List.getElem_of_mem hx
  have hsz:(Ce.bytesOf c).size=c.length:=Ce.aF c
  have hall:Ce.UK (Ce.aV (Ce.bytesOf c) j)=true:=by
   cases hb:Ce.UK (Ce.aV (Ce.bytesOf c) j) with
   | true=>rfl
   | false =>
    unfold Ce.vY at hbad
    have:=List.not_of_lt_findIdx (xs:=List.range (Ce.bytesOf c).size) (p:=fun j=>!Ce.UK (Ce.aV (Ce.bytesOf c) j)) (i:=j) (by rw[hbad,hsz];exact hj)
    rw[List.getElem_range,hb]at this
    cases this
  have he:Ce.aV (Ce.bytesOf c) j=c[j]:=by
   have e:Ce.aA (Ce.bytesOf c)=c:=Ce.aB c h256
   unfold Ce.aV
   rw[e,List.getD_eq_getElem?_getD,List.getElem?_eq_getElem hj]
   rfl
  rw[he]at hall
  unfold Ce.UK at hall
  exact of_decide_eq_true hall
 ·cases h
theorem xU {l:List Rl} (A:Acc dM l):∀ x ∈ l,∀ c ∈ x.cells,c≠0∧c≤63:=fun x hx=>by
 have h:=A.alone x hx
 unfold eF nM at h
 simp only[Bool.and_eq_true]at h
 obtain⟨t,ht⟩:=Option.isSome_iff_exists.1 h.2.1.2
 exact aA8 ht
def s6 (x:Tk):Bool:=decide (x.kind=1) && decide (x.ch=32)
def aS:List Tk→List (List Tk)
 | []=>[[]]
 | x::t=>if s6 x=true then []::aS t else match aS t with
  | []=>[[x]]
  | c::r=>(x::c)::r
def gA (t:List Tk):Bool:=(aS t).all bB
theorem aFB:∀ t:List Tk,aS t≠[]
 | []=>by simp[aS]
 | x::t=>by
  unfold aS
  split
  ·simp
  ·split<;>simp
def bJ (l:List Rl) (aR:Nat) (p:List Pc):List (Nat × Nat):=p.flatMap fun x=>((l[x.rule]?.map (·.cells)).getD []).map fun c=>(c,aR+x.aR)
def iM (l:List Rl):Nat→List (List Tk)→List (Nat × Nat)
 | _,[]=>[]
 | i,[c]=>bJ l i (j6 l c)
 | i,c::d::r=>bJ l i (j6 l c)++(0,i+c.length)::iM l (i+c.length+1) (d::r)
def IY (l:List Rl) (t:List Tk):List (Nat × Nat):=iM l 0 (aS t)
theorem iD (x:Tk) (t:List Tk):aS (x::t)=if s6 x=true then []::aS t else match aS t with
  | []=>[[x]]
  | c::r=>(x::c)::r:=rfl
theorem wN:∀ {t:List Tk},(∀ x ∈ t,s6 x=false)→aS t=[t]
 | [],_=>rfl
 | x::t,h=>by
  rw[iD,if_neg (by rw[h x (List.mem_cons_self ..)];decide),wN (t:=t) fun y hy=>h y (List.mem_cons_of_mem _ hy)]
theorem zF:∀ {c:List Tk} {x:Tk} {t:List Tk},(∀ y ∈ c,s6 y=false)→s6 x=true→aS (c++x::t)=c::aS t
 | [],x,t,_,hx=>by
  show aS (x::t)=_
  rw[iD,if_pos hx]
 | y::c,x,t,h,hx=>by
  show aS (y::(c++x::t))=_
  rw[iD,if_neg (by rw[h y (List.mem_cons_self ..)];decide),zF (c:=c) (fun z hz=>h z (List.mem_cons_of_mem _ hz)) hx]
def WD (t:List Tk) (a b:Nat):Prop:=∀ (j:Nat) (x:Tk),a≤j→j<b→t[j]?=some x→s6 x=false
theorem WD.mem {t:List Tk} {a b:Nat} (h:WD t a b):∀ y ∈ (t.drop a).take (b - a),s6 y=false:=fun y hy=>by
 obtain⟨i,hi,rfl⟩:=List.mem_iff_getElem.1 hy
 rw[List.length_take,List.length_drop]at hi
 rw[List.getElem_take,List.getElem_drop]
 exact h (a+i) _ (by omega) (by omega) (List.getElem?_eq_getElem (by omega))
theorem zG (l:List Rl) (i:Nat) (c:List Tk) {r:List (List Tk)} (hr:r≠[]):iM l i (c::r)=bJ l i (j6 l c)++(0,i+c.length)::iM l (i+c.length+1) r:=by
 cases r with
 | nil=>exact absurd rfl hr
 | cons d r=>rfl
theorem IZ (l:List Rl) (aR:Nat) (p:List Pc) (x:Pc):bJ l aR (p++[x])=bJ l aR p++((l[x.rule]?.map (·.cells)).getD []).map fun c=>(c,aR+x.aR):=by
 unfold bJ
 rw[List.flatMap_append,List.flatMap_singleton]
def iE (l:List Rl) (t:List Tk):List (Nat × Nat):=if gA t=true then IY l t else []
def lW (p:List Pc) (j:Nat):Prop:=∀ x ∈ p,x.aR<j
theorem cD {x:Pc} {p:List Pc} {j:Nat} (h:x.aR<j) (hp:lW p j):lW (x::p) j:=fun z hz=>by
 rcases List.mem_cons.1 hz with rfl | hz
 ·exact h
 ·exact hp z hz
theorem uW {p q:List Pc} {j:Nat} (hp:lW p j) (hq:lW q j):lW (p++q) j:=fun z hz=>(List.mem_append.1 hz).elim (hp z) (hq z)
theorem dJ (j:Nat):lW [] j:=fun z hz=>by cases hz
section
variable {pr:List Nat→Option (List Nat)} {l:List Rl} (A:Acc pr l)
include A
theorem wP {s:List Nat} (hL:gE s) (i:Nat):∀ (n p:Nat),s.length - p≤n→p≤s.length→lW (a8 l i (gZ l (bL s) (p:Int)) p) (i+s.length)
 | n,p,hn,hp=>by
  by_cases hlt:p<s.length
  ·obtain⟨n,rfl⟩:∃ m,n=m+1:=⟨n - 1,by omega⟩
   have hne:s≠[]:=fun e=>by rw[e]at hlt;exact absurd hlt (by simp)
   obtain⟨k,x,h,-,ha,h0,hle⟩:=kW A (jC hL hne) (p:=p) (by rw[aT];exact hlt)
   rw[aT]at hle
   have hl2:aK l k=x.left.length:=by unfold aK;rw[h.at'];rfl
   have ih:=wP hL i n (p+x.left.length) (by omega) hle
   rw[ha]
   show lW (⟨k,i+p,aK l k⟩::a8 l i _ (p+aK l k)) _
   rw[hl2]
   exact cD (show i+p<i+s.length by omega) ih
  ·obtain rfl:p=s.length:=by omega
   have ha:gZ l (bL s) (s.length:Int)=[]:=lT (by rw[aT];omega)
   rw[ha]
   exact dJ _
theorem CQ {s:List Nat} (hL:gE s) (i:Nat):∀ (n p:Nat),lW (fL l s i n p) (i+s.length)
 | 0,p=>dJ _
 | n+1,p=>by
  unfold fL
  by_cases hlt:p<s.length
  ·rw[if_pos hlt]
   by_cases h3:aO (s.drop p)=3
   ·rw[if_pos h3]
    exact cD (show i+p<i+s.length by omega) (wP A hL i (s.length - p) p (Nat.le_refl _) (by omega))
   ·rw[if_neg h3]
    cases hb:dC l (bL s) (p:Int) (eB s p:Int) with
    | none=>exact dJ _
    | some k =>
     have tail:lW (⟨k,i+p,aK l k⟩::fL l s i n (p+aK l k)) (i+s.length):=cD (show i+p<i+s.length by omega) (CQ hL i n _)
     by_cases hc:aQ (s.getD p 0)=true
     ·simp only[if_pos hc]
      exact cD (show i+p<i+s.length by omega) tail
     ·simp only[if_neg hc]
      exact tail
  ·rw[if_neg hlt]
   exact dJ _
theorem pH:∀ (n i:Nat) (b:Bool) (t:List Tk),lW (bM l n i b t) (i+t.length)
 | 0,_,_,_=>dJ _
 | n+1,i,b,[]=>dJ _
 | n+1,i,b,x::r=>by
  have hsum:((x::r).takeWhile aJ).length+((x::r).dropWhile aJ).length=(x::r).length:=by
   rw[← List.length_append,List.takeWhile_append_dropWhile]
  have h0:0<(x::r).length:=Nat.succ_pos _
  have h1:(x::r).length=r.length+1:=rfl
  rw[mS]
  by_cases hx:aJ x=true
  ·rw[if_pos hx]
   refine uW (uW ?_ fun z hz=>?_) fun z hz=>?_
   ·split
    ·exact cD (show i<i+(x::r).length by omega) (dJ _)
    ·exact dJ _
   ·have:=CQ A (mR (gF aJ (x::r))) i _ 0 z hz
    unfold fA at this
    rw[List.length_map]at this
    omega
   ·have:=pH n _ _ _ z hz
    omega
  ·rw[if_neg hx]
   have tail:∀ b,lW (bM l n (i+1) b r) (i+(x::r).length):=fun b z hz=>by
    have:=pH n (i+1) b r z hz
    omega
   by_cases hd:eO x=true
   ·rw[if_pos hd]
    refine uW ?_ (cD (show i<i+(x::r).length by omega) (tail _))
    split
    ·exact dJ _
    ·exact cD (show i<i+(x::r).length by omega) (dJ _)
   ·rw[if_neg hd]
    by_cases hm:gD x=true
    ·rw[if_pos hm]
     exact cD (show i<i+(x::r).length by omega) (tail _)
    ·rw[if_neg hm]
     exact cD (show i<i+(x::r).length by omega) (tail _)
end
theorem I2 {l:List Rl} (A:Acc dM l) (t:List Tk):lW (j6 l t) t.length:=by
 have hs:lW (bI l t) t.length:=by
  have:=pH A t.length 0 false t
  rw[Nat.zero_add]at this
  exact this
 by_cases h0:t=[]
 ·subst h0
  have hw:dD l []=none:=by
   unfold dD
   rw[if_pos (show ([]:List Tk).all aJ=true from rfl)]
   cases cI l 5 (bL (fA []))<;>simp[aO,fA]
  have hk:jU l (cC l (bI l []))=false:=by
   have e:cC l (bI l [])=[]:=by unfold cC;exact ite_self _
   rw[e]
   unfold jU
   have hn:cZ l []=none:=by
    unfold cZ
    rw[List.findIdx?_eq_none_iff]
    exact fun x hx=>decide_eq_false fun g=>uH A x hx g.2
   simp[hn]
  unfold j6
  rw[hw]
  simp only[]
  rw[hk]
  exact hs
 ·have hp:0<t.length:=List.length_pos_iff.2 h0
  unfold j6
  cases hw:dD l t with
  | none =>
   simp only[]
   split
   ·exact cD hp hs
   ·exact hs
  | some p =>
   simp only[]
   unfold dD at hw
   by_cases hall:t.all aJ=true
   ·rw[if_pos hall]at hw
    cases hf:cI l 5 (bL (fA t)) with
    | none=>rw[hf]at hw;cases hw
    | some k =>
     rw[hf]at hw
     dsimp only at hw
     split at hw
     ·cases hw;exact cD hp (dJ _)
     ·cases hw;exact cD hp (cD hp (dJ _))
     ·cases hw;exact cD hp (cD hp (dJ _))
     ·cases hw
   ·rw[if_neg hall]at hw;cases hw
theorem aG8 {l:List Rl} {T:List Tk}:∀ {p:List Pc} {i j:Nat},y7 l T i p j→(∀ x ∈ p,i≤x.aR)∧p.Pairwise fun a b=>a.aR≤b.aR
 | [],_,_,_=>⟨fun x hx=>(by cases hx),List.Pairwise.nil⟩
 | x::p,i,j,⟨_,_,h2,_,_,h5⟩=>by
  obtain⟨a,b⟩:=aG8 h5
  refine⟨fun z hz=>?_,List.pairwise_cons.2 ⟨fun z hz=>?_,b⟩⟩
  ·rcases List.mem_cons.1 hz with rfl | hz
   ·omega
   ·have:=a z hz;omega
  ·have:=a z hz;omega
theorem aKW (c:List Nat) (n:Nat):(c.map fun x=>(x,n)).Pairwise fun a b=>a.2≤b.2:=by
 rw[List.pairwise_map]
 exact List.pairwise_of_forall fun _ _=>Nat.le_refl _
theorem zI {l:List Rl} {aR:Nat} {p:List Pc} {z:Nat × Nat} (h:z ∈ bJ l aR p):∃ x y,x ∈ p∧y ∈ l∧z.1 ∈ y.cells∧z.2=aR+x.aR:=by
 unfold bJ at h
 obtain⟨x,hx,hz⟩:=List.mem_flatMap.1 h
 cases ho:l[x.rule]? with
 | none=>rw[ho]at hz;cases hz
 | some y =>
  rw[ho]at hz
  obtain⟨c,hc,rfl⟩:=List.mem_map.1 hz
  exact⟨x,y,hx,List.mem_of_getElem? ho,hc,rfl⟩
theorem aGL (l:List Rl) (aR:Nat):∀ {p:List Pc},(p.Pairwise fun a b=>a.aR≤b.aR)→(bJ l aR p).Pairwise fun a b=>a.2≤b.2
 | [],_=>List.Pairwise.nil
 | x::p,h=>by
  rw[List.pairwise_cons]at h
  show (((l[x.rule]?.map (·.cells)).getD []).map (fun c=>(c,aR+x.aR))++bJ l aR p).Pairwise _
  refine List.pairwise_append.2 ⟨aKW _ _,aGL l aR h.2,fun a ha b hb=>?_⟩
  obtain⟨c,-,rfl⟩:=List.mem_map.1 ha
  obtain⟨y,-,hy,-,-,e⟩:=zI hb
  have:=h.1 y hy
  show aR+x.aR≤b.2
  omega
def EK:List (List Tk)→Nat
 | []=>0
 | [c]=>c.length
 | c::d::r=>c.length+1+EK (d::r)
theorem uX (c:List Tk) {r:List (List Tk)} (h:r≠[]):EK (c::r)=c.length+1+EK r:=by
 cases r with
 | nil=>exact absurd rfl h
 | cons d r=>rfl
theorem wQ:∀ t:List Tk,EK (aS t)=t.length
 | []=>rfl
 | x::t=>by
  have ih:=wQ t
  rw[iD,List.length_cons]
  by_cases hx:s6 x=true
  ·rw[if_pos hx,uX [] (aFB t),ih,List.length_nil];omega
  ·rw[if_neg hx]
   obtain⟨c,r,hc⟩:∃ c r,aS t=c::r:=by
    cases h:aS t with
    | nil=>exact absurd h (aFB t)
    | cons c r=>exact⟨c,r,rfl⟩
   rw[hc]at ih ⊢
   simp only[]
   cases r with
   | nil =>
    show c.length+1=_
    have ih:c.length=t.length:=ih
    omega
   | cons d r =>
    rw[uX _ (by simp),List.length_cons]
    rw[uX _ (by simp)]at ih
    omega
theorem aHQ {l:List Rl} (A:Acc dM l):∀ (cs:List (List Tk)) (i:Nat),(∀ c ∈ cs,bB c=true)→(∀ z ∈ iM l i cs,i≤z.2∧z.2<i+EK cs∧z.1≤63)∧(iM l i cs).Pairwise fun a b=>a.2≤b.2
 | [],_,_=>⟨fun z hz=>(by cases hz),List.Pairwise.nil⟩
 | [c],i,h=>by
  have hc:=h c (List.mem_cons_self ..)
  refine⟨fun z hz=>?_,aGL l i (aG8 (aJR A hc)).2⟩
  obtain⟨x,y,hx,hy,h1,h2⟩:=zI (show z ∈ bJ l i (j6 l c) from hz)
  have:=I2 A c x hx
  have:=xU A y hy z.1 h1
  show _∧z.2<i+c.length∧_
  omega
 | c::d::r,i,h=>by
  have hc:=h c (List.mem_cons_self ..)
  obtain⟨i1,i2⟩:=aHQ A (d::r) (i+c.length+1) (fun c hc=>h c (List.mem_cons_of_mem _ hc))
  have e:iM l i (c::d::r)=bJ l i (j6 l c)++(0,i+c.length)::iM l (i+c.length+1) (d::r):=rfl
  have hL:EK (c::d::r)=c.length+1+EK (d::r):=rfl
  have hA:∀ z ∈ bJ l i (j6 l c),i≤z.2∧z.2<i+c.length∧z.1≤63:=fun z hz=>by
   obtain⟨x,y,hx,hy,h1,h2⟩:=zI hz
   have:=I2 A c x hx
   have:=xU A y hy z.1 h1
   omega
  rw[e,hL]
  refine⟨fun z hz=>?_,List.pairwise_append.2 ⟨aGL l i (aG8 (aJR A hc)).2,List.pairwise_cons.2 ⟨fun z hz=>?_,i2⟩,fun a ha b hb=>?_⟩⟩
  ·rcases List.mem_append.1 hz with hz | hz
   ·have:=hA z hz;omega
   ·rcases List.mem_cons.1 hz with rfl | hz
    ·exact⟨show i≤i+c.length by omega,show i+c.length<_ by omega,Nat.zero_le _⟩
    ·have:=i1 z hz;omega
  ·have:=i1 z hz
   show i+c.length≤z.2
   omega
  ·have h1:=hA a ha
   rcases List.mem_cons.1 hb with rfl | hb
   ·show a.2≤i+c.length;omega
   ·have:=i1 b hb;omega
theorem aKA {l:List Rl} (A:Acc dM l) {t:List Tk} (h:gA t=true):(∀ z ∈ IY l t,z.2<t.length∧z.1≤63)∧(IY l t).Pairwise fun a b=>a.2≤b.2:=by
 obtain⟨h1,h2⟩:=aHQ A (aS t) 0 (List.all_eq_true.1 h)
 refine⟨fun z hz=>?_,h2⟩
 have:=h1 z hz
 rw[wQ]at this
 omega
theorem aA9 {l:List Rl} (A:Acc dM l):j6 l []=[]:=by
 have h:=I2 A []
 cases e:j6 l [] with
 | nil=>rfl
 | cons x r =>
  rw[e]at h
  have:=h x (List.mem_cons_self ..)
  exact absurd this (by simp)
theorem zJ {l:List Rl} (A:Acc dM l) (i:Nat):bJ l i (j6 l [])=[]:=by
 rw[aA9 A];rfl
theorem SG:bB []=true:=rfl
def oL (l:List Rl) (i:Nat) (t:List Tk):List (Nat × Nat):=iM l i (aS t)
theorem I4 {l:List Rl} (A:Acc dM l) (i:Nat):oL l i []=[]:=zJ A i
theorem rT {l:List Rl} (A:Acc dM l) (i:Nat) {x:Tk} {t:List Tk} (h:s6 x=true):oL l i (x::t)=(0,i)::oL l (i+1) t∧gA (x::t)=gA t:=by
 have e:aS (x::t)=[]::aS t:=by rw[iD,if_pos h]
 refine⟨?_,?_⟩
 ·unfold oL
  rw[e,zG l i [] (aFB t),zJ A]
  rfl
 ·unfold gA
  rw[e,List.all_cons,SG]
  rfl
theorem M5 {l:List Rl} (A:Acc dM l) (i:Nat) {c r:List Tk} (hc:∀ y ∈ c,s6 y=false) (hr:∀ y s,r=y::s→s6 y=true):oL l i (c++r)=bJ l i (j6 l c)++oL l (i+c.length) r∧gA (c++r)=(bB c && gA r):=by
 cases r with
 | nil =>
  rw[List.append_nil]
  have e:aS c=[c]:=wN hc
  refine⟨?_,?_⟩
  ·rw[I4 A,List.append_nil]
   unfold oL
   rw[e]
   rfl
  ·unfold gA
   rw[e]
   rfl
 | cons x t =>
  have hx:=hr x t rfl
  have e:aS (c++x::t)=c::aS t:=zF hc hx
  refine⟨?_,?_⟩
  ·rw[(rT A (i+c.length) hx).1]
   unfold oL
   rw[e,zG l i c (aFB t)]
  ·rw[(rT A 0 hx).2]
   unfold gA
   rw[e,List.all_cons]
theorem s8 (l:List Rl) (k i:Nat) (p:List Pc):bJ l (k+i) p=(bJ l i p).map fun z=>(z.1,k+z.2):=by
 unfold bJ
 rw[List.map_flatMap]
 congr 1
 funext x
 rw[List.map_map]
 congr 1
 funext c
 show (c,k+i+x.aR)=(c,k+(i+x.aR))
 rw[Nat.add_assoc]
theorem wR (l:List Rl) (k:Nat):∀ (cs:List (List Tk)) (i:Nat),iM l (k+i) cs=(iM l i cs).map fun z=>(z.1,k+z.2)
 | [],_=>rfl
 | [c],i=>s8 l k i _
 | c::d::r,i=>by
  show bJ l (k+i) (j6 l c)++(0,k+i+c.length)::iM l (k+i+c.length+1) (d::r)=(bJ l i (j6 l c)++(0,i+c.length)::iM l (i+c.length+1) (d::r)).map _
  rw[List.map_append,List.map_cons,s8,show k+i+c.length+1=k+(i+c.length+1) by omega,wR l k (d::r),Nat.add_assoc]
theorem I5 (l:List Rl) (k:Nat) (t:List Tk):oL l k t=(IY l t).map fun z=>(z.1,k+z.2):=wR l k (aS t) 0
end Go.Proofs.YthbigkoihpgcfaaGreatDoor.Da
