/-
  Put together.
-/
import Derived.Test.YthbigkoihpgcfaaGreatDoorTsY
import Derived.Test.YthbigkoihpgcfaaGreatDoorVd
namespace Go.Proofs.YthbigkoihpgcfaaGreatDoor.Tr
open Go.RowKit
def fL (t:List Nd):Nat→Nat→St→Option St
 | 0,a,o=>gT t (a:Int) o.lv.length o
 | f+1,a,o=>(gT t (a:Int) o.lv.length o).bind fun o1=>match t[a]? with
  | none=>none
  | some x=>(xG x (gS t o1) a o1).bind fun o2=>fL t f (a+1) o2
def AW (t:List Nd) (a:Nat) (o:St):Option St:=fL t (t.length - a) a o
def jW (t:List Nd):Nat:=match AW t 0 st0 with | none=>2 | some o=>tT o
def xH (t:List Nd) (a:Nat) (o1:St):Option St:=match t[a]? with | none=>some o1 | some x=>(xG x (gS t o1) a o1).bind fun o2=>AW t (a+1) o2
theorem aCZ {t:List Nd} {a:Nat} (h:a≤t.length) (o:St):AW t a o=(gT t (a:Int) o.lv.length o).bind (xH t a):=by
 unfold AW
 rcases Nat.lt_or_ge a t.length with h1 | h1
 ·obtain⟨f,hf⟩:∃ f,t.length - a=f+1:=⟨t.length - a - 1,by omega⟩
  rw[hf]
  unfold fL
  congr 1
  funext o1
  unfold xH
  rw[List.getElem?_eq_getElem h1]
  simp only[]
  congr 1
  funext o2
  unfold AW
  rw[show t.length - (a+1)=f from by omega]
 ·obtain rfl:a=t.length:=by omega
  rw[Nat.sub_self]
  unfold fL
  cases gT t (t.length:Int) o.lv.length o with
  | none=>rfl
  | some o1 =>
   show some o1=xH t t.length o1
   unfold xH
   rw[List.getElem?_eq_none (Nat.le_refl _)]
def LK (o:St):List Nat:=o.lv.map (·.start)
theorem oG (o:St):(LK o).length=o.lv.length:=List.length_map _
theorem aIP (o:St) (h:0<o.lv.length):(cH o.lv).start=(LK o).getD (o.lv.length - 1) 0:=by
 unfold cH LK
 rw[List.getD_eq_getElem?_getD,List.getD_eq_getElem?_getD,List.getElem?_map,List.getElem?_eq_getElem (by omega)]
 rfl
theorem aGV {t:List Nd} {o o':St} (h:LK o'=LK o):gS t o'=gS t o:=by
 have hl:o'.lv.length=o.lv.length:=by rw[← oG,h,oG]
 unfold gS
 by_cases h1:o.lv.length≤1
 ·rw[if_pos h1,if_pos (by omega)]
 ·rw[if_neg h1,if_neg (by omega),aIP o (by omega),aIP o' (by omega),h,hl]
theorem oH (l:List Lv) (j:Nat) (f:Lv→Lv) (hf:∀ b,(f b).start=b.start):(l.modify j f).map (·.start)=l.map (·.start):=by
 apply List.ext_getElem?
 intro i
 rw[List.getElem?_map,List.getElem?_map,List.getElem?_modify]
 cases l[i]? with
 | none=>rfl
 | some x=>by_cases h:j=i<;>simp[h,hf]
theorem vX (o:St) (k:Nat):LK (bE o k)=LK o:=oH _ _ _ fun _=>rfl
theorem aC0 (o:St) (n:Nat):LK (vS o n)=LK o:=by
 unfold vS
 cases eC o.lv 110 with
 | none=>exact vX o 46
 | some i =>
  show ((bE o 46).lv.modify i (nL n)).map (·.start)=_
  exact(oH _ i (nL n) fun _=>rfl).trans (vX o 46)
theorem DU (o:St) (k:Nat):LK (bG o k)=LK o:=by
 unfold bG
 split
 ·exact oH _ _ _ fun _=>rfl
 ·rfl
theorem LF (o:St) (k:Nat):(bG o k).nodes=o.nodes:=by unfold bG;split<;>rfl
theorem UI (o:St) (n:Nat):(vS o n).nodes=o.nodes+1:=by
 unfold vS
 cases eC o.lv 110<;>rfl
theorem LG (o:St) (k:Nat):(lK o k).nodes=o.nodes+1:=by
 show (bG o k).nodes+1=_
 rw[LF]
theorem UJ (o:St) (k:Nat):LK (lK o k)=LK o++[o.nodes]:=by
 have e:LK (lK o k)=LK (bE (bG o k) k)++[o.nodes]:=by
  unfold LK lK
  simp only[List.map_append,List.map_cons,List.map_nil]
  rfl
 rw[e,vX,DU]
theorem aKM (o:St):LK (gC o)=(LK o).take (o.lv.length - 1):=by
 unfold LK gC
 simp only[]
 split
 ·rw[oH _ _ (tS _) (fun _=>rfl),List.map_take]
 ·rw[List.map_take]
theorem OU {o o':St} {l:List Nat} (h:LK o'=LK o++l):o'.lv.length=o.lv.length+l.length:=by rw[← oG,h,List.length_append,oG]
theorem aJN {t:List Nd} {o:St} {k a:Nat} {x:Nd} (h0:0<o.lv.length) (hn:o.nodes=a) (hx:t[a]?=some x):gS t (lK o k)=(a:Int)+x.size:=by
 have hs:=UJ o k
 have hl:=OU hs
 have:(cH (lK o k).lv).start=a:=by
  rw[aIP _ (by omega),hs,hl,List.getD_eq_getElem?_getD,List.getElem?_append_right (by rw[oG];simp),oG]
  simp[hn]
 unfold gS
 simp only[List.length_singleton]at hl
 rw[if_neg (by omega),this,List.getD_eq_getElem?_getD,hx]
 rfl
theorem aKN {t:List Nd} {a:Nat} (h:a≤t.length) {o:St} (h1:1<o.lv.length) (he:gS t o=(a:Int)):AW t a o=if jA o=true then AW t a (gC o) else none:=by
 rw[aCZ h,UE h1 he]
 by_cases hb:jA o=true
 ·rw[if_pos hb,if_pos hb,aCZ h]
 ·rw[if_neg hb,if_neg hb];rfl
def aGC (t:List Nd):Nat→Nat→Nat→St→Option St
 | 0,_,_,o=>some o
 | n+1,a,e,o=>if a<e then
   match t[a]? with
   | none=>none
   | some x =>
    if x.size<1∨(e:Int) - (a:Int)<x.size then none
    else if x.kind=46 then (if x.size=1∧tZ x.text=true∧pU o.lv 46=true then aGC t n (a+1) e (vS o x.text.size) else none)
    else if x.text.size=0∧pU o.lv x.kind=true then (aGC t n (a+1) (a+x.size.toNat) (lK o x.kind)).bind fun o2=>if jA o2=true then aGC t n (a+x.size.toNat) e (gC o2) else none
    else none
  else some o
theorem aL5 (t:List Nd):∀ n a e o,e - a≤n→a≤e→e≤t.length→0<o.lv.length→gS t o=(e:Int)→o.nodes=a →
  AW t a o=(aGC t n a e o).bind (AW t e)∧∀ o',aGC t n a e o=some o'→LK o'=LK o∧o'.nodes=e:=by
 intro n
 induction n with
 | zero =>
  intro a e o hn hae _ _ _ hno
  obtain rfl:a=e:=by omega
  exact⟨rfl,fun o' h=>by cases h;exact⟨rfl,hno⟩⟩
 | succ n ih =>
  intro a e o hn hae het h0 he hno
  rcases Nat.lt_or_ge a e with hlt | hge
  ·have hat:a<t.length:=by omega
   obtain⟨x,hx⟩:∃ x,t[a]?=some x:=⟨_,List.getElem?_eq_getElem hat⟩
   have hstep:AW t a o=(xG x (e:Int) a o).bind fun o2=>AW t (a+1) o2:=by
    rw[aCZ (by omega),xF h0 (fun h=>by rw[he]at h;omega)]
    show xH t a o=_
    unfold xH
    rw[hx,he]
   rw[hstep]
   unfold aGC xG
   rw[if_pos hlt,hx]
   simp only[]
   by_cases h1:x.size<1∨(e:Int) - (a:Int)<x.size
   ·rw[if_pos h1,if_pos h1]
    exact⟨rfl,fun o' h=>by cases h⟩
   rw[if_neg h1,if_neg h1]
   by_cases h46:x.kind=46
   ·rw[if_pos h46,if_pos h46]
    by_cases hc:x.size=1∧tZ x.text=true∧pU o.lv 46=true
    ·rw[if_pos hc,if_pos hc]
     have hl:(vS o x.text.size).lv.length=o.lv.length:=by rw[← oG,aC0,oG]
     obtain⟨i1,i2⟩:=ih (a+1) e (vS o x.text.size) (by omega) (by omega) het (by omega) ((aGV (aC0 _ _)).trans he) (by rw[UI];omega)
     refine⟨i1,fun o' h=>?_⟩
     obtain⟨j1,j2⟩:=i2 o' h
     exact⟨j1.trans (aC0 _ _),j2⟩
    ·rw[if_neg hc,if_neg hc]
     exact⟨rfl,fun o' h=>by cases h⟩
   ·rw[if_neg h46,if_neg h46]
    by_cases hc:x.text.size=0∧pU o.lv x.kind=true
    ·rw[if_pos hc,if_pos hc]
     obtain⟨m,hm⟩:∃ m:Nat,x.size=(m:Int):=⟨x.size.toNat,by omega⟩
     have hmt:x.size.toNat=m:=by omega
     rw[hmt]
     have hse:=UJ o x.kind
     have hle:=OU hse
     have hee:=aJN (k:=x.kind) h0 hno hx
     obtain⟨i1,i2⟩:=ih (a+1) (a+m) (lK o x.kind) (by omega) (by omega) (by omega) (by omega) (by rw[hee,hm];omega) (by rw[LG];omega)
     show AW t (a+1) (lK o x.kind)=_∧_
     rw[i1]
     cases hs2:aGC t n (a+1) (a+m) (lK o x.kind) with
     | none=>exact⟨rfl,fun o' h=>by cases h⟩
     | some o2 =>
      obtain⟨j1,j2⟩:=i2 o2 hs2
      have hl2:=OU (j1.trans hse)
      simp only[List.length_singleton]at hl2
      have he2:gS t o2=((a+m:Nat):Int):=by rw[aGV j1,hee,hm];omega
      show AW t (a+m) o2=_∧_
      rw[aKN (by omega) (by omega) he2]
      simp only[Option.bind_some]
      by_cases hb:jA o2=true
      ·rw[if_pos hb,if_pos hb]
       have hs3:LK (gC o2)=LK o:=by rw[aKM,j1,hse,hl2,Nat.add_sub_cancel,List.take_append_of_le_length (by rw[oG];omega),List.take_of_length_le (by rw[oG];omega)]
       have hl3:(gC o2).lv.length=o.lv.length:=by rw[← oG,hs3,oG]
       obtain⟨k1,k2⟩:=ih (a+m) e (gC o2) (by omega) (by omega) het (by omega) ((aGV hs3).trans he) j2
       refine⟨k1,fun o' h=>?_⟩
       obtain⟨l1,l2⟩:=k2 o' h
       exact⟨l1.trans hs3,l2⟩
      ·rw[if_neg hb,if_neg hb]
       exact⟨rfl,fun o' h=>by cases h⟩
    ·rw[if_neg hc,if_neg hc]
     exact⟨rfl,fun o' h=>by cases h⟩
  ·obtain rfl:a=e:=by omega
   unfold aGC
   rw[if_neg (by omega)]
   exact⟨rfl,fun o' h=>by cases h;exact⟨rfl,hno⟩⟩
def aGE (st:List Nd × List Op) (d b:Bool):List Lx.Lx→Option ((List Nd × List Op) × Bool × Bool)
 | []=>some (st,d,b)
 | x::l=>if (x.kind=1∧FQ st.2=false)∨(tO st.1 st.2 x).2=2 then none
  else aGE (ZE st x) (d || decide ((tO st.1 st.2 x).2=5)) (b || decide ((tO st.1 st.2 x).2=4)) l
theorem aHB:∀ l st d b,aFK st d b l=match aGE st d b l with | none=>2 | some r=>if r.2.1 then 5 else if r.2.2 then 4 else 0
 | [],st,d,b=>rfl
 | x::l,st,d,b=>by
  unfold aFK aGE
  by_cases h:(x.kind=1∧FQ st.2=false)∨(tO st.1 st.2 x).2=2
  ·rw[if_pos h,if_pos h]
  ·rw[if_neg h,if_neg h]
   exact aHB l _ _ _
theorem aDD (x:Lx.Lx) (l:List Lx.Lx) (st:List Nd × List Op) (d b:Bool):aGE st d b (x::l)=if (x.kind=1∧FQ st.2=false)∨(tO st.1 st.2 x).2=2 then none
  else aGE (ZE st x) (d || decide ((tO st.1 st.2 x).2=5)) (b || decide ((tO st.1 st.2 x).2=4)) l:=rfl
theorem aH0:∀ l m st d b,aGE st d b (l++m)=(aGE st d b l).bind fun r=>aGE r.1 r.2.1 r.2.2 m
 | [],m,st,d,b=>rfl
 | x::l,m,st,d,b=>by
  rw[List.cons_append,aDD,aDD]
  by_cases h:(x.kind=1∧FQ st.2=false)∨(tO st.1 st.2 x).2=2
  ·rw[if_pos h,if_pos h];rfl
  ·rw[if_neg h,if_neg h]
   exact aH0 l m _ _ _
structure aMY (a:Nat) (o:St) (r:(List Nd × List Op) × Bool × Bool):Prop where
 sim:aHA r.1.1 r.1.2 o
 at_:o.nodes=a
 deep:o.deep=r.2.1
 tR:o.deep=false→o.tR=r.2.2
def aIE (t:List Nd) (a e:Nat):Prop:=∀ i x,a≤i→i<e→t[i]?=some x→aEI x=true
theorem aL6 {a b:Nat} (h:rk a b≠0):b ∈ [49,50,51,112,108,116,107,46,101,115,110,105,114,99]:=by
 unfold rk at h
 split at h
 ·have:EC b ZF=true:=by
   cases hb:EC b ZF
   ·rw[hb]at h;simp at h
   ·rfl
  rcases aA5.1 this with e | e | e | e | e | e | e<;>subst e<;>decide
 ·have flow:EC b ZK=true→b ∈ [49,50,51,112,108,116,107,46,101,115,110,105,114,99]:=fun hb=>by
   rcases aCI.1 hb with e | e | e | e<;>subst e<;>decide
  by_cases hb:EC b ZK=true
  ·exact flow hb
  ·rw[if_neg hb,if_neg hb]at h
   repeat' split at h
   all_goals first | (exact absurd rfl h) | (subst_vars;decide)
theorem aLI {l:List Lv} {k:Nat} (h:pU l k=true) (h46:k≠46):(Lx.J3 k).size≠0:=by
 have hk:=aL6 (aJ3 h).1
 have:∀ b ∈ [49,50,51,112,108,116,107,46,101,115,110,105,114,99],b≠46→(Lx.J3 b).size≠0:=by decide +kernel
 exact this k hk h46
theorem aJO (s:ByteArray):tZ s=(decide (s.size≠0) && (Lx.aA s).all Lx.okT):=by
 unfold tZ
 congr 1
 have key:(Lx.aA s).all Lx.okT=true↔∀ i,i<s.size→Lx.okT (Lx.aV s i)=true:=by
  rw[List.all_eq_true]
  constructor
  ·intro h i hi
   refine h _ ?_
   unfold Lx.aV
   rw[List.getD_eq_getElem?_getD,List.getElem?_eq_getElem (by rw[Lx.aD];exact hi)]
   exact List.getElem_mem _
  ·intro h b hb
   obtain⟨i,hi,rfl⟩:=List.mem_iff_getElem.1 hb
   have:=h i (by rw[Lx.aD]at hi;exact hi)
   unfold Lx.aV at this
   rw[List.getD_eq_getElem?_getD,List.getElem?_eq_getElem hi]at this
   exact this
 by_cases hb:∀ i,i<s.size→Lx.okT (Lx.aV s i)=true
 ·rw[key.2 hb,UB (f:=mK) (fun j hj=>by unfold mK;rw[hb j hj];rfl)]
  simp
 ·have h1:(Lx.aA s).all Lx.okT=false:=by
   cases h:(Lx.aA s).all Lx.okT
   ·rfl
   ·exact absurd (key.1 h) hb
  rw[h1]
  have hlt:l8 mK s<s.size:=by
   unfold l8
   cases hf:(List.range s.size).find? fun i=>mK (Lx.aV s i) with
   | none =>
    exfalso
    apply hb
    intro i hi
    have:=List.find?_eq_none.1 hf i (List.mem_range.2 hi)
    unfold mK at this
    simpa using this
   | some j=>exact List.mem_range.1 (List.mem_of_find?_eq_some hf)
  simp
  omega
theorem aHJ {x:Nd} (h:x.kind=46):aEI x=tZ x.text:=by
 rw[aJO]
 unfold aEI
 rw[if_pos h]
theorem aJB {x:Nd} (h:x.kind≠46) (hx:aEI x=true):x.text.size=0:=by
 unfold aEI at hx
 rw[if_neg h]at hx
 simp at hx
 rw[hx.1.1];rfl
theorem aJP {x:Nd} {l:List Lv} (h:x.kind≠46) (h0:x.text.size=0) (hm:pU l x.kind=true):aEI x=true:=by
 unfold aEI
 rw[if_neg h]
 have e1:Lx.aA x.text=[]:=List.eq_nil_of_length_eq_zero (by rw[Lx.aD];exact h0)
 rw[e1]
 simp[h0,aLI hm h]
theorem aIE.sub {t:List Nd} {a e a' e':Nat} (h:aIE t a e) (h1:a≤a') (h2:e'≤e):aIE t a' e':=fun i x hi hj hx=>h i x (by omega) (by omega) hx
theorem aL7 (t:List Nd) (hk:∀ x ∈ t,x.kind<256):∀ n a e o r,e - a≤n→a≤e→e≤t.length→aMY a o r →
  (∀ o',aGC t n a e o=some o'→aIE t a e∧∃ l r',evF t n a e=some l∧aGE r.1 r.2.1 r.2.2 l=some r'∧aMY e o' r') ∧
  (aGC t n a e o=none→aIE t a e→∀ l,evF t n a e=some l→aGE r.1 r.2.1 r.2.2 l=none):=by
 intro n
 induction n with
 | zero =>
  intro a e o r hn hae _ hs
  obtain rfl:a=e:=by omega
  refine⟨fun o' h=>?_,fun h=>by cases h⟩
  cases h
  refine⟨fun i x hi hj=>by omega,[],r,?_,rfl,hs⟩
  unfold evF;rw[if_neg (by omega)]
 | succ n ih =>
  intro a e o r hn hae het hs
  rcases Nat.lt_or_ge a e with hlt | hge
  ·have hat:a<t.length:=by omega
   obtain⟨x,hx⟩:∃ x,t[a]?=some x:=⟨_,List.getElem?_eq_getElem hat⟩
   have hx256:x.kind<256:=hk x (List.mem_of_getElem? hx)
   have hse:aGC t (n+1) a e o=(if x.size<1∨(e:Int) - (a:Int)<x.size then none
     else if x.kind=46 then (if x.size=1∧tZ x.text=true∧pU o.lv 46=true then aGC t n (a+1) e (vS o x.text.size) else none)
     else if x.text.size=0∧pU o.lv x.kind=true then (aGC t n (a+1) (a+x.size.toNat) (lK o x.kind)).bind fun o2=>if jA o2=true then aGC t n (a+x.size.toNat) e (gC o2) else none
     else none):=by
    conv=>lhs;unfold aGC
    rw[if_pos hlt,hx]
   have hev:evF t (n+1) a e=(if x.size<1∨(e:Int)<(a:Int)+x.size then none
     else if x.kind=46 then (if x.size=1 then (evF t n (a+1) e).map (txL x.text::·) else none)
     else (evF t n (a+1) (a+x.size.toNat)).bind fun M=>(evF t n (a+x.size.toNat) e).map fun R=>opL x.kind::(M++clL::R)):=by
    conv=>lhs;unfold evF
    rw[if_pos hlt,hx]
   rw[hse,hev]
   by_cases h1:x.size<1∨(e:Int) - (a:Int)<x.size
   ·have h1':x.size<1∨(e:Int)<(a:Int)+x.size:=by omega
    rw[if_pos h1,if_pos h1']
    exact⟨fun o' h=>(by cases h),fun _ _ l h=>(by cases h)⟩
   have h1':¬ (x.size<1∨(e:Int)<(a:Int)+x.size):=by omega
   rw[if_neg h1,if_neg h1']
   by_cases h46:x.kind=46
   ·rw[if_pos h46,if_pos h46]
    by_cases hz:x.size=1
    ·rw[if_pos hz]
     by_cases hT:tZ x.text=true
     ·have hm:pU o.lv 46=FQ r.1.2:=hs.sim.rel.texts
      cases ht:FQ r.1.2
      ·rw[if_neg (by rw[hm,ht];simp)]
       refine⟨fun o' h=>(by cases h),fun _ _ l hl=>?_⟩
       cases hev2:evF t n (a+1) e with
       | none=>rw[hev2]at hl;cases hl
       | some l2 =>
        rw[hev2]at hl;cases hl
        rw[aDD,if_pos (.inl ⟨rfl,ht⟩)]
      ·rw[if_pos ⟨hz,hT,by rw[hm,ht]⟩]
       obtain⟨s1,s2,s3,s4⟩:=hs.sim.text 0 x.text 0 ht
       have hbad:¬ (((txL x.text).kind=1∧FQ r.1.2=false)∨(tO r.1.1 r.1.2 (txL x.text)).2=2):=by
        rintro(⟨_,h⟩ | h)
        ·rw[ht]at h;cases h
        ·have h':(tO r.1.1 r.1.2 ⟨1,0,x.text,0⟩).2=2:=h
         omega
       have hrun:∀ l,aGE r.1 r.2.1 r.2.2 (txL x.text::l)=aGE (ZE r.1 (txL x.text)) (r.2.1 || decide ((tO r.1.1 r.1.2 (txL x.text)).2=5)) (r.2.2 || decide ((tO r.1.1 r.1.2 (txL x.text)).2=4)) l:=fun l=>by rw[aDD,if_neg hbad]
       obtain⟨i1,i2⟩:=ih (a+1) e (vS o x.text.size) (ZE r.1 (txL x.text),r.2.1 || decide ((tO r.1.1 r.1.2 (txL x.text)).2=5),r.2.2 || decide ((tO r.1.1 r.1.2 (txL x.text)).2=4)) (by omega) (by omega) het
        ⟨s1,by rw[UI,hs.at_],by
         show (vS o x.text.size).deep=(r.2.1 || decide ((tO r.1.1 r.1.2 ⟨1,0,x.text,0⟩).2=5))
         rw[s2,hs.deep,decide_eq_false (by omega),Bool.or_false],fun hd=>by
         show (vS o x.text.size).tR=(r.2.2 || decide ((tO r.1.1 r.1.2 ⟨1,0,x.text,0⟩).2=4))
         rw[s3,hs.tR (by rw[← s2];exact hd)]⟩
       refine⟨fun o' h=>?_,fun h hok l hl=>?_⟩
       ·obtain⟨j1,l,r',j2,j3,j4⟩:=i1 o' h
        refine⟨fun i y hi hj hy=>?_,txL x.text::l,r',by rw[j2];rfl,by rw[hrun];exact j3,j4⟩
        rcases Nat.eq_or_lt_of_le hi with e1 | e1
        ·subst e1;rw[hx]at hy;cases hy
         rw[aHJ h46];exact hT
        ·exact j1 i y (by omega) hj hy
       ·cases hev2:evF t n (a+1) e with
        | none=>rw[hev2]at hl;cases hl
        | some l2 =>
         rw[hev2]at hl;cases hl
         rw[hrun]
         exact i2 h (hok.sub (by omega) (Nat.le_refl _)) l2 hev2
     ·rw[if_neg (fun e=>hT e.2.1)]
      refine⟨fun o' h=>(by cases h),fun _ hok=>?_⟩
      have:=hok a x (Nat.le_refl _) hlt hx
      rw[aHJ h46]at this
      exact absurd this hT
    ·rw[if_neg hz,if_neg (fun e=>hz e.1)]
     exact⟨fun o' h=>(by cases h),fun _ _ l h=>(by cases h)⟩
   ·rw[if_neg h46,if_neg h46]
    by_cases h0:x.text.size=0
    ·have hm:pU o.lv x.kind=aEJ r.1.2 x.kind:=hs.sim.rel.opens h46
     cases ho:aEJ r.1.2 x.kind
     ·rw[if_neg (by rw[hm,ho];simp)]
      refine⟨fun o' h=>(by cases h),fun _ _ l hl=>?_⟩
      have hb:(tO r.1.1 r.1.2 (opL x.kind)).2=2:=by
       unfold tO opL
       simp only[]
       rw[if_neg (by decide),if_pos True.intro,if_pos ho]
      cases hev2:evF t n (a+1) (a+x.size.toNat) with
      | none=>rw[hev2]at hl;cases hl
      | some M =>
       rw[hev2]at hl
       cases hev3:evF t n (a+x.size.toNat) e with
       | none=>rw[hev3]at hl;cases hl
       | some R =>
        rw[hev3]at hl;cases hl
        rw[aDD,if_pos (.inr hb)]
     ·have hmt:pU o.lv x.kind=true:=by rw[hm,ho]
      rw[if_pos ⟨h0,hmt⟩]
      obtain⟨m,hmm⟩:∃ m:Nat,x.size=(m:Int):=⟨x.size.toNat,by omega⟩
      rw[show x.size.toNat=m from by omega]
      obtain⟨s1,s2,s3,s4⟩:=hs.sim.open cJ 0 hx256 h46 ho
      have hbad:¬ (((opL x.kind).kind=1∧FQ r.1.2=false)∨(tO r.1.1 r.1.2 (opL x.kind)).2=2):=by
       rintro(⟨h,_⟩ | h)
       ·cases h
       ·have h':(tO r.1.1 r.1.2 ⟨2,x.kind,cJ,0⟩).2=2:=h
        omega
      have hrun:∀ l,aGE r.1 r.2.1 r.2.2 (opL x.kind::l)=aGE (ZE r.1 (opL x.kind)) (r.2.1 || decide ((tO r.1.1 r.1.2 (opL x.kind)).2=5)) (r.2.2 || decide ((tO r.1.1 r.1.2 (opL x.kind)).2=4)) l:=fun l=>by rw[aDD,if_neg hbad]
      obtain⟨i1,i2⟩:=ih (a+1) (a+m) (lK o x.kind) (ZE r.1 (opL x.kind),r.2.1 || decide ((tO r.1.1 r.1.2 (opL x.kind)).2=5),r.2.2 || decide ((tO r.1.1 r.1.2 (opL x.kind)).2=4)) (by omega) (by omega) (by omega)
       ⟨s1,by rw[LG,hs.at_],by
        show (lK o x.kind).deep=(r.2.1 || decide ((tO r.1.1 r.1.2 ⟨2,x.kind,cJ,0⟩).2=5))
        rw[s2,hs.deep],fun hd=>by
        show (lK o x.kind).tR=(r.2.2 || decide ((tO r.1.1 r.1.2 ⟨2,x.kind,cJ,0⟩).2=4))
        have hd':=hd
        rw[s2]at hd'
        rw[s3 hd,hs.tR (by cases h:o.deep<;>simp_all)]⟩
      cases hg:aGC t n (a+1) (a+m) (lK o x.kind) with
      | none =>
       refine⟨fun o' h=>(by cases h),fun _ hok l hl=>?_⟩
       cases hev2:evF t n (a+1) (a+m) with
       | none=>rw[hev2]at hl;cases hl
       | some M =>
        rw[hev2]at hl
        cases hev3:evF t n (a+m) e with
        | none=>rw[hev3]at hl;cases hl
        | some R =>
         rw[hev3]at hl;cases hl
         rw[hrun,aH0,i2 hg (hok.sub (by omega) (by omega)) M hev2]
         rfl
      | some o2 =>
       obtain⟨j1,M,r3,j2,j3,j4⟩:=i1 o2 hg
       simp only[Option.bind_some]
       obtain⟨c1,c2,c3⟩:=j4.sim.close 0 cJ 0
       have hM:∀ R,aGE r.1 r.2.1 r.2.2 (opL x.kind::(M++clL::R))=aGE r3.1 r3.2.1 r3.2.2 (clL::R):=fun R=>by rw[hrun,aH0,j3];rfl
       by_cases hb:jA o2=true
       ·rw[if_pos hb]
        have he0:(tO r3.1.1 r3.1.2 clL).2=0:=c1.1 hb
        have hbad3:¬ ((clL.kind=1∧FQ r3.1.2=false)∨(tO r3.1.1 r3.1.2 clL).2=2):=by
         rintro(⟨h,_⟩ | h)
         ·cases h
         ·omega
        have hrun3:∀ R,aGE r3.1 r3.2.1 r3.2.2 (clL::R)=aGE (ZE r3.1 clL) r3.2.1 r3.2.2 R:=fun R=>by
         rw[aDD,if_neg hbad3,he0]
         simp
        obtain⟨k1,k2⟩:=ih (a+m) e (gC o2) (ZE r3.1 clL,r3.2.1,r3.2.2) (by omega) (by omega) het ⟨c3 hb,j4.at_,j4.deep,j4.tR⟩
        refine⟨fun o' h=>?_,fun h hok l hl=>?_⟩
        ·obtain⟨l1,R,r',l2,l3,l4⟩:=k1 o' h
         refine⟨fun i y hi hj hy=>?_,opL x.kind::(M++clL::R),r',by rw[j2,l2];rfl,by rw[hM,hrun3];exact l3,l4⟩
         rcases Nat.eq_or_lt_of_le hi with e1 | e1
         ·subst e1;rw[hx]at hy;cases hy
          exact aJP h46 h0 hmt
         ·rcases Nat.lt_or_ge i (a+m)with e2 | e2
          ·exact j1 i y (by omega) e2 hy
          ·exact l1 i y e2 hj hy
        ·rw[j2]at hl
         cases hev3:evF t n (a+m) e with
         | none=>rw[hev3]at hl;cases hl
         | some R =>
          rw[hev3]at hl;cases hl
          rw[hM,hrun3]
          exact k2 h (hok.sub (by omega) (Nat.le_refl _)) R hev3
       ·rw[if_neg hb]
        refine⟨fun o' h=>(by cases h),fun _ hok l hl=>?_⟩
        have he2:(tO r3.1.1 r3.1.2 clL).2=2:=by
         rcases c2 with c2 | c2
         ·exact absurd (c1.2 c2) hb
         ·show (tO r3.1.1 r3.1.2 ⟨3,0,cJ,0⟩).2=2
          rw[c2]
        rw[j2]at hl
        cases hev3:evF t n (a+m) e with
        | none=>rw[hev3]at hl;cases hl
        | some R =>
         rw[hev3]at hl;cases hl
         rw[hM,aDD,if_pos (.inr he2)]
    ·rw[if_neg (fun e=>h0 e.1)]
     refine⟨fun o' h=>(by cases h),fun _ hok=>?_⟩
     exact absurd (aJB h46 (hok a x (Nat.le_refl _) hlt hx)) h0
  ·obtain rfl:a=e:=by omega
   have h1:aGC t (n+1) a a o=some o:=by unfold aGC;rw[if_neg (by omega)]
   have h2:evF t (n+1) a a=some []:=by unfold evF;rw[if_neg (by omega)]
   rw[h1,h2]
   refine⟨fun o' h=>?_,fun h=>by cases h⟩
   cases h
   exact⟨fun i x hi hj=>by omega,[],r,rfl,rfl,hs⟩
theorem aIF (t:List Nd):aIE t 0 t.length↔t.all aEI=true:=by
 rw[List.all_eq_true]
 constructor
 ·intro h x hx
  obtain⟨i,hi,rfl⟩:=List.mem_iff_getElem.1 hx
  exact h i _ (by omega) hi (List.getElem?_eq_getElem hi)
 ·intro h i x _ _ hx
  exact h x (List.mem_of_getElem? hx)
theorem aKG (t:List Nd) (hk:∀ x ∈ t,x.kind<256):jW t=NN t:=by
 have he0:gS t st0=(t.length:Int):=rfl
 obtain⟨a1,a2⟩:=aL5 t t.length 0 t.length st0 (by omega) (by omega) (Nat.le_refl _) (by decide) he0 rfl
 obtain⟨b1,b2⟩:=aL7 t hk t.length 0 t.length st0 (([],[root]),false,false) (by omega) (by omega) (Nat.le_refl _) ⟨aHA.start,rfl,rfl,fun _=>rfl⟩
 unfold jW NN evA
 rw[a1,Nat.sub_zero]
 cases hg:aGC t t.length 0 t.length st0 with
 | none =>
  show 2=_
  by_cases hok:t.all aEI=false
  ·rw[if_pos hok]
  ·rw[if_neg hok]
   have hok':=(aIF t).2 (by simpa using hok)
   cases hev:evF t t.length 0 t.length with
   | none=>rfl
   | some l =>
    show 2=aFK ([],[root]) false false l
    rw[aHB,b2 hg hok' l hev]
 | some o =>
  obtain⟨c1,l,r,c2,c3,c4⟩:=b1 o hg
  obtain⟨d1,d2⟩:=a2 o hg
  have hl:o.lv.length=1:=by rw[← oG,d1];rfl
  simp only[Option.bind_some]
  rw[aCZ (Nat.le_refl _),xF (by omega) (fun h=>by omega)]
  simp only[Option.bind_some]
  have hr:xH t t.length o=some o:=by unfold xH;rw[List.getElem?_eq_none (Nat.le_refl _)]
  rw[hr,if_neg (by rw[(aIF t).1 c1];simp),c2]
  show tT o=aFK ([],[root]) false false l
  rw[aHB,c3]
  unfold tT
  show _=if r.2.1=true then 5 else if r.2.2=true then 4 else 0
  rw[← c4.deep]
  cases hd:o.deep
  ·rw[← c4.tR hd]
  ·rfl
end Go.Proofs.YthbigkoihpgcfaaGreatDoor.Tr
