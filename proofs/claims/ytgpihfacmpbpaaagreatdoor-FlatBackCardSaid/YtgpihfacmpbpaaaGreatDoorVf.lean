/-
  Put together: TsZ, TtA.
-/
import Derived.Test.YtgpihfacmpbpaaaGreatDoorTsY
import Derived.Test.YtgpihfacmpbpaaaGreatDoorVd
namespace Go.Proofs.YtgpihfacmpbpaaaGreatDoor.Tr
open Go.RowKit
def aBJ (t:List Nd):Nat→Nat→St→Option St
 | 0,a,o=>jT t (a:Int) o.lv.length o
 | f+1,a,o=>(jT t (a:Int) o.lv.length o).bind fun o1=>match t[a]? with
  | none=>none
  | some x=>(tU x (gF t o1) a o1).bind fun o2=>aBJ t f (a+1) o2
def qJ (t:List Nd) (a:Nat) (o:St):Option St:=aBJ t (t.length - a) a o
def GP (t:List Nd):Nat:=match qJ t 0 KI with | none=>2 | some o=>fO o
def qU (t:List Nd) (a:Nat) (o1:St):Option St:=match t[a]? with | none=>some o1 | some x=>(tU x (gF t o1) a o1).bind fun o2=>qJ t (a+1) o2
theorem wG {t:List Nd} {a:Nat} (h:a≤t.length) (o:St):qJ t a o=(jT t (a:Int) o.lv.length o).bind (qU t a):=by
 unfold qJ
 rcases Nat.lt_or_ge a t.length with h1 | h1
 ·obtain⟨f,hf⟩:∃ f,t.length - a=f+1:=⟨t.length - a - 1,by omega⟩
  rw[hf]
  unfold aBJ
  congr 1
  funext o1
  unfold qU
  rw[List.getElem?_eq_getElem h1]
  simp only[]
  congr 1
  funext o2
  unfold qJ
  rw[show t.length - (a+1)=f from by omega]
 ·obtain rfl:a=t.length:=by omega
  rw[Nat.sub_self]
  unfold aBJ
  cases jT t (t.length:Int) o.lv.length o with
  | none=>rfl
  | some o1 =>
   show some o1=qU t t.length o1
   unfold qU
   rw[List.getElem?_eq_none (Nat.le_refl _)]
def yD (o:St):List Nat:=o.lv.map (·.start)
theorem eZ (o:St):(yD o).length=o.lv.length:=List.length_map _
theorem GQ (o:St) (h:0<o.lv.length):(aT o.lv).start=(yD o).getD (o.lv.length - 1) 0:=by
 unfold aT yD
 rw[List.getD_eq_getElem?_getD,List.getD_eq_getElem?_getD,List.getElem?_map,List.getElem?_eq_getElem (by omega)]
 rfl
theorem uT {t:List Nd} {o o':St} (h:yD o'=yD o):gF t o'=gF t o:=by
 have hl:o'.lv.length=o.lv.length:=by rw[← eZ,h,eZ]
 unfold gF
 by_cases h1:o.lv.length≤1
 ·rw[if_pos h1,if_pos (by omega)]
 ·rw[if_neg h1,if_neg (by omega),GQ o (by omega),GQ o' (by omega),h,hl]
theorem l7 (l:List Lv) (j:Nat) (f:Lv→Lv) (hf:∀ b,(f b).start=b.start):(l.modify j f).map (·.start)=l.map (·.start):=by
 apply List.ext_getElem?
 intro i
 rw[List.getElem?_map,List.getElem?_map,List.getElem?_modify]
 cases l[i]? with
 | none=>rfl
 | some x=>by_cases h:j=i<;>simp[h,hf]
theorem yE (o:St) (k:Nat):yD (bB o k)=yD o:=l7 _ _ _ fun _=>rfl
theorem AH (o:St) (n:Nat):yD (kP o n)=yD o:=by
 unfold kP
 cases cX o.lv 110 with
 | none=>exact yE o 46
 | some i =>
  show ((bB o 46).lv.modify i (lB n)).map (·.start)=_
  exact(l7 _ i (lB n) fun _=>rfl).trans (yE o 46)
theorem E6 (o:St) (k:Nat):yD (bD o k)=yD o:=by
 unfold bD
 split
 ·exact l7 _ _ _ fun _=>rfl
 ·rfl
theorem LC (o:St) (k:Nat):(bD o k).nodes=o.nodes:=by unfold bD;split<;>rfl
theorem yF (o:St) (n:Nat):(kP o n).nodes=o.nodes+1:=by
 unfold kP
 cases cX o.lv 110<;>rfl
theorem sH (o:St) (k:Nat):(cQ o k).nodes=o.nodes+1:=by
 show (bD o k).nodes+1=_
 rw[LC]
theorem yG (o:St) (k:Nat):yD (cQ o k)=yD o++[o.nodes]:=by
 have e:yD (cQ o k)=yD (bB (bD o k) k)++[o.nodes]:=by
  unfold yD cQ
  simp only[List.map_append,List.map_cons,List.map_nil]
  rfl
 rw[e,yE,E6]
theorem TK (o:St):yD (cY o)=(yD o).take (o.lv.length - 1):=by
 unfold yD cY
 simp only[]
 split
 ·rw[l7 _ _ (oZ _) (fun _=>rfl),List.map_take]
 ·rw[List.map_take]
theorem qK {o o':St} {l:List Nat} (h:yD o'=yD o++l):o'.lv.length=o.lv.length+l.length:=by rw[← eZ,h,List.length_append,eZ]
theorem N5 {t:List Nd} {o:St} {k a:Nat} {x:Nd} (h0:0<o.lv.length) (hn:o.nodes=a) (hx:t[a]?=some x):gF t (cQ o k)=(a:Int)+x.size:=by
 have hs:=yG o k
 have hl:=qK hs
 have:(aT (cQ o k).lv).start=a:=by
  rw[GQ _ (by omega),hs,hl,List.getD_eq_getElem?_getD,List.getElem?_append_right (by rw[eZ];simp),eZ]
  simp[hn]
 unfold gF
 simp only[List.length_singleton]at hl
 rw[if_neg (by omega),this,List.getD_eq_getElem?_getD,hx]
 rfl
theorem TL {t:List Nd} {a:Nat} (h:a≤t.length) {o:St} (h1:1<o.lv.length) (he:gF t o=(a:Int)):qJ t a o=if dG o=true then qJ t a (cY o) else none:=by
 rw[wG h,E5 h1 he]
 by_cases hb:dG o=true
 ·rw[if_pos hb,if_pos hb,wG h]
 ·rw[if_neg hb,if_neg hb];rfl
def qL (t:List Nd):Nat→Nat→Nat→St→Option St
 | 0,_,_,o=>some o
 | n+1,a,e,o=>if a<e then
   match t[a]? with
   | none=>none
   | some x =>
    if x.size<1∨(e:Int) - (a:Int)<x.size then none
    else if x.kind=46 then (if x.size=1∧jK x.text=true∧fR o.lv 46=true then qL t n (a+1) e (kP o x.text.size) else none)
    else if x.text.size=0∧fR o.lv x.kind=true then (qL t n (a+1) (a+x.size.toNat) (cQ o x.kind)).bind fun o2=>if dG o2=true then qL t n (a+x.size.toNat) e (cY o2) else none
    else none
  else some o
theorem aBK (t:List Nd):∀ n a e o,e - a≤n→a≤e→e≤t.length→0<o.lv.length→gF t o=(e:Int)→o.nodes=a →
  qJ t a o=(qL t n a e o).bind (qJ t e)∧∀ o',qL t n a e o=some o'→yD o'=yD o∧o'.nodes=e:=by
 intro n
 induction n with
 | zero =>
  intro a e o hn hae _ _ _ hno
  obtain rfl:a=e:=by omega
  exact⟨rfl,fun o' h=>by cases h;exact⟨rfl,hno⟩⟩
 | succ n ih =>
  intro a e o hn hae het h0 he hno
  rcases Nat.lt_or_ge a e with hlt | hge
  ·have hat:a<t.length:=by omega
   obtain⟨x,hx⟩:∃ x,t[a]?=some x:=⟨_,List.getElem?_eq_getElem hat⟩
   have hstep:qJ t a o=(tU x (e:Int) a o).bind fun o2=>qJ t (a+1) o2:=by
    rw[wG (by omega),nT h0 (fun h=>by rw[he]at h;omega)]
    show qU t a o=_
    unfold qU
    rw[hx,he]
   rw[hstep]
   unfold qL tU
   rw[if_pos hlt,hx]
   simp only[]
   by_cases h1:x.size<1∨(e:Int) - (a:Int)<x.size
   ·rw[if_pos h1,if_pos h1]
    exact⟨rfl,fun o' h=>by cases h⟩
   rw[if_neg h1,if_neg h1]
   by_cases h46:x.kind=46
   ·rw[if_pos h46,if_pos h46]
    by_cases hc:x.size=1∧jK x.text=true∧fR o.lv 46=true
    ·rw[if_pos hc,if_pos hc]
     have hl:(kP o x.text.size).lv.length=o.lv.length:=by rw[← eZ,AH,eZ]
     obtain⟨i1,i2⟩:=ih (a+1) e (kP o x.text.size) (by omega) (by omega) het (by omega) ((uT (AH _ _)).trans he) (by rw[yF];omega)
     refine⟨i1,fun o' h=>?_⟩
     obtain⟨j1,j2⟩:=i2 o' h
     exact⟨j1.trans (AH _ _),j2⟩
    ·rw[if_neg hc,if_neg hc]
     exact⟨rfl,fun o' h=>by cases h⟩
   ·rw[if_neg h46,if_neg h46]
    by_cases hc:x.text.size=0∧fR o.lv x.kind=true
    ·rw[if_pos hc,if_pos hc]
     obtain⟨m,hm⟩:∃ m:Nat,x.size=(m:Int):=⟨x.size.toNat,by omega⟩
     have hmt:x.size.toNat=m:=by omega
     rw[hmt]
     have hse:=yG o x.kind
     have hle:=qK hse
     have hee:=N5 (k:=x.kind) h0 hno hx
     obtain⟨i1,i2⟩:=ih (a+1) (a+m) (cQ o x.kind) (by omega) (by omega) (by omega) (by omega) (by rw[hee,hm];omega) (by rw[sH];omega)
     show qJ t (a+1) (cQ o x.kind)=_∧_
     rw[i1]
     cases hs2:qL t n (a+1) (a+m) (cQ o x.kind) with
     | none=>exact⟨rfl,fun o' h=>by cases h⟩
     | some o2 =>
      obtain⟨j1,j2⟩:=i2 o2 hs2
      have hl2:=qK (j1.trans hse)
      simp only[List.length_singleton]at hl2
      have he2:gF t o2=((a+m:Nat):Int):=by rw[uT j1,hee,hm];omega
      show qJ t (a+m) o2=_∧_
      rw[TL (by omega) (by omega) he2]
      simp only[Option.bind_some]
      by_cases hb:dG o2=true
      ·rw[if_pos hb,if_pos hb]
       have hs3:yD (cY o2)=yD o:=by rw[TK,j1,hse,hl2,Nat.add_sub_cancel,List.take_append_of_le_length (by rw[eZ];omega),List.take_of_length_le (by rw[eZ];omega)]
       have hl3:(cY o2).lv.length=o.lv.length:=by rw[← eZ,hs3,eZ]
       obtain⟨k1,k2⟩:=ih (a+m) e (cY o2) (by omega) (by omega) het (by omega) ((uT hs3).trans he) j2
       refine⟨k1,fun o' h=>?_⟩
       obtain⟨l1,l2⟩:=k2 o' h
       exact⟨l1.trans hs3,l2⟩
      ·rw[if_neg hb,if_neg hb]
       exact⟨rfl,fun o' h=>by cases h⟩
    ·rw[if_neg hc,if_neg hc]
     exact⟨rfl,fun o' h=>by cases h⟩
  ·obtain rfl:a=e:=by omega
   unfold qL
   rw[if_neg (by omega)]
   exact⟨rfl,fun o' h=>by cases h;exact⟨rfl,hno⟩⟩
def qZ (st:List Nd × List Op) (d b:Bool):List Lx.Lx→Option ((List Nd × List Op) × Bool × Bool)
 | []=>some (st,d,b)
 | x::l=>if (x.kind=1∧aJ st.2=false)∨(aD st.1 st.2 x).2=2 then none
  else qZ (aE st x) (d || decide ((aD st.1 st.2 x).2=5)) (b || decide ((aD st.1 st.2 x).2=4)) l
theorem yH:∀ l st d b,oB st d b l=match qZ st d b l with | none=>2 | some r=>if r.2.1 then 5 else if r.2.2 then 4 else 0
 | [],st,d,b=>rfl
 | x::l,st,d,b=>by
  unfold oB qZ
  by_cases h:(x.kind=1∧aJ st.2=false)∨(aD st.1 st.2 x).2=2
  ·rw[if_pos h,if_pos h]
  ·rw[if_neg h,if_neg h]
   exact yH l _ _ _
theorem j6 (x:Lx.Lx) (l:List Lx.Lx) (st:List Nd × List Op) (d b:Bool):qZ st d b (x::l)=if (x.kind=1∧aJ st.2=false)∨(aD st.1 st.2 x).2=2 then none
  else qZ (aE st x) (d || decide ((aD st.1 st.2 x).2=5)) (b || decide ((aD st.1 st.2 x).2=4)) l:=rfl
theorem CW:∀ l m st d b,qZ st d b (l++m)=(qZ st d b l).bind fun r=>qZ r.1 r.2.1 r.2.2 m
 | [],m,st,d,b=>rfl
 | x::l,m,st,d,b=>by
  rw[List.cons_append,j6,j6]
  by_cases h:(x.kind=1∧aJ st.2=false)∨(aD st.1 st.2 x).2=2
  ·rw[if_pos h,if_pos h];rfl
  ·rw[if_neg h,if_neg h]
   exact CW l m _ _ _
structure aER (a:Nat) (o:St) (r:(List Nd × List Op) × Bool × Bool):Prop where
 sim:sG r.1.1 r.1.2 o
 at_:o.nodes=a
 deep:o.deep=r.2.1
 fM:o.deep=false→o.fM=r.2.2
def E7 (t:List Nd) (a e:Nat):Prop:=∀ i x,a≤i→i<e→t[i]?=some x→bO x=true
theorem aBL {a b:Nat} (h:rk a b≠0):b ∈ [49,50,51,112,108,116,107,46,101,115,110,105,114,99]:=by
 unfold rk at h
 split at h
 ·have:cM b kX=true:=by
   cases hb:cM b kX
   ·rw[hb]at h;simp at h
   ·rfl
  rcases yC.1 this with e | e | e | e | e | e | e<;>subst e<;>decide
 ·have flow:cM b jQ=true→b ∈ [49,50,51,112,108,116,107,46,101,115,110,105,114,99]:=fun hb=>by
   rcases jS.1 hb with e | e | e | e<;>subst e<;>decide
  by_cases hb:cM b jQ=true
  ·exact flow hb
  ·rw[if_neg hb,if_neg hb]at h
   repeat' split at h
   all_goals first | (exact absurd rfl h) | (subst_vars;decide)
theorem YC {l:List Lv} {k:Nat} (h:fR l k=true) (h46:k≠46):(Lx.bE k).size≠0:=by
 have hk:=aBL (PW h).1
 have:∀ b ∈ [49,50,51,112,108,116,107,46,101,115,110,105,114,99],b≠46→(Lx.bE b).size≠0:=by decide +kernel
 exact this k hk h46
theorem N6 (s:ByteArray):jK s=(decide (s.size≠0) && (Lx.aH s).all Lx.jD):=by
 unfold jK
 congr 1
 have key:(Lx.aH s).all Lx.jD=true↔∀ i,i<s.size→Lx.jD (Lx.bT s i)=true:=by
  rw[List.all_eq_true]
  constructor
  ·intro h i hi
   refine h _ ?_
   unfold Lx.bT
   rw[List.getD_eq_getElem?_getD,List.getElem?_eq_getElem (by rw[Lx.bL];exact hi)]
   exact List.getElem_mem _
  ·intro h b hb
   obtain⟨i,hi,rfl⟩:=List.mem_iff_getElem.1 hb
   have:=h i (by rw[Lx.bL]at hi;exact hi)
   unfold Lx.bT at this
   rw[List.getD_eq_getElem?_getD,List.getElem?_eq_getElem hi]at this
   exact this
 by_cases hb:∀ i,i<s.size→Lx.jD (Lx.bT s i)=true
 ·rw[key.2 hb,xZ (f:=jR) (fun j hj=>by unfold jR;rw[hb j hj];rfl)]
  simp
 ·have h1:(Lx.aH s).all Lx.jD=false:=by
   cases h:(Lx.aH s).all Lx.jD
   ·rfl
   ·exact absurd (key.1 h) hb
  rw[h1]
  have hlt:tK jR s<s.size:=by
   unfold tK
   cases hf:(List.range s.size).find? fun i=>jR (Lx.bT s i) with
   | none =>
    exfalso
    apply hb
    intro i hi
    have:=List.find?_eq_none.1 hf i (List.mem_range.2 hi)
    unfold jR at this
    simpa using this
   | some j=>exact List.mem_range.1 (List.mem_of_find?_eq_some hf)
  simp
  omega
theorem zL {x:Nd} (h:x.kind=46):bO x=jK x.text:=by
 rw[N6]
 unfold bO
 rw[if_pos h]
theorem LD {x:Nd} (h:x.kind≠46) (hx:bO x=true):x.text.size=0:=by
 unfold bO at hx
 rw[if_neg h]at hx
 simp at hx
 rw[hx.1.1];rfl
theorem N7 {x:Nd} {l:List Lv} (h:x.kind≠46) (h0:x.text.size=0) (hm:fR l x.kind=true):bO x=true:=by
 unfold bO
 rw[if_neg h]
 have e1:Lx.aH x.text=[]:=List.eq_nil_of_length_eq_zero (by rw[Lx.bL];exact h0)
 rw[e1]
 simp[h0,YC hm h]
end Go.Proofs.YtgpihfacmpbpaaaGreatDoor.Tr
namespace Go.Proofs.YtgpihfacmpbpaaaGreatDoor.Tr
open Go.RowKit
theorem E7.sub {t:List Nd} {a e a' e':Nat} (h:E7 t a e) (h1:a≤a') (h2:e'≤e):E7 t a' e':=fun i x hi hj hx=>h i x (by omega) (by omega) hx
theorem aBM (t:List Nd) (hk:∀ x ∈ t,x.kind<256):∀ n a e o r,e - a≤n→a≤e→e≤t.length→aER a o r →
  (∀ o',qL t n a e o=some o'→E7 t a e∧∃ l r',uW t n a e=some l∧qZ r.1 r.2.1 r.2.2 l=some r'∧aER e o' r') ∧
  (qL t n a e o=none→E7 t a e→∀ l,uW t n a e=some l→qZ r.1 r.2.1 r.2.2 l=none):=by
 intro n
 induction n with
 | zero =>
  intro a e o r hn hae _ hs
  obtain rfl:a=e:=by omega
  refine⟨fun o' h=>?_,fun h=>by cases h⟩
  cases h
  refine⟨fun i x hi hj=>by omega,[],r,?_,rfl,hs⟩
  unfold uW;rw[if_neg (by omega)]
 | succ n ih =>
  intro a e o r hn hae het hs
  rcases Nat.lt_or_ge a e with hlt | hge
  ·have hat:a<t.length:=by omega
   obtain⟨x,hx⟩:∃ x,t[a]?=some x:=⟨_,List.getElem?_eq_getElem hat⟩
   have hx256:x.kind<256:=hk x (List.mem_of_getElem? hx)
   have hse:qL t (n+1) a e o=(if x.size<1∨(e:Int) - (a:Int)<x.size then none
     else if x.kind=46 then (if x.size=1∧jK x.text=true∧fR o.lv 46=true then qL t n (a+1) e (kP o x.text.size) else none)
     else if x.text.size=0∧fR o.lv x.kind=true then (qL t n (a+1) (a+x.size.toNat) (cQ o x.kind)).bind fun o2=>if dG o2=true then qL t n (a+x.size.toNat) e (cY o2) else none
     else none):=by
    conv=>lhs;unfold qL
    rw[if_pos hlt,hx]
   have hev:uW t (n+1) a e=(if x.size<1∨(e:Int)<(a:Int)+x.size then none
     else if x.kind=46 then (if x.size=1 then (uW t n (a+1) e).map (pB x.text::·) else none)
     else (uW t n (a+1) (a+x.size.toNat)).bind fun M=>(uW t n (a+x.size.toNat) e).map fun R=>jJ x.kind::(M++nB::R)):=by
    conv=>lhs;unfold uW
    rw[if_pos hlt,hx]
   rw[hse,hev]
   by_cases h1:x.size<1∨(e:Int) - (a:Int)<x.size
   ·have h1':x.size<1∨(e:Int)<(a:Int)+x.size:=by omega
    rw[if_pos h1,if_pos h1']
    exact⟨fun o' h=>(by cases h),fun _ _ l h=>(by cases h)⟩
   have h1':¬ (x.size<1∨(e:Int)<(a:Int)+x.size):=by omega
   rw[if_neg h1,if_neg h1']
   by_cases h46:x.kind=46
   ·rw[if_pos h46,if_pos h46]
    by_cases hz:x.size=1
    ·rw[if_pos hz]
     by_cases hT:jK x.text=true
     ·have hm:fR o.lv 46=aJ r.1.2:=hs.sim.rel.texts
      cases ht:aJ r.1.2
      ·rw[if_neg (by rw[hm,ht];simp)]
       refine⟨fun o' h=>(by cases h),fun _ _ l hl=>?_⟩
       cases hev2:uW t n (a+1) e with
       | none=>rw[hev2]at hl;cases hl
       | some l2 =>
        rw[hev2]at hl;cases hl
        rw[j6,if_pos (.inl ⟨rfl,ht⟩)]
      ·rw[if_pos ⟨hz,hT,by rw[hm,ht]⟩]
       obtain⟨s1,s2,s3,s4⟩:=hs.sim.text 0 x.text 0 ht
       have hbad:¬ (((pB x.text).kind=1∧aJ r.1.2=false)∨(aD r.1.1 r.1.2 (pB x.text)).2=2):=by
        rintro(⟨_,h⟩ | h)
        ·rw[ht]at h;cases h
        ·have h':(aD r.1.1 r.1.2 ⟨1,0,x.text,0⟩).2=2:=h
         omega
       have hrun:∀ l,qZ r.1 r.2.1 r.2.2 (pB x.text::l)=qZ (aE r.1 (pB x.text)) (r.2.1 || decide ((aD r.1.1 r.1.2 (pB x.text)).2=5)) (r.2.2 || decide ((aD r.1.1 r.1.2 (pB x.text)).2=4)) l:=fun l=>by rw[j6,if_neg hbad]
       obtain⟨i1,i2⟩:=ih (a+1) e (kP o x.text.size) (aE r.1 (pB x.text),r.2.1 || decide ((aD r.1.1 r.1.2 (pB x.text)).2=5),r.2.2 || decide ((aD r.1.1 r.1.2 (pB x.text)).2=4)) (by omega) (by omega) het
        ⟨s1,by rw[yF,hs.at_],by
         show (kP o x.text.size).deep=(r.2.1 || decide ((aD r.1.1 r.1.2 ⟨1,0,x.text,0⟩).2=5))
         rw[s2,hs.deep,decide_eq_false (by omega),Bool.or_false],fun hd=>by
         show (kP o x.text.size).fM=(r.2.2 || decide ((aD r.1.1 r.1.2 ⟨1,0,x.text,0⟩).2=4))
         rw[s3,hs.fM (by rw[← s2];exact hd)]⟩
       refine⟨fun o' h=>?_,fun h hok l hl=>?_⟩
       ·obtain⟨j1,l,r',j2,j3,j4⟩:=i1 o' h
        refine⟨fun i y hi hj hy=>?_,pB x.text::l,r',by rw[j2];rfl,by rw[hrun];exact j3,j4⟩
        rcases Nat.eq_or_lt_of_le hi with e1 | e1
        ·subst e1;rw[hx]at hy;cases hy
         rw[zL h46];exact hT
        ·exact j1 i y (by omega) hj hy
       ·cases hev2:uW t n (a+1) e with
        | none=>rw[hev2]at hl;cases hl
        | some l2 =>
         rw[hev2]at hl;cases hl
         rw[hrun]
         exact i2 h (hok.sub (by omega) (Nat.le_refl _)) l2 hev2
     ·rw[if_neg (fun e=>hT e.2.1)]
      refine⟨fun o' h=>(by cases h),fun _ hok=>?_⟩
      have:=hok a x (Nat.le_refl _) hlt hx
      rw[zL h46]at this
      exact absurd this hT
    ·rw[if_neg hz,if_neg (fun e=>hz e.1)]
     exact⟨fun o' h=>(by cases h),fun _ _ l h=>(by cases h)⟩
   ·rw[if_neg h46,if_neg h46]
    by_cases h0:x.text.size=0
    ·have hm:fR o.lv x.kind=eH r.1.2 x.kind:=hs.sim.rel.opens h46
     cases ho:eH r.1.2 x.kind
     ·rw[if_neg (by rw[hm,ho];simp)]
      refine⟨fun o' h=>(by cases h),fun _ _ l hl=>?_⟩
      have hb:(aD r.1.1 r.1.2 (jJ x.kind)).2=2:=by
       unfold aD jJ
       simp only[]
       rw[if_neg (by decide),if_pos True.intro,if_pos ho]
      cases hev2:uW t n (a+1) (a+x.size.toNat) with
      | none=>rw[hev2]at hl;cases hl
      | some M =>
       rw[hev2]at hl
       cases hev3:uW t n (a+x.size.toNat) e with
       | none=>rw[hev3]at hl;cases hl
       | some R =>
        rw[hev3]at hl;cases hl
        rw[j6,if_pos (.inr hb)]
     ·have hmt:fR o.lv x.kind=true:=by rw[hm,ho]
      rw[if_pos ⟨h0,hmt⟩]
      obtain⟨m,hmm⟩:∃ m:Nat,x.size=(m:Int):=⟨x.size.toNat,by omega⟩
      rw[show x.size.toNat=m from by omega]
      obtain⟨s1,s2,s3,s4⟩:=hs.sim.open aA 0 hx256 h46 ho
      have hbad:¬ (((jJ x.kind).kind=1∧aJ r.1.2=false)∨(aD r.1.1 r.1.2 (jJ x.kind)).2=2):=by
       rintro(⟨h,_⟩ | h)
       ·cases h
       ·have h':(aD r.1.1 r.1.2 ⟨2,x.kind,aA,0⟩).2=2:=h
        omega
      have hrun:∀ l,qZ r.1 r.2.1 r.2.2 (jJ x.kind::l)=qZ (aE r.1 (jJ x.kind)) (r.2.1 || decide ((aD r.1.1 r.1.2 (jJ x.kind)).2=5)) (r.2.2 || decide ((aD r.1.1 r.1.2 (jJ x.kind)).2=4)) l:=fun l=>by rw[j6,if_neg hbad]
      obtain⟨i1,i2⟩:=ih (a+1) (a+m) (cQ o x.kind) (aE r.1 (jJ x.kind),r.2.1 || decide ((aD r.1.1 r.1.2 (jJ x.kind)).2=5),r.2.2 || decide ((aD r.1.1 r.1.2 (jJ x.kind)).2=4)) (by omega) (by omega) (by omega)
       ⟨s1,by rw[sH,hs.at_],by
        show (cQ o x.kind).deep=(r.2.1 || decide ((aD r.1.1 r.1.2 ⟨2,x.kind,aA,0⟩).2=5))
        rw[s2,hs.deep],fun hd=>by
        show (cQ o x.kind).fM=(r.2.2 || decide ((aD r.1.1 r.1.2 ⟨2,x.kind,aA,0⟩).2=4))
        have hd':=hd
        rw[s2]at hd'
        rw[s3 hd,hs.fM (by cases h:o.deep<;>simp_all)]⟩
      cases hg:qL t n (a+1) (a+m) (cQ o x.kind) with
      | none =>
       refine⟨fun o' h=>(by cases h),fun _ hok l hl=>?_⟩
       cases hev2:uW t n (a+1) (a+m) with
       | none=>rw[hev2]at hl;cases hl
       | some M =>
        rw[hev2]at hl
        cases hev3:uW t n (a+m) e with
        | none=>rw[hev3]at hl;cases hl
        | some R =>
         rw[hev3]at hl;cases hl
         rw[hrun,CW,i2 hg (hok.sub (by omega) (by omega)) M hev2]
         rfl
      | some o2 =>
       obtain⟨j1,M,r3,j2,j3,j4⟩:=i1 o2 hg
       simp only[Option.bind_some]
       obtain⟨c1,c2,c3⟩:=j4.sim.close 0 aA 0
       have hM:∀ R,qZ r.1 r.2.1 r.2.2 (jJ x.kind::(M++nB::R))=qZ r3.1 r3.2.1 r3.2.2 (nB::R):=fun R=>by rw[hrun,CW,j3];rfl
       by_cases hb:dG o2=true
       ·rw[if_pos hb]
        have he0:(aD r3.1.1 r3.1.2 nB).2=0:=c1.1 hb
        have hbad3:¬ ((nB.kind=1∧aJ r3.1.2=false)∨(aD r3.1.1 r3.1.2 nB).2=2):=by
         rintro(⟨h,_⟩ | h)
         ·cases h
         ·omega
        have hrun3:∀ R,qZ r3.1 r3.2.1 r3.2.2 (nB::R)=qZ (aE r3.1 nB) r3.2.1 r3.2.2 R:=fun R=>by
         rw[j6,if_neg hbad3,he0]
         simp
        obtain⟨k1,k2⟩:=ih (a+m) e (cY o2) (aE r3.1 nB,r3.2.1,r3.2.2) (by omega) (by omega) het ⟨c3 hb,j4.at_,j4.deep,j4.fM⟩
        refine⟨fun o' h=>?_,fun h hok l hl=>?_⟩
        ·obtain⟨l1,R,r',l2,l3,l4⟩:=k1 o' h
         refine⟨fun i y hi hj hy=>?_,jJ x.kind::(M++nB::R),r',by rw[j2,l2];rfl,by rw[hM,hrun3];exact l3,l4⟩
         rcases Nat.eq_or_lt_of_le hi with e1 | e1
         ·subst e1;rw[hx]at hy;cases hy
          exact N7 h46 h0 hmt
         ·rcases Nat.lt_or_ge i (a+m)with e2 | e2
          ·exact j1 i y (by omega) e2 hy
          ·exact l1 i y e2 hj hy
        ·rw[j2]at hl
         cases hev3:uW t n (a+m) e with
         | none=>rw[hev3]at hl;cases hl
         | some R =>
          rw[hev3]at hl;cases hl
          rw[hM,hrun3]
          exact k2 h (hok.sub (by omega) (Nat.le_refl _)) R hev3
       ·rw[if_neg hb]
        refine⟨fun o' h=>(by cases h),fun _ hok l hl=>?_⟩
        have he2:(aD r3.1.1 r3.1.2 nB).2=2:=by
         rcases c2 with c2 | c2
         ·exact absurd (c1.2 c2) hb
         ·show (aD r3.1.1 r3.1.2 ⟨3,0,aA,0⟩).2=2
          rw[c2]
        rw[j2]at hl
        cases hev3:uW t n (a+m) e with
        | none=>rw[hev3]at hl;cases hl
        | some R =>
         rw[hev3]at hl;cases hl
         rw[hM,j6,if_pos (.inr he2)]
    ·rw[if_neg (fun e=>h0 e.1)]
     refine⟨fun o' h=>(by cases h),fun _ hok=>?_⟩
     exact absurd (LD h46 (hok a x (Nat.le_refl _) hlt hx)) h0
  ·obtain rfl:a=e:=by omega
   have h1:qL t (n+1) a a o=some o:=by unfold qL;rw[if_neg (by omega)]
   have h2:uW t (n+1) a a=some []:=by unfold uW;rw[if_neg (by omega)]
   rw[h1,h2]
   refine⟨fun o' h=>?_,fun h=>by cases h⟩
   cases h
   exact⟨fun i x hi hj=>by omega,[],r,rfl,rfl,hs⟩
theorem E8 (t:List Nd):E7 t 0 t.length↔t.all bO=true:=by
 rw[List.all_eq_true]
 constructor
 ·intro h x hx
  obtain⟨i,hi,rfl⟩:=List.mem_iff_getElem.1 hx
  exact h i _ (by omega) hi (List.getElem?_eq_getElem hi)
 ·intro h i x _ _ hx
  exact h x (List.mem_of_getElem? hx)
theorem TM (t:List Nd) (hk:∀ x ∈ t,x.kind<256):GP t=aL t:=by
 have he0:gF t KI=(t.length:Int):=rfl
 obtain⟨a1,a2⟩:=aBK t t.length 0 t.length KI (by omega) (by omega) (Nat.le_refl _) (by decide) he0 rfl
 obtain⟨b1,b2⟩:=aBM t hk t.length 0 t.length KI (([],[root]),false,false) (by omega) (by omega) (Nat.le_refl _) ⟨sG.start,rfl,rfl,fun _=>rfl⟩
 unfold GP aL fJ
 rw[a1,Nat.sub_zero]
 cases hg:qL t t.length 0 t.length KI with
 | none =>
  show 2=_
  by_cases hok:t.all bO=false
  ·rw[if_pos hok]
  ·rw[if_neg hok]
   have hok':=(E8 t).2 (by simpa using hok)
   cases hev:uW t t.length 0 t.length with
   | none=>rfl
   | some l =>
    show 2=oB ([],[root]) false false l
    rw[yH,b2 hg hok' l hev]
 | some o =>
  obtain⟨c1,l,r,c2,c3,c4⟩:=b1 o hg
  obtain⟨d1,d2⟩:=a2 o hg
  have hl:o.lv.length=1:=by rw[← eZ,d1];rfl
  simp only[Option.bind_some]
  rw[wG (Nat.le_refl _),nT (by omega) (fun h=>by omega)]
  simp only[Option.bind_some]
  have hr:qU t t.length o=some o:=by unfold qU;rw[List.getElem?_eq_none (Nat.le_refl _)]
  rw[hr,if_neg (by rw[(E8 t).1 c1];simp),c2]
  show fO o=oB ([],[root]) false false l
  rw[yH,c3]
  unfold fO
  show _=if r.2.1=true then 5 else if r.2.2=true then 4 else 0
  rw[← c4.deep]
  cases hd:o.deep
  ·rw[← c4.fM hd]
  ·rfl
end Go.Proofs.YtgpihfacmpbpaaaGreatDoor.Tr
