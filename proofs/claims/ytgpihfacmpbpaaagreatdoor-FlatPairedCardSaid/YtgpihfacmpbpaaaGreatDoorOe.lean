/-
  Put together: FlA, FlB, FlC, FlO, FlP, FlQ, FlR, FlD, FlN.
-/
import Derived.Test.YtgpihfacmpbpaaaGreatDoorOd
namespace Go.Proofs.YtgpihfacmpbpaaaGreatDoor.Fl
open Go.RowKit Tr Nu Nl Cn
structure Tk where
 kind:Int
 ch:Nat
 place:Int
def cT (x:Tk):List Value:=[.int .i64 x.kind,.int .u8 (x.ch:Int),.int .i64 x.place]
theorem wW (x:Tk):(cT x).length=3:=rfl
def nZ (pl:Int) (s:ByteArray) (n:Nat):List Tk:=(List.range n).map fun i=>⟨1,Lx.bT s i,wrap64 (pl+(i:Int))⟩
theorem oL (pl:Int) (s:ByteArray) (n:Nat):nZ pl s (n+1)=nZ pl s n++[⟨1,Lx.bT s n,wrap64 (pl+(n:Int))⟩]:=by
 unfold nZ;rw[List.range_succ,List.map_append];rfl
theorem FH (pl:Int) (s:ByteArray) (n:Nat):(nZ pl s n).length=n:=by unfold nZ;simp
def dW (l:List Tk):Int:=match l.getLast? with | some y=>y.place | none=>0
theorem rL (l:List Tk) (x:Tk):dW (l++[x])=x.place:=by unfold dW;rw[List.getLast?_concat]
theorem uB (l m:List Tk) (h:m≠[]):dW (l++m)=dW m:=by
 rcases List.eq_nil_or_concat m with rfl | ⟨m',x,rfl⟩
 ·exact absurd rfl h
 ·rw[List.concat_eq_append,← List.append_assoc,rL,rL]
def stepT (st:List Tk × List Nat) (x:Ev):List Tk × List Nat :=
 if x.kind=1 then (st.1++nZ x.place x.text x.text.size,st.2)
 else if x.kind=2 then (st.1++[⟨2,x.name,x.place⟩],st.2++[x.name])
 else (st.1++[⟨3,st.2.getLastD 0,dW st.1⟩],st.2.dropLast)
theorem kJ {o:List Tk} {S:List Nat} {x:Ev} (h:x.kind=1):stepT (o,S) x=(o++nZ x.place x.text x.text.size,S):=by unfold stepT;rw[if_pos h]
theorem rM {o:List Tk} {S:List Nat} {x:Ev} (h:x.kind=2):stepT (o,S) x=(o++[⟨2,x.name,x.place⟩],S++[x.name]):=by unfold stepT;rw[if_neg (by omega),if_pos h]
theorem vC {o:List Tk} {S:List Nat} {k:Nat}:stepT (o,S++[k]) lT=(o++[⟨3,k,dW o⟩],S):=by
 unfold stepT
 rw[if_neg (by decide),if_neg (by decide),List.getLastD_concat,List.dropLast_concat]
def fU (E:List Ev):List Tk:=(E.foldl stepT ([],[])).1
def FJ (t:List Nd) (a:Nat) (L:List Lx.Lx):List Ev:=iV (vD t) (aU t) a L
def rN (t:List Nd):List Tk:=match fJ t 0 t.length with | some L=>fU (FJ t 0 L) | none=>[]
theorem AR {F:List Nd} {L:List Lx.Lx} (h:Wf F L) (K:Nat→ByteArray × Int) (O:Nat→Int):∀ (p:Nat) (o:List Tk) (S:List Nat),(iV K O p L).foldl stepT (o,S)=(o++fU (iV K O p L),S):=by
 induction h with
 | nil=>intro p o S;show (o,S)=(o++[],S);rw[List.append_nil]
 | @text F L s pl hF ih =>
  intro p o S
  have e:∀ (o:List Tk) (S:List Nat),[jC (K (p+eC L)).1 (K (p+eC L)).2].foldl stepT (o,S)=(o++nZ (K (p+eC L)).2 (K (p+eC L)).1 (K (p+eC L)).1.size,S):=fun o S=>kJ (x:=jC (K (p+eC L)).1 (K (p+eC L)).2) rfl
  unfold fU
  rw[eX,List.foldl_append,List.foldl_append,ih p o S,ih p [] [],show iV K O (p+eC L) [pB s]=[jC (K (p+eC L)).1 (K (p+eC L)).2] from nY rfl,e,e]
  simp
 | @node F G L M k pl hF hG hk ih1 ih2 =>
  intro p o S
  have e:∀ (q:Nat) (o:List Tk) (S:List Nat),(mC k (O q)::(iV K O (q+1) M++[lT])).foldl stepT (o,S)=(o++(⟨2,k,O q⟩::fU (iV K O (q+1) M)++[⟨3,k,dW (⟨2,k,O q⟩::fU (iV K O (q+1) M))⟩]),S):=fun q o S=>by
   rw[List.foldl_cons,rM rfl,List.foldl_append,ih2]
   show stepT (_,S++[k]) lT=_
   rw[vC]
   have e1:(o++[⟨2,k,O q⟩]++fU (iV K O (q+1) M):List Tk)=o++(⟨2,k,O q⟩::fU (iV K O (q+1) M)):=by simp
   show (o++[⟨2,k,O q⟩]++fU (iV K O (q+1) M)++[⟨3,k,dW (o++[⟨2,k,O q⟩]++fU (iV K O (q+1) M))⟩],S)=_
   rw[e1,uB _ _ (by simp),List.append_assoc]
  unfold fU
  rw[eX,List.foldl_append,List.foldl_append,ih1 p o S,ih1 p [] [],kD,e,e]
  simp
theorem vE {F G:List Nd} {L M:List Lx.Lx} (h:Wf F L) (h2:Wf G M) (K:Nat→ByteArray × Int) (O:Nat→Int) (p:Nat):fU (iV K O p (L++M))=fU (iV K O p L)++fU (iV K O (p+F.length) M):=by
 conv=>lhs;unfold fU
 rw[eX,List.foldl_append,AR h,mD h,AR h2];rfl
theorem AS (K:Nat→ByteArray × Int) (O:Nat→Int) (p:Nat) (s:ByteArray):fU (iV K O p [pB s])=nZ (K p).2 (K p).1 (K p).1.size:=by
 rw[show iV K O p [pB s]=[jC (K p).1 (K p).2] from nY rfl]
 show (stepT ([],[]) (jC (K p).1 (K p).2)).1=_
 rw[kJ rfl];rfl
theorem AU {G:List Nd} {M:List Lx.Lx} (h:Wf G M) (K:Nat→ByteArray × Int) (O:Nat→Int) (p k:Nat):fU (iV K O p (jJ k::(M++[nB])))=(⟨2,k,O p⟩::fU (iV K O (p+1) M))++[⟨3,k,dW (⟨2,k,O p⟩::fU (iV K O (p+1) M))⟩]:=by
 conv=>lhs;unfold fU
 rw[kD,List.foldl_cons,rM rfl,List.foldl_append,AR h]
 show (stepT (_,[]++[k]) lT).1=_
 rw[vC]
 rfl
theorem Y8 {F:List Nd} {L:List Lx.Lx} (h:Wf F L) (K:Nat→ByteArray × Int) (O:Nat→Int):∀ p,(∀ j y,F[j]?=some y→(K (p+j)).1.size≤y.text.size)→(fU (iV K O p L)).length≤2 * F.length+gA F:=by
 induction h with
 | nil=>intro p _;exact Nat.zero_le _
 | @text F L s pl hF ih =>
  intro p hK
  have h1:=ih p fun j y hj=>hK j y (by rw[List.getElem?_append_left (List.getElem?_eq_some_iff.1 hj).1];exact hj)
  have h2:(K (p+F.length)).1.size≤s.size:=hK F.length _ List.getElem?_concat_length
  have e0:Wf [⟨46,s,pl,1⟩] [pB s]:=Wf.text s pl Wf.nil
  rw[vE hF e0,AS,List.length_append,FH,rK,List.length_append]
  show _≤2 * (F.length+1)+(gA F+(s.size+0))
  omega
 | @node F G L M k pl hF hG hk ih1 ih2 =>
  intro p hK
  have h1:=ih1 p fun j y hj=>hK j y (by rw[List.getElem?_append_left (List.getElem?_eq_some_iff.1 hj).1];exact hj)
  have h2:=ih2 (p+F.length+1) fun j y hj=>by
   rw[show p+F.length+1+j=p+(F.length+(j+1)) by omega]
   exact hK (F.length+(j+1)) y (by rw[List.getElem?_append_right (by omega),show F.length+(j+1) - F.length=j+1 by omega];exact hj)
  have e0:Wf (⟨k,aA,pl,(G.length:Int)+1⟩::G) (jJ k::(M++[nB])):=Wf.node k pl Wf.nil hG hk
  rw[vE hF e0,AU hG,List.length_append,List.length_append,List.length_cons,List.length_singleton,rK,List.length_append]
  show _≤2 * (F.length+(G.length+1))+(gA F+(0+gA G))
  omega
end Go.Proofs.YtgpihfacmpbpaaaGreatDoor.Fl
namespace Go.Proofs.YtgpihfacmpbpaaaGreatDoor.Nu
open Go.RowKit Tr
theorem aF9 {t:List Nd} {L:List Lx.Lx} (h:Wf t L):aP (iV (vD t) (aU t) 0 L)=t:=by
 rw[aDB h]
 apply List.ext_getElem?
 intro j
 rw[List.getElem?_mapIdx]
 cases hx:t[j]? with
 | none=>rfl
 | some x =>
  obtain⟨h1,h2⟩:=WY h x (List.mem_of_getElem? hx)
  rw[Option.map_some,Nat.zero_add]
  unfold aAQ vD aU
  rw[hx]
  simp only[]
  obtain⟨k,tx,pl,sz⟩:=x
  simp only[]at h1 h2
  by_cases hk:k=46
  ·rw[if_pos hk,← hk,← h1 hk]
  ·rw[if_neg hk,← h2 hk]
end Go.Proofs.YtgpihfacmpbpaaaGreatDoor.Nu
namespace Go.Proofs.YtgpihfacmpbpaaaGreatDoor.Fl
open Go.RowKit Tr Nu Nl Cn
def eV (st:Option (List Ev × List Nat)) (x:Tk):Option (List Ev × List Nat) :=
 match st with
 | none=>none
 | some (E,S) =>
  if x.kind=1 then some (cD E (jC (dS x.ch) x.place),S)
  else if x.kind=2 then some (E++[mC x.ch x.place],S++[x.ch])
  else if x.kind=3 then (match S.getLast? with | some k=>if k=x.ch then some (E++[lT],S.dropLast) else none | none=>none)
  else none
def aM (l:List Tk):Option (List Ev × List Nat):=l.foldl eV (some ([],[]))
def mI (l:List Tk):Option (List Nd):=match aM l with | some (E,[])=>some (aP E) | _=>none
def vF (l:List Tk):List Nd × Nat:=match mI l with
 | none=>([],2)
 | some t=>if aL t≠0 then ([],aL t) else if zP t=false then ([],2) else (t,0)
def sS (x:Tk):Int × Nat:=(x.kind,x.ch)
def lX (a b:List Tk):Bool:=decide (a.length=b.length) && (List.zip a b).all fun z=>decide (z.1.kind=z.2.kind∧z.1.ch=z.2.ch)
theorem IM:∀ {a b:List Tk},a.map sS=b.map sS→lX a b=true
 | [],[],_=>rfl
 | [],y::b,h=>by simp at h
 | x::a,[],h=>by simp at h
 | x::a,y::b,h=>by
  rw[List.map_cons,List.map_cons,List.cons.injEq]at h
  have ih:=IM h.2
  unfold lX at ih ⊢
  rw[Bool.and_eq_true,decide_eq_true_eq]at ih
  have h1:x.kind=y.kind∧x.ch=y.ch:=by have:=h.1;unfold sS at this;simpa using this
  rw[List.zip_cons_cons,List.all_cons,ih.2,Bool.and_true,Bool.and_eq_true,decide_eq_true_eq,decide_eq_true_eq,List.length_cons,List.length_cons,ih.1]
  exact⟨rfl,h1⟩
def aFN (s:ByteArray) (n:Nat):ByteArray:=Lx.bytesOf ((List.range n).map (Lx.bT s))
theorem aFX (s:ByteArray) (n:Nat):aFN s (n+1)=aFN s n++dS (Lx.bT s n):=by
 unfold aFN
 rw[List.range_succ,List.map_append,Nu.nL];rfl
theorem aF4 (s:ByteArray):aFN s s.size=s:=by unfold aFN;rw[← QG,Lx.mH]
theorem aEV (s:ByteArray) (pl:Int) (acc:List Ev) (S:List Nat) (ha:qO acc):∀ n,(nZ pl s (n+1)).foldl eV (some (acc,S))=some (acc++[jC (aFN s (n+1)) (wrap64 pl)],S)
 | 0=>by
  show eV (some (acc,S)) ⟨1,Lx.bT s 0,wrap64 (pl+((0:Nat):Int))⟩=_
  unfold eV
  simp only[if_true]
  rw[aI rfl (by rw[show (jC (dS (Lx.bT s 0)) (wrap64 (pl+((0:Nat):Int)))).text.size=1 from rfl];decide) ha]
  rw[show pl+((0:Nat):Int)=pl by omega]
  rfl
 | n+1=>by
  rw[oL,List.foldl_append,aEV s pl acc S ha n]
  show eV (some (acc++[jC (aFN s (n+1)) (wrap64 pl)],S)) ⟨1,Lx.bT s (n+1),wrap64 (pl+((n+1:Nat):Int))⟩=_
  unfold eV
  simp only[if_true]
  rw[bX rfl (by rw[show (jC (dS (Lx.bT s (n+1))) (wrap64 (pl+((n+1:Nat):Int)))).text.size=1 from rfl];decide) rfl,aFX s (n+1)]
  rfl
theorem aFJ {E E':List Ev} (h:E'.map rG=E.map rG) (he:qO E):qO E':=fun y hy=>by
 have h1:(E'.map rG).getLast?=some (rG y):=by rw[List.getLast?_map,hy];rfl
 rw[h,List.getLast?_map,Option.map_eq_some_iff]at h1
 obtain⟨z,hz,e⟩:=h1
 have:=he z hz
 have e2:y.kind=z.kind:=(congrArg Ev.kind e).symm
 rw[e2];exact this
theorem aFO {E:List Ev} (h:Rd E):(∀ x ∈ E,tI x)→∀ d,dep 0 E=some d→∃ E',aM (fU E)=some (E',(E.foldl stepT ([],[])).2)∧E'.map rG=E.map rG∧(E.foldl stepT ([],[])).2.length=d:=by
 induction h with
 | nil=>intro _ d hd;cases hd;exact⟨[],rfl,rfl,rfl⟩
 | @node A x hA hk ih =>
  intro ho d hd
  rw[fW]at hd
  cases hA0:dep 0 A with
  | none=>rw[hA0]at hd;cases hd
  | some m =>
   rw[hA0]at hd
   have hd:dep m [x]=some d:=hd
   obtain⟨E',i1,i2,i3⟩:=ih (fun y hy=>ho y (List.mem_append_left _ hy)) m hA0
   unfold aM fU at i1 ⊢
   rw[List.foldl_append]
   generalize A.foldl stepT ([],[])=st at i1 i3 ⊢
   obtain⟨o,S⟩:=st
   simp only[]at i1 i3
   rcases ho x (by simp) with⟨s,pl,rfl⟩ | ⟨k,pl,hk46,rfl⟩ | rfl
   ·exact absurd rfl hk
   ·show ∃ E'',(stepT (o,S) (mC k pl)).1.foldl eV (some ([],[]))=some (E'',(stepT (o,S) (mC k pl)).2)∧_∧(stepT (o,S) (mC k pl)).2.length=d
    rw[rM rfl]
    rw[tV rfl]at hd
    have hd:some (m+1)=some d:=hd
    refine⟨E'++[mC k pl],?_,by rw[List.map_append,List.map_append,i2],by simp only[List.length_append,List.length_singleton];have:=Option.some.inj hd;omega⟩
    rw[List.foldl_append,i1];rfl
   ·show ∃ E'',(stepT (o,S) lT).1.foldl eV (some ([],[]))=some (E'',(stepT (o,S) lT).2)∧_∧(stepT (o,S) lT).2.length=d
    cases m with
    | zero=>rw[pE (by decide) (by decide)]at hd;cases hd
    | succ m =>
     obtain⟨S',k,rfl⟩:=pM (l:=S) (by omega)
     rw[vC]
     rw[tW (by decide) (by decide)]at hd
     have hd:some m=some d:=hd
     have hm:=Option.some.inj hd
     rw[List.length_append,List.length_singleton]at i3
     refine⟨E'++[lT],?_,by rw[List.map_append,List.map_append,i2],by simp only[];omega⟩
     rw[List.foldl_append,i1]
     show eV (some (E',S'++[k])) ⟨3,k,dW o⟩=_
     unfold eV
     simp only[show ¬ ((3:Int)=1) by decide,show ¬ ((3:Int)=2) by decide,if_false,if_true]
     rw[List.getLast?_concat,List.dropLast_concat]
     simp
 | @text A x hA he hk h0 ih =>
  intro ho d hd
  rw[fW]at hd
  cases hA0:dep 0 A with
  | none=>rw[hA0]at hd;cases hd
  | some m =>
   rw[hA0]at hd
   have hd:dep m [x]=some d:=hd
   obtain⟨E',i1,i2,i3⟩:=ih (fun y hy=>ho y (List.mem_append_left _ hy)) m hA0
   unfold aM fU at i1 ⊢
   rw[List.foldl_append]
   generalize A.foldl stepT ([],[])=st at i1 i3 ⊢
   obtain⟨o,S⟩:=st
   simp only[]at i1 i3
   rcases ho x (by simp) with⟨s,pl,rfl⟩ | ⟨k,pl,hk46,rfl⟩ | rfl
   ·show ∃ E'',(stepT (o,S) (jC s pl)).1.foldl eV (some ([],[]))=some (E'',(stepT (o,S) (jC s pl)).2)∧_∧(stepT (o,S) (jC s pl)).2.length=d
    rw[kJ rfl]
    rw[kE rfl]at hd
    have hd:some m=some d:=hd
    have h0:s.size≠0:=h0
    obtain⟨n,hn⟩:∃ n,s.size=n+1:=⟨s.size - 1,by omega⟩
    refine⟨E'++[jC s (wrap64 pl)],?_,by rw[List.map_append,List.map_append,i2];rfl,by simp only[];have:=Option.some.inj hd;omega⟩
    rw[List.foldl_append,i1]
    show (nZ pl s s.size).foldl eV (some (E',S))=_
    rw[hn,aEV s pl E' S (aFJ i2 he) n,← hn,aF4]
   ·cases hk
   ·cases hk
theorem aFY {t:List Nd} (h:zP t=true):(vF (rN t)).2=0∧(vF (rN t)).1.map bare=t.map bare:=by
 have hc:=rI h
 obtain⟨L,hW,hE⟩:=gT hc
 -- the parts of a normalised tree
 have hb:=DI _ _ (by unfold zP at h;rw[Bool.and_eq_true]at h;exact h.2)
 have hv:=aED hb
 rw[hE,FE (Y2 hW)]at hv
 have hL:=Option.some.inj hv
 have hI:=aF3 hW (vD t) (aU t) 0 (fun j y hj _=>by rw[Nat.zero_add];unfold vD;rw[hj])
 have hJ:(FJ t 0 L).map rG=(bM (evN t L)).map rG:=by
  unfold FJ
  rw[hI]
  conv=>lhs;rw[hL]
  rw[List.map_map]
  rfl
 have hRd:Rd (FJ t 0 L):=by
  have hlist:bM (FJ t 0 L)=FJ t 0 L→Rd (FJ t 0 L):=fun e=>by rw[← e];exact Y6 _
  refine hlist ?_
  -- joined already: no text is empty, none stands behind one
  have key:∀ (J J':List Ev),Rd J→J'.map rG=J.map rG→Rd J':=by
   intro J J' hR
   induction hR generalizing J' with
   | nil=>intro e;rw[List.map_nil,List.map_eq_nil_iff]at e;subst e;exact .nil
   | @node A x _ hk ih =>
    intro e
    rw[List.map_append]at e
    obtain⟨A',R,rfl,e1,e2⟩:=List.map_eq_append_iff.1 e
    obtain⟨y,R2,rfl,hy,e3⟩:=List.map_eq_cons_iff.1 e2
    obtain rfl:R2=[]:=by simpa using e3
    exact .node (ih A' e1) (by have:(rG y).kind=(rG x).kind:=congrArg Ev.kind hy;have:y.kind=x.kind:=this;rw[this];exact hk)
   | @text A x _ he hk h0 ih =>
    intro e
    rw[List.map_append]at e
    obtain⟨A',R,rfl,e1,e2⟩:=List.map_eq_append_iff.1 e
    obtain⟨y,R2,rfl,hy,e3⟩:=List.map_eq_cons_iff.1 e2
    obtain rfl:R2=[]:=by simpa using e3
    exact .text (ih A' e1) (aFJ e1 he) (by have:(rG y).kind=(rG x).kind:=congrArg Ev.kind hy;have:y.kind=x.kind:=this;rw[this];exact hk) (by have:(rG y).text=(rG x).text:=congrArg Ev.text hy;have:y.text=x.text:=this;rw[this];exact h0)
  exact(key _ _ (Y6 _) hJ).join
 have hbal:=nX hW (vD t) (aU t) 0
 obtain⟨E',p1,p2,p3⟩:=aFO hRd (LH hW (vD t) (aU t) 0) 0 hbal
 have hS:((FJ t 0 L).foldl stepT ([],[])).2=[]:=List.eq_nil_of_length_eq_zero p3
 have hpv:mI (rN t)=some (aP E'):=by
  unfold mI rN
  rw[hE]
  simp only[]
  rw[p1,hS]
 have hrow:(aP E').map bare=t.map bare:=by
  have h1:=aBV E' [] []
  have h2:=aBV (FJ t 0 L) [] []
  have h3:=aF9 hW
  rw[p2]at h1
  exact(h1.trans h2.symm).trans (congrArg (List.map bare) h3)
 have hc2:aL (aP E')=0:=by rw[aD1 hrow];exact hc
 have hi2:zP (aP E')=true:=by rw[aF8 hrow];exact h
 have:vF (rN t)=(aP E',0):=by
  unfold vF
  rw[hpv]
  simp only[]
  rw[if_neg (by rw[hc2];exact fun e=>e rfl),if_neg (by rw[hi2];exact fun e=>Bool.noConfusion e)]
 rw[this]
 exact⟨rfl,hrow⟩
end Go.Proofs.YtgpihfacmpbpaaaGreatDoor.Fl
namespace Go.Proofs.YtgpihfacmpbpaaaGreatDoor.Fl
open Go.RowKit Tr Nu Nl Cn
theorem AV {c:Nat} (h:c<256):Lx.bT (dS c) 0=c:=by
 unfold Lx.bT dS
 rw[Lx.eU [c] (by intro x hx;rw[List.mem_singleton]at hx;omega)];rfl
theorem UC (pl:Int) (s:ByteArray) {c:Nat} (h:c<256):(nZ pl (s++dS c) (s.size+1)).map sS=(nZ pl s s.size).map sS++[(1,c)]:=by
 rw[oL,List.map_append]
 congr 1
 ·unfold nZ
  rw[List.map_map,List.map_map]
  refine List.map_congr_left (fun i hi=>?_)
  show ((1:Int),Lx.bT (s++dS c) i)=(1,Lx.bT s i)
  rw[Lx.UD _ _ _ (List.mem_range.1 hi)]
 ·show [((1:Int),Lx.bT (s++dS c) s.size)]=[(1,c)]
  have:=Lx.oM s (dS c) 0
  rw[Nat.add_zero,AV h]at this
  rw[this]
theorem aFP {o o':List Tk} {S:List Nat} {x x':Ev} (h:o.map sS=o'.map sS) (hx:rG x=rG x'):(stepT (o,S) x).1.map sS=(stepT (o',S) x').1.map sS∧(stepT (o,S) x).2=(stepT (o',S) x').2:=by
 have k:x.kind=x'.kind:=(show (rG x).kind=(rG x').kind by rw[hx])
 have n:x.name=x'.name:=(show (rG x).name=(rG x').name by rw[hx])
 have t:x.text=x'.text:=(show (rG x).text=(rG x').text by rw[hx])
 unfold stepT
 rw[← k,← n,← t]
 by_cases h1:x.kind=1
 ·rw[if_pos h1,if_pos h1]
  refine⟨?_,rfl⟩
  rw[List.map_append,List.map_append,h]
  congr 1
  unfold nZ
  rw[List.map_map,List.map_map];rfl
 ·rw[if_neg h1,if_neg h1]
  by_cases h2:x.kind=2
  ·rw[if_pos h2,if_pos h2]
   exact⟨by rw[List.map_append,List.map_append,h];rfl,rfl⟩
  ·rw[if_neg h2,if_neg h2]
   exact⟨by rw[List.map_append,List.map_append,h];rfl,rfl⟩
theorem aEW:∀ (E E':List Ev) (o o':List Tk) (S:List Nat),E.map rG=E'.map rG→o.map sS=o'.map sS→(E.foldl stepT (o,S)).1.map sS=(E'.foldl stepT (o',S)).1.map sS
 | [],[],_,_,_,_,h=>h
 | [],y::E',_,_,_,e,_=>by simp at e
 | x::E,[],_,_,_,e,_=>by simp at e
 | x::E,y::E',o,o',S,e,h=>by
  rw[List.map_cons,List.map_cons,List.cons.injEq]at e
  obtain⟨a,b⟩:=aFP (S:=S) h e.1
  rw[List.foldl_cons,List.foldl_cons]
  have:=aEW E E' (stepT (o,S) x).1 (stepT (o',S) y).1 (stepT (o,S) x).2 e.2 a
  rw[show stepT (o',S) y=((stepT (o',S) y).1,(stepT (o,S) x).2) by rw[b]]
  exact this
def aBW (x:Ev):Prop:=(∃ s pl,x=jC s pl)∨(∃ k pl,x=mC k pl)∨x=lT
theorem pH:∀ l:List Tk,l.foldl eV none=none
 | []=>rfl
 | _::l=>pH l
theorem wX (l:List Tk):(∀ x ∈ l,x.ch<256)→∀ E S,aM l=some (E,S)→(E.foldl stepT ([],[])).1.map sS=l.map sS∧(E.foldl stepT ([],[])).2=S∧dep 0 E=some S.length∧∀ x ∈ E,aBW x:=by
 refine kH (P:=fun l=>(∀ x ∈ l,x.ch<256)→∀ E S,aM l=some (E,S)→(E.foldl stepT ([],[])).1.map sS=l.map sS∧(E.foldl stepT ([],[])).2=S∧dep 0 E=some S.length∧∀ x ∈ E,aBW x) ?_ ?_ l.length l rfl
 ·intro _ E S h
  cases h
  exact⟨rfl,rfl,rfl,fun x hx=>by cases hx⟩
 ·intro l x ih hl E S h
  have hx:x.ch<256:=hl x (by simp)
  unfold aM at h
  rw[List.foldl_append]at h
  cases hp:aM l with
  | none =>
   unfold aM at hp
   rw[hp]at h
   have h:eV none x=some (E,S):=h
   cases h
  | some q =>
   obtain⟨E0,S0⟩:=q
   obtain⟨i1,i2,i3,i4⟩:=ih (fun y hy=>hl y (by simp[hy])) E0 S0 hp
   unfold aM at hp
   rw[hp]at h
   have h:eV (some (E0,S0)) x=some (E,S):=h
   unfold eV at h
   simp only[]at h
   rw[List.map_append]
   by_cases h1:x.kind=1
   ·rw[if_pos h1]at h
    have h:=Option.some.inj h
    obtain⟨rfl,rfl⟩:=Prod.mk.inj h
    have hxk:[x].map sS=[((1:Int),x.ch)]:=by show [sS x]=_;unfold sS;rw[h1]
    have hz:(jC (dS x.ch) x.place).text.size≠0:=by rw[show (jC (dS x.ch) x.place).text.size=1 from rfl];decide
    rcases List.eq_nil_or_concat E0 with rfl | ⟨A,y,rfl⟩
    ·rw[aI rfl hz cC]
     refine⟨?_,?_,?_,fun z hz=>?_⟩
     ·show (stepT ([],[]) (jC (dS x.ch) x.place)).1.map sS=_
      rw[kJ rfl,hxk,← i1]
      show [((1:Int),Lx.bT (dS x.ch) 0)]=_
      rw[AV hx];rfl
     ·exact i2
     ·exact i3
     ·rw[List.nil_append,List.mem_singleton]at hz;exact .inl ⟨_,_,hz⟩
    ·rw[List.concat_eq_append]at i1 i2 i3 i4 ⊢
     by_cases hy:y.kind=1
     ·rw[bX rfl hz hy]
      rw[List.foldl_append]at i1 i2
      have hy2:({ y with text:=y.text++(jC (dS x.ch) x.place).text }:Ev).kind=1:=hy
      refine⟨?_,?_,?_,fun z hz2=>?_⟩
      ·rw[List.foldl_append]
       generalize A.foldl stepT ([],[])=st at i1 i2
       obtain⟨o,T⟩:=st
       have i1:(stepT (o,T) y).1.map sS=l.map sS:=i1
       show (stepT (o,T) { y with text:=y.text++(jC (dS x.ch) x.place).text }).1.map sS=_
       rw[kJ hy]at i1
       rw[kJ hy2,← i1,hxk,List.map_append,List.map_append,List.append_assoc]
       congr 1
       show (nZ y.place (y.text++dS x.ch) (y.text++dS x.ch).size).map sS=_
       rw[ByteArray.size_append,show (dS x.ch).size=1 from rfl]
       exact UC y.place y.text hx
      ·rw[List.foldl_append]
       generalize A.foldl stepT ([],[])=st at i1 i2
       obtain⟨o,T⟩:=st
       have i2:(stepT (o,T) y).2=S0:=i2
       show (stepT (o,T) { y with text:=y.text++(jC (dS x.ch) x.place).text }).2=_
       rw[kJ hy]at i2
       rw[kJ hy2];exact i2
      ·rw[fW]at i3 ⊢
       rw[← i3]
       rfl
      ·rcases List.mem_append.1 hz2 with g | g
       ·exact i4 z (List.mem_append_left _ g)
       ·rw[List.mem_singleton]at g
        rcases i4 y (by simp) with⟨s,pl,rfl⟩ | ⟨k,pl,rfl⟩ | rfl
        ·exact .inl ⟨_,_,g⟩
        ·cases hy
        ·cases hy
     ·rw[aI rfl hz (bK hy)]
      refine⟨?_,?_,?_,fun z hz2=>?_⟩
      ·rw[List.foldl_append]
       generalize hst:(A++[y]).foldl stepT ([],[])=st at i1 i2
       obtain⟨o,T⟩:=st
       show (stepT (o,T) (jC (dS x.ch) x.place)).1.map sS=_
       rw[kJ rfl,List.map_append,hxk]
       simp only[]at i1
       rw[i1]
       show _++[((1:Int),Lx.bT (dS x.ch) 0)]=_
       rw[AV hx]
      ·rw[List.foldl_append]
       generalize hst:(A++[y]).foldl stepT ([],[])=st at i1 i2
       obtain⟨o,T⟩:=st
       exact i2
      ·rw[fW,i3];rfl
      ·rcases List.mem_append.1 hz2 with g | g
       ·exact i4 z g
       ·rw[List.mem_singleton]at g;exact .inl ⟨_,_,g⟩
   ·rw[if_neg h1]at h
    by_cases h2:x.kind=2
    ·rw[if_pos h2]at h
     have h:=Option.some.inj h
     obtain⟨rfl,rfl⟩:=Prod.mk.inj h
     have hxk:[x].map sS=[((2:Int),x.ch)]:=by show [sS x]=_;unfold sS;rw[h2]
     rw[List.foldl_append]
     generalize hst:E0.foldl stepT ([],[])=st at i1 i2
     obtain⟨o,T⟩:=st
     simp only[]at i1 i2
     subst i2
     refine⟨?_,?_,?_,fun z hz=>?_⟩
     ·show (stepT (o,T) (mC x.ch x.place)).1.map sS=_
      rw[rM rfl,List.map_append,hxk,i1];rfl
     ·show (stepT (o,T) (mC x.ch x.place)).2=_
      rw[rM rfl];rfl
     ·rw[fW,i3,List.length_append];rfl
     ·rcases List.mem_append.1 hz with g | g
      ·exact i4 z g
      ·rw[List.mem_singleton]at g;exact .inr (.inl ⟨_,_,g⟩)
    ·rw[if_neg h2]at h
     by_cases h3:x.kind=3
     ·rw[if_pos h3]at h
      have hxk:[x].map sS=[((3:Int),x.ch)]:=by show [sS x]=_;unfold sS;rw[h3]
      rcases List.eq_nil_or_concat S0 with rfl | ⟨S',k,rfl⟩
      ·cases h
      ·rw[List.concat_eq_append]at h i2 i3
       rw[List.getLast?_concat]at h
       simp only[]at h
       by_cases hk:k=x.ch
       ·rw[if_pos hk,List.dropLast_concat]at h
        have h:=Option.some.inj h
        obtain⟨rfl,rfl⟩:=Prod.mk.inj h
        rw[List.foldl_append]
        generalize hst:E0.foldl stepT ([],[])=st at i1 i2
        obtain⟨o,T⟩:=st
        simp only[]at i1 i2
        subst i2
        refine⟨?_,?_,?_,fun z hz=>?_⟩
        ·show (stepT (o,S'++[k]) lT).1.map sS=_
         rw[vC,List.map_append,hxk,i1,hk];rfl
        ·show (stepT (o,S'++[k]) lT).2=_
         rw[vC]
        ·rw[fW,i3,List.length_append];rfl
        ·rcases List.mem_append.1 hz with g | g
         ·exact i4 z g
         ·rw[List.mem_singleton]at g;exact .inr (.inr g)
       ·rw[if_neg hk]at h;cases h
     ·rw[if_neg h3]at h;cases h
theorem yM {l:List Tk} {t:List Nd} (h:mI l=some t):∃ E,aM l=some (E,[])∧t=aP E:=by
 unfold mI at h
 cases hp:aM l with
 | none=>rw[hp]at h;cases h
 | some q =>
  obtain⟨E,S⟩:=q
  rw[hp]at h
  cases S with
  | nil=>exact⟨E,rfl,(Option.some.inj h).symm⟩
  | cons a S=>cases h
theorem aEX {l:List Tk} (h:(vF l).2=0):∃ t,mI l=some t∧vF l=(t,0)∧zP t=true:=by
 unfold vF at h ⊢
 cases hp:mI l with
 | none=>rw[hp]at h;cases h
 | some t =>
  rw[hp]at h
  simp only[]at h ⊢
  by_cases hc:aL t≠0
  ·rw[if_pos hc]at h;exact absurd h hc
  ·rw[if_neg hc]at h ⊢
   by_cases hi:zP t=false
   ·rw[if_pos hi]at h;cases h
   ·rw[if_neg hi]
    exact⟨t,rfl,rfl,by simpa using hi⟩
theorem QM {l:List Tk} (h:(vF l).2≠0):(vF l).1=[]:=by
 unfold vF at h ⊢
 cases hp:mI l with
 | none=>rfl
 | some t =>
  rw[hp]at h
  simp only[]at h ⊢
  by_cases hc:aL t≠0
  ·rw[if_pos hc]
  ·rw[if_neg hc]at h ⊢
   by_cases hi:zP t=false
   ·rw[if_pos hi]
   ·rw[if_neg hi]at h;exact absurd rfl h
theorem aF5 {l:List Tk} (hl:∀ x ∈ l,x.ch<256) (h:(vF l).2=0):zP (vF l).1=true∧lX (rN (vF l).1) l=true:=by
 obtain⟨t,hp,ht,hi⟩:=aEX h
 rw[ht]
 refine⟨hi,IM ?_⟩
 obtain⟨E,hE,rfl⟩:=yM hp
 obtain⟨i1,i2,i3,i4⟩:=wX l hl E [] hE
 have hb:eR E:=i3
 have hc:=rI hi
 have hok:=((gX _).1 hc).1
 have ho:∀ x ∈ E,tI x:=fun x hx=>by
  rcases i4 x hx with h | ⟨k,pl,rfl⟩ | h
  ·exact .inl h
  ·refine .inr (.inl ⟨k,pl,?_,rfl⟩)
   rintro rfl
   obtain⟨A,B,rfl⟩:=List.append_of_mem hx
   obtain⟨z,hz⟩:=rR hb (x:=mC 46 pl) (.inr rfl)
   have:=hok _ (List.mem_of_getElem? hz)
   have e:bO (aF z (fP (mC 46 pl)))=false:=rfl
   rw[e]at this;cases this
  ·exact .inr (.inr h)
 have hW:=wM E hb ho
 have hsame:=IC (vD (aP E)) (aU (aP E)) E [] ho (fun B y C e hy=>by
  rw[List.nil_append]
  have hx:(aP E)[bI B]?=some (fP y):=by rw[e];exact jI (by rw[← e];exact hb) hy
  show (vD (aP E) (bI B)).1=_
  unfold vD
  rw[hx]
  show (fP y).text=_
  unfold fP;rw[if_pos hy])
 unfold rN
 rw[FE hW]
 show (fU (FJ (aP E) 0 (E.map wL))).map sS=_
 rw[← i1]
 exact aEW _ _ [] [] [] hsame rfl
end Go.Proofs.YtgpihfacmpbpaaaGreatDoor.Fl
namespace Go.Proofs.YtgpihfacmpbpaaaGreatDoor.Fl
open Go.RowKit Tr Nu Nl Cn
def kL (c a:Nat):Bool:=if c=10 then false else if c=32 then decide (a≠32) && decide (a≠0) else true
def FP (st:Option (List Nat)) (c:Nat):Option (List Nat):=match st with
 | none=>none
 | some S=>match S.getLast? with
  | none=>none
  | some a=>if kL c a=true then some (S.dropLast++[c]) else none
def jU (st:Option (List Nat)) (x:Tk):Option (List Nat) :=
 if x.kind=1 then FP st x.ch
 else match st with
 | none=>none
 | some S=>if aK x.ch=false then some S else if x.kind=2 then some (S++[0]) else if S.getLastD 0=32 then none else some S.dropLast
def l5 (l:List Tk):Option (List Nat):=l.foldl jU (some [])
def kM (l:List Tk):Bool:=(l5 l).isNone
def nH (st:Option (List Nat × List Nat)) (x:Ev):Option (List Nat × List Nat):=match st with
 | none=>none
 | some (K,S) =>
  if x.kind=1 then ((Lx.aH x.text).foldl FP (some S)).map (fun S'=>(K,S'))
  else if x.kind=2 then some (K++[x.name],if aK x.name=true then S++[0] else S)
  else if aK (K.getLastD 0)=false then some (K.dropLast,S)
  else if S.getLastD 0=32 then none else some (K.dropLast,S.dropLast)
def xA (E:List Ev):Option (List Nat × List Nat):=E.foldl nH (some ([],[]))
theorem l9 (E:List Ev) (x:Ev):xA (E++[x])=nH (xA E) x:=by unfold xA;rw[List.foldl_append];rfl
theorem xB (l:List Tk) (x:Tk):l5 (l++[x])=jU (l5 l) x:=by unfold l5;rw[List.foldl_append];rfl
theorem AY (x:Ev):nH none x=none:=rfl
theorem AZ:∀ l:List Nat,l.foldl FP none=none
 | []=>rfl
 | _::l=>AZ l
theorem AA {K S:List Nat} {x:Ev} (h:x.kind=1):nH (some (K,S)) x=((Lx.aH x.text).foldl FP (some S)).map (fun S'=>(K,S')):=by unfold nH;simp only[];rw[if_pos h]
theorem OO {K S:List Nat} {x:Ev} (h:x.kind=2):nH (some (K,S)) x=some (K++[x.name],if aK x.name=true then S++[0] else S):=by unfold nH;simp only[];rw[if_neg (by omega),if_pos h]
theorem OP {K S:List Nat} {k:Nat}:nH (some (K++[k],S)) lT=if aK k=false then some (K,S) else if S.getLastD 0=32 then none else some (K,S.dropLast):=by
 unfold nH
 simp only[]
 rw[if_neg (by decide),if_neg (by decide),List.getLastD_concat,List.dropLast_concat]
theorem AB {st:Option (List Nat)} {x:Tk} (h:x.kind=1):jU st x=FP st x.ch:=by unfold jU;rw[if_pos h]
theorem pJ (x:Tk):jU none x=none:=by unfold jU;split<;>rfl
theorem FQ {S:List Nat} {x:Tk} (h:x.kind=2):jU (some S) x=some (if aK x.ch=true then S++[0] else S):=by
 unfold jU
 rw[if_neg (by omega)]
 simp only[]
 cases hf:aK x.ch
 ·rw[if_pos rfl];rfl
 ·rw[if_neg (by decide),if_pos h];rfl
theorem FR {S:List Nat} {x:Tk} (h:x.kind=3):jU (some S) x=if aK x.ch=false then some S else if S.getLastD 0=32 then none else some S.dropLast:=by
 unfold jU
 rw[if_neg (by omega)]
 simp only[]
 split
 ·rfl
 ·rw[if_neg (by omega)]
theorem A4 {c:Nat} (h:c<256):Lx.aH (dS c)=[c]:=Lx.eU [c] (by intro x hx;rw[List.mem_singleton]at hx;omega)
theorem UP (l:List Tk):(∀ x ∈ l,x.ch<256)→∀ E K,aM l=some (E,K)→xA E=(l5 l).map (fun S=>(K,S)):=by
 refine kH (P:=fun l=>(∀ x ∈ l,x.ch<256)→∀ E K,aM l=some (E,K)→xA E=(l5 l).map (fun S=>(K,S))) ?_ ?_ l.length l rfl
 ·intro _ E K h
  cases h
  rfl
 ·intro l x ih hl E K h
  have hx:x.ch<256:=hl x (by simp)
  unfold aM at h
  rw[List.foldl_append]at h
  cases hp:aM l with
  | none =>
   unfold aM at hp
   rw[hp]at h
   have h:eV none x=some (E,K):=h
   cases h
  | some q =>
   obtain⟨E0,K0⟩:=q
   have i1:=ih (fun y hy=>hl y (by simp[hy])) E0 K0 hp
   unfold aM at hp
   rw[hp]at h
   have h:eV (some (E0,K0)) x=some (E,K):=h
   unfold eV at h
   simp only[]at h
   rw[xB]
   by_cases h1:x.kind=1
   ·rw[if_pos h1]at h
    have h:=Option.some.inj h
    obtain⟨rfl,rfl⟩:=Prod.mk.inj h
    rw[AB h1]
    have hz:(jC (dS x.ch) x.place).text.size≠0:=by rw[show (jC (dS x.ch) x.place).text.size=1 from rfl];decide
    have hfirst:qO E0→xA (cD E0 (jC (dS x.ch) x.place))=(FP (l5 l) x.ch).map (fun S=>(K0,S)):=fun he=>by
     rw[aI rfl hz he,l9,i1]
     cases l5 l with
     | none=>rfl
     | some S =>
      show nH (some (K0,S)) _=_
      rw[AA rfl]
      show ((Lx.aH (dS x.ch)).foldl FP (some S)).map _=_
      rw[A4 hx];rfl
    rcases List.eq_nil_or_concat E0 with rfl | ⟨A,y,rfl⟩
    ·exact hfirst cC
    ·rw[List.concat_eq_append]at i1 hfirst ⊢
     by_cases hy:y.kind=1
     ·rw[bX rfl hz hy,l9]
      rw[l9]at i1
      have hy2:({ y with text:=y.text++(jC (dS x.ch) x.place).text }:Ev).kind=1:=hy
      cases hA:xA A with
      | none =>
       rw[hA,AY]at i1
       rw[AY]
       cases hW:l5 l with
       | none=>rfl
       | some S=>rw[hW]at i1;cases i1
      | some q =>
       obtain⟨K1,S1⟩:=q
       rw[hA,AA hy]at i1
       rw[AA hy2]
       show ((Lx.aH (y.text++dS x.ch)).foldl FP (some S1)).map _=_
       rw[Lx.eJ,A4 hx,List.foldl_append]
       generalize (Lx.aH y.text).foldl FP (some S1)=R at i1
       show (FP R x.ch).map _=_
       cases R with
       | none =>
        cases hW:l5 l with
        | none=>rfl
        | some S=>rw[hW]at i1;cases i1
       | some S2 =>
        cases hW:l5 l with
        | none=>rw[hW]at i1;cases i1
        | some S =>
         rw[hW]at i1
         have i1:=Option.some.inj i1
         obtain⟨rfl,rfl⟩:=Prod.mk.inj i1
         rfl
     ·exact hfirst (bK hy)
   ·rw[if_neg h1]at h
    by_cases h2:x.kind=2
    ·rw[if_pos h2]at h
     have h:=Option.some.inj h
     obtain⟨rfl,rfl⟩:=Prod.mk.inj h
     rw[l9,i1]
     cases l5 l with
     | none=>rw[pJ];rfl
     | some S =>
      rw[FQ h2]
      exact OO rfl
    ·rw[if_neg h2]at h
     by_cases h3:x.kind=3
     ·rw[if_pos h3]at h
      rcases List.eq_nil_or_concat K0 with rfl | ⟨K',k,rfl⟩
      ·cases h
      ·rw[List.concat_eq_append]at h i1
       rw[List.getLast?_concat]at h
       simp only[]at h
       by_cases hk:k=x.ch
       ·rw[if_pos hk,List.dropLast_concat]at h
        have h:=Option.some.inj h
        obtain⟨rfl,rfl⟩:=Prod.mk.inj h
        rw[l9,i1]
        cases l5 l with
        | none=>rw[pJ];rfl
        | some S =>
         rw[FR h3]
         show nH (some (K'++[k],S)) lT=_
         rw[OP,hk]
         split
         ·rfl
         ·split<;>rfl
       ·rw[if_neg hk]at h;cases h
     ·rw[if_neg h3]at h;cases h
theorem ZF {S S':List Nat} {c:Nat} (h:FP (some S) c=some S'):S'.length=S.length∧S≠[]:=by
 unfold FP at h
 simp only[]at h
 rcases List.eq_nil_or_concat S with rfl | ⟨T,a,rfl⟩
 ·cases h
 ·rw[List.concat_eq_append]at h ⊢
  rw[List.getLast?_concat]at h
  simp only[]at h
  split at h
  ·have h:=Option.some.inj h
   rw[← h,List.dropLast_concat,List.length_append,List.length_append]
   exact⟨rfl,by simp⟩
  ·cases h
theorem OQ (l:List Tk):∀ E K S,aM l=some (E,K)→l5 l=some S→S.length=(K.filter aK).length:=by
 refine kH (P:=fun l=>∀ E K S,aM l=some (E,K)→l5 l=some S→S.length=(K.filter aK).length) ?_ ?_ l.length l rfl
 ·intro E K S h h2
  cases h
  cases h2
  rfl
 ·intro l x ih E K S h hS
  unfold aM at h
  rw[List.foldl_append]at h
  cases hp:aM l with
  | none =>
   unfold aM at hp
   rw[hp]at h
   have h:eV none x=some (E,K):=h
   cases h
  | some q =>
   obtain⟨E0,K0⟩:=q
   rw[xB]at hS
   cases hW:l5 l with
   | none=>rw[hW,pJ]at hS;cases hS
   | some S0 =>
    have i1:=ih E0 K0 S0 hp hW
    rw[hW]at hS
    unfold aM at hp
    rw[hp]at h
    have h:eV (some (E0,K0)) x=some (E,K):=h
    unfold eV at h
    simp only[]at h
    by_cases h1:x.kind=1
    ·rw[if_pos h1]at h
     have h:=Option.some.inj h
     obtain⟨rfl,rfl⟩:=Prod.mk.inj h
     rw[AB h1]at hS
     rw[(ZF hS).1,i1]
    ·rw[if_neg h1]at h
     by_cases h2:x.kind=2
     ·rw[if_pos h2]at h
      have h:=Option.some.inj h
      obtain⟨rfl,rfl⟩:=Prod.mk.inj h
      rw[FQ h2]at hS
      have hS:=Option.some.inj hS
      rw[← hS,List.filter_append]
      cases hf:aK x.ch
      ·rw[if_neg (by decide),i1];simp[hf]
      ·rw[if_pos rfl];simp[hf,i1]
     ·rw[if_neg h2]at h
      by_cases h3:x.kind=3
      ·rw[if_pos h3]at h
       rcases List.eq_nil_or_concat K0 with rfl | ⟨K',k,rfl⟩
       ·cases h
       ·rw[List.concat_eq_append]at h i1
        rw[List.getLast?_concat]at h
        simp only[]at h
        by_cases hk:k=x.ch
        ·rw[if_pos hk,List.dropLast_concat]at h
         have h:=Option.some.inj h
         obtain⟨rfl,rfl⟩:=Prod.mk.inj h
         rw[FR h3]at hS
         rw[List.filter_append]at i1
         subst hk
         cases hf:aK x.ch
         ·rw[hf,if_pos rfl]at hS
          have hS:=Option.some.inj hS
          rw[← hS,i1];simp[hf]
         ·rw[hf,if_neg (by decide)]at hS
          split at hS
          ·cases hS
          ·have hS:=Option.some.inj hS
           rw[← hS,List.length_dropLast,i1];simp[hf]
        ·rw[if_neg hk]at h;cases h
      ·rw[if_neg h3]at h;cases h
theorem QT {l:List Tk} {x:Tk} {q:List Ev × List Nat} {S:List Nat} (h:aM (l++[x])=some q) (hS:l5 l=some S) (h3:x.kind=3) (hf:aK x.ch=true):S≠[]:=by
 rintro rfl
 unfold aM at h
 rw[List.foldl_append]at h
 cases hp:aM l with
 | none =>
  unfold aM at hp
  rw[hp]at h
  have h:eV none x=some q:=h
  cases h
 | some q0 =>
  obtain⟨E0,K0⟩:=q0
  have i1:=OQ l E0 K0 [] hp hS
  unfold aM at hp
  rw[hp]at h
  have h:eV (some (E0,K0)) x=some q:=h
  unfold eV at h
  simp only[]at h
  rw[if_neg (by omega),if_neg (by omega),if_pos h3]at h
  rcases List.eq_nil_or_concat K0 with rfl | ⟨K',k,rfl⟩
  ·cases h
  ·rw[List.concat_eq_append]at h i1
   rw[List.getLast?_concat]at h
   simp only[]at h
   by_cases hk:k=x.ch
   ·rw[List.filter_append]at i1
    simp[hk,hf]at i1
   ·rw[if_neg hk]at h;cases h
theorem nI {l m:List Tk} {q:List Ev × List Nat} (h:aM (l++m)=some q):∃ q0,aM l=some q0:=by
 unfold aM at h ⊢
 rw[List.foldl_append]at h
 cases hp:l.foldl eV (some ([],[])) with
 | none=>rw[hp,pH]at h;cases h
 | some q0=>exact⟨q0,rfl⟩
theorem LS {l:List Tk} {x:Tk} {q:List Ev × List Nat} (h:aM (l++[x])=some q):x.kind=1∨x.kind=2∨x.kind=3:=by
 obtain⟨⟨E0,K0⟩,h0⟩:=nI h
 unfold aM at h h0
 rw[List.foldl_append,h0]at h
 have h:eV (some (E0,K0)) x=some q:=h
 unfold eV at h
 simp only[]at h
 by_cases h1:x.kind=1
 ·exact .inl h1
 ·by_cases h2:x.kind=2
  ·exact .inr (.inl h2)
  ·by_cases h3:x.kind=3
   ·exact .inr (.inr h3)
   ·rw[if_neg h1,if_neg h2,if_neg h3]at h;cases h
end Go.Proofs.YtgpihfacmpbpaaaGreatDoor.Fl
namespace Go.Proofs.YtgpihfacmpbpaaaGreatDoor.Fl
open Go.RowKit Tr Nu Nl Cn
def YR (t:List Nd) (s:Nat):Nat:=match t[s]? with | some x=>x.kind | none=>0
theorem OR (t:List Nd) (s:Nat):bZ t s=aK (YR t s):=by unfold bZ YR;cases t[s]?<;>rfl
def zS (t:List Nd) (A:List Ev):List Nat:=(bJ A).2.filter (bZ t)
theorem IW:∀ {S S':List Nat},S.Pairwise (·<·)→S'.Pairwise (·<·)→(∀ a,a ∈ S↔a ∈ S')→S=S'
 | [],[],_,_,_=>rfl
 | [],b::S',_,_,h=>absurd ((h b).2 (List.mem_cons_self ..)) (by simp)
 | a::S,[],_,_,h=>absurd ((h a).1 (List.mem_cons_self ..)) (by simp)
 | a::S,b::S',p,q,h=>by
  rw[List.pairwise_cons]at p q
  have hab:a=b:=by
   rcases List.mem_cons.1 ((h a).1 (List.mem_cons_self ..))with e | e
   ·exact e
   ·rcases List.mem_cons.1 ((h b).2 (List.mem_cons_self ..))with e2 | e2
    ·exact e2.symm
    ·have:=q.1 a e
     have:=p.1 b e2
     omega
  subst hab
  rw[IW p.2 q.2 (fun c=>⟨fun hc=>(List.mem_cons.1 ((h c).1 (List.mem_cons_of_mem _ hc))).resolve_left (fun e=>by have:=p.1 c hc;omega),fun hc=>(List.mem_cons.1 ((h c).2 (List.mem_cons_of_mem _ hc))).resolve_left (fun e=>by have:=q.1 c hc;omega)⟩)]
theorem aCF {A B:List Ev} {x:Ev} (hx:x.kind=1∨x.kind=2):bI A<(aP (A++x::B)).length:=by
 rw[dV,bC,mG,dA hx];omega
theorem ZG {A B:List Ev} {x:Ev} (h:eR (A++x::B)) (hx:x.kind=1∨x.kind=2):OS (aP (A++x::B)) (bI A)=zS (aP (A++x::B)) A:=by
 obtain⟨d,h1,-,-⟩:=eN h
 have g:=Nu.good_row h1
 have hn:=gB A
 refine IW ?_ ?_ (fun j=>⟨fun hj=>?_,fun hj=>?_⟩)
 ·unfold OS UQ;exact List.Pairwise.filter _ List.pairwise_lt_range
 ·unfold zS;exact List.Pairwise.filter _ g.vH
 ·obtain⟨j1,j2,j3⟩:=aCG hj
  obtain⟨y,hy,-,he⟩:=mA j2
  unfold zS
  rw[List.mem_filter]
  exact⟨(rF h hx j1 hy).1 (by omega),j2⟩
 ·unfold zS at hj
  rw[List.mem_filter]at hj
  have hjl:=g.lt j hj.1
  obtain⟨y,hy,-,he⟩:=mA hj.2
  have:=(rF h hx (by omega) hy).2 hj.1
  unfold OS UQ
  rw[List.mem_filter,List.mem_range,Bool.and_eq_true,decide_eq_true_eq]
  exact⟨by omega,hj.2,by omega⟩
theorem LU {A B:List Ev} {S:List Nat} {s:Nat} (h:eR (A++lT::B)) (hS:(bJ A).2=S++[s]):∃ y,(aP (A++lT::B))[s]?=some y∧(s:Int)+y.size=(bI A:Int):=by
 obtain⟨d,h1,h2,h3⟩:=eN h
 have g:=Nu.good_row h1
 have hn:=gB A
 have hs:s<(bJ A).1.length:=g.lt s (by rw[hS];simp)
 have hr:=g.vH
 rw[hS]at hr
 have hsn:=(xC hr).1
 unfold aP
 rw[dC]
 obtain⟨T,S0,hTS⟩:∃ T S0,bJ A=(T,S0):=⟨_,_,rfl⟩
 rw[hTS]at hS h2 hn hs ⊢
 simp only[]at hS h2 hn hs
 subst hS
 rw[pK (by decide) (by decide)]
 obtain⟨m,rfl⟩:∃ m,d=m+1:=⟨d - 1,by rw[List.length_append,List.length_singleton]at h2;omega⟩
 rw[tW (by decide) (by decide)]at h3
 refine(sW (I:=fun T' S'=>s<T'.length∧s ∉ S'∧∃ y,T'[s]?=some y∧(s:Int)+y.size=(bI A:Int)) ?_ ?_ ?_ B m 0 _ S (by rw[List.length_append,List.length_singleton]at h2;omega) h3 ?_).2.2
 ·rintro T' S' x - ⟨a,b,y,hy,e⟩
  exact⟨by rw[List.length_append];omega,b,y,by rw[List.getElem?_append_left a];exact hy,e⟩
 ·rintro T' S' x - ⟨a,b,y,hy,e⟩
  exact⟨by rw[List.length_append];omega,fun hm=>by
   rcases List.mem_append.1 hm with h | h
   ·exact b h
   ·rw[List.mem_singleton]at h;omega,y,by rw[List.getElem?_append_left a];exact hy,e⟩
 ·rintro T' S' s' ⟨a,b,y,hy,e⟩
  refine⟨by rw[List.length_modify];exact a,fun hm=>b (List.mem_append_left _ hm),y,?_,e⟩
  rw[gH,hy]
  show some (if s'=s then _ else y)=some y
  rw[if_neg (fun e2=>b (by rw[e2];simp))]
 ·refine⟨by rw[List.length_modify];exact hs,hsn,?_⟩
  refine⟨aF ((T.length:Int) - (s:Int)) T[s],?_,?_⟩
  ·rw[gH,List.getElem?_eq_getElem hs]
   show some (if s=s then _ else _)=_
   rw[if_pos rfl]
  ·show (s:Int)+((T.length:Int) - (s:Int))=_
   omega
theorem yO {t:List Nd} {i f:Nat} {x:Nd} (hx:t[i]?=some x) (h:¬ (x.kind=46∧bY t i=(f:Int))):lG t f i=[]:=by
 rw[dU,hx]
 simp only[]
 rw[if_neg (fun g=>h g.2)]
theorem yP (t:List Nd) (f:Nat):∀ n,n≤f+1→cA t f n=[]
 | 0,_=>rfl
 | n+1,h=>by
  rw[bR,yP t f n (by omega),List.nil_append,dU]
  cases t[n]? with
  | none=>rfl
  | some x=>simp only[];rw[if_neg (fun g=>by omega)]
theorem DQ (t:List Nd) (f:Nat) {m:Nat}:∀ n,m≤n→cA t f m <+: cA t f n
 | 0,h=>by
  obtain rfl:m=0:=by omega
  exact List.prefix_refl _
 | n+1,h=>by
  rcases Nat.eq_or_lt_of_le h with rfl | h2
  ·exact List.prefix_refl _
  ·rw[bR]
   exact(DQ t f n (by omega)).trans (List.prefix_append _ _)
theorem LV {t:List Nd} {f e:Nat} {y:Nd} (hy:t[f]?=some y) (he:(f:Int)+y.size=(e:Int)) (n:Nat) (hn:e≤n):cA t f n=cA t f e:=by
 unfold cA
 rw[wP hy (by omega) n hn]
theorem ZH:∀ b:Fin 256,Lx.jD b.val=true→(b.val≠10→eE b.val=b.val)∧eE b.val≠0∧b.val≠0:=by decide +kernel
theorem aCH:eE 10≠10:=by decide +kernel
theorem A5 {x:Nd} (h:bO x=true):∀ b ∈ Lx.aH x.text,(b≠10→eE b=b)∧eE b≠0∧b≠0:=fun b hb=>by
 unfold bO at h
 rw[Bool.and_eq_true]at h
 have hlt:b<256:=by
  unfold Lx.aH at hb
  obtain⟨u,-,e⟩:=List.mem_map.1 hb
  rw[← e];exact u.toNat_lt
 exact ZH ⟨b,hlt⟩ (List.all_eq_true.1 h.2 b hb)
theorem IX {t:List Nd} (hok:∀ x ∈ t,bO x=true) (f:Nat):∀ n,∀ b ∈ cA t f n,b≠0
 | 0,b,hb=>by cases hb
 | n+1,b,hb=>by
  rw[bR]at hb
  rcases List.mem_append.1 hb with h | h
  ·exact IX hok f n b h
  ·rw[dU]at h
   cases hx:t[n]? with
   | none=>rw[hx]at h;cases h
   | some x =>
    rw[hx]at h
    simp only[]at h
    split at h
    ·obtain⟨c,hc,rfl⟩:=List.mem_map.1 h
     exact(A5 (hok x (List.mem_of_getElem? hx)) c hc).2.1
    ·cases h
def okW (a:Nat):List Nat→Bool
 | []=>true
 | c::B=>kL c a && okW c B
theorem IY:∀ (B S:List Nat) (a:Nat),B.foldl FP (some (S++[a]))=if okW a B=true then some (S++[kG a B]) else none
 | [],S,a=>rfl
 | c::B,S,a=>by
  rw[List.foldl_cons]
  have e:FP (some (S++[a])) c=if kL c a=true then some (S++[c]) else none:=by
   unfold FP;simp only[];rw[List.getLast?_concat];simp only[];rw[List.dropLast_concat]
  rw[e]
  unfold okW
  cases hs:kL c a
  ·rw[if_neg (by decide),AZ];rfl
  ·rw[if_pos rfl,IY B S c,DD,Bool.true_and]
def A8 (a:Nat):Nat:=if a=0 then 32 else a
theorem QU (c a:Nat):kL c a=true↔c≠10∧¬ (c=32∧A8 a=32):=by
 unfold kL A8
 by_cases h1:c=10
 ·rw[if_pos h1];exact⟨fun h=>Bool.noConfusion h,fun h=>absurd h1 h.1⟩
 ·rw[if_neg h1]
  by_cases h2:c=32
  ·rw[if_pos h2,Bool.and_eq_true,decide_eq_true_eq,decide_eq_true_eq]
   by_cases h3:a=0
   ·rw[if_pos h3];exact⟨fun h=>absurd h3 h.2,fun h=>absurd ⟨h2,rfl⟩ h.2⟩
   ·rw[if_neg h3];exact⟨fun h=>⟨h1,fun g=>h.1 g.2⟩,fun h=>⟨fun g=>h.2 ⟨h2,g⟩,h3⟩⟩
  ·rw[if_neg h2];exact⟨fun _=>⟨h1,fun g=>h2 g.1⟩,fun _=>rfl⟩
theorem IZ:∀ (B:List Nat) (a:Nat),(∀ b ∈ B,b≠0)→(okW a B=true↔(∀ b ∈ B,b≠10)∧kU (A8 a) B)
 | [],a,_=>⟨fun _=>⟨by simp,trivial⟩,fun _=>rfl⟩
 | c::B,a,h=>by
  have hc:=h c (List.mem_cons_self ..)
  have ih:=IZ B c (fun b hb=>h b (List.mem_cons_of_mem _ hb))
  have e:A8 c=c:=if_neg hc
  unfold okW
  rw[Bool.and_eq_true,ih,e,QU]
  constructor
  ·rintro⟨⟨h1,h2⟩,h3,h4⟩
   exact⟨fun b hb=>by
    rcases List.mem_cons.1 hb with rfl | hb
    ·exact h1
    ·exact h3 b hb,h2,h4⟩
  ·rintro⟨h1,h2,h3⟩
   exact⟨⟨h1 c (List.mem_cons_self ..),h2⟩,fun b hb=>h1 b (List.mem_cons_of_mem _ hb),h3⟩
theorem QV {Q:List Nat} (h:∀ b ∈ Q,b≠0):A8 (kG 0 Q)=kG 32 Q:=by
 rcases List.eq_nil_or_concat Q with rfl | ⟨Q',c,rfl⟩
 ·rfl
 ·rw[List.concat_eq_append]at h ⊢
  rw[kV,kV]
  exact if_neg (h c (by simp))
theorem UR {Q:List Nat} (h0:Q≠[]):kG 0 Q=kG 32 Q:=by
 rcases List.eq_nil_or_concat Q with rfl | ⟨Q',c,rfl⟩
 ·exact absurd rfl h0
 ·rw[List.concat_eq_append,kV,kV]
theorem US (a:Nat) (l m:List Nat):kG a (l++m)=kG (kG a l) m:=by
 rcases List.eq_nil_or_concat m with rfl | ⟨m',c,rfl⟩
 ·rw[List.append_nil];rfl
 ·rw[List.concat_eq_append,← List.append_assoc,kV,kV]
def C2 (t:List Nd) (A:List Ev):Option (List Nat × List Nat)→Prop
 | none=>¬ Cn.Clean t
 | some (K,S)=>K=(bJ A).2.map (YR t)∧S=(zS t A).map (fun f=>kG 0 (cA t f (bI A)))∧(∀ f,kU 32 (cA t f (bI A))∧(f ∉ zS t A→cA t f (bI A)=[]∨kG 32 (cA t f (bI A))≠32))∧∀ j x,j<bI A→t[j]?=some x→∀ b ∈ Lx.aH x.text,eE b=b
theorem UT {A B:List Ev} {s:ByteArray} {pl:Int} (hb:eR (A++jC s pl::B)) (hc:aL (aP (A++jC s pl::B))=0) {K S:List Nat} (h:C2 (aP (A++jC s pl::B)) A (some (K,S))):C2 (aP (A++jC s pl::B)) (A++[jC s pl]) (nH (some (K,S)) (jC s pl)):=by
 have hx:=jI hb (x:=jC s pl) rfl
 have har:=ZG hb (x:=jC s pl) (.inl rfl)
 have hin:=aCF (A:=A) (B:=B) (x:=jC s pl) (.inl rfl)
 generalize aP (A++jC s pl::B)=t at *
 have hx:t[bI A]?=some ⟨46,s,pl,1⟩:=hx
 have hok:=((gX t).1 hc).1
 obtain⟨f,hf⟩:=wU hc (yL hc) hx rfl
 have hlast:=pL t (bI A)
 rw[har,hf]at hlast
 obtain⟨F',hF⟩:∃ F',zS t A=F'++[f]:=by
  rcases List.eq_nil_or_concat (zS t A)with h0 | ⟨F',g,h0⟩
  ·rw[h0]at hlast
   have hlast:(f:Int) = -1:=hlast
   omega
  ·rw[List.concat_eq_append]at h0
   rw[h0,List.getLast?_concat]at hlast
   have hlast:(f:Int)=(g:Int):=hlast
   obtain rfl:f=g:=by omega
   exact⟨F',h0⟩
 obtain⟨h1,h2,h3,h4⟩:=h
 have hnod:bI (A++[jC s pl])=bI A+1:=by rw[bC,dA (.inl rfl)]
 have hst:(bJ (A++[jC s pl])).2=(bJ A).2:=by
  rw[dC];show (kB (bJ A) (jC s pl)).2=_
  rw[show bJ A=((bJ A).1,(bJ A).2) from rfl,gK rfl]
 have hfl:zS t (A++[jC s pl])=zS t A:=by unfold zS;rw[hst]
 have hby:=A5 (hok _ (List.mem_of_getElem? hx))
 have hby:∀ b ∈ Lx.aH s,(b≠10→eE b=b)∧eE b≠0∧b≠0:=hby
 have hfA:f<bI A:=(eT hf).1
 have hnf:lG t f (bI A)=(Lx.aH s).map eE:=by
  rw[dU,hx]
  show (if f<bI A∧(46:Nat)=46∧bY t (bI A)=(f:Int) then _ else _)=_
  rw[if_pos ⟨hfA,rfl,hf⟩]
 have hng:∀ g,g≠f→cA t g (bI A+1)=cA t g (bI A):=fun g hg=>by
  rw[bR,yO hx (fun h=>by have:=h.2;rw[hf]at this;omega),List.append_nil]
 have hcf:cA t f (bI A+1)=cA t f (bI A)++(Lx.aH s).map eE:=by rw[bR,hnf]
 have hnz:=IX hok f (bI A)
 have hot:=IZ (Lx.aH s) (kG 0 (cA t f (bI A))) (fun b hb=>(hby b hb).2.2)
 rw[QV hnz]at hot
 rw[AA rfl]
 show C2 t (A++[jC s pl]) (((Lx.aH s).foldl FP (some S)).map fun S'=>(K,S'))
 rw[h2,hF,List.map_append]
 show C2 t (A++[jC s pl]) (((Lx.aH s).foldl FP (some (F'.map (fun f=>kG 0 (cA t f (bI A)))++[kG 0 (cA t f (bI A))]))).map fun S'=>(K,S'))
 rw[IY]
 by_cases hk:okW (kG 0 (cA t f (bI A))) (Lx.aH s)=true
 ·rw[if_pos hk]
  obtain⟨k1,k2⟩:=hot.1 hk
  have hid:(Lx.aH s).map eE=Lx.aH s:=sP (fun b hb=>(hby b hb).1 (k1 b hb))
  rw[hid]at hcf
  have hnF:f ∉ F':=by
   have hr:(zS t A).Pairwise (·<·):=by
    obtain⟨d,hd,-,-⟩:=eN hb
    unfold zS;exact List.Pairwise.filter _ (Nu.good_row hd).vH
   rw[hF]at hr
   exact(xC hr).1
  refine⟨by rw[hst];exact h1,?_,fun g=>?_,fun j x hj hxj=>?_⟩
  ·rw[hfl,hF,List.map_append,hnod]
   congr 1
   ·refine List.map_congr_left (fun g hg=>?_)
    rw[hng g (fun e=>hnF (e▸hg))]
   ·show _=[kG 0 (cA t f (bI A+1))]
    rw[hcf,US]
  ·rw[hnod,hfl]
   by_cases hg:g=f
   ·subst hg
    rw[hcf]
    exact⟨(oI _ _ _).2 ⟨(h3 g).1,k2⟩,fun hn=>absurd (by rw[hF];simp) hn⟩
   ·rw[hng g hg];exact h3 g
  ·rw[hnod]at hj
   rcases Nat.eq_or_lt_of_le (show j≤bI A by omega)with e | e
   ·subst e
    rw[hx]at hxj
    cases hxj
    exact fun b hb=>(hby b hb).1 (k1 b hb)
   ·exact h4 j x e hxj
 ·rw[if_neg hk]
  show ¬ Cn.Clean t
  intro hC
  refine hk (hot.2 ?_)
  have hby2:=hC.byte _ (List.mem_of_getElem? hx)
  have hby2:∀ b ∈ Lx.aH s,eE b=b:=hby2
  refine⟨fun b hb e=>aCH (by have:=hby2 b hb;rwa [e]at this),?_⟩
  have ht:=(hC.flow f).1
  obtain⟨R,hR⟩:=DQ t f (m:=bI A+1) t.length hin
  rw[← hR,oI,hcf,oI,sP hby2]at ht
  exact ht.1.2
theorem UU {A B:List Ev} {k:Nat} {pl:Int} (hk46:k≠46) (hb:eR (A++mC k pl::B)) {K S:List Nat} (h:C2 (aP (A++mC k pl::B)) A (some (K,S))):C2 (aP (A++mC k pl::B)) (A++[mC k pl]) (nH (some (K,S)) (mC k pl)):=by
 obtain⟨z,hx⟩:=rR hb (x:=mC k pl) (.inr rfl)
 generalize aP (A++mC k pl::B)=t at *
 have hx:t[bI A]?=some ⟨k,aA,pl,z⟩:=hx
 obtain⟨h1,h2,h3,h4⟩:=h
 have hnod:bI (A++[mC k pl])=bI A+1:=by rw[bC,dA (.inr rfl)]
 have hst:(bJ (A++[mC k pl])).2=(bJ A).2++[bI A]:=by
  rw[dC];show (kB (bJ A) (mC k pl)).2=_
  rw[show bJ A=((bJ A).1,(bJ A).2) from rfl,jL rfl,gB]
 have hkd:YR t (bI A)=k:=by unfold YR;rw[hx]
 have hfl:zS t (A++[mC k pl])=zS t A++(if aK k=true then [bI A] else []):=by
  unfold zS
  rw[hst,List.filter_append]
  congr 1
  simp only[List.filter_cons,List.filter_nil,OR,hkd]
 have hng:∀ g,cA t g (bI A+1)=cA t g (bI A):=fun g=>by
  rw[bR,yO hx (fun h=>hk46 h.1),List.append_nil]
 have h0:cA t (bI A) (bI A+1)=[]:=yP t _ _ (Nat.le_refl _)
 rw[OO rfl]
 refine⟨by rw[hst,List.map_append,h1];show _=_++[YR t (bI A)];rw[hkd];rfl,?_,fun g=>?_,fun j x hj hxj=>?_⟩
 ·show (if aK k=true then S++[0] else S)=_
  rw[hfl,List.map_append,hnod]
  have e:(zS t A).map (fun f=>kG 0 (cA t f (bI A+1)))=S:=by
   rw[h2]
   exact List.map_congr_left (fun g _=>by rw[hng g])
  rw[e]
  by_cases hf:aK k=true
  ·rw[if_pos hf,if_pos hf]
   show _=S++[kG 0 (cA t (bI A) (bI A+1))]
   rw[h0];rfl
  ·rw[if_neg hf,if_neg hf];simp
 ·rw[hnod,hng g,hfl]
  exact⟨(h3 g).1,fun hn=>(h3 g).2 (fun hm=>hn (List.mem_append_left _ hm))⟩
 ·rw[hnod]at hj
  rcases Nat.eq_or_lt_of_le (show j≤bI A by omega)with e | e
  ·subst e
   rw[hx]at hxj
   cases hxj
   intro b hb
   cases hb
  ·exact h4 j x e hxj
theorem QW {A B:List Ev} (hb:eR (A++lT::B)) {K S:List Nat} (h:C2 (aP (A++lT::B)) A (some (K,S))):C2 (aP (A++lT::B)) (A++[lT]) (nH (some (K,S)) lT):=by
 obtain⟨d,hd1,hd2,hd3⟩:=eN hb
 have hd0:0<(bJ A).2.length:=by
  cases d with
  | zero=>rw[pE (by decide) (by decide)]at hd3;cases hd3
  | succ m=>omega
 obtain⟨S',s,hS⟩:=pM hd0
 obtain⟨y,hy,hye⟩:=LU hb hS
 have hlen:bI A≤(aP (A++lT::B)).length:=by rw[dV,bC];omega
 generalize aP (A++lT::B)=t at *
 obtain⟨h1,h2,h3,h4⟩:=h
 have hnod:bI (A++[lT])=bI A:=by rw[bC];rfl
 have hst:(bJ (A++[lT])).2=S':=by
  rw[dC];show (kB (bJ A) lT).2=_
  rw[show bJ A=((bJ A).1,(bJ A).2) from rfl,hS,pK (by decide) (by decide)]
 have hfl:zS t (A++[lT])=S'.filter (bZ t):=by unfold zS;rw[hst]
 have hflA:zS t A=S'.filter (bZ t)++(if aK (YR t s)=true then [s] else []):=by
  unfold zS
  rw[hS,List.filter_append]
  congr 1
  simp only[List.filter_cons,List.filter_nil,OR]
 have hK:K=S'.map (YR t)++[YR t s]:=by rw[h1,hS,List.map_append];rfl
 rw[hK,OP]
 cases hf:aK (YR t s)
 ·rw[if_pos rfl]
  rw[hf,if_neg (by decide),List.append_nil]at hflA
  have hflE:zS t (A++[lT])=zS t A:=by rw[hfl,hflA]
  exact⟨by rw[hst],by rw[hflE,hnod];exact h2,fun g=>by rw[hflE,hnod];exact h3 g,fun j x hj hxj=>h4 j x (by rw[hnod]at hj;exact hj) hxj⟩
 ·rw[if_neg (by decide)]
  rw[hf,if_pos rfl]at hflA
  have hS2:S=(S'.filter (bZ t)).map (fun f=>kG 0 (cA t f (bI A)))++[kG 0 (cA t s (bI A))]:=by rw[h2,hflA,List.map_append];rfl
  rw[hS2,List.getLastD_concat,List.dropLast_concat]
  by_cases h32:kG 0 (cA t s (bI A))=32
  ·rw[if_pos h32]
   show ¬ Cn.Clean t
   intro hC
   have hfin:=(hC.flow s).2
   rw[LV hy hye t.length hlen]at hfin
   by_cases h0:cA t s (bI A)=[]
   ·rw[h0]at h32;cases h32
   ·rcases hfin with e | e
    ·exact h0 e
    ·exact e (by rw[← UR h0];exact h32)
  ·rw[if_neg h32]
   refine⟨by rw[hst],by rw[hfl,hnod],fun g=>?_,fun j x hj hxj=>h4 j x (by rw[hnod]at hj;exact hj) hxj⟩
   rw[hnod,hfl]
   refine⟨(h3 g).1,fun hn=>?_⟩
   by_cases hg:g=s
   ·subst hg
    by_cases h0:cA t g (bI A)=[]
    ·exact .inl h0
    ·exact .inr (by rw[← UR h0];exact h32)
   ·exact(h3 g).2 (fun hm=>by
     rw[hflA]at hm
     rcases List.mem_append.1 hm with h | h
     ·exact hn h
     ·rw[List.mem_singleton]at h;exact hg h)
theorem ZI {E:List Ev} (hb:eR E) (ho:∀ x ∈ E,tI x) (hc:aL (aP E)=0) (A:List Ev):∀ B,E=A++B→C2 (aP E) A (xA A):=by
 refine kH (P:=fun A=>∀ B,E=A++B→C2 (aP E) A (xA A)) ?_ ?_ A.length A rfl
 ·intro B _
  exact⟨rfl,rfl,fun f=>⟨trivial,fun _=>.inl rfl⟩,fun j x hj=>absurd hj (Nat.not_lt_zero _)⟩
 ·intro A x ih B e
  have e2:E=A++x::B:=by rw[e];simp
  have i1:=ih (x::B) e2
  rw[l9]
  cases hr:xA A with
  | none=>rw[hr]at i1;exact i1
  | some q =>
   obtain⟨K,S⟩:=q
   rw[hr]at i1
   have hx:=ho x (by rw[e2];simp)
   subst e2
   rcases hx with⟨s,pl,rfl⟩ | ⟨k,pl,hk,rfl⟩ | rfl
   ·exact UT hb hc i1
   ·exact UU hk hb i1
   ·exact QW hb i1
theorem QX {E:List Ev} (hb:eR E) (ho:∀ x ∈ E,tI x) (hc:aL (aP E)=0):xA E≠none↔Cn.Clean (aP E):=by
 have h:=ZI hb ho hc E [] (List.append_nil E).symm
 cases hr:xA E with
 | none=>rw[hr]at h;exact⟨fun g=>absurd rfl g,fun g=>absurd g h⟩
 | some q =>
  obtain⟨K,S⟩:=q
  rw[hr]at h
  obtain⟨-,-,h3,h4⟩:=h
  refine⟨fun _=>⟨fun f=>?_,fun x hx=>?_⟩,fun _ g=>by cases g⟩
  ·have hf:zS (aP E) E=[]:=by unfold zS;rw[eR.none hb];rfl
   have:=h3 f
   rw[← dV,hf]at this
   exact⟨this.1,this.2 (by simp)⟩
  ·obtain⟨j,hj⟩:=List.mem_iff_getElem?.1 hx
   have hl:=(List.getElem?_eq_some_iff.1 hj).1
   rw[dV]at hl
   exact h4 j x hl hj
end Go.Proofs.YtgpihfacmpbpaaaGreatDoor.Fl
namespace Go.Proofs.YtgpihfacmpbpaaaGreatDoor.Fl
open Go.RowKit Tr Nu Nl Cn
def mK (l:List Tk):List Nd × Nat:=match mI l with
 | none=>([],2)
 | some t=>if kM l=true then ([],2) else if aL t≠0 then ([],aL t) else (t,0)
def FL (l:List Tk):Prop:=∀ E,aM l=some (E,[])→(aP E).length≤9000∧∀ x ∈ aP E,x.text.size≤9000
theorem UW {E E':List Ev} {K K':List Nat} {x:Tk} (h:Rd E) (hs:eV (some (E,K)) x=some (E',K')):Rd E':=by
 unfold eV at hs
 simp only[]at hs
 by_cases h1:x.kind=1
 ·rw[if_pos h1]at hs
  have hs:=Option.some.inj hs
  obtain⟨rfl,-⟩:=Prod.mk.inj hs
  exact h.step _
 ·rw[if_neg h1]at hs
  by_cases h2:x.kind=2
  ·rw[if_pos h2]at hs
   have hs:=Option.some.inj hs
   obtain⟨rfl,-⟩:=Prod.mk.inj hs
   exact .node h (show (2:Nat)≠1 by decide)
  ·rw[if_neg h2]at hs
   by_cases h3:x.kind=3
   ·rw[if_pos h3]at hs
    cases hK:K.getLast? with
    | none=>rw[hK]at hs;cases hs
    | some k =>
     rw[hK]at hs
     simp only[]at hs
     by_cases hk:k=x.ch
     ·rw[if_pos hk]at hs
      have hs:=Option.some.inj hs
      obtain⟨rfl,-⟩:=Prod.mk.inj hs
      exact .node h (show (3:Nat)≠1 by decide)
     ·rw[if_neg hk]at hs;cases hs
   ·rw[if_neg h3]at hs;cases hs
theorem UX (l:List Tk):∀ E K,aM l=some (E,K)→Rd E:=by
 refine kH (P:=fun l=>∀ E K,aM l=some (E,K)→Rd E) ?_ ?_ l.length l rfl
 ·intro E K h
  cases h
  exact .nil
 ·intro l x ih E K h
  obtain⟨⟨E0,K0⟩,h0⟩:=nI h
  have i1:=ih E0 K0 h0
  unfold aM at h h0
  rw[List.foldl_append,h0]at h
  exact UW i1 h
theorem LW {t u:List Nd} (h:t.map bare=u.map bare) (hC:Cn.Clean t):Cn.Clean u:=by
 have hl:t.length=u.length:=by have:=congrArg List.length h;simpa using this
 have hat:∀ i:Nat,(u[i]?).map bare=(t[i]?).map bare:=fun i=>by rw[← List.getElem?_map,← List.getElem?_map,h]
 have hb:G7 t u:=fun i=>by
  have:=congrArg (Option.map fun(x:Nd)=>(x.kind,x.size)) (hat i)
  rw[Option.map_map,Option.map_map]at this
  exact this
 have hn:∀ f i,lG u f i=lG t f i:=fun f i=>by
  rw[dU,dU,lH hb]
  have:=hat i
  cases hu:u[i]? with
  | none =>
   cases ht:t[i]? with
   | none=>rfl
   | some y=>rw[hu,ht]at this;cases this
  | some x =>
   cases ht:t[i]? with
   | none=>rw[hu,ht]at this;cases this
   | some y =>
    rw[hu,ht]at this
    have e:bare x=bare y:=Option.some.inj this
    have e1:x.kind=y.kind:=(show (bare x).kind=(bare y).kind by rw[e])
    have e2:x.text=y.text:=(show (bare x).text=(bare y).text by rw[e])
    simp only[e1,e2]
 have hc:∀ f n,cA u f n=cA t f n:=fun f n=>by
  induction n with
  | zero=>rfl
  | succ n ih=>rw[bR,bR,ih,hn]
 refine⟨fun f=>by rw[hc,← hl];exact hC.flow f,fun x hx=>?_⟩
 have hm:bare x ∈ u.map bare:=List.mem_map.2 ⟨x,hx,rfl⟩
 rw[← h]at hm
 obtain⟨y,hy,e⟩:=List.mem_map.1 hm
 have e2:y.text=x.text:=(show (bare y).text=(bare x).text by rw[e])
 rw[← e2]
 exact hC.byte y hy
theorem UY {l:List Tk} (hl:∀ x ∈ l,x.ch<256) {t:List Nd} (hp:mI l=some t) (hc:aL t=0):zP t=true↔kM l=false:=by
 obtain⟨E,hE,rfl⟩:=yM hp
 obtain⟨i1,i2,i3,i4⟩:=wX l hl E [] hE
 have hb:eR E:=i3
 have hok:=((gX _).1 hc).1
 have ho:∀ x ∈ E,tI x:=fun x hx=>by
  rcases i4 x hx with h | ⟨k,pl,rfl⟩ | h
  ·exact .inl h
  ·refine .inr (.inl ⟨k,pl,?_,rfl⟩)
   rintro rfl
   obtain⟨A,B,rfl⟩:=List.append_of_mem hx
   obtain⟨z,hz⟩:=rR hb (x:=mC 46 pl) (.inr rfl)
   have:=hok _ (List.mem_of_getElem? hz)
   have e:bO (aF z (fP (mC 46 pl)))=false:=rfl
   rw[e]at this;cases this
  ·exact .inr (.inr h)
 have hrc:=QX hb ho hc
 have hrs:=UP l hl E [] hE
 have hw:kM l=false↔xA E≠none:=by
  unfold kM
  rw[hrs]
  cases l5 l with
  | none=>exact⟨fun h=>Bool.noConfusion h,fun h=>absurd rfl h⟩
  | some S=>exact⟨fun _=>(fun h=>by cases h),fun _=>rfl⟩
 rw[hw,hrc]
 constructor
 ·intro hi
  have hsame:=DI _ _ (by unfold zP at hi;rw[Bool.and_eq_true]at hi;exact hi.2)
  have hW:=wM E hb ho
  exact LW hsame.symm (AP hW (rH hc))
 ·intro hC
  have:=tM hb ho (UX l E [] hE) hc hC
  unfold zP
  rw[decide_eq_true hc,wV _ _ this.symm];rfl
theorem IT {l:List Tk} (hl:∀ x ∈ l,x.ch<256):(mK l).1=(vF l).1∧((mK l).2=0↔(vF l).2=0):=by
 unfold vF mK
 cases hp:mI l with
 | none=>exact⟨rfl,Iff.rfl⟩
 | some t =>
  simp only[]
  by_cases hc:aL t≠0
  ·rw[if_pos hc,if_pos hc]
   by_cases hw:kM l=true
   ·rw[if_pos hw];exact⟨rfl,(fun h=>by cases h),(fun h=>absurd h hc)⟩
   ·rw[if_neg hw];exact⟨rfl,Iff.rfl⟩
  ·have hc0:aL t=0:=by omega
   rw[if_neg hc,if_neg hc]
   have hiw:=UY hl hp hc0
   by_cases hw:kM l=true
   ·have hi:zP t=false:=by
     cases h:zP t
     ·rfl
     ·rw[hiw.1 h]at hw;cases hw
    rw[if_pos hw,if_pos hi];exact⟨rfl,Iff.rfl⟩
   ·have hi:zP t=true:=hiw.2 (by simpa using hw)
    rw[if_neg hw,if_neg (by rw[hi];exact fun h=>Bool.noConfusion h)];exact⟨rfl,Iff.rfl⟩
end Go.Proofs.YtgpihfacmpbpaaaGreatDoor.Fl
namespace Go.Proofs.YtgpihfacmpbpaaaGreatDoor.Fl
open Go.RowKit Tr Nu Nl Cn
def DR (l:List Tk):Nat→Nat→Nat
 | 0,e=>e
 | n+1,e=>match l[e]? with | some x=>if x.kind=1 then DR l n (e+1) else e | none=>e
def gE (l:List Tk) (f:Nat):Nat:=max (DR l l.length f) (f+1)
def UZ (l:List Tk) (f e:Nat):Prop:=f≤e∧e≤l.length∧(∀ j x,f≤j→j<e→l[j]?=some x→x.kind=1)∧∀ x,l[e]?=some x→x.kind≠1
theorem A9 (l:List Tk) (f:Nat):∀ n e,l.length - e≤n→f≤e→e≤l.length→(∀ j x,f≤j→j<e→l[j]?=some x→x.kind=1)→UZ l f (DR l n e)
 | 0,e,hn,hf,he,hj=>⟨hf,he,hj,fun x hx=>by
  have:=(List.getElem?_eq_some_iff.1 hx).1
  have e2:DR l 0 e=e:=rfl
  omega⟩
 | n+1,e,hn,hf,he,hj=>by
  unfold DR
  cases hx:l[e]? with
  | none=>exact⟨hf,he,hj,fun x h=>by rw[hx]at h;cases h⟩
  | some x =>
   simp only[]
   have hl:=(List.getElem?_eq_some_iff.1 hx).1
   by_cases hk:x.kind=1
   ·rw[if_pos hk]
    refine A9 l f n (e+1) (by omega) (by omega) (by omega) (fun j y h1 h2 hy=>?_)
    rcases Nat.eq_or_lt_of_le (show j≤e by omega)with rfl | h3
    ·rw[hx]at hy;cases hy;exact hk
    ·exact hj j y h1 h3 hy
   ·rw[if_neg hk]
    exact⟨hf,he,hj,fun y hy=>by rw[hx]at hy;cases hy;exact hk⟩
theorem UZ.unique {l:List Tk} {f e e':Nat} (h:UZ l f e) (h':UZ l f e'):e=e':=by
 obtain⟨a1,a2,a3,a4⟩:=h
 obtain⟨b1,b2,b3,b4⟩:=h'
 rcases Nat.lt_trichotomy e e' with h | h | h
 ·have hx:=List.getElem?_eq_getElem (l:=l) (i:=e) (by omega)
  exact absurd (b3 e _ a1 h hx) (a4 _ hx)
 ·exact h
 ·have hx:=List.getElem?_eq_getElem (l:=l) (i:=e') (by omega)
  exact absurd (a3 e' _ b1 h hx) (b4 _ hx)
theorem FT {l:List Tk} {f e:Nat} (h:UZ l f e) (hf:f≤l.length):gE l f=max e (f+1):=by
 unfold gE
 rw[(A9 l f l.length f (by omega) (Nat.le_refl _) hf (fun j x h1 h2=>by omega)).unique h]
theorem nJ {l:List Tk} {f:Nat} {x:Tk} (hx:l[f]?=some x):f<gE l f∧gE l f≤l.length∧(x.kind=1→(∀ j y,f≤j→j<gE l f→l[j]?=some y→y.kind=1)∧∀ y,l[gE l f]?=some y→y.kind≠1)∧(x.kind≠1→gE l f=f+1):=by
 have hl:=(List.getElem?_eq_some_iff.1 hx).1
 have h:=A9 l f l.length f (by omega) (Nat.le_refl _) (by omega) (fun j x h1 h2=>by omega)
 have hp:=FT h (by omega)
 rw[hp]
 obtain⟨a1,a2,a3,a4⟩:=h
 generalize DR l l.length f=e at *
 refine⟨by omega,by omega,fun hk=>?_,fun hk=>?_⟩
 ·have:f<e:=by
   rcases Nat.eq_or_lt_of_le a1 with h | h
   ·rw[← h]at a4
    exact absurd hk (a4 x hx)
   ·exact h
  rw[show max e (f+1)=e by omega]
  exact⟨a3,a4⟩
 ·rcases Nat.eq_or_lt_of_le a1 with h | h
  ·omega
  ·exact absurd (a3 f x (Nat.le_refl _) h hx) hk
def hH (l:List Tk):Nat→Nat→List (Nat × Nat)
 | 0,_=>[]
 | n+1,f=>if f<l.length then (f,gE l f)::hH l n (gE l f) else []
theorem yQ (l:List Tk):∀ n m f,l.length - f≤n→l.length - f≤m→hH l n f=hH l m f
 | 0,0,f,_,_=>rfl
 | 0,m+1,f,h,_=>by unfold hH;rw[if_neg (by omega)]
 | n+1,0,f,_,h=>by
  have e:hH l 0 f=[]:=rfl
  rw[e];unfold hH;rw[if_neg (by omega)]
 | n+1,m+1,f,h1,h2=>by
  unfold hH
  by_cases hf:f<l.length
  ·rw[if_pos hf,if_pos hf]
   have hp:=(nJ (List.getElem?_eq_getElem hf)).1
   rw[yQ l n m (gE l f) (by omega) (by omega)]
  ·rw[if_neg hf,if_neg hf]
def dD (l:List Tk) (f:Nat):List (Nat × Nat):=hH l (l.length - f) f
theorem iL {l:List Tk} {f:Nat} (h:f<l.length):dD l f=(f,gE l f)::dD l (gE l f):=by
 unfold dD
 obtain⟨n,hn⟩:∃ n,l.length - f=n+1:=⟨l.length - f - 1,by omega⟩
 have hp:=(nJ (List.getElem?_eq_getElem h)).1
 rw[hn]
 show (if f<l.length then (f,gE l f)::hH l n (gE l f) else [])=_
 rw[if_pos h,yQ l n (l.length - gE l f) (gE l f) (by omega) (Nat.le_refl _)]
theorem BA {l:List Tk} {f:Nat} (h:l.length≤f):dD l f=[]:=by
 unfold dD
 rw[show l.length - f=0 by omega];rfl
def fC (l:List Tk) (pre:List (Nat × Nat)) (p:Nat):Prop:=p≤l.length∧dD l 0=pre++dD l p
theorem fC.zero (l:List Tk):fC l [] 0:=⟨Nat.zero_le _,rfl⟩
theorem fC.succ {l:List Tk} {pre:List (Nat × Nat)} {p:Nat} (h:fC l pre p) (hp:p<l.length):fC l (pre++[(p,gE l p)]) (gE l p):=by
 refine⟨(nJ (List.getElem?_eq_getElem hp)).2.1,?_⟩
 rw[h.2,iL hp];simp
theorem fC.next {l:List Tk} {pre:List (Nat × Nat)} {p:Nat} {x:Nat × Nat} (h:fC l pre p) (hx:pre++[x] <+: dD l 0):p<l.length∧x=(p,gE l p):=by
 rw[h.2,List.prefix_append_right_inj]at hx
 rcases Nat.lt_or_ge p l.length with hp | hp
 ·rw[iL hp]at hx
  obtain⟨R,hR⟩:=hx
  exact⟨hp,(List.cons.inj hR).1⟩
 ·rw[BA hp]at hx
  obtain⟨R,hR⟩:=hx
  cases hR
theorem fC.front {l:List Tk} {pre:List (Nat × Nat)} {p:Nat} (h:fC l pre p):pre <+: dD l 0:=⟨_,h.2.symm⟩
theorem fC.all {l:List Tk} {p:Nat} (h:fC l (dD l 0) p):p=l.length:=by
 obtain⟨h1,h2⟩:=h
 rcases Nat.lt_or_ge p l.length with hp | hp
 ·have:dD l p=[]:=by
   have:=congrArg List.length h2
   rw[List.length_append]at this
   exact List.eq_nil_of_length_eq_zero (by omega)
  rw[iL hp]at this;cases this
 ·omega
def I0 (st:List Nd × List Nat) (x:Ev):List Nd × List Nat :=
 if x.kind=1 then (st.1++[fP x],st.2)
 else if x.kind=2 then (st.1++[⟨x.name,aA,x.place,0⟩],st.2++[st.1.length])
 else (st.1.modify (st.2.getLastD 0) (aF ((st.1.length:Int) - (st.2.getLastD 0:Int))),st.2.dropLast)
def hU (E:List Ev):List Nd × List Nat:=E.foldl I0 ([],[])
theorem nK (E:List Ev) (x:Ev):hU (E++[x])=I0 (hU E) x:=by unfold hU;rw[List.foldl_append];rfl
theorem OT {st:List Nd × List Nat} {x:Ev} (h:x.kind=1):I0 st x=(st.1++[fP x],st.2):=by unfold I0;rw[if_pos h]
theorem OU {st:List Nd × List Nat} {x:Ev} (h:x.kind=2):I0 st x=(st.1++[⟨x.name,aA,x.place,0⟩],st.2++[st.1.length]):=by unfold I0;rw[if_neg (by omega),if_pos h]
theorem OV {N:List Nd} {S:List Nat} {s:Nat} {x:Ev} (h1:x.kind≠1) (h2:x.kind≠2):I0 (N,S++[s]) x=(N.modify s (aF ((N.length:Int) - (s:Int))),S):=by
 unfold I0
 rw[if_neg h1,if_neg h2]
 simp
structure ZOk (N T:List Nd) (S:List Nat):Prop where
 len:N.length=T.length
 closed:∀ j,j ∉ S→N[j]?=T[j]?
 aFL:∀ j:Nat,(N[j]?).map (aF 0)=(T[j]?).map (aF 0)
theorem xD (E:List Ev):∀ d,dep 0 E=some d→(hU E).2=(bJ E).2∧ZOk (hU E).1 (bJ E).1 (bJ E).2:=by
 refine kH (P:=fun E=>∀ d,dep 0 E=some d→(hU E).2=(bJ E).2∧ZOk (hU E).1 (bJ E).1 (bJ E).2) ?_ ?_ E.length E rfl
 ·intro d _
  exact⟨rfl,rfl,fun _ _=>rfl,fun _=>rfl⟩
 ·intro E x ih d hd
  rw[fW]at hd
  cases hE:dep 0 E with
  | none=>rw[hE]at hd;cases hd
  | some m =>
   rw[hE]at hd
   have hd:dep m [x]=some d:=hd
   have hlen:(bJ E).2.length=m:=vI E 0 m [] [] rfl hE
   have hg:=Nu.good_row hE
   obtain⟨i1,i2,i3,i4⟩:=ih m hE
   rw[nK,show bJ (E++[x])=kB (bJ E) x by rw[dC];rfl]
   generalize hU E=P at *
   generalize bJ E=Q at *
   obtain⟨N,S⟩:=P
   obtain⟨T,S'⟩:=Q
   simp only[]at i1 i2 i3 i4 hlen hg
   subst i1
   by_cases h1:x.kind=1
   ·rw[OT h1,gK h1]
    refine⟨rfl,by simp only[List.length_append,i2,List.length_singleton],fun j hj=>?_,fun j=>?_⟩
    ·rcases Nat.lt_or_ge j N.length with h | h
     ·rw[List.getElem?_append_left h,List.getElem?_append_left (by omega)];exact i3 j hj
     ·rw[List.getElem?_append_right h,List.getElem?_append_right (by omega),i2]
    ·rcases Nat.lt_or_ge j N.length with h | h
     ·rw[List.getElem?_append_left h,List.getElem?_append_left (by omega)];exact i4 j
     ·rw[List.getElem?_append_right h,List.getElem?_append_right (by omega),i2]
   ·by_cases h2:x.kind=2
    ·rw[OU h2,jL h2]
     refine⟨by simp only[i2],by simp only[List.length_append,i2,List.length_singleton],fun j hj=>?_,fun j=>?_⟩
     ·rcases Nat.lt_or_ge j N.length with h | h
      ·rw[List.getElem?_append_left h,List.getElem?_append_left (by omega)];exact i3 j (fun hm=>hj (List.mem_append_left _ hm))
      ·rcases Nat.eq_or_lt_of_le h with e | e
       ·exact absurd (by rw[← e,i2];simp) hj
       ·rw[List.getElem?_eq_none (by simp;omega),List.getElem?_eq_none (by simp;omega)]
     ·rcases Nat.lt_or_ge j N.length with h | h
      ·rw[List.getElem?_append_left h,List.getElem?_append_left (by omega)];exact i4 j
      ·rw[List.getElem?_append_right h,List.getElem?_append_right (by omega),i2]
       cases j - T.length with
       | zero =>
        show some (aF 0 (⟨x.name,aA,x.place,0⟩:Nd))=some (aF 0 (fP x))
        unfold fP
        rw[if_neg h1];rfl
       | succ n=>simp
    ·cases m with
     | zero=>rw[pE h1 h2]at hd;cases hd
     | succ m =>
      obtain⟨S0,s,rfl⟩:=pM (l:=S) (by omega)
      rw[OV h1 h2,pK h1 h2]
      have hs:=(xC hg.vH).1
      have hsl:=hg.lt s (by simp)
      refine⟨rfl,by simp only[List.length_modify,i2],fun j hj=>?_,fun j=>?_⟩
      ·show (N.modify s _)[j]?=(T.modify s _)[j]?
       rw[gH,gH,i2]
       have h4:=i4 j
       cases hN:N[j]? with
       | none =>
        cases hT:T[j]? with
        | none=>rfl
        | some y=>rw[hN,hT]at h4;cases h4
       | some z =>
        cases hT:T[j]? with
        | none=>rw[hN,hT]at h4;cases h4
        | some y =>
         rw[hN,hT]at h4
         have e:aF 0 z=aF 0 y:=Option.some.inj h4
         show some (if s=j then _ else z)=some (if s=j then _ else y)
         by_cases hsj:s=j
         ·rw[if_pos hsj,if_pos hsj]
          have e1:z.kind=y.kind:=(show (aF 0 z).kind=(aF 0 y).kind by rw[e])
          have e2:z.text=y.text:=(show (aF 0 z).text=(aF 0 y).text by rw[e])
          have e3:z.place=y.place:=(show (aF 0 z).place=(aF 0 y).place by rw[e])
          unfold aF
          rw[e1,e2,e3]
         ·rw[if_neg hsj,if_neg hsj]
          have h3:=i3 j (fun hm=>by
           rcases List.mem_append.1 hm with h | h
           ·exact hj h
           ·rw[List.mem_singleton]at h;exact hsj h.symm)
          rw[hN,hT]at h3
          exact h3
      ·show ((N.modify s _)[j]?).map (aF 0)=((T.modify s _)[j]?).map (aF 0)
       rw[gH,gH]
       have h4:=i4 j
       cases hN:N[j]? with
       | none =>
        cases hT:T[j]? with
        | none=>rfl
        | some y=>rw[hN,hT]at h4;cases h4
       | some z =>
        cases hT:T[j]? with
        | none=>rw[hN,hT]at h4;cases h4
        | some y =>
         rw[hN,hT]at h4
         have e:aF 0 z=aF 0 y:=Option.some.inj h4
         show some (aF 0 (if s=j then _ else z))=some (aF 0 (if s=j then _ else y))
         by_cases hsj:s=j
         ·rw[if_pos hsj,if_pos hsj]
          show some (aF 0 z)=some (aF 0 y)
          rw[e]
         ·rw[if_neg hsj,if_neg hsj,e]
theorem LX {E:List Ev} (h:eR E):(hU E).1=aP E:=by
 obtain⟨-,h2⟩:=xD E 0 h
 have hS:(bJ E).2=[]:=eR.none h
 apply List.ext_getElem?
 intro j
 exact h2.closed j (by rw[hS];simp)
theorem uD {E:List Ev} {d:Nat} (h:dep 0 E=some d):(hU E).1.length=bI E:=by
 rw[(xD E d h).2.len];exact gB E
theorem ZJ {E:List Ev} {K:List Nat} (he:qO E) (c:Tk) (hc:c.kind=1) (cs:List Tk):(∀ x ∈ cs,x.kind=1)→(c::cs).foldl eV (some (E,K))=some (E++[jC (Lx.bytesOf ((c::cs).map Tk.ch)) c.place],K):=by
 refine kH (P:=fun cs=>(∀ x ∈ cs,x.kind=1)→(c::cs).foldl eV (some (E,K))=some (E++[jC (Lx.bytesOf ((c::cs).map Tk.ch)) c.place],K)) ?_ ?_ cs.length cs rfl
 ·intro _
  show eV (some (E,K)) c=_
  unfold eV
  simp only[]
  rw[if_pos hc,aI rfl (by rw[show (jC (dS c.ch) c.place).text.size=1 from rfl];decide) he]
  rfl
 ·intro cs d ih hcs
  have i1:=ih (fun x hx=>hcs x (by simp[hx]))
  have hd:d.kind=1:=hcs d (by simp)
  rw[← List.cons_append,List.foldl_append,i1]
  rw[List.foldl_cons,List.foldl_nil]
  unfold eV
  simp only[]
  rw[if_pos hd,bX rfl (by rw[show (jC (dS d.ch) d.place).text.size=1 from rfl];decide) rfl,List.map_append,Nu.nL]
  rfl
theorem mB (l m:List Tk):aM (l++m)=m.foldl eV (aM l):=by unfold aM;rw[List.foldl_append]
def U0 (l:List Tk) (p:Nat) (E:List Ev):Prop:=∀ x,l[p]?=some x→x.kind=1→qO E
theorem U1 {l:List Tk} {p:Nat} {x:Tk} (hx:l[p]?=some x) (hk:x.kind=1) {E:List Ev} {K:List Nat} (h:aM (l.take p)=some (E,K)) (hb:U0 l p E) :
  aM (l.take (gE l p))=some (E++[jC (Lx.bytesOf (((l.drop p).take (gE l p - p)).map Tk.ch)) x.place],K)∧∀ E',U0 l (gE l p) E':=by
 obtain⟨h1,h2,h3,-⟩:=nJ hx
 obtain⟨h4,h5⟩:=h3 hk
 refine⟨?_,fun E' y hy hy1=>absurd hy1 (h5 y hy)⟩
 have hsplit:l.take (gE l p)=l.take p++(l.drop p).take (gE l p - p):=by
  rw[← List.take_add,show p+(gE l p - p)=gE l p by omega]
 rw[hsplit,mB,h]
 have hpl:=(List.getElem?_eq_some_iff.1 hx).1
 obtain⟨n,hn⟩:∃ n,gE l p - p=n+1:=⟨gE l p - p - 1,by omega⟩
 have hcons:(l.drop p).take (gE l p - p)=x::(l.drop (p+1)).take n:=by
  rw[hn,List.drop_eq_getElem_cons hpl,List.take_succ_cons]
  congr 1
  rw[List.getElem?_eq_getElem hpl]at hx
  exact Option.some.inj hx
 rw[hcons]
 refine ZJ (hb x hx hk) x hk _ (fun y hy=>?_)
 obtain⟨j,hj⟩:=List.mem_iff_getElem?.1 hy
 rw[List.getElem?_take]at hj
 split at hj
 ·rw[List.getElem?_drop]at hj
  exact h4 (p+1+j) y (by omega) (by omega) hj
 ·cases hj
theorem take_one {l:List Tk} {p:Nat} {x:Tk} (hx:l[p]?=some x):l.take (p+1)=l.take p++[x]:=by rw[List.take_add_one,hx];rfl
theorem I3 {l:List Tk} {p:Nat} {E:List Ev} {y:Ev} (hy:y.kind≠1):U0 l p (E++[y]):=fun _ _ _=>bK hy
theorem LY {l:List Tk} {p:Nat} {x:Tk} (hx:l[p]?=some x) (hk:x.kind=2) {E:List Ev} {K:List Nat} (h:aM (l.take p)=some (E,K)) :
  gE l p=p+1∧aM (l.take (p+1))=some (E++[mC x.ch x.place],K++[x.ch]):=by
 refine⟨(nJ hx).2.2.2 (by omega),?_⟩
 rw[take_one hx,mB,h]
 rw[List.foldl_cons,List.foldl_nil]
 unfold eV
 simp only[]
 rw[if_neg (by omega),if_pos hk]
theorem LZ {l:List Tk} {p:Nat} {x:Tk} (hx:l[p]?=some x) (hk:x.kind=3) {E:List Ev} {K:List Nat} {k:Nat} (h:aM (l.take p)=some (E,K++[k])) :
  gE l p=p+1∧aM (l.take (p+1))=if k=x.ch then some (E++[lT],K) else none:=by
 refine⟨(nJ hx).2.2.2 (by omega),?_⟩
 rw[take_one hx,mB,h]
 rw[List.foldl_cons,List.foldl_nil]
 unfold eV
 simp only[]
 rw[if_neg (by omega),if_neg (by omega),if_pos hk,List.getLast?_concat,List.dropLast_concat]
theorem I4 {l:List Tk} {p:Nat} {x:Tk} (hx:l[p]?=some x) {E:List Ev} {K:List Nat} (h:aM (l.take p)=some (E,K)) (hk:(x.kind≠1∧x.kind≠2∧x.kind≠3)∨(x.kind=3∧K=[])):aM l=none:=by
 have h1:aM (l.take (p+1))=none:=by
  rw[take_one hx,mB,h]
  rw[List.foldl_cons,List.foldl_nil]
  unfold eV
  simp only[]
  rcases hk with⟨k1,k2,k3⟩ | ⟨k3,rfl⟩
  ·rw[if_neg k1,if_neg k2,if_neg k3]
  ·rw[if_neg (by omega),if_neg (by omega),if_pos k3];rfl
 rw[← List.take_append_drop (p+1) l,mB,h1,pH]
theorem L2 {l:List Tk} {p:Nat} (h:aM (l.take p)=none):aM l=none:=by
 rw[← List.take_append_drop p l,mB,h,pH]
end Go.Proofs.YtgpihfacmpbpaaaGreatDoor.Fl
namespace Go.Proofs.YtgpihfacmpbpaaaGreatDoor.Fl
open Go.RowKit Tr Nu Nl Cn
def aDY (x:Lx.Lx):Int × Nat:=((x.place:Int),x.text.size)
def aCK (x:Nd):Int × Nat:=(x.place,x.text.size)
def behind (a b:Int × Nat):Prop:=a.1+(a.2:Int)≤b.1
theorem aE0 (s:ByteArray):∀ n p,p≤s.size→((Lx.oJ s n p).1.map aDY).Pairwise behind∧∀ c ∈ (Lx.oJ s n p).1.map aDY,(p:Int)≤c.1∧c.1<(s.size:Int)∧c.1+(c.2:Int)≤(s.size:Int)
 | 0,p,_=>⟨List.Pairwise.nil,fun c hc=>by cases hc⟩
 | n+1,p,hp=>by
  unfold Lx.oJ
  by_cases h:p<s.size
  ·rw[if_pos h]
   cases hs:Lx.dB s p with
   | inr e=>exact⟨List.Pairwise.nil,fun c hc=>by cases hc⟩
   | inl xq =>
    obtain⟨x,q⟩:=xq
    have hpq:=Lx.oK h hs
    obtain⟨hq,hpl⟩:=Lx.IK h hs
    obtain⟨i1,i2⟩:=aE0 s n q hq
    have hx:p+x.text.size≤q:=by
     rcases Lx.pG h hs with⟨rfl,-⟩ | ⟨c,m,-,-,-,-,rfl,-⟩ | ⟨e,he1,he2,rfl,hqe,-⟩
     ·show p+0≤q;omega
     ·show p+0≤q;omega
     ·show p+(s.extract p e).size≤q
      rw[Lx.fH s p e he2];omega
    have hsx:aDY x=((p:Int),x.text.size):=by unfold aDY;rw[hpl]
    simp only[List.map_cons]
    refine⟨List.pairwise_cons.2 ⟨fun c hc=>?_,i1⟩,fun c hc=>?_⟩
    ·have:=(i2 c hc).1
     unfold behind
     rw[hsx]
     show (p:Int)+(x.text.size:Int)≤c.1
     omega
    ·rcases List.mem_cons.1 hc with rfl | hc
     ·rw[hsx]
      show (p:Int)≤(p:Int)∧(p:Int)<_∧(p:Int)+(x.text.size:Int)≤_
      omega
     ·have:=i2 c hc
      omega
  ·rw[if_neg h];exact⟨List.Pairwise.nil,fun c hc=>by cases hc⟩
theorem aE3:∀ (l:List Lx.Lx) (st:List Nd × List Tr.Op),(∀ x ∈ l,x.kind=2→x.text=aA)→((l.foldl aE st).1.map aCK).Sublist (st.1.map aCK++l.map aDY)
 | [],st,_=>by rw[List.map_nil,List.append_nil];exact List.Sublist.refl _
 | x::l,st,ht=>by
  have ih:=aE3 l (aE st x) (fun y hy=>ht y (List.mem_cons_of_mem _ hy))
  have hx:=ht x (List.mem_cons_self ..)
  rw[List.foldl_cons]
  refine ih.trans ?_
  rw[List.map_cons,show st.1.map aCK++aDY x::l.map aDY=(st.1.map aCK++[aDY x])++l.map aDY by simp]
  refine List.Sublist.append ?_ (List.Sublist.refl _)
  obtain⟨T,p⟩:=st
  unfold aE
  by_cases h1:x.kind=1
  ·simp only[if_pos h1]
   split
   ·show (List.map aCK (T++[⟨46,x.text,(x.place:Int),1⟩])).Sublist _
    rw[List.map_append];exact List.Sublist.refl _
   ·exact List.sublist_append_left _ _
  ·by_cases h2:x.kind=2
   ·simp only[if_neg h1,if_pos h2]
    show (List.map aCK (T++[⟨x.name,aA,(x.place:Int),1⟩])).Sublist _
    rw[List.map_append,show aDY x=((x.place:Int),aA.size) by unfold aDY;rw[hx h2]];exact List.Sublist.refl _
   ·simp only[if_neg h1,if_neg h2]
    have e:∀ (T:List Nd) (i:Nat) (z:Int),(T.modify i (aF z)).map aCK=T.map aCK:=fun T i z=>by
     apply List.ext_getElem?
     intro j
     rw[List.getElem?_map,List.getElem?_map,gH]
     cases T[j]? with
     | none=>rfl
     | some a=>show some (aCK (if i=j then aF z a else a))=some (aCK a);split<;>rfl
    rw[e];exact List.sublist_append_left _ _
theorem aE4 (s:ByteArray):∀ n p,∀ x ∈ (Lx.oJ s n p).1,x.kind=2→x.text=aA
 | 0,p,x,hx=>by cases hx
 | n+1,p,x,hx=>by
  unfold Lx.oJ at hx
  by_cases h:p<s.size
  ·rw[if_pos h]at hx
   cases hs:Lx.dB s p with
   | inr e=>rw[hs]at hx;cases hx
   | inl yq =>
    obtain⟨y,q⟩:=yq
    rw[hs]at hx
    rcases List.mem_cons.1 hx with rfl | hx
    ·intro hk
     rcases Lx.pG h hs with⟨rfl,-⟩ | ⟨c,m,-,-,-,-,rfl,-⟩ | ⟨e,he1,he2,rfl,hqe,-⟩
     ·cases hk
     ·rfl
     ·cases hk
    ·exact aE4 s n q x hx
  ·rw[if_neg h]at hx;cases hx
theorem aFQ {s:ByteArray} (h:(bH s).2.2=0):((bH s).1.map aCK).Pairwise behind∧∀ c ∈ (bH s).1.map aCK,0≤c.1∧c.1<(s.size:Int)∧c.1+(c.2:Int)≤(s.size:Int):=by
 have hP:=sQ h
 rw[sR hP]
 have hl:=Lx.zY hP.1
 obtain⟨h1,h2⟩:=aE0 s s.size 0 (Nat.zero_le _)
 have e:(Lx.oJ s s.size 0).1=Lx.gV s:=congrArg Prod.fst hl
 rw[e]at h1 h2
 have hopen:=aE4 s s.size 0
 rw[e]at hopen
 have hsub:=aE3 (Lx.gV s) ([],[root]) hopen
 rw[List.map_nil,List.nil_append]at hsub
 show ((aV (Lx.gV s)).1.map aCK).Pairwise behind∧_
 unfold aV
 exact⟨h1.sublist hsub,fun c hc=>by have:=h2 c (hsub.subset hc);omega⟩
def aDW (x:Ev):Int × Nat:=(x.place,x.text.size)
def aA3 (E:List Ev):List (Int × Nat):=(E.filter isN).map aDW
theorem aDC (A B:List Ev):aA3 (A++B)=aA3 A++aA3 B:=by unfold aA3;rw[List.filter_append,List.map_append]
theorem aC4 {x:Ev} (h:x.kind=1∨x.kind=2) (B:List Ev):aA3 (x::B)=aDW x::aA3 B:=by
 unfold aA3
 rw[List.filter_cons_of_pos (by unfold isN;rcases h with h | h<;>simp[h])];rfl
theorem aFV {x:Ev} (h1:x.kind≠1) (h2:x.kind≠2) (B:List Ev):aA3 (x::B)=aA3 B:=by
 unfold aA3
 rw[List.filter_cons_of_neg (by unfold isN;simp[h1,h2])]
def aDX (m:Int) (l:List (Int × Nat)):Prop:=l.Pairwise behind∧∀ c ∈ l,0≤c.1∧c.1<m∧c.1+(c.2:Int)≤m
def inside (a b:Int × Nat):Prop:=b.1≤a.1∧a.1+(a.2:Int)≤b.1+(b.2:Int)∧(a.1<b.1+(b.2:Int)∨a.1=b.1)
inductive Ins:List (Int × Nat)→List (Int × Nat)→Prop where
 | nil:Ins [] []
 | cons {a b:Int × Nat} {A B:List (Int × Nat)}:inside a b→Ins A B→Ins (a::A) (b::B)
theorem Ins.app {A B A' B':List (Int × Nat)} (h:Ins A B) (h2:Ins A' B'):Ins (A++A') (B++B'):=by
 induction h with
 | nil=>exact h2
 | cons hx _ ih=>exact .cons hx ih
theorem Ins.mem {A B:List (Int × Nat)} (h:Ins A B):∀ a ∈ A,∃ b ∈ B,inside a b:=by
 induction h with
 | nil=>intro a ha;cases ha
 | cons hx _ ih =>
  intro a ha
  rcases List.mem_cons.1 ha with rfl | ha
  ·exact⟨_,List.mem_cons_self ..,hx⟩
  ·obtain⟨b,hb,h⟩:=ih a ha
   exact⟨b,List.mem_cons_of_mem _ hb,h⟩
theorem Ins.spread {A B:List (Int × Nat)} {m:Int} (h:Ins A B):aDX m B→aDX m A:=by
 induction h with
 | nil=>exact fun h=>h
 | @cons a b A B hx hAB ih =>
  intro ⟨h1,h2⟩
  rw[List.pairwise_cons]at h1
  obtain⟨i1,i2⟩:=ih ⟨h1.2,fun c hc=>h2 c (List.mem_cons_of_mem _ hc)⟩
  have hb:=h2 b (List.mem_cons_self ..)
  refine⟨List.pairwise_cons.2 ⟨fun c hc=>?_,i1⟩,fun c hc=>?_⟩
  ·obtain⟨d,hd,hcd⟩:=hAB.mem c hc
   have:=h1.1 d hd
   unfold behind inside at *
   omega
  ·rcases List.mem_cons.1 hc with rfl | hc
   ·unfold inside at hx;omega
   ·exact i2 c hc
theorem aGA {F:List Nd} {L:List Lx.Lx} (h:Wf F L) (K:Nat→ByteArray × Int) (O:Nat→Int):∀ p,(∀ j y,F[j]?=some y→inside (if y.kind=46 then ((K (p+j)).2,(K (p+j)).1.size) else (O (p+j),0)) (aCK y))→Ins (aA3 (iV K O p L)) (F.map aCK):=by
 induction h with
 | nil=>intro p _;exact .nil
 | @text F L s pl hF ih =>
  intro p hK
  rw[eX,mD hF,aDC,List.map_append]
  refine(ih p fun j y hj=>hK j y (by rw[List.getElem?_append_left (List.getElem?_eq_some_iff.1 hj).1];exact hj)).app (.cons ?_ .nil)
  exact hK F.length _ List.getElem?_concat_length
 | @node F G L M k pl hF hG hk ih1 ih2 =>
  intro p hK
  rw[eX,kD,mD hF,aDC,List.map_append,List.map_cons,aC4 (.inr rfl),aDC,show aA3 [lT]=[] from rfl,List.append_nil]
  refine(ih1 p fun j y hj=>hK j y (by rw[List.getElem?_append_left (List.getElem?_eq_some_iff.1 hj).1];exact hj)).app (.cons ?_ (ih2 _ fun j y hj=>?_))
  ·have:=hK F.length ⟨k,aA,pl,(G.length:Int)+1⟩ (by rw[List.getElem?_append_right (Nat.le_refl _),Nat.sub_self];rfl)
   rw[if_neg hk]at this
   exact this
  ·rw[show p+F.length+1+j=p+(F.length+(j+1)) by omega]
   exact hK (F.length+(j+1)) y (by rw[List.getElem?_append_right (by omega),show F.length+(j+1) - F.length=j+1 by omega];exact hj)
theorem IN:∀ (m:List Nat) (a n:Nat),(a::m).Pairwise (·<·)→(∀ x ∈ a::m,x<n)→a+(m.length+1)≤n
 | [],a,n,_,h=>by have:=h a (List.mem_cons_self ..);show a+(0+1)≤n;omega
 | b::m,a,n,h,hn=>by
  rw[List.pairwise_cons]at h
  have h1:=h.1 b (List.mem_cons_self ..)
  have:=IN m b n h.2 (fun x hx=>hn x (List.mem_cons_of_mem _ hx))
  show a+(m.length+1+1)≤n
  omega
theorem aF0 {t:List Nd} (ht:YQ t) {i:Nat} {x:Nd} (hx:t[i]?=some x) (hk:x.kind=46) (h0:0≤x.place) (h1:x.place+(x.text.size:Int)≤9000):inside (lO t i,(newText t i).size) (aCK x):=by
 have hsub:=AM ht hx
 rw[if_pos hk]at hsub
 have hp:aU t i=x.place:=by unfold aU;rw[hx]
 have hsz:(newText t i).size=(dP t i).length:=by unfold newText;rw[Lx.c9,List.length_map]
 unfold lO
 rw[hsz,hp]
 cases hl:dP t i with
 | nil =>
  exact⟨Int.le_refl _,(by show x.place+((0:Nat):Int)≤x.place+(x.text.size:Int);omega),.inr rfl⟩
 | cons a l =>
  rw[hl]at hsub
  have hpl:((a::l).map Sp.place).Sublist (List.range x.text.size):=by
   have:=hsub.map Sp.place
   unfold kF at this
   rw[List.map_map]at this
   have e:(List.range x.text.size).map (Sp.place ∘ rB i x.text)=List.range x.text.size:=by
    conv=>rhs;rw[← List.map_id (List.range x.text.size)]
    rfl
   rw[e]at this
   exact this
  have hlen:=IN (l.map Sp.place) a.place x.text.size (List.Pairwise.sublist hpl List.pairwise_lt_range) (fun y hy=>List.mem_range.1 (hpl.subset hy))
  rw[List.length_map]at hlen
  have hw:wrap64 (x.place+(a.place:Int))=x.place+(a.place:Int):=by unfold wrap64;omega
  show inside (wrap64 (x.place+(a.place:Int)),(a::l).length) _
  rw[hw]
  unfold inside aCK
  simp only[List.length_cons]
  omega
theorem aFF {m:Int} {acc L:List Ev} {x:Ev} (h:aDX m (aA3 (acc++x::L))):aDX m (aA3 (cD acc x++L)):=by
 by_cases hk:x.kind=1
 ·by_cases h0:x.text.size=0
  ·rw[cI hk h0]
   rw[aDC,aC4 (.inl hk)]at h
   rw[aDC]
   have hs:(aA3 acc++aA3 L).Sublist (aA3 acc++aDW x::aA3 L):=List.Sublist.append (List.Sublist.refl _) (List.sublist_cons_self _ _)
   exact⟨h.1.sublist hs,fun c hc=>h.2 c (hs.subset hc)⟩
  ·rcases List.eq_nil_or_concat acc with rfl | ⟨A,y,rfl⟩
   ·rw[aI hk h0 cC];simpa using h
   ·rw[List.concat_eq_append]at h ⊢
    by_cases hy:y.kind=1
    ·rw[bX hk h0 hy]
     rw[List.append_assoc,aDC]at h ⊢
     have h:aDX m (aA3 A++aA3 (y::x::L)):=h
     rw[aC4 (.inl hy),aC4 (.inl hk)]at h
     have e:aA3 ([{ y with text:=y.text++x.text }]++L)=(y.place,y.text.size+x.text.size)::aA3 L:=by
      show aA3 ({ y with text:=y.text++x.text }::L)=_
      rw[aC4 (x:={ y with text:=y.text++x.text }) (.inl hy)]
      unfold aDW
      rw[ByteArray.size_append]
     rw[e]
     obtain⟨p1,p2⟩:=h
     rw[List.pairwise_append]at p1
     obtain⟨a1,a2,a3⟩:=p1
     rw[List.pairwise_cons,List.pairwise_cons]at a2
     obtain⟨b1,b2,b3⟩:=a2
     have hyx:=b1 (aDW x) (List.mem_cons_self ..)
     have hy2:=p2 (aDW y) (by simp)
     have hx2:=p2 (aDW x) (by simp)
     unfold behind aDW at hyx
     unfold aDW at hy2 hx2
     simp only[]at hyx hy2 hx2
     refine⟨List.pairwise_append.2 ⟨a1,List.pairwise_cons.2 ⟨fun c hc=>?_,b3⟩,fun a ha c hc=>?_⟩,fun c hc=>?_⟩
     ·have:=b2 c hc
      unfold behind aDW at this
      unfold behind
      simp only[]at this ⊢
      omega
     ·rcases List.mem_cons.1 hc with rfl | hc
      ·have:=a3 a ha (aDW y) (List.mem_cons_self ..)
       exact this
      ·exact a3 a ha c (List.mem_cons_of_mem _ (List.mem_cons_of_mem _ hc))
     ·rcases List.mem_append.1 hc with hc | hc
      ·exact p2 c (List.mem_append_left _ hc)
      ·rcases List.mem_cons.1 hc with rfl | hc
       ·simp only[];omega
       ·exact p2 c (List.mem_append_right _ (List.mem_cons_of_mem _ (List.mem_cons_of_mem _ hc)))
    ·rw[aI hk h0 (bK hy)];simpa using h
 ·rw[bQ hk];simpa using h
theorem aFK {m:Int}:∀ (L acc:List Ev),aDX m (aA3 (acc++L))→aDX m (aA3 (L.foldl cD acc)):=by
 intro L
 induction L with
 | nil=>intro acc h;rw[List.append_nil]at h;exact h
 | cons x L ih=>intro acc h;rw[List.foldl_cons];exact ih _ (aFF h)
def runK (S:List Nat):List Tk→Option (List Nat)
 | []=>some S
 | x::l=>if x.kind=2 then runK (S++[x.ch]) l else if x.kind=3 then (match S.getLast? with | some k=>if k=x.ch then runK S.dropLast l else none | none=>none) else runK S l
theorem aDL (S:List Nat) (x:Tk) (l:List Tk):runK S (x::l)=if x.kind=2 then runK (S++[x.ch]) l else if x.kind=3 then (match S.getLast? with | some k=>if k=x.ch then runK S.dropLast l else none | none=>none) else runK S l:=rfl
theorem aBN:∀ (l m:List Tk) (S:List Nat),runK S (l++m)=(runK S l).bind fun S'=>runK S' m
 | [],m,S=>rfl
 | x::l,m,S=>by
  rw[List.cons_append,aDL,aDL]
  by_cases h2:x.kind=2
  ·rw[if_pos h2,if_pos h2,aBN l m]
  ·rw[if_neg h2,if_neg h2]
   by_cases h3:x.kind=3
   ·rw[if_pos h3,if_pos h3]
    cases S.getLast? with
    | none=>rfl
    | some k =>
     simp only[]
     by_cases hk:k=x.ch
     ·rw[if_pos hk,if_pos hk,aBN l m]
     ·rw[if_neg hk,if_neg hk];rfl
   ·rw[if_neg h3,if_neg h3,aBN l m]
def aC5 (l:List Tk):Nat:=(l.filter fun x=>!(x.kind==2 || x.kind==3)).length
theorem aDZ (l m:List Tk):aC5 (l++m)=aC5 l+aC5 m:=by unfold aC5;rw[List.filter_append,List.length_append]
theorem aEY (S:List Nat) (pl:Int) (s:ByteArray):∀ n,runK S (nZ pl s n)=some S∧aC5 (nZ pl s n)=n
 | 0=>⟨rfl,rfl⟩
 | n+1=>by
  obtain⟨h1,h2⟩:=aEY S pl s n
  rw[oL,aBN,h1,aDZ,h2]
  exact⟨rfl,rfl⟩
structure TkR (m:Int) (o:List Tk) (S:List Nat) (R:List Ev) (n:Nat):Prop where
 run:runK [] o=some S
 cnt:aC5 o=n
 vH:o.Pairwise fun a b=>a.place≤b.place
 low:∀ x ∈ o,0≤x.place∧x.place<m
 next:o≠[]→∀ b ∈ aA3 R,dW o≤b.1
 any:S≠[]→o≠[]
theorem aD4 {o:List Tk} (h:o.Pairwise fun a b=>a.place≤b.place):∀ x ∈ o,x.place≤dW o:=by
 intro x hx
 rcases List.eq_nil_or_concat o with rfl | ⟨l,y,rfl⟩
 ·cases hx
 ·rw[List.concat_eq_append]at h hx ⊢
  rw[rL]
  rcases List.mem_append.1 hx with g | g
  ·exact(List.pairwise_append.1 h).2.2 x g y (List.mem_singleton.2 rfl)
  ·rw[List.mem_singleton]at g;subst g;exact Int.le_refl _
theorem LN {o:List Tk} (h:o≠[]):∃ x ∈ o,x.place=dW o:=by
 rcases List.eq_nil_or_concat o with rfl | ⟨l,y,rfl⟩
 ·exact absurd rfl h
 ·rw[List.concat_eq_append]
  exact⟨y,by simp,(rL l y).symm⟩
theorem TkR.chars {m:Int} {o:List Tk} {S:List Nat} {R:List Ev} {n:Nat} {s:ByteArray} {pl:Int} (hm:m≤9000) (h:TkR m o S (jC s pl::R) n) (hsp:aDX m (aA3 (jC s pl::R))):TkR m (o++nZ pl s s.size) S R (n+s.size):=by
 rw[aC4 (.inl rfl)]at hsp
 obtain⟨p1,p2⟩:=hsp
 rw[List.pairwise_cons]at p1
 have hs:=p2 (aDW (jC s pl)) (List.mem_cons_self ..)
 have hs:0≤pl∧pl<m∧pl+(s.size:Int)≤m:=hs
 obtain⟨r1,r2⟩:=aEY S pl s s.size
 have hch:∀ x ∈ nZ pl s s.size,∃ i:Nat,i<s.size∧x.place=pl+(i:Int):=fun x hx=>by
  unfold nZ at hx
  obtain⟨i,hi,rfl⟩:=List.mem_map.1 hx
  have hi:=List.mem_range.1 hi
  exact⟨i,hi,by show wrap64 (pl+(i:Int))=_;unfold wrap64;omega⟩
 have hrise:(nZ pl s s.size).Pairwise fun a b=>a.place≤b.place:=by
  unfold nZ
  rw[List.pairwise_map]
  refine List.Pairwise.imp_of_mem (R:=fun a b=>a<b) (fun {a b} ha hb hab=>?_) List.pairwise_lt_range
  have ha:=List.mem_range.1 ha
  have hb:=List.mem_range.1 hb
  show wrap64 (pl+(a:Int))≤wrap64 (pl+(b:Int))
  unfold wrap64
  omega
 refine⟨by rw[aBN,h.run];exact r1,by rw[aDZ,h.cnt,r2],List.pairwise_append.2 ⟨h.vH,hrise,fun a ha b hb=>?_⟩,fun x hx=>?_,fun _ b hb=>?_,fun hS=>?_⟩
 ·have hne:o≠[]:=fun e=>by rw[e]at ha;cases ha
  have h1:=aD4 h.vH a ha
  have h2:=h.next hne (aDW (jC s pl)) (by rw[aC4 (.inl rfl)];exact List.mem_cons_self ..)
  have h2:dW o≤pl:=h2
  obtain⟨i,hi,e⟩:=hch b hb
  omega
 ·rcases List.mem_append.1 hx with g | g
  ·exact h.low x g
  ·obtain⟨i,hi,e⟩:=hch x g
   omega
 ·have hb1:=p1.1 b hb
  unfold behind at hb1
  have hb1:pl+(s.size:Int)≤b.1:=hb1
  by_cases hc:nZ pl s s.size=[]
  ·rw[hc,List.append_nil]
   by_cases ho:o=[]
   ·rw[ho]
    have:=p2 b (List.mem_cons_of_mem _ hb)
    show (0:Int)≤_
    omega
   ·exact h.next ho b (by rw[aC4 (.inl rfl)];exact List.mem_cons_of_mem _ hb)
  ·rw[uB _ _ hc]
   obtain⟨x,hx,e⟩:=LN hc
   obtain⟨i,hi,e2⟩:=hch x hx
   omega
 ·have:=h.any hS
  intro e
  exact this (List.append_eq_nil_iff.1 e).1
theorem TkR.fold {m:Int} (hm:m≤9000):∀ (R:List Ev) (o:List Tk) (S:List Nat) (n:Nat),(∀ x ∈ R,tI x)→dep S.length R=some 0→aDX m (aA3 R)→TkR m o S R n→∃ o',R.foldl stepT (o,S)=(o',[])∧TkR m o' [] [] (n+dO R)
 | [],o,S,n,_,hd,_,h=>by
  have hd:some S.length=some 0:=hd
  obtain rfl:S=[]:=List.eq_nil_of_length_eq_zero (Option.some.inj hd)
  exact⟨o,rfl,h⟩
 | x::R,o,S,n,ho,hd,hsp,h=>by
  have hoR:∀ y ∈ R,tI y:=fun y hy=>ho y (List.mem_cons_of_mem _ hy)
  rw[List.foldl_cons]
  rcases ho x (List.mem_cons_self ..) with⟨s,pl,rfl⟩ | ⟨k,pl,hk,rfl⟩ | rfl
  ·rw[kJ rfl]
   rw[kE rfl]at hd
   have hsR:aDX m (aA3 R):=by
    rw[aC4 (.inl rfl)]at hsp
    exact⟨(List.pairwise_cons.1 hsp.1).2,fun c hc=>hsp.2 c (List.mem_cons_of_mem _ hc)⟩
   obtain⟨o',e,h'⟩:=TkR.fold hm R _ S _ hoR hd hsR (h.chars hm hsp)
   refine⟨o',e,?_⟩
   rw[show n+dO (jC s pl::R)=n+s.size+dO R by show n+(s.size+dO R)=_;omega]
   exact h'
  ·rw[rM rfl]
   rw[tV rfl]at hd
   rw[aC4 (.inr rfl)]at hsp
   obtain⟨p1,p2⟩:=hsp
   rw[List.pairwise_cons]at p1
   have hs:0≤pl∧pl<m∧pl+((0:Nat):Int)≤m:=p2 (aDW (mC k pl)) (List.mem_cons_self ..)
   obtain⟨o',e,h'⟩:=TkR.fold hm R (o++[⟨2,k,pl⟩]) (S++[k]) n hoR (by rw[List.length_append];exact hd) ⟨p1.2,fun c hc=>p2 c (List.mem_cons_of_mem _ hc)⟩ ⟨by rw[aBN,h.run];rfl,by rw[aDZ,h.cnt];rfl,List.pairwise_append.2 ⟨h.vH,List.pairwise_singleton _ _,fun a ha b hb=>by
     rw[List.mem_singleton]at hb
     subst hb
     have hne:o≠[]:=fun e=>by rw[e]at ha;cases ha
     have h1:=aD4 h.vH a ha
     have h2:dW o≤pl:=h.next hne (aDW (mC k pl)) (by rw[aC4 (.inr rfl)];exact List.mem_cons_self ..)
     show a.place≤pl
     omega⟩,fun x hx=>by
     rcases List.mem_append.1 hx with g | g
     ·exact h.low x g
     ·rw[List.mem_singleton]at g;subst g;exact⟨hs.1,hs.2.1⟩,fun _ b hb=>by
     rw[rL]
     have:=p1.1 b hb
     unfold behind at this
     have:pl+((0:Nat):Int)≤b.1:=this
     show pl≤b.1
     omega,fun _=>by simp⟩
   refine⟨o',e,?_⟩
   rw[show n+dO (mC k pl::R)=n+dO R by show n+(0+dO R)=_;omega]
   exact h'
  ·cases hS:S.length with
   | zero=>rw[hS,pE (by decide) (by decide)]at hd;cases hd
   | succ q =>
    obtain⟨S',k,rfl⟩:=pM (l:=S) (by omega)
    have hne:o≠[]:=h.any (by simp)
    rw[hS,tW (by decide) (by decide)]at hd
    rw[aFV (by decide) (by decide)]at hsp
    rw[vC]
    obtain⟨z,hz,hzp⟩:=LN hne
    have hzl:=h.low z hz
    obtain⟨o',e,h'⟩:=TkR.fold hm R (o++[⟨3,k,dW o⟩]) S' n hoR (by rw[List.length_append,List.length_singleton]at hS;rw[show S'.length=q by omega];exact hd) hsp ⟨by
      rw[aBN,h.run]
      show runK (S'++[k]) [⟨3,k,dW o⟩]=some S'
      rw[aDL,if_neg (show ¬ ((3:Int)=2) by decide),if_pos rfl,List.getLast?_concat]
      simp only[if_true,List.dropLast_concat]
      rfl,by rw[aDZ,h.cnt];rfl,List.pairwise_append.2 ⟨h.vH,List.pairwise_singleton _ _,fun a ha b hb=>by
      rw[List.mem_singleton]at hb
      subst hb
      exact aD4 h.vH a ha⟩,fun x hx=>by
      rcases List.mem_append.1 hx with g | g
      ·exact h.low x g
      ·rw[List.mem_singleton]at g;subst g;show 0≤dW o∧dW o<m;omega,fun _ b hb=>by
      rw[rL]
      exact h.next hne b (by rw[aFV (by decide) (by decide)];exact hb),fun _=>by simp⟩
    refine⟨o',e,?_⟩
    rw[show n+dO (lT::R)=n+dO R by show n+(0+dO R)=_;omega]
    exact h'
theorem aE9 (K:Nat→ByteArray × Int) (O:Nat→Int):∀ (J A:List Ev),(∀ x ∈ J,tI x)→(∀ B y C,J=B++y::C→(y.kind=1→K (bI (A++B))=(y.text,y.place))∧(y.kind=2→O (bI (A++B))=y.place))→iV K O (bI A) (J.map wL)=J
 | [],_,_,_=>rfl
 | x::J,A,ho,hK=>by
  have ih:=aE9 K O J (A++[x]) (fun y hy=>ho y (List.mem_cons_of_mem _ hy)) (fun B y C e=>by
   rw[List.append_assoc];exact hK (x::B) y C (by rw[e];rfl))
  have h0:=hK [] x J rfl
  rw[List.append_nil]at h0
  rw[List.map_cons]
  rcases ho x (List.mem_cons_self ..) with⟨s,pl,rfl⟩ | ⟨k,pl,hk,rfl⟩ | rfl
  ·rw[nY rfl]
   rw[bC,dA (.inl rfl)]at ih
   rw[ih,h0.1 rfl];rfl
  ·rw[uA rfl]
   rw[bC,dA (.inr rfl)]at ih
   rw[ih,h0.2 rfl];rfl
  ·rw[wT (by decide) (by decide)]
   rw[bC,show bI [lT]=0 from rfl,Nat.add_zero]at ih
   rw[ih]
theorem aGB {J:List Ev} (hb:eR J) (ho:∀ x ∈ J,tI x):rN (aP J)=fU J:=by
 unfold rN
 rw[FE (wM J hb ho)]
 show fU (iV (vD (aP J)) (aU (aP J)) (bI []) (J.map wL))=_
 rw[aE9 _ _ J [] ho]
 intro B y C e
 rw[List.nil_append]
 refine⟨fun hk=>?_,fun hk=>?_⟩
 ·have hx:(aP J)[bI B]?=some (fP y):=by rw[e];exact jI (by rw[← e];exact hb) hk
  unfold vD
  rw[hx]
  unfold fP;rw[if_pos hk]
 ·obtain⟨z,hz⟩:=rR (A:=B) (B:=C) (x:=y) (by rw[← e];exact hb) (.inr hk)
  rw[← e]at hz
  unfold aU
  rw[hz]
  show (fP y).place=_
  unfold fP
  split<;>rfl
theorem aF2 {E:List Ev} {o:List Tk} {S:List Nat} (h:E.foldl stepT ([],[])=(o,S)):fU E=o:=by unfold fU;rw[h]
theorem aFD {s:ByteArray} (hs:s.size≤9000) (h:(bH s).2.2=0) :
  runK [] (rN (gG (bH s).1))=some []∧(rN (gG (bH s).1)).Pairwise (fun a b=>a.place≤b.place)∧(∀ x ∈ rN (gG (bH s).1),0≤x.place∧x.place<(s.size:Int))∧aC5 (rN (gG (bH s).1))=dO (bM (evN (bH s).1 ((fJ (bH s).1 0 (bH s).1.length).getD []))):=by
 have hc:=IG h
 have hsp:=aFQ h
 obtain⟨t,ht⟩:∃ t,(bH s).1=t:=⟨_,rfl⟩
 rw[ht]at hc hsp ⊢
 obtain⟨L,hW,hE⟩:=gT hc
 rw[hE]
 show _∧_∧_∧_=dO (bM (evN t L))
 have hspread:aDX (s.size:Int) (aA3 (evN t L)):=by
  refine Ins.spread (B:=t.map aCK) (aGA hW (asNew t) (aU t) 0 fun j y hj=>?_) hsp
  rw[Nat.zero_add]
  have hy:=hsp.2 (aCK y) (List.mem_map_of_mem (List.mem_of_getElem? hj))
  have hy:0≤y.place∧y.place<(s.size:Int)∧y.place+(y.text.size:Int)≤(s.size:Int):=hy
  by_cases hk:y.kind=46
  ·rw[if_pos hk]
   exact aF0 (LI hW) hj hk hy.1 (by omega)
  ·rw[if_neg hk]
   have hp:aU t j=y.place:=by unfold aU;rw[hj]
   rw[hp]
   exact⟨Int.le_refl _,(by show y.place+((0:Nat):Int)≤y.place+(y.text.size:Int);omega),.inr rfl⟩
 have hJ:=aFK (m:=(s.size:Int)) (evN t L) [] hspread
 have ho:=AL (evN t L) [] (fun y hy=>by cases hy) (LH hW (asNew t) (aU t) 0)
 have hb:eR (bM (evN t L)):=(nX hW (asNew t) (aU t) 0).join
 obtain⟨o,e,hT⟩:=TkR.fold (by omega) (bM (evN t L)) [] [] 0 ho hb hJ ⟨rfl,rfl,List.Pairwise.nil,fun x hx=>(by cases hx),fun hne=>absurd rfl hne,fun hne=>absurd rfl hne⟩
 have hn:gG t=aP (bM (evN t L)):=iJ hW
 rw[hn,aGB hb ho,aF2 e]
 refine⟨hT.run,hT.vH,hT.low,?_⟩
 have:=hT.cnt
 omega
theorem aD0:∀ (E:List Ev) (T:List Nd) (S:List Nat),gA (E.foldl kB (T,S)).1=gA T+dO E
 | [],T,S=>rfl
 | x::E,T,S=>by
  rw[List.foldl_cons]
  show _=gA T+(zQ x+dO E)
  by_cases h1:x.kind=1
  ·rw[gK h1,aD0 E,rK]
   have:gA [fP x]=zQ x:=by unfold fP zQ;rw[if_pos h1,if_pos h1];rfl
   omega
  ·by_cases h2:x.kind=2
   ·rw[jL h2,aD0 E,rK]
    have:gA [fP x]=zQ x:=by unfold fP zQ;rw[if_neg h1,if_neg h1];rfl
    omega
   ·rw[show kB (T,S) x=(T.modify (S.getLastD 0) (aF ((T.length:Int) - (S.getLastD 0:Int))),S.dropLast) by unfold kB;rw[if_neg h1,if_neg h2],aD0 E,DK]
    have:zQ x=0:=by unfold zQ;rw[if_neg h1]
    omega
theorem aFR {s:ByteArray} (hs:s.size≤9000) (h:(bH s).2.2=0):aC5 (rN (gG (bH s).1))=gA (gG (bH s).1):=by
 rw[(aFD hs h).2.2.2]
 obtain⟨L,hW,hE⟩:=gT (IG h)
 rw[hE,iJ hW]
 show dO (bM (evN (bH s).1 L))=gA (aP (bM (evN (bH s).1 L)))
 have:=aD0 (bM (evN (bH s).1 L)) [] []
 unfold aP bJ
 rw[this]
 show _=0+_
 omega
end Go.Proofs.YtgpihfacmpbpaaaGreatDoor.Fl
namespace Go.Proofs.YtgpihfacmpbpaaaGreatDoor.Fl
open Go.RowKit Tr Nu Nl Cn
inductive Th:List Nd→List Tk→Prop where
 | nil:Th [] []
 | text {R:List Nd} {L:List Tk} (s:ByteArray) (pl:Int):Th R L→Th (⟨46,s,pl,1⟩::R) (nZ pl s s.size++L)
 | node {G R:List Nd} {M L:List Tk} (k:Nat) (pl:Int):Th G M→Th R L→k≠46→Th (⟨k,aA,pl,(G.length:Int)+1⟩::(G++R)) (⟨2,k,pl⟩::(M++⟨3,k,0⟩::L))
theorem Th.app {F:List Nd} {L:List Tk} (h:Th F L):∀ {G:List Nd} {M:List Tk},Th G M→Th (F++G) (L++M):=by
 induction h with
 | nil=>intro G M h;exact h
 | text s pl _ ih=>intro G M h;rw[List.cons_append,List.append_assoc];exact .text s pl (ih h)
 | node k pl h1 _ hk _ ih=>intro G M h;rw[List.cons_append,List.append_assoc,List.cons_append,List.append_assoc,List.cons_append];exact .node k pl h1 (ih h) hk
def kK (o:List Tk) (x:Tk):List Tk:=o++[if x.kind=3 then ⟨x.kind,x.ch,dW o⟩ else x]
theorem LQ {x:Tk} (h:x.kind≠3) (o:List Tk):kK o x=o++[x]:=by unfold kK;rw[if_neg h]
theorem aCD (o:List Tk) (k:Nat) (z:Int):kK o ⟨3,k,z⟩=o++[⟨3,k,dW o⟩]:=by unfold kK;rw[if_pos rfl]
theorem DP (pl:Int) (s:ByteArray) (o:List Tk):∀ n,(nZ pl s n).foldl kK o=o++nZ pl s n
 | 0=>by show o=o++[];rw[List.append_nil]
 | n+1=>by
  rw[oL,List.foldl_append,DP pl s o n]
  show kK _ _=_
  rw[LQ (show (1:Int)≠3 by decide),List.append_assoc]
theorem aD3 {F:List Nd} {L:List Lx.Lx} (h:Wf F L) (K:Nat→ByteArray × Int) (O:Nat→Int) :
  ∃ H,Th F H∧∀ p,(∀ j y,F[j]?=some y→(y.kind=46→K (p+j)=(y.text,y.place))∧(y.kind≠46→O (p+j)=y.place))→∀ o,H.foldl kK o=o++fU (iV K O p L):=by
 induction h with
 | nil=>exact⟨[],.nil,fun p _ o=>(List.append_nil o).symm⟩
 | @text F L s pl hF ih =>
  obtain⟨H,h1,h2⟩:=ih
  refine⟨H++(nZ pl s s.size++[]),h1.app (.text s pl .nil),fun p hK o=>?_⟩
  have e0:Wf [⟨46,s,pl,1⟩] [pB s]:=Wf.text s pl Wf.nil
  have eK:K (p+F.length)=(s,pl):=(hK F.length ⟨46,s,pl,1⟩ List.getElem?_concat_length).1 rfl
  rw[List.append_nil,List.foldl_append,h2 p (fun j y hj=>hK j y (by rw[List.getElem?_append_left (List.getElem?_eq_some_iff.1 hj).1];exact hj)),DP,vE hF e0,AS,eK,List.append_assoc]
 | @node F G L M k pl hF hG hk ih1 ih2 =>
  obtain⟨H1,a1,a2⟩:=ih1
  obtain⟨H2,b1,b2⟩:=ih2
  have hT:=a1.app (Th.node k pl b1 .nil hk)
  rw[List.append_nil]at hT
  refine⟨_,hT,fun p hK o=>?_⟩
  have e0:Wf (⟨k,aA,pl,(G.length:Int)+1⟩::G) (jJ k::(M++[nB])):=Wf.node k pl Wf.nil hG hk
  have eO:O (p+F.length)=pl:=(hK F.length ⟨k,aA,pl,(G.length:Int)+1⟩ (by rw[List.getElem?_append_right (Nat.le_refl _),Nat.sub_self];rfl)).2 hk
  have eM:=b2 (p+F.length+1) fun j y hj=>by
   rw[show p+F.length+1+j=p+(F.length+(j+1)) by omega]
   exact hK (F.length+(j+1)) y (by rw[List.getElem?_append_right (by omega),show F.length+(j+1) - F.length=j+1 by omega];exact hj)
  rw[List.foldl_append,a2 p (fun j y hj=>hK j y (by rw[List.getElem?_append_left (List.getElem?_eq_some_iff.1 hj).1];exact hj)),List.foldl_cons,LQ (show (2:Int)≠3 by decide),List.foldl_append,eM,vE hF e0,AU hG,eO]
  show kK _ _=_
  rw[aCD]
  have e1:(o++fU (iV K O p L)++[⟨2,k,pl⟩]++fU (iV K O (p+F.length+1) M):List Tk)=(o++fU (iV K O p L))++(⟨2,k,pl⟩::fU (iV K O (p+F.length+1) M)):=by simp
  rw[e1,uB _ _ (by simp)]
  simp
theorem ZE {t:List Nd} {H:List Tk} (h:Th t H):∀ x,H.head?=some x→x.kind≠3:=by
 induction h with
 | nil=>intro x hx;cases hx
 | @text R L s pl _ ih =>
  intro x hx
  rw[List.head?_append]at hx
  cases hc:(nZ pl s s.size).head? with
  | none=>rw[hc]at hx;exact ih x hx
  | some y =>
   rw[hc]at hx
   have e:y=x:=Option.some.inj hx
   have hm:=List.mem_of_mem_head? hc
   unfold nZ at hm
   obtain⟨i,-,e2⟩:=List.mem_map.1 hm
   rw[← e,← e2]
   exact(show (1:Int)≠3 by decide)
 | node k pl _ _ _ _ _ =>
  intro x hx
  have e:=Option.some.inj hx
  rw[← e]
  exact(show (2:Int)≠3 by decide)
theorem UO {t:List Nd} {H:List Tk} (h:Th t H) {pre:List Tk} {x:Tk} (hp:pre++[x] <+: H) (hx:x.kind=3):pre≠[]:=by
 rintro rfl
 obtain⟨R,rfl⟩:=hp
 exact ZE h x rfl hx
theorem aCE {t:List Nd} {L:List Lx.Lx} (hW:Wf t L):∃ H,Th t H∧H.foldl kK []=rN t:=by
 obtain⟨H,h1,h2⟩:=aD3 hW (vD t) (aU t)
 refine⟨H,h1,?_⟩
 unfold rN
 rw[FE hW]
 show _=fU (FJ t 0 L)
 have:=h2 0 (fun j y hj=>⟨fun _=>by unfold vD;rw[Nat.zero_add,hj],fun _=>by unfold aU;rw[Nat.zero_add,hj]⟩) []
 rw[this,List.nil_append];rfl
theorem FO (o:List Tk):∀ l:List Tk,(l.foldl kK o).length=o.length+l.length:=by
 intro l
 induction l generalizing o with
 | nil=>rfl
 | cons x l ih =>
  rw[List.foldl_cons,ih]
  unfold kK
  rw[List.length_append,List.length_singleton,List.length_cons];omega
end Go.Proofs.YtgpihfacmpbpaaaGreatDoor.Fl
