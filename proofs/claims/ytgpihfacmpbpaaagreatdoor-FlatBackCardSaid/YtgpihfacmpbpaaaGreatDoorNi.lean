/-
  Put together: NwA, NwB.
-/
import Derived.Test.YtgpihfacmpbpaaaGreatDoorNb
import Derived.Test.YtgpihfacmpbpaaaGreatDoorVc
namespace Go.Proofs.YtgpihfacmpbpaaaGreatDoor.Nu
open Go.RowKit Tr
def k2 (x:Lx.Lx):Nat × Nat:=(x.kind,x.name)
def aE6 (t t':List Nd):Prop:=∀ i:Nat,(t'[i]?).map (fun(x:Nd)=>(x.kind,x.size,x.place))=(t[i]?).map (fun(x:Nd)=>(x.kind,x.size,x.place))
end Go.Proofs.YtgpihfacmpbpaaaGreatDoor.Nu
namespace Go.Proofs.YtgpihfacmpbpaaaGreatDoor.Nu
open Go.RowKit Tr
section
variable {t t':List Nd} (h:aE6 t t')
include h
end
def rG (x:Ev):Ev:={ x with place:=0 }
theorem aB3 (x:Ev):bare (fP x)=fP (rG x):=by unfold fP rG bare;split<;>rfl
theorem aEC (T:List Nd) (S:List Nat) (x:Ev):kB (T.map bare,S) (rG x)=((kB (T,S) x).1.map bare,(kB (T,S) x).2):=by
 have hk:(rG x).kind=x.kind:=rfl
 by_cases h1:x.kind=1
 ·rw[gK (x:=rG x) h1,gK h1,List.map_append,← aB3];rfl
 ·by_cases h2:x.kind=2
  ·rw[jL (x:=rG x) h2,jL h2,List.map_append,← aB3,List.length_map];rfl
  ·unfold kB
   rw[hk,if_neg h1,if_neg h2,if_neg h1,if_neg h2]
   simp only[List.length_map,Prod.mk.injEq,and_true]
   apply List.ext_getElem?
   intro j
   rw[List.getElem?_map,List.getElem?_modify,List.getElem?_modify,List.getElem?_map]
   cases T[j]? with
   | none=>rfl
   | some y =>
    by_cases hj:S.getLastD 0=j
    ·simp only[Option.map_some,if_pos hj];rfl
    ·simp only[if_neg hj];rfl
theorem aBV:∀ (L:List Ev) (T:List Nd) (S:List Nat),(L.foldl kB (T,S)).1.map bare=((L.map rG).foldl kB (T.map bare,S)).1:=by
 intro L
 induction L with
 | nil=>intro T S;rfl
 | cons x L ih =>
  intro T S
  rw[List.foldl_cons,List.map_cons,List.foldl_cons,aEC]
  exact ih _ _
theorem aDF (acc:List Ev) (x:Ev):(cD acc x).map rG=cD (acc.map rG) (rG x):=by
 have hk:(rG x).kind=x.kind:=rfl
 have ht:(rG x).text=x.text:=rfl
 by_cases h:x.kind=1
 ·by_cases h0:x.text.size=0
  ·rw[cI h h0,cI (x:=rG x) h h0]
  ·rcases List.eq_nil_or_concat acc with rfl | ⟨B',y,rfl⟩
   ·rw[aI h h0 cC,List.map_nil,aI (x:=rG x) h h0 cC];rfl
   ·rw[List.concat_eq_append,List.map_append]
    by_cases hy:y.kind=1
    ·rw[bX h h0 hy]
     show _=cD (B'.map rG++[rG y]) (rG x)
     rw[bX (x:=rG x) (y:=rG y) h h0 hy,List.map_append];rfl
    ·rw[aI h h0 (bK hy)]
     show _=cD (B'.map rG++[rG y]) (rG x)
     rw[aI (x:=rG x) h h0 (bK (x:=rG y) hy),List.map_append,List.map_append];rfl
 ·rw[bQ h,bQ (x:=rG x) h,List.map_append];rfl
theorem UA:∀ (L acc:List Ev),(L.foldl cD acc).map rG=(L.map rG).foldl cD (acc.map rG):=by
 intro L
 induction L with
 | nil=>intro acc;rfl
 | cons x L ih=>intro acc;rw[List.foldl_cons,List.map_cons,List.foldl_cons,ih,aDF]
end Go.Proofs.YtgpihfacmpbpaaaGreatDoor.Nu
