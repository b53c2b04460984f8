/-
  Put together: CvA, CvB, CvC, CvD.
-/
import Derived.Test.YtlgejmcihchngaaGreatDoorUc
import Derived.Test.YtlgejmcihchngaaGreatDoorUa
import Derived.Test.YtlgejmcihchngaaGreatDoorSl
import Derived.Test.YtlgejmcihchngaaGreatDoorQd
import Derived.Deep.AppendLies
import Derived.Test.YtlgejmcihchngaaGreatDoorCuQ
import Derived.Lib.MinMax
import Derived.Shelf.RegionOpenPlain
import Derived.Shelf.Abstract
namespace Go.Proofs.YtlgejmcihchngaaGreatDoor.Cu
open Go.RowKit Ba Ru Ck Ti Pa Fl
section
variable {l:List Rl} {s:List Nat}
theorem leftLen_of {k:Nat} {x:Rl} (h:l[k]?=some x):leftLen l k=x.left.length:=by unfold leftLen;rw[h];rfl
theorem runF_at {n p frm:Nat} (hp:p<s.length):runF l s frm (n+1) p=(if caseN (s.drop p)=3 then ⟨ruleN l 8 capsS,frm+p,0⟩::partsF l frm (allN l (lowN s) (p:Int)) p
   else match bestN l (lowN s) (p:Int) (mostN s p:Int) with
    | none=>[]
    | some k=>(if capB (s.getD p 0)=true then [⟨ruleN l 8 capS,frm+p,0⟩] else [])++⟨k,frm+p,leftLen l k⟩::runF l s frm n (p+leftLen l k)):=by
 conv=>lhs;unfold runF
 rw[if_pos hp]
 rfl
theorem runF_end {n p frm:Nat} (hp:s.length≤p):runF l s frm n p=[]:=by
 cases n with
 | zero=>rfl
 | succ n=>unfold runF;rw[if_neg (by omega)]
theorem run_best (A:Acc prC l) (hs:LetS s) {p:Nat} (hp:p<s.length):∃ k x,bestN l (lowN s) (p:Int) (mostN s p:Int)=some k∧Best l (lowN s) (p:Int) (mostN s p:Int) k x∧0<x.left.length∧x.left.length≤mostN s p∧p+x.left.length≤s.length:=by
 have hr:=low_run hs (fun e=>by rw[e]at hp;exact absurd hp (Nat.not_lt_zero _))
 obtain⟨k,x,hb,hB⟩:=best_there A hr (p:=p) (by rw[lowN_len];exact hp) (most:=(mostN s p:Int)) (by have:=most_pos hp;omega)
 have h1:=elig_len hB.elig
 have h2:=(elig_parts hB.elig).2.2.2.2.1
 rw[lowN_len]at h1
 exact⟨k,x,hb,hB,h1.2,by omega,by omega⟩
theorem runF_fuel (A:Acc prC l) (hs:LetS s) (frm:Nat):∀ (n m p:Nat),s.length - p≤n→s.length - p≤m→runF l s frm n p=runF l s frm m p
 | 0,m,p,h1,_=>by rw[runF_end (by omega),runF_end (by omega)]
 | n+1,0,p,_,h2=>by rw[runF_end (by omega),runF_end (by omega)]
 | n+1,m+1,p,h1,h2=>by
  by_cases hp:p<s.length
  ·rw[runF_at hp,runF_at hp]
   by_cases h3:caseN (s.drop p)=3
   ·rw[if_pos h3,if_pos h3]
   ·rw[if_neg h3,if_neg h3]
    obtain⟨k,x,hb,hB,h0,-,-⟩:=run_best A hs hp
    rw[hb]
    show _++_::_=_++_::_
    rw[leftLen_of hB.at',runF_fuel A hs frm n m _ (by omega) (by omega)]
  ·rw[runF_end (by omega),runF_end (by omega)]
theorem free_at:∀ (d p:Nat),d<freeN s p→∃ h:p+d<s.length,capB s[p+d]=false∧d+freeN s (p+d)=freeN s p
 | 0,p,h=>by
  have hp:p<s.length:=by
   rcases Nat.lt_or_ge p s.length with h1 | h1
   ·exact h1
   ·rw[free_end h1]at h;omega
  refine⟨hp,?_,by rw[Nat.zero_add,Nat.add_zero]⟩
  cases hc:capB s[p+0] with
  | false=>rfl
  | true =>
   have hc:capB s[p]=true:=hc
   rw[free_cap hp hc]at h
   omega
 | d+1,p,h=>by
  obtain⟨hp,hc,-⟩:=free_at 0 p (by omega)
  have e:=free_step (p:=p) hp hc
  obtain⟨h1,h2,h3⟩:=free_at d (p+1) (by omega)
  have e2:p+1+d=p+(d+1):=by omega
  refine⟨by omega,?_,?_⟩
  ·simp only[e2]at h2
   exact h2
  ·rw[e2]at h3
   omega
theorem free_stop:∀ (n p:Nat),s.length - p≤n→p≤s.length→p+freeN s p≤s.length∧∀ h:p+freeN s p<s.length,capB s[p+freeN s p]=true
 | 0,p,h1,h2=>by
  rw[free_end (by omega)]
  exact⟨h2,fun h=>by omega⟩
 | n+1,p,h1,h2=>by
  by_cases hp:p<s.length
  ·cases hc:capB s[p] with
   | true =>
    have e:=free_cap hp hc
    refine⟨by omega,fun h=>?_⟩
    simp only[e,Nat.add_zero]
    exact hc
   | false =>
    have e:=free_step hp hc
    obtain⟨k1,k2⟩:=free_stop n (p+1) (by omega) (by omega)
    have e2:p+freeN s p=p+1+freeN s (p+1):=by omega
    refine⟨by omega,fun h=>?_⟩
    simp only[e2]
    exact k2 (by omega)
  ·rw[free_end (by omega)]
   exact⟨h2,fun h=>by omega⟩
def nextN (s:List Nat) (p:Nat):Nat:=p+freeN s p
theorem most_next {p:Nat} (hp:p<s.length):p+mostN s p=nextN s (p+1):=by
 unfold nextN
 rw[most_free hp]
 cases hc:capB s[p] with
 | true=>rw[if_pos rfl];omega
 | false=>rw[if_neg (by decide),free_step hp hc];omega
theorem next_in {p q:Nat} (h1:p≤q) (h2:q<nextN s p):∃ h:q<s.length,capB s[q]=false∧nextN s q=nextN s p:=by
 unfold nextN at h2
 obtain⟨k1,k2,k3⟩:=free_at (s:=s) (q - p) p (by omega)
 have e:p+(q - p)=q:=by omega
 refine⟨by omega,?_,?_⟩
 ·simp only[e]at k2
  exact k2
 ·rw[e]at k3
  unfold nextN
  omega
theorem next_le {p:Nat} (h:p≤s.length):p≤nextN s p∧nextN s p≤s.length:=⟨Nat.le_add_right _ _,(free_stop _ p (Nat.le_refl _) h).1⟩
theorem next_cap {p:Nat} (h:p≤s.length) (hn:nextN s p<s.length):capB (s[nextN s p]'hn)=true:=(free_stop _ p (Nat.le_refl _) h).2 hn
theorem case_let {r:List Nat} (h:LetS r) (hne:r≠[]):caseN r=if r.all smallB=true then 1 else if (capB (r.headD 0) && r.tail.all smallB)=true then 2 else if r.all capB=true then 3 else 4:=by
 unfold caseN
 have e:(r.isEmpty || !(r.all fun c=>smallB c || capB c))=false:=by
  rw[List.isEmpty_eq_false_iff.2 hne,Bool.false_or,List.all_eq_true.2 fun c hc=>by rcases h c hc with g | g<;>rw[g]<;>simp]
  rfl
 rw[if_neg (by rw[e];decide)]
theorem LetS.drop {r:List Nat} (h:LetS r) (p:Nat):LetS (r.drop p):=fun c hc=>h c (List.mem_of_mem_drop hc)
theorem LetS.take {r:List Nat} (h:LetS r) (p:Nat):LetS (r.take p):=fun c hc=>h c (List.mem_of_mem_take hc)
theorem case_step {c:Nat} {r:List Nat} (h:LetS (c::r)) (hm:caseN (c::r)≠4):caseN r≠4:=by
 have hr:LetS r:=fun d hd=>h d (List.mem_cons_of_mem _ hd)
 by_cases hne:r=[]
 ·rw[hne];decide
 rw[case_let h (by simp)]at hm
 rw[case_let hr hne]
 by_cases h1:r.all smallB=true
 ·rw[if_pos h1];decide
 ·rw[if_neg h1]
  rw[if_neg (by rw[List.all_cons,Bool.and_eq_true];exact fun k=>h1 k.2),if_neg (by show ¬ (capB c && r.all smallB)=true;rw[Bool.and_eq_true];exact fun k=>h1 k.2)]at hm
  have h3:(c::r).all capB=true:=by
   by_cases h3:(c::r).all capB=true
   ·exact h3
   ·rw[if_neg h3]at hm;exact absurd rfl hm
  rw[List.all_cons,Bool.and_eq_true]at h3
  split
  ·decide
  ·rw[if_pos h3.2];decide
theorem case_from (hs:LetS s) {a:Nat} (h:caseN (s.drop a)≠4):∀ (d:Nat),caseN (s.drop (a+d))≠4
 | 0=>h
 | d+1=>by
  have ih:=case_from hs h d
  by_cases hp:a+d<s.length
  ·have e:=List.drop_eq_getElem_cons hp
   have hl:=hs.drop (a+d)
   rw[e]at ih hl
   exact case_step hl ih
  ·rw[List.drop_of_length_le (by omega)]
   decide
theorem case_mixed {a:Nat} {r:List Nat} (h:LetS (a::r)) (ha:capB a=false) {c:Nat} (hc:c ∈ r) (hcap:capB c=true):caseN (a::r)=4:=by
 rw[case_let h (by simp),if_neg,if_neg,if_neg]
 ·rw[List.all_cons,ha];simp
 ·show ¬ (capB a && _)=true
  rw[ha];simp
 ·rw[List.all_eq_true]
  intro k
  have:=small_not (k c (List.mem_cons_of_mem _ hc))
  rw[hcap]at this
  cases this
structure IsRest (s:List Nat) (r:Nat):Prop where
 le:r≤s.length
 yes:∀ t,t<r→caseN (s.drop t)=4
 no:∀ t,r≤t→t<s.length→caseN (s.drop t)≠4
theorem getD_at {p:Nat} (hp:p<s.length):s.getD p 0=s[p]:=by
 rw[List.getD_eq_getElem?_getD,List.getElem?_eq_getElem hp];rfl
theorem next_rest (hs:LetS s) {p r:Nat} (hr:IsRest s r) (hp:p<r):nextN s (p+1)≤r:=by
 have hps:p<s.length:=Nat.lt_of_lt_of_le hp hr.le
 rcases Nat.lt_or_ge r (nextN s (p+1))with h | h
 rotate_left
 ·exact h
 have hm:=hr.yes p hp
 obtain⟨hrl,hrc,hrn⟩:=next_in (s:=s) (p:=p+1) (q:=r) (by omega) h
 by_cases hn:nextN s (p+1)<s.length
 ·have hc:=next_cap (s:=s) (p:=p+1) (by omega) hn
  refine absurd ?_ (hr.no r (Nat.le_refl _) hrl)
  have hl:=hs.drop r
  rw[List.drop_eq_getElem_cons hrl]at hl ⊢
  refine case_mixed hl hrc (c:=s[nextN s (p+1)]) ?_ hc
  rw[List.mem_iff_getElem]
  exact⟨nextN s (p+1) - (r+1),by rw[List.length_drop];omega,by rw[List.getElem_drop];simp only[show r+1+(nextN s (p+1) - (r+1))=nextN s (p+1) by omega]⟩
 ·exfalso
  have hall:(s.drop (p+1)).all smallB=true:=by
   rw[List.all_eq_true]
   intro c hc
   obtain⟨i,hi,rfl⟩:=List.mem_iff_getElem.1 hc
   rw[List.length_drop]at hi
   rw[List.getElem_drop]
   obtain⟨k1,k2,-⟩:=next_in (s:=s) (p:=p+1) (q:=p+1+i) (by omega) (by omega)
   exact(hs _ (List.getElem_mem _)).resolve_right (by rw[k2];decide)
  have hl:=hs.drop p
  rw[List.drop_eq_getElem_cons hps]at hl hm
  rw[case_let hl (List.cons_ne_nil _ _)]at hm
  by_cases hb:smallB s[p]=true
  ·rw[if_pos (by rw[List.all_cons,hb,hall];rfl)]at hm
   cases hm
  ·have hcap:=(hs _ (List.getElem_mem hps)).resolve_left hb
   rw[if_neg (by rw[List.all_cons,Bool.and_eq_true];exact fun k=>hb k.1),if_pos (by show (capB s[p] && (s.drop (p+1)).all smallB)=true;rw[hcap,hall];rfl)]at hm
   cases hm
theorem case_part (hs:LetS s) {p:Nat} (hp:p<s.length):caseN ((s.drop p).take (nextN s (p+1) - p))=if capB s[p]=true then 2 else 1:=by
 have hn:=next_le (s:=s) (p:=p+1) (by omega)
 obtain⟨m,hm⟩:∃ m,nextN s (p+1) - p=m+1:=⟨nextN s (p+1) - p - 1,by omega⟩
 have hl:=(hs.drop p).take (m+1)
 have hall:((s.drop (p+1)).take m).all smallB=true:=by
  rw[List.all_eq_true]
  intro c hc
  obtain⟨i,hi,rfl⟩:=List.mem_iff_getElem.1 hc
  rw[List.length_take,List.length_drop]at hi
  rw[List.getElem_take,List.getElem_drop]
  obtain⟨k1,k2,-⟩:=next_in (s:=s) (p:=p+1) (q:=p+1+i) (by omega) (by omega)
  exact(hs _ (List.getElem_mem _)).resolve_right (by rw[k2];decide)
 rw[hm]
 rw[List.drop_eq_getElem_cons hp,List.take_succ_cons]at hl ⊢
 rw[case_let hl (List.cons_ne_nil _ _)]
 cases hc:capB s[p] with
 | true =>
  have hb:¬ smallB s[p]=true:=fun k=>by rw[small_not k]at hc;cases hc
  rw[if_neg (by rw[List.all_cons,Bool.and_eq_true];exact fun k=>hb k.1),if_pos (by show (capB s[p] && ((s.drop (p+1)).take m).all smallB)=true;rw[hc,hall];rfl),if_pos rfl]
 | false =>
  have hb:smallB s[p]=true:=(hs _ (List.getElem_mem hp)).resolve_right (by rw[hc];decide)
  rw[if_pos (by rw[List.all_cons,hb,hall];rfl),if_neg (by decide)]
def innerN (l:List Rl) (s:List Nat) (frm z q:Nat):List Pc :=
 if q<z then match bestN l (lowN s) (q:Int) ((z:Int) - (q:Int)) with
  | none=>[]
  | some k=>⟨k,frm+q,leftLen l k⟩::runF l s frm (s.length - (q+leftLen l k)) (q+leftLen l k)
 else runF l s frm (s.length - q) q
def capP (l:List Rl) (s:List Nat) (frm p:Nat):List Pc:=if capB (s.getD p 0)=true then [⟨ruleN l 8 capS,frm+p,0⟩] else []
theorem run_inner (A:Acc prC l) (hs:LetS s) (frm:Nat) {p:Nat} (hp:p<s.length) (h3:caseN (s.drop p)≠3):runF l s frm (s.length - p) p=capP l s frm p++innerN l s frm (nextN s (p+1)) p:=by
 obtain⟨n,hn⟩:∃ n,s.length - p=n+1:=⟨s.length - p - 1,by omega⟩
 have hm:=most_next hp
 have hmp:=most_pos hp
 obtain⟨k,x,hb,hB,h0,-,-⟩:=run_best A hs hp
 have hb2:bestN l (lowN s) (p:Int) ((nextN s (p+1):Int) - (p:Int))=some k:=by
  rw[show ((nextN s (p+1):Int) - (p:Int))=(mostN s p:Int) by omega]
  exact hb
 rw[hn,runF_at hp,if_neg h3,hb]
 unfold innerN capP
 rw[if_pos (show p<nextN s (p+1) from by omega),hb2]
 show _++_::_=_++_::_
 rw[leftLen_of hB.at',runF_fuel A hs frm n (s.length - (p+x.left.length)) _ (by omega) (Nat.le_refl _)]
theorem inner_step (A:Acc prC l) (hs:LetS s) (frm:Nat) {p q:Nat} (hp:p<s.length) (h1:p≤q) (h2:q<nextN s (p+1)) :
  ∃ k x,Best l (lowN s) (q:Int) ((nextN s (p+1):Int) - (q:Int)) k x∧innerN l s frm (nextN s (p+1)) q=⟨k,frm+q,x.left.length⟩::innerN l s frm (nextN s (p+1)) (q+x.left.length)∧0<x.left.length∧q+x.left.length≤nextN s (p+1):=by
 have hle:=next_le (s:=s) (p:=p+1) (by omega)
 have hr:=low_run hs (fun e=>by rw[e]at hp;exact absurd hp (Nat.not_lt_zero _))
 obtain⟨k,x,hb,hB⟩:=best_there A hr (p:=q) (by rw[lowN_len];omega) (most:=((nextN s (p+1):Int) - (q:Int))) (by omega)
 have e1:=elig_len hB.elig
 have e2:=(elig_parts hB.elig).2.2.2.2.1
 rw[lowN_len]at e1
 refine⟨k,x,hB,?_,e1.2,by omega⟩
 conv=>lhs;unfold innerN
 rw[if_pos h2,hb]
 show _::_=_
 rw[leftLen_of hB.at']
 congr 1
 obtain⟨q',hq'⟩:∃ q',q+x.left.length=q':=⟨_,rfl⟩
 rw[hq']
 by_cases h3:q'<nextN s (p+1)
 ·obtain⟨k1,k2,k3⟩:=next_in (s:=s) (p:=p+1) (q:=q') (by omega) h3
  have hc3:caseN (s.drop q')≠3:=fun h=>by
   have hmem:s[q'] ∈ s.drop q':=by rw[List.drop_eq_getElem_cons k1];exact List.mem_cons_self ..
   have:=case_all h s[q'] hmem
   rw[k2]at this
   cases this
  have e3:nextN s (q'+1)=nextN s (p+1):=by
   rw[← most_next k1,most_free k1,if_neg (by rw[k2];decide)]
   exact k3
  rw[run_inner A hs frm k1 hc3,e3]
  unfold capP
  rw[getD_at k1,if_neg (by rw[k2];decide),List.nil_append]
 ·unfold innerN
  rw[if_neg h3]
theorem inner_end (frm z:Nat):innerN l s frm z z=runF l s frm (s.length - z) z:=by
 unfold innerN
 rw[if_neg (Nat.lt_irrefl _)]
def caseP (l:List Rl) (c at':Nat):List Pc:=if c=2 then [⟨ruleN l 8 capS,at',0⟩] else if c=3 then [⟨ruleN l 8 capsS,at',0⟩] else []
theorem run_small (A:Acc prC l) (hs:LetS s) (frm:Nat):∀ (n p:Nat),s.length - p≤n→p≤s.length→(∀ c ∈ s.drop p,capB c=false)→runF l s frm (s.length - p) p=partsF l frm (allN l (lowN s) (p:Int)) p
 | n,p,h1,h2,hc=>by
  by_cases hp:p<s.length
  rotate_left
  ·rw[runF_end (by omega),all_end fun h=>by have:=h.2.2;rw[lowN_len]at this;omega]
   rfl
  cases n with
  | zero=>omega
  | succ n =>
  have hr:=low_run hs (fun e=>by rw[e]at hp;exact absurd hp (Nat.not_lt_zero _))
  have hcp:capB s[p]=false:=hc _ (by rw[List.drop_eq_getElem_cons hp];exact List.mem_cons_self ..)
  obtain⟨k,x,hB,hb,hal,h0,hle⟩:=all_step A hr (p:=p) (by rw[lowN_len];exact hp)
  rw[lowN_len]at hle
  have hfree:nextN s (p+1)=s.length:=by
   have k1:=next_le (s:=s) (p:=p+1) (by omega)
   rcases Nat.lt_or_ge (nextN s (p+1)) s.length with h | h
   ·have k2:=next_cap (s:=s) (p:=p+1) (by omega) h
    rw[hc _ (by
     rw[List.mem_iff_getElem]
     exact⟨nextN s (p+1) - p,by rw[List.length_drop];omega,by rw[List.getElem_drop];simp only[show p+(nextN s (p+1) - p)=nextN s (p+1) by omega]⟩)]at k2
    cases k2
   ·omega
  have hm:=most_next hp
  have hb2:=best_is hB.less
  rw[lowN_len,show (s.length:Int) - (p:Int)=(mostN s p:Int) by omega]at hb2
  have h3:caseN (s.drop p)≠3:=fun h=>by
   have:=case_all h s[p] (by rw[List.drop_eq_getElem_cons hp];exact List.mem_cons_self ..)
   rw[hcp]at this
   cases this
  obtain⟨m,hm1⟩:∃ m,s.length - p=m+1:=⟨s.length - p - 1,by omega⟩
  rw[hm1,runF_at hp,if_neg h3,hb2,hal]
  show (if capB (s.getD p 0)=true then _ else _)++_::_=_::_
  rw[getD_at hp,if_neg (by rw[hcp];decide),List.nil_append,leftLen_of hB.at',runF_fuel A hs frm m (s.length - (p+x.left.length)) _ (by omega) (Nat.le_refl _)]
  rw[run_small A hs frm n (p+x.left.length) (by omega) (by omega) (fun c h=>hc c (by
   rw[← List.drop_drop]at h
   exact List.mem_of_mem_drop h))]
theorem run_rest (A:Acc prC l) (hs:LetS s) (frm:Nat) {p:Nat} (hp:p≤s.length) (h4:caseN (s.drop p)≠4):runF l s frm (s.length - p) p=caseP l (caseN (s.drop p)) (frm+p)++partsF l frm (allN l (lowN s) (p:Int)) p:=by
 by_cases hlt:p<s.length
 rotate_left
 ·rw[runF_end (by omega),List.drop_of_length_le (by omega),all_end fun h=>by have:=h.2.2;rw[lowN_len]at this;omega]
  rfl
 have hne:s.drop p≠[]:=by rw[List.drop_eq_getElem_cons hlt];exact List.cons_ne_nil _ _
 have hl:=hs.drop p
 have hcase:=case_let hl hne
 by_cases h1:(s.drop p).all smallB=true
 ·rw[if_pos h1]at hcase
  rw[hcase,run_small A hs frm _ p (Nat.le_refl _) hp (fun c hc=>small_not (List.all_eq_true.1 h1 c hc))]
  rfl
 rw[if_neg h1]at hcase
 by_cases h2:(capB ((s.drop p).headD 0) && (s.drop p).tail.all smallB)=true
 ·rw[if_pos h2]at hcase
  rw[Bool.and_eq_true]at h2
  rw[hcase]
  have hr:=low_run hs (fun e=>by rw[e]at hlt;exact absurd hlt (Nat.not_lt_zero _))
  have e:=List.drop_eq_getElem_cons hlt
  rw[e]at h2
  have hcp:capB s[p]=true:=h2.1
  have htl:∀ c ∈ s.drop (p+1),capB c=false:=fun c hc=>small_not (List.all_eq_true.1 h2.2 c hc)
  obtain⟨k,x,hB,hb,hal,h0,hle⟩:=all_step A hr (p:=p) (by rw[lowN_len];exact hlt)
  rw[lowN_len]at hle
  have hfree:nextN s (p+1)=s.length:=by
   have k1:=next_le (s:=s) (p:=p+1) (by omega)
   rcases Nat.lt_or_ge (nextN s (p+1)) s.length with h | h
   ·have k2:=next_cap (s:=s) (p:=p+1) (by omega) h
    rw[htl _ (by
     rw[List.mem_iff_getElem]
     exact⟨nextN s (p+1) - (p+1),by rw[List.length_drop];omega,by rw[List.getElem_drop];simp only[show p+1+(nextN s (p+1) - (p+1))=nextN s (p+1) by omega]⟩)]at k2
    cases k2
   ·omega
  have hm:=most_next hlt
  have hb2:=best_is hB.less
  rw[lowN_len,show (s.length:Int) - (p:Int)=(mostN s p:Int) by omega]at hb2
  have h3:caseN (s.drop p)≠3:=by rw[hcase];decide
  obtain⟨m,hm1⟩:∃ m,s.length - p=m+1:=⟨s.length - p - 1,by omega⟩
  rw[hm1,runF_at hlt,if_neg h3,hb2,hal]
  show (if capB (s.getD p 0)=true then _ else _)++_::_=[_]++_::_
  rw[getD_at hlt,if_pos hcp,leftLen_of hB.at',runF_fuel A hs frm m (s.length - (p+x.left.length)) _ (by omega) (Nat.le_refl _)]
  rw[run_small A hs frm _ (p+x.left.length) (Nat.le_refl _) (by omega) (fun c h=>htl c (by
   rw[show p+x.left.length=p+1+(x.left.length - 1) by omega,← List.drop_drop]at h
   exact List.mem_of_mem_drop h))]
 ·rw[if_neg h2]at hcase
  by_cases h3:(s.drop p).all capB=true
  ·rw[if_pos h3]at hcase
   obtain⟨m,hm1⟩:∃ m,s.length - p=m+1:=⟨s.length - p - 1,by omega⟩
   rw[hm1,runF_at hlt,if_pos hcase,hcase]
   rfl
  ·rw[if_neg h3]at hcase
   exact absurd hcase h4
end
theorem bestF_congr {s s':List Nat} {p p' most:Int}:∀ (l:List Rl) (k:Nat) (o:Option (Nat × Rl)),(∀ x ∈ l,eligB x s p most=eligB x s' p' most)→bestF s p most l k o=bestF s' p' most l k o
 | [],_,_,_=>rfl
 | x::l,k,o,h=>by
  show bestF s p most l (k+1) (stepB s p most o k x)=bestF s' p' most l (k+1) (stepB s' p' most o k x)
  have e:stepB s p most o k x=stepB s' p' most o k x:=by
   unfold stepB
   rw[h x (List.mem_cons_self ..)]
  rw[e]
  exact bestF_congr l (k+1) _ fun y hy=>h y (List.mem_cons_of_mem _ hy)
theorem acc_letters {l:List Rl} (A:Acc prC l) {x:Rl} (hx:x ∈ l):x.left.length≤12:=by
 have h:=A.alone x hx
 unfold aloneB at h
 rw[Bool.and_eq_true]at h
 have h:=h.2
 unfold mayR at h
 rw[Bool.and_eq_true,Bool.and_eq_true,Bool.and_eq_true]at h
 exact left_len h.1.1.2
def nearN (s:List Nat) (p:Nat):List Nat:=(s.drop (p - 1)).take (min (p+13) s.length - (p - 1))
theorem near_best {l:List Rl} (A:Acc prC l) {s:List Nat} (hs:runB s=true) {p:Nat} (hp:p<s.length) (most:Int):bestN l (nearN s p) ((min p 1:Nat):Int) most=bestN l s (p:Int) most:=by
 have hmem:=(run_mem hs).2
 have hlen:(nearN s p).length=min (p+13) s.length - (p - 1):=by
  unfold nearN
  rw[List.length_take,List.length_drop]
  omega
 have hrun:runB (nearN s p)=true:=by
  unfold runB
  rw[Bool.and_eq_true]
  constructor
  ·cases hb:nearN s p with
   | nil=>rw[hb]at hlen;simp only[List.length_nil]at hlen;omega
   | cons a b=>rfl
  ·rw[List.all_eq_true]
   intro c hc
   have:=hmem c (List.mem_of_mem_drop (List.mem_of_mem_take hc))
   exact decide_eq_true this
 have hdrop:(nearN s p).drop (min p 1)=(s.drop p).take (min (p+13) s.length - p):=by
  unfold nearN
  rw[List.drop_take,List.drop_drop,show p - 1+min p 1=p by omega,show min (p+13) s.length - (p - 1) - min p 1=min (p+13) s.length - p by omega]
 have he:∀ x ∈ l,eligB x (nearN s p) ((min p 1:Nat):Int) most=eligB x s (p:Int) most:=fun x hx=>by
  have h12:=acc_letters A hx
  unfold eligB
  rw[hrun,hs,Int.toNat_natCast,Int.toNat_natCast,hdrop]
  have e1:decide ((0:Int)≤((min p 1:Nat):Int)∧((min p 1:Nat):Int)<((nearN s p).length:Int))=decide ((0:Int)≤(p:Int)∧(p:Int)<(s.length:Int)):=by
   rw[decide_eq_true (by rw[hlen];omega),decide_eq_true (by omega)]
  have e2:x.left.isPrefixOf ((s.drop p).take (min (p+13) s.length - p))=x.left.isPrefixOf (s.drop p):=by
   rw[Bool.eq_iff_iff,List.isPrefixOf_iff_prefix,List.isPrefixOf_iff_prefix]
   constructor
   ·intro h
    exact h.trans (List.take_prefix _ _)
   ·intro h
    have hl:=h.length_le
    rw[List.length_drop]at hl
    rw[List.prefix_take_iff]
    exact⟨h,by omega⟩
  rw[e1,e2]
  congr 1
  unfold whatB
  have hl:(x.left.isPrefixOf (s.drop p))=true→x.left.length≤s.length - p:=fun h=>by
   have:=(List.isPrefixOf_iff_prefix.1 h).length_le
   rw[List.length_drop]at this
   exact this
  refine decide_eq_decide.2 ?_
  rw[hlen]
  omega
 unfold bestN
 rw[bestF_congr l 0 none he]
end Go.Proofs.YtlgejmcihchngaaGreatDoor.Cu
namespace Go.Proofs.YtlgejmcihchngaaGreatDoor.Cu
open Go.RowKit Ba Ru Ck Ti Pa Fl
def KV (b:Nat) (tv rv lv pv:Value) (ps:List Pc) (W:World):Prop :=
 W.heap[b]?=some (.cells #[tv,rv,lv,pv] 79 (0,0))∧W.ownsRow (b+1) 48 3 pv ps.length (rowsP ps)
def KI (b:Nat) (tv rv lv:Value) (ps:List Pc) (W:World):Prop:=∃ pv,KV b tv rv lv pv ps W
def KpI (V V':World):Prop:=∀ (k:Nat) (cs:Array Value) (fr:Nat × Nat),V.heap[k]?=some (.cells cs 3 fr)→V'.heap[k]?=some (.cells cs 3 fr)
theorem KpI.refl (V:World):KpI V V:=fun _ _ _ e=>e
theorem KpI.trans {A B C:World} (h:KpI A B) (k:KpI B C):KpI A C:=fun j cs fr e=>k j cs fr (h j cs fr e)
theorem KpI.of {V V':World} (h:Below V.heap.size V V'):KpI V V':=fun j _ _ e=>(h.block j (Array.getElem?_eq_some_iff.1 e).1).trans e
def StK (b:Nat) (W W':World):Prop:=Below b W W'∧KpI W W'
theorem StK.refl (b:Nat) (W:World):StK b W W:=⟨Below.refl _ _,KpI.refl _⟩
theorem StK.trans {b:Nat} {A B C:World} (h:StK b A B) (k:StK b B C):StK b A C:=⟨h.1.trans k.1,h.2.trans k.2⟩
theorem StK.of {b:Nat} {A B:World} (hb:b≤A.heap.size) (h:Below A.heap.size A B):StK b A B:=⟨h.mono hb,KpI.of h⟩
variable {b:Nat} {tv rv lv pv:Value} {ps:List Pc} {W W' w6:World}
theorem KV.lt (h:KV b tv rv lv pv ps W):b<W.heap.size:=(Array.getElem?_eq_some_iff.1 h.1).1
theorem KV.below (h:KV b tv rv lv pv ps W) (hb:Below W.heap.size W W'):KV b tv rv lv pv ps W':=⟨(hb.block b h.lt).trans h.1,own_below h.2 hb⟩
theorem KI.lt (h:KI b tv rv lv ps W):b<W.heap.size:=by obtain⟨_,h⟩:=h;exact h.lt
theorem KI.below (h:KI b tv rv lv ps W) (hb:Below W.heap.size W W'):KI b tv rv lv ps W':=by obtain⟨pv,h⟩:=h;exact⟨pv,h.below hb⟩
theorem KI.step (h:KI b tv rv lv ps W) (hb:Below W.heap.size W W'):KI b tv rv lv ps W'∧StK b W W':=⟨h.below hb,StK.of (Nat.le_of_lt h.lt) hb⟩
theorem KV.cells (h:KV b tv rv lv pv ps W):W.cell? ⟨b,0,none⟩=some tv∧W.cell? ⟨b,1,none⟩=some rv∧W.cell? ⟨b,2,none⟩=some lv∧W.cell? ⟨b,3,none⟩=some pv:=by
 refine⟨?_,?_,?_,?_⟩<;>(rw[Lib.cell_of_heap h.1];rfl)
theorem KI.cells (h:KI b tv rv lv ps W):W.cell? ⟨b,0,none⟩=some tv∧W.cell? ⟨b,1,none⟩=some rv∧W.cell? ⟨b,2,none⟩=some lv:=by
 obtain⟨pv,h⟩:=h
 exact⟨h.cells.1,h.cells.2.1,h.cells.2.2.1⟩
theorem own_typeK {B e size n:Nat} {v:Value} {xs:List Value} (h:W.ownsRow B e size v n xs) {g:Nat} (hg:v.ownBlock=some g):B≤g∧g<W.heap.size∧∃ cs,W.heap[g]?=some (.cells cs e (0,0)):=by
 rcases h.2 with⟨rfl,-⟩ | ⟨g',cap,cur,rfl,hb,hgb,-⟩
 ·cases hg
 ·have e:g'=g:=Option.some.inj hg
  subst e
  exact⟨hb,(Array.getElem?_eq_some_iff.1 hgb).1,cur,hgb⟩
theorem KpI.set {V:World} {a:Addr} {cs:Array Value} {e:TypeId} {fr:Nat × Nat} (h:V.heap[a.block]?=some (.cells cs e fr)) (he:e≠3) (u:Value):KpI V (V.setCell a u):=fun k cs' fr' hk=>by
 refine(Below.heap_setCell V a u k (fun e1=>?_)).trans hk
 rw[e1,h]at hk
 injection hk with hk
 injection hk with _ hk _
 exact he hk
theorem KV.set {o:Obj} {v6:Value} {qs:List Pc} (h:KV b tv rv lv pv ps W) (hgrow:(W.alloc o).grownBy w6 pv.ownBlock) (own6:w6.ownsRow (b+1) 48 3 v6 qs.length (rowsP qs)) :
  w6.heap[b]?=some (.cells #[tv,rv,lv,pv] 79 (0,0))∧KI b tv rv lv qs (w6.setCell ⟨b,3,none⟩ v6)∧StK b W (w6.setCell ⟨b,3,none⟩ v6):=by
 have hbl:=h.lt
 obtain⟨h1,h2⟩:=h
 have hlt:=h2.lt
 have s1:w6.heap[b]?=W.heap[b]?:=(hgrow.block b (by simp;omega) (fun e1=>by have:=(hlt _ e1.symm).1;omega)).trans (Below.heap_alloc _ _ _ hbl)
 have h6:=s1.trans h1
 have s2:Below b W w6:=((Below.refl _ W).alloc (by omega) _).grown hgrow (by simp;omega) (fun j ej=>by have:=(hlt j ej).1;omega)
 refine⟨h6,⟨v6,?_,?_⟩,s2.setCell (p:=⟨b,3,none⟩) (Nat.le_refl _) _,KpI.trans (B:=w6) (fun k cs' fr' hk=>?_) (KpI.set (a:=⟨b,3,none⟩) h6 (by decide) v6)⟩
 ·simp only[World.setCell,Array.getElem?_modify,h6];rfl
 ·exact ownsRow_setCell_below own6 (show b<b+1 by omega) _
 ·have hkl:=(Array.getElem?_eq_some_iff.1 hk).1
  refine(hgrow.block k (by simp;omega) (fun e1=>?_)).trans ((Below.heap_alloc _ _ _ hkl).trans hk)
  obtain⟨-,-,cs2,h3⟩:=own_typeK h2 (g:=k) e1.symm
  rw[h3]at hk
  injection hk with hk
  injection hk with _ hk _
  exact absurd hk (by decide)
theorem KV.put {o:Obj} {v6:Value} {x:Pc} (h:KV b tv rv lv pv ps W) (hgrow:(W.alloc o).grownBy w6 pv.ownBlock) (own6:w6.ownsRow (b+1) 48 3 v6 (ps.length+1) (rowsP (ps++[x]))) :
  w6.heap[b]?=some (.cells #[tv,rv,lv,pv] 79 (0,0))∧KI b tv rv lv (ps++[x]) (w6.setCell ⟨b,3,none⟩ v6)∧StK b W (w6.setCell ⟨b,3,none⟩ v6) :=
 h.set hgrow (by rw[List.length_append,List.length_singleton];exact own6)
end Go.Proofs.YtlgejmcihchngaaGreatDoor.Cu
namespace Go.Proofs.YtlgejmcihchngaaGreatDoor.Cu
open Go.RowKit Ba Ru Ck Ti Pa Fl
structure Env (T:TLands) (w1:World) (tv lv:Value) (l:List Rl) (lo hi:Nat) (t:List Tk) (off g rc:Nat):Prop where
 few:l.length≤1000
 acc:Acc prC l
 fit:FitL l
 tfew:t.length≤1000
 tfit:FitT t
 chunk:chunkB t=true
 laid:Laid9 w1
 tab:T.Is w1 tv l lo hi
 glt:g<w1.heap.size
 rul:∀ k x,l[k]?=some x→CellsR w1 g (0+k * 5) x.what (bytesOf x.left) (bytesOf x.cells) x.prio x.line
 toks:ReadsT off w1 w1.heap.size lv t
def rvK (l:List Rl) (g rc:Nat):Value:=.slice (some ⟨g,0,none⟩) l.length rc
section
variable {T:TLands} {w1 W W':World} {tv lv:Value} {l:List Rl} {lo hi:Nat} {t:List Tk} {off g rc:Nat} {ps:List Pc}
theorem Env.laidAt (E:Env T w1 tv lv l lo hi t off g rc) (hW:Below w1.heap.size w1 W):Laid9 W:=E.laid.kept hW
theorem Env.tabAt (E:Env T w1 tv lv l lo hi t off g rc) (hW:Below w1.heap.size w1 W):T.Is W tv l lo hi:=T.keep E.tab (Kept.of_below hW (T.ptr E.tab).2)
theorem Env.rulAt (E:Env T w1 tv lv l lo hi t off g rc) (hW:Below w1.heap.size w1 W) {k:Nat} {x:Rl} (hx:l[k]?=some x):CellsR W g (0+k * 5) x.what (bytesOf x.left) (bytesOf x.cells) x.prio x.line:=(E.rul k x hx).below hW E.glt
theorem Env.toksAt (E:Env T w1 tv lv l lo hi t off g rc) (hW:Below w1.heap.size w1 W):ReadsT off W w1.heap.size lv t:=E.toks.below hW
theorem rule_numV (l:List Rl) (q:Int) (s:List Nat):numV (findN l q s)=((ruleN l q s:Nat):Int):=by
 unfold ruleN numV
 cases findN l q s<;>rfl
theorem Env.find (E:Env T w1 tv lv l lo hi t off g rc) (q:Int) (hq:I64 q) (s:List Nat) (hs:s.length≤9000) (h256:∀ c ∈ s,c<256) (hW:Below w1.heap.size w1 W) :
  Calls Tryz.prog 74 #[tv,.int .i64 q,.string (bytesOf s)] W fun e w'=>e=.returned (.tuple #[.int .i64 ((ruleN l q s:Nat):Int),.bool (findN l q s).isSome])∧Below W.heap.size W w':=by
 have h:=T.find (t:=tv) q (bytesOf s) (by rw[bytesOf_size];exact hs) hq E.few E.acc E.fit W (E.laidAt hW) (E.tabAt hW)
 rw[bytesN_bytesOf _ h256,rule_numV]at h
 exact h
set_option maxRecDepth 100000 in
set_option maxHeartbeats 4000000 in
theorem put_at {b:Nat} {tv rv lv:Value} (hK:KI b tv rv lv ps W) (hps:ps.length≤100000) (r f n:Nat) :
  Calls Tryz.prog 78 #[.pointer (some ⟨b,0,none⟩),.int .i64 (r:Int),.int .i64 (f:Int),.int .i64 (n:Int)] W fun e W'=>e=.returned (.tuple #[])∧KI b tv rv lv (ps++[⟨r,f,n⟩]) W'∧StK b W W':=by
 obtain⟨i0,hi0,hz0,hz1,hz2⟩:=info_parts infoP
 obtain⟨pv,hK⟩:=hK
 obtain⟨A,c,rfl,-,-,-⟩:=own_formR hK.2
 have c3:=hK.cells.2.2.2
 have hbl:=hK.lt
 have HK:=Lib.hid hK
 have HP:=Lib.hid (fun(o:Obj) (v6:Value) (w6:World) h1 h2=>hK.put (o:=o) (v6:=v6) (w6:=w6) (x:=⟨r,f,n⟩) h1 h2)
 have HOW:=Lib.hid hK.2
 obtain⟨np,hnp⟩:∃ np,ps.length=np:=⟨_,rfl⟩
 rw[hnp]at c3 hps HP HOW
 clear hK HK hnp
 go_enter Tryz.func78,Tryz.ntmps78
 go_wp2_with (at_builtin;refine wpList_append_lies _ rfl _ _ 33 rfl (b+1) 48 i0 _ 3 24 Tryz.underlying33 hi0 hz0 hz1 hz2 rfl (by decide) _ _ _ rfl (HOW.out.alloc _) ⟨W.heap.size,0,none⟩ 1 1 [.int .i64 (r:Int),.int .i64 (f:Int),.int .i64 (n:Int)] rfl rfl (World.news_of_block (cs:=#[.int .i64 (r:Int),.int .i64 (f:Int),.int .i64 (n:Int)]) (t:=48) (fr:=(0,0)) (heap_alloc_new W _)) (by simp[Value.oneCell']) (by omega) (by unfold maxLen;omega) (by omega) (by simp;omega) (W.heap.size+1) (by simp) ?_;intro gg cap w6 hown6 hgrow6 _ _;obtain⟨hb6,hf6,hs6⟩:=HP.out _ _ w6 hgrow6 (by rw[rowsP_snoc];exact hown6);have hc6:w6.cell? ⟨b,3,none⟩=some (.slice A np c):=(by rw[Lib.cell_of_heap hb6];rfl);have hz6:w6.frozen? ⟨b,3,none⟩=false:=Lib.frozen_of_heap hb6 3;have HF6:=Lib.hid hf6;have HS6:=Lib.hid hs6;clear hf6 hs6 hb6 hgrow6 hown6)
 go_end0
 exact⟨rfl,HF6.out,HS6.out⟩
set_option maxRecDepth 100000 in
set_option maxHeartbeats 4000000 in
theorem take_at (E:Env T w1 tv lv l lo hi t off g rc) (hW:Below w1.heap.size w1 W) (hK:KI w1.heap.size tv (rvK l g rc) lv ps W) (hps:ps.length≤100000) (q:Int) (hq:I64 q) (s:List Nat) (hs:s.length≤9000) (h256:∀ c ∈ s,c<256) (S:ByteArray) (hS:bytesOf s=S) (f n:Nat) :
  Calls Tryz.prog 118 #[.pointer (some ⟨w1.heap.size,0,none⟩),.int .i64 q,.string S,.int .i64 (f:Int),.int .i64 (n:Int)] W fun e W'=>e=.returned (.tuple #[])∧KI w1.heap.size tv (rvK l g rc) lv (ps++[⟨ruleN l q s,f,n⟩]) W'∧StK w1.heap.size W W':=by
 have HF:=Lib.hid (hS▸E.find q hq s hs h256 hW)
 have c0:=hK.cells.1
 have HK:=Lib.hid hK
 have HP:=Lib.hid (fun(V:World) (hV:KI w1.heap.size tv (rvK l g rc) lv ps V)=>put_at hV hps (ruleN l q s) f n)
 obtain⟨b,hb⟩:∃ b,w1.heap.size=b:=⟨_,rfl⟩
 obtain⟨r,hr⟩:∃ r,ruleN l q s=r:=⟨_,rfl⟩
 rw[hb]at c0 HK HP ⊢
 rw[hr]at HF HP ⊢
 clear E hW hK hb hr hS
 go_enter Tryz.func118,Tryz.ntmps118
 go_wp2_with fail
 refine HF.out.mono ?_
 rintro e w2 ⟨rfl,hb2⟩
 obtain⟨hK2,hS2⟩:=HK.out.step hb2
 have HK2:=Lib.hid hK2
 have HS2:=Lib.hid hS2
 clear hb2 hK2 hS2
 go_wp2_with fail
 refine(HP.out _ HK2.out).mono ?_
 rintro e w3 ⟨rfl,hk3,hs3⟩
 have HK3:=Lib.hid hk3
 have HS3:=Lib.hid (HS2.out.trans hs3)
 clear hk3 hs3
 go_wp2
 go_end0
 exact⟨rfl,HK3.out,HS3.out⟩
set_option maxRecDepth 100000 in
set_option maxHeartbeats 4000000 in
theorem tell_at (E:Env T w1 tv lv l lo hi t off g rc) (hW:Below w1.heap.size w1 W) (hK:KI w1.heap.size tv (rvK l g rc) lv ps W) (hps:ps.length≤100000) (s:List Nat) (hs:s.length≤9000) (h256:∀ c ∈ s,c<256) (S:ByteArray) (hS:bytesOf s=S) (f:Nat) :
  Calls Tryz.prog 111 #[.pointer (some ⟨w1.heap.size,0,none⟩),.string S,.int .i64 (f:Int)] W fun e W'=>e=.returned (.tuple #[])∧KI w1.heap.size tv (rvK l g rc) lv (ps++[⟨ruleN l 8 s,f,0⟩]) W'∧StK w1.heap.size W W':=by
 have HT:=Lib.hid (take_at E hW hK hps 8 (by unfold I64;decide) s hs h256 S hS f 0)
 obtain⟨b,hb⟩:∃ b,w1.heap.size=b:=⟨_,rfl⟩
 rw[hb]at HT ⊢
 clear E hW hK hb hS
 go_enter Tryz.func111,Tryz.ntmps111
 go_wp2_with fail
 refine HT.out.mono ?_
 rintro e w2 ⟨rfl,hk,hs⟩
 have HK:=Lib.hid hk
 have HS:=Lib.hid hs
 clear hk hs
 go_wp2
 go_end0
 exact⟨rfl,HK.out,HS.out⟩
set_option maxRecDepth 100000 in
set_option maxHeartbeats 4000000 in
theorem tellCase_at (E:Env T w1 tv lv l lo hi t off g rc) (hW:Below w1.heap.size w1 W) (hK:KI w1.heap.size tv (rvK l g rc) lv ps W) (hps:ps.length≤100000) (S:ByteArray) (hS:S.size≤2000) (f:Nat) :
  Calls Tryz.prog 77 #[.pointer (some ⟨w1.heap.size,0,none⟩),.string S,.int .i64 (f:Int)] W fun e W'=>e=.returned (.tuple #[])∧KI w1.heap.size tv (rvK l g rc) lv (ps++caseP l (caseN (bytesN S)) f) W'∧StK w1.heap.size W W':=by
 have HCA:=Lib.hid (caseI_caseN S▸Hc.case_any S hS W (hc_laid (E.laidAt hW).1))
 have HK:=Lib.hid hK
 have HT2:=Lib.hid (fun(V:World) (hV:Below W.heap.size W V)=>tell_at E (hW.trans (hV.mono hW.size)) (hK.below hV) hps capS (by decide) (by decide) { data:=#[99,97,112] } rfl f)
 have HT3:=Lib.hid (fun(V:World) (hV:Below W.heap.size W V)=>tell_at E (hW.trans (hV.mono hW.size)) (hK.below hV) hps capsS (by decide) (by decide) { data:=#[99,97,112,115] } rfl f)
 obtain⟨b,hb⟩:∃ b,w1.heap.size=b:=⟨_,rfl⟩
 obtain⟨cn,hcn⟩:∃ c,caseN (bytesN S)=c:=⟨_,rfl⟩
 rw[hb]at HK HT2 HT3 ⊢
 rw[hcn]at HCA ⊢
 clear E hW hK hb hcn
 go_enter Tryz.func77,Tryz.ntmps77
 go_wp2_with fail
 refine HCA.out.mono ?_
 rintro e w2 ⟨rfl,hb2⟩
 have HB2:=Lib.hid hb2
 have HS2:=Lib.hid (HK.out.step hb2)
 clear hb2
 by_cases h2:cn=2
 ·subst h2
  go_wp2_with fail
  refine(HT2.out _ HB2.out).mono ?_
  rintro e w3 ⟨rfl,hk3,hs3⟩
  have HK3:=Lib.hid hk3
  have HS3:=Lib.hid (HS2.out.2.trans hs3)
  clear hk3 hs3
  go_wp2
  go_end0
  exact⟨rfl,HK3.out,HS3.out⟩
 ·by_cases h3:cn=3
  ·subst h3
   go_wp2_with fail
   refine(HT3.out _ HB2.out).mono ?_
   rintro e w3 ⟨rfl,hk3,hs3⟩
   have HK3:=Lib.hid hk3
   have HS3:=Lib.hid (HS2.out.2.trans hs3)
   clear hk3 hs3
   go_wp2
   go_end0
   exact⟨rfl,HK3.out,HS3.out⟩
  ·have HE:=Lib.hid (show caseP l cn f=[] from by unfold caseP;rw[if_neg h2,if_neg h3])
   have t2:((cn:Int)==2)=false:=beq_eq_false_iff_ne.2 (by omega)
   have t3:((cn:Int)==3)=false:=beq_eq_false_iff_ne.2 (by omega)
   clear h2 h3
   go_wp2
   go_end0
   rw[HE.out,List.append_nil]
   exact⟨rfl,HS2.out.1,HS2.out.2⟩
set_option maxRecDepth 100000 in
set_option maxHeartbeats 4000000 in
theorem putPart_at (E:Env T w1 tv lv l lo hi t off g rc) (hW:Below w1.heap.size w1 W) (hK:KI w1.heap.size tv (rvK l g rc) lv ps W) (hps:ps.length≤100000) (k:Nat) (x:Rl) (hx:l[k]?=some x) (n:Nat) (hn:x.left.length=n) (f:Nat) :
  Calls Tryz.prog 115 #[.pointer (some ⟨w1.heap.size,0,none⟩),.int .i64 (k:Int),.int .i64 (f:Int)] W fun e W'=>e=.returned (.int .i64 (n:Int))∧KI w1.heap.size tv (rvK l g rc) lv (ps++[⟨k,f,n⟩]) W'∧StK w1.heap.size W W':=by
 have HP:=Lib.hid (put_at hK hps k f n)
 have c1:=hK.cells.2.1
 have x1:=(E.rulAt hW hx).c1
 have hk:k<l.length:=(List.getElem?_eq_some_iff.1 hx).1
 have hsz:(bytesOf x.left).size=n:=by rw[bytesOf_size,hn]
 obtain⟨X,hX⟩:∃ X,bytesOf x.left=X:=⟨_,rfl⟩
 rw[hX]at x1 hsz
 rw[Nat.zero_add]at x1
 unfold rvK at c1 HP ⊢
 obtain⟨nl,hnl⟩:∃ nl,l.length=nl:=⟨_,rfl⟩
 obtain⟨b,hb⟩:∃ b,w1.heap.size=b:=⟨_,rfl⟩
 rw[hnl]at c1 hk HP ⊢
 rw[hb]at c1 HP ⊢
 subst hsz
 have k0:(0:Int)≤(k:Int):=by omega
 have k1:(k:Int)<(nl:Int):=by omega
 clear E hW hK hb hnl hX hx hn
 go_enter Tryz.func115,Tryz.ntmps115
 go_wp2_with fail
 refine HP.out.mono ?_
 rintro e w2 ⟨rfl,hk2,hs2⟩
 have HK2:=Lib.hid hk2
 have HS2:=Lib.hid hs2
 clear hk2 hs2
 go_wp2
 go_ret
 exact⟨rfl,HK2.out,HS2.out⟩
theorem chunk_digit {x:Tk} (h:tokT x=true) (hc:x.ch<256):(decide (Hc.cls (x.ch:Int)=3))=digT x:=by
 have h3:Hc.cls (x.ch:Int)=3↔48≤x.ch∧x.ch≤57:=(cls_spec ⟨x.ch,hc⟩).2.2.1
 rw[Bool.eq_iff_iff,decide_eq_true_iff,h3]
 unfold digT
 rw[Bool.and_eq_true,decide_eq_true_iff,decide_eq_true_iff]
 constructor
 ·intro hr
  refine⟨?_,hr⟩
  unfold tokT at h
  rw[Bool.or_eq_true,Bool.or_eq_true,Bool.or_eq_true]at h
  rcases h with((h | h) | h) | h
  ·unfold letT smallT capT at h
   rw[Bool.or_eq_true,Bool.and_eq_true,Bool.and_eq_true]at h
   rcases h with h | h<;>exact of_decide_eq_true h.1
  ·unfold digT at h
   rw[Bool.and_eq_true]at h
   exact of_decide_eq_true h.1
  ·unfold mrkT at h
   rw[Bool.and_eq_true]at h
   exact of_decide_eq_true h.1
  ·exfalso
   unfold nameT at h
   rw[if_neg (by omega)]at h
   cases h
 ·exact fun h=>h.2
set_option maxRecDepth 100000 in
set_option maxHeartbeats 4000000 in
theorem behind_at (E:Env T w1 tv lv l lo hi t off g rc) (hW:Below w1.heap.size w1 W) (hK:KI w1.heap.size tv (rvK l g rc) lv ps W) (i:Nat) (hi9:i≤t.length) (r:Bool) (hr:behB t i=r) :
  Calls Tryz.prog 112 #[.pointer (some ⟨w1.heap.size,0,none⟩),.int .i64 (i:Int)] W fun e W'=>e=.returned (.bool r)∧W'=W:=by
 have c2:=hK.cells.2.2
 have HL:=Lib.hid (hc_laid (E.laidAt hW).1)
 have hfew:=E.tfew
 cases i with
 | zero =>
  have HR:=Lib.hid (show false=r from hr)
  clear E hW hK hr hfew hi9
  go_enter Tryz.func112,Tryz.ntmps112
  go_wp2
  go_ret
  rw[HR.out]
  exact⟨rfl,rfl⟩
 | succ j =>
  obtain⟨g0,c0,rfl,hg0,hcell⟩:=(E.toksAt hW).at (by omega)
  obtain⟨x,hx⟩:∃ x,t[j]?=some x:=⟨_,List.getElem?_eq_getElem (by omega)⟩
  have hmem:=List.mem_of_getElem? hx
  have hch:=(E.tfit x hmem).2.1
  have htok:tokT x=true:=List.all_eq_true.1 E.chunk x hmem
  have x1:=(tcell hcell j x hx).2.1
  have hd:=chunk_digit htok hch
  have HR:=Lib.hid (show digT x=r from by rw[← hr,behB_at hx])
  obtain⟨ch,hch'⟩:∃ ch,x.ch=ch:=⟨_,rfl⟩
  rw[hch']at x1 hch hd
  obtain⟨kc,hkc⟩:∃ kc,Hc.cls (ch:Int)=kc:=⟨_,rfl⟩
  have HCL:=Lib.hid (Hc.class_at (ch:Int) kc (by omega) (by omega) hkc W HL.out)
  rw[hkc]at hd
  have HD:=Lib.hid hd
  obtain⟨nt,hnt⟩:∃ nt,t.length=nt:=⟨_,rfl⟩
  rw[hnt]at c2 hi9 hfew
  obtain⟨b,hb⟩:∃ b,w1.heap.size=b:=⟨_,rfl⟩
  rw[hb]at c2 ⊢
  have t1:IntKind.i64.wrap (((j:Int)+1) - 1)=(j:Int):=by rw[IntWalk.i64_in _ ⟨by omega,by omega⟩];omega
  have t2:decide ((0:Int)<(j:Int)+1)=true:=decide_eq_true (by omega)
  have j0:(0:Int)≤(j:Int):=by omega
  have j1:(j:Int)<(nt:Int):=by omega
  clear E hW hK hr hx hmem htok hcell hg0 hd hkc hnt hb hch'
  by_cases hk:kc=3
  ·subst hk
   have HV:=Lib.hid (show true=r from by rw[← HR.out,← HD.out];rfl)
   go_enter Tryz.func112,Tryz.ntmps112
   go_wp2_with fail
   refine HCL.out.mono ?_
   rintro e w2 ⟨rfl,rfl⟩
   go_wp2
   go_ret
   rw[HV.out]
   exact⟨rfl,rfl⟩
  ·have HV:=Lib.hid (show false=r from by rw[← HR.out,← HD.out,decide_eq_false hk])
   have t3:(kc==3)=false:=beq_eq_false_iff_ne.2 hk
   go_enter Tryz.func112,Tryz.ntmps112
   go_wp2_with fail
   refine HCL.out.mono ?_
   rintro e w2 ⟨rfl,rfl⟩
   go_wp2
   go_ret
   rw[HV.out]
   exact⟨rfl,rfl⟩
end
end Go.Proofs.YtlgejmcihchngaaGreatDoor.Cu
namespace Go.Proofs.YtlgejmcihchngaaGreatDoor.Cu
open Go.RowKit Ba Ru Ck Ti Pa Fl
theorem hcase_is (s:List Nat) (hs:s.length≤2000) (h256:∀ c ∈ s,c<256) (W:World) (hL:Laid9 W) :
  Calls Tryz.prog 76 #[.string (bytesOf s)] W fun e w'=>e=.returned (.int .i64 ((caseN s:Nat):Int))∧Below W.heap.size W w':=by
 have h:=Hc.case_any (bytesOf s) (by rw[bytesOf_size];exact hs) W (hc_laid hL.1)
 rw[caseI_caseN,bytesN_bytesOf _ h256]at h
 exact h
set_option maxRecDepth 100000 in
set_option maxHeartbeats 4000000 in
theorem unmixedF_at (s:List Nat) (hs:LetS s) (hsl:s.length≤2000) (bx p:Nat) (hp:p≤s.length) (W:World) (hL:Laid9 W) (hX:W.cell? ⟨bx,0,none⟩=some (.string (bytesOf s))) :
  Calls Tryz.prog 148 #[.int .i64 (p:Int),.pointer (some ⟨bx,0,none⟩)] W fun e w'=>e=.returned (.bool (decide (caseN (s.drop p)≠4)))∧Below W.heap.size W w':=by
 have h256:=lets_lt hs
 have HC:=hcase_is (s.drop p) (by rw[List.length_drop];omega) (fun c hc=>h256 c (List.mem_of_mem_drop hc)) W hL
 rw[← drop_ext h256 p]at HC
 have hz:(bytesOf s).size=s.length:=bytesOf_size _
 obtain⟨S,hS⟩:∃ S,bytesOf s=S:=⟨_,rfl⟩
 obtain⟨cn,hcn⟩:∃ c,caseN (s.drop p)=c:=⟨_,rfl⟩
 rw[hS]at HC hX hz
 rw[hcn]at HC ⊢
 have HC:=Lib.hid HC
 have p0:(0:Int)≤(p:Int):=by omega
 have p1:(p:Int)≤(S.size:Int):=by omega
 have p2:p≤S.size:=by omega
 clear hs hsl hp hL h256 hz hS hcn
 go_enter Tryz.func148,Tryz.ntmps148
 go_wp2_with fail
 refine HC.out.mono ?_
 rintro e w2 ⟨rfl,hb2⟩
 have HB2:=Lib.hid hb2
 clear hb2
 by_cases h4:cn=4
 ·subst h4
  go_wp2
  go_ret
  exact⟨rfl,HB2.out⟩
 ·have t4:((cn:Int) != 4)=true:=bne_iff_ne.2 (by omega)
  have HV:=Lib.hid (show decide (cn≠4)=true from decide_eq_true h4)
  clear h4
  go_wp2
  go_ret
  exact⟨Cl.ret_bool HV.out.symm,HB2.out⟩
set_option maxRecDepth 100000 in
set_option maxHeartbeats 4000000 in
theorem search_at (s:List Nat) (hs:LetS s) (n:Nat) (hn:s.length=n) (hsl:n≤2000) (bx:Nat) (w:World) (hL:Laid9 w) (hbx:bx<w.heap.size) (hX:w.cell? ⟨bx,0,none⟩=some (.string (bytesOf s))) :
  Calls Tryz.prog 147 #[.int .i64 (n:Int),.func (.func 148) #[] #[.pointer (some ⟨bx,0,none⟩)]] w fun e w'=>(∃ r:Nat,e=.returned (.int .i64 (r:Int))∧IsRest s r)∧Below w.heap.size w w':=by
 have HF:=Lib.hid (fun(p:Nat) (hp:p<n) (W:World) (hW:Below w.heap.size w W)=>unmixedF_at s hs (by omega) bx p (by omega) W (hL.kept hW) ((hW.cell (p:=⟨bx,0,none⟩) hbx).trans hX))
 have HUP:=Lib.hid (fun(a b:Nat) (hab:a≤b) (h:caseN (s.drop a)≠4)=>show caseN (s.drop b)≠4 from by
  have:=case_from hs h (b - a)
  rwa [show a+(b - a)=b by omega]at this)
 have HN:=Lib.hid hn
 clear hs hn hL hX hbx
 go_enter Tryz.func147,Tryz.ntmps147
 go_wp2
 go_loopw [5,6] (fun a b wr=>∃ lo hi:Nat,a=.int .i64 (lo:Int)∧b=.int .i64 (hi:Int)∧lo≤hi∧hi≤n∧(∀ t,t<lo→caseN (s.drop t)=4)∧(∀ t,hi≤t→t<n→caseN (s.drop t)≠4)∧Below w.heap.size w wr) (fun a b _=>(intOf b).toNat - (intOf a).toNat)
 case atStart=>exact⟨0,n,rfl,rfl,Nat.zero_le _,Nat.le_refl _,fun t ht=>absurd ht (Nat.not_lt_zero _),fun t h1 h2=>by omega,Below.refl _ _⟩
 case round =>
  obtain⟨lo,hi,rfl,rfl,hlh,hin,hy,hno,hB⟩:=hrel
  have HY:=Lib.hid hy
  have HNO:=Lib.hid hno
  have HB:=Lib.hid hB
  clear hy hno hB
  by_cases hlt:lo<hi
  ·have hc:=HF.out ((lo+hi) / 2) (by omega) wr HB.out
   obtain⟨q,hq⟩:∃ q,decide (caseN (s.drop ((lo+hi) / 2))≠4)=q:=⟨_,rfl⟩
   rw[hq]at hc
   rw[show (((lo+hi) / 2:Nat):Int)=((lo:Int)+(hi:Int)) / 2 by omega]at hc
   have HC:=Lib.hid hc
   have HQ:=Lib.hid hq
   clear hc hq
   cases q
   ·have HNX:=Lib.hid (show ∀ t,t<(lo+hi) / 2+1→caseN (s.drop t)=4 from fun t ht=>by
     by_cases h4:caseN (s.drop t)=4
     ·exact h4
     ·exact absurd (HUP.out t ((lo+hi) / 2) (by omega) h4) (of_decide_eq_false HQ.out))
    go_wp2_with fail
    refine HC.out.mono ?_
    rintro e w2 ⟨rfl,hb2⟩
    have HB2:=Lib.hid (chain HB.out HB.out.size hb2)
    clear hb2
    go_wp2
    go_roundw
    case rel=>exact⟨(lo+hi) / 2+1,hi,by rw[show ((lo:Int)+(hi:Int)) / 2+1=(((lo+hi) / 2+1:Nat):Int) by omega],rfl,by omega,hin,HNX.out,HNO.out,HB2.out⟩
    case measure=>simp[intOf];omega
   ·have HNX:=Lib.hid (show ∀ t,(lo+hi) / 2≤t→t<n→caseN (s.drop t)≠4 from fun t h1 _=>HUP.out _ t h1 (of_decide_eq_true HQ.out))
    go_wp2_with fail
    refine HC.out.mono ?_
    rintro e w2 ⟨rfl,hb2⟩
    have HB2:=Lib.hid (chain HB.out HB.out.size hb2)
    clear hb2
    go_wp2
    go_roundw
    case rel=>exact⟨lo,(lo+hi) / 2,rfl,by rw[show ((lo:Int)+(hi:Int)) / 2=(((lo+hi) / 2:Nat):Int) by omega],by omega,by omega,HY.out,HNX.out,HB2.out⟩
    case measure=>simp[intOf];omega
  ·obtain rfl:hi=lo:=by omega
   have HR:=Lib.hid (show IsRest s hi from ⟨by rw[HN.out];exact hin,HY.out,fun t h1 h2=>HNO.out t h1 (by rw[← HN.out];exact h2)⟩)
   go_wp2
   go_ret
   exact⟨⟨hi,rfl,HR.out⟩,HB.out⟩
set_option maxRecDepth 100000 in
set_option maxHeartbeats 4000000 in
theorem unmixed_at (s:List Nat) (hs:LetS s) (hsl:s.length≤2000) (w:World) (hL:Laid9 w) :
  Calls Tryz.prog 113 #[.string (bytesOf s)] w fun e w'=>(∃ r:Nat,e=.returned (.int .i64 (r:Int))∧IsRest s r)∧Below w.heap.size w w':=by
 have hz:(bytesOf s).size=s.length:=bytesOf_size _
 have HS:=Lib.hid (fun(W:World) (hW:Below w.heap.size w W) (h1:w.heap.size<W.heap.size) (h2:W.cell? ⟨w.heap.size,0,none⟩=some (.string (bytesOf s)))=>search_at s hs s.length rfl hsl w.heap.size W (hL.kept hW) h1 h2)
 obtain⟨S,hS⟩:∃ S,bytesOf s=S:=⟨_,rfl⟩
 rw[hS]at HS hz ⊢
 rw[← hz]at HS
 have HZ:=Lib.hid hz
 clear hs hsl hL hS hz
 go_enter Tryz.func113,Tryz.ntmps113
 go_upto_region 1 with fail
 have hw:=(Below.refl w.heap.size w).alloc (Nat.le_refl _) (.cells #[.string S] 9)
 have hsz:w.heap.size<(w.alloc (.cells #[.string S] 9)).heap.size:=by simp
 have hc:(w.alloc (.cells #[.string S] 9)).cell? ⟨w.heap.size,0,none⟩=some (.string S):=by rw[World.cell?_alloc_at _ _ _ _ (by simp)];rfl
 generalize w.alloc _=w1 at hw hsz hc ⊢
 have HC:=Lib.hid (HS.out w1 hw hsz hc)
 have HW:=Lib.hid hw
 clear hw
 go_wp2_with fail
 refine HC.out.mono ?_
 rintro e w2 ⟨⟨r,rfl,hr⟩,hb2⟩
 have HR:=Lib.hid hr
 have HB2:=Lib.hid (chain HW.out HW.out.size hb2)
 clear hr hb2
 go_wp2
 go_ret
 exact⟨⟨r,rfl,HR.out⟩,HB2.out⟩
theorem next_step {s:List Nat} {p:Nat} (hp:p<s.length) (h:capB s[p]=false):nextN s p=nextN s (p+1):=by
 unfold nextN
 rw[free_step hp h]
 omega
theorem next_here {s:List Nat} {p:Nat} (hp:p<s.length) (h:capB s[p]=true):nextN s p=p:=by
 unfold nextN
 rw[free_cap hp h]
 rfl
theorem next_end {s:List Nat} {p:Nat} (hp:s.length≤p):nextN s p=p:=by
 unfold nextN
 rw[free_end hp]
 rfl
set_option maxRecDepth 100000 in
set_option maxHeartbeats 4000000 in
theorem next_at (s:List Nat) (h256:∀ c ∈ s,c<256) (hsl:s.length≤2000) (p:Nat) (hp:p≤s.length) (w:World) (hL:Laid9 w) :
  Calls Tryz.prog 114 #[.string (bytesOf s),.int .i64 (p:Int)] w fun e w'=>e=.returned (.int .i64 ((nextN s p:Nat):Int))∧w=w':=by
 have hz:(bytesOf s).size=s.length:=bytesOf_size _
 have HCAP:=Lib.hid (fun(j:Nat) (hj:j<s.length)=>show Hc.kc (bytesOf s) j=2↔capB s[j]=true from by
  rw[kc_cap _ j (by omega),bytesN_bytesOf _ h256,getD_at hj])
 obtain⟨S,hS⟩:∃ S,bytesOf s=S:=⟨_,rfl⟩
 obtain⟨r,hr⟩:∃ r,nextN s p=r:=⟨_,rfl⟩
 rw[hS]at HCAP hz ⊢
 rw[hr]
 have HL:=Lib.hid (hc_laid hL.1)
 have HZ:=Lib.hid hz
 have HR:=Lib.hid hr
 have hS2:S.size≤2000:=by omega
 have hpS:p≤S.size:=by omega
 clear h256 hsl hp hL hz hS hr
 go_enter Tryz.func114,Tryz.ntmps114
 go_wp2
 go_loop [5] (fun u5=>∃ k:Nat,u5=.int .i64 (k:Int)∧k≤S.size∧nextN s k=r) (fun u5=>S.size - (intOf u5).toNat)
 case atStart=>exact⟨p,rfl,hpS,HR.out⟩
 case round =>
  obtain⟨k,rfl,hk,hn⟩:=hrel
  have HN:=Lib.hid hn
  clear hn
  by_cases hlt:k<S.size
  ·by_cases hc:Hc.kc S k=2
   ·have HV:=Lib.hid (show k=r from by rw[← HN.out,next_here (by rw[← HZ.out];exact hlt) ((HCAP.out k (by rw[← HZ.out];exact hlt)).1 hc)])
    have HC:=Lib.hid hc
    clear hc
    go_wp2_with (go_at_call 51;refine(Hc.class_byte S k hlt _ HC.out w HL.out).mono ?_;rintro e w' ⟨rfl,rfl⟩)
    go_ret
    exact⟨Ba.ret_int (by rw[HV.out]),rfl⟩
   ·have HNX:=Lib.hid (show nextN s (k+1)=r from by
     have hks:k<s.length:=by rw[← HZ.out];exact hlt
     rw[← HN.out,next_step hks]
     cases hb:capB s[k] with
     | false=>rfl
     | true=>exact absurd ((HCAP.out k hks).2 hb) hc)
    have hb:(Hc.kc S k==2)=false:=by simpa using hc
    clear hc
    go_wp2_with (go_at_call 51;refine(Hc.class_byte S k hlt _ rfl w HL.out).mono ?_;rintro e w' ⟨rfl,rfl⟩)
    go_round
    case rel=>exact⟨k+1,by go_num,by omega,HNX.out⟩
    case measure=>simp[intOf];omega
  ·obtain rfl:k=S.size:=by omega
   have HV:=Lib.hid (show S.size=r from by rw[← HN.out,next_end (by rw[← HZ.out];exact Nat.le_refl _)])
   go_wp2
   go_ret
   exact⟨Ba.ret_int (by rw[HV.out]),rfl⟩
section
variable {T:TLands} {w1 W W':World} {tv lv:Value} {l:List Rl} {lo hi:Nat} {t:List Tk} {off g rc:Nat} {ps:List Pc}
theorem near_ext {s:List Nat} (h256:∀ c ∈ s,c<256) (p:Nat):(bytesOf s).extract (p - 1) (min (p+13) s.length)=bytesOf (nearN s p):=by
 unfold nearN
 rw[← bytesOf_bytesN ((bytesOf s).extract (p - 1) (min (p+13) s.length)),bytesN_ext,bytesN_bytesOf _ h256]
set_option maxRecDepth 100000 in
set_option maxHeartbeats 4000000 in
theorem best_at (E:Env T w1 tv lv l lo hi t off g rc) (hW:Below w1.heap.size w1 W) (hK:KI w1.heap.size tv (rvK l g rc) lv ps W) (s:List Nat) (hs:runB s=true) (hsl:s.length≤1000) (p:Nat) (hp:p<s.length) (most:Nat) (hm:most≤2000) (k:Nat) (hk:bestN l s (p:Int) (most:Int)=some k) :
  Calls Tryz.prog 116 #[.pointer (some ⟨w1.heap.size,0,none⟩),.string (bytesOf s),.int .i64 (p:Int),.int .i64 (most:Int)] W fun e W'=>e=.returned (.int .i64 (k:Int))∧Below W.heap.size W W':=by
 have h256:∀ c ∈ s,c<256:=fun c hc=>by have:=(run_mem hs).2 c hc;omega
 have hn256:∀ c ∈ nearN s p,c<256:=fun c hc=>h256 c (List.mem_of_mem_drop (List.mem_of_mem_take hc))
 have hnl:(nearN s p).length≤1000:=by
  unfold nearN
  rw[List.length_take,List.length_drop]
  omega
 have HB:=(plands T).best (t:=tv) (bytesOf (nearN s p)) ((min p 1:Nat):Int) (most:Int) (by rw[bytesOf_size];omega) (by unfold I64;omega) (by unfold I64;omega) E.few E.acc E.fit W (E.laidAt hW) (E.tabAt hW)
 rw[bytesN_bytesOf _ hn256,near_best E.acc hs hp,hk,← near_ext h256]at HB
 have c0:=hK.cells.1
 have hz:(bytesOf s).size=s.length:=bytesOf_size _
 obtain⟨S,hS⟩:∃ S,bytesOf s=S:=⟨_,rfl⟩
 rw[hS]at HB hz ⊢
 rw[← hz]at HB hp hsl
 obtain⟨b,hb⟩:∃ b,w1.heap.size=b:=⟨_,rfl⟩
 rw[hb]at c0 ⊢
 have HK:=Lib.hid hK.lt
 have t1:IntKind.i64.wrap ((p:Int) - 1)=(p:Int) - 1:=IntWalk.i64_in _ ⟨by omega,by omega⟩
 have m1:max ((p:Int) - 1) 0=((p - 1:Nat):Int):=by omega
 have t2:IntKind.i64.wrap ((p:Int)+12)=(p:Int)+12:=IntWalk.i64_in _ ⟨by omega,by omega⟩
 have t3:IntKind.i64.wrap ((p:Int)+12+1)=(p:Int)+13:=by rw[IntWalk.i64_in _ ⟨by omega,by omega⟩];omega
 have m2:min ((p:Int)+13) (S.size:Int)=((min (p+13) S.size:Nat):Int):=by omega
 have m3:min (p:Int) 1=((min p 1:Nat):Int):=by omega
 have hae:p - 1≤min (p+13) S.size:=by omega
 have hes:min (p+13) S.size≤S.size:=by omega
 obtain⟨a,ha⟩:∃ a,p - 1=a:=⟨_,rfl⟩
 obtain⟨z,hz9⟩:∃ z,min (p+13) S.size=z:=⟨_,rfl⟩
 obtain⟨d,hd⟩:∃ d,min p 1=d:=⟨_,rfl⟩
 rw[ha,hz9,hd]at HB
 rw[ha]at m1 hae
 rw[hz9]at m2 hae hes
 rw[hd]at m3
 have HB:=Lib.hid HB
 have a0:(0:Int)≤(a:Int):=by omega
 have a1:(a:Int)≤(z:Int):=by omega
 have a2:(z:Int)≤(S.size:Int):=by omega
 clear E hW hK hs hk h256 hn256 hnl hz hS hb ha hz9 hd
 go_enter Tryz.func116,Tryz.ntmps116
 go_wp2_with fail
 refine HB.out.mono ?_
 rintro e w2 ⟨rfl,hb2⟩
 have HB2:=Lib.hid hb2
 clear hb2
 go_wp2
 go_ret
 exact⟨rfl,HB2.out⟩
end
end Go.Proofs.YtlgejmcihchngaaGreatDoor.Cu
