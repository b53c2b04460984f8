/-
  Put together.
-/
import Derived.Test.YthbigkoihpgcfaaGreatDoorQd
import Derived.Test.YthbigkoihpgcfaaGreatDoorSl
import Derived.Test.YthbigkoihpgcfaaGreatDoorUa
import Derived.Test.YthbigkoihpgcfaaGreatDoorUb
import Derived.Deep.AppendLies
import Derived.Lib.MinMax
import Derived.Shelf.RegionOpenPlain
import Derived.Shelf.Abstract
open Go.Lib (hid)
set_option maxRecDepth 100000
set_option maxHeartbeats 16000000
namespace Go.Proofs.YthbigkoihpgcfaaGreatDoor.Cu
open Go.RowKit Ba Ru Ck Ti Pa Fl
section
variable {l:List Rl} {s:List Nat}
theorem iU {k:Nat} {x:Rl} (h:l[k]?=some x):aK l k=x.left.length:=by unfold aK;rw[h];rfl
theorem qG {n p aR:Nat} (hp:p<s.length):fL l s aR (n+1) p=(if aO (s.drop p)=3 then ⟨aG l 8 cV,aR+p,0⟩::a8 l aR (gZ l (bL s) (p:Int)) p
   else match dC l (bL s) (p:Int) (eB s p:Int) with
    | none=>[]
    | some k=>(if aQ (s.getD p 0)=true then [⟨aG l 8 eW,aR+p,0⟩] else [])++⟨k,aR+p,aK l k⟩::fL l s aR n (p+aK l k)):=by
 conv=>lhs;unfold fL
 rw[if_pos hp]
 rfl
theorem jM {n p aR:Nat} (hp:s.length≤p):fL l s aR n p=[]:=by
 cases n with
 | zero=>rfl
 | succ n=>unfold fL;rw[if_neg (by omega)]
theorem IF (A:Acc dM l) (hs:gE s) {p:Nat} (hp:p<s.length):∃ k x,dC l (bL s) (p:Int) (eB s p:Int)=some k∧Best l (bL s) (p:Int) (eB s p:Int) k x∧0<x.left.length∧x.left.length≤eB s p∧p+x.left.length≤s.length:=by
 have hr:=jC hs (fun e=>by rw[e]at hp;exact absurd hp (Nat.not_lt_zero _))
 obtain⟨k,x,hb,hB⟩:=iR A hr (p:=p) (by rw[aT];exact hp) (most:=(eB s p:Int)) (by have:=sR hp;omega)
 have h1:=jK hB.mQ
 have h2:=(eP hB.mQ).2.2.2.2.1
 rw[aT]at h1
 exact⟨k,x,hb,hB,h1.2,by omega,by omega⟩
theorem qH (A:Acc dM l) (hs:gE s) (aR:Nat):∀ (n m p:Nat),s.length - p≤n→s.length - p≤m→fL l s aR n p=fL l s aR m p
 | 0,m,p,h1,_=>by rw[jM (by omega),jM (by omega)]
 | n+1,0,p,_,h2=>by rw[jM (by omega),jM (by omega)]
 | n+1,m+1,p,h1,h2=>by
  by_cases hp:p<s.length
  ·rw[qG hp,qG hp]
   by_cases h3:aO (s.drop p)=3
   ·rw[if_pos h3,if_pos h3]
   ·rw[if_neg h3,if_neg h3]
    obtain⟨k,x,hb,hB,h0,-,-⟩:=IF A hs hp
    rw[hb]
    show _++_::_=_++_::_
    rw[iU hB.at',qH A hs aR n m _ (by omega) (by omega)]
  ·rw[jM (by omega),jM (by omega)]
theorem EF:∀ (d p:Nat),d<iB s p→∃ h:p+d<s.length,aQ s[p+d]=false∧d+iB s (p+d)=iB s p
 | 0,p,h=>by
  have hp:p<s.length:=by
   rcases Nat.lt_or_ge p s.length with h1 | h1
   ·exact h1
   ·rw[sU h1]at h;omega
  refine⟨hp,?_,by rw[Nat.zero_add,Nat.add_zero]⟩
  cases hc:aQ s[p+0] with
  | false=>rfl
  | true =>
   have hc:aQ s[p]=true:=hc
   rw[yX hp hc]at h
   omega
 | d+1,p,h=>by
  obtain⟨hp,hc,-⟩:=EF 0 p (by omega)
  have e:=qE (p:=p) hp hc
  obtain⟨h1,h2,h3⟩:=EF d (p+1) (by omega)
  have e2:p+1+d=p+(d+1):=by omega
  refine⟨by omega,?_,?_⟩
  ·simp only[e2]at h2
   exact h2
  ·rw[e2]at h3
   omega
theorem uR:∀ (n p:Nat),s.length - p≤n→p≤s.length→p+iB s p≤s.length∧∀ h:p+iB s p<s.length,aQ s[p+iB s p]=true
 | 0,p,h1,h2=>by
  rw[sU (by omega)]
  exact⟨h2,fun h=>by omega⟩
 | n+1,p,h1,h2=>by
  by_cases hp:p<s.length
  ·cases hc:aQ s[p] with
   | true =>
    have e:=yX hp hc
    refine⟨by omega,fun h=>?_⟩
    simp only[e,Nat.add_zero]
    exact hc
   | false =>
    have e:=qE hp hc
    obtain⟨k1,k2⟩:=uR n (p+1) (by omega) (by omega)
    have e2:p+iB s p=p+1+iB s (p+1):=by omega
    refine⟨by omega,fun h=>?_⟩
    simp only[e2]
    exact k2 (by omega)
  ·rw[sU (by omega)]
   exact⟨h2,fun h=>by omega⟩
def aZ (s:List Nat) (p:Nat):Nat:=p+iB s p
theorem qI {p:Nat} (hp:p<s.length):p+eB s p=aZ s (p+1):=by
 unfold aZ
 rw[CE hp]
 cases hc:aQ s[p] with
 | true=>rw[if_pos rfl];omega
 | false=>rw[if_neg (by decide),qE hp hc];omega
theorem xS {p q:Nat} (h1:p≤q) (h2:q<aZ s p):∃ h:q<s.length,aQ s[q]=false∧aZ s q=aZ s p:=by
 unfold aZ at h2
 obtain⟨k1,k2,k3⟩:=EF (s:=s) (q - p) p (by omega)
 have e:p+(q - p)=q:=by omega
 refine⟨by omega,?_,?_⟩
 ·simp only[e]at k2
  exact k2
 ·rw[e]at k3
  unfold aZ
  omega
theorem sV {p:Nat} (h:p≤s.length):p≤aZ s p∧aZ s p≤s.length:=⟨Nat.le_add_right _ _,(uR _ p (Nat.le_refl _) h).1⟩
theorem yZ {p:Nat} (h:p≤s.length) (hn:aZ s p<s.length):aQ (s[aZ s p]'hn)=true:=(uR _ p (Nat.le_refl _) h).2 hn
theorem kY {r:List Nat} (h:gE r) (hne:r≠[]):aO r=if r.all aW=true then 1 else if (aQ (r.headD 0) && r.tail.all aW)=true then 2 else if r.all aQ=true then 3 else 4:=by
 unfold aO
 have e:(r.isEmpty || !(r.all fun c=>aW c || aQ c))=false:=by
  rw[List.isEmpty_eq_false_iff.2 hne,Bool.false_or,List.all_eq_true.2 fun c hc=>by rcases h c hc with g | g<;>rw[g]<;>simp]
  rfl
 rw[if_neg (by rw[e];decide)]
theorem gE.drop {r:List Nat} (h:gE r) (p:Nat):gE (r.drop p):=fun c hc=>h c (List.mem_of_mem_drop hc)
theorem gE.take {r:List Nat} (h:gE r) (p:Nat):gE (r.take p):=fun c hc=>h c (List.mem_of_mem_take hc)
theorem RJ {c:Nat} {r:List Nat} (h:gE (c::r)) (hm:aO (c::r)≠4):aO r≠4:=by
 have hr:gE r:=fun d hd=>h d (List.mem_cons_of_mem _ hd)
 by_cases hne:r=[]
 ·rw[hne];decide
 rw[kY h (by simp)]at hm
 rw[kY hr hne]
 by_cases h1:r.all aW=true
 ·rw[if_pos h1];decide
 ·rw[if_neg h1]
  rw[if_neg (by rw[List.all_cons,Bool.and_eq_true];exact fun k=>h1 k.2),if_neg (by show ¬ (aQ c && r.all aW)=true;rw[Bool.and_eq_true];exact fun k=>h1 k.2)]at hm
  have h3:(c::r).all aQ=true:=by
   by_cases h3:(c::r).all aQ=true
   ·exact h3
   ·rw[if_neg h3]at hm;exact absurd rfl hm
  rw[List.all_cons,Bool.and_eq_true]at h3
  split
  ·decide
  ·rw[if_pos h3.2];decide
theorem CG (hs:gE s) {a:Nat} (h:aO (s.drop a)≠4):∀ (d:Nat),aO (s.drop (a+d))≠4
 | 0=>h
 | d+1=>by
  have ih:=CG hs h d
  by_cases hp:a+d<s.length
  ·have e:=List.drop_eq_getElem_cons hp
   have hl:=hs.drop (a+d)
   rw[e]at ih hl
   exact RJ hl ih
  ·rw[List.drop_of_length_le (by omega)]
   decide
theorem MH {a:Nat} {r:List Nat} (h:gE (a::r)) (ha:aQ a=false) {c:Nat} (hc:c ∈ r) (hcap:aQ c=true):aO (a::r)=4:=by
 rw[kY h (by simp),if_neg,if_neg,if_neg]
 ·rw[List.all_cons,ha];simp
 ·show ¬ (aQ a && _)=true
  rw[ha];simp
 ·rw[List.all_eq_true]
  intro k
  have:=iQ (k c (List.mem_cons_of_mem _ hc))
  rw[hcap]at this
  cases this
structure EG (s:List Nat) (r:Nat):Prop where
 le:r≤s.length
 yes:∀ t,t<r→aO (s.drop t)=4
 no:∀ t,r≤t→t<s.length→aO (s.drop t)≠4
theorem sW {p:Nat} (hp:p<s.length):s.getD p 0=s[p]:=by
 rw[List.getD_eq_getElem?_getD,List.getElem?_eq_getElem hp];rfl
theorem RL (hs:gE s) {p r:Nat} (hr:EG s r) (hp:p<r):aZ s (p+1)≤r:=by
 have hps:p<s.length:=Nat.lt_of_lt_of_le hp hr.le
 rcases Nat.lt_or_ge r (aZ s (p+1))with h | h
 rotate_left
 ·exact h
 have hm:=hr.yes p hp
 obtain⟨hrl,hrc,hrn⟩:=xS (s:=s) (p:=p+1) (q:=r) (by omega) h
 by_cases hn:aZ s (p+1)<s.length
 ·have hc:=yZ (s:=s) (p:=p+1) (by omega) hn
  refine absurd ?_ (hr.no r (Nat.le_refl _) hrl)
  have hl:=hs.drop r
  rw[List.drop_eq_getElem_cons hrl]at hl ⊢
  refine MH hl hrc (c:=s[aZ s (p+1)]) ?_ hc
  rw[List.mem_iff_getElem]
  exact⟨aZ s (p+1) - (r+1),by rw[List.length_drop];omega,by rw[List.getElem_drop];simp only[show r+1+(aZ s (p+1) - (r+1))=aZ s (p+1) by omega]⟩
 ·exfalso
  have hall:(s.drop (p+1)).all aW=true:=by
   rw[List.all_eq_true]
   intro c hc
   obtain⟨i,hi,rfl⟩:=List.mem_iff_getElem.1 hc
   rw[List.length_drop]at hi
   rw[List.getElem_drop]
   obtain⟨k1,k2,-⟩:=xS (s:=s) (p:=p+1) (q:=p+1+i) (by omega) (by omega)
   exact(hs _ (List.getElem_mem _)).resolve_right (by rw[k2];decide)
  have hl:=hs.drop p
  rw[List.drop_eq_getElem_cons hps]at hl hm
  rw[kY hl (List.cons_ne_nil _ _)]at hm
  by_cases hb:aW s[p]=true
  ·rw[if_pos (by rw[List.all_cons,hb,hall];rfl)]at hm
   cases hm
  ·have hcap:=(hs _ (List.getElem_mem hps)).resolve_left hb
   rw[if_neg (by rw[List.all_cons,Bool.and_eq_true];exact fun k=>hb k.1),if_pos (by show (aQ s[p] && (s.drop (p+1)).all aW)=true;rw[hcap,hall];rfl)]at hm
   cases hm
theorem RM (hs:gE s) {p:Nat} (hp:p<s.length):aO ((s.drop p).take (aZ s (p+1) - p))=if aQ s[p]=true then 2 else 1:=by
 have hn:=sV (s:=s) (p:=p+1) (by omega)
 obtain⟨m,hm⟩:∃ m,aZ s (p+1) - p=m+1:=⟨aZ s (p+1) - p - 1,by omega⟩
 have hl:=(hs.drop p).take (m+1)
 have hall:((s.drop (p+1)).take m).all aW=true:=by
  rw[List.all_eq_true]
  intro c hc
  obtain⟨i,hi,rfl⟩:=List.mem_iff_getElem.1 hc
  rw[List.length_take,List.length_drop]at hi
  rw[List.getElem_take,List.getElem_drop]
  obtain⟨k1,k2,-⟩:=xS (s:=s) (p:=p+1) (q:=p+1+i) (by omega) (by omega)
  exact(hs _ (List.getElem_mem _)).resolve_right (by rw[k2];decide)
 rw[hm]
 rw[List.drop_eq_getElem_cons hp,List.take_succ_cons]at hl ⊢
 rw[kY hl (List.cons_ne_nil _ _)]
 cases hc:aQ s[p] with
 | true =>
  have hb:¬ aW s[p]=true:=fun k=>by rw[iQ k]at hc;cases hc
  rw[if_neg (by rw[List.all_cons,Bool.and_eq_true];exact fun k=>hb k.1),if_pos (by show (aQ s[p] && ((s.drop (p+1)).take m).all aW)=true;rw[hc,hall];rfl),if_pos rfl]
 | false =>
  have hb:aW s[p]=true:=(hs _ (List.getElem_mem hp)).resolve_right (by rw[hc];decide)
  rw[if_pos (by rw[List.all_cons,hb,hall];rfl),if_neg (by decide)]
def kZ (l:List Rl) (s:List Nat) (aR z q:Nat):List Pc :=
 if q<z then match dC l (bL s) (q:Int) ((z:Int) - (q:Int)) with
  | none=>[]
  | some k=>⟨k,aR+q,aK l k⟩::fL l s aR (s.length - (q+aK l k)) (q+aK l k)
 else fL l s aR (s.length - q) q
def MI (l:List Rl) (s:List Nat) (aR p:Nat):List Pc:=if aQ (s.getD p 0)=true then [⟨aG l 8 eW,aR+p,0⟩] else []
theorem CH (A:Acc dM l) (hs:gE s) (aR:Nat) {p:Nat} (hp:p<s.length) (h3:aO (s.drop p)≠3):fL l s aR (s.length - p) p=MI l s aR p++kZ l s aR (aZ s (p+1)) p:=by
 obtain⟨n,hn⟩:∃ n,s.length - p=n+1:=⟨s.length - p - 1,by omega⟩
 have hm:=qI hp
 have hmp:=sR hp
 obtain⟨k,x,hb,hB,h0,-,-⟩:=IF A hs hp
 have hb2:dC l (bL s) (p:Int) ((aZ s (p+1):Int) - (p:Int))=some k:=by
  rw[show ((aZ s (p+1):Int) - (p:Int))=(eB s p:Int) by omega]
  exact hb
 rw[hn,qG hp,if_neg h3,hb]
 unfold kZ MI
 rw[if_pos (show p<aZ s (p+1) from by omega),hb2]
 show _++_::_=_++_::_
 rw[iU hB.at',qH A hs aR n (s.length - (p+x.left.length)) _ (by omega) (Nat.le_refl _)]
theorem MJ (A:Acc dM l) (hs:gE s) (aR:Nat) {p q:Nat} (hp:p<s.length) (h1:p≤q) (h2:q<aZ s (p+1)) :
  ∃ k x,Best l (bL s) (q:Int) ((aZ s (p+1):Int) - (q:Int)) k x∧kZ l s aR (aZ s (p+1)) q=⟨k,aR+q,x.left.length⟩::kZ l s aR (aZ s (p+1)) (q+x.left.length)∧0<x.left.length∧q+x.left.length≤aZ s (p+1):=by
 have hle:=sV (s:=s) (p:=p+1) (by omega)
 have hr:=jC hs (fun e=>by rw[e]at hp;exact absurd hp (Nat.not_lt_zero _))
 obtain⟨k,x,hb,hB⟩:=iR A hr (p:=q) (by rw[aT];omega) (most:=((aZ s (p+1):Int) - (q:Int))) (by omega)
 have e1:=jK hB.mQ
 have e2:=(eP hB.mQ).2.2.2.2.1
 rw[aT]at e1
 refine⟨k,x,hB,?_,e1.2,by omega⟩
 conv=>lhs;unfold kZ
 rw[if_pos h2,hb]
 show _::_=_
 rw[iU hB.at']
 congr 1
 obtain⟨q',hq'⟩:∃ q',q+x.left.length=q':=⟨_,rfl⟩
 rw[hq']
 by_cases h3:q'<aZ s (p+1)
 ·obtain⟨k1,k2,k3⟩:=xS (s:=s) (p:=p+1) (q:=q') (by omega) h3
  have hc3:aO (s.drop q')≠3:=fun h=>by
   have hmem:s[q'] ∈ s.drop q':=by rw[List.drop_eq_getElem_cons k1];exact List.mem_cons_self ..
   have:=yQ h s[q'] hmem
   rw[k2]at this
   cases this
  have e3:aZ s (q'+1)=aZ s (p+1):=by
   rw[← qI k1,CE k1,if_neg (by rw[k2];decide)]
   exact k3
  rw[CH A hs aR k1 hc3,e3]
  unfold MI
  rw[sW k1,if_neg (by rw[k2];decide),List.nil_append]
 ·unfold kZ
  rw[if_neg h3]
theorem RN (aR z:Nat):kZ l s aR z z=fL l s aR (s.length - z) z:=by
 unfold kZ
 rw[if_neg (Nat.lt_irrefl _)]
def k8 (l:List Rl) (c at':Nat):List Pc:=if c=2 then [⟨aG l 8 eW,at',0⟩] else if c=3 then [⟨aG l 8 cV,at',0⟩] else []
theorem uS (A:Acc dM l) (hs:gE s) (aR:Nat):∀ (n p:Nat),s.length - p≤n→p≤s.length→(∀ c ∈ s.drop p,aQ c=false)→fL l s aR (s.length - p) p=a8 l aR (gZ l (bL s) (p:Int)) p
 | n,p,h1,h2,hc=>by
  by_cases hp:p<s.length
  rotate_left
  ·rw[jM (by omega),lT fun h=>by have:=h.2.2;rw[aT]at this;omega]
   rfl
  cases n with
  | zero=>omega
  | succ n =>
  have hr:=jC hs (fun e=>by rw[e]at hp;exact absurd hp (Nat.not_lt_zero _))
  have hcp:aQ s[p]=false:=hc _ (by rw[List.drop_eq_getElem_cons hp];exact List.mem_cons_self ..)
  obtain⟨k,x,hB,hb,hal,h0,hle⟩:=kW A hr (p:=p) (by rw[aT];exact hp)
  rw[aT]at hle
  have hfree:aZ s (p+1)=s.length:=by
   have k1:=sV (s:=s) (p:=p+1) (by omega)
   rcases Nat.lt_or_ge (aZ s (p+1)) s.length with h | h
   ·have k2:=yZ (s:=s) (p:=p+1) (by omega) h
    rw[hc _ (by
     rw[List.mem_iff_getElem]
     exact⟨aZ s (p+1) - p,by rw[List.length_drop];omega,by rw[List.getElem_drop];simp only[show p+(aZ s (p+1) - p)=aZ s (p+1) by omega]⟩)]at k2
    cases k2
   ·omega
  have hm:=qI hp
  have hb2:=sX hB.less
  rw[aT,show (s.length:Int) - (p:Int)=(eB s p:Int) by omega]at hb2
  have h3:aO (s.drop p)≠3:=fun h=>by
   have:=yQ h s[p] (by rw[List.drop_eq_getElem_cons hp];exact List.mem_cons_self ..)
   rw[hcp]at this
   cases this
  obtain⟨m,hm1⟩:∃ m,s.length - p=m+1:=⟨s.length - p - 1,by omega⟩
  rw[hm1,qG hp,if_neg h3,hb2,hal]
  show (if aQ (s.getD p 0)=true then _ else _)++_::_=_::_
  rw[sW hp,if_neg (by rw[hcp];decide),List.nil_append,iU hB.at',qH A hs aR m (s.length - (p+x.left.length)) _ (by omega) (Nat.le_refl _)]
  rw[uS A hs aR n (p+x.left.length) (by omega) (by omega) (fun c h=>hc c (by
   rw[← List.drop_drop]at h
   exact List.mem_of_mem_drop h))]
theorem VW (A:Acc dM l) (hs:gE s) (aR:Nat) {p:Nat} (hp:p≤s.length) (h4:aO (s.drop p)≠4):fL l s aR (s.length - p) p=k8 l (aO (s.drop p)) (aR+p)++a8 l aR (gZ l (bL s) (p:Int)) p:=by
 by_cases hlt:p<s.length
 rotate_left
 ·rw[jM (by omega),List.drop_of_length_le (by omega),lT fun h=>by have:=h.2.2;rw[aT]at this;omega]
  rfl
 have hne:s.drop p≠[]:=by rw[List.drop_eq_getElem_cons hlt];exact List.cons_ne_nil _ _
 have hl:=hs.drop p
 have hcase:=kY hl hne
 by_cases h1:(s.drop p).all aW=true
 ·rw[if_pos h1]at hcase
  rw[hcase,uS A hs aR _ p (Nat.le_refl _) hp (fun c hc=>iQ (List.all_eq_true.1 h1 c hc))]
  rfl
 rw[if_neg h1]at hcase
 by_cases h2:(aQ ((s.drop p).headD 0) && (s.drop p).tail.all aW)=true
 ·rw[if_pos h2]at hcase
  rw[Bool.and_eq_true]at h2
  rw[hcase]
  have hr:=jC hs (fun e=>by rw[e]at hlt;exact absurd hlt (Nat.not_lt_zero _))
  have e:=List.drop_eq_getElem_cons hlt
  rw[e]at h2
  have hcp:aQ s[p]=true:=h2.1
  have htl:∀ c ∈ s.drop (p+1),aQ c=false:=fun c hc=>iQ (List.all_eq_true.1 h2.2 c hc)
  obtain⟨k,x,hB,hb,hal,h0,hle⟩:=kW A hr (p:=p) (by rw[aT];exact hlt)
  rw[aT]at hle
  have hfree:aZ s (p+1)=s.length:=by
   have k1:=sV (s:=s) (p:=p+1) (by omega)
   rcases Nat.lt_or_ge (aZ s (p+1)) s.length with h | h
   ·have k2:=yZ (s:=s) (p:=p+1) (by omega) h
    rw[htl _ (by
     rw[List.mem_iff_getElem]
     exact⟨aZ s (p+1) - (p+1),by rw[List.length_drop];omega,by rw[List.getElem_drop];simp only[show p+1+(aZ s (p+1) - (p+1))=aZ s (p+1) by omega]⟩)]at k2
    cases k2
   ·omega
  have hm:=qI hlt
  have hb2:=sX hB.less
  rw[aT,show (s.length:Int) - (p:Int)=(eB s p:Int) by omega]at hb2
  have h3:aO (s.drop p)≠3:=by rw[hcase];decide
  obtain⟨m,hm1⟩:∃ m,s.length - p=m+1:=⟨s.length - p - 1,by omega⟩
  rw[hm1,qG hlt,if_neg h3,hb2,hal]
  show (if aQ (s.getD p 0)=true then _ else _)++_::_=[_]++_::_
  rw[sW hlt,if_pos hcp,iU hB.at',qH A hs aR m (s.length - (p+x.left.length)) _ (by omega) (Nat.le_refl _)]
  rw[uS A hs aR _ (p+x.left.length) (Nat.le_refl _) (by omega) (fun c h=>htl c (by
   rw[show p+x.left.length=p+1+(x.left.length - 1) by omega,← List.drop_drop]at h
   exact List.mem_of_mem_drop h))]
 ·rw[if_neg h2]at hcase
  by_cases h3:(s.drop p).all aQ=true
  ·rw[if_pos h3]at hcase
   obtain⟨m,hm1⟩:∃ m,s.length - p=m+1:=⟨s.length - p - 1,by omega⟩
   rw[hm1,qG hlt,if_pos hcase,hcase]
   rfl
  ·rw[if_neg h3]at hcase
   exact absurd hcase h4
end
theorem wK {s s':List Nat} {p p' most:Int}:∀ (l:List Rl) (k:Nat) (o:Option (Nat × Rl)),(∀ x ∈ l,dH x s p most=dH x s' p' most)→rB s p most l k o=rB s' p' most l k o
 | [],_,_,_=>rfl
 | x::l,k,o,h=>by
  show rB s p most l (k+1) (oJ s p most o k x)=rB s' p' most l (k+1) (oJ s' p' most o k x)
  have e:oJ s p most o k x=oJ s' p' most o k x:=by
   unfold oJ
   rw[h x (List.mem_cons_self ..)]
  rw[e]
  exact wK l (k+1) _ fun y hy=>h y (List.mem_cons_of_mem _ hy)
theorem IG {l:List Rl} (A:Acc dM l) {x:Rl} (hx:x ∈ l):x.left.length≤12:=by
 have h:=A.alone x hx
 unfold eF at h
 rw[Bool.and_eq_true]at h
 have h:=h.2
 unfold nM at h
 rw[Bool.and_eq_true,Bool.and_eq_true,Bool.and_eq_true]at h
 exact pE h.1.1.2
def lA (s:List Nat) (p:Nat):List Nat:=(s.drop (p - 1)).take (min (p+13) s.length - (p - 1))
theorem RO {l:List Rl} (A:Acc dM l) {s:List Nat} (hs:jJ s=true) {p:Nat} (hp:p<s.length) (most:Int):dC l (lA s p) ((min p 1:Nat):Int) most=dC l s (p:Int) most:=by
 have hmem:=(EH hs).2
 have hlen:(lA s p).length=min (p+13) s.length - (p - 1):=by
  unfold lA
  rw[List.length_take,List.length_drop]
  omega
 have hrun:jJ (lA s p)=true:=by
  unfold jJ
  rw[Bool.and_eq_true]
  constructor
  ·cases hb:lA s p with
   | nil=>rw[hb]at hlen;simp only[List.length_nil]at hlen;omega
   | cons a b=>rfl
  ·rw[List.all_eq_true]
   intro c hc
   have:=hmem c (List.mem_of_mem_drop (List.mem_of_mem_take hc))
   exact decide_eq_true this
 have hdrop:(lA s p).drop (min p 1)=(s.drop p).take (min (p+13) s.length - p):=by
  unfold lA
  rw[List.drop_take,List.drop_drop,show p - 1+min p 1=p by omega,show min (p+13) s.length - (p - 1) - min p 1=min (p+13) s.length - p by omega]
 have he:∀ x ∈ l,dH x (lA s p) ((min p 1:Nat):Int) most=dH x s (p:Int) most:=fun x hx=>by
  have h12:=IG A hx
  unfold dH
  rw[hrun,hs,Int.toNat_natCast,Int.toNat_natCast,hdrop]
  have e1:decide ((0:Int)≤((min p 1:Nat):Int)∧((min p 1:Nat):Int)<((lA s p).length:Int))=decide ((0:Int)≤(p:Int)∧(p:Int)<(s.length:Int)):=by
   rw[decide_eq_true (by rw[hlen];omega),decide_eq_true (by omega)]
  have e2:x.left.isPrefixOf ((s.drop p).take (min (p+13) s.length - p))=x.left.isPrefixOf (s.drop p):=by
   rw[Bool.eq_iff_iff,List.isPrefixOf_iff_prefix,List.isPrefixOf_iff_prefix]
   constructor
   ·intro h
    exact h.trans (List.take_prefix _ _)
   ·intro h
    have hl:=h.length_le
    rw[List.length_drop]at hl
    rw[List.prefix_take_iff]
    exact⟨h,by omega⟩
  rw[e1,e2]
  congr 1
  unfold rC
  have hl:(x.left.isPrefixOf (s.drop p))=true→x.left.length≤s.length - p:=fun h=>by
   have:=(List.isPrefixOf_iff_prefix.1 h).length_le
   rw[List.length_drop]at this
   exact this
  refine decide_eq_decide.2 ?_
  rw[hlen]
  omega
 unfold dC
 rw[wK l 0 none he]
def KV (b:Nat) (tv rv lv pv:Value) (ps:List Pc) (W:World):Prop :=
 W.heap[b]?=some (.cells #[tv,rv,lv,pv] 172 (0,0))∧W.ownsRow (b+1) 77 3 pv ps.length (cW ps)
def KI (b:Nat) (tv rv lv:Value) (ps:List Pc) (W:World):Prop:=∃ pv,KV b tv rv lv pv ps W
def LI (V V':World):Prop:=∀ (k:Nat) (cs:Array Value) (fr:Nat × Nat),V.heap[k]?=some (.cells cs 3 fr)→V'.heap[k]?=some (.cells cs 3 fr)
theorem LI.refl (V:World):LI V V:=fun _ _ _ e=>e
theorem LI.trans {A B C:World} (h:LI A B) (k:LI B C):LI A C:=fun j cs fr e=>k j cs fr (h j cs fr e)
theorem LI.of {V V':World} (h:Below V.heap.size V V'):LI V V':=fun j _ _ e=>(h.block j (Array.getElem?_eq_some_iff.1 e).1).trans e
def rR (b:Nat) (W W':World):Prop:=Below b W W'∧LI W W'
theorem rR.refl (b:Nat) (W:World):rR b W W:=⟨Below.refl _ _,LI.refl _⟩
theorem rR.trans {b:Nat} {A B C:World} (h:rR b A B) (k:rR b B C):rR b A C:=⟨h.1.trans k.1,h.2.trans k.2⟩
theorem rR.of {b:Nat} {A B:World} (hb:b≤A.heap.size) (h:Below A.heap.size A B):rR b A B:=⟨h.mono hb,LI.of h⟩
variable {b:Nat} {tv rv lv pv:Value} {ps:List Pc} {W W' w6:World}
theorem KV.lt (h:KV b tv rv lv pv ps W):b<W.heap.size:=(Array.getElem?_eq_some_iff.1 h.1).1
theorem KV.below (h:KV b tv rv lv pv ps W) (hb:Below W.heap.size W W'):KV b tv rv lv pv ps W':=⟨(hb.block b h.lt).trans h.1,a6 h.2 hb⟩
theorem KI.lt (h:KI b tv rv lv ps W):b<W.heap.size:=by obtain⟨_,h⟩:=h;exact h.lt
theorem KI.below (h:KI b tv rv lv ps W) (hb:Below W.heap.size W W'):KI b tv rv lv ps W':=by obtain⟨pv,h⟩:=h;exact⟨pv,h.below hb⟩
theorem KI.step (h:KI b tv rv lv ps W) (hb:Below W.heap.size W W'):KI b tv rv lv ps W'∧rR b W W':=⟨h.below hb,rR.of (Nat.le_of_lt h.lt) hb⟩
theorem KV.cells (h:KV b tv rv lv pv ps W):W.cell? ⟨b,0,none⟩=some tv∧W.cell? ⟨b,1,none⟩=some rv∧W.cell? ⟨b,2,none⟩=some lv∧W.cell? ⟨b,3,none⟩=some pv:=by
 refine⟨?_,?_,?_,?_⟩<;>(rw[Lib.cell_of_heap h.1];rfl)
theorem KI.cells (h:KI b tv rv lv ps W):W.cell? ⟨b,0,none⟩=some tv∧W.cell? ⟨b,1,none⟩=some rv∧W.cell? ⟨b,2,none⟩=some lv:=by
 obtain⟨pv,h⟩:=h
 exact⟨h.cells.1,h.cells.2.1,h.cells.2.2.1⟩
theorem qJ {B e size n:Nat} {v:Value} {xs:List Value} (h:W.ownsRow B e size v n xs) {g:Nat} (hg:v.ownBlock=some g):B≤g∧g<W.heap.size∧∃ cs,W.heap[g]?=some (.cells cs e (0,0)):=by
 rcases h.2 with⟨rfl,-⟩ | ⟨g',cap,cur,rfl,hb,hgb,-⟩
 ·cases hg
 ·have e:g'=g:=Option.some.inj hg
  subst e
  exact⟨hb,(Array.getElem?_eq_some_iff.1 hgb).1,cur,hgb⟩
theorem LI.set {V:World} {a:Addr} {cs:Array Value} {e:TypeId} {fr:Nat × Nat} (h:V.heap[a.block]?=some (.cells cs e fr)) (he:e≠3) (u:Value):LI V (V.setCell a u):=fun k cs' fr' hk=>by
 refine(Below.heap_setCell V a u k (fun e1=>?_)).trans hk
 rw[e1,h]at hk
 injection hk with hk
 injection hk with _ hk _
 exact he hk
theorem KV.set {o:Obj} {v6:Value} {qs:List Pc} (h:KV b tv rv lv pv ps W) (hgrow:(W.alloc o).grownBy w6 pv.ownBlock) (own6:w6.ownsRow (b+1) 77 3 v6 qs.length (cW qs)) :
  w6.heap[b]?=some (.cells #[tv,rv,lv,pv] 172 (0,0))∧KI b tv rv lv qs (w6.setCell ⟨b,3,none⟩ v6)∧rR b W (w6.setCell ⟨b,3,none⟩ v6):=by
 have hbl:=h.lt
 obtain⟨h1,h2⟩:=h
 have hlt:=h2.lt
 have s1:w6.heap[b]?=W.heap[b]?:=(hgrow.block b (by simp;omega) (fun e1=>by have:=(hlt _ e1.symm).1;omega)).trans (Below.heap_alloc _ _ _ hbl)
 have h6:=s1.trans h1
 have s2:Below b W w6:=((Below.refl _ W).alloc (by omega) _).grown hgrow (by simp;omega) (fun j ej=>by have:=(hlt j ej).1;omega)
 refine⟨h6,⟨v6,?_,?_⟩,s2.setCell (p:=⟨b,3,none⟩) (Nat.le_refl _) _,LI.trans (B:=w6) (fun k cs' fr' hk=>?_) (LI.set (a:=⟨b,3,none⟩) h6 (by decide) v6)⟩
 ·simp only[World.setCell,Array.getElem?_modify,h6];rfl
 ·exact ownsRow_setCell_below own6 (show b<b+1 by omega) _
 ·have hkl:=(Array.getElem?_eq_some_iff.1 hk).1
  refine(hgrow.block k (by simp;omega) (fun e1=>?_)).trans ((Below.heap_alloc _ _ _ hkl).trans hk)
  obtain⟨-,-,cs2,h3⟩:=qJ h2 (g:=k) e1.symm
  rw[h3]at hk
  injection hk with hk
  injection hk with _ hk _
  exact absurd hk (by decide)
theorem KV.put {o:Obj} {v6:Value} {x:Pc} (h:KV b tv rv lv pv ps W) (hgrow:(W.alloc o).grownBy w6 pv.ownBlock) (own6:w6.ownsRow (b+1) 77 3 v6 (ps.length+1) (cW (ps++[x]))) :
  w6.heap[b]?=some (.cells #[tv,rv,lv,pv] 172 (0,0))∧KI b tv rv lv (ps++[x]) (w6.setCell ⟨b,3,none⟩ v6)∧rR b W (w6.setCell ⟨b,3,none⟩ v6) :=
 h.set hgrow (by rw[List.length_append,List.length_singleton];exact own6)
end Go.Proofs.YthbigkoihpgcfaaGreatDoor.Cu
namespace Go.Proofs.YthbigkoihpgcfaaGreatDoor.Cu
open Go.RowKit Ba Ru Ck Ti Pa Fl
structure Env (T:bT) (w1:World) (tv lv:Value) (l:List Rl) (lo hi:Nat) (t:List Tk) (off g rc:Nat):Prop where
 LS:l.length≤1000
 acc:Acc dM l
 fit:kD l
 qT:t.length≤1000
 IH:iC t
 chunk:bB t=true
 laid:bH w1
 tab:T.Is w1 tv l lo hi
 glt:g<w1.heap.size
 rul:∀ k x,l[k]?=some x→bZ w1 g (0+k * 5) x.aE (bytesOf x.left) (bytesOf x.cells) x.prio x.line
 rS:bW off w1 w1.heap.size lv t
def jD (l:List Rl) (g rc:Nat):Value:=.slice (some ⟨g,0,none⟩) l.length rc
section
variable {T:bT} {w1 W W':World} {tv lv:Value} {l:List Rl} {lo hi:Nat} {t:List Tk} {off g rc:Nat} {ps:List Pc}
theorem Env.gR (E:Env T w1 tv lv l lo hi t off g rc) (hW:Below w1.heap.size w1 W):bH W:=E.laid.kept hW
theorem Env.II (E:Env T w1 tv lv l lo hi t off g rc) (hW:Below w1.heap.size w1 W):T.Is W tv l lo hi:=T.xJ E.tab (Kept.dB hW (T.ptr E.tab).2)
theorem Env.aC3 (E:Env T w1 tv lv l lo hi t off g rc) (hW:Below w1.heap.size w1 W) {k:Nat} {x:Rl} (hx:l[k]?=some x):bZ W g (0+k * 5) x.aE (bytesOf x.left) (bytesOf x.cells) x.prio x.line:=(E.rul k x hx).below hW E.glt
theorem Env.EI (E:Env T w1 tv lv l lo hi t off g rc) (hW:Below w1.heap.size w1 W):bW off W w1.heap.size lv t:=E.rS.below hW
theorem RP (l:List Rl) (q:Int) (s:List Nat):mY (cI l q s)=((aG l q s:Nat):Int):=by
 unfold aG mY
 cases cI l q s<;>rfl
theorem Env.find (E:Env T w1 tv lv l lo hi t off g rc) (q:Int) (hq:oI q) (s:List Nat) (hs:s.length≤9000) (h256:∀ c ∈ s,c<256) (hW:Below w1.heap.size w1 W) :
  Calls Tryz.prog 163 #[tv,.int .i64 q,.string (bytesOf s)] W fun e w'=>e=.returned (.tuple #[.int .i64 ((aG l q s:Nat):Int),.bool (cI l q s).isSome])∧Below W.heap.size W w':=by
 have h:=T.find (t:=tv) q (bytesOf s) (by rw[aF];exact hs) hq E.LS E.acc E.fit W (E.gR hW) (E.II hW)
 rw[aB _ h256,RP]at h
 exact h
theorem uT {b:Nat} {tv rv lv:Value} (hK:KI b tv rv lv ps W) (hps:ps.length≤100000) (r f n:Nat) :
  Calls Tryz.prog 166 #[.pointer (some ⟨b,0,none⟩),.int .i64 (r:Int),.int .i64 (f:Int),.int .i64 (n:Int)] W fun e W'=>e=.returned (.tuple #[])∧KI b tv rv lv (ps++[⟨r,f,n⟩]) W'∧rR b W W':=by
 obtain⟨i0,hi0,hz0,hz1,hz2⟩:=info_parts VQ
 obtain⟨pv,hK⟩:=hK
 obtain⟨A,c,rfl,-,-,-⟩:=aN hK.2
 have c3:=hK.cells.2.2.2
 have hbl:=hK.lt
 have HK:=hid hK
 have HP:=hid (fun(o:Obj) (v6:Value) (w6:World) h1 h2=>hK.put (o:=o) (v6:=v6) (w6:=w6) (x:=⟨r,f,n⟩) h1 h2)
 have HOW:=hid hK.2
 obtain⟨np,hnp⟩:∃ np,ps.length=np:=⟨_,rfl⟩
 rw[hnp]at c3 hps HP HOW
 clear hK HK hnp
 go_enter Tryz.func166,Tryz.ntmps166
 go_wp2_with (at_builtin;refine wpList_append_lies _ rfl _ _ 74 rfl (b+1) 77 i0 _ 3 24 Tryz.underlying74 hi0 hz0 hz1 hz2 rfl (by decide) _ _ _ rfl (HOW.out.alloc _) ⟨W.heap.size,0,none⟩ 1 1 [.int .i64 (r:Int),.int .i64 (f:Int),.int .i64 (n:Int)] rfl rfl (World.news_of_block (cs:=#[.int .i64 (r:Int),.int .i64 (f:Int),.int .i64 (n:Int)]) (t:=77) (fr:=(0,0)) (heap_alloc_new W _)) (by simp[Value.oneCell']) (by omega) (by unfold maxLen;omega) (by omega) (by simp;omega) (W.heap.size+1) (by simp) ?_;intro gg cap w6 hown6 hgrow6 _ _;obtain⟨hb6,hf6,hs6⟩:=HP.out _ _ w6 hgrow6 (by rw[MD];exact hown6);have hc6:w6.cell? ⟨b,3,none⟩=some (.slice A np c):=(by rw[Lib.cell_of_heap hb6];rfl);have hz6:w6.frozen? ⟨b,3,none⟩=false:=Lib.frozen_of_heap hb6 3;have HF6:=hid hf6;have HS6:=hid hs6;clear hf6 hs6 hb6 hgrow6 hown6)
 go_end0
 exact⟨rfl,HF6.out,HS6.out⟩
theorem take_at (E:Env T w1 tv lv l lo hi t off g rc) (hW:Below w1.heap.size w1 W) (hK:KI w1.heap.size tv (jD l g rc) lv ps W) (hps:ps.length≤100000) (q:Int) (hq:oI q) (s:List Nat) (hs:s.length≤9000) (h256:∀ c ∈ s,c<256) (S:ByteArray) (hS:bytesOf s=S) (f n:Nat) :
  Calls Tryz.prog 213 #[.pointer (some ⟨w1.heap.size,0,none⟩),.int .i64 q,.string S,.int .i64 (f:Int),.int .i64 (n:Int)] W fun e W'=>e=.returned (.tuple #[])∧KI w1.heap.size tv (jD l g rc) lv (ps++[⟨aG l q s,f,n⟩]) W'∧rR w1.heap.size W W':=by
 have HF:=hid (hS▸E.find q hq s hs h256 hW)
 have c0:=hK.cells.1
 have HK:=hid hK
 have HP:=hid (fun(V:World) (hV:KI w1.heap.size tv (jD l g rc) lv ps V)=>uT hV hps (aG l q s) f n)
 obtain⟨b,hb⟩:∃ b,w1.heap.size=b:=⟨_,rfl⟩
 obtain⟨r,hr⟩:∃ r,aG l q s=r:=⟨_,rfl⟩
 rw[hb]at c0 HK HP ⊢
 rw[hr]at HF HP ⊢
 clear E hW hK hb hr hS
 go_enter Tryz.func213,Tryz.ntmps213
 go_wp2_with fail
 refine HF.out.mono ?_
 rintro e w2 ⟨rfl,hb2⟩
 obtain⟨hK2,hS2⟩:=HK.out.step hb2
 have HK2:=hid hK2
 have HS2:=hid hS2
 clear hb2 hK2 hS2
 go_wp2_with fail
 refine(HP.out _ HK2.out).mono ?_
 rintro e w3 ⟨rfl,hk3,hs3⟩
 have HK3:=hid hk3
 have HS3:=hid (HS2.out.trans hs3)
 clear hk3 hs3
 go_wp2
 go_end0
 exact⟨rfl,HK3.out,HS3.out⟩
theorem xT (E:Env T w1 tv lv l lo hi t off g rc) (hW:Below w1.heap.size w1 W) (hK:KI w1.heap.size tv (jD l g rc) lv ps W) (hps:ps.length≤100000) (s:List Nat) (hs:s.length≤9000) (h256:∀ c ∈ s,c<256) (S:ByteArray) (hS:bytesOf s=S) (f:Nat) :
  Calls Tryz.prog 206 #[.pointer (some ⟨w1.heap.size,0,none⟩),.string S,.int .i64 (f:Int)] W fun e W'=>e=.returned (.tuple #[])∧KI w1.heap.size tv (jD l g rc) lv (ps++[⟨aG l 8 s,f,0⟩]) W'∧rR w1.heap.size W W':=by
 have HT:=hid (take_at E hW hK hps 8 (by unfold oI;decide) s hs h256 S hS f 0)
 obtain⟨b,hb⟩:∃ b,w1.heap.size=b:=⟨_,rfl⟩
 rw[hb]at HT ⊢
 clear E hW hK hb hS
 go_enter Tryz.func206,Tryz.ntmps206
 go_wp2_with fail
 refine HT.out.mono ?_
 rintro e w2 ⟨rfl,hk,hs⟩
 have HK:=hid hk
 have HS:=hid hs
 clear hk hs
 go_wp2
 go_end0
 exact⟨rfl,HK.out,HS.out⟩
theorem wL (E:Env T w1 tv lv l lo hi t off g rc) (hW:Below w1.heap.size w1 W) (hK:KI w1.heap.size tv (jD l g rc) lv ps W) (hps:ps.length≤100000) (S:ByteArray) (hS:S.size≤2000) (f:Nat) :
  Calls Tryz.prog 165 #[.pointer (some ⟨w1.heap.size,0,none⟩),.string S,.int .i64 (f:Int)] W fun e W'=>e=.returned (.tuple #[])∧KI w1.heap.size tv (jD l g rc) lv (ps++k8 l (aO (aA S)) f) W'∧rR w1.heap.size W W':=by
 have HCA:=hid (wI S▸Hc.sY S hS W (kE (E.gR hW).1))
 have HK:=hid hK
 have HT2:=hid (fun(V:World) (hV:Below W.heap.size W V)=>xT E (hW.trans (hV.mono hW.size)) (hK.below hV) hps eW (by decide) (by decide) { data:=#[99,97,112] } rfl f)
 have HT3:=hid (fun(V:World) (hV:Below W.heap.size W V)=>xT E (hW.trans (hV.mono hW.size)) (hK.below hV) hps cV (by decide) (by decide) { data:=#[99,97,112,115] } rfl f)
 obtain⟨b,hb⟩:∃ b,w1.heap.size=b:=⟨_,rfl⟩
 obtain⟨cn,hcn⟩:∃ c,aO (aA S)=c:=⟨_,rfl⟩
 rw[hb]at HK HT2 HT3 ⊢
 rw[hcn]at HCA ⊢
 clear E hW hK hb hcn
 go_enter Tryz.func165,Tryz.ntmps165
 go_wp2_with fail
 refine HCA.out.mono ?_
 rintro e w2 ⟨rfl,hb2⟩
 have HB2:=hid hb2
 have HS2:=hid (HK.out.step hb2)
 clear hb2
 by_cases h2:cn=2
 ·subst h2
  go_wp2_with fail
  refine(HT2.out _ HB2.out).mono ?_
  rintro e w3 ⟨rfl,hk3,hs3⟩
  have HK3:=hid hk3
  have HS3:=hid (HS2.out.2.trans hs3)
  clear hk3 hs3
  go_wp2
  go_end0
  exact⟨rfl,HK3.out,HS3.out⟩
 ·by_cases h3:cn=3
  ·subst h3
   go_wp2_with fail
   refine(HT3.out _ HB2.out).mono ?_
   rintro e w3 ⟨rfl,hk3,hs3⟩
   have HK3:=hid hk3
   have HS3:=hid (HS2.out.2.trans hs3)
   clear hk3 hs3
   go_wp2
   go_end0
   exact⟨rfl,HK3.out,HS3.out⟩
  ·have HE:=hid (show k8 l cn f=[] from by unfold k8;rw[if_neg h2,if_neg h3])
   have t2:((cn:Int)==2)=false:=beq_eq_false_iff_ne.2 (by omega)
   have t3:((cn:Int)==3)=false:=beq_eq_false_iff_ne.2 (by omega)
   clear h2 h3
   go_wp2
   go_end0
   rw[HE.out,List.append_nil]
   exact⟨rfl,HS2.out.1,HS2.out.2⟩
theorem MK (E:Env T w1 tv lv l lo hi t off g rc) (hW:Below w1.heap.size w1 W) (hK:KI w1.heap.size tv (jD l g rc) lv ps W) (hps:ps.length≤100000) (k:Nat) (x:Rl) (hx:l[k]?=some x) (n:Nat) (hn:x.left.length=n) (f:Nat) :
  Calls Tryz.prog 210 #[.pointer (some ⟨w1.heap.size,0,none⟩),.int .i64 (k:Int),.int .i64 (f:Int)] W fun e W'=>e=.returned (.int .i64 (n:Int))∧KI w1.heap.size tv (jD l g rc) lv (ps++[⟨k,f,n⟩]) W'∧rR w1.heap.size W W':=by
 have HP:=hid (uT hK hps k f n)
 have c1:=hK.cells.2.1
 have x1:=(E.aC3 hW hx).c1
 have hk:k<l.length:=(List.getElem?_eq_some_iff.1 hx).1
 have hsz:(bytesOf x.left).size=n:=by rw[aF,hn]
 obtain⟨X,hX⟩:∃ X,bytesOf x.left=X:=⟨_,rfl⟩
 rw[hX]at x1 hsz
 rw[Nat.zero_add]at x1
 unfold jD at c1 HP ⊢
 obtain⟨nl,hnl⟩:∃ nl,l.length=nl:=⟨_,rfl⟩
 obtain⟨b,hb⟩:∃ b,w1.heap.size=b:=⟨_,rfl⟩
 rw[hnl]at c1 hk HP ⊢
 rw[hb]at c1 HP ⊢
 subst hsz
 have k0:(0:Int)≤(k:Int):=by omega
 have k1:(k:Int)<(nl:Int):=by omega
 clear E hW hK hb hnl hX hx hn
 go_enter Tryz.func210,Tryz.ntmps210
 go_wp2_with fail
 refine HP.out.mono ?_
 rintro e w2 ⟨rfl,hk2,hs2⟩
 have HK2:=hid hk2
 have HS2:=hid hs2
 clear hk2 hs2
 go_wp2
 go_ret
 exact⟨rfl,HK2.out,HS2.out⟩
theorem IJ {x:Tk} (h:jG x=true) (hc:x.ch<256):(decide (Hc.cls (x.ch:Int)=3))=eO x:=by
 have h3:Hc.cls (x.ch:Int)=3↔48≤x.ch∧x.ch≤57:=(gG ⟨x.ch,hc⟩).2.2.1
 rw[Bool.eq_iff_iff,decide_eq_true_iff,h3]
 unfold eO
 rw[Bool.and_eq_true,decide_eq_true_iff,decide_eq_true_iff]
 constructor
 ·intro hr
  refine⟨?_,hr⟩
  unfold jG at h
  rw[Bool.or_eq_true,Bool.or_eq_true,Bool.or_eq_true]at h
  rcases h with((h | h) | h) | h
  ·unfold aJ mA BG at h
   rw[Bool.or_eq_true,Bool.and_eq_true,Bool.and_eq_true]at h
   rcases h with h | h<;>exact of_decide_eq_true h.1
  ·unfold eO at h
   rw[Bool.and_eq_true]at h
   exact of_decide_eq_true h.1
  ·unfold gD at h
   rw[Bool.and_eq_true]at h
   exact of_decide_eq_true h.1
  ·exfalso
   unfold cM at h
   rw[if_neg (by omega)]at h
   cases h
 ·exact fun h=>h.2
theorem CI (E:Env T w1 tv lv l lo hi t off g rc) (hW:Below w1.heap.size w1 W) (hK:KI w1.heap.size tv (jD l g rc) lv ps W) (i:Nat) (hi9:i≤t.length) (r:Bool) (hr:mX t i=r) :
  Calls Tryz.prog 207 #[.pointer (some ⟨w1.heap.size,0,none⟩),.int .i64 (i:Int)] W fun e W'=>e=.returned (.bool r)∧W'=W:=by
 have c2:=hK.cells.2.2
 have HL:=hid (kE (E.gR hW).1)
 have hfew:=E.qT
 cases i with
 | zero =>
  have HR:=hid (show false=r from hr)
  clear E hW hK hr hfew hi9
  go_enter Tryz.func207,Tryz.ntmps207
  go_wp2
  go_ret
  rw[HR.out]
  exact⟨rfl,rfl⟩
 | succ j =>
  obtain⟨g0,c0,rfl,hg0,hcell⟩:=(E.EI hW).at (by omega)
  obtain⟨x,hx⟩:∃ x,t[j]?=some x:=⟨_,List.getElem?_eq_getElem (by omega)⟩
  have hmem:=List.mem_of_getElem? hx
  have hch:=(E.IH x hmem).2.1
  have htok:jG x=true:=List.all_eq_true.1 E.chunk x hmem
  have x1:=(pC hcell j x hx).2.1
  have hd:=IJ htok hch
  have HR:=hid (show eO x=r from by rw[← hr,EE hx])
  obtain⟨ch,hch'⟩:∃ ch,x.ch=ch:=⟨_,rfl⟩
  rw[hch']at x1 hch hd
  obtain⟨kc,hkc⟩:∃ kc,Hc.cls (ch:Int)=kc:=⟨_,rfl⟩
  have HCL:=hid (Hc.fQ (ch:Int) kc (by omega) (by omega) hkc W HL.out)
  rw[hkc]at hd
  have HD:=hid hd
  obtain⟨nt,hnt⟩:∃ nt,t.length=nt:=⟨_,rfl⟩
  rw[hnt]at c2 hi9 hfew
  obtain⟨b,hb⟩:∃ b,w1.heap.size=b:=⟨_,rfl⟩
  rw[hb]at c2 ⊢
  have t1:IntKind.i64.wrap (((j:Int)+1) - 1)=(j:Int):=by rw[IntWalk.i64_in _ ⟨by omega,by omega⟩];omega
  have t2:decide ((0:Int)<(j:Int)+1)=true:=decide_eq_true (by omega)
  have j0:(0:Int)≤(j:Int):=by omega
  have j1:(j:Int)<(nt:Int):=by omega
  clear E hW hK hr hx hmem htok hcell hg0 hd hkc hnt hb hch'
  by_cases hk:kc=3
  ·subst hk
   have HV:=hid (show true=r from by rw[← HR.out,← HD.out];rfl)
   go_enter Tryz.func207,Tryz.ntmps207
   go_wp2_with fail
   refine HCL.out.mono ?_
   rintro e w2 ⟨rfl,rfl⟩
   go_wp2
   go_ret
   rw[HV.out]
   exact⟨rfl,rfl⟩
  ·have HV:=hid (show false=r from by rw[← HR.out,← HD.out,decide_eq_false hk])
   have t3:(kc==3)=false:=beq_eq_false_iff_ne.2 hk
   go_enter Tryz.func207,Tryz.ntmps207
   go_wp2_with fail
   refine HCL.out.mono ?_
   rintro e w2 ⟨rfl,rfl⟩
   go_wp2
   go_ret
   rw[HV.out]
   exact⟨rfl,rfl⟩
end
theorem IK (s:List Nat) (hs:s.length≤2000) (h256:∀ c ∈ s,c<256) (W:World) (hL:bH W) :
  Calls Tryz.prog 152 #[.string (bytesOf s)] W fun e w'=>e=.returned (.int .i64 ((aO s:Nat):Int))∧Below W.heap.size W w':=by
 have h:=Hc.sY (bytesOf s) (by rw[aF];exact hs) W (kE hL.1)
 rw[wI,aB _ h256]at h
 exact h
theorem IL (s:List Nat) (hs:gE s) (hsl:s.length≤2000) (bx p:Nat) (hp:p≤s.length) (W:World) (hL:bH W) (hX:W.cell? ⟨bx,0,none⟩=some (.string (bytesOf s))) :
  Calls Tryz.prog 230 #[.int .i64 (p:Int),.pointer (some ⟨bx,0,none⟩)] W fun e w'=>e=.returned (.bool (decide (aO (s.drop p)≠4)))∧Below W.heap.size W w':=by
 have h256:=PE hs
 have HC:=IK (s.drop p) (by rw[List.length_drop];omega) (fun c hc=>h256 c (List.mem_of_mem_drop hc)) W hL
 rw[← VR h256 p]at HC
 have hz:(bytesOf s).size=s.length:=aF _
 obtain⟨S,hS⟩:∃ S,bytesOf s=S:=⟨_,rfl⟩
 obtain⟨cn,hcn⟩:∃ c,aO (s.drop p)=c:=⟨_,rfl⟩
 rw[hS]at HC hX hz
 rw[hcn]at HC ⊢
 have HC:=hid HC
 have p0:(0:Int)≤(p:Int):=by omega
 have p1:(p:Int)≤(S.size:Int):=by omega
 have p2:p≤S.size:=by omega
 clear hs hsl hp hL h256 hz hS hcn
 go_enter Tryz.func230,Tryz.ntmps230
 go_wp2_with fail
 refine HC.out.mono ?_
 rintro e w2 ⟨rfl,hb2⟩
 have HB2:=hid hb2
 clear hb2
 by_cases h4:cn=4
 ·subst h4
  go_wp2
  go_ret
  exact⟨rfl,HB2.out⟩
 ·have t4:((cn:Int) != 4)=true:=bne_iff_ne.2 (by omega)
  have HV:=hid (show decide (cn≠4)=true from decide_eq_true h4)
  clear h4
  go_wp2
  go_ret
  exact⟨Cl.aC HV.out.symm,HB2.out⟩
theorem RQ (s:List Nat) (hs:gE s) (n:Nat) (hn:s.length=n) (hsl:n≤2000) (bx:Nat) (w:World) (hL:bH w) (hbx:bx<w.heap.size) (hX:w.cell? ⟨bx,0,none⟩=some (.string (bytesOf s))) :
  Calls Tryz.prog 229 #[.int .i64 (n:Int),.func (.func 230) #[] #[.pointer (some ⟨bx,0,none⟩)]] w fun e w'=>(∃ r:Nat,e=.returned (.int .i64 (r:Int))∧EG s r)∧Below w.heap.size w w':=by
 have HF:=hid (fun(p:Nat) (hp:p<n) (W:World) (hW:Below w.heap.size w W)=>IL s hs (by omega) bx p (by omega) W (hL.kept hW) ((hW.cell (p:=⟨bx,0,none⟩) hbx).trans hX))
 have HUP:=hid (fun(a b:Nat) (hab:a≤b) (h:aO (s.drop a)≠4)=>show aO (s.drop b)≠4 from by
  have:=CG hs h (b - a)
  rwa [show a+(b - a)=b by omega]at this)
 have HN:=hid hn
 clear hs hn hL hX hbx
 go_enter Tryz.func229,Tryz.ntmps229
 go_wp2
 go_loopw [5,6] (fun a b wr=>∃ lo hi:Nat,a=.int .i64 (lo:Int)∧b=.int .i64 (hi:Int)∧lo≤hi∧hi≤n∧(∀ t,t<lo→aO (s.drop t)=4)∧(∀ t,hi≤t→t<n→aO (s.drop t)≠4)∧Below w.heap.size w wr) (fun a b _=>(intOf b).toNat - (intOf a).toNat)
 case atStart=>exact⟨0,n,rfl,rfl,Nat.zero_le _,Nat.le_refl _,fun t ht=>absurd ht (Nat.not_lt_zero _),fun t h1 h2=>by omega,Below.refl _ _⟩
 case round =>
  obtain⟨lo,hi,rfl,rfl,hlh,hin,hy,hno,hB⟩:=hrel
  have HY:=hid hy
  have HNO:=hid hno
  have HB:=hid hB
  clear hy hno hB
  by_cases hlt:lo<hi
  ·have hc:=HF.out ((lo+hi) / 2) (by omega) wr HB.out
   obtain⟨q,hq⟩:∃ q,decide (aO (s.drop ((lo+hi) / 2))≠4)=q:=⟨_,rfl⟩
   rw[hq]at hc
   rw[show (((lo+hi) / 2:Nat):Int)=((lo:Int)+(hi:Int)) / 2 by omega]at hc
   have HC:=hid hc
   have HQ:=hid hq
   clear hc hq
   cases q
   ·have HNX:=hid (show ∀ t,t<(lo+hi) / 2+1→aO (s.drop t)=4 from fun t ht=>by
     by_cases h4:aO (s.drop t)=4
     ·exact h4
     ·exact absurd (HUP.out t ((lo+hi) / 2) (by omega) h4) (of_decide_eq_false HQ.out))
    go_wp2_with fail
    refine HC.out.mono ?_
    rintro e w2 ⟨rfl,hb2⟩
    have HB2:=hid (chain HB.out HB.out.size hb2)
    clear hb2
    go_wp2
    go_roundw
    case rel=>exact⟨(lo+hi) / 2+1,hi,by rw[show ((lo:Int)+(hi:Int)) / 2+1=(((lo+hi) / 2+1:Nat):Int) by omega],rfl,by omega,hin,HNX.out,HNO.out,HB2.out⟩
    case measure=>simp[intOf];omega
   ·have HNX:=hid (show ∀ t,(lo+hi) / 2≤t→t<n→aO (s.drop t)≠4 from fun t h1 _=>HUP.out _ t h1 (of_decide_eq_true HQ.out))
    go_wp2_with fail
    refine HC.out.mono ?_
    rintro e w2 ⟨rfl,hb2⟩
    have HB2:=hid (chain HB.out HB.out.size hb2)
    clear hb2
    go_wp2
    go_roundw
    case rel=>exact⟨lo,(lo+hi) / 2,rfl,by rw[show ((lo:Int)+(hi:Int)) / 2=(((lo+hi) / 2:Nat):Int) by omega],by omega,by omega,HY.out,HNX.out,HB2.out⟩
    case measure=>simp[intOf];omega
  ·obtain rfl:hi=lo:=by omega
   have HR:=hid (show EG s hi from ⟨by rw[HN.out];exact hin,HY.out,fun t h1 h2=>HNO.out t h1 (by rw[← HN.out];exact h2)⟩)
   go_wp2
   go_ret
   exact⟨⟨hi,rfl,HR.out⟩,HB.out⟩
theorem ML (s:List Nat) (hs:gE s) (hsl:s.length≤2000) (w:World) (hL:bH w) :
  Calls Tryz.prog 208 #[.string (bytesOf s)] w fun e w'=>(∃ r:Nat,e=.returned (.int .i64 (r:Int))∧EG s r)∧Below w.heap.size w w':=by
 have hz:(bytesOf s).size=s.length:=aF _
 have HS:=hid (fun(W:World) (hW:Below w.heap.size w W) (h1:w.heap.size<W.heap.size) (h2:W.cell? ⟨w.heap.size,0,none⟩=some (.string (bytesOf s)))=>RQ s hs s.length rfl hsl w.heap.size W (hL.kept hW) h1 h2)
 obtain⟨S,hS⟩:∃ S,bytesOf s=S:=⟨_,rfl⟩
 rw[hS]at HS hz ⊢
 rw[← hz]at HS
 have HZ:=hid hz
 clear hs hsl hL hS hz
 go_enter Tryz.func208,Tryz.ntmps208
 go_upto_region 1 with fail
 have hw:=(Below.refl w.heap.size w).alloc (Nat.le_refl _) (.cells #[.string S] 9)
 have hsz:w.heap.size<(w.alloc (.cells #[.string S] 9)).heap.size:=by simp
 have hc:(w.alloc (.cells #[.string S] 9)).cell? ⟨w.heap.size,0,none⟩=some (.string S):=by rw[World.cell?_alloc_at _ _ _ _ (by simp)];rfl
 generalize w.alloc _=w1 at hw hsz hc ⊢
 have HC:=hid (HS.out w1 hw hsz hc)
 have HW:=hid hw
 clear hw
 go_wp2_with fail
 refine HC.out.mono ?_
 rintro e w2 ⟨⟨r,rfl,hr⟩,hb2⟩
 have HR:=hid hr
 have HB2:=hid (chain HW.out HW.out.size hb2)
 clear hr hb2
 go_wp2
 go_ret
 exact⟨⟨r,rfl,HR.out⟩,HB2.out⟩
theorem RR {s:List Nat} {p:Nat} (hp:p<s.length) (h:aQ s[p]=false):aZ s p=aZ s (p+1):=by
 unfold aZ
 rw[qE hp h]
 omega
theorem RT {s:List Nat} {p:Nat} (hp:p<s.length) (h:aQ s[p]=true):aZ s p=p:=by
 unfold aZ
 rw[yX hp h]
 rfl
theorem VX {s:List Nat} {p:Nat} (hp:s.length≤p):aZ s p=p:=by
 unfold aZ
 rw[sU hp]
 rfl
theorem aAW (s:List Nat) (h256:∀ c ∈ s,c<256) (hsl:s.length≤2000) (p:Nat) (hp:p≤s.length) (w:World) (hL:bH w) :
  Calls Tryz.prog 209 #[.string (bytesOf s),.int .i64 (p:Int)] w fun e w'=>e=.returned (.int .i64 ((aZ s p:Nat):Int))∧w=w':=by
 have hz:(bytesOf s).size=s.length:=aF _
 have HCAP:=hid (fun(j:Nat) (hj:j<s.length)=>show Hc.kc (bytesOf s) j=2↔aQ s[j]=true from by
  rw[yV _ j (by omega),aB _ h256,sW hj])
 obtain⟨S,hS⟩:∃ S,bytesOf s=S:=⟨_,rfl⟩
 obtain⟨r,hr⟩:∃ r,aZ s p=r:=⟨_,rfl⟩
 rw[hS]at HCAP hz ⊢
 rw[hr]
 have HL:=hid (kE hL.1)
 have HZ:=hid hz
 have HR:=hid hr
 have hS2:S.size≤2000:=by omega
 have hpS:p≤S.size:=by omega
 clear h256 hsl hp hL hz hS hr
 go_enter Tryz.func209,Tryz.ntmps209
 go_wp2
 go_loop [5] (fun u5=>∃ k:Nat,u5=.int .i64 (k:Int)∧k≤S.size∧aZ s k=r) (fun u5=>S.size - (intOf u5).toNat)
 case atStart=>exact⟨p,rfl,hpS,HR.out⟩
 case round =>
  obtain⟨k,rfl,hk,hn⟩:=hrel
  have HN:=hid hn
  clear hn
  by_cases hlt:k<S.size
  ·by_cases hc:Hc.kc S k=2
   ·have HV:=hid (show k=r from by rw[← HN.out,RT (by rw[← HZ.out];exact hlt) ((HCAP.out k (by rw[← HZ.out];exact hlt)).1 hc)])
    have HC:=hid hc
    clear hc
    go_wp2_with (go_at_call 191;refine(Hc.eQ S k hlt _ HC.out w HL.out).mono ?_;rintro e w' ⟨rfl,rfl⟩)
    go_ret
    exact⟨Ba.aI (by rw[HV.out]),rfl⟩
   ·have HNX:=hid (show aZ s (k+1)=r from by
     have hks:k<s.length:=by rw[← HZ.out];exact hlt
     rw[← HN.out,RR hks]
     cases hb:aQ s[k] with
     | false=>rfl
     | true=>exact absurd ((HCAP.out k hks).2 hb) hc)
    have hb:(Hc.kc S k==2)=false:=by simpa using hc
    clear hc
    go_wp2_with (go_at_call 191;refine(Hc.eQ S k hlt _ rfl w HL.out).mono ?_;rintro e w' ⟨rfl,rfl⟩)
    go_round
    case rel=>exact⟨k+1,by go_num,by omega,HNX.out⟩
    case measure=>simp[intOf];omega
  ·obtain rfl:k=S.size:=by omega
   have HV:=hid (show S.size=r from by rw[← HN.out,VX (by rw[← HZ.out];exact Nat.le_refl _)])
   go_wp2
   go_ret
   exact⟨Ba.aI (by rw[HV.out]),rfl⟩
section
variable {T:bT} {w1 W W':World} {tv lv:Value} {l:List Rl} {lo hi:Nat} {t:List Tk} {off g rc:Nat} {ps:List Pc}
theorem VY {s:List Nat} (h256:∀ c ∈ s,c<256) (p:Nat):(bytesOf s).extract (p - 1) (min (p+13) s.length)=bytesOf (lA s p):=by
 unfold lA
 rw[← aP ((bytesOf s).extract (p - 1) (min (p+13) s.length)),dX,aB _ h256]
theorem aAX (E:Env T w1 tv lv l lo hi t off g rc) (hW:Below w1.heap.size w1 W) (hK:KI w1.heap.size tv (jD l g rc) lv ps W) (s:List Nat) (hs:jJ s=true) (hsl:s.length≤1000) (p:Nat) (hp:p<s.length) (most:Nat) (hm:most≤2000) (k:Nat) (hk:dC l s (p:Int) (most:Int)=some k) :
  Calls Tryz.prog 211 #[.pointer (some ⟨w1.heap.size,0,none⟩),.string (bytesOf s),.int .i64 (p:Int),.int .i64 (most:Int)] W fun e W'=>e=.returned (.int .i64 (k:Int))∧Below W.heap.size W W':=by
 have h256:∀ c ∈ s,c<256:=fun c hc=>by have:=(EH hs).2 c hc;omega
 have hn256:∀ c ∈ lA s p,c<256:=fun c hc=>h256 c (List.mem_of_mem_drop (List.mem_of_mem_take hc))
 have hnl:(lA s p).length≤1000:=by
  unfold lA
  rw[List.length_take,List.length_drop]
  omega
 have HB:=(VZ T).best (t:=tv) (bytesOf (lA s p)) ((min p 1:Nat):Int) (most:Int) (by rw[aF];omega) (by unfold oI;omega) (by unfold oI;omega) E.LS E.acc E.fit W (E.gR hW) (E.II hW)
 rw[aB _ hn256,RO E.acc hs hp,hk,← VY h256]at HB
 have c0:=hK.cells.1
 have hz:(bytesOf s).size=s.length:=aF _
 obtain⟨S,hS⟩:∃ S,bytesOf s=S:=⟨_,rfl⟩
 rw[hS]at HB hz ⊢
 rw[← hz]at HB hp hsl
 obtain⟨b,hb⟩:∃ b,w1.heap.size=b:=⟨_,rfl⟩
 rw[hb]at c0 ⊢
 have HK:=hid hK.lt
 have t1:IntKind.i64.wrap ((p:Int) - 1)=(p:Int) - 1:=IntWalk.i64_in _ ⟨by omega,by omega⟩
 have m1:max ((p:Int) - 1) 0=((p - 1:Nat):Int):=by omega
 have t2:IntKind.i64.wrap ((p:Int)+12)=(p:Int)+12:=IntWalk.i64_in _ ⟨by omega,by omega⟩
 have t3:IntKind.i64.wrap ((p:Int)+12+1)=(p:Int)+13:=by rw[IntWalk.i64_in _ ⟨by omega,by omega⟩];omega
 have m2:min ((p:Int)+13) (S.size:Int)=((min (p+13) S.size:Nat):Int):=by omega
 have m3:min (p:Int) 1=((min p 1:Nat):Int):=by omega
 have hae:p - 1≤min (p+13) S.size:=by omega
 have hes:min (p+13) S.size≤S.size:=by omega
 obtain⟨a,ha⟩:∃ a,p - 1=a:=⟨_,rfl⟩
 obtain⟨z,hz9⟩:∃ z,min (p+13) S.size=z:=⟨_,rfl⟩
 obtain⟨d,hd⟩:∃ d,min p 1=d:=⟨_,rfl⟩
 rw[ha,hz9,hd]at HB
 rw[ha]at m1 hae
 rw[hz9]at m2 hae hes
 rw[hd]at m3
 have HB:=hid HB
 have a0:(0:Int)≤(a:Int):=by omega
 have a1:(a:Int)≤(z:Int):=by omega
 have a2:(z:Int)≤(S.size:Int):=by omega
 clear E hW hK hs hk h256 hn256 hnl hz hS hb ha hz9 hd
 go_enter Tryz.func211,Tryz.ntmps211
 go_wp2_with fail
 refine HB.out.mono ?_
 rintro e w2 ⟨rfl,hb2⟩
 have HB2:=hid hb2
 clear hb2
 go_wp2
 go_ret
 exact⟨rfl,HB2.out⟩
end
end Go.Proofs.YthbigkoihpgcfaaGreatDoor.Cu
