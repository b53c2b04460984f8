/-
  What is parsed fits into cells (Fit).
-/
import Derived.Test.YtgpihfacmpbpaaaGreatDoorTrV
import Derived.Test.YtgpihfacmpbpaaaGreatDoorVc
namespace Go.Proofs.YtgpihfacmpbpaaaGreatDoor.Tr
open Go.RowKit
theorem XF {c:Nat} (h:(Lx.bE c).size≠0):c<256:=by
 rw[Lx.uH]at h
 rcases Nat.lt_or_ge c 256 with h1 | h1
 ·exact h1
 ·exfalso
  apply h
  unfold Lx.nF
  rw[if_neg (by omega),if_neg (fun hm=>by have:=(show ∀ x ∈ Lx.lI,x<256 by decide) c hm;omega)]
  rfl
theorem QN (s:ByteArray) (hs:s.size≤maxLen):Fit (bH s).1∧∀ x ∈ (bH s).1,x.text.size≤s.size:=by
 by_cases h:(bH s).2.2=0
 ·have hp:=sQ h
  rw[sR hp]
  obtain⟨-,h2,h3,-⟩:=DJ s hp.1 hp.2.1 (by have:=hp.2.2;omega)
  have all:∀ x ∈ (aV (Lx.gV s)).1,(x.kind<256∧x.text.size≤maxLen∧(-9223372036854775808≤x.place∧x.place≤9223372036854775807)∧(-9223372036854775808≤x.size∧x.size≤9223372036854775807))∧x.text.size≤s.size:=by
   intro x hx
   obtain⟨i,hi,he⟩:=List.mem_iff_getElem.1 hx
   obtain⟨⟨hn,pl,hpl,hlt,ht,-⟩,z1,z2,-⟩:=h3 i x (by rw[List.getElem?_eq_getElem hi,he])
   have hn:=hn 0
   have hpl:x.place=(pl:Int):=hpl
   have ht:x.kind=46→0<x.text.size∧pl+x.text.size≤s.size∧s.extract pl (pl+x.text.size)=x.text:=ht
   have hm:s.size≤9223372036854775807:=hs
   have hk:x.kind<256∧x.text.size≤s.size:=by
    by_cases h46:x.kind=46
    ·exact⟨by omega,by have:=(ht h46).2.1;omega⟩
    ·unfold bO at hn
     rw[if_neg (show ¬ (core x).1=46 from h46),Bool.and_eq_true,decide_eq_true_eq]at hn
     have h5:x.text.size=0:=hn.1.1
     exact⟨XF hn.1.2,by omega⟩
   exact⟨⟨hk.1,by have:=hk.2;unfold maxLen;omega,⟨by omega,by omega⟩,⟨by omega,by omega⟩⟩,hk.2⟩
  exact⟨fun x hx=>(all x hx).1,fun x hx=>(all x hx).2⟩
 ·have e:(bH s).1=[]:=by
   unfold bH at h ⊢
   by_cases h1:Lx.nD s≠0
   ·rw[if_pos h1]
   ·rw[if_neg h1]at h ⊢
    cases he:gQ ([],[root]) (Lx.gV s) with
    | some z=>rfl
    | none =>
     rw[he]at h
     simp only[]at h ⊢
     by_cases h2:1<(aV (Lx.gV s)).2.length
     ·rw[if_pos h2]
     ·rw[if_neg h2]at h;exact absurd rfl h
  rw[e]
  exact⟨fun x hx=>absurd hx (by simp),fun x hx=>absurd hx (by simp)⟩
end Go.Proofs.YtgpihfacmpbpaaaGreatDoor.Tr
