/-
  What is parsed fits into cells (Fit).
-/
import Derived.Test.YtmldpkigfhoalaaGreatDoorTrV
import Derived.Test.YtmldpkigfhoalaaGreatDoorVc
namespace Go.Proofs.YtmldpkigfhoalaaGreatDoor.Tr
open Go.RowKit
theorem nameL_lt {c:Nat} (h:(Lx.nameS c).size≠0):c<256:=by
 rw [Lx.nameS_size] at h
 rcases Nat.lt_or_ge c 256 with h1 | h1
 ·exact h1
 ·exfalso
  apply h
  unfold Lx.nameL
  rw [if_neg (by omega),if_neg (fun hm=>by have:=(show ∀ x ∈ Lx.lettersL,x<256 by decide) c hm;omega)]
  rfl
theorem parse_fit (s:ByteArray) (hs:s.size≤maxLen):Fit (parseA s).1∧∀ x ∈ (parseA s).1,x.text.size≤s.size:=by
 by_cases h:(parseA s).2.2=0
 ·have hp:=parsed_of h
  rw [parseA_ok hp]
  obtain ⟨-,h2,h3,-⟩:=parse_may s hp.1 hp.2.1 (by have:=hp.2.2;omega)
  have all:∀ x ∈ (readL (Lx.lexV s)).1,(x.kind<256∧x.text.size≤maxLen∧(-9223372036854775808≤x.place∧x.place≤9223372036854775807)∧(-9223372036854775808≤x.size∧x.size≤9223372036854775807))∧x.text.size≤s.size:=by
   intro x hx
   obtain ⟨i,hi,he⟩:=List.mem_iff_getElem.1 hx
   obtain ⟨⟨hn,pl,hpl,hlt,ht,-⟩,z1,z2,-⟩:=h3 i x (by rw [List.getElem?_eq_getElem hi,he])
   have hn:=hn 0
   have hpl:x.place=(pl:Int):=hpl
   have ht:x.kind=46→0<x.text.size∧pl+x.text.size≤s.size∧s.extract pl (pl+x.text.size)=x.text:=ht
   have hm:s.size≤9223372036854775807:=hs
   have hk:x.kind<256∧x.text.size≤s.size:=by
    by_cases h46:x.kind=46
    ·exact ⟨by omega,by have:=(ht h46).2.1;omega⟩
    ·unfold nodeOk at hn
     rw [if_neg (show ¬ (core x).1=46 from h46),Bool.and_eq_true,decide_eq_true_eq] at hn
     have h5:x.text.size=0:=hn.1.1
     exact ⟨nameL_lt hn.1.2,by omega⟩
   exact ⟨⟨hk.1,by have:=hk.2;unfold maxLen;omega,⟨by omega,by omega⟩,⟨by omega,by omega⟩⟩,hk.2⟩
  exact ⟨fun x hx=>(all x hx).1,fun x hx=>(all x hx).2⟩
 ·have e:(parseA s).1=[]:=by
   unfold parseA at h ⊢
   by_cases h1:Lx.lexE s≠0
   ·rw [if_pos h1]
   ·rw [if_neg h1] at h ⊢
    cases he:errFrom ([],[root]) (Lx.lexV s) with
    | some z=>rfl
    | none =>
     rw [he] at h
     simp only [] at h ⊢
     by_cases h2:1<(readL (Lx.lexV s)).2.length
     ·rw [if_pos h2]
     ·rw [if_neg h2] at h;exact absurd rfl h
  rw [e]
  exact ⟨fun x hx=>absurd hx (by simp),fun x hx=>absurd hx (by simp)⟩
theorem Fit.append {t s:List Nd} (h:Fit t) (k:Fit s):Fit (t++s):=fun x hx=>(List.mem_append.1 hx).elim (h x) (k x)
end Go.Proofs.YtmldpkigfhoalaaGreatDoor.Tr
