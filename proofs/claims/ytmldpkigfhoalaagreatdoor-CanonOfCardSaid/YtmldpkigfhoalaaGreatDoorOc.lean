/-
  Put together: CnI, CnJ, CnK.
-/
import Derived.Test.YtmldpkigfhoalaaGreatDoorOb
import Derived.Test.YtmldpkigfhoalaaGreatDoorNh
import Derived.Test.YtmldpkigfhoalaaGreatDoorTrJ
namespace Go.Proofs.YtmldpkigfhoalaaGreatDoor.Cn
open Go.RowKit Tr Nu Nl
def Caps (v:Value):Prop:=∀ A n c,v=.slice A n c→n≤c∧c≤maxLen
theorem caps_of {A:Option Addr} {n c:Nat} (h1:n≤c) (h2:c≤maxLen):Caps (.slice A n c):=fun _ _ _ e=>by
 injection e with _ e1 e2
 subst e1 e2
 exact ⟨h1,h2⟩
theorem caps_own {w:World} {base e size n:Nat} {v:Value} {xs:List Value} (h:w.ownsRow base e size v n xs):Caps v:=by
 rcases h.2 with ⟨rfl,_⟩ | ⟨g,cap,cur,rfl,_,_,h1,h2,_⟩
 ·exact caps_of (Nat.le_refl _) (by unfold maxLen;omega)
 ·exact caps_of h1 h2
structure CLands:Prop where
 write:∀ (v:Value) (t:List Nd) (off:Nat),t.length≤9000→Fit t→(∀ x ∈ t,x.text.size≤9000)→Caps v→∀ w:World,Ka.Laid w→ReadsN off w w.heap.size v t→Calls Tryz.prog 7 #[v] w fun e w' =>
  e=.returned (.tuple #[.string (writeS t),.int .i64 ((writeE t:Nat):Int)])∧Below w.heap.size w w'
 of:∀ s:ByteArray,s.size≤maxLen→∀ w:World,Ka.Laid w→Calls Tryz.prog 10 #[.string s] w fun e w' =>
  e=.returned (.tuple #[.string (canonA s).1,.int .i64 (((canonA s).2.1:Nat):Int),.int .i64 (((canonA s).2.2:Nat):Int)])∧Below w.heap.size w w'
theorem CLands.write_at (C:CLands) (v:Value) (t:List Nd) (off:Nat) (ht:t.length≤9000) (hf:Fit t) (hx:∀ x ∈ t,x.text.size≤9000) (hcp:Caps v) (a:ByteArray) (z:Int) (ha:writeS t=a) (hz:((writeE t:Nat):Int)=z) (w:World) (hL:Ka.Laid w) (hv:ReadsN off w w.heap.size v t) :
  Calls Tryz.prog 7 #[v] w fun e w'=>e=.returned (.tuple #[.string a,.int .i64 z])∧Below w.heap.size w w':=by
 subst ha hz
 exact C.write v t off ht hf hx hcp w hL hv
theorem CLands.of_at (C:CLands) (s:ByteArray) (hs:s.size≤maxLen) (a:ByteArray) (p z:Int) (ha:(canonA s).1=a) (hp:(((canonA s).2.1:Nat):Int)=p) (hz:(((canonA s).2.2:Nat):Int)=z) (w:World) (hL:Ka.Laid w) :
  Calls Tryz.prog 10 #[.string s] w fun e w'=>e=.returned (.tuple #[.string a,.int .i64 p,.int .i64 z])∧Below w.heap.size w w':=by
 subst ha hp hz
 exact C.of s hs w hL
set_option maxHeartbeats 4000000 in
theorem vast6_at (v:Value) (off:Nat) (t:List Nd) (_hl:t.length≤maxLen) (B:Nat) (w:World) (hv:ReadsN off w B v t) (z:Bool) (hz:vastV t=z) :
  Calls Tryz.prog 5 #[v] w fun e w'=>e=.returned (.bool z)∧w=w':=by
 have HZ:=Lib.hid hz
 obtain ⟨A,c,rfl,hA⟩:=hv
 have HA:=Lib.hid hA
 clear hA hz
 go_enter Tryz.func5,Tryz.ntmps5
 by_cases h0:150<t.length
 ·have HR:=Lib.hid (show vastV t=true by unfold vastV;rw [decide_eq_true h0,Bool.true_or])
  go_wp2
  go_ret
  exact ⟨Ba.ret_bool (HR.out.symm.trans HZ.out),rfl⟩
 ·go_wp2
  go_loop [3] (fun i=>∃ k:Nat,k≤t.length∧i=.int .i64 k∧∀ x ∈ t.take k,¬ 100<x.text.size) (fun i=>t.length - (intOf i).toNat)
  case atStart=>exact ⟨0,by omega,rfl,by simp⟩
  case round =>
   obtain ⟨k,hk,rfl,hj⟩:=hrel
   have HJ:=Lib.hid hj
   clear hj
   by_cases hlt:k<t.length
   ·obtain ⟨g,rfl,-,hg⟩:=HA.out (by omega)
    obtain ⟨⟨xk,xt,xp,xs⟩,hx⟩:∃ x,t[k]?=some x:=⟨_,List.getElem?_eq_getElem hlt⟩
    obtain ⟨-,g2,-,-⟩:=cells_of hg k _ hx
    simp only [] at g2
    have HX:=Lib.hid hx
    clear hg hx
    by_cases h1:100<xt.size
    ·have HR:=Lib.hid (show vastV t=true by
      unfold vastV
      rw [Bool.or_eq_true];exact .inr (List.any_eq_true.2 ⟨_,List.mem_of_getElem? HX.out,decide_eq_true h1⟩))
     go_wp2
     go_ret
     exact ⟨Ba.ret_bool (HR.out.symm.trans HZ.out),rfl⟩
    ·have HN:=Lib.hid (show ∀ x ∈ t.take (k+1),¬ 100<x.text.size by
      intro x hx
      rw [List.take_add_one,HX.out] at hx
      simp only [Option.toList_some,List.mem_append,List.mem_singleton] at hx
      rcases hx with hx | hx
      ·exact HJ.out x hx
      ·subst hx;exact h1)
     go_wp2
     go_round
     case rel=>exact ⟨k+1,by omega,by go_num,HN.out⟩
     case measure=>simp [intOf];omega
   ·obtain rfl:k=t.length:=by omega
    have HR:=Lib.hid (show vastV t=false by
     unfold vastV
     rw [decide_eq_false h0,Bool.false_or,List.any_eq_false]
     intro x hx
     have:=HJ.out x (by rw [List.take_length];exact hx)
     rw [decide_eq_true_eq];exact this)
    go_wp2
    go_ret
    exact ⟨Ba.ret_bool (HR.out.symm.trans HZ.out),rfl⟩
set_option maxHeartbeats 4000000 in
theorem is6_at (C:CLands) (s want:ByteArray) (hs:s.size≤maxLen) (h:canonA s=(want,0,0)) (w:World) (hL:Ka.Laid w) :
  Calls Tryz.prog 12 #[.string s,.string want] w fun e w'=>e=.returned (.bool true)∧Below w.heap.size w w':=by
 have HC:=Lib.hid (fun W hW=>C.of_at s hs want 0 0 (by rw [h]) (by rw [h];rfl) (by rw [h];rfl) W hW)
 have HL:=Lib.hid hL
 clear h hL
 go_enter Tryz.func12,Tryz.ntmps12
 go_wp2_with fail
 refine (HC.out _ HL.out).mono ?_
 rintro e w1 ⟨rfl,hb1⟩
 go_wp2
 go_ret
 exact ⟨rfl,hb1⟩
set_option maxRecDepth 100000 in
set_option maxHeartbeats 4000000 in
theorem awake6 (C:CLands) (w:World) (hL:Ka.Laid w):Calls Tryz.prog 6 #[] w fun e w'=>e=.returned (.bool true)∧Below w.heap.size w w':=by
 have hlx:canonA { data:=#[120] }=(emptyS,0,2):=by decide +kernel
 have HX:=Lib.hid (fun W hW=>C.of_at { data:=#[120] } (by decide) emptyS 0 2 (by rw [hlx]) (by rw [hlx];rfl) (by rw [hlx];rfl) W hW)
 have hL0:=hL
 clear hlx
 go_enter Tryz.func6,Tryz.ntmps6
 go_wp2_with fail
 refine (HX.out _ hL0).mono ?_
 rintro e w1 ⟨rfl,hb1⟩
 have hL1:=hL.below hb1 hL.1
 go_wp2_with fail
 refine (is6_at C { data:=#[123,112,32,32,97,123,101,32,98,125,32,125] } { data:=#[123,112,32,97,123,101,32,98,125,125,10] } (by decide) (by decide +kernel) _ hL1).mono ?_
 rintro e w2 ⟨rfl,hb2⟩
 have HB2:=Ba.chain hb1 hb1.size hb2
 have hL2:=hL.below HB2 hL.1
 clear hb1 hb2 hL1
 go_wp2_with fail
 refine (is6_at C { data:=#[123,107,125,123,108,123,105,125,123,105,32,120,125,125] } { data:=#[123,107,32,125,10,123,108,32,123,105,32,125,123,105,32,120,125,125,10] } (by decide) (by decide +kernel) _ hL2).mono ?_
 rintro e w3 ⟨rfl,hb3⟩
 have HB3:=Ba.chain HB2 HB2.size hb3
 have hL3:=hL.below HB3 hL.1
 clear hb3 HB2 hL2
 go_wp2_with fail
 refine (is6_at C { data:=#[] } { data:=#[] } (by decide) (by decide +kernel) _ hL3).mono ?_
 rintro e w4 ⟨rfl,hb4⟩
 have HB4:=Ba.chain HB3 HB3.size hb4
 clear hb4 HB3 hL3
 go_wp2
 go_ret
 exact ⟨rfl,HB4⟩
end Go.Proofs.YtmldpkigfhoalaaGreatDoor.Cn
namespace Go.Proofs.YtmldpkigfhoalaaGreatDoor.Cn
open Go.RowKit Tr Nu Nl
end Go.Proofs.YtmldpkigfhoalaaGreatDoor.Cn
namespace Go.Proofs.YtmldpkigfhoalaaGreatDoor.Cn
open Go.RowKit Tr Nu Nl
theorem parse_few {s:ByteArray} (h:(parseA s).2.2=0):(parseA s).1.length≤2000:=by
 have hP:=parsed_of h
 rw [parseA_ok hP]
 exact (parse_may s hP.1 hP.2.1 hP.2.2).2.1
end Go.Proofs.YtmldpkigfhoalaaGreatDoor.Cn
