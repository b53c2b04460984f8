/-
  Put together: CnL, CnN.
-/
import Derived.Test.YtgpihfacmpbpaaaGreatDoorOb
import Derived.Test.YtgpihfacmpbpaaaGreatDoorNg
import Derived.Deep.RegionHeld3
import Derived.Deep.DeepCutAuto
import Derived.IntWalk
import Derived.Test.YtgpihfacmpbpaaaGreatDoorOc
import Derived.Test.YtgpihfacmpbpaaaGreatDoorNb
namespace Go.Proofs.YtgpihfacmpbpaaaGreatDoor.Cn
open Go.RowKit Tr Nu Nl
end Go.Proofs.YtgpihfacmpbpaaaGreatDoor.Cn
namespace Go.Proofs.YtgpihfacmpbpaaaGreatDoor.Cn
open Go.RowKit Tr Nu Nl
def gA:List Nd→Nat
 | []=>0
 | x::t=>x.text.size+gA t
theorem rK:∀ t u:List Nd,gA (t++u)=gA t+gA u
 | [],u=>by show gA u=0+gA u;omega
 | x::t,u=>by show x.text.size+gA (t++u)=x.text.size+gA t+gA u;rw[rK t u];omega
theorem II:∀ {t:List Nd} {x:Nd},x ∈ t→x.text.size≤gA t
 | y::t,x,h=>by
  show _≤y.text.size+gA t
  rcases List.mem_cons.1 h with rfl | h
  ·omega
  ·have:=II h;omega
theorem DK:∀ (t:List Nd) (i:Nat) (z:Int),gA (t.modify i (aF z))=gA t
 | [],i,z=>by cases i<;>rfl
 | x::t,0,z=>rfl
 | x::t,i+1,z=>by show x.text.size+gA (t.modify i (aF z))=x.text.size+gA t;rw[DK t i z]
theorem DL (A B:List Ev):dO (A++B)=dO A+dO B:=by
 induction A with
 | nil=>show dO B=0+dO B;omega
 | cons x A ih=>show zQ x+dO (A++B)=zQ x+dO A+dO B;rw[ih];omega
theorem aFT {F:List Nd} {L:List Lx.Lx} (h:Wf F L) (K:Nat→ByteArray × Int) (O:Nat→Int):∀ p,(∀ j y,F[j]?=some y→(K (p+j)).1.size≤y.text.size)→dO (iV K O p L)≤gA F:=by
 induction h with
 | nil=>intro p _;exact Nat.le_refl _
 | @text F L s pl hF ih =>
  intro p hK
  have h1:=ih p fun j y hj=>hK j y (by rw[List.getElem?_append_left (List.getElem?_eq_some_iff.1 hj).1];exact hj)
  have h2:=hK F.length _ List.getElem?_concat_length
  rw[eX,mD hF,DL,rK]
  show _+((K (p+F.length)).1.size+0)≤_+(s.size+0)
  have h2:(K (p+F.length)).1.size≤s.size:=h2
  omega
 | @node F G L M k pl hF hG hk ih1 ih2 =>
  intro p hK
  have h1:=ih1 p fun j y hj=>hK j y (by rw[List.getElem?_append_left (List.getElem?_eq_some_iff.1 hj).1];exact hj)
  have h2:=ih2 (p+F.length+1) fun j y hj=>by
   rw[show p+F.length+1+j=p+(F.length+(j+1)) by omega]
   exact hK (F.length+(j+1)) y (by rw[List.getElem?_append_right (by omega),show F.length+(j+1) - F.length=j+1 by omega];exact hj)
  rw[eX,kD,mD hF,DL,rK]
  show _+(0+dO (_++[lT]))≤_+(0+gA G)
  rw[DL,show dO [lT]=0 from rfl]
  omega
theorem aFI {t:List Nd} (hc:aL t=0):∀ x ∈ gG t,x.text.size≤gA t:=by
 obtain⟨L,hW,-⟩:=gT hc
 have h1:=aFT hW (asNew t) (aU t) 0 fun j y hj=>by rw[Nat.zero_add];exact LJ (LI hW) hj
 have h2:=(vQ (iV (asNew t) (aU t) 0 L) []).1
 rw[iJ hW]
 have hok:=KD (E:=bM (iV (asNew t) (aU t) 0 L)) (N:=bI (bM (iV (asNew t) (aU t) 0 L))) (B:=gA t) (nX hW _ _ 0).join (Nat.le_refl _) (by
  show dO ((iV (asNew t) (aU t) 0 L).foldl cD [])≤_
  rw[h2]
  show 0+dO _≤_
  omega)
 exact hok.2.2
def UB:List Lx.Lx→Nat
 | []=>0
 | x::l=>x.text.size+UB l
theorem IJ (s:ByteArray):∀ n p,p≤s.size→UB (Lx.oJ s n p).1≤s.size - p∧(Lx.oJ s n p).1.length≤s.size - p
 | 0,p,_=>⟨Nat.zero_le _,Nat.zero_le _⟩
 | n+1,p,hp=>by
  unfold Lx.oJ
  by_cases h:p<s.size
  ·rw[if_pos h]
   cases hs:Lx.dB s p with
   | inr e=>exact⟨Nat.zero_le _,Nat.zero_le _⟩
   | inl xq =>
    obtain⟨x,q⟩:=xq
    have hpq:=Lx.oK h hs
    obtain⟨hq,-⟩:=Lx.IK h hs
    obtain⟨i1,i2⟩:=IJ s n q hq
    have hx:x.text.size≤q - p:=by
     rcases Lx.pG h hs with⟨rfl,-⟩ | ⟨c,m,-,-,-,-,rfl,-⟩ | ⟨e,he1,he2,rfl,hqe,-⟩
     ·exact Nat.zero_le _
     ·exact Nat.zero_le _
     ·show (s.extract p e).size≤_
      rw[Lx.fH s p e he2];omega
    show x.text.size+UB _≤_∧_+1≤_
    omega
  ·rw[if_neg h];exact⟨Nat.zero_le _,Nat.zero_le _⟩
theorem IL:∀ (l:List Lx.Lx) (st:List Nd × List Tr.Op),gA (l.foldl aE st).1≤gA st.1+UB l∧(l.foldl aE st).1.length≤st.1.length+l.length
 | [],st=>⟨Nat.le_refl _,Nat.le_refl _⟩
 | x::l,st=>by
  rw[List.foldl_cons]
  obtain⟨i1,i2⟩:=IL l (aE st x)
  obtain⟨T,p⟩:=st
  have hstep:gA (aE (T,p) x).1≤gA T+x.text.size∧(aE (T,p) x).1.length≤T.length+1:=by
   unfold aE
   by_cases h1:x.kind=1
   ·simp only[if_pos h1]
    split
    ·refine⟨?_,by simp⟩
     show gA (T++[⟨46,x.text,_,1⟩])≤_
     rw[rK]
     show _+(x.text.size+0)≤_
     omega
    ·exact⟨by show gA T≤_;omega,by show T.length≤_;omega⟩
   ·by_cases h2:x.kind=2
    ·simp only[if_neg h1,if_pos h2]
     refine⟨?_,by simp⟩
     show gA (T++[⟨x.name,aA,_,1⟩])≤_
     rw[rK]
     show _+(0+0)≤_
     omega
    ·simp only[if_neg h1,if_neg h2]
     exact⟨by rw[DK];omega,by simp⟩
  show _≤gA T+(x.text.size+UB l)∧_≤T.length+(l.length+1)
  omega
theorem QL {s:ByteArray} (h:(bH s).2.2=0):gA (bH s).1≤s.size∧(bH s).1.length≤s.size:=by
 have hP:=sQ h
 rw[sR hP]
 have hl:=Lx.zY hP.1
 obtain⟨h1,h2⟩:=IJ s s.size 0 (Nat.zero_le _)
 have e:(Lx.oJ s s.size 0).1=Lx.gV s:=congrArg Prod.fst hl
 rw[e]at h1 h2
 obtain⟨h3,h4⟩:=IL (Lx.gV s) ([],[root])
 have z1:gA ([]:List Nd)=0:=rfl
 have z2:([]:List Nd).length=0:=rfl
 simp only[z1,z2]at h3 h4
 exact⟨by show gA (aV (Lx.gV s)).1≤_;unfold aV;omega,by show (aV (Lx.gV s)).1.length≤_;unfold aV;omega⟩
end Go.Proofs.YtgpihfacmpbpaaaGreatDoor.Cn
