/-
  Put together: NlQ, NlR, NlS.
-/
import Derived.Test.YtgpihfacmpbpaaaGreatDoorNg
import Derived.Test.YtgpihfacmpbpaaaGreatDoorNb
import Derived.Test.YtgpihfacmpbpaaaGreatDoorTrV
namespace Go.Proofs.YtgpihfacmpbpaaaGreatDoor.Nl
open Go.RowKit Tr Nu
section
variable {w w':World} {N M:Nat} {t:List Nd} {P:Nat→Nat} {S:Nat→List Nat} {va:Value} {A:List (Rs × Value)}
theorem nN.rd (h:nN w w' N M t P S va A (fun _=>true)) (hs:lN t):F4 w' t va A where
 row:=fL h.row (Nat.zero_le _)
 len:=h.len
 kept p hp:=by
  obtain⟨i,hi⟩:=List.mem_iff_getElem?.1 hp
  have hil:i<t.length:=by rw[← h.len];exact(List.getElem?_eq_some_iff.1 hi).1
  obtain⟨q,hq,he⟩:=h.ent i hil
  rw[hi]at hq
  cases hq
  rcases he with⟨f,a1,a2,a3,a4,a5,a6,a7⟩ | ⟨-,rfl⟩
  ·obtain⟨-,-,-,-,-,h6,h7⟩:=F3 hs a2 a4
   exact⟨h6,h7,fL a6 (Nat.zero_le _)⟩
  ·exact⟨Nat.zero_le _,⟨fun b (hb:b ∈ ([]:List Nat))=>absurd hb (by simp),World.ownsRow_nil _ _ _ _⟩⟩
theorem nN.ok (h:nN w w' N M t P S va A (fun _=>true)) (hs:lN t):BW t A:=by
 intro i x hx hk p hp
 have hil:=(List.getElem?_eq_some_iff.1 hx).1
 obtain⟨q,hq,he⟩:=h.ent i hil
 rw[hp]at hq
 cases hq
 rcases he with⟨f,a1,a2,a3,a4,a5,a6,a7⟩ | ⟨h1,rfl⟩
 ·obtain⟨-,-,-,h4,h5,-,-⟩:=F3 hs a2 a4
  rw[a5]at h4 h5
  refine⟨by show newText t i=_;unfold newText;rw[h4],fun hne=>?_⟩
  show lO t i=_
  refine(h5 (fun e=>hne ?_)).symm
  rw[h4,e];rfl
 ·refine⟨?_,fun hne=>absurd rfl hne⟩
  show newText t i=_
  have:dP t i=[]:=by
   by_cases hne:dP t i=[]
   ·exact hne
   ·exfalso
    obtain⟨f,hf⟩:∃ f:Nat,bY t i=(f:Int):=by
     by_cases h0:0≤bY t i
     ·exact⟨(bY t i).toNat,by omega⟩
     ·exact absurd (by unfold dP;rw[if_neg h0]) hne
    obtain⟨hfi,y,hy,hyk,-⟩:=eT hf
    obtain⟨r,hr,hri⟩:=V5 hs hf hne
    exact h1 f (by omega) (by unfold bZ;rw[hy];exact hyk) rfl r hr hri
  unfold newText
  rw[this];rfl
end
theorem aC7 (L:lJ) (t s:List Nd) (a b:Nat) (u v:Value) (ht:t.length≤9000) (hs:s.length≤9000) (ft:Fit t) (fs:Fit s) (w:World) (hu:aS a w w.heap.size u t) (hv:aS b w w.heap.size v s) (z:Bool) (hz:gU t s=z) :
  Calls Tryz.prog 13 #[u,v] w fun e w'=>e=.returned (.bool z)∧Below w.heap.size w w':=by
 subst hz;exact L.same t s a b u v ht hs ft fs w hu hv
theorem sX (L:lJ) (t:List Nd) (off:Nat) (v:Value) (ht:t.length≤9000) (ft:Fit t) (hx:∀ x ∈ t,x.text.size≤9000) (w:World) (hL:Ka.Laid w) (hv:aS off w w.heap.size v t) (q:Int) (hq:((aL t:Nat):Int)=q) :
  Calls Tryz.prog 20 #[v] w fun e w'=>e=.returned (.int .i64 q)∧Below w.heap.size w w':=by
 subst hq;exact L.check t off v ht ft hx w hL hv
set_option maxHeartbeats 2000000 in
theorem aAI (Ld:lJ) (v:Value) (t:List Nd) (off:Nat) (ht:t.length≤9000) (hf:Fit t) (hx9:∀ x ∈ t,x.text.size≤9000) (z:Int) (hz:((aL t:Nat):Int)=z) (h0:z≠0) (w:World) (hL:Ka.Laid w) (hv:aS off w w.heap.size v t) :
  Calls Tryz.prog 17 #[v] w (C7 [] z w):=by
 have t1:(z != 0)=true:=by rw[bne,beq_eq_false_iff_ne.2 h0];rfl
 have HC:=Lib.hid (fun W hW hvW=>sX Ld t off v ht hf hx9 W hW hvW z hz)
 have HV:=Lib.hid hv
 have HL:=Lib.hid hL
 clear h0 hz hx9 hf hv hL
 go_enter Tryz.func17,Tryz.ntmps17
 go_wp2_with (go_at_call 20;refine(HC.out _ HL.out HV.out).mono ?_;rintro e w1 ⟨rfl,hb1⟩;have HB1:=Lib.hid hb1;clear hb1)
 have HR:=Lib.hid (show C7 [] z w (.returned (.tuple #[.slice none 0 0,.int .i64 z])) w1 from ⟨_,rfl,World.ownsRow_nil _ _ _ _,HB1.out⟩)
 refine bodyPost_ret (v:=.tuple #[.slice none 0 0,.int .i64 z]) (by simp[results,Tryz.f17,go_sem]) rfl ?_
 exact HR.out
set_option maxHeartbeats 4000000 in
theorem WJ (Ld:lJ) (v:Value) (t:List Nd) (off:Nat) (ht:t.length≤9000) (hf:Fit t) (hx9:∀ x ∈ t,x.text.size≤9000) (hc:aL t=0) (w:World) (hL:Ka.Laid w) (hv:aS off w w.heap.size v t) :
  Calls Tryz.prog 17 #[v] w (C7 (gG t) 0 w):=by
 have hs:=r8 hc (fun x hx=>(hf x hx).1) hx9
 obtain⟨L,hW,hL0⟩:=gT hc
 have hpl:∀ x ∈ t,gM x:=fun x hx=>IF (((gX t).1 hc).1 x hx)
 have HC:=Lib.hid (fun W hW hvW=>sX Ld t off v ht hf hx9 W hW hvW 0 (by rw[hc];rfl))
 have HRS:=Lib.hid (fun W hW hvW=>M4 v t off ht hs hc (fun x hx=>(hf x hx).2.2.1) W hW hvW)
 have HV:=Lib.hid hv
 have HL:=Lib.hid hL
 have hLN:=hL.1
 have HND:=Lib.hid (fun(w5:World) (va:Value) (A:List (Rs × Value)) HR hok hv5=>(WI (w5:=w5) (Wb:=w5.heap.size) (off:=off) (v:=v) (va:=va) (A:=A) HR hok hpl (fun x hx=>(hf x hx).1) hv5 (Nat.le_refl _) ht t.length))
 have HN:=Lib.hid (iJ hW)
 have HL0:=Lib.hid hL0
 have HS:=Lib.hid hs
 clear hx9 hf hv hL hs hc hpl hW hL0
 obtain⟨A0,c0,rfl,-⟩:=id HV.out
 go_enter Tryz.func17,Tryz.ntmps17
 go_wp2_with fail
 refine(HC.out _ HL.out HV.out).mono ?_
 rintro e w1 ⟨rfl,hb1⟩
 have HV1:=Lib.hid ((HV.out.below hb1).mono hb1.size)
 have HL1:=Lib.hid (HL.out.below hb1 hLN)
 have HB1:=Lib.hid hb1
 clear hb1
 go_wp2_with fail
 refine(HRS.out w1 HL1.out HV1.out).mono ?_
 rintro e w2 ⟨N,M,P,S,va,A,rfl,hI⟩
 have HRD:=Lib.hid (hI.rd HS.out)
 have HOK:=Lib.hid (hI.ok HS.out)
 have hb2:=hI.below
 have HV2:=Lib.hid ((HV1.out.below hb2).mono hb2.size)
 have HB2:=Lib.hid (HB1.out.trans (hb2.mono HB1.out.size))
 have hs2:=HB2.out.size
 obtain⟨Ar,cr,rfl,-,-,-⟩:=Nu.aW hI.row
 have HND2:=Lib.hid (HND.out w2 _ A HRD.out HOK.out HV2.out)
 have HW2:=Lib.hid (show uV w2 (w2.alloc (.cells #[.slice A0 t.length c0,.slice Ar t.length cr,.slice none 0 0] 76)) w2.heap.size (.slice A0 t.length c0) (.slice Ar t.length cr) [] from by
  obtain⟨w3,hw3⟩:∃ w3,w2.alloc (.cells #[.slice A0 t.length c0,.slice Ar t.length cr,.slice none 0 0] 76)=w3:=⟨_,rfl⟩
  have hb3:w3.heap[w2.heap.size]?=some (.cells #[.slice A0 t.length c0,.slice Ar t.length cr,.slice none 0 0] 76 (0,0)):=hw3▸heap_alloc_new w2 _
  have hB3:Below w2.heap.size w2 w3:=hw3▸(Below.refl _ w2).alloc (Nat.le_refl _) _
  have hs3:w3.heap.size=w2.heap.size+1:=by subst hw3;simp
  rw[hw3]
  refine⟨?_,?_,⟨.slice none 0 0,?_,World.ownsRow_nil _ _ _ _⟩,fun j=>frozen_of_row w3 _ j _ _ hb3,hB3,by omega⟩
  ·rw[cell_of_row w3 _ 0 _ _ (0,0) hb3];rfl
  ·rw[cell_of_row w3 _ 1 _ _ (0,0) hb3];rfl
  ·rw[cell_of_row w3 _ 2 _ _ (0,0) hb3];rfl)
 clear hI hb2
 go_wp2_with fail
 refine(HND2.out 0 t.length L [] _ (by omega) (Nat.zero_le _) (Nat.le_refl _) HL0.out (Nat.le_refl _) HW2.out).mono ?_
 rintro e w3 ⟨rfl,hW3⟩
 obtain⟨-,-,⟨vo,c2,own⟩,-,below,-⟩:=id hW3
 have HR:=Lib.hid (show C7 (gG t) 0 w (.returned (.tuple #[vo,.int .i64 0])) w3 from by
  refine⟨vo,rfl,?_,HB2.out.trans (below.mono hs2)⟩
  rw[HN.out]
  exact fL own (by omega))
 clear hW3 own below
 go_wp2
 refine bodyPost_ret (v:=.tuple #[vo,.int .i64 0]) (by simp[results,Tryz.f17,go_sem]) rfl ?_
 exact HR.out
theorem ON (Ld:lJ) (v:Value) (t:List Nd) (off:Nat) (ht:t.length≤9000) (hf:Fit t) (hx9:∀ x ∈ t,x.text.size≤9000) (z:Int) (hz:((aL t:Nat):Int)=z) (w:World) (hL:Ka.Laid w) (hv:aS off w w.heap.size v t) :
  Calls Tryz.prog 17 #[v] w (C7 (GY t) z w):=by
 subst hz
 by_cases hc:aL t=0
 ·unfold GY
  rw[if_pos hc,hc]
  exact WJ Ld v t off ht hf hx9 hc w hL hv
 ·unfold GY
  rw[if_neg hc]
  exact aAI Ld v t off ht hf hx9 _ rfl (by omega) w hL hv
end Go.Proofs.YtgpihfacmpbpaaaGreatDoor.Nl
namespace Go.Proofs.YtgpihfacmpbpaaaGreatDoor.Nl
open Go.RowKit Tr Nu
def In64 (p:Int):Prop:=-9223372036854775808≤p∧p≤9223372036854775807
def C8 (x:Ev):Prop:=In64 x.place∧(x.kind≠1→x.name<256)
def WK (y:Nd):Prop:=y.kind<256∧In64 y.place
theorem aAJ {x:Ev} (h:C8 x):WK (fP x):=by
 unfold fP
 split
 ·exact⟨show 46<256 by decide,h.1⟩
 ·rename_i hk;exact⟨h.2 hk,h.1⟩
theorem aAK:∀ (L:List Ev) (T:List Nd) (S:List Nat),(∀ x ∈ L,C8 x)→(∀ y ∈ T,WK y)→∀ y ∈ (L.foldl kB (T,S)).1,WK y:=by
 intro L
 induction L with
 | nil=>intro T S _ h;exact h
 | cons x L ih =>
  intro T S hL hT
  rw[List.foldl_cons]
  have hL2:=fun z hz=>hL z (List.mem_cons_of_mem _ hz)
  have snoc:∀ y ∈ T++[fP x],WK y:=fun y hy=>by
   rcases List.mem_append.1 hy with h | h
   ·exact hT y h
   ·rw[List.mem_singleton]at h;subst h;exact aAJ (hL x (by simp))
  by_cases h1:x.kind=1
  ·rw[gK h1];exact ih _ _ hL2 snoc
  ·by_cases h2:x.kind=2
   ·rw[jL h2];exact ih _ _ hL2 snoc
   ·have hb:kB (T,S) x=(T.modify (S.getLastD 0) (aF ((T.length:Int) - (S.getLastD 0:Int))),S.dropLast):=by unfold kB;rw[if_neg h1,if_neg h2]
    rw[hb]
    refine ih _ _ hL2 (fun z hz=>?_)
    obtain⟨j,hj⟩:=List.mem_iff_getElem?.1 hz
    rw[gH]at hj
    obtain⟨u,hu,he⟩:=Option.map_eq_some_iff.1 hj
    have hu:=hT u (List.mem_of_getElem? hu)
    split at he
    ·subst he;exact hu
    ·subst he;exact hu
theorem wY {acc:List Ev} {x:Ev} (ha:∀ y ∈ acc,C8 y) (hx:C8 x):∀ y ∈ cD acc x,C8 y:=by
 have snoc:∀ y ∈ acc++[x],C8 y:=fun y hy=>by
  rcases List.mem_append.1 hy with h | h
  ·exact ha y h
  ·rw[List.mem_singleton]at h;subst h;exact hx
 by_cases h:x.kind=1
 ·by_cases h0:x.text.size=0
  ·rw[cI h h0];exact ha
  ·rcases List.eq_nil_or_concat acc with rfl | ⟨B',y,rfl⟩
   ·rw[aI h h0 cC];exact snoc
   ·rw[List.concat_eq_append]at snoc ha ⊢
    by_cases hy:y.kind=1
    ·rw[bX h h0 hy]
     intro z hz
     rcases List.mem_append.1 hz with h2 | h2
     ·exact ha z (by simp[h2])
     ·rw[List.mem_singleton]at h2;subst h2
      exact ha y (by simp)
    ·rw[aI h h0 (bK hy)];exact snoc
 ·rw[bQ h];exact snoc
theorem WL:∀ (L acc:List Ev),(∀ x ∈ L,C8 x)→(∀ y ∈ acc,C8 y)→∀ y ∈ L.foldl cD acc,C8 y:=by
 intro L
 induction L with
 | nil=>intro acc _ h;exact h
 | cons x L ih=>intro acc hL ha;rw[List.foldl_cons];exact ih _ (fun z hz=>hL z (List.mem_cons_of_mem _ hz)) (wY ha (hL x (by simp)))
theorem R8 (z:Int):In64 (wrap64 z):=by unfold In64 wrap64;omega
theorem aAL {t:List Nd} (hf:∀ x ∈ t,In64 x.place):∀ (L:List Lx.Lx) (p:Nat),(∀ x ∈ L,x.kind=2→x.name<256)→∀ y ∈ iV (asNew t) (aU t) p L,C8 y:=by
 have hpl:∀ i,In64 (aU t i):=fun i=>by
  unfold aU
  cases hx:t[i]? with
  | none=>exact⟨by decide,by decide⟩
  | some x=>exact hf x (List.mem_of_getElem? hx)
 have hnew:∀ i,In64 (lO t i):=fun i=>by
  unfold lO
  split
  ·exact hpl i
  ·exact R8 _
 intro L
 induction L with
 | nil=>intro p _ y hy;cases hy
 | cons x L ih =>
  intro p hL y hy
  have hL2:=fun z hz=>hL z (List.mem_cons_of_mem _ hz)
  by_cases h1:x.kind=1
  ·rw[nY h1]at hy
   rcases List.mem_cons.1 hy with rfl | hy
   ·exact⟨hnew p,fun h=>absurd rfl h⟩
   ·exact ih _ hL2 y hy
  ·by_cases h2:x.kind=2
   ·rw[uA h2]at hy
    rcases List.mem_cons.1 hy with rfl | hy
    ·exact⟨hpl p,fun _=>hL x (by simp) h2⟩
    ·exact ih _ hL2 y hy
   ·rw[wT h1 h2]at hy
    rcases List.mem_cons.1 hy with rfl | hy
    ·exact⟨⟨by decide,by decide⟩,fun _=>by decide⟩
    ·exact ih _ hL2 y hy
theorem WM {F:List Nd} {L:List Lx.Lx} (h:Wf F L) (hf:∀ x ∈ F,x.kind<256):∀ x ∈ L,x.kind=2→x.name<256:=by
 induction h with
 | nil=>intro x hx;cases hx
 | @text F L s pl hF ih =>
  intro x hx hk
  rcases List.mem_append.1 hx with h | h
  ·exact ih (fun y hy=>hf y (by simp[hy])) x h hk
  ·rw[List.mem_singleton]at h;subst h;cases hk
 | @node F G L M k pl hF hG hne ih1 ih2 =>
  intro x hx hk
  rcases List.mem_append.1 hx with h | h
  ·exact ih1 (fun y hy=>hf y (by simp[hy])) x h hk
  ·rcases List.mem_cons.1 h with rfl | h
   ·exact hf ⟨k,aA,pl,(G.length:Int)+1⟩ (by simp)
   ·rcases List.mem_append.1 h with h | h
    ·exact ih2 (fun y hy=>hf y (by simp[hy])) x h hk
    ·rw[List.mem_singleton]at h;subst h;cases hk
theorem IU {t:List Nd} (ht:t.length≤9000) (hf:Fit t) (hx9:∀ x ∈ t,x.text.size≤9000) (hc:aL t=0):Fit (gG t):=by
 obtain⟨L,hW,-⟩:=gT hc
 have hs:=r8 hc (fun x hx=>(hf x hx).1) hx9
 have hl:=AW hc
 have hB:=(nX hW (asNew t) (aU t) 0).join
 have h1:∀ y ∈ gG t,WK y:=by
  rw[iJ hW]
  exact aAK _ [] [] (WL _ [] (aAL (fun x hx=>(hf x hx).2.2.1) L 0 (WM hW (fun x hx=>(hf x hx).1))) (by simp)) (by simp)
 have h2:∀ y ∈ gG t,y.text.size≤9000 * (9000 * 9000):=by
  rw[iJ hW]
  intro y hy
  have a:=zZ _ [] [] 0 (by simp) y hy
  have b:dO (bM (iV (asNew t) (aU t) 0 L))=dO []+dO (iV (asNew t) (aU t) 0 L):=(vQ _ []).1
  have c:=PA hs (aU t) L 0
  rw[mD hW]at c
  have z1:dO []=0:=rfl
  have d:t.length * (t.length * 9000)≤9000 * (9000 * 9000):=Nat.mul_le_mul ht (Nat.mul_le_mul_right _ ht)
  omega
 intro y hy
 refine⟨(h1 y hy).1,Nat.le_trans (h2 y hy) (by decide),(h1 y hy).2,?_⟩
 obtain⟨j,hj⟩:=List.mem_iff_getElem?.1 hy
 rw[iJ hW]at hj hl
 have:=xH hB hj
 omega
set_option maxHeartbeats 1000000 in
theorem OY (Ld:lJ) (v:Value) (t:List Nd) (off:Nat) (ht:t.length≤9000) (hf:Fit t) (hx9:∀ x ∈ t,x.text.size≤9000) (b:Bool) (hb:zP t=b) (w:World) (hL:Ka.Laid w) (hv:aS off w w.heap.size v t) :
  Calls Tryz.prog 14 #[v] w fun e w'=>e=.returned (.bool b)∧Below w.heap.size w w':=by
 obtain⟨z,hz⟩:∃ z,((aL t:Nat):Int)=z:=⟨_,rfl⟩
 have HOF:=Lib.hid (ON Ld v t off ht hf hx9 z hz w hL hv)
 have HV:=Lib.hid hv
 by_cases hc:aL t=0
 ·obtain rfl:z=0:=by omega
  have HS:=Lib.hid (show gU t (GY t)=b by rw[← hb];unfold zP GY;rw[if_pos hc,decide_eq_true hc,Bool.true_and])
  have hl:=PB t
  have HL:=Lib.hid hl
  have HFN:=Lib.hid (show Fit (GY t) by unfold GY;rw[if_pos hc];exact IU ht hf hx9 hc)
  have HF:=Lib.hid hf
  clear hb hz hc hf hx9 hv hl hL
  go_enter Tryz.func14,Tryz.ntmps14
  go_wp2_with fail
  refine HOF.out.mono ?_
  rintro e w1 ⟨v1,rfl,hown,hb1⟩
  have HV1:=Lib.hid ((HV.out.below hb1).mono hb1.size)
  have HU:=Lib.hid (Ba.Reads.kC dX rfl hown)
  have HB1:=Lib.hid hb1
  clear hown hb1
  go_wp2_with fail
  refine(aC7 Ld t (GY t) off 0 v v1 ht (by have:=HL.out;omega) HF.out HFN.out _ HV1.out HU.out b HS.out).mono ?_
  rintro e w2 ⟨rfl,hb2⟩
  have HR:=Lib.hid (HB1.out.trans (hb2.mono HB1.out.size))
  clear hb2
  go_wp2
  go_ret
  exact⟨rfl,HR.out⟩
 ·have HB:=Lib.hid (show false=b by rw[← hb];unfold zP;rw[decide_eq_false hc,Bool.false_and])
  have t1:(z==0)=false:=beq_eq_false_iff_ne.2 (by omega)
  clear hb hz hc hf hx9 hv hL
  go_enter Tryz.func14,Tryz.ntmps14
  go_wp2_with fail
  refine HOF.out.mono ?_
  rintro e w1 ⟨v1,rfl,hown,hb1⟩
  have HB1:=Lib.hid hb1
  clear hown hb1
  go_wp2
  go_ret
  exact⟨Ba.aC HB.out,HB1.out⟩
end Go.Proofs.YtgpihfacmpbpaaaGreatDoor.Nl
namespace Go.Proofs.YtgpihfacmpbpaaaGreatDoor.Nl
open Go.RowKit Tr Nu
def rP (t:List Nd):Bool:=decide (150<t.length) || t.any fun x=>decide (100<x.text.size)
theorem UM {t:List Nd} (h:rP t=false):t.length≤150∧∀ x ∈ t,x.text.size≤100:=by
 unfold rP at h
 rw[Bool.or_eq_false_iff,decide_eq_false_iff_not,List.any_eq_false]at h
 refine⟨by omega,fun x hx=>?_⟩
 have:=h.2 x hx
 rw[decide_eq_true_eq]at this;omega
end Go.Proofs.YtgpihfacmpbpaaaGreatDoor.Nl
