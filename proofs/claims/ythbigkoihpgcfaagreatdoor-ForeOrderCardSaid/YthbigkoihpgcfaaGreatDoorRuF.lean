/-
  Put together.
-/
import Derived.Test.YthbigkoihpgcfaaGreatDoorUl
import Derived.StillTailTactics
open Go.Lib (hid)
set_option maxRecDepth 100000
set_option maxHeartbeats 16000000
namespace Go.Proofs.YthbigkoihpgcfaaGreatDoor.Ru
open Go.RowKit Ba
structure iN (w:World) (g:Nat) (q:Int) (a b:ByteArray) (p l:Int):Prop where
 lt:g<w.heap.size
 c0:w.cell? ⟨g,0,none⟩=some (.int .i64 q)
 c1:w.cell? ⟨g,1,none⟩=some (.string a)
 c2:w.cell? ⟨g,2,none⟩=some (.string b)
 c3:w.cell? ⟨g,3,none⟩=some (.int .i64 p)
 c4:w.cell? ⟨g,4,none⟩=some (.int .i64 l)
 f:∀ j,w.frozen? ⟨g,j,none⟩=false
section
variable {w w':World} {g:Nat} {q:Int} {a b:ByteArray} {p l:Int}
theorem iN.below (h:iN w g q a b p l) {B:Nat} (hb:Below B w w') (hg:g<B):iN w' g q a b p l :=
 ⟨Nat.lt_of_lt_of_le h.lt hb.size,(hb.cell (p:=⟨g,0,none⟩) hg).trans h.c0,(hb.cell (p:=⟨g,1,none⟩) hg).trans h.c1,(hb.cell (p:=⟨g,2,none⟩) hg).trans h.c2,(hb.cell (p:=⟨g,3,none⟩) hg).trans h.c3,(hb.cell (p:=⟨g,4,none⟩) hg).trans h.c4,fun j=>(hb.frozen (p:=⟨g,j,none⟩) hg).trans (h.f j)⟩
theorem iN.kept (h:iN w g q a b p l) (hb:Below w.heap.size w w'):iN w' g q a b p l:=h.below hb h.lt
theorem iN.far (h:iN w g q a b p l) {s:Addr} (u:Value) (hs:g≠s.block):iN (w.setCell s u) g q a b p l :=
 have e:=Below.heap_setCell w s u g hs
 have c:=fun j=>World.cell?_of_block (w:=w) (w':=w.setCell s u) (a:=⟨g,j,none⟩) e
 ⟨by rw[World.size_setCell];exact h.lt,(c 0).trans h.c0,(c 1).trans h.c1,(c 2).trans h.c2,(c 3).trans h.c3,(c 4).trans h.c4,fun j=>(World.frozen?_of_block (w:=w) (w':=w.setCell s u) (a:=⟨g,j,none⟩) e).trans (h.f j)⟩
theorem dR {g i j:Nat} (h:i≠j):(⟨g,i,none⟩:Addr)≠⟨g,j,none⟩:=fun e=>h (by injection e)
theorem iN.aFH (h:iN w g q a b p l) (q':Int):iN (w.setCell ⟨g,0,none⟩ (.int .i64 q')) g q' a b p l :=
 ⟨by rw[World.size_setCell];exact h.lt,World.cell?_setCell_same _ _ _ h.c0,(World.cell?_setCell_other _ _ _ _ (dR (by decide))).trans h.c1,(World.cell?_setCell_other _ _ _ _ (dR (by decide))).trans h.c2,(World.cell?_setCell_other _ _ _ _ (dR (by decide))).trans h.c3,(World.cell?_setCell_other _ _ _ _ (dR (by decide))).trans h.c4,fun j=>by rw[World.frozen?_setCell];exact h.f j⟩
theorem iN.aB4 (h:iN w g q a b p l) (a':ByteArray):iN (w.setCell ⟨g,1,none⟩ (.string a')) g q a' b p l :=
 ⟨by rw[World.size_setCell];exact h.lt,(World.cell?_setCell_other _ _ _ _ (dR (by decide))).trans h.c0,World.cell?_setCell_same _ _ _ h.c1,(World.cell?_setCell_other _ _ _ _ (dR (by decide))).trans h.c2,(World.cell?_setCell_other _ _ _ _ (dR (by decide))).trans h.c3,(World.cell?_setCell_other _ _ _ _ (dR (by decide))).trans h.c4,fun j=>by rw[World.frozen?_setCell];exact h.f j⟩
theorem iN.aB5 (h:iN w g q a b p l) (b':ByteArray):iN (w.setCell ⟨g,2,none⟩ (.string b')) g q a b' p l :=
 ⟨by rw[World.size_setCell];exact h.lt,(World.cell?_setCell_other _ _ _ _ (dR (by decide))).trans h.c0,(World.cell?_setCell_other _ _ _ _ (dR (by decide))).trans h.c1,World.cell?_setCell_same _ _ _ h.c2,(World.cell?_setCell_other _ _ _ _ (dR (by decide))).trans h.c3,(World.cell?_setCell_other _ _ _ _ (dR (by decide))).trans h.c4,fun j=>by rw[World.frozen?_setCell];exact h.f j⟩
theorem iN.aFI (h:iN w g q a b p l) (p':Int):iN (w.setCell ⟨g,3,none⟩ (.int .i64 p')) g q a b p' l :=
 ⟨by rw[World.size_setCell];exact h.lt,(World.cell?_setCell_other _ _ _ _ (dR (by decide))).trans h.c0,(World.cell?_setCell_other _ _ _ _ (dR (by decide))).trans h.c1,(World.cell?_setCell_other _ _ _ _ (dR (by decide))).trans h.c2,World.cell?_setCell_same _ _ _ h.c3,(World.cell?_setCell_other _ _ _ _ (dR (by decide))).trans h.c4,fun j=>by rw[World.frozen?_setCell];exact h.f j⟩
theorem iN.aF5 (h:iN w g q a b p l) (l':Int):iN (w.setCell ⟨g,4,none⟩ (.int .i64 l')) g q a b p l' :=
 ⟨by rw[World.size_setCell];exact h.lt,(World.cell?_setCell_other _ _ _ _ (dR (by decide))).trans h.c0,(World.cell?_setCell_other _ _ _ _ (dR (by decide))).trans h.c1,(World.cell?_setCell_other _ _ _ _ (dR (by decide))).trans h.c2,(World.cell?_setCell_other _ _ _ _ (dR (by decide))).trans h.c3,World.cell?_setCell_same _ _ _ h.c4,fun j=>by rw[World.frozen?_setCell];exact h.f j⟩
def iK (w:World) (g:Nat) (q:Int) (a b:ByteArray) (p l:Int):World:=((((w.setCell ⟨g,0,none⟩ (.int .i64 q)).setCell ⟨g,1,none⟩ (.string a)).setCell ⟨g,2,none⟩ (.string b)).setCell ⟨g,3,none⟩ (.int .i64 p)).setCell ⟨g,4,none⟩ (.int .i64 l)
theorem iN.put (h:iN w g q a b p l) (q':Int) (a' b':ByteArray) (p' l':Int):iN (iK w g q' a' b' p' l') g q' a' b' p' l':=((((h.aFH q').aB4 a').aB5 b').aFI p').aF5 l'
theorem dK {B:Nat} {w0:World} (h:Below B w0 w) (hg:B≤g) (q':Int) (a' b':ByteArray) (p' l':Int):Below B w0 (iK w g q' a' b' p' l'):=((((h.setCell (p:=⟨g,0,none⟩) hg _).setCell (p:=⟨g,1,none⟩) hg _).setCell (p:=⟨g,2,none⟩) hg _).setCell (p:=⟨g,3,none⟩) hg _).setCell (p:=⟨g,4,none⟩) hg _
theorem iN.new (w:World) (q:Int) (a b:ByteArray) (p l:Int):iN (w.alloc (.cells #[.int .i64 q,.string a,.string b,.int .i64 p,.int .i64 l] 48)) w.heap.size q a b p l :=
 ⟨by simp,by simp,by simp,by simp,by simp,by simp,fun j=>by simp⟩
end
section
variable {L:List Nat} {n:Int} {p0:List Nat} {m:List (List Nat)}
theorem aB6 (hP:bF 32 L=p0::m) (h:cX p0=0):dI kP L n=none:=by
 unfold dI
 rw[hP]
 split
 ·rename_i e
  cases e
  rw[if_neg (fun k=>k.1 h)]
 ·rename_i e
  cases e
  rw[if_neg (fun k=>by omega)]
 ·rfl
theorem aB7 (hP:bF 32 L=p0::m) (h5:cX p0≤5) (h:m.length≠3):dI kP L n=none:=by
 unfold dI
 rw[hP]
 split
 ·rename_i e
  cases e
  exact absurd rfl h
 ·rename_i e
  cases e
  rw[if_neg (fun k=>by omega)]
 ·rfl
theorem aB8 (hP:bF 32 L=p0::m) (h5:5<cX p0) (h:m.length≠2):dI kP L n=none:=by
 unfold dI
 rw[hP]
 split
 ·rename_i e
  cases e
  rw[if_neg (fun k=>by omega)]
 ·rename_i e
  cases e
  exact absurd rfl h
 ·rfl
theorem oB {a c d:List Nat} (hP:bF 32 L=[p0,a,c,d]) (h0:cX p0≠0) (h5:cX p0≤5):dI kP L n=if aX (cX p0) a=true then (match kP c,BN d with | some cc,some p=>some ⟨cX p0,a,cc,p,n⟩ | _,_=>none) else none:=by
 unfold dI
 rw[hP]
 show (if cX p0≠0∧cX p0≤5∧aX (cX p0) a=true then _ else _)=_
 by_cases h:aX (cX p0) a=true
 ·rw[if_pos ⟨h0,h5,h⟩,if_pos h]
  cases kP c with
  | none=>rfl
  | some cc=>cases BN d<;>rfl
 ·rw[if_neg (fun k=>h k.2.2),if_neg h]
theorem gW {a c:List Nat} (hP:bF 32 L=[p0,a,c]) (h5:5<cX p0):dI kP L n=if aX (cX p0) a=true then (match kP c with | some cc=>some ⟨cX p0,a,cc,0,n⟩ | _=>none) else none:=by
 unfold dI
 rw[hP]
 show (if 5<cX p0∧aX (cX p0) a=true then _ else _)=_
 by_cases h:aX (cX p0) a=true
 ·rw[if_pos ⟨h5,h⟩,if_pos h]
  cases kP c<;>rfl
 ·rw[if_neg (fun k=>h k.2),if_neg h]
end
theorem vN {t:ByteArray}:kP (aA t)=Ce.dY t:=by
 unfold kP
 rw[if_pos (fun x hx=>?_)]
 ·show Ce.dY (bytesOf (aA t))=_
  rw[aP]
 ·obtain⟨j,_,rfl⟩:=Ce.mM t hx
  exact Ce.dQ t j
theorem iT (s:ByteArray):∀ x ∈ aA s,x<256:=fun x hx=>by
 obtain⟨j,_,rfl⟩:=Ce.mM s hx
 exact dQ s j
theorem tK {c:Nat}:∀ {L:List Nat},(∀ x ∈ L,x<256)→∀ a ∈ bF c L,∀ x ∈ a,x<256
 | [],_,a,ha,x,hx=>by rw[List.mem_singleton.1 ha]at hx;cases hx
 | y::L,h,a,ha,x,hx=>by
  have ih:=tK (c:=c) (fun x hx=>h x (List.mem_cons_of_mem _ hx)) (L:=L)
  obtain⟨b,m,hr⟩:=tF c L
  by_cases hy:y=c
  ·have ha:a ∈ (if y=c then []::bF c L else _):=ha
   rw[if_pos hy]at ha
   rcases List.mem_cons.1 ha with rfl | ha
   ·cases hx
   ·exact ih a ha x hx
  ·rw[tG hy hr]at ha
   rw[hr]at ih
   rcases List.mem_cons.1 ha with rfl | ha
   ·rcases List.mem_cons.1 hx with rfl | hx
    ·exact h _ (List.mem_cons_self ..)
    ·exact ih b (List.mem_cons_self ..) x hx
   ·exact ih a (List.mem_cons_of_mem _ ha) x hx
def iY (p0:List Nat) (i:Nat):Nat:=if cX p0<i then cX p0 else 0
theorem YP {i:Nat} (h1:1≤i) (h8:i≤8):([]::aEW)[i]?=some (iI i):=by
 have:∀ j:Fin 9,1≤j.val→([]::aEW)[j.val]?=some (iI j.val):=by decide +kernel
 exact this ⟨i,by omega⟩ h1
theorem OD {i:Nat} (h1:1≤i) (h8:i≤8):iY (iI i) (i+1)=i:=by
 have:=(TD ⟨i,by omega⟩ h1).1
 have:cX (iI i)=i:=this
 unfold iY
 rw[this,if_pos (by omega)]
theorem KL {p0:List Nat} {i:Nat} (h1:1≤i) (h:iI i≠p0):iY p0 (i+1)=iY p0 i:=by
 unfold iY
 by_cases h2:cX p0=i
 ·exact absurd (by rw[← h2];exact vJ (by omega)) h
 ·by_cases h3:cX p0<i
  ·rw[if_pos h3,if_pos (by omega)]
  ·rw[if_neg h3,if_neg (by omega)]
theorem OE (p0:List Nat):iY p0 9=cX p0:=by
 unfold iY
 rw[if_pos (by have:=AH p0;omega)]
def fC (l:List Nat) (n:Int) (w:World) (e:Ending) (w':World):Prop:=∃ (q:Int) (a b:ByteArray) (p c:Int) (ok:Bool),e=.returned (.tuple #[.agg #[.int .i64 q,.string a,.string b,.int .i64 p,.int .i64 c],.bool ok])∧(match dI kP l n with | none=>ok=false | some x=>ok=true∧q=x.aE∧a=bytesOf x.left∧b=bytesOf x.cells∧p=x.prio∧c=x.line)∧Below w.heap.size w w'
theorem fC.none {l:List Nat} {n:Int} {w w':World} (q:Int) {a b:ByteArray} {p c:Int} (h:dI kP l n=none) (hb:Below w.heap.size w w'):fC l n w (.returned (.tuple #[.agg #[.int .i64 q,.string a,.string b,.int .i64 p,.int .i64 c],.bool false])) w':=⟨q,a,b,p,c,false,rfl,by rw[h],hb⟩
theorem fC.some {l:List Nat} {n:Int} {w w':World} {x:Rl} {v:Value} (h:dI kP l n=some x) (hv:v=dE x) (hb:Below w.heap.size w w'):fC l n w (.returned (.tuple #[v,.bool true])) w':=⟨x.aE,bytesOf x.left,bytesOf x.cells,x.prio,x.line,true,by rw[hv];rfl,by rw[h];exact⟨rfl,rfl,rfl,rfl,rfl,rfl⟩,hb⟩
def es:ByteArray:={ data:=#[] }
def AJ (w wr:World) (X:Nat) (q:Nat) (n:Int) (P:List (List Nat)) (np:Nat) (vp vw:Value):Prop :=
 iN wr X q es es 0 n∧iN wr w.heap.size 0 es es 0 0∧w.heap.size<X∧wr.ownsRow (w.heap.size+1) 9 1 vp np (rows cS P)∧(∀ k,vp.ownBlock=some k→k<X)∧wr.ownsRow (X+1) 9 1 vw 9 (rows cS ([]::aEW))∧Below w.heap.size w wr
theorem iN.drewN {w:World} {g:Nat} {q:Int} {a b:ByteArray} {p l:Int} (h:iN w g q a b p l) (k:Nat):iN (w.drewN k) g q a b p l:=⟨h.lt,h.c0,h.c1,h.c2,h.c3,h.c4,h.f⟩
theorem AJ.drewN {w wr:World} {X q:Nat} {n:Int} {P:List (List Nat)} {np:Nat} {vp vw:Value} (h:AJ w wr X q n P np vp vw) (k:Nat):AJ w (wr.drewN k) X q n P np vp vw :=
 ⟨h.1.drewN k,h.2.1.drewN k,h.2.2.1,h.2.2.2.1,h.2.2.2.2.1,h.2.2.2.2.2.1,Ba.below_drewN h.2.2.2.2.2.2 k⟩
theorem fX {W:World} {B:Nat} {gp np cp:Nat} {P:List (List Nat)} (h:W.ownsRow B 9 1 (.slice (some ⟨gp,0,none⟩) np cp) np (rows cS P)) {j:Nat} {x:List Nat} (hx:P[j]?=some x) (hj:j<np):W.cell? ⟨gp,j,none⟩=some (.string (bytesOf x)):=by
 have:=h.cellAt (j * 1+0) (by omega)
 rw[fE cS FA _ j _ hx 0 (by omega)]at this
 simpa[cS] using this
theorem nI {s:ByteArray} {P:List (List Nat)} (h:bF 32 (aA s)=P) {x:List Nat} (hx:x ∈ P):(bytesOf x).size≤s.size∧aA (bytesOf x)=x:=by
 have h2:=vK 32 (aA s)
 rw[h,aD]at h2
 have h3:x.length+1≤(P.map fun t=>t.length+1).sum:=by
  clear h h2
  induction P with
  | nil=>cases hx
  | cons y r ih =>
   rw[List.map_cons,List.sum_cons]
   rcases List.mem_cons.1 hx with rfl | hx
   ·omega
   ·have:=ih hx;omega
 exact⟨by rw[aF];omega,aB _ (tK (iT s) x (by rw[h];exact hx))⟩
theorem sA {t:ByteArray} (h:Ce.dY t=none):0≤Ce.jS t:=by unfold Ce.jS;rw[h];exact Int.natCast_nonneg _
theorem sB {t:ByteArray} {l:List Nat} (h:Ce.dY t=some l):Ce.jS t = -1∧Ce.gN t=bytesOf l:=⟨by unfold Ce.jS;rw[h],(vL h).2.1⟩
theorem DJ (s:ByteArray) (hs:s.size≤70000) (n:Int) (hn:0≤n∧n≤100000) (w:World):Calls Tryz.prog 69 #[.string s,.int .i64 n] w (fC (aA s) n w):=by
 obtain⟨p0,m,hPm⟩:=tF 32 (aA s)
 obtain⟨P,hP⟩:∃ P,p0::m=P:=⟨_,rfl⟩
 obtain⟨n0,n9⟩:=hn
 obtain⟨np,hnp⟩:∃ np,P.length=np:=⟨_,rfl⟩
 have hPl:np=m.length+1:=by rw[← hnp,← hP];rfl
 have HNP:=hid hnp
 have HPL:=hid hPl
 have hn1:1≤np:=by omega
 have HLB:=hid (show ∀ x ∈ p0,x<256 from fun x hx=>tK (iT s) p0 (by rw[hPm];exact List.mem_cons_self ..) x hx)
 have HPM:=hid hPm
 have HP:=hid hP
 clear hPm hP hPl hnp
 go_enter Tryz.func69,Tryz.ntmps69
 go_upto_region 1 with fail
 have HR:=hid (iN.new w 0 es es 0 0)
 generalize hw1:w.alloc _=w1
 have HR1:=hid (show iN w1 w.heap.size 0 es es 0 0 by rw[← hw1];exact HR.out)
 have hs1:w1.heap.size=w.heap.size+1:=by rw[← hw1];simp
 have HB1:=hid (show Below w.heap.size w w1 by rw[← hw1];exact(Below.refl _ _).alloc (Nat.le_refl _) _)
 clear hw1 HR
 go_wp2_with fail
 refine(KF s hs w1).mono ?_
 rintro e w2 ⟨vp,rfl,ownp,hb2⟩
 rw[HPM.out,HP.out,hs1,HNP.out]at ownp
 have HR2:=hid (HR1.out.kept hb2)
 have HB2:=hid (chain HB1.out HB1.out.size hb2)
 have hs2:w1.heap.size≤w2.heap.size:=hb2.size
 have HOP:=hid ownp
 clear hb2 HR1 ownp
 go_upto_region 3 with fail
 have hX0:=iN.new w2 0 es es 0 n
 generalize hw3:w2.alloc _=w3
 have HX3:=hid (show iN w3 w2.heap.size 0 es es 0 n by rw[← hw3];exact hX0)
 have HR3:=hid (show iN w3 w.heap.size 0 es es 0 0 by rw[← hw3];exact HR2.out.kept ((Below.refl _ _).alloc (Nat.le_refl _) _))
 have HOP3:=hid (show w3.ownsRow (w.heap.size+1) 9 1 vp np (rows cS P) by rw[← hw3];exact HOP.out.alloc _)
 have HLP:=hid (fun k hk=>(HOP.out.lt k hk).2)
 have HB3:=hid (show Below w.heap.size w w3 by rw[← hw3];exact HB2.out.alloc HB2.out.size _)
 have hs3:w3.heap.size=w2.heap.size+1:=by rw[← hw3];simp
 clear hw3 hX0 HR2 HOP
 go_wp2_with fail
 refine(OA w3).mono ?_
 rintro e w4 ⟨vw,rfl,ownw,hb4⟩
 have HM:=hid (show AJ w w4 w2.heap.size (iY p0 1) n P np vp vw from ⟨by
  have:iY p0 1=0:=by unfold iY;split<;>omega
  rw[this];exact HX3.out.kept hb4,HR3.out.kept hb4,by omega,a6 HOP3.out hb4,HLP.out,by rw[hs3]at ownw;exact ownw,chain HB3.out HB3.out.size hb4⟩)
 obtain⟨X,hX⟩:∃ X,w2.heap.size=X:=⟨_,rfl⟩
 rw[hX]at HM ⊢
 obtain⟨gp,cp,rfl,-⟩:=dS HOP3.out (by omega)
 obtain⟨gw,cw,rfl,-⟩:=dS (show w4.ownsRow _ _ 1 vw 9 _ from ownw) (by decide)
 clear ownw hb4 HX3 HR3 HOP3 HLP HB3 hs3 hX HB2 HB1 hs1 hs2
 go_wp2
 go_loopw [9] (fun u9 wr=>∃ i:Nat,u9=.int .i64 i∧1≤i∧i≤9∧AJ w wr X (iY p0 i) n P np (.slice (some ⟨gp,0,none⟩) np cp) (.slice (some ⟨gw,0,none⟩) 9 cw)) (fun u9 _=>9 - (intOf u9).toNat)
 case atStart=>exact⟨1,rfl,by omega,by omega,HM.out⟩
 case round =>
  obtain⟨i,rfl,i1,i9,hM⟩:=hrel
  have HMI:=hid hM
  obtain⟨hX,hR,hRX,ownp,hlp,ownw,hB⟩:=hM
  by_cases hi:i<9
  ·have hwi:wr.cell? ⟨gw,i,none⟩=some (.string (bytesOf (iI i))):=by
    have:=ownw.cellAt (i * 1+0) (by omega)
    rw[fE cS FA _ i _ (YP i1 (by omega)) 0 (by omega)]at this
    simpa[cS] using this
   have hp0:wr.cell? ⟨gp,0,none⟩=some (.string (bytesOf p0)):=by
    have:=ownp.cellAt 0 (by omega)
    rw[← HP.out]at this
    simpa[rows,cS] using this
   have X0:=hX.c0
   have F0:=hX.f 0
   have hXl:=hX.lt
   by_cases he:iI i=p0
   ·have HN:=hid (show AJ w (wr.setCell ⟨X,0,none⟩ (.int .i64 (i:Int))) X (iY p0 (i+1)) n P np (.slice (some ⟨gp,0,none⟩) np cp) (.slice (some ⟨gw,0,none⟩) 9 cw) from by
     rw[← he,OD i1 (by omega)]
     exact⟨hX.aFH _,hR.far _ (by show w.heap.size≠X;omega),hRX,fD ownp _ (fun e=>by have:X<X:=hlp X e;omega),hlp,fD ownw _ (fun e=>by have:X+1≤X:=(ownw.lt X e).1;omega),hB.setCell (by show w.heap.size≤X;omega) _⟩)
    rw[he]at hwi
    clear he hX hR ownp hlp ownw hB HMI
    go_wp2_with fail
    go_quiet (fail)
    go_wp2
    go_roundw
    case rel=>exact⟨i+1,by go_num,by omega,by omega,HN.out.drewN nq⟩
    case measure=>simp[intOf];omega
   ·have HN:=hid (show AJ w wr X (iY p0 (i+1)) n P np (.slice (some ⟨gp,0,none⟩) np cp) (.slice (some ⟨gw,0,none⟩) 9 cw) from by rw[KL i1 he];exact HMI.out)
    have hne:=kI (fun e:bytesOf (iI i)=bytesOf p0=>he (by
     have h1:aA (bytesOf (iI i))=iI i:=aB _ (by
      have:∀ j:Fin 9,∀ x ∈ iI j.val,x<256:=by decide +kernel
      exact this ⟨i,by omega⟩)
     have h2:aA (bytesOf p0)=p0:=aB _ HLB.out
     rw[← h1,← h2,e]))
    clear he hX hR ownp hlp ownw hB HMI
    go_wp2_with fail
    go_quiet (fail)
    go_wp2
    go_roundw
    case rel=>exact⟨i+1,by go_num,by omega,by omega,HN.out.drewN nq⟩
    case measure=>simp[intOf];omega
  ·obtain rfl:i=9:=by omega
   rw[OE]at HMI
   clear hX hR ownp hlp ownw hB hi
   go_wp2_with fail
   obtain⟨q,hq⟩:∃ q,cX p0=q:=⟨_,rfl⟩
   rw[hq]at HMI
   have HQ:=hid hq
   have q8:q≤8:=hq▸AH p0
   obtain⟨hX,hR,hRX,ownp,hlp,ownw,hB⟩:=HMI.out
   obtain⟨X0,X1,X2,X3,X4⟩:_∧_∧_∧_∧_:=⟨hX.c0,hX.c1,hX.c2,hX.c3,hX.c4⟩
   obtain⟨R0,R1,R2,R3,R4⟩:_∧_∧_∧_∧_:=⟨hR.c0,hR.c1,hR.c2,hR.c3,hR.c4⟩
   obtain⟨G0,G1,G2,G3,G4⟩:_∧_∧_∧_∧_:=⟨hR.f 0,hR.f 1,hR.f 2,hR.f 3,hR.f 4⟩
   have HBW:=hid hB
   have HRW:=hid hR
   have HXW:=hid hX
   have HOP:=hid ownp
   have hne:X≠w.heap.size:=by omega
   have HGP:=hid (show (Value.slice (some ⟨gp,0,none⟩) np cp).ownBlock≠some X from fun e=>by have:X<X:=hlp X e;omega)
   clear hX hR hlp ownp ownw hB hq HMI HM
   by_cases hq0:q=0
   ·subst hq0
    have HNO:=hid (aB6 (n:=n) HPM.out HQ.out)
    have X0:wr.cell? ⟨X,0,none⟩=some (.int .i64 0):=X0
    go_quiet (fail)
    go_wp2
    show bodyPost _ _ _ _ _ (iK (wr.drewN nq) w.heap.size 0 es es 0 n)
    have hS:=iN.put (HRW.out.drewN nq) 0 es es 0 n
    have hbb:=dK (g:=w.heap.size) (Ba.below_drewN HBW.out nq) (Nat.le_refl _) 0 es es 0 n
    generalize iK _ _ _ _ _ _ _=w9 at hS hbb ⊢
    have k0:=hS.c0
    have k1:=hS.c1
    have k2:=hS.c2
    have k3:=hS.c3
    have k4:=hS.c4
    refine bodyPost_ret (v:=.tuple #[.agg #[.int .i64 0,.string es,.string es,.int .i64 0,.int .i64 n],.bool false]) (by simp[results,Tryz.f69,go_sem,k0,k1,k2,k3,k4]) rfl ?_
    exact fC.none _ HNO.out hbb
   ·have t0:((q:Int)==0)=false:=beq_eq_false_iff_ne.2 (by omega)
    have q0:(0:Int)≤(q:Int):=by omega
    by_cases h5:q≤5
    ·have h5i:(q:Int)≤5:=by omega
     have t5:decide (5<(q:Int))=false:=decide_eq_false (by omega)
     by_cases hn4:np=4
     ·subst hn4
      obtain⟨a,c,d,rfl⟩:∃ a c d,m=[a,c,d]:=by
       have:=HPL.out
       match m,this with
       | [a,c,d],_=>exact⟨a,c,d,rfl⟩
       | [],h=>simp at h
       | [a],h=>simp at h
       | [a,c],h=>simp at h
       | a::c::d::e::r,h=>simp at h
      obtain⟨lb,hlb⟩:∃ lb,aX q (aA (bytesOf a))=lb:=⟨_,rfl⟩
      have HLF:=hid hlb
      have HPA:=hid (nI HPM.out (x:=a) (by simp))
      have HPC:=hid (nI HPM.out (x:=c) (by simp))
      have HPD:=hid (nI HPM.out (x:=d) (by simp))
      have C1:=fX HOP.out (j:=1) (x:=a) (by rw[← HP.out];rfl) (by omega)
      have C2:=fX HOP.out (j:=2) (x:=c) (by rw[← HP.out];rfl) (by omega)
      have C3:=fX HOP.out (j:=3) (x:=d) (by rw[← HP.out];rfl) (by omega)
      clear hlb
      cases lb
      ·have HNO:=hid (show dI kP (aA s) n=none by rw[oB HPM.out (fun e=>hq0 (by rw[HQ.out]at e;exact e)) (by rw[HQ.out];exact h5),HQ.out,if_neg (by rw[← HPA.out.2,HLF.out];exact Bool.false_ne_true)])
       go_quiet ((go_at_call 71;exact Calls.quiet_of_same ((jP q (by omega) (bytesOf a) (Nat.le_trans HPA.out.1 hs) false HLF.out _).mono fun _ _ h=>⟨h.1,h.2.symm⟩)))
       go_wp2
       show bodyPost _ _ _ _ _ (iK (wr.drewN nq) w.heap.size (q:Int) es es 0 n)
       have hS:=iN.put (HRW.out.drewN nq) (q:Int) es es 0 n
       have hbb:=dK (g:=w.heap.size) (Ba.below_drewN HBW.out nq) (Nat.le_refl _) (q:Int) es es 0 n
       generalize iK _ _ _ _ _ _ _=w9 at hS hbb ⊢
       have k0:=hS.c0
       have k1:=hS.c1
       have k2:=hS.c2
       have k3:=hS.c3
       have k4:=hS.c4
       refine bodyPost_ret (v:=.tuple #[.agg #[.int .i64 (q:Int),.string es,.string es,.int .i64 0,.int .i64 n],.bool false]) (by simp[results,Tryz.f69,go_sem,k0,k1,k2,k3,k4]) rfl ?_
       exact fC.none _ HNO.out hbb
      ·go_quiet ((go_at_call 71;exact Calls.quiet_of_same ((jP q (by omega) (bytesOf a) (Nat.le_trans HPA.out.1 hs) true HLF.out _).mono fun _ _ h=>⟨h.1,h.2.symm⟩)))
       cases hcc:Ce.dY (bytesOf c) with
       | none =>
        have HNO:=hid (show dI kP (aA s) n=none by rw[oB HPM.out (fun e=>hq0 (by rw[HQ.out]at e;exact e)) (by rw[HQ.out];exact h5),HQ.out,show aX q a=true from by rw[← HPA.out.2];exact HLF.out,if_pos rfl,show kP c=none from by rw[← HPC.out.2,vN];exact hcc])
        obtain⟨z,hz⟩:∃ z,Ce.jS (bytesOf c)=z:=⟨_,rfl⟩
        have hz0:0≤z:=hz▸sA hcc
        have HPS:=hid (fun W=>hz▸Ce.iO (bytesOf c) (Nat.le_trans HPC.out.1 hs) W)
        clear hcc hz
        go_wp2_with fail
        refine(HPS.out _).mono ?_
        rintro e w6 ⟨rfl,hb6⟩
        have HX6:=hid ((HXW.out.drewN nq).kept hb6)
        have HR6:=hid ((HRW.out.drewN nq).kept hb6)
        have HB6:=hid (chain (Ba.below_drewN HBW.out nq) (Ba.below_drewN HBW.out nq).size hb6)
        clear hb6 X0 X1 X2 X3 X4 R0 R1 R2 R3 R4 G0 G1 G2 G3 G4 C1 C2 C3
        obtain⟨X0,X1,X2,X3,X4⟩:_∧_∧_∧_∧_:=⟨HX6.out.c0,HX6.out.c1,HX6.out.c2,HX6.out.c3,HX6.out.c4⟩
        obtain⟨R0,R1,R2,R3,R4⟩:_∧_∧_∧_∧_:=⟨HR6.out.c0,HR6.out.c1,HR6.out.c2,HR6.out.c3,HR6.out.c4⟩
        obtain⟨G0,G1,G2,G3,G4⟩:_∧_∧_∧_∧_:=⟨HR6.out.f 0,HR6.out.f 1,HR6.out.f 2,HR6.out.f 3,HR6.out.f 4⟩
        go_wp2
        show bodyPost _ _ _ _ _ (iK (w6) w.heap.size (q:Int) es es 0 n)
        have hS:=iN.put (HR6.out) (q:Int) es es 0 n
        have hbb:=dK (g:=w.heap.size) (HB6.out) (Nat.le_refl _) (q:Int) es es 0 n
        generalize iK _ _ _ _ _ _ _=w9 at hS hbb ⊢
        have k0:=hS.c0
        have k1:=hS.c1
        have k2:=hS.c2
        have k3:=hS.c3
        have k4:=hS.c4
        refine bodyPost_ret (v:=.tuple #[.agg #[.int .i64 (q:Int),.string es,.string es,.int .i64 0,.int .i64 n],.bool false]) (by simp[results,Tryz.f69,go_sem,k0,k1,k2,k3,k4]) rfl ?_
        exact fC.none _ HNO.out hbb
       | some l =>
        obtain⟨hpl,hpv⟩:=sB hcc
        have HPS:=hid (fun W=>hpv▸hpl▸Ce.iO (bytesOf c) (Nat.le_trans HPC.out.1 hs) W)
        have HCC:=hid (show kP c=some l from by rw[← HPC.out.2,vN];exact hcc)
        clear hcc hpl hpv
        go_wp2_with fail
        refine(HPS.out _).mono ?_
        rintro e w6 ⟨rfl,hb6⟩
        have HX6:=hid ((HXW.out.drewN nq).kept hb6)
        have HR6:=hid ((HRW.out.drewN nq).kept hb6)
        have HB6:=hid (chain (Ba.below_drewN HBW.out nq) (Ba.below_drewN HBW.out nq).size hb6)
        have HOP6:=hid (a6 (W:=wr.drewN nq) HOP.out hb6)
        have D1:=fX HOP6.out (j:=1) (x:=a) (by rw[← HP.out];rfl) (by omega)
        clear hb6 X0 X1 X2 X3 X4 R0 R1 R2 R3 R4 G0 G1 G2 G3 G4 C1 C2 C3
        obtain⟨X1,X2⟩:_∧_:=⟨HX6.out.c1,HX6.out.c2⟩
        obtain⟨F1,F2⟩:_∧_:=⟨HX6.out.f 1,HX6.out.f 2⟩
        go_upto_region 16 with fail
        have HX7:=hid ((HX6.out.aB4 (bytesOf a)).aB5 (bytesOf l))
        have HR7:=hid ((HR6.out.far (s:=⟨X,1,none⟩) (.string (bytesOf a)) (by show w.heap.size≠X;omega)).far (s:=⟨X,2,none⟩) (.string (bytesOf l)) (by show w.heap.size≠X;omega))
        have HB7:=hid ((HB6.out.setCell (p:=⟨X,1,none⟩) (by show w.heap.size≤X;omega) (.string (bytesOf a))).setCell (p:=⟨X,2,none⟩) (by show w.heap.size≤X;omega) (.string (bytesOf l)))
        have HOP7:=hid (fD (fD HOP6.out (a:=⟨X,1,none⟩) (.string (bytesOf a)) HGP.out) (a:=⟨X,2,none⟩) (.string (bytesOf l)) HGP.out)
        clear X1 X2 F1 F2 D1
        generalize World.setCell _ _ _=w7 at *
        obtain X0:=HX7.out.c0
        have D3:=fX HOP7.out (j:=3) (x:=d) (by rw[← HP.out];rfl) (by omega)
        go_wp2_with fail
        refine(KG (bytesOf d) (Nat.le_trans HPD.out.1 hs) _).mono ?_
        obtain⟨z,hz⟩:∃ z,r9 (aA (bytesOf d))=z:=⟨_,rfl⟩
        rw[hz]
        have HZ:=hid (show r9 d=z by rw[← HPD.out.2];exact hz)
        rintro e w8 ⟨rfl,k,rfl⟩
        obtain X3:=HX7.out.c3
        obtain F3:=HX7.out.f 3
        clear hz D3 X0
        go_upto_region 18 with fail
        have HX8:=hid ((HX7.out.drewN k).aFI z)
        have HR8:=hid ((HR7.out.drewN k).far (s:=⟨X,3,none⟩) (.int .i64 z) (by show w.heap.size≠X;omega))
        have HB8:=hid ((Ba.below_drewN HB7.out k).setCell (p:=⟨X,3,none⟩) (by show w.heap.size≤X;omega) (.int .i64 z))
        clear X3 F3
        generalize World.setCell _ _ _=w8 at *
        obtain⟨X0,X1,X2,X3,X4⟩:_∧_∧_∧_∧_:=⟨HX8.out.c0,HX8.out.c1,HX8.out.c2,HX8.out.c3,HX8.out.c4⟩
        obtain⟨R0,R1,R2,R3,R4⟩:_∧_∧_∧_∧_:=⟨HR8.out.c0,HR8.out.c1,HR8.out.c2,HR8.out.c3,HR8.out.c4⟩
        obtain⟨G0,G1,G2,G3,G4⟩:_∧_∧_∧_∧_:=⟨HR8.out.f 0,HR8.out.f 1,HR8.out.f 2,HR8.out.f 3,HR8.out.f 4⟩
        cases hdd:BN d with
        | none =>
         have HNO:=hid (show dI kP (aA s) n=none by rw[oB HPM.out (fun e=>hq0 (by rw[HQ.out]at e;exact e)) (by rw[HQ.out];exact h5),HQ.out,show aX q a=true from by rw[← HPA.out.2];exact HLF.out,if_pos rfl,HCC.out,hdd])
         obtain rfl:-1=z:=by have:=HZ.out;unfold r9 at this;rw[hdd]at this;exact this
         clear hdd
         go_region
         all_goals
          go_wp2
          show bodyPost _ _ _ _ _ ((iK _ w.heap.size (q:Int) (bytesOf a) (bytesOf l) (-1) n).drewN 1)
          have hS:=(iN.put HR8.out (q:Int) (bytesOf a) (bytesOf l) (-1) n).drewN 1
          have hbb:=Ba.below_drewN (dK (g:=w.heap.size) HB8.out (Nat.le_refl _) (q:Int) (bytesOf a) (bytesOf l) (-1) n) 1
          generalize (iK _ _ _ _ _ _ _).drewN 1=w9 at hS hbb ⊢
          have k0:=hS.c0
          have k1:=hS.c1
          have k2:=hS.c2
          have k3:=hS.c3
          have k4:=hS.c4
          refine bodyPost_ret (v:=.tuple #[.agg #[.int .i64 (q:Int),.string (bytesOf a),.string (bytesOf l),.int .i64 (-1),.int .i64 n],.bool false]) (by simp[results,Tryz.f69,go_sem,k0,k1,k2,k3,k4]) rfl ?_
          exact fC.none _ HNO.out hbb
        | some p =>
         have HOK:=hid (show dI kP (aA s) n=some ⟨(q:Int),a,l,(p:Int),n⟩ by rw[oB HPM.out (fun e=>hq0 (by rw[HQ.out]at e;exact e)) (by rw[HQ.out];exact h5),HQ.out,show aX q a=true from by rw[← HPA.out.2];exact HLF.out,if_pos rfl,HCC.out,hdd])
         obtain rfl:(p:Int)=z:=by have:=HZ.out;unfold r9 at this;rw[hdd]at this;exact this
         have hp0:(0:Int)≤(p:Int):=by omega
         clear hdd
         go_region
         all_goals
          go_wp2
          show bodyPost _ _ _ _ _ ((iK _ w.heap.size (q:Int) (bytesOf a) (bytesOf l) (p:Int) n).drewN 1)
          have hS:=(iN.put HR8.out (q:Int) (bytesOf a) (bytesOf l) (p:Int) n).drewN 1
          have hbb:=Ba.below_drewN (dK (g:=w.heap.size) HB8.out (Nat.le_refl _) (q:Int) (bytesOf a) (bytesOf l) (p:Int) n) 1
          generalize (iK _ _ _ _ _ _ _).drewN 1=w9 at hS hbb ⊢
          have k0:=hS.c0
          have k1:=hS.c1
          have k2:=hS.c2
          have k3:=hS.c3
          have k4:=hS.c4
          refine bodyPost_ret (v:=.tuple #[.agg #[.int .i64 (q:Int),.string (bytesOf a),.string (bytesOf l),.int .i64 (p:Int),.int .i64 n],.bool true]) (by simp[results,Tryz.f69,go_sem,k0,k1,k2,k3,k4]) rfl ?_
          exact fC.some HOK.out rfl hbb
     ·have HNO:=hid (aB7 (n:=n) HPM.out (by rw[HQ.out];exact h5) (fun e=>hn4 (by rw[HPL.out,e])))
      have t4:((np:Int) != 4)=true:=by rw[bne,beq_eq_false_iff_ne.2 (by omega)];rfl
      clear hn4
      go_quiet (fail)
      go_wp2
      show bodyPost _ _ _ _ _ (iK (wr.drewN nq) w.heap.size (q:Int) es es 0 n)
      have hS:=iN.put (HRW.out.drewN nq) (q:Int) es es 0 n
      have hbb:=dK (g:=w.heap.size) (Ba.below_drewN HBW.out nq) (Nat.le_refl _) (q:Int) es es 0 n
      generalize iK _ _ _ _ _ _ _=w9 at hS hbb ⊢
      have k0:=hS.c0
      have k1:=hS.c1
      have k2:=hS.c2
      have k3:=hS.c3
      have k4:=hS.c4
      refine bodyPost_ret (v:=.tuple #[.agg #[.int .i64 (q:Int),.string es,.string es,.int .i64 0,.int .i64 n],.bool false]) (by simp[results,Tryz.f69,go_sem,k0,k1,k2,k3,k4]) rfl ?_
      exact fC.none _ HNO.out hbb
    ·have h5i:¬ (q:Int)≤5:=by omega
     have t5:decide ((q:Int)≤5)=false:=decide_eq_false h5i
     have t6:5<(q:Int):=by omega
     by_cases hn3:np=3
     ·subst hn3
      obtain⟨a,c,rfl⟩:∃ a c,m=[a,c]:=by
       have:=HPL.out
       match m,this with
       | [a,c],_=>exact⟨a,c,rfl⟩
       | [],h=>simp at h
       | [a],h=>simp at h
       | a::c::d::r,h=>simp at h
      obtain⟨lb,hlb⟩:∃ lb,aX q (aA (bytesOf a))=lb:=⟨_,rfl⟩
      have HLF:=hid hlb
      have HPA:=hid (nI HPM.out (x:=a) (by simp))
      have HPC:=hid (nI HPM.out (x:=c) (by simp))
      have C1:=fX HOP.out (j:=1) (x:=a) (by rw[← HP.out];rfl) (by omega)
      have C2:=fX HOP.out (j:=2) (x:=c) (by rw[← HP.out];rfl) (by omega)
      clear hlb
      by_cases h7:q≤7
      ·cases lb
       ·have HNO:=hid (show dI kP (aA s) n=none by rw[gW HPM.out (by rw[HQ.out];omega),HQ.out,if_neg (by rw[← HPA.out.2,HLF.out];exact Bool.false_ne_true)])
        go_quiet ((go_at_call 71;exact Calls.quiet_of_same ((jP q (by omega) (bytesOf a) (Nat.le_trans HPA.out.1 hs) false HLF.out _).mono fun _ _ h=>⟨h.1,h.2.symm⟩)))
        go_wp2
        show bodyPost _ _ _ _ _ (iK (wr.drewN nq) w.heap.size (q:Int) es es 0 n)
        have hS:=iN.put (HRW.out.drewN nq) (q:Int) es es 0 n
        have hbb:=dK (g:=w.heap.size) (Ba.below_drewN HBW.out nq) (Nat.le_refl _) (q:Int) es es 0 n
        generalize iK _ _ _ _ _ _ _=w9 at hS hbb ⊢
        have k0:=hS.c0
        have k1:=hS.c1
        have k2:=hS.c2
        have k3:=hS.c3
        have k4:=hS.c4
        refine bodyPost_ret (v:=.tuple #[.agg #[.int .i64 (q:Int),.string es,.string es,.int .i64 0,.int .i64 n],.bool false]) (by simp[results,Tryz.f69,go_sem,k0,k1,k2,k3,k4]) rfl ?_
        exact fC.none _ HNO.out hbb
       ·go_quiet ((go_at_call 71;exact Calls.quiet_of_same ((jP q (by omega) (bytesOf a) (Nat.le_trans HPA.out.1 hs) true HLF.out _).mono fun _ _ h=>⟨h.1,h.2.symm⟩)))
        cases hcc:Ce.dY (bytesOf c) with
        | none =>
         have HNO:=hid (show dI kP (aA s) n=none by rw[gW HPM.out (by rw[HQ.out];omega),HQ.out,show aX q a=true from by rw[← HPA.out.2];exact HLF.out,if_pos rfl,show kP c=none from by rw[← HPC.out.2,vN];exact hcc])
         obtain⟨z,hz⟩:∃ z,Ce.jS (bytesOf c)=z:=⟨_,rfl⟩
         have hz0:0≤z:=hz▸sA hcc
         have HPS:=hid (fun W=>hz▸Ce.iO (bytesOf c) (Nat.le_trans HPC.out.1 hs) W)
         clear hcc hz
         go_wp2_with fail
         refine(HPS.out _).mono ?_
         rintro e w6 ⟨rfl,hb6⟩
         have HX6:=hid ((HXW.out.drewN nq).kept hb6)
         have HR6:=hid ((HRW.out.drewN nq).kept hb6)
         have HB6:=hid (chain (Ba.below_drewN HBW.out nq) (Ba.below_drewN HBW.out nq).size hb6)
         clear hb6 X0 X1 X2 X3 X4 R0 R1 R2 R3 R4 G0 G1 G2 G3 G4 C1 C2
         obtain⟨X0,X1,X2,X3,X4⟩:_∧_∧_∧_∧_:=⟨HX6.out.c0,HX6.out.c1,HX6.out.c2,HX6.out.c3,HX6.out.c4⟩
         obtain⟨R0,R1,R2,R3,R4⟩:_∧_∧_∧_∧_:=⟨HR6.out.c0,HR6.out.c1,HR6.out.c2,HR6.out.c3,HR6.out.c4⟩
         obtain⟨G0,G1,G2,G3,G4⟩:_∧_∧_∧_∧_:=⟨HR6.out.f 0,HR6.out.f 1,HR6.out.f 2,HR6.out.f 3,HR6.out.f 4⟩
         go_wp2
         show bodyPost _ _ _ _ _ (iK (w6) w.heap.size (q:Int) es es 0 n)
         have hS:=iN.put (HR6.out) (q:Int) es es 0 n
         have hbb:=dK (g:=w.heap.size) (HB6.out) (Nat.le_refl _) (q:Int) es es 0 n
         generalize iK _ _ _ _ _ _ _=w9 at hS hbb ⊢
         have k0:=hS.c0
         have k1:=hS.c1
         have k2:=hS.c2
         have k3:=hS.c3
         have k4:=hS.c4
         refine bodyPost_ret (v:=.tuple #[.agg #[.int .i64 (q:Int),.string es,.string es,.int .i64 0,.int .i64 n],.bool false]) (by simp[results,Tryz.f69,go_sem,k0,k1,k2,k3,k4]) rfl ?_
         exact fC.none _ HNO.out hbb
        | some l =>
         obtain⟨hpl,hpv⟩:=sB hcc
         have HPS:=hid (fun W=>hpv▸hpl▸Ce.iO (bytesOf c) (Nat.le_trans HPC.out.1 hs) W)
         have HCC:=hid (show kP c=some l from by rw[← HPC.out.2,vN];exact hcc)
         clear hcc hpl hpv
         go_wp2_with fail
         refine(HPS.out _).mono ?_
         rintro e w6 ⟨rfl,hb6⟩
         have HX6:=hid ((HXW.out.drewN nq).kept hb6)
         have HR6:=hid ((HRW.out.drewN nq).kept hb6)
         have HB6:=hid (chain (Ba.below_drewN HBW.out nq) (Ba.below_drewN HBW.out nq).size hb6)
         have HOP6:=hid (a6 (show (wr.drewN nq).ownsRow _ _ _ _ _ _ from HOP.out) hb6)
         have D1:=fX HOP6.out (j:=1) (x:=a) (by rw[← HP.out];rfl) (by omega)
         clear hb6 X0 X1 X2 X3 X4 R0 R1 R2 R3 R4 G0 G1 G2 G3 G4 C1 C2
         obtain⟨X1,X2⟩:_∧_:=⟨HX6.out.c1,HX6.out.c2⟩
         obtain⟨F1,F2⟩:_∧_:=⟨HX6.out.f 1,HX6.out.f 2⟩
         go_upto_region 16 with fail
         have HX7:=hid ((HX6.out.aB4 (bytesOf a)).aB5 (bytesOf l))
         have HR7:=hid ((HR6.out.far (s:=⟨X,1,none⟩) (.string (bytesOf a)) (by show w.heap.size≠X;omega)).far (s:=⟨X,2,none⟩) (.string (bytesOf l)) (by show w.heap.size≠X;omega))
         have HB7:=hid ((HB6.out.setCell (p:=⟨X,1,none⟩) (by show w.heap.size≤X;omega) (.string (bytesOf a))).setCell (p:=⟨X,2,none⟩) (by show w.heap.size≤X;omega) (.string (bytesOf l)))
         clear X1 X2 F1 F2 D1
         generalize World.setCell _ _ _=w7 at *
         obtain X0:=HX7.out.c0
         have HOK:=hid (show dI kP (aA s) n=some ⟨(q:Int),a,l,0,n⟩ by rw[gW HPM.out (by rw[HQ.out];omega),HQ.out,show aX q a=true from by rw[← HPA.out.2];exact HLF.out,if_pos rfl,HCC.out])
         go_upto_region 18 with fail
         obtain⟨X1,X2,X3,X4⟩:_∧_∧_∧_:=⟨HX7.out.c1,HX7.out.c2,HX7.out.c3,HX7.out.c4⟩
         obtain⟨R0,R1,R2,R3,R4⟩:_∧_∧_∧_∧_:=⟨HR7.out.c0,HR7.out.c1,HR7.out.c2,HR7.out.c3,HR7.out.c4⟩
         obtain⟨G0,G1,G2,G3,G4⟩:_∧_∧_∧_∧_:=⟨HR7.out.f 0,HR7.out.f 1,HR7.out.f 2,HR7.out.f 3,HR7.out.f 4⟩
         go_region
         all_goals
          go_wp2
          show bodyPost _ _ _ _ _ ((iK (_) w.heap.size (q:Int) (bytesOf a) (bytesOf l) 0 n).drewN 1)
          have hS:=(iN.put (HR7.out) (q:Int) (bytesOf a) (bytesOf l) 0 n).drewN 1
          have hbb:=Ba.below_drewN (dK (g:=w.heap.size) (HB7.out) (Nat.le_refl _) (q:Int) (bytesOf a) (bytesOf l) 0 n) 1
          generalize (iK _ _ _ _ _ _ _).drewN 1=w9 at hS hbb ⊢
          have k0:=hS.c0
          have k1:=hS.c1
          have k2:=hS.c2
          have k3:=hS.c3
          have k4:=hS.c4
          refine bodyPost_ret (v:=.tuple #[.agg #[.int .i64 (q:Int),.string (bytesOf a),.string (bytesOf l),.int .i64 0,.int .i64 n],.bool true]) (by simp[results,Tryz.f69,go_sem,k0,k1,k2,k3,k4]) rfl ?_
          exact fC.some HOK.out rfl hbb
      ·obtain rfl:q=8:=by omega
       have X0:wr.cell? ⟨X,0,none⟩=some (.int .i64 8):=X0
       clear t0 t5 t6 h5i q0
       cases lb
       ·have HNO:=hid (show dI kP (aA s) n=none by rw[gW HPM.out (by rw[HQ.out];omega),HQ.out,if_neg (by rw[← HPA.out.2,HLF.out];exact Bool.false_ne_true)])
        go_still_tail 29,(by kernel_rfl)
        change wpList _ _ _ _ _ (wr.drewN 1)
        go_wp2_with fail
        refine(DI 8 q8 (bytesOf a) (Nat.le_trans HPA.out.1 hs) false HLF.out _).mono ?_
        rintro e w5 ⟨rfl,hb5⟩
        have HX5:=hid ((HXW.out.drewN 1).kept hb5)
        have HR5:=hid ((HRW.out.drewN 1).kept hb5)
        have HB5:=hid (chain (Ba.below_drewN HBW.out 1) (Ba.below_drewN HBW.out 1).size hb5)
        have HOP5:=hid (a6 (W:=wr.drewN 1) HOP.out hb5)
        have J1:=fX HOP5.out (j:=1) (x:=a) (by rw[← HP.out];rfl) (by omega)
        have J2:=fX HOP5.out (j:=2) (x:=c) (by rw[← HP.out];rfl) (by omega)
        clear hb5 X0 X1 X2 X3 X4 R0 R1 R2 R3 R4 G0 G1 G2 G3 G4 C1 C2
        obtain⟨X0,X1,X2,X3,X4⟩:_∧_∧_∧_∧_:=⟨HX5.out.c0,HX5.out.c1,HX5.out.c2,HX5.out.c3,HX5.out.c4⟩
        obtain⟨R0,R1,R2,R3,R4⟩:_∧_∧_∧_∧_:=⟨HR5.out.c0,HR5.out.c1,HR5.out.c2,HR5.out.c3,HR5.out.c4⟩
        obtain⟨G0,G1,G2,G3,G4⟩:_∧_∧_∧_∧_:=⟨HR5.out.f 0,HR5.out.f 1,HR5.out.f 2,HR5.out.f 3,HR5.out.f 4⟩
        have X0:w5.cell? ⟨X,0,none⟩=some (.int .i64 8):=X0
        go_wp2
        show bodyPost _ _ _ _ _ (iK (w5) w.heap.size 8 es es 0 n)
        have hS:=iN.put (HR5.out) 8 es es 0 n
        have hbb:=dK (g:=w.heap.size) (HB5.out) (Nat.le_refl _) 8 es es 0 n
        generalize iK _ _ _ _ _ _ _=w9 at hS hbb ⊢
        have k0:=hS.c0
        have k1:=hS.c1
        have k2:=hS.c2
        have k3:=hS.c3
        have k4:=hS.c4
        refine bodyPost_ret (v:=.tuple #[.agg #[.int .i64 8,.string es,.string es,.int .i64 0,.int .i64 n],.bool false]) (by simp[results,Tryz.f69,go_sem,k0,k1,k2,k3,k4]) rfl ?_
        exact fC.none _ HNO.out hbb
       ·skip
        go_still_tail 29,(by kernel_rfl)
        change wpList _ _ _ _ _ (wr.drewN 1)
        go_wp2_with fail
        refine(DI 8 q8 (bytesOf a) (Nat.le_trans HPA.out.1 hs) true HLF.out _).mono ?_
        rintro e w5 ⟨rfl,hb5⟩
        have HX5:=hid ((HXW.out.drewN 1).kept hb5)
        have HR5:=hid ((HRW.out.drewN 1).kept hb5)
        have HB5:=hid (chain (Ba.below_drewN HBW.out 1) (Ba.below_drewN HBW.out 1).size hb5)
        have HOP5:=hid (a6 (W:=wr.drewN 1) HOP.out hb5)
        have J1:=fX HOP5.out (j:=1) (x:=a) (by rw[← HP.out];rfl) (by omega)
        have J2:=fX HOP5.out (j:=2) (x:=c) (by rw[← HP.out];rfl) (by omega)
        clear hb5 X0 X1 X2 X3 X4 R0 R1 R2 R3 R4 G0 G1 G2 G3 G4 C1 C2
        obtain⟨X0,X1,X2,X3,X4⟩:_∧_∧_∧_∧_:=⟨HX5.out.c0,HX5.out.c1,HX5.out.c2,HX5.out.c3,HX5.out.c4⟩
        obtain⟨R0,R1,R2,R3,R4⟩:_∧_∧_∧_∧_:=⟨HR5.out.c0,HR5.out.c1,HR5.out.c2,HR5.out.c3,HR5.out.c4⟩
        obtain⟨G0,G1,G2,G3,G4⟩:_∧_∧_∧_∧_:=⟨HR5.out.f 0,HR5.out.f 1,HR5.out.f 2,HR5.out.f 3,HR5.out.f 4⟩
        have X0:w5.cell? ⟨X,0,none⟩=some (.int .i64 8):=X0
        cases hcc:Ce.dY (bytesOf c) with
        | none =>
         have HNO:=hid (show dI kP (aA s) n=none by rw[gW HPM.out (by rw[HQ.out];omega),HQ.out,show aX 8 a=true from by rw[← HPA.out.2];exact HLF.out,if_pos rfl,show kP c=none from by rw[← HPC.out.2,vN];exact hcc])
         obtain⟨z,hz⟩:∃ z,Ce.jS (bytesOf c)=z:=⟨_,rfl⟩
         have hz0:0≤z:=hz▸sA hcc
         have HPS:=hid (fun W=>hz▸Ce.iO (bytesOf c) (Nat.le_trans HPC.out.1 hs) W)
         clear hcc hz
         go_wp2_with fail
         refine(HPS.out _).mono ?_
         rintro e w6 ⟨rfl,hb6⟩
         have HX6:=hid ((HX5.out).kept hb6)
         have HR6:=hid ((HR5.out).kept hb6)
         have HB6:=hid (chain (HB5.out) (HB5.out).size hb6)
         clear hb6 X0 X1 X2 X3 X4 R0 R1 R2 R3 R4 G0 G1 G2 G3 G4 J1 J2
         obtain⟨X0,X1,X2,X3,X4⟩:_∧_∧_∧_∧_:=⟨(show w6.cell? ⟨X,0,none⟩=some (.int .i64 8) from HX6.out.c0),HX6.out.c1,HX6.out.c2,HX6.out.c3,HX6.out.c4⟩
         obtain⟨R0,R1,R2,R3,R4⟩:_∧_∧_∧_∧_:=⟨HR6.out.c0,HR6.out.c1,HR6.out.c2,HR6.out.c3,HR6.out.c4⟩
         obtain⟨G0,G1,G2,G3,G4⟩:_∧_∧_∧_∧_:=⟨HR6.out.f 0,HR6.out.f 1,HR6.out.f 2,HR6.out.f 3,HR6.out.f 4⟩
         go_wp2
         show bodyPost _ _ _ _ _ (iK (w6) w.heap.size 8 es es 0 n)
         have hS:=iN.put (HR6.out) 8 es es 0 n
         have hbb:=dK (g:=w.heap.size) (HB6.out) (Nat.le_refl _) 8 es es 0 n
         generalize iK _ _ _ _ _ _ _=w9 at hS hbb ⊢
         have k0:=hS.c0
         have k1:=hS.c1
         have k2:=hS.c2
         have k3:=hS.c3
         have k4:=hS.c4
         refine bodyPost_ret (v:=.tuple #[.agg #[.int .i64 8,.string es,.string es,.int .i64 0,.int .i64 n],.bool false]) (by simp[results,Tryz.f69,go_sem,k0,k1,k2,k3,k4]) rfl ?_
         exact fC.none _ HNO.out hbb
        | some l =>
         obtain⟨hpl,hpv⟩:=sB hcc
         have HPS:=hid (fun W=>hpv▸hpl▸Ce.iO (bytesOf c) (Nat.le_trans HPC.out.1 hs) W)
         have HCC:=hid (show kP c=some l from by rw[← HPC.out.2,vN];exact hcc)
         clear hcc hpl hpv
         go_wp2_with fail
         refine(HPS.out _).mono ?_
         rintro e w6 ⟨rfl,hb6⟩
         have HX6:=hid ((HX5.out).kept hb6)
         have HR6:=hid ((HR5.out).kept hb6)
         have HB6:=hid (chain (HB5.out) (HB5.out).size hb6)
         have HOP6:=hid (a6 (HOP5.out) hb6)
         have D1:=fX HOP6.out (j:=1) (x:=a) (by rw[← HP.out];rfl) (by omega)
         clear hb6 X0 X1 X2 X3 X4 R0 R1 R2 R3 R4 G0 G1 G2 G3 G4 J1 J2
         obtain⟨X1,X2⟩:_∧_:=⟨HX6.out.c1,HX6.out.c2⟩
         obtain⟨F1,F2⟩:_∧_:=⟨HX6.out.f 1,HX6.out.f 2⟩
         go_upto_region 16 with fail
         have HX7:=hid ((HX6.out.aB4 (bytesOf a)).aB5 (bytesOf l))
         have HR7:=hid ((HR6.out.far (s:=⟨X,1,none⟩) (.string (bytesOf a)) (by show w.heap.size≠X;omega)).far (s:=⟨X,2,none⟩) (.string (bytesOf l)) (by show w.heap.size≠X;omega))
         have HB7:=hid ((HB6.out.setCell (p:=⟨X,1,none⟩) (by show w.heap.size≤X;omega) (.string (bytesOf a))).setCell (p:=⟨X,2,none⟩) (by show w.heap.size≤X;omega) (.string (bytesOf l)))
         clear X1 X2 F1 F2 D1
         generalize World.setCell _ _ _=w7 at *
         have X0:w7.cell? ⟨X,0,none⟩=some (.int .i64 8):=HX7.out.c0
         have HOK:=hid (show dI kP (aA s) n=some ⟨((8:Nat):Int),a,l,0,n⟩ by rw[gW HPM.out (by rw[HQ.out];omega),HQ.out,show aX 8 a=true from by rw[← HPA.out.2];exact HLF.out,if_pos rfl,HCC.out])
         go_upto_region 18 with fail
         obtain⟨X1,X2,X3,X4⟩:_∧_∧_∧_:=⟨HX7.out.c1,HX7.out.c2,HX7.out.c3,HX7.out.c4⟩
         obtain⟨R0,R1,R2,R3,R4⟩:_∧_∧_∧_∧_:=⟨HR7.out.c0,HR7.out.c1,HR7.out.c2,HR7.out.c3,HR7.out.c4⟩
         obtain⟨G0,G1,G2,G3,G4⟩:_∧_∧_∧_∧_:=⟨HR7.out.f 0,HR7.out.f 1,HR7.out.f 2,HR7.out.f 3,HR7.out.f 4⟩
         go_region
         all_goals
          go_wp2
          show bodyPost _ _ _ _ _ ((iK (_) w.heap.size 8 (bytesOf a) (bytesOf l) 0 n).drewN 1)
          have hS:=(iN.put (HR7.out) 8 (bytesOf a) (bytesOf l) 0 n).drewN 1
          have hbb:=Ba.below_drewN (dK (g:=w.heap.size) (HB7.out) (Nat.le_refl _) 8 (bytesOf a) (bytesOf l) 0 n) 1
          generalize (iK _ _ _ _ _ _ _).drewN 1=w9 at hS hbb ⊢
          have k0:=hS.c0
          have k1:=hS.c1
          have k2:=hS.c2
          have k3:=hS.c3
          have k4:=hS.c4
          refine bodyPost_ret (v:=.tuple #[.agg #[.int .i64 8,.string (bytesOf a),.string (bytesOf l),.int .i64 0,.int .i64 n],.bool true]) (by simp[results,Tryz.f69,go_sem,k0,k1,k2,k3,k4]) rfl ?_
          exact fC.some HOK.out rfl hbb
     ·have HNO:=hid (aB8 (n:=n) HPM.out (by rw[HQ.out];omega) (fun e=>hn3 (by rw[HPL.out,e])))
      have t4:((np:Int) != 3)=true:=by rw[bne,beq_eq_false_iff_ne.2 (by omega)];rfl
      clear hn3
      go_quiet (fail)
      go_wp2
      show bodyPost _ _ _ _ _ (iK (wr.drewN nq) w.heap.size (q:Int) es es 0 n)
      have hS:=iN.put (HRW.out.drewN nq) (q:Int) es es 0 n
      have hbb:=dK (g:=w.heap.size) (Ba.below_drewN HBW.out nq) (Nat.le_refl _) (q:Int) es es 0 n
      generalize iK _ _ _ _ _ _ _=w9 at hS hbb ⊢
      have k0:=hS.c0
      have k1:=hS.c1
      have k2:=hS.c2
      have k3:=hS.c3
      have k4:=hS.c4
      refine bodyPost_ret (v:=.tuple #[.agg #[.int .i64 (q:Int),.string es,.string es,.int .i64 0,.int .i64 n],.bool false]) (by simp[results,Tryz.f69,go_sem,k0,k1,k2,k3,k4]) rfl ?_
      exact fC.none _ HNO.out hbb
end Go.Proofs.YthbigkoihpgcfaaGreatDoor.Ru
