/-
  Put together.
-/
import Derived.Test.YthbigkoihpgcfaaGreatDoorQj
import Derived.Test.YthbigkoihpgcfaaGreatDoorRuH
import Derived.Test.YthbigkoihpgcfaaGreatDoorSb
import Derived.Test.YthbigkoihpgcfaaGreatDoorTsC
import Derived.Test.YthbigkoihpgcfaaGreatDoorUn
open Go.Lib (hid)
set_option maxRecDepth 100000
set_option maxHeartbeats 16000000
namespace Go.Proofs.YthbigkoihpgcfaaGreatDoor.Ck
open Go.RowKit Ba Ru
def GL:ByteArray:={ data:=#[97,110,121,32,97,32,49,32,53,48,10,97,110,121,32,98,32,49,50,32,53,48,10,97,110,121,32,99,32,49,52,32,53,48,10,97,110,121,32,100,32,49,52,53,32,53,48,10,97,110,121,32,101,32,49,53,32,53,48,10,97,110,121,32,102,32,49,50,52,32,53,48,10,97,110,121,32,103,32,49,50,52,53,32,53,48,10,97,110,121,32,104,32,49,50,53,32,53,48,10,97,110,121,32,105,32,50,52,32,53,48,10,97,110,121,32,106,32,50,52,53,32,53,48,10,97,110,121,32,107,32,49,51,32,53,48,10,97,110,121,32,108,32,49,50,51,32,53,48,10,97,110,121,32,109,32,49,51,52,32,53,48,10,97,110,121,32,110,32,49,51,52,53,32,53,48,10,97,110,121,32,111,32,49,51,53,32,53,48,10,97,110,121,32,112,32,49,50,51,52,32,53,48,10,97,110,121,32,113,32,49,50,51,52,53,32,53,48,10,97,110,121,32,114,32,49,50,51,53,32,53,48,10,97,110,121,32,115,32,50,51,52,32,53,48,10,97,110,121,32,116,32,50,51,52,53,32,53,48,10,97,110,121,32,117,32,49,51,54,32,53,48,10,97,110,121,32,118,32,49,50,51,54,32,53,48,10,97,110,121,32,119,32,50,52,53,54,32,53,48,10,97,110,121,32,120,32,49,51,52,54,32,53,48,10,97,110,121,32,121,32,49,51,52,53,54,32,53,48,10,97,110,121,32,122,32,49,51,53,54,32,53,48,10,97,110,121,32,97,110,100,32,49,50,51,52,54,32,49,10,97,110,121,32,102,111,114,32,49,50,51,52,53,54,32,49,10,97,110,121,32,111,102,32,49,50,51,53,54,32,49,10,97,110,121,32,116,104,101,32,50,51,52,54,32,49,10,97,110,121,32,119,105,116,104,32,50,51,52,53,54,32,49,10,97,110,121,32,99,104,32,49,54,32,49,48,10,97,110,121,32,103,104,32,49,50,54,32,49,48,10,97,110,121,32,115,104,32,49,52,54,32,49,48,10,97,110,121,32,116,104,32,49,52,53,54,32,49,48,10,97,110,121,32,119,104,32,49,53,54,32,49,48,10,97,110,121,32,101,100,32,49,50,52,54,32,49,48,10,97,110,121,32,101,114,32,49,50,52,53,54,32,49,48,10,97,110,121,32,111,117,32,49,50,53,54,32,49,48,10,97,110,121,32,111,119,32,50,52,54,32,49,48,10,97,110,121,32,115,116,32,51,52,32,49,48,10,97,110,121,32,97,114,32,51,52,53,32,49,48,10,97,110,121,32,105,110,103,32,51,52,54,32,49,48,10,98,101,103,105,110,32,99,111,110,32,52,54,45,49,52,32,53,10,98,101,103,105,110,32,100,105,115,32,52,54,45,49,52,53,32,53,10,105,110,110,101,114,32,101,97,32,52,54,45,49,53,32,50,48,10,101,110,100,32,110,101,115,115,32,53,54,45,50,51,52,32,51,10,101,110,100,32,116,105,111,110,32,53,54,45,49,51,52,53,32,51,10,119,111,114,100,32,98,117,116,32,49,50,32,48,10,119,111,114,100,32,99,97,110,32,49,52,32,48,10,119,111,114,100,32,100,111,32,49,52,53,32,48,10,119,111,114,100,32,101,118,101,114,121,32,49,53,32,48,10,119,111,114,100,32,102,114,111,109,32,49,50,52,32,48,10,119,111,114,100,32,103,111,32,49,50,52,53,32,48,10,119,111,114,100,32,104,97,118,101,32,49,50,53,32,48,10,119,111,114,100,32,106,117,115,116,32,50,52,53,32,48,10,119,111,114,100,32,107,110,111,119,108,101,100,103,101,32,49,51,32,48,10,119,111,114,100,32,108,105,107,101,32,49,50,51,32,48,10,119,111,114,100,32,109,111,114,101,32,49,51,52,32,48,10,119,111,114,100,32,110,111,116,32,49,51,52,53,32,48,10,119,111,114,100,32,112,101,111,112,108,101,32,49,50,51,52,32,48,10,119,111,114,100,32,113,117,105,116,101,32,49,50,51,52,53,32,48,10,119,111,114,100,32,114,97,116,104,101,114,32,49,50,51,53,32,48,10,119,111,114,100,32,115,111,32,50,51,52,32,48,10,119,111,114,100,32,116,104,97,116,32,50,51,52,53,32,48,10,119,111,114,100,32,117,115,32,49,51,54,32,48,10,119,111,114,100,32,118,101,114,121,32,49,50,51,54,32,48,10,119,111,114,100,32,119,105,108,108,32,50,52,53,54,32,48,10,119,111,114,100,32,105,116,32,49,51,52,54,32,48,10,119,111,114,100,32,121,111,117,32,49,51,52,53,54,32,48,10,119,111,114,100,32,97,115,32,49,51,53,54,32,48,10,109,97,114,107,32,46,32,50,53,54,10,109,97,114,107,32,44,32,50,10,109,97,114,107,32,59,32,50,51,10,109,97,114,107,32,58,32,50,53,10,109,97,114,107,32,33,32,50,51,53,10,109,97,114,107,32,63,32,50,51,54,10,109,97,114,107,32,39,32,51,10,109,97,114,107,32,34,32,53,45,50,51,54,10,109,97,114,107,32,45,32,51,54,10,109,97,114,107,32,40,32,53,45,49,50,54,10,109,97,114,107,32,41,32,53,45,51,52,53,10,109,97,114,107,32,47,32,53,45,51,52,10,100,105,103,105,116,32,48,32,50,52,53,10,100,105,103,105,116,32,49,32,49,10,100,105,103,105,116,32,50,32,49,50,10,100,105,103,105,116,32,51,32,49,52,10,100,105,103,105,116,32,52,32,49,52,53,10,100,105,103,105,116,32,53,32,49,53,10,100,105,103,105,116,32,54,32,49,50,52,10,100,105,103,105,116,32,55,32,49,50,52,53,10,100,105,103,105,116,32,56,32,49,50,53,10,100,105,103,105,116,32,57,32,50,52,10,115,105,103,110,32,99,97,112,32,54,10,115,105,103,110,32,99,97,112,115,32,52,53,45,54,10,115,105,103,110,32,110,117,109,32,51,52,53,54,10,115,105,103,110,32,108,101,116,32,53,54,45,53,54,10,115,105,103,110,32,101,43,32,52,54,45,49,10,115,105,103,110,32,101,45,32,52,54,45,51,10,115,105,103,110,32,115,43,32,52,53,45,49,10,115,105,103,110,32,115,45,32,52,53,45,51,10,115,105,103,110,32,110,43,32,53,45,49,10,115,105,103,110,32,110,45,32,53,45,51,10,115,105,103,110,32,98,108,107,32,52,10,115,105,103,110,32,99,111,110,116,32,52,53,54,10,115,105,103,110,32,105,110,100,32,50,51,53,54,10] }
def kS:List Rl:=(nO GL).1
theorem U5:(nO GL).2=(0,0):=by decide +kernel
theorem mO:kS.length=106:=by decide +kernel
theorem LV:e9 dM kS=(0,0):=by decide +kernel
theorem sN:∀ x ∈ kS,eN x∧x.left.length≤9000∧x.cells.length≤9000:=LW (r:=nO GL) rfl
theorem LU (w:World):Calls Tryz.prog 32 #[] w fun e w'=>e=.returned (.string GL)∧w'=w:=by
 go_enter Tryz.func32,Tryz.ntmps32
 go_wp2
 go_ret
 exact⟨rfl,rfl⟩
theorem QO (w:World):Calls Tryz.prog 15 #[] w fun e w'=>∃ v,e=.returned v∧w'.ownsRow w.heap.size 48 5 v 106 (rows cR kS)∧Below w.heap.size w w':=by
 have HQ:=hid (GM GL (by decide))
 go_enter Tryz.func15,Tryz.ntmps15
 go_wp2_with (go_at_call 32;refine(LU _).mono ?_;rintro e w' ⟨rfl,rfl⟩)
 refine(HQ.out _).mono ?_
 rintro e w2 ⟨v2,rfl,own2,hb2⟩
 rw[U5]
 have HO2:=hid (show w2.ownsRow w'.heap.size 48 5 v2 106 (rows cR kS) from by rw[← mO];exact own2)
 have HB2:=hid hb2
 clear own2 hb2
 go_wp2
 go_ret
 exact⟨_,rfl,HO2.out,HB2.out⟩
def yK (l:List Rl):Bool:=decide (450<l.length) || l.any sO
theorem QP {l:List Rl} (h:yK l=false):l.length≤450∧∀ x ∈ l,x.left.length≤50∧x.cells.length≤50:=by
 unfold yK at h
 rw[Bool.or_eq_false_iff,decide_eq_false_iff_not,List.any_eq_false]at h
 refine⟨by omega,fun x hx=>?_⟩
 have:=h.2 x hx
 unfold sO at this
 rw[Bool.or_eq_true,decide_eq_true_eq,decide_eq_true_eq]at this
 omega
def bH (w:World):Prop:=dP w∧lQ w
theorem bH.below {w w':World} {B:Nat} (h:bH w) (hb:Below B w w') (hB:w.heap.size≤B):bH w':=⟨h.1.below hb (Nat.lt_of_lt_of_le h.1.1 hB),h.2.below hb (Nat.lt_of_lt_of_le h.2.1 hB)⟩
theorem bH.kept {w w':World} (h:bH w) (hb:Below w.heap.size w w'):bH w':=h.below hb (Nat.le_refl _)
end Go.Proofs.YthbigkoihpgcfaaGreatDoor.Ck
namespace Go.Proofs.YthbigkoihpgcfaaGreatDoor.Ti
open Go.RowKit Ba Ru Ck
def Kept (w w':World) (lo hi:Nat):Prop:=w.heap.size≤w'.heap.size∧∀ b,lo≤b→b<hi→w'.heap[b]?=w.heap[b]?
theorem Kept.dB {w w':World} {B lo hi:Nat} (h:Below B w w') (hB:hi≤B):Kept w w' lo hi:=⟨h.size,fun b _ h2=>h.block b (by omega)⟩
abbrev kD (l:List Rl):Prop:=∀ x ∈ l,eN x∧x.left.length≤9000∧x.cells.length≤9000
structure bT where
 Is:World→Value→List Rl→Nat→Nat→Prop
 xJ:∀ {w w':World} {t:Value} {l:List Rl} {lo hi:Nat},Is w t l lo hi→Kept w w' lo hi→Is w' t l lo hi
 ptr:∀ {w:World} {t:Value} {l:List Rl} {lo hi:Nat},Is w t l lo hi→(∃ a,t=.pointer (some a))∧hi≤w.heap.size
 new:∀ (v:Value) (l:List Rl) (off:Nat),l.length≤1000→kD l→lS v→∀ w:World,bH w→dZ off w w.heap.size v l→Calls Tryz.prog 9 #[v] w fun e w' =>
  Below w.heap.size w w'∧(((e9 dM l).2=0∧∃ t,e=.returned (.tuple #[t,.int .i64 0,.int .i64 0])∧Is w' t l w.heap.size w'.heap.size)∨((e9 dM l).2≠0∧e=.returned (.tuple #[.pointer none,.int .i64 (e9 dM l).1,.int .i64 (((e9 dM l).2:Nat):Int)])))
 word:∀ {t:Value} {l:List Rl} {lo hi:Nat} (S:ByteArray),S.size≤100000000→l.length≤1000→Acc dM l→kD l→∀ w:World,bH w→Is w t l lo hi→Calls Tryz.prog 169 #[t,.string S] w fun e w' =>
  e=.returned (.tuple #[.int .i64 (mY (cZ l (aA S))),.bool (okV (cZ l (aA S)))])∧Below w.heap.size w w'
 find:∀ {t:Value} {l:List Rl} {lo hi:Nat} (q:Int) (S:ByteArray),S.size≤9000→oI q→l.length≤1000→Acc dM l→kD l→∀ w:World,bH w→Is w t l lo hi→Calls Tryz.prog 163 #[t,.int .i64 q,.string S] w fun e w' =>
  e=.returned (.tuple #[.int .i64 (mY (cI l q (aA S))),.bool (okV (cI l q (aA S)))])∧Below w.heap.size w w'
 sign:∀ {t:Value} {l:List Rl} {lo hi:Nat} (S:ByteArray),S.size≤9000→l.length≤1000→Acc dM l→kD l→∀ w:World,bH w→Is w t l lo hi→Calls Tryz.prog 216 #[t,.string S] w fun e w' =>
  e=.returned (.string (bytesOf (fN l (aA S))))∧Below w.heap.size w w'
 rules:∀ {t:Value} {l:List Rl} {lo hi:Nat},l.length≤1000→Acc dM l→kD l→∀ w:World,bH w→Is w t l lo hi→Calls Tryz.prog 49 #[t] w fun e w' =>
  ∃ v,e=.returned v∧w'.ownsRow w.heap.size 48 5 v l.length (rows cR l)∧Below w.heap.size w w'
end Go.Proofs.YthbigkoihpgcfaaGreatDoor.Ti
namespace Go.Proofs.YthbigkoihpgcfaaGreatDoor.Ti
open Go.RowKit Go.Maps Ba Ru Ck
structure BO where
 a:Nat
 wo:Nat
 fo:Nat
 s:Nat→Nat
 e:Nat→Nat
def KU (v:BO) (R:Value):Array Value:=#[R,.map (some (v.s 0)),.map (some (v.e 0)),.map (some (v.s 1)),.map (some (v.e 1)),.map (some (v.s 2)),.map (some (v.e 2)),.map (some v.wo),.map (some v.fo)]
def KW (w:World) (S E:Nat) (l:List Rl) (row:Int) (k:Nat):Prop:=∃ n m f e,n≤9000 * k∧m≤k∧eT w S n f∧iJ w E m e∧qW (AN l row k) f e n
theorem KW.of_block {w w':World} {S E k:Nat} {l:List Rl} {row:Int} (h:KW w S E l row k) (hS:w'.heap[S]?=w.heap[S]?) (hE:w'.heap[E]?=w.heap[E]?):KW w' S E l row k:=by
 obtain⟨n,m,f,e,h1,h2,h3,h4,h5⟩:=h
 exact⟨n,m,f,e,h1,h2,h3.of_block hS,h4.of_block hE,h5⟩
structure BO.Ord (v:BO) (lo:Nat):Prop where
 lo:lo≤v.wo
 o1:v.wo<v.fo
 o2:v.fo<v.a
 o3:v.a<v.s 0
 o4:v.s 0<v.e 0
 o5:v.e 0<v.s 1
 o6:v.s 1<v.e 1
 o7:v.e 1<v.s 2
 o8:v.s 2<v.e 2
theorem BO.Ord.qX {v:BO} {lo:Nat} (h:v.Ord lo) {i:Nat} (hi:i<3):v.a<v.s i∧v.s i<v.e i∧v.e i≤v.e 2:=by
 obtain⟨h0,h1,h2,h3,h4,h5,h6,h7,h8⟩:=h
 obtain rfl | rfl | rfl:i=0∨i=1∨i=2:=by omega
 ·omega
 ·omega
 ·omega
theorem BO.Ord.apart {v:BO} {lo:Nat} (h:v.Ord lo) {i j:Nat} (hi:i<3) (hj:j<3) (hij:i≠j):v.s i≠v.s j∧v.s i≠v.e j∧v.e i≠v.s j∧v.e i≠v.e j:=by
 obtain⟨h0,h1,h2,h3,h4,h5,h6,h7,h8⟩:=h
 obtain rfl | rfl | rfl:i=0∨i=1∨i=2:=by omega
 all_goals obtain rfl | rfl | rfl:j=0∨j=1∨j=2:=by omega
 all_goals first | exact absurd rfl hij | omega
structure Holds (w:World) (lo:Nat) (v:BO) (R:Value) (l:List Rl) (k:Nat):Prop where
 ord:v.Ord lo
 top:v.e 2<w.heap.size
 box:w.heap[v.a]?=some (.cells (KU v R) 63)
 own:w.ownsRow (v.e 2+1) 48 5 R k (rows cR (l.take k))
 words:∃ n,n≤k∧aY 9 pS tM w v.wo n (cZ (l.take k))
 found:∃ n,n≤k∧aY 96 lH pT w v.fo n (fun x=>cI (l.take k) x.1 x.2)
 rows:∀ i,i<3→KW w (v.s i) (v.e i) l ((i:Int)+1) k
theorem eR {w w':World} {B t size n:Nat} {R:Value} {xs:List Value} (h:w.ownsRow B t size R n xs) (hb:∀ g,R.ownBlock=some g→w'.heap[g]?=w.heap[g]?):w'.ownsRow B t size R n xs:=by
 refine⟨h.1,?_⟩
 rcases h.2 with h | ⟨g,cap,cur,rfl,h1,h2,h3⟩
 ·exact .inl h
 ·exact .inr ⟨g,cap,cur,rfl,h1,(hb g rfl).trans h2,h3⟩
theorem Holds.kept {w w':World} {lo hi:Nat} {v:BO} {R:Value} {l:List Rl} {k:Nat} (h:Holds w lo v R l k) (hk:Kept w w' lo hi) (h1:v.e 2<hi) (h2:∀ g,R.ownBlock=some g→g<hi):Holds w' lo v R l k where
 ord:=h.ord
 top:=Nat.lt_of_lt_of_le h.top hk.1
 box:=(hk.2 v.a (by have:=h.ord.lo;have:=h.ord.o1;have:=h.ord.o2;omega) (by have:=h.ord.qX (i:=0) (by omega);omega)).trans h.box
 own:=eR h.own fun g hg=>hk.2 g (by have:=h.own.lt g hg;have:=h.ord.lo;have:=h.ord.o1;have:=h.ord.o2;have:=h.ord.qX (i:=0) (by omega);omega) (h2 g hg)
 words:=by
  obtain⟨n,a,b⟩:=h.words
  exact⟨n,a,b.of_block (hk.2 _ h.ord.lo (by have:=h.ord.o1;have:=h.ord.o2;have:=h.ord.qX (i:=0) (by omega);omega))⟩
 found:=by
  obtain⟨n,a,b⟩:=h.found
  exact⟨n,a,b.of_block (hk.2 _ (by have:=h.ord.lo;have:=h.ord.o1;omega) (by have:=h.ord.o2;have:=h.ord.qX (i:=0) (by omega);omega))⟩
 rows:=fun i hi=>by
  have h3:=h.ord.qX hi
  have h4:=h.ord.lo
  have h5:=h.ord.o1
  have h6:=h.ord.o2
  exact(h.rows i hi).of_block (hk.2 _ (by omega) (by omega)) (hk.2 _ (by omega) (by omega))
section
variable {w:World} {lo:Nat} {v:BO} {R:Value} {l:List Rl} {k:Nat}
theorem Holds.cell (h:Holds w lo v R l k) {i:Nat} {u:Value} (hu:(KU v R)[i]?=some u):w.cell? ⟨v.a,i,none⟩=some u:=by
 simp only[World.cell?,h.box]
 simpa using hu
end
def YZ (w:World) (t:Value) (l:List Rl) (lo hi:Nat):Prop :=
 ∃ v R,t=.pointer (some ⟨v.a,0,none⟩)∧Holds w lo v R l l.length∧hi≤w.heap.size∧v.e 2<hi∧∀ g,R.ownBlock=some g→g<hi
theorem YZ.xJ {w w':World} {t:Value} {l:List Rl} {lo hi:Nat} (h:YZ w t l lo hi) (hk:Kept w w' lo hi):YZ w' t l lo hi:=by
 obtain⟨v,R,h1,h2,h3,h4,h5⟩:=h
 exact⟨v,R,h1,h2.kept hk h4 h5,Nat.le_trans h3 hk.1,h4,h5⟩
theorem Y1 {t:Value} {l:List Rl} {lo hi:Nat} (S:ByteArray) (hS:S.size≤100000000) (w:World) (H:YZ w t l lo hi):Calls Tryz.prog 169 #[t,.string S] w fun e w' =>
  e=.returned (.tuple #[.int .i64 (mY (cZ l (aA S))),.bool (okV (cZ l (aA S)))])∧Below w.heap.size w w':=by
 obtain⟨v,R,rfl,HH,-,-,-⟩:=H
 obtain⟨n,-,hm⟩:=HH.words
 rw[List.take_length]at hm
 have hrun:=hm.look KX (k:=aA S) ⟨by rw[aD];unfold maxLen;omega,iT S⟩
 unfold pS at hrun
 rw[aP]at hrun
 have c7:w.cell? ⟨v.a,7,none⟩=some (.map (some v.wo)):=HH.cell (i:=7) rfl
 generalize mY (cZ l (aA S))=z at hrun ⊢
 generalize okV (cZ l (aA S))=b at hrun ⊢
 clear hm HH
 obtain⟨A,hA⟩:∃ A,v.a=A:=⟨_,rfl⟩
 obtain⟨B,hB⟩:∃ B,v.wo=B:=⟨_,rfl⟩
 rw[hA]at c7 ⊢
 rw[hB]at c7 hrun
 clear hA hB
 go_enter Tryz.func169,Tryz.ntmps169
 go_wp2
 go_ret2
 exact⟨rfl,Below.refl _ _⟩
theorem KY {t:Value} {l:List Rl} {lo hi:Nat} (q:Int) (S:ByteArray) (hS:S.size≤9000) (hq:oI q) (w:World) (H:YZ w t l lo hi):Calls Tryz.prog 163 #[t,.int .i64 q,.string S] w fun e w' =>
  e=.returned (.tuple #[.int .i64 (mY (cI l q (aA S))),.bool (okV (cI l q (aA S)))])∧w'=w:=by
 obtain⟨v,R,rfl,HH,-,-,-⟩:=H
 obtain⟨n,-,hm⟩:=HH.found
 rw[List.take_length]at hm
 have hrun:=hm.look DM (k:=(q,aA S)) ⟨hq,by rw[aD];unfold maxLen;omega,iT S⟩
 unfold lH at hrun
 simp only[aP]at hrun
 have c8:w.cell? ⟨v.a,8,none⟩=some (.map (some v.fo)):=HH.cell (i:=8) rfl
 generalize mY (cI l q (aA S))=z at hrun ⊢
 generalize okV (cI l q (aA S))=b at hrun ⊢
 clear hm HH
 obtain⟨A,hA⟩:∃ A,v.a=A:=⟨_,rfl⟩
 obtain⟨B,hB⟩:∃ B,v.fo=B:=⟨_,rfl⟩
 rw[hA]at c8 ⊢
 rw[hB]at c8 hrun
 clear hA hB
 go_enter Tryz.func163,Tryz.ntmps163
 go_wp2
 go_ret2
 exact⟨rfl,rfl⟩
theorem Y3 {t:Value} {l:List Rl} {lo hi:Nat} (S:ByteArray) (hS:S.size≤9000) (hl:l.length≤1000) (w:World) (H:YZ w t l lo hi):Calls Tryz.prog 216 #[t,.string S] w fun e w' =>
  e=.returned (.string (bytesOf (fN l (aA S))))∧w'=w:=by
 have HQ:=hid (KY 8 S hS (by unfold oI;omega) w H)
 obtain⟨v,R,rfl,HH,-,-,-⟩:=H
 have hown:=HH.own
 rw[List.take_length]at hown
 have hR:=Reads.hO (f:=cR) iA rfl hown
 have c0:w.cell? ⟨v.a,0,none⟩=some R:=HH.cell (i:=0) rfl
 clear HH hown
 obtain⟨B,hB⟩:∃ B,v.a=B:=⟨_,rfl⟩
 rw[hB]at c0 HQ ⊢
 clear hB
 unfold fN
 cases ho:cI l 8 (aA S) with
 | none =>
  rw[ho]at HQ
  have HQ2:=hid (show Calls Tryz.prog 163 #[.pointer (some ⟨B,0,none⟩),.int .i64 8,.string S] w fun e w'=>e=.returned (.tuple #[.int .i64 0,.bool false])∧w'=w from HQ.out)
  clear HQ hR
  go_enter Tryz.func216,Tryz.ntmps216
  go_wp2_with fail
  refine HQ2.out.mono ?_
  rintro e w2 ⟨rfl,rfl⟩
  go_wp2
  go_ret
  exact⟨rfl,rfl⟩
 | some k =>
  rw[ho]at HQ
  have HQ2:=hid (show Calls Tryz.prog 163 #[.pointer (some ⟨B,0,none⟩),.int .i64 8,.string S] w fun e w'=>e=.returned (.tuple #[.int .i64 ((k:Nat):Int),.bool true])∧w'=w from HQ.out)
  obtain⟨hkl,-,-⟩:=List.findIdx?_eq_some_iff_getElem.1 ho
  obtain⟨A,c,rfl,hA⟩:=hR
  obtain⟨g,rfl,-,hg⟩:=hA (by omega)
  obtain⟨x,hx⟩:∃ x,l[k]?=some x:=⟨_,List.getElem?_eq_getElem hkl⟩
  obtain⟨-,-,g2,-,-⟩:=wD hg k x hx
  rw[Nat.zero_add]at g2
  simp only[hx,Option.map_some,Option.getD_some]
  generalize bytesOf x.cells=L at g2 ⊢
  clear hg hx HQ ho hA
  have k1:(0:Int)≤(k:Int):=by omega
  have k2:(k:Int)<(l.length:Int):=by omega
  go_enter Tryz.func216,Tryz.ntmps216
  go_wp2_with fail
  refine HQ2.out.mono ?_
  rintro e w2 ⟨rfl,rfl⟩
  go_wp2
  go_ret
  exact⟨rfl,rfl⟩
theorem KZ (W:World) (A:Option Addr) (n c:Nat):(binOp .eql 22 (.slice A n c) (.slice none 0 0)).run Tryz.prog W=.ok (.bool A.isNone) W :=
 Lib.run_eql_slice_nil W _ _ A n c 0 0 Tryz.underlying22
theorem TY (w:World):Calls Tryz.prog 83 #[.slice none 0 0] w fun e w'=>e=.returned (.slice none 0 0)∧w'=w:=by
 have hq:∀ (W:World) (A:Option Addr) (n c:Nat),(binOp .eql 22 (.slice A n c) (.slice none 0 0)).run Tryz.prog W=.ok (.bool A.isNone) W:=fun W A n c=>KZ W A n c
 go_enter Tryz.func83,Tryz.ntmps83
 go_wp2
 go_ret
 exact⟨rfl,rfl⟩
theorem K1 (g n c:Nat) (l:List Rl) (hn:l.length=n) (hn9:n≤9000) (w:World) (hv:dZ 0 w w.heap.size (.slice (some ⟨g,0,none⟩) n c) l):Calls Tryz.prog 83 #[.slice (some ⟨g,0,none⟩) n c] w fun e w' =>
  ∃ u,e=.returned u∧w'.ownsRow w.heap.size 48 5 u n (rows cR l)∧Below w.heap.size w w':=by
 have HV:=hid hv
 clear hv
 have hq:∀ (W:World) (A:Option Addr) (n c:Nat),(binOp .eql 22 (.slice A n c) (.slice none 0 0)).run Tryz.prog W=.ok (.bool A.isNone) W:=fun W A n c=>KZ W A n c
 go_enter Tryz.func83,Tryz.ntmps83
 go_wp2_with (at_builtin;refine qV _ rfl _ _ rfl (.slice (some ⟨w.heap.size,0,none⟩) 0 0) rfl w.heap.size (World.ownsRow_lit w #[] 0 (Nat.le_refl _) (by decide) rfl) (by simp) (some ⟨g,0,none⟩) n c 0 w.heap.size l rfl hn (by omega) (HV.out.below ((Below.refl _ w).alloc (Nat.le_refl _) _)) ?_;intro v4 w4 hown4 hgrow4)
 go_ret
 exact⟨_,rfl,hown4,((Below.refl w.heap.size w).alloc (Nat.le_refl _) _).grown hgrow4 (by simp) (fun k e=>by cases e;exact Nat.le_refl _)⟩
theorem TZ {t:Value} {l:List Rl} {lo hi:Nat} (hl:l.length≤1000) (w:World) (H:YZ w t l lo hi):Calls Tryz.prog 49 #[t] w fun e w' =>
  ∃ u,e=.returned u∧w'.ownsRow w.heap.size 48 5 u l.length (rows cR l)∧Below w.heap.size w w':=by
 obtain⟨v,R,rfl,HH,-,-,-⟩:=H
 have hown:=HH.own
 rw[List.take_length]at hown
 have hR:=Reads.hO (f:=cR) iA rfl hown
 have c0:w.cell? ⟨v.a,0,none⟩=some R:=HH.cell (i:=0) rfl
 clear HH
 obtain⟨B,hB⟩:∃ B,v.a=B:=⟨_,rfl⟩
 rw[hB]at c0 ⊢
 clear hB
 rcases hown.2 with⟨rfl,h0⟩ | ⟨g,cap,cur,rfl,-⟩
 ·obtain rfl:l=[]:=List.length_eq_zero_iff.1 h0
  clear hR hown h0
  go_enter Tryz.func49,Tryz.ntmps49
  go_wp2_with (go_at_call 83;refine(TY _).mono ?_;rintro e w2 ⟨rfl,rfl⟩)
  go_ret
  exact⟨_,rfl,⟨rfl,.inl ⟨rfl,rfl⟩⟩,Below.refl _ _⟩
 ·have HC:=hid (K1 g l.length cap l rfl (by omega) w hR)
  clear hR hown
  go_enter Tryz.func49,Tryz.ntmps49
  go_wp2_with (go_at_call 83;refine HC.out.mono ?_;rintro e w2 ⟨u,rfl,hu,hb2⟩)
  go_ret
  exact⟨_,rfl,hu,hb2⟩
end Go.Proofs.YthbigkoihpgcfaaGreatDoor.Ti
