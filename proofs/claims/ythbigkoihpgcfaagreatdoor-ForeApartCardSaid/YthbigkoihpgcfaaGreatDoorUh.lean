/-
  Put together.
-/
import Derived.Test.YthbigkoihpgcfaaGreatDoorVa
import Derived.Test.YthbigkoihpgcfaaGreatDoorVg
namespace Go.Proofs.YthbigkoihpgcfaaGreatDoor.Ru
open Go.RowKit Ba
def bF (c:Nat):List Nat→List (List Nat)
 | []=>[[]]
 | x::r=>if x=c then []::bF c r else match bF c r with
  | []=>[[x]]
  | a::m=>(x::a)::m
theorem tF (c:Nat) (L:List Nat):∃ a m,bF c L=a::m:=by
 cases L with
 | nil=>exact⟨[],[],rfl⟩
 | cons x r =>
  unfold bF
  split
  ·exact⟨_,_,rfl⟩
  ·split<;>exact⟨_,_,rfl⟩
theorem tG {c x:Nat} (h:x≠c) {r a:List Nat} {m:List (List Nat)} (hr:bF c r=a::m):bF c (x::r)=(x::a)::m:=by
 show (if x=c then _ else _)=_
 rw[if_neg h,hr]
theorem KC {c:Nat}:∀ {a:List Nat},c ∉ a→bF c a=[a]
 | [],_=>rfl
 | x::a,h=>tG (fun e=>h (by rw[e];exact List.mem_cons_self ..)) (KC fun k=>h (List.mem_cons_of_mem _ k))
theorem KD {c:Nat} (b:List Nat):∀ {a:List Nat},c ∉ a→bF c (a++c::b)=a::bF c b
 | [],_=>by show (if c=c then _ else _)=_;rw[if_pos rfl]
 | x::a,h=>tG (fun e=>h (by rw[e];exact List.mem_cons_self ..)) (KD b fun k=>h (List.mem_cons_of_mem _ k))
def KE (c:Nat):List (List Nat)→List Nat
 | []=>[]
 | [a]=>a
 | a::b::m=>a++c::KE c (b::m)
theorem join_cons (c:Nat) (a:List Nat) {m:List (List Nat)} (h:m≠[]):KE c (a::m)=a++c::KE c m:=by
 cases m with
 | nil=>exact absurd rfl h
 | cons b m=>rfl
theorem AG (c:Nat):∀ L:List Nat,KE c (bF c L)=L
 | []=>rfl
 | x::r=>by
  have ih:=AG c r
  obtain⟨a,m,hr⟩:=tF c r
  by_cases h:x=c
  ·subst h
   show KE x (if x=x then _ else _)=_
   rw[if_pos rfl,join_cons _ _ (by rw[hr];simp),ih,List.nil_append]
  ·rw[tG h hr]
   rw[hr]at ih
   cases m with
   | nil=>rw[← ih];rfl
   | cons b m=>rw[← ih];rfl
def j4:List (List Nat):=[[97,110,121],[98,101,103,105,110],[105,110,110,101,114],[101,110,100],[119,111,114,100],[109,97,114,107],[100,105,103,105,116],[115,105,103,110]]
def iI (k:Nat):List Nat:=j4.getD (k - 1) []
def bX:List (List Nat):=[[99,97,112],[99,97,112,115],[110,117,109],[108,101,116],[101,43],[101,45],[115,43],[115,45],[110,43],[110,45],[98,108,107],[99,111,110,116],[105,110,100]]
def cX (w:List Nat):Nat:=if j4.idxOf w<8 then j4.idxOf w+1 else 0
theorem TD:∀ k:Fin 9,1≤k.val→cX (iI k.val)=k.val∧32 ∉ iI k.val∧10 ∉ iI k.val∧(iI k.val).head?≠some 35∧iI k.val≠[]:=by decide +kernel
theorem AH (w:List Nat):cX w≤8:=by unfold cX;split<;>omega
theorem vJ {w:List Nat} (h:cX w≠0):iI (cX w)=w:=by
 unfold cX at h ⊢
 by_cases h8:j4.idxOf w<8
 ·rw[if_pos h8]
  unfold iI
  have h':j4.idxOf w<j4.length:=h8
  rw[Nat.add_sub_cancel,List.getD_eq_getElem?_getD,List.getElem?_eq_getElem h',Option.getD_some]
  exact List.getElem_idxOf h'
 ·rw[if_neg h8]at h;exact absurd rfl h
def aX (k:Nat) (s:List Nat):Bool :=
 if k≤5 then decide (0<s.length∧s.length≤12) && s.all fun b=>Ka.fJ b==1
 else if k=6 then match s with | [b]=>Ka.fJ b==4 | _=>false
 else if k=7 then match s with | [b]=>Ka.fJ b==3 | _=>false
 else bX.contains s
def aB1 (n:Nat):List Nat:=if 9<n then [48+n / 10,48+n % 10] else [48+n % 10]
def BN:List Nat→Option Nat
 | [a]=>if 48≤a∧a≤57 then some (a - 48) else none
 | [a,b]=>if (49≤a∧a≤57)∧48≤b∧b≤57 then some (10 * (a - 48)+(b - 48)) else none
 | _=>none
theorem YJ {l:List Nat} {n:Nat} (h:BN l=some n):aB1 n=l∧n≤99:=by
 unfold BN at h
 split at h
 ·rename_i a
  by_cases k:48≤a∧a≤57
  ·rw[if_pos k]at h
   cases h
   unfold aB1
   rw[if_neg (by omega),show 48+(a - 48) % 10=a by omega]
   exact⟨rfl,by omega⟩
  ·rw[if_neg k]at h;cases h
 ·rename_i a b
  by_cases k:(49≤a∧a≤57)∧48≤b∧b≤57
  ·rw[if_pos k]at h
   cases h
   unfold aB1
   rw[if_pos (by omega),show 48+(10 * (a - 48)+(b - 48)) / 10=a by omega,show 48+(10 * (a - 48)+(b - 48)) % 10=b by omega]
   exact⟨rfl,by omega⟩
  ·rw[if_neg k]at h;cases h
 ·cases h
structure Rl where
 aE:Int
 left:List Nat
 cells:List Nat
 prio:Int
 line:Int
deriving DecidableEq
structure P0 (pr ps:List Nat→Option (List Nat)):Prop where
 there:∀ c t,pr c=some t→ps t=some c
 back:∀ t c,ps t=some c→pr c=some t
 free:∀ c t,pr c=some t→32 ∉ t∧10 ∉ t
def nM (pr:List Nat→Option (List Nat)) (x:Rl):Bool :=
 decide (1≤x.aE∧x.aE≤8) && aX x.aE.toNat x.left && (pr x.cells).isSome && (if x.aE≤5 then decide (0≤x.prio∧x.prio≤99) else decide (x.prio=0))
def P1 (pr:List Nat→Option (List Nat)) (x:Rl):List Nat :=
 iI x.aE.toNat++32::(x.left++32::((pr x.cells).getD []++if x.aE≤5 then 32::aB1 x.prio.toNat else []))
def dI (ps:List Nat→Option (List Nat)) (l:List Nat) (n:Int):Option Rl :=
 match bF 32 l with
 | [w,a,c,d]=>if cX w≠0∧cX w≤5∧aX (cX w) a=true then (match ps c,BN d with | some cc,some p=>some ⟨cX w,a,cc,p,n⟩ | _,_=>none) else none
 | [w,a,c]=>if 5<cX w∧aX (cX w) a=true then (match ps c with | some cc=>some ⟨cX w,a,cc,0,n⟩ | _=>none) else none
 | _=>none
theorem TE {pr ps:List Nat→Option (List Nat)} (K:P0 pr ps) {l:List Nat} {n:Int} {x:Rl} (h:dI ps l n=some x):nM pr x=true∧P1 pr x=l∧x.line=n:=by
 have hj:=AG 32 l
 unfold dI at h
 split at h
 ·rename_i w a c d e
  rw[e]at hj
  split at h
  ·rename_i hw
   obtain⟨h0,h5,hl⟩:=hw
   split at h
   ·rename_i cc p e1 e2
    cases h
    have hb:=K.back _ _ e1
    obtain⟨d1,d2⟩:=YJ e2
    refine⟨?_,?_,rfl⟩
    ·unfold nM
     simp only[Int.toNat_natCast,hl,hb,Option.isSome_some]
     rw[if_pos (by omega),decide_eq_true (by omega),decide_eq_true (by omega)];rfl
    ·unfold P1
     simp only[Int.toNat_natCast,hb,Option.getD_some]
     rw[if_pos (by omega),vJ h0,d1,← hj]
     rfl
   ·cases h
  ·cases h
 ·rename_i w a c e
  rw[e]at hj
  split at h
  ·rename_i hw
   obtain⟨h5,hl⟩:=hw
   split at h
   ·rename_i cc e1
    cases h
    have hb:=K.back _ _ e1
    have h8:=AH w
    refine⟨?_,?_,rfl⟩
    ·unfold nM
     simp only[Int.toNat_natCast,hl,hb,Option.isSome_some]
     rw[if_neg (by omega),decide_eq_true (by omega)];rfl
    ·unfold P1
     simp only[Int.toNat_natCast,hb,Option.getD_some]
     rw[if_neg (by omega),vJ (by omega),List.append_nil,← hj]
     rfl
   ·cases h
  ·cases h
 ·cases h
end Go.Proofs.YthbigkoihpgcfaaGreatDoor.Ru
namespace Go.Proofs.YthbigkoihpgcfaaGreatDoor.Ru
open Go.RowKit Ba
def F5 (ps:List Nat→Option (List Nat)):List (List Nat)→Nat→List Rl→List Rl × Nat × Nat
 | [],_,acc=>(acc,0,0)
 | t::m,n,acc=>if t=[]∨t.head?=some 35 then F5 ps m (n+1) acc else
  match dI ps t n with
  | none=>([],n,6)
  | some x=>if acc.length=400 then ([],n,4) else F5 ps m (n+1) (acc++[x])
def N6 (ps:List Nat→Option (List Nat)) (L:List Nat):List Rl × Nat × Nat:=if 65536<L.length then ([],0,4) else F5 ps (bF 10 L) 1 []
section
variable {pr ps:List Nat→Option (List Nat)}
theorem tH {t:List Nat} (h:t=[]∨t.head?=some 35) (m:List (List Nat)) (n:Nat) (acc:List Rl):F5 ps (t::m) n acc=F5 ps m (n+1) acc:=by
 show (if t=[]∨t.head?=some 35 then _ else _)=_
 rw[if_pos h]
theorem N7 {t:List Nat} (h:¬ (t=[]∨t.head?=some 35)) {n:Nat} (k:dI ps t n=none) (m:List (List Nat)) (acc:List Rl):F5 ps (t::m) n acc=([],n,6):=by
 show (if t=[]∨t.head?=some 35 then _ else _)=_
 rw[if_neg h,k]
theorem tI {t:List Nat} (h:¬ (t=[]∨t.head?=some 35)) {n:Nat} {x:Rl} (k:dI ps t n=some x) (m:List (List Nat)) (acc:List Rl):F5 ps (t::m) n acc=if acc.length=400 then ([],n,4) else F5 ps m (n+1) (acc++[x]):=by
 show (if t=[]∨t.head?=some 35 then _ else _)=_
 rw[if_neg h,k]
theorem vK (c:Nat):∀ L:List Nat,((bF c L).map fun t=>t.length+1).sum=L.length+1
 | []=>rfl
 | x::r=>by
  have ih:=vK c r
  obtain⟨a,m,hr⟩:=tF c r
  by_cases h:x=c
  ·show ((if x=c then []::bF c r else _).map fun t=>t.length+1).sum=_
   rw[if_pos h,List.map_cons,List.sum_cons,ih,List.length_cons]
   simp only[List.length_nil];omega
  ·rw[tG h hr]
   rw[hr,List.map_cons,List.sum_cons]at ih
   rw[List.map_cons,List.sum_cons,List.length_cons,List.length_cons]
   omega
def up (x:Rl):Rl:={ x with line:=x.line+1 }
end
end Go.Proofs.YthbigkoihpgcfaaGreatDoor.Ru
namespace Go.Proofs.YthbigkoihpgcfaaGreatDoor.Ck
open Go.RowKit Ba Ru
def iL (x:Rl) (row:Int):Bool :=
 decide (1≤row∧row≤3) && (decide (x.aE=6∨x.aE=8) || (if row=1 then decide (x.aE=1∨x.aE=2) else if row=2 then decide (x.aE=1∨x.aE=3∨x.aE=4) else decide (x.aE=7)))
def jF (x:Rl):Bool:=decide (x.aE=8∧(x.left=[98,108,107]∨x.left=[99,111,110,116]∨x.left=[105,110,100]))
def eF (pr:List Nat→Option (List Nat)) (x:Rl):Bool :=
 !((jF x || decide (x.aE=7∨x.aE=1∧x.left.length=1)) && decide (x.cells.length≠1)) && !(decide (x.aE=8∧(x.left=[110,117,109]∨x.left=[108,101,116])∧2<x.cells.length)) && nM pr x
def fF (a b:List Nat):Bool:=(List.range (b.length+1)).any fun i=>a.isPrefixOf (b.drop i)
def kR (x y:Rl):Bool:=(iL x 1 && iL y 1) || (iL x 2 && iL y 2) || (iL x 3 && iL y 3)
def oX (a b:List Nat):Bool:=a.isPrefixOf b || b.isPrefixOf a
def bQ (x y:Rl):Bool :=
 decide (x.aE=y.aE∧x.left=y.left) || decide (x.aE=5∧y.aE=5∧x.cells=y.cells) || (kR x y && oX x.cells y.cells)
  || (jF x && fF x.cells y.cells) || (jF y && fF y.cells x.cells)
  || (decide (x.aE=8∧y.aE=5) && x.cells.isPrefixOf y.cells) || (decide (y.aE=8∧x.aE=5) && y.cells.isPrefixOf x.cells)
theorem nN (x y:Rl):bQ x y=bQ y x:=by
 have h1:decide (x.aE=y.aE∧x.left=y.left)=decide (y.aE=x.aE∧y.left=x.left):=decide_eq_decide.2 ⟨fun h=>⟨h.1.symm,h.2.symm⟩,fun h=>⟨h.1.symm,h.2.symm⟩⟩
 have h2:decide (x.aE=5∧y.aE=5∧x.cells=y.cells)=decide (y.aE=5∧x.aE=5∧y.cells=x.cells):=decide_eq_decide.2 ⟨fun h=>⟨h.2.1,h.1,h.2.2.symm⟩,fun h=>⟨h.2.1,h.1,h.2.2.symm⟩⟩
 have h3:kR x y=kR y x:=by unfold kR;rw[Bool.and_comm (iL x 1),Bool.and_comm (iL x 2),Bool.and_comm (iL x 3)]
 have h4:oX x.cells y.cells=oX y.cells x.cells:=Bool.or_comm ..
 unfold bQ
 rw[h1,h2,h3,h4]
 generalize decide (y.aE=x.aE∧y.left=x.left)=a
 generalize decide (y.aE=5∧x.aE=5∧y.cells=x.cells)=b
 generalize (kR y x && oX y.cells x.cells)=c
 generalize (jF x && fF x.cells y.cells)=d
 generalize (jF y && fF y.cells x.cells)=e
 generalize (decide (x.aE=8∧y.aE=5) && x.cells.isPrefixOf y.cells)=f
 generalize (decide (y.aE=8∧x.aE=5) && y.cells.isPrefixOf x.cells)=g
 revert a b c d e f g
 decide
def hasB (l:List Rl) (w:Int × List Nat):Bool:=l.any fun x=>decide (x.aE=w.1∧x.left=w.2)
def fM:List (Int × List Nat):=(List.range 26).map (fun i=>(1,[97+i]))++(Ka.fZ.map (fun c=>(6,[c]))++((List.range 10).map (fun i=>(7,[48+i]))++bX.map fun s=>(8,s)))
def lP (l:List Rl):List Nat:=match fM.find? fun w=>!hasB l w with | some w=>w.2 | none=>[]
def l8 (pr:List Nat→Option (List Nat)):List Rl→List Rl→Option Rl
 | _,[]=>none
 | acc,x::l=>if (!eF pr x || acc.any (bQ x))=true then some x else l8 pr (acc++[x]) l
def e9 (pr:List Nat→Option (List Nat)) (l:List Rl):Int × Nat:=match l8 pr [] l with
 | some x=>(x.line,6)
 | none=>if 400<l.length then (0,4) else if lP l≠[] then (0,6) else (0,0)
def j5 (l:List Rl):Prop:=l.Pairwise fun x y=>bQ x y=false
section
variable {pr:List Nat→Option (List Nat)}
theorem GI:∀ (l acc:List Rl),l8 pr acc l=none↔(∀ x ∈ l,eF pr x=true)∧j5 l∧∀ x ∈ l,∀ y ∈ acc,bQ x y=false
 | [],acc=>⟨fun _=>⟨fun x h=>(by cases h),.nil,fun x h=>(by cases h)⟩,fun _=>rfl⟩
 | x::l,acc=>by
  have ih:=GI l (acc++[x])
  show (if _ then some x else l8 pr (acc++[x]) l)=none↔_
  by_cases h:(!eF pr x || acc.any (bQ x))=true
  ·rw[if_pos h]
   refine⟨fun e=>(by cases e),fun⟨h1,_,h3⟩=>?_⟩
   rw[h1 x (List.mem_cons_self ..),Bool.not_true,Bool.false_or,List.any_eq_true]at h
   obtain⟨y,hy,hc⟩:=h
   rw[h3 x (List.mem_cons_self ..) y hy]at hc
   cases hc
  ·rw[if_neg h,ih]
   have h:(!eF pr x || acc.any (bQ x))=false:=by simpa using h
   rw[Bool.or_eq_false_iff]at h
   obtain⟨ha,hc⟩:=h
   have ha:eF pr x=true:=by simpa using ha
   have hc:∀ y ∈ acc,bQ x y=false:=fun y hy=>by
    rw[List.any_eq_false]at hc
    simpa using hc y hy
   constructor
   ·rintro⟨h1,h2,h3⟩
    refine⟨fun y hy=>?_,List.pairwise_cons.2 ⟨fun y hy=>?_,h2⟩,fun y hy z hz=>?_⟩
    ·rcases List.mem_cons.1 hy with rfl | hy
     ·exact ha
     ·exact h1 y hy
    ·rw[nN];exact h3 y hy x (List.mem_append_right _ (List.mem_cons_self ..))
    ·rcases List.mem_cons.1 hy with rfl | hy
     ·exact hc z hz
     ·exact h3 y hy z (List.mem_append_left _ hz)
   ·rintro⟨h1,h2,h3⟩
    obtain⟨p1,p2⟩:=List.pairwise_cons.1 h2
    refine⟨fun y hy=>h1 y (List.mem_cons_of_mem _ hy),p2,fun y hy z hz=>?_⟩
    rcases List.mem_append.1 hz with hz | hz
    ·exact h3 y (List.mem_cons_of_mem _ hy) z hz
    ·rw[List.mem_singleton.1 hz,nN];exact p1 y hy
structure Acc (pr:List Nat→Option (List Nat)) (l:List Rl):Prop where
 alone:∀ x ∈ l,eF pr x=true
 apart:j5 l
 LS:l.length≤400
 all:lP l=[]
theorem pY (l:List Rl):(e9 pr l).2=0↔Acc pr l:=by
 have hb:=GI (pr:=pr) l []
 unfold e9
 cases h:l8 pr [] l with
 | some x =>
  refine⟨fun e=>(by cases e),fun A=>?_⟩
  rw[hb.2 ⟨A.alone,A.apart,fun x _ y hy=>(by cases hy)⟩]at h
  cases h
 | none =>
  obtain⟨h1,h2,-⟩:=hb.1 h
  show (if 400<l.length then ((0:Int),4) else if lP l≠[] then (0,6) else (0,0)).2=0↔_
  by_cases h4:400<l.length
  ·rw[if_pos h4];exact⟨fun e=>(by cases e),fun A=>by have:=A.LS;omega⟩
  rw[if_neg h4]
  by_cases hm:lP l≠[]
  ·rw[if_pos hm];exact⟨fun e=>(by cases e),fun A=>absurd A.all hm⟩
  ·rw[if_neg hm];exact⟨fun _=>⟨h1,h2,by omega,Classical.byContradiction hm⟩,fun _=>rfl⟩
theorem oY {l:List Rl} (h:j5 l):∀ x ∈ l,∀ y ∈ l,x≠y→bQ x y=false:=by
 induction l with
 | nil=>intro x hx;cases hx
 | cons z l ih =>
  obtain⟨p1,p2⟩:=List.pairwise_cons.1 h
  intro x hx y hy hn
  rcases List.mem_cons.1 hx with ex | hx2
  ·rcases List.mem_cons.1 hy with ey | hy2
   ·exact absurd (ex.trans ey.symm) hn
   ·rw[ex];exact p1 y hy2
  ·rcases List.mem_cons.1 hy with ey | hy2
   ·rw[ey,nN];exact p1 x hx2
   ·exact ih p2 x hx2 y hy2 hn
theorem QK {x:Rl} {row:Int} (h:iL x row=true):row=1∨row=2∨row=3:=by
 unfold iL at h
 rw[Bool.and_eq_true,decide_eq_true_eq]at h
 omega
theorem xN {x y:Rl} {row:Int} (hx:iL x row=true) (hy:iL y row=true):kR x y=true:=by
 unfold kR
 rcases QK hx with rfl | rfl | rfl<;>rw[hx,hy]<;>simp
theorem BV {K:List Nat→Option (List Nat)} (hK:K []=none) {x:Rl} (h:eF K x=true):x.cells≠[]:=by
 unfold eF nM at h
 simp only[Bool.and_eq_true]at h
 intro e
 have:=h.2.1.2
 rw[e,hK]at this
 cases this
theorem D7 {l:List Rl} (A:j5 l) {row:Int} {x y:Rl} (hx:x ∈ l) (hy:y ∈ l) (rx:iL x row=true) (ry:iL y row=true) (h:oX x.cells y.cells=true):x=y :=
 Classical.byContradiction fun hn=>by
  have:=oY A x hx y hy hn
  unfold bQ at this
  rw[xN rx ry,h]at this
  simp at this
def bV (l:List Rl):List Nat:=l.flatMap (·.cells)
theorem xO {a b c d:List Nat} (h:a++b <+: c++d):oX a c=true:=by
 unfold oX
 rw[Bool.or_eq_true,List.isPrefixOf_iff_prefix,List.isPrefixOf_iff_prefix]
 exact List.prefix_or_prefix_of_prefix ((List.prefix_append a b).trans h) (List.prefix_append c d)
theorem aAF:∀ w ∈ fM,w.2≠[]:=by decide +kernel
theorem U1 (l:List Rl):lP l=[]↔∀ w ∈ fM,hasB l w=true:=by
 unfold lP
 cases h:fM.find? fun w=>!hasB l w with
 | none =>
  rw[List.find?_eq_none]at h
  exact⟨fun _ w hw=>by simpa using h w hw,fun _=>rfl⟩
 | some w =>
  have hm:=List.mem_of_find?_eq_some h
  have hp:=List.find?_some h
  have hp:hasB l w=false:=by simpa using hp
  exact⟨fun e=>absurd e (aAF w hm),fun k=>by rw[k w hm]at hp;cases hp⟩
end
end Go.Proofs.YthbigkoihpgcfaaGreatDoor.Ck
namespace Go.Proofs.YthbigkoihpgcfaaGreatDoor.Ru
open Go.RowKit Ba
def YQ (c:Nat):List Nat→List Nat × List Nat
 | []=>([],[])
 | x::r=>if x=c then ([],r) else (x::(YQ c r).1,(YQ c r).2)
theorem EJ {c:Nat} (b:List Nat):∀ {a:List Nat},c ∉ a→YQ c (a++c::b)=(a,b)
 | [],_=>by show (if c=c then _ else _)=_;rw[if_pos rfl]
 | x::a,h=>by
  have hx:x≠c:=fun e=>h (by rw[e];exact List.mem_cons_self ..)
  show (if x=c then _ else (x::(YQ c (a++c::b)).1,(YQ c (a++c::b)).2))=_
  rw[if_neg hx,EJ b fun k=>h (List.mem_cons_of_mem _ k)]
section
variable {pr ps:List Nat→Option (List Nat)} {pz:List Nat→Int}
end
end Go.Proofs.YthbigkoihpgcfaaGreatDoor.Ru
