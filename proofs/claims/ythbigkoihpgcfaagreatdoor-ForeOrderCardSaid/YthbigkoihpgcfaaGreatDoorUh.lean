/-
  Put together.
-/
import Derived.Test.YthbigkoihpgcfaaGreatDoorVa
import Derived.Test.YthbigkoihpgcfaaGreatDoorVg
namespace Go.Proofs.YthbigkoihpgcfaaGreatDoor.Ru
open Go.RowKit Ba
def bF (c:Nat):List Nat→List (List Nat)
 | []=>[[]]
 | x::r=>if x=c then []::bF c r else match bF c r with
  | []=>[[x]]
  | a::m=>(x::a)::m
theorem tF (c:Nat) (L:List Nat):∃ a m,bF c L=a::m:=by
 cases L with
 | nil=>exact⟨[],[],rfl⟩
 | cons x r =>
  unfold bF
  split
  ·exact⟨_,_,rfl⟩
  ·split<;>exact⟨_,_,rfl⟩
theorem tG {c x:Nat} (h:x≠c) {r a:List Nat} {m:List (List Nat)} (hr:bF c r=a::m):bF c (x::r)=(x::a)::m:=by
 show (if x=c then _ else _)=_
 rw[if_neg h,hr]
theorem KC {c:Nat}:∀ {a:List Nat},c ∉ a→bF c a=[a]
 | [],_=>rfl
 | x::a,h=>tG (fun e=>h (by rw[e];exact List.mem_cons_self ..)) (KC fun k=>h (List.mem_cons_of_mem _ k))
theorem KD {c:Nat} (b:List Nat):∀ {a:List Nat},c ∉ a→bF c (a++c::b)=a::bF c b
 | [],_=>by show (if c=c then _ else _)=_;rw[if_pos rfl]
 | x::a,h=>tG (fun e=>h (by rw[e];exact List.mem_cons_self ..)) (KD b fun k=>h (List.mem_cons_of_mem _ k))
def KE (c:Nat):List (List Nat)→List Nat
 | []=>[]
 | [a]=>a
 | a::b::m=>a++c::KE c (b::m)
theorem join_cons (c:Nat) (a:List Nat) {m:List (List Nat)} (h:m≠[]):KE c (a::m)=a++c::KE c m:=by
 cases m with
 | nil=>exact absurd rfl h
 | cons b m=>rfl
theorem AG (c:Nat):∀ L:List Nat,KE c (bF c L)=L
 | []=>rfl
 | x::r=>by
  have ih:=AG c r
  obtain⟨a,m,hr⟩:=tF c r
  by_cases h:x=c
  ·subst h
   show KE x (if x=x then _ else _)=_
   rw[if_pos rfl,join_cons _ _ (by rw[hr];simp),ih,List.nil_append]
  ·rw[tG h hr]
   rw[hr]at ih
   cases m with
   | nil=>rw[← ih];rfl
   | cons b m=>rw[← ih];rfl
def aEW:List (List Nat):=[[97,110,121],[98,101,103,105,110],[105,110,110,101,114],[101,110,100],[119,111,114,100],[109,97,114,107],[100,105,103,105,116],[115,105,103,110]]
def iI (k:Nat):List Nat:=aEW.getD (k - 1) []
def bX:List (List Nat):=[[99,97,112],[99,97,112,115],[110,117,109],[108,101,116],[101,43],[101,45],[115,43],[115,45],[110,43],[110,45],[98,108,107],[99,111,110,116],[105,110,100]]
def cX (w:List Nat):Nat:=if aEW.idxOf w<8 then aEW.idxOf w+1 else 0
theorem TD:∀ k:Fin 9,1≤k.val→cX (iI k.val)=k.val∧32 ∉ iI k.val∧10 ∉ iI k.val∧(iI k.val).head?≠some 35∧iI k.val≠[]:=by decide +kernel
theorem AH (w:List Nat):cX w≤8:=by unfold cX;split<;>omega
theorem vJ {w:List Nat} (h:cX w≠0):iI (cX w)=w:=by
 unfold cX at h ⊢
 by_cases h8:aEW.idxOf w<8
 ·rw[if_pos h8]
  unfold iI
  have h':aEW.idxOf w<aEW.length:=h8
  rw[Nat.add_sub_cancel,List.getD_eq_getElem?_getD,List.getElem?_eq_getElem h',Option.getD_some]
  exact List.getElem_idxOf h'
 ·rw[if_neg h8]at h;exact absurd rfl h
def aX (k:Nat) (s:List Nat):Bool :=
 if k≤5 then decide (0<s.length∧s.length≤12) && s.all fun b=>Ka.fJ b==1
 else if k=6 then match s with | [b]=>Ka.fJ b==4 | _=>false
 else if k=7 then match s with | [b]=>Ka.fJ b==3 | _=>false
 else bX.contains s
def aB1 (n:Nat):List Nat:=if 9<n then [48+n / 10,48+n % 10] else [48+n % 10]
def BN:List Nat→Option Nat
 | [a]=>if 48≤a∧a≤57 then some (a - 48) else none
 | [a,b]=>if (49≤a∧a≤57)∧48≤b∧b≤57 then some (10 * (a - 48)+(b - 48)) else none
 | _=>none
theorem YJ {l:List Nat} {n:Nat} (h:BN l=some n):aB1 n=l∧n≤99:=by
 unfold BN at h
 split at h
 ·rename_i a
  by_cases k:48≤a∧a≤57
  ·rw[if_pos k]at h
   cases h
   unfold aB1
   rw[if_neg (by omega),show 48+(a - 48) % 10=a by omega]
   exact⟨rfl,by omega⟩
  ·rw[if_neg k]at h;cases h
 ·rename_i a b
  by_cases k:(49≤a∧a≤57)∧48≤b∧b≤57
  ·rw[if_pos k]at h
   cases h
   unfold aB1
   rw[if_pos (by omega),show 48+(10 * (a - 48)+(b - 48)) / 10=a by omega,show 48+(10 * (a - 48)+(b - 48)) % 10=b by omega]
   exact⟨rfl,by omega⟩
  ·rw[if_neg k]at h;cases h
 ·cases h
structure Rl where
 aE:Int
 left:List Nat
 cells:List Nat
 prio:Int
 line:Int
deriving DecidableEq
structure P0 (pr ps:List Nat→Option (List Nat)):Prop where
 there:∀ c t,pr c=some t→ps t=some c
 back:∀ t c,ps t=some c→pr c=some t
 free:∀ c t,pr c=some t→32 ∉ t∧10 ∉ t
def nM (pr:List Nat→Option (List Nat)) (x:Rl):Bool :=
 decide (1≤x.aE∧x.aE≤8) && aX x.aE.toNat x.left && (pr x.cells).isSome && (if x.aE≤5 then decide (0≤x.prio∧x.prio≤99) else decide (x.prio=0))
def P1 (pr:List Nat→Option (List Nat)) (x:Rl):List Nat :=
 iI x.aE.toNat++32::(x.left++32::((pr x.cells).getD []++if x.aE≤5 then 32::aB1 x.prio.toNat else []))
def dI (ps:List Nat→Option (List Nat)) (l:List Nat) (n:Int):Option Rl :=
 match bF 32 l with
 | [w,a,c,d]=>if cX w≠0∧cX w≤5∧aX (cX w) a=true then (match ps c,BN d with | some cc,some p=>some ⟨cX w,a,cc,p,n⟩ | _,_=>none) else none
 | [w,a,c]=>if 5<cX w∧aX (cX w) a=true then (match ps c with | some cc=>some ⟨cX w,a,cc,0,n⟩ | _=>none) else none
 | _=>none
theorem TE {pr ps:List Nat→Option (List Nat)} (K:P0 pr ps) {l:List Nat} {n:Int} {x:Rl} (h:dI ps l n=some x):nM pr x=true∧P1 pr x=l∧x.line=n:=by
 have hj:=AG 32 l
 unfold dI at h
 split at h
 ·rename_i w a c d e
  rw[e]at hj
  split at h
  ·rename_i hw
   obtain⟨h0,h5,hl⟩:=hw
   split at h
   ·rename_i cc p e1 e2
    cases h
    have hb:=K.back _ _ e1
    obtain⟨d1,d2⟩:=YJ e2
    refine⟨?_,?_,rfl⟩
    ·unfold nM
     simp only[Int.toNat_natCast,hl,hb,Option.isSome_some]
     rw[if_pos (by omega),decide_eq_true (by omega),decide_eq_true (by omega)];rfl
    ·unfold P1
     simp only[Int.toNat_natCast,hb,Option.getD_some]
     rw[if_pos (by omega),vJ h0,d1,← hj]
     rfl
   ·cases h
  ·cases h
 ·rename_i w a c e
  rw[e]at hj
  split at h
  ·rename_i hw
   obtain⟨h5,hl⟩:=hw
   split at h
   ·rename_i cc e1
    cases h
    have hb:=K.back _ _ e1
    have h8:=AH w
    refine⟨?_,?_,rfl⟩
    ·unfold nM
     simp only[Int.toNat_natCast,hl,hb,Option.isSome_some]
     rw[if_neg (by omega),decide_eq_true (by omega)];rfl
    ·unfold P1
     simp only[Int.toNat_natCast,hb,Option.getD_some]
     rw[if_neg (by omega),vJ (by omega),List.append_nil,← hj]
     rfl
   ·cases h
  ·cases h
 ·cases h
def F5 (ps:List Nat→Option (List Nat)):List (List Nat)→Nat→List Rl→List Rl × Nat × Nat
 | [],_,acc=>(acc,0,0)
 | t::m,n,acc=>if t=[]∨t.head?=some 35 then F5 ps m (n+1) acc else
  match dI ps t n with
  | none=>([],n,6)
  | some x=>if acc.length=400 then ([],n,4) else F5 ps m (n+1) (acc++[x])
def N6 (ps:List Nat→Option (List Nat)) (L:List Nat):List Rl × Nat × Nat:=if 65536<L.length then ([],0,4) else F5 ps (bF 10 L) 1 []
section
variable {pr ps:List Nat→Option (List Nat)}
theorem tH {t:List Nat} (h:t=[]∨t.head?=some 35) (m:List (List Nat)) (n:Nat) (acc:List Rl):F5 ps (t::m) n acc=F5 ps m (n+1) acc:=by
 show (if t=[]∨t.head?=some 35 then _ else _)=_
 rw[if_pos h]
theorem N7 {t:List Nat} (h:¬ (t=[]∨t.head?=some 35)) {n:Nat} (k:dI ps t n=none) (m:List (List Nat)) (acc:List Rl):F5 ps (t::m) n acc=([],n,6):=by
 show (if t=[]∨t.head?=some 35 then _ else _)=_
 rw[if_neg h,k]
theorem tI {t:List Nat} (h:¬ (t=[]∨t.head?=some 35)) {n:Nat} {x:Rl} (k:dI ps t n=some x) (m:List (List Nat)) (acc:List Rl):F5 ps (t::m) n acc=if acc.length=400 then ([],n,4) else F5 ps m (n+1) (acc++[x]):=by
 show (if t=[]∨t.head?=some 35 then _ else _)=_
 rw[if_neg h,k]
theorem vK (c:Nat):∀ L:List Nat,((bF c L).map fun t=>t.length+1).sum=L.length+1
 | []=>rfl
 | x::r=>by
  have ih:=vK c r
  obtain⟨a,m,hr⟩:=tF c r
  by_cases h:x=c
  ·show ((if x=c then []::bF c r else _).map fun t=>t.length+1).sum=_
   rw[if_pos h,List.map_cons,List.sum_cons,ih,List.length_cons]
   simp only[List.length_nil];omega
  ·rw[tG h hr]
   rw[hr,List.map_cons,List.sum_cons]at ih
   rw[List.map_cons,List.sum_cons,List.length_cons,List.length_cons]
   omega
def up (x:Rl):Rl:={ x with line:=x.line+1 }
end
end Go.Proofs.YthbigkoihpgcfaaGreatDoor.Ru
namespace Go.Proofs.YthbigkoihpgcfaaGreatDoor.Ck
open Go.RowKit Ba Ru
def iL (x:Rl) (row:Int):Bool :=
 decide (1≤row∧row≤3) && (decide (x.aE=6∨x.aE=8) || (if row=1 then decide (x.aE=1∨x.aE=2) else if row=2 then decide (x.aE=1∨x.aE=3∨x.aE=4) else decide (x.aE=7)))
def jF (x:Rl):Bool:=decide (x.aE=8∧(x.left=[98,108,107]∨x.left=[99,111,110,116]∨x.left=[105,110,100]))
def eF (pr:List Nat→Option (List Nat)) (x:Rl):Bool :=
 !((jF x || decide (x.aE=7∨x.aE=1∧x.left.length=1)) && decide (x.cells.length≠1)) && !(decide (x.aE=8∧(x.left=[110,117,109]∨x.left=[108,101,116])∧2<x.cells.length)) && nM pr x
def fF (a b:List Nat):Bool:=(List.range (b.length+1)).any fun i=>a.isPrefixOf (b.drop i)
def kR (x y:Rl):Bool:=(iL x 1 && iL y 1) || (iL x 2 && iL y 2) || (iL x 3 && iL y 3)
def oX (a b:List Nat):Bool:=a.isPrefixOf b || b.isPrefixOf a
def bQ (x y:Rl):Bool :=
 decide (x.aE=y.aE∧x.left=y.left) || decide (x.aE=5∧y.aE=5∧x.cells=y.cells) || (kR x y && oX x.cells y.cells)
  || (jF x && fF x.cells y.cells) || (jF y && fF y.cells x.cells)
  || (decide (x.aE=8∧y.aE=5) && x.cells.isPrefixOf y.cells) || (decide (y.aE=8∧x.aE=5) && y.cells.isPrefixOf x.cells)
theorem nN (x y:Rl):bQ x y=bQ y x:=by
 have h1:decide (x.aE=y.aE∧x.left=y.left)=decide (y.aE=x.aE∧y.left=x.left):=decide_eq_decide.2 ⟨fun h=>⟨h.1.symm,h.2.symm⟩,fun h=>⟨h.1.symm,h.2.symm⟩⟩
 have h2:decide (x.aE=5∧y.aE=5∧x.cells=y.cells)=decide (y.aE=5∧x.aE=5∧y.cells=x.cells):=decide_eq_decide.2 ⟨fun h=>⟨h.2.1,h.1,h.2.2.symm⟩,fun h=>⟨h.2.1,h.1,h.2.2.symm⟩⟩
 have h3:kR x y=kR y x:=by unfold kR;rw[Bool.and_comm (iL x 1),Bool.and_comm (iL x 2),Bool.and_comm (iL x 3)]
 have h4:oX x.cells y.cells=oX y.cells x.cells:=Bool.or_comm ..
 unfold bQ
 rw[h1,h2,h3,h4]
 generalize decide (y.aE=x.aE∧y.left=x.left)=a
 generalize decide (y.aE=5∧x.aE=5∧y.cells=x.cells)=b
 generalize (kR y x && oX y.cells x.cells)=c
 generalize (jF x && fF x.cells y.cells)=d
 generalize (jF y && fF y.cells x.cells)=e
 generalize (decide (x.aE=8∧y.aE=5) && x.cells.isPrefixOf y.cells)=f
 generalize (decide (y.aE=8∧x.aE=5) && y.cells.isPrefixOf x.cells)=g
 revert a b c d e f g
 decide
def hasB (l:List Rl) (w:Int × List Nat):Bool:=l.any fun x=>decide (x.aE=w.1∧x.left=w.2)
def fM:List (Int × List Nat):=(List.range 26).map (fun i=>(1,[97+i]))++(Ka.fZ.map (fun c=>(6,[c]))++((List.range 10).map (fun i=>(7,[48+i]))++bX.map fun s=>(8,s)))
def lP (l:List Rl):List Nat:=match fM.find? fun w=>!hasB l w with | some w=>w.2 | none=>[]
def l8 (pr:List Nat→Option (List Nat)):List Rl→List Rl→Option Rl
 | _,[]=>none
 | acc,x::l=>if (!eF pr x || acc.any (bQ x))=true then some x else l8 pr (acc++[x]) l
def e9 (pr:List Nat→Option (List Nat)) (l:List Rl):Int × Nat:=match l8 pr [] l with
 | some x=>(x.line,6)
 | none=>if 400<l.length then (0,4) else if lP l≠[] then (0,6) else (0,0)
def j5 (l:List Rl):Prop:=l.Pairwise fun x y=>bQ x y=false
section
variable {pr:List Nat→Option (List Nat)}
theorem GI:∀ (l acc:List Rl),l8 pr acc l=none↔(∀ x ∈ l,eF pr x=true)∧j5 l∧∀ x ∈ l,∀ y ∈ acc,bQ x y=false
 | [],acc=>⟨fun _=>⟨fun x h=>(by cases h),.nil,fun x h=>(by cases h)⟩,fun _=>rfl⟩
 | x::l,acc=>by
  have ih:=GI l (acc++[x])
  show (if _ then some x else l8 pr (acc++[x]) l)=none↔_
  by_cases h:(!eF pr x || acc.any (bQ x))=true
  ·rw[if_pos h]
   refine⟨fun e=>(by cases e),fun⟨h1,_,h3⟩=>?_⟩
   rw[h1 x (List.mem_cons_self ..),Bool.not_true,Bool.false_or,List.any_eq_true]at h
   obtain⟨y,hy,hc⟩:=h
   rw[h3 x (List.mem_cons_self ..) y hy]at hc
   cases hc
  ·rw[if_neg h,ih]
   have h:(!eF pr x || acc.any (bQ x))=false:=by simpa using h
   rw[Bool.or_eq_false_iff]at h
   obtain⟨ha,hc⟩:=h
   have ha:eF pr x=true:=by simpa using ha
   have hc:∀ y ∈ acc,bQ x y=false:=fun y hy=>by
    rw[List.any_eq_false]at hc
    simpa using hc y hy
   constructor
   ·rintro⟨h1,h2,h3⟩
    refine⟨fun y hy=>?_,List.pairwise_cons.2 ⟨fun y hy=>?_,h2⟩,fun y hy z hz=>?_⟩
    ·rcases List.mem_cons.1 hy with rfl | hy
     ·exact ha
     ·exact h1 y hy
    ·rw[nN];exact h3 y hy x (List.mem_append_right _ (List.mem_cons_self ..))
    ·rcases List.mem_cons.1 hy with rfl | hy
     ·exact hc z hz
     ·exact h3 y hy z (List.mem_append_left _ hz)
   ·rintro⟨h1,h2,h3⟩
    obtain⟨p1,p2⟩:=List.pairwise_cons.1 h2
    refine⟨fun y hy=>h1 y (List.mem_cons_of_mem _ hy),p2,fun y hy z hz=>?_⟩
    rcases List.mem_append.1 hz with hz | hz
    ·exact h3 y (List.mem_cons_of_mem _ hy) z hz
    ·rw[List.mem_singleton.1 hz,nN];exact p1 y hy
structure Acc (pr:List Nat→Option (List Nat)) (l:List Rl):Prop where
 alone:∀ x ∈ l,eF pr x=true
 apart:j5 l
 LS:l.length≤400
 all:lP l=[]
theorem pY (l:List Rl):(e9 pr l).2=0↔Acc pr l:=by
 have hb:=GI (pr:=pr) l []
 unfold e9
 cases h:l8 pr [] l with
 | some x =>
  refine⟨fun e=>(by cases e),fun A=>?_⟩
  rw[hb.2 ⟨A.alone,A.apart,fun x _ y hy=>(by cases hy)⟩]at h
  cases h
 | none =>
  obtain⟨h1,h2,-⟩:=hb.1 h
  show (if 400<l.length then ((0:Int),4) else if lP l≠[] then (0,6) else (0,0)).2=0↔_
  by_cases h4:400<l.length
  ·rw[if_pos h4];exact⟨fun e=>(by cases e),fun A=>by have:=A.LS;omega⟩
  rw[if_neg h4]
  by_cases hm:lP l≠[]
  ·rw[if_pos hm];exact⟨fun e=>(by cases e),fun A=>absurd A.all hm⟩
  ·rw[if_neg hm];exact⟨fun _=>⟨h1,h2,by omega,Classical.byContradiction hm⟩,fun _=>rfl⟩
theorem QK {x:Rl} {row:Int} (h:iL x row=true):row=1∨row=2∨row=3:=by
 unfold iL at h
 rw[Bool.and_eq_true,decide_eq_true_eq]at h
 omega
theorem xN {x y:Rl} {row:Int} (hx:iL x row=true) (hy:iL y row=true):kR x y=true:=by
 unfold kR
 rcases QK hx with rfl | rfl | rfl<;>rw[hx,hy]<;>simp
theorem BV {K:List Nat→Option (List Nat)} (hK:K []=none) {x:Rl} (h:eF K x=true):x.cells≠[]:=by
 unfold eF nM at h
 simp only[Bool.and_eq_true]at h
 intro e
 have:=h.2.1.2
 rw[e,hK]at this
 cases this
def bV (l:List Rl):List Nat:=l.flatMap (·.cells)
theorem aAF:∀ w ∈ fM,w.2≠[]:=by decide +kernel
theorem U1 (l:List Rl):lP l=[]↔∀ w ∈ fM,hasB l w=true:=by
 unfold lP
 cases h:fM.find? fun w=>!hasB l w with
 | none =>
  rw[List.find?_eq_none]at h
  exact⟨fun _ w hw=>by simpa using h w hw,fun _=>rfl⟩
 | some w =>
  have hm:=List.mem_of_find?_eq_some h
  have hp:=List.find?_some h
  have hp:hasB l w=false:=by simpa using hp
  exact⟨fun e=>absurd e (aAF w hm),fun k=>by rw[k w hm]at hp;cases hp⟩
end
end Go.Proofs.YthbigkoihpgcfaaGreatDoor.Ck
namespace Go.Proofs.YthbigkoihpgcfaaGreatDoor.Ru
open Go.RowKit Ba
section
variable {pr ps:List Nat→Option (List Nat)} {pz:List Nat→Int}
end
end Go.Proofs.YthbigkoihpgcfaaGreatDoor.Ru
namespace Go.Proofs.YthbigkoihpgcfaaGreatDoor.Ti
open Go.RowKit Ba Ru Ck
def iZ (l:List Rl) (cells:List Nat) (at' row:Int):Option Nat :=
 if 0≤at'∧at'<cells.length then l.findIdx? fun x=>iL x row && x.cells.isPrefixOf (cells.drop at'.toNat) else none
def cZ (l:List Rl) (cells:List Nat):Option Nat:=l.findIdx? fun x=>decide (x.aE=5∧x.cells=cells)
def cI (l:List Rl) (aE:Int) (left:List Nat):Option Nat:=l.findIdx? fun x=>decide (x.aE=aE∧x.left=left)
def fN (l:List Rl) (name:List Nat):List Nat:=match cI l 8 name with | some k=>(l[k]?.map (·.cells)).getD [] | none=>[]
theorem AM {l:List Rl} (A:j5 l) {p:Rl→Bool} {k:Nat} {x:Rl} (hk:l[k]?=some x) (hp:p x=true) (hc:∀ y,p y=true→bQ x y=true):l.findIdx? p=some k:=by
 obtain⟨hl,rfl⟩:=List.getElem?_eq_some_iff.1 hk
 have A:=List.pairwise_iff_getElem.1 A
 rw[List.findIdx?_eq_some_iff_getElem]
 refine⟨hl,hp,fun j hj=>?_⟩
 intro h
 have h1:=A j k (by omega) hl hj
 rw[nN,hc _ h]at h1
 cases h1
theorem O8 {l:List Rl} (A:j5 l) {k:Nat} {x:Rl} (hk:l[k]?=some x):cI l x.aE x.left=some k:=by
 refine AM A hk (decide_eq_true ⟨rfl,rfl⟩) fun y hy=>?_
 obtain⟨h1,h2⟩:=of_decide_eq_true hy
 unfold bQ
 rw[decide_eq_true (p:=x.aE=y.aE∧x.left=y.left) ⟨h1.symm,h2.symm⟩]
 simp
theorem aAS {l:List Rl} (A:j5 l) {k:Nat} {x:Rl} (hk:l[k]?=some x) (hw:x.aE=8):fN l x.left=x.cells:=by
 have h:=O8 A hk
 rw[hw]at h
 unfold fN
 rw[h]
 show (l[k]?.map (·.cells)).getD []=_
 rw[hk];rfl
def eJ (f:Nat × Nat→Option Nat):Nat→List Nat→Option Nat
 | p,[]=>some p
 | p,c::s=>match f (p,c)with | some q=>eJ f q s | none=>none
theorem xD (f:Nat × Nat→Option Nat):∀ (s t:List Nat) (p:Nat),eJ f p (s++t)=(eJ f p s).bind fun q=>eJ f q t
 | [],t,p=>rfl
 | c::s,t,p=>by
  show (match f (p,c)with | some q=>eJ f q (s++t) | none=>none)=(match f (p,c)with | some q=>eJ f q s | none=>none).bind _
  cases f (p,c) with
  | none=>rfl
  | some q=>exact xD f s t q
theorem DL (f:Nat × Nat→Option Nat) (s:List Nat) (c p:Nat):eJ f p (s++[c])=(eJ f p s).bind fun q=>f (q,c):=by
 rw[xD]
 congr 1
 funext q
 show (match f (q,c)with | some r=>some r | none=>none)=_
 cases f (q,c)<;>rfl
structure Tree (f:Nat × Nat→Option Nat) (n:Nat):Prop where
 up:∀ {p c q:Nat},f (p,c)=some q→p≤n∧1≤q∧q≤n
 one:∀ {p c p' c' q:Nat},f (p,c)=some q→f (p',c')=some q→p=p'∧c=c'
theorem Tree.le {f:Nat × Nat→Option Nat} {n:Nat} (h:Tree f n):∀ (s:List Nat) (p q:Nat),p≤n→eJ f p s=some q→q≤n
 | [],p,q,hp,e=>by
  have:p=q:=Option.some.inj e
  omega
 | c::s,p,q,hp,e=>by
  have e:(match f (p,c)with | some q=>eJ f q s | none=>none)=some q:=e
  cases hf:f (p,c) with
  | none=>rw[hf]at e;cases e
  | some r=>rw[hf]at e;exact h.le s r q (h.up hf).2.2 e
theorem Tree.inj {f:Nat × Nat→Option Nat} {n:Nat} (h:Tree f n):∀ (k:Nat) (s s':List Nat) (q:Nat),s.length=k→eJ f 0 s=some q→eJ f 0 s'=some q→s=s':=by
 have snoc:∀ s:List Nat,s=[]∨∃ t c,s=t++[c]:=fun s=>by
  rcases List.eq_nil_or_concat s with h | ⟨t,c,h⟩
  ·exact .inl h
  ·exact .inr ⟨t,c,by rw[h,List.concat_eq_append]⟩
 have pos:∀ (t:List Nat) (c q:Nat),eJ f 0 (t++[c])=some q→∃ p,eJ f 0 t=some p∧f (p,c)=some q:=fun t c q e=>by
  rw[DL]at e
  cases ht:eJ f 0 t with
  | none=>rw[ht]at e;cases e
  | some p=>rw[ht]at e;exact⟨p,rfl,e⟩
 intro k
 induction k with
 | zero =>
  intro s s' q hs e e'
  have:s=[]:=List.length_eq_zero_iff.1 hs
  subst this
  have e:(0:Nat)=q:=Option.some.inj e
  rcases snoc s' with rfl | ⟨t,c,rfl⟩
  ·rfl
  ·obtain⟨p,-,hf⟩:=pos t c q e'
   have:=(h.up hf).2.1
   omega
 | succ k ih =>
  intro s s' q hs e e'
  rcases snoc s with rfl | ⟨t,c,rfl⟩
  ·simp at hs
  obtain⟨p,hp,hf⟩:=pos t c q e
  rcases snoc s' with rfl | ⟨t',c',rfl⟩
  ·have e':(0:Nat)=q:=Option.some.inj e'
   have:=(h.up hf).2.1
   omega
  obtain⟨p',hp',hf'⟩:=pos t' c' q e'
  obtain⟨rfl,rfl⟩:=h.one hf hf'
  rw[ih t t' p (by simpa using hs) hp hp']
def KQ (f:Nat × Nat→Option Nat) (x:Nat × Nat) (q:Nat):Nat × Nat→Option Nat:=fun y=>if y=x then some q else f y
theorem Tree.set {f:Nat × Nat→Option Nat} {n p c:Nat} (h:Tree f n) (hp:p≤n):Tree (KQ f (p,c) (n+1)) (n+1) where
 up:=fun {a d q} e=>by
  unfold KQ at e
  by_cases hx:(a,d)=(p,c)
  ·rw[if_pos hx]at e
   have:n+1=q:=Option.some.inj e
   obtain⟨rfl,-⟩:=Prod.mk.inj hx
   omega
  ·rw[if_neg hx]at e
   have:=h.up e
   omega
 one:=fun {a d a' d' q} e e'=>by
  unfold KQ at e e'
  by_cases hx:(a,d)=(p,c)
  ·rw[if_pos hx]at e
   have hq:n+1=q:=Option.some.inj e
   by_cases hy:(a',d')=(p,c)
   ·exact Prod.mk.inj (hx.trans hy.symm)
   ·rw[if_neg hy]at e'
    have:=h.up e'
    omega
  ·rw[if_neg hx]at e
   by_cases hy:(a',d')=(p,c)
   ·rw[if_pos hy]at e'
    have hq:n+1=q:=Option.some.inj e'
    have:=h.up e
    omega
   ·rw[if_neg hy]at e'
    exact h.one e e'
def kB (f g:Nat × Nat→Option Nat):Prop:=∀ x q,f x=some q→g x=some q
theorem kB.refl (f:Nat × Nat→Option Nat):kB f f:=fun _ _ h=>h
theorem kB.trans {f g h:Nat × Nat→Option Nat} (a:kB f g) (b:kB g h):kB f h:=fun x q e=>b x q (a x q e)
theorem kB.set {f:Nat × Nat→Option Nat} {x:Nat × Nat} (hx:f x=none) (q:Nat):kB f (KQ f x q):=fun y r e=>by
 unfold KQ
 rw[if_neg (fun h=>by rw[h,hx]at e;cases e)]
 exact e
theorem kB.walk {f g:Nat × Nat→Option Nat} (h:kB f g):∀ (s:List Nat) (p q:Nat),eJ f p s=some q→eJ g p s=some q
 | [],_,_,e=>e
 | c::s,p,q,e=>by
  have e:(match f (p,c)with | some q=>eJ f q s | none=>none)=some q:=e
  show (match g (p,c)with | some q=>eJ g q s | none=>none)=some q
  cases hf:f (p,c) with
  | none=>rw[hf]at e;cases e
  | some r =>
   rw[hf]at e
   rw[h _ _ hf]
   exact h.walk s r q e
theorem aEF (f:Nat × Nat→Option Nat) (x:Nat × Nat) (q:Nat):KQ f x q x=some q:=by unfold KQ;rw[if_pos rfl]
theorem FK {f:Nat × Nat→Option Nat} {s:List Nat} {i c p q:Nat} (hw:eJ f 0 (s.take i)=some p) (hc:s[i]?=some c) (hf:f (p,c)=some q):eJ f 0 (s.take (i+1))=some q:=by
 rw[List.take_add_one,hc,Option.toList_some,DL,hw]
 exact hf
structure qW (M:List Nat→Nat→Prop) (f:Nat × Nat→Option Nat) (e:Nat→Option Nat) (n:Nat):Prop where
 tree:Tree f n
 there:∀ s r,M s r→∃ q,eJ f 0 s=some q∧e q=some r
 back:∀ q r,e q=some r→∃ s,M s r∧eJ f 0 s=some q
theorem qW.congr {M M':List Nat→Nat→Prop} {f:Nat × Nat→Option Nat} {e:Nat→Option Nat} {n:Nat} (h:qW M f e n) (hM:∀ s r,M s r↔M' s r):qW M' f e n :=
 ⟨h.tree,fun s r k=>h.there s r ((hM s r).2 k),fun q r k=>by obtain⟨s,h1,h2⟩:=h.back q r k;exact⟨s,(hM s r).1 h1,h2⟩⟩
theorem qW.nothing:qW (fun _ _=>False) (fun _=>none) (fun _=>none) 0 :=
 ⟨⟨fun h=>(by cases h),fun h=>(by cases h)⟩,fun _ _ h=>h.elim,fun _ _ h=>(by cases h)⟩
section
variable {M:List Nat→Nat→Prop} {f g:Nat × Nat→Option Nat} {e:Nat→Option Nat} {n m p:Nat} {s:List Nat}
theorem qW.free (h:qW M f e n) (hg:Tree g m) (hk:kB f g) (hw:eJ g 0 s=some p) (hs:∀ r,¬ M s r):e p=none:=by
 cases he:e p with
 | none=>rfl
 | some r =>
  obtain⟨t,h1,h2⟩:=h.back p r he
  have:=hg.inj _ _ _ _ rfl (hk.walk t 0 p h2) hw
  subst this
  exact absurd h1 (hs r)
theorem qW.add (h:qW M f e n) (hg:Tree g m) (hk:kB f g) (hw:eJ g 0 s=some p) (hs:∀ r,¬ M s r) (k:Nat):qW (fun t r=>M t r∨t=s∧r=k) g (fun q=>if q=p then some k else e q) m where
 tree:=hg
 there:=fun t r ht=>by
  rcases ht with ht | ⟨rfl,rfl⟩
  ·obtain⟨q,h1,h2⟩:=h.there t r ht
   refine⟨q,hk.walk t 0 q h1,?_⟩
   rw[if_neg fun hq=>?_]
   ·exact h2
   ·rw[hq,h.free hg hk hw hs]at h2
    cases h2
  ·exact⟨p,hw,if_pos rfl⟩
 back:=fun q r hq=>by
  by_cases hp:q=p
  ·rw[if_pos hp]at hq
   exact⟨s,.inr ⟨rfl,(Option.some.inj hq).symm⟩,by rw[hp];exact hw⟩
  ·rw[if_neg hp]at hq
   obtain⟨t,h1,h2⟩:=h.back q r hq
   exact⟨t,.inl h1,hk.walk t 0 q h2⟩
variable {cs:List Nat} {o:Option Nat} {i c q:Nat}
end
def AN (l:List Rl) (row:Int) (k:Nat) (s:List Nat) (r:Nat):Prop:=r<k∧∃ x,l[r]?=some x∧iL x row=true∧x.cells=s
theorem YT (l:List Rl) (row:Int) (s:List Nat) (r:Nat):False↔AN l row 0 s r:=⟨fun h=>h.elim,fun h=>by have:=h.1;omega⟩
theorem YU {l:List Rl} {row:Int} {k:Nat} {x:Rl} (hx:l[k]?=some x) (hr:iL x row=true) (s:List Nat) (r:Nat):(AN l row k s r∨s=x.cells∧r=k)↔AN l row (k+1) s r:=by
 constructor
 ·rintro(⟨h1,h2⟩ | ⟨rfl,rfl⟩)
  ·exact⟨by omega,h2⟩
  ·exact⟨by omega,x,hx,hr,rfl⟩
 ·rintro⟨h1,y,h2,h3,rfl⟩
  by_cases hk:r=k
  ·subst hk
   rw[hx]at h2
   cases h2
   exact .inr ⟨rfl,rfl⟩
  ·exact .inl ⟨by omega,y,h2,h3,rfl⟩
theorem YV {l:List Rl} {row:Int} {k:Nat} {x:Rl} (hx:l[k]?=some x) (hr:iL x row=false) (s:List Nat) (r:Nat):AN l row k s r↔AN l row (k+1) s r:=by
 constructor
 ·rintro⟨h1,h2⟩
  exact⟨by omega,h2⟩
 ·rintro⟨h1,y,h2,h3,rfl⟩
  by_cases hk:r=k
  ·subst hk
   rw[hx]at h2
   cases h2
   rw[hr]at h3
   cases h3
  ·exact⟨by omega,y,h2,h3,rfl⟩
theorem AO {l:List Rl} (A:j5 l) {r k:Nat} {y x:Rl} (hr:l[r]?=some y) (hk:l[k]?=some x) (h:r<k):bQ y x=false:=by
 obtain⟨h1,rfl⟩:=List.getElem?_eq_some_iff.1 hr
 obtain⟨h2,rfl⟩:=List.getElem?_eq_some_iff.1 hk
 exact List.pairwise_iff_getElem.1 A r k h1 h2 h
theorem over_self (a:List Nat):oX a a=true:=by
 unfold oX
 rw[List.isPrefixOf_iff_prefix.2 (List.prefix_refl a)]
 rfl
theorem YW {l:List Rl} (A:j5 l) {row:Int} {k:Nat} {x:Rl} (hx:l[k]?=some x) (hr:iL x row=true) (r:Nat):¬ AN l row k x.cells r:=by
 rintro⟨h1,y,h2,h3,h4⟩
 have:=AO A h2 hx h1
 unfold bQ at this
 rw[xN h3 hr,h4,over_self]at this
 simp at this
theorem TT {l:List Rl} (A:j5 l) {k:Nat} {x:Rl} (hx:l[k]?=some x) (q:Int) (s:List Nat) :
  cI (l.take k) x.aE x.left=none∧cI (l.take (k+1)) q s=if (q,s)=(x.aE,x.left) then some k else cI (l.take k) q s:=by
 have hk:k<l.length:=(List.getElem?_eq_some_iff.1 hx).1
 have hnone:cI (l.take k) x.aE x.left=none:=by
  unfold cI
  rw[List.findIdx?_eq_none_iff]
  intro y hy
  obtain⟨j,hj,hy2⟩:=List.getElem_of_mem hy
  rw[List.length_take]at hj
  refine decide_eq_false fun h=>?_
  have hj2:l[j]?=some y:=by
   rw[← hy2,List.getElem_take]
   exact List.getElem?_eq_getElem (by omega)
  have:=AO A hj2 hx (by omega)
  unfold bQ at this
  rw[decide_eq_true (p:=y.aE=x.aE∧y.left=x.left) h]at this
  simp at this
 refine⟨hnone,?_⟩
 have ht:l.take (k+1)=l.take k++[x]:=by rw[List.take_add_one,hx];rfl
 have hl:(l.take k).length=k:=by rw[List.length_take];omega
 by_cases h:(q,s)=(x.aE,x.left)
 ·rw[if_pos h]
  obtain⟨rfl,rfl⟩:=Prod.mk.inj h
  unfold cI at hnone ⊢
  rw[ht,List.findIdx?_append,hnone,hl]
  simp
 ·rw[if_neg h]
  unfold cI
  rw[ht,List.findIdx?_append]
  have:List.findIdx? (fun x=>decide (x.aE=q∧x.left=s)) [x]=none:=by
   rw[List.findIdx?_eq_none_iff]
   intro y hy
   rw[List.mem_singleton.1 hy]
   exact decide_eq_false fun k=>h (by rw[k.1,k.2])
  rw[this]
  simp
theorem TU {l:List Rl} (A:j5 l) {k:Nat} {x:Rl} (hx:l[k]?=some x) (hw:x.aE=5) (s:List Nat) :
  cZ (l.take k) x.cells=none∧cZ (l.take (k+1)) s=if s=x.cells then some k else cZ (l.take k) s:=by
 have hk:k<l.length:=(List.getElem?_eq_some_iff.1 hx).1
 have hnone:cZ (l.take k) x.cells=none:=by
  unfold cZ
  rw[List.findIdx?_eq_none_iff]
  intro y hy
  obtain⟨j,hj,hy2⟩:=List.getElem_of_mem hy
  rw[List.length_take]at hj
  refine decide_eq_false fun h=>?_
  have hj2:l[j]?=some y:=by
   rw[← hy2,List.getElem_take]
   exact List.getElem?_eq_getElem (by omega)
  have:=AO A hj2 hx (by omega)
  unfold bQ at this
  rw[decide_eq_true (p:=y.aE=5∧x.aE=5∧y.cells=x.cells) ⟨h.1,hw,h.2⟩]at this
  simp at this
 refine⟨hnone,?_⟩
 have ht:l.take (k+1)=l.take k++[x]:=by rw[List.take_add_one,hx];rfl
 have hl:(l.take k).length=k:=by rw[List.length_take];omega
 by_cases h:s=x.cells
 ·rw[if_pos h]
  subst h
  unfold cZ at hnone ⊢
  rw[ht,List.findIdx?_append,hnone,hl]
  simp[hw]
 ·rw[if_neg h]
  unfold cZ
  rw[ht,List.findIdx?_append]
  have:List.findIdx? (fun x=>decide (x.aE=5∧x.cells=s)) [x]=none:=by
   rw[List.findIdx?_eq_none_iff]
   intro y hy
   rw[List.mem_singleton.1 hy]
   exact decide_eq_false fun k=>h k.2.symm
  rw[this]
  simp
theorem TV {l:List Rl} {k:Nat} {x:Rl} (hx:l[k]?=some x) (hw:x.aE≠5) (s:List Nat):cZ (l.take (k+1)) s=cZ (l.take k) s:=by
 have ht:l.take (k+1)=l.take k++[x]:=by rw[List.take_add_one,hx];rfl
 unfold cZ
 rw[ht,List.findIdx?_append]
 have:List.findIdx? (fun x=>decide (x.aE=5∧x.cells=s)) [x]=none:=by
  rw[List.findIdx?_eq_none_iff]
  intro y hy
  rw[List.mem_singleton.1 hy]
  exact decide_eq_false fun k=>hw k.1
 rw[this]
 simp
end Go.Proofs.YthbigkoihpgcfaaGreatDoor.Ti
