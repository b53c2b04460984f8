/-
  Put together: RuA, RuB, CkA, RuO.
-/
import Derived.Test.YtlgejmcihchngaaGreatDoorVg
import Derived.Test.YtlgejmcihchngaaGreatDoorVa
namespace Go.Proofs.YtlgejmcihchngaaGreatDoor.Ru
open Go.RowKit Ba
def splitL (c:Nat):List Nat→List (List Nat)
 | []=>[[]]
 | x::r=>if x=c then []::splitL c r else match splitL c r with
  | []=>[[x]]
  | a::m=>(x::a)::m
theorem split_ne (c:Nat) (L:List Nat):∃ a m,splitL c L=a::m:=by
 cases L with
 | nil=>exact⟨[],[],rfl⟩
 | cons x r =>
  unfold splitL
  split
  ·exact⟨_,_,rfl⟩
  ·split<;>exact⟨_,_,rfl⟩
theorem split_x {c x:Nat} (h:x≠c) {r a:List Nat} {m:List (List Nat)} (hr:splitL c r=a::m):splitL c (x::r)=(x::a)::m:=by
 show (if x=c then _ else _)=_
 rw[if_neg h,hr]
theorem split_no {c:Nat}:∀ {a:List Nat},c ∉ a→splitL c a=[a]
 | [],_=>rfl
 | x::a,h=>split_x (fun e=>h (by rw[e];exact List.mem_cons_self ..)) (split_no fun k=>h (List.mem_cons_of_mem _ k))
theorem split_at {c:Nat} (b:List Nat):∀ {a:List Nat},c ∉ a→splitL c (a++c::b)=a::splitL c b
 | [],_=>by show (if c=c then _ else _)=_;rw[if_pos rfl]
 | x::a,h=>split_x (fun e=>h (by rw[e];exact List.mem_cons_self ..)) (split_at b fun k=>h (List.mem_cons_of_mem _ k))
def joinL (c:Nat):List (List Nat)→List Nat
 | []=>[]
 | [a]=>a
 | a::b::m=>a++c::joinL c (b::m)
theorem join_cons (c:Nat) (a:List Nat) {m:List (List Nat)} (h:m≠[]):joinL c (a::m)=a++c::joinL c m:=by
 cases m with
 | nil=>exact absurd rfl h
 | cons b m=>rfl
theorem join_split (c:Nat):∀ L:List Nat,joinL c (splitL c L)=L
 | []=>rfl
 | x::r=>by
  have ih:=join_split c r
  obtain⟨a,m,hr⟩:=split_ne c r
  by_cases h:x=c
  ·subst h
   show joinL x (if x=x then _ else _)=_
   rw[if_pos rfl,join_cons _ _ (by rw[hr];simp),ih,List.nil_append]
  ·rw[split_x h hr]
   rw[hr]at ih
   cases m with
   | nil=>rw[← ih];rfl
   | cons b m=>rw[← ih];rfl
def wordsL:List (List Nat):=[[97,110,121],[98,101,103,105,110],[105,110,110,101,114],[101,110,100],[119,111,114,100],[109,97,114,107],[100,105,103,105,116],[115,105,103,110]]
def wordL (k:Nat):List Nat:=wordsL.getD (k - 1) []
def namesL:List (List Nat):=[[99,97,112],[99,97,112,115],[110,117,109],[108,101,116],[101,43],[101,45],[115,43],[115,45],[110,43],[110,45],[98,108,107],[99,111,110,116],[105,110,100]]
def whatN (w:List Nat):Nat:=if wordsL.idxOf w<8 then wordsL.idxOf w+1 else 0
theorem what_word:∀ k:Fin 9,1≤k.val→whatN (wordL k.val)=k.val∧32 ∉ wordL k.val∧10 ∉ wordL k.val∧(wordL k.val).head?≠some 35∧wordL k.val≠[]:=by decide +kernel
theorem whatN_le (w:List Nat):whatN w≤8:=by unfold whatN;split<;>omega
theorem word_what {w:List Nat} (h:whatN w≠0):wordL (whatN w)=w:=by
 unfold whatN at h ⊢
 by_cases h8:wordsL.idxOf w<8
 ·rw[if_pos h8]
  unfold wordL
  have h':wordsL.idxOf w<wordsL.length:=h8
  rw[Nat.add_sub_cancel,List.getD_eq_getElem?_getD,List.getElem?_eq_getElem h',Option.getD_some]
  exact List.getElem_idxOf h'
 ·rw[if_neg h8]at h;exact absurd rfl h
def leftB (k:Nat) (s:List Nat):Bool :=
 if k≤5 then decide (0<s.length∧s.length≤12) && s.all fun b=>Ka.clsN b==1
 else if k=6 then match s with | [b]=>Ka.clsN b==4 | _=>false
 else if k=7 then match s with | [b]=>Ka.clsN b==3 | _=>false
 else namesL.contains s
def digL (n:Nat):List Nat:=if 9<n then [48+n / 10,48+n % 10] else [48+n % 10]
def digA:List Nat→Option Nat
 | [a]=>if 48≤a∧a≤57 then some (a - 48) else none
 | [a,b]=>if (49≤a∧a≤57)∧48≤b∧b≤57 then some (10 * (a - 48)+(b - 48)) else none
 | _=>none
theorem dig_back {l:List Nat} {n:Nat} (h:digA l=some n):digL n=l∧n≤99:=by
 unfold digA at h
 split at h
 ·rename_i a
  by_cases k:48≤a∧a≤57
  ·rw[if_pos k]at h
   cases h
   unfold digL
   rw[if_neg (by omega),show 48+(a - 48) % 10=a by omega]
   exact⟨rfl,by omega⟩
  ·rw[if_neg k]at h;cases h
 ·rename_i a b
  by_cases k:(49≤a∧a≤57)∧48≤b∧b≤57
  ·rw[if_pos k]at h
   cases h
   unfold digL
   rw[if_pos (by omega),show 48+(10 * (a - 48)+(b - 48)) / 10=a by omega,show 48+(10 * (a - 48)+(b - 48)) % 10=b by omega]
   exact⟨rfl,by omega⟩
  ·rw[if_neg k]at h;cases h
 ·cases h
structure Rl where
 what:Int
 left:List Nat
 cells:List Nat
 prio:Int
 line:Int
deriving DecidableEq
structure CellLaw (pr ps:List Nat→Option (List Nat)):Prop where
 there:∀ c t,pr c=some t→ps t=some c
 back:∀ t c,ps t=some c→pr c=some t
 free:∀ c t,pr c=some t→32 ∉ t∧10 ∉ t
def mayR (pr:List Nat→Option (List Nat)) (x:Rl):Bool :=
 decide (1≤x.what∧x.what≤8) && leftB x.what.toNat x.left && (pr x.cells).isSome && (if x.what≤5 then decide (0≤x.prio∧x.prio≤99) else decide (x.prio=0))
def lineR (pr:List Nat→Option (List Nat)) (x:Rl):List Nat :=
 wordL x.what.toNat++32::(x.left++32::((pr x.cells).getD []++if x.what≤5 then 32::digL x.prio.toNat else []))
def ruleA (ps:List Nat→Option (List Nat)) (l:List Nat) (n:Int):Option Rl :=
 match splitL 32 l with
 | [w,a,c,d]=>if whatN w≠0∧whatN w≤5∧leftB (whatN w) a=true then (match ps c,digA d with | some cc,some p=>some ⟨whatN w,a,cc,p,n⟩ | _,_=>none) else none
 | [w,a,c]=>if 5<whatN w∧leftB (whatN w) a=true then (match ps c with | some cc=>some ⟨whatN w,a,cc,0,n⟩ | _=>none) else none
 | _=>none
theorem line_rule {pr ps:List Nat→Option (List Nat)} (K:CellLaw pr ps) {l:List Nat} {n:Int} {x:Rl} (h:ruleA ps l n=some x):mayR pr x=true∧lineR pr x=l∧x.line=n:=by
 have hj:=join_split 32 l
 unfold ruleA at h
 split at h
 ·rename_i w a c d e
  rw[e]at hj
  split at h
  ·rename_i hw
   obtain⟨h0,h5,hl⟩:=hw
   split at h
   ·rename_i cc p e1 e2
    cases h
    have hb:=K.back _ _ e1
    obtain⟨d1,d2⟩:=dig_back e2
    refine⟨?_,?_,rfl⟩
    ·unfold mayR
     simp only[Int.toNat_natCast,hl,hb,Option.isSome_some]
     rw[if_pos (by omega),decide_eq_true (by omega),decide_eq_true (by omega)];rfl
    ·unfold lineR
     simp only[Int.toNat_natCast,hb,Option.getD_some]
     rw[if_pos (by omega),word_what h0,d1,← hj]
     rfl
   ·cases h
  ·cases h
 ·rename_i w a c e
  rw[e]at hj
  split at h
  ·rename_i hw
   obtain⟨h5,hl⟩:=hw
   split at h
   ·rename_i cc e1
    cases h
    have hb:=K.back _ _ e1
    have h8:=whatN_le w
    refine⟨?_,?_,rfl⟩
    ·unfold mayR
     simp only[Int.toNat_natCast,hl,hb,Option.isSome_some]
     rw[if_neg (by omega),decide_eq_true (by omega)];rfl
    ·unfold lineR
     simp only[Int.toNat_natCast,hb,Option.getD_some]
     rw[if_neg (by omega),word_what (by omega),List.append_nil,← hj]
     rfl
   ·cases h
  ·cases h
 ·cases h
end Go.Proofs.YtlgejmcihchngaaGreatDoor.Ru
namespace Go.Proofs.YtlgejmcihchngaaGreatDoor.Ru
open Go.RowKit Ba
def goP (ps:List Nat→Option (List Nat)):List (List Nat)→Nat→List Rl→List Rl × Nat × Nat
 | [],_,acc=>(acc,0,0)
 | t::m,n,acc=>if t=[]∨t.head?=some 35 then goP ps m (n+1) acc else
  match ruleA ps t n with
  | none=>([],n,6)
  | some x=>if acc.length=400 then ([],n,4) else goP ps m (n+1) (acc++[x])
def parseR (ps:List Nat→Option (List Nat)) (L:List Nat):List Rl × Nat × Nat:=if 65536<L.length then ([],0,4) else goP ps (splitL 10 L) 1 []
section
variable {pr ps:List Nat→Option (List Nat)}
theorem go_skip {t:List Nat} (h:t=[]∨t.head?=some 35) (m:List (List Nat)) (n:Nat) (acc:List Rl):goP ps (t::m) n acc=goP ps m (n+1) acc:=by
 show (if t=[]∨t.head?=some 35 then _ else _)=_
 rw[if_pos h]
theorem go_bad {t:List Nat} (h:¬ (t=[]∨t.head?=some 35)) {n:Nat} (k:ruleA ps t n=none) (m:List (List Nat)) (acc:List Rl):goP ps (t::m) n acc=([],n,6):=by
 show (if t=[]∨t.head?=some 35 then _ else _)=_
 rw[if_neg h,k]
theorem go_rule {t:List Nat} (h:¬ (t=[]∨t.head?=some 35)) {n:Nat} {x:Rl} (k:ruleA ps t n=some x) (m:List (List Nat)) (acc:List Rl):goP ps (t::m) n acc=if acc.length=400 then ([],n,4) else goP ps m (n+1) (acc++[x]):=by
 show (if t=[]∨t.head?=some 35 then _ else _)=_
 rw[if_neg h,k]
theorem split_sum (c:Nat):∀ L:List Nat,((splitL c L).map fun t=>t.length+1).sum=L.length+1
 | []=>rfl
 | x::r=>by
  have ih:=split_sum c r
  obtain⟨a,m,hr⟩:=split_ne c r
  by_cases h:x=c
  ·show ((if x=c then []::splitL c r else _).map fun t=>t.length+1).sum=_
   rw[if_pos h,List.map_cons,List.sum_cons,ih,List.length_cons]
   simp only[List.length_nil];omega
  ·rw[split_x h hr]
   rw[hr,List.map_cons,List.sum_cons]at ih
   rw[List.map_cons,List.sum_cons,List.length_cons,List.length_cons]
   omega
def up (x:Rl):Rl:={ x with line:=x.line+1 }
end
end Go.Proofs.YtlgejmcihchngaaGreatDoor.Ru
namespace Go.Proofs.YtlgejmcihchngaaGreatDoor.Ck
open Go.RowKit Ba Ru
def inB (x:Rl) (row:Int):Bool :=
 decide (1≤row∧row≤3) && (decide (x.what=6∨x.what=8) || (if row=1 then decide (x.what=1∨x.what=2) else if row=2 then decide (x.what=1∨x.what=3∨x.what=4) else decide (x.what=7)))
def keptB (x:Rl):Bool:=decide (x.what=8∧(x.left=[98,108,107]∨x.left=[99,111,110,116]∨x.left=[105,110,100]))
def aloneB (pr:List Nat→Option (List Nat)) (x:Rl):Bool :=
 !((keptB x || decide (x.what=7∨x.what=1∧x.left.length=1)) && decide (x.cells.length≠1)) && !(decide (x.what=8∧(x.left=[110,117,109]∨x.left=[108,101,116])∧2<x.cells.length)) && mayR pr x
def withinB (a b:List Nat):Bool:=(List.range (b.length+1)).any fun i=>a.isPrefixOf (b.drop i)
def rowsB (x y:Rl):Bool:=(inB x 1 && inB y 1) || (inB x 2 && inB y 2) || (inB x 3 && inB y 3)
def overB (a b:List Nat):Bool:=a.isPrefixOf b || b.isPrefixOf a
def clashB (x y:Rl):Bool :=
 decide (x.what=y.what∧x.left=y.left) || decide (x.what=5∧y.what=5∧x.cells=y.cells) || (rowsB x y && overB x.cells y.cells)
  || (keptB x && withinB x.cells y.cells) || (keptB y && withinB y.cells x.cells)
  || (decide (x.what=8∧y.what=5) && x.cells.isPrefixOf y.cells) || (decide (y.what=8∧x.what=5) && y.cells.isPrefixOf x.cells)
theorem clash_symm (x y:Rl):clashB x y=clashB y x:=by
 have h1:decide (x.what=y.what∧x.left=y.left)=decide (y.what=x.what∧y.left=x.left):=decide_eq_decide.2 ⟨fun h=>⟨h.1.symm,h.2.symm⟩,fun h=>⟨h.1.symm,h.2.symm⟩⟩
 have h2:decide (x.what=5∧y.what=5∧x.cells=y.cells)=decide (y.what=5∧x.what=5∧y.cells=x.cells):=decide_eq_decide.2 ⟨fun h=>⟨h.2.1,h.1,h.2.2.symm⟩,fun h=>⟨h.2.1,h.1,h.2.2.symm⟩⟩
 have h3:rowsB x y=rowsB y x:=by unfold rowsB;rw[Bool.and_comm (inB x 1),Bool.and_comm (inB x 2),Bool.and_comm (inB x 3)]
 have h4:overB x.cells y.cells=overB y.cells x.cells:=Bool.or_comm ..
 unfold clashB
 rw[h1,h2,h3,h4]
 generalize decide (y.what=x.what∧y.left=x.left)=a
 generalize decide (y.what=5∧x.what=5∧y.cells=x.cells)=b
 generalize (rowsB y x && overB y.cells x.cells)=c
 generalize (keptB x && withinB x.cells y.cells)=d
 generalize (keptB y && withinB y.cells x.cells)=e
 generalize (decide (x.what=8∧y.what=5) && x.cells.isPrefixOf y.cells)=f
 generalize (decide (y.what=8∧x.what=5) && y.cells.isPrefixOf x.cells)=g
 revert a b c d e f g
 decide
def hasB (l:List Rl) (w:Int × List Nat):Bool:=l.any fun x=>decide (x.what=w.1∧x.left=w.2)
def wantL:List (Int × List Nat):=(List.range 26).map (fun i=>(1,[97+i]))++(Ka.markL.map (fun c=>(6,[c]))++((List.range 10).map (fun i=>(7,[48+i]))++namesL.map fun s=>(8,s)))
def missR (l:List Rl):List Nat:=match wantL.find? fun w=>!hasB l w with | some w=>w.2 | none=>[]
def badF (pr:List Nat→Option (List Nat)):List Rl→List Rl→Option Rl
 | _,[]=>none
 | acc,x::l=>if (!aloneB pr x || acc.any (clashB x))=true then some x else badF pr (acc++[x]) l
def tableR (pr:List Nat→Option (List Nat)) (l:List Rl):Int × Nat:=match badF pr [] l with
 | some x=>(x.line,6)
 | none=>if 400<l.length then (0,4) else if missR l≠[] then (0,6) else (0,0)
def Apart (l:List Rl):Prop:=l.Pairwise fun x y=>clashB x y=false
section
variable {pr:List Nat→Option (List Nat)}
theorem bad_none:∀ (l acc:List Rl),badF pr acc l=none↔(∀ x ∈ l,aloneB pr x=true)∧Apart l∧∀ x ∈ l,∀ y ∈ acc,clashB x y=false
 | [],acc=>⟨fun _=>⟨fun x h=>(by cases h),.nil,fun x h=>(by cases h)⟩,fun _=>rfl⟩
 | x::l,acc=>by
  have ih:=bad_none l (acc++[x])
  show (if _ then some x else badF pr (acc++[x]) l)=none↔_
  by_cases h:(!aloneB pr x || acc.any (clashB x))=true
  ·rw[if_pos h]
   refine⟨fun e=>(by cases e),fun⟨h1,_,h3⟩=>?_⟩
   rw[h1 x (List.mem_cons_self ..),Bool.not_true,Bool.false_or,List.any_eq_true]at h
   obtain⟨y,hy,hc⟩:=h
   rw[h3 x (List.mem_cons_self ..) y hy]at hc
   cases hc
  ·rw[if_neg h,ih]
   have h:(!aloneB pr x || acc.any (clashB x))=false:=by simpa using h
   rw[Bool.or_eq_false_iff]at h
   obtain⟨ha,hc⟩:=h
   have ha:aloneB pr x=true:=by simpa using ha
   have hc:∀ y ∈ acc,clashB x y=false:=fun y hy=>by
    rw[List.any_eq_false]at hc
    simpa using hc y hy
   constructor
   ·rintro⟨h1,h2,h3⟩
    refine⟨fun y hy=>?_,List.pairwise_cons.2 ⟨fun y hy=>?_,h2⟩,fun y hy z hz=>?_⟩
    ·rcases List.mem_cons.1 hy with rfl | hy
     ·exact ha
     ·exact h1 y hy
    ·rw[clash_symm];exact h3 y hy x (List.mem_append_right _ (List.mem_cons_self ..))
    ·rcases List.mem_cons.1 hy with rfl | hy
     ·exact hc z hz
     ·exact h3 y hy z (List.mem_append_left _ hz)
   ·rintro⟨h1,h2,h3⟩
    obtain⟨p1,p2⟩:=List.pairwise_cons.1 h2
    refine⟨fun y hy=>h1 y (List.mem_cons_of_mem _ hy),p2,fun y hy z hz=>?_⟩
    rcases List.mem_append.1 hz with hz | hz
    ·exact h3 y (List.mem_cons_of_mem _ hy) z hz
    ·rw[List.mem_singleton.1 hz,clash_symm];exact p1 y hy
structure Acc (pr:List Nat→Option (List Nat)) (l:List Rl):Prop where
 alone:∀ x ∈ l,aloneB pr x=true
 apart:Apart l
 few:l.length≤400
 all:missR l=[]
theorem table_acc (l:List Rl):(tableR pr l).2=0↔Acc pr l:=by
 have hb:=bad_none (pr:=pr) l []
 unfold tableR
 cases h:badF pr [] l with
 | some x =>
  refine⟨fun e=>(by cases e),fun A=>?_⟩
  rw[hb.2 ⟨A.alone,A.apart,fun x _ y hy=>(by cases hy)⟩]at h
  cases h
 | none =>
  obtain⟨h1,h2,-⟩:=hb.1 h
  show (if 400<l.length then ((0:Int),4) else if missR l≠[] then (0,6) else (0,0)).2=0↔_
  by_cases h4:400<l.length
  ·rw[if_pos h4];exact⟨fun e=>(by cases e),fun A=>by have:=A.few;omega⟩
  rw[if_neg h4]
  by_cases hm:missR l≠[]
  ·rw[if_pos hm];exact⟨fun e=>(by cases e),fun A=>absurd A.all hm⟩
  ·rw[if_neg hm];exact⟨fun _=>⟨h1,h2,by omega,Classical.byContradiction hm⟩,fun _=>rfl⟩
theorem apart_ne {l:List Rl} (h:Apart l):∀ x ∈ l,∀ y ∈ l,x≠y→clashB x y=false:=by
 induction l with
 | nil=>intro x hx;cases hx
 | cons z l ih =>
  obtain⟨p1,p2⟩:=List.pairwise_cons.1 h
  intro x hx y hy hn
  rcases List.mem_cons.1 hx with ex | hx2
  ·rcases List.mem_cons.1 hy with ey | hy2
   ·exact absurd (ex.trans ey.symm) hn
   ·rw[ex];exact p1 y hy2
  ·rcases List.mem_cons.1 hy with ey | hy2
   ·rw[ey,clash_symm];exact p1 x hx2
   ·exact ih p2 x hx2 y hy2 hn
theorem row_three {x:Rl} {row:Int} (h:inB x row=true):row=1∨row=2∨row=3:=by
 unfold inB at h
 rw[Bool.and_eq_true,decide_eq_true_eq]at h
 omega
theorem rows_of {x y:Rl} {row:Int} (hx:inB x row=true) (hy:inB y row=true):rowsB x y=true:=by
 unfold rowsB
 rcases row_three hx with rfl | rfl | rfl<;>rw[hx,hy]<;>simp
theorem may_cells {K:List Nat→Option (List Nat)} (hK:K []=none) {x:Rl} (h:aloneB K x=true):x.cells≠[]:=by
 unfold aloneB mayR at h
 simp only[Bool.and_eq_true]at h
 intro e
 have:=h.2.1.2
 rw[e,hK]at this
 cases this
theorem same_of {l:List Rl} (A:Apart l) {row:Int} {x y:Rl} (hx:x ∈ l) (hy:y ∈ l) (rx:inB x row=true) (ry:inB y row=true) (h:overB x.cells y.cells=true):x=y :=
 Classical.byContradiction fun hn=>by
  have:=apart_ne A x hx y hy hn
  unfold clashB at this
  rw[rows_of rx ry,h]at this
  simp at this
def cellsR (l:List Rl):List Nat:=l.flatMap (·.cells)
theorem over_of {a b c d:List Nat} (h:a++b <+: c++d):overB a c=true:=by
 unfold overB
 rw[Bool.or_eq_true,List.isPrefixOf_iff_prefix,List.isPrefixOf_iff_prefix]
 exact List.prefix_or_prefix_of_prefix ((List.prefix_append a b).trans h) (List.prefix_append c d)
theorem want_ne:∀ w ∈ wantL,w.2≠[]:=by decide +kernel
theorem miss_nil (l:List Rl):missR l=[]↔∀ w ∈ wantL,hasB l w=true:=by
 unfold missR
 cases h:wantL.find? fun w=>!hasB l w with
 | none =>
  rw[List.find?_eq_none]at h
  exact⟨fun _ w hw=>by simpa using h w hw,fun _=>rfl⟩
 | some w =>
  have hm:=List.mem_of_find?_eq_some h
  have hp:=List.find?_some h
  have hp:hasB l w=false:=by simpa using hp
  exact⟨fun e=>absurd e (want_ne w hm),fun k=>by rw[k w hm]at hp;cases hp⟩
end
end Go.Proofs.YtlgejmcihchngaaGreatDoor.Ck
namespace Go.Proofs.YtlgejmcihchngaaGreatDoor.Ru
open Go.RowKit Ba
def cutL (c:Nat):List Nat→List Nat × List Nat
 | []=>([],[])
 | x::r=>if x=c then ([],r) else (x::(cutL c r).1,(cutL c r).2)
theorem cut_at {c:Nat} (b:List Nat):∀ {a:List Nat},c ∉ a→cutL c (a++c::b)=(a,b)
 | [],_=>by show (if c=c then _ else _)=_;rw[if_pos rfl]
 | x::a,h=>by
  have hx:x≠c:=fun e=>h (by rw[e];exact List.mem_cons_self ..)
  show (if x=c then _ else (x::(cutL c (a++c::b)).1,(cutL c (a++c::b)).2))=_
  rw[if_neg hx,cut_at b fun k=>h (List.mem_cons_of_mem _ k)]
section
variable {pr ps:List Nat→Option (List Nat)} {pz:List Nat→Int}
end
end Go.Proofs.YtlgejmcihchngaaGreatDoor.Ru
