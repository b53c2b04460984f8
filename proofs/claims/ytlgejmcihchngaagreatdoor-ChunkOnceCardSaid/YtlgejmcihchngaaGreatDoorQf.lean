/-
  Put together: RuI, RuJ, RuK, RuP.
-/
import Derived.Test.YtlgejmcihchngaaGreatDoorRuH
import Derived.Lib.SliceRun
import Derived.Lib.AppendZerosOnto
namespace Go.Proofs.YtlgejmcihchngaaGreatDoor.Ru
open Go.RowKit Ba
theorem bytesOf_app (a b:List Nat):bytesOf (a++b)=bytesOf a++bytesOf b:=Ce.bytesOf_append a b
theorem may_parts {x:Rl} (h:mayR prC x=true):∃ (q:Nat) (t:List Nat),x.what=(q:Int)∧1≤q∧q≤8∧leftB q x.left=true∧prC x.cells=some t∧(q≤5→∃ p:Nat,x.prio=(p:Int)∧p≤99)∧(5<q→x.prio=0):=by
 unfold mayR at h
 simp only[Bool.and_eq_true,decide_eq_true_eq]at h
 obtain⟨⟨⟨⟨h1,h8⟩,hl⟩,hc⟩,hp⟩:=h
 obtain⟨q,hq⟩:=Int.eq_ofNat_of_zero_le (show 0≤x.what by omega)
 obtain⟨t,ht⟩:=Option.isSome_iff_exists.1 hc
 rw[hq,Int.toNat_natCast]at hl
 refine⟨q,t,hq,by omega,by omega,hl,ht,fun h5=>?_,fun h5=>?_⟩
 ·rw[if_pos (by omega)]at hp
  have hp:0≤x.prio∧x.prio≤99:=by simpa using hp
  obtain⟨p,hp2⟩:=Int.eq_ofNat_of_zero_le hp.1
  exact⟨p,hp2,by omega⟩
 ·rw[if_neg (by omega)]at hp
  simpa using hp
theorem left_len {q:Nat} {s:List Nat} (h:leftB q s=true):s.length≤12:=by
 unfold leftB at h
 by_cases h5:q≤5
 ·rw[if_pos h5,Bool.and_eq_true,decide_eq_true_eq]at h
  exact h.1.2
 rw[if_neg h5]at h
 by_cases h6:q=6
 ·rw[if_pos h6]at h
  match s,h with
  | [b],_=>simp
 rw[if_neg h6]at h
 by_cases h7:q=7
 ·rw[if_pos h7]at h
  match s,h with
  | [b],_=>simp
 rw[if_neg h7,List.contains_iff_mem]at h
 have:∀ s ∈ namesL,s.length≤12:=by decide +kernel
 exact this s h
end Go.Proofs.YtlgejmcihchngaaGreatDoor.Ru
namespace Go.Proofs.YtlgejmcihchngaaGreatDoor.Ru
open Go.RowKit Ba
end Go.Proofs.YtlgejmcihchngaaGreatDoor.Ru
namespace Go.Proofs.YtlgejmcihchngaaGreatDoor.Ru
open Go.RowKit Ba
def longX (x:Rl):Bool:=decide (50<x.left.length) || decide (50<x.cells.length)
theorem prC_lt {c t:List Nat} (h:prC c=some t):(∀ b ∈ t,b<256)∧(∀ b ∈ c,b<256)∧c.length≤4:=by
 unfold prC at h
 split at h
 ·rename_i hk
  cases h
  exact⟨Ce.printT_lt c,hk.1,by have h2:=hk.2.2.1;have h3:(Ce.bytesOf c).size=c.length:=Ce.bytesOf_size c;omega⟩
 ·cases h
theorem rule_fits {t:List Nat} (ht:∀ b ∈ t,b<256) {n:Nat} (hn:n≤100000) {x:Rl} (h:ruleA psC t n=some x):FitR x∧x.left.length≤9000∧x.cells.length≤9000:=by
 obtain⟨hm,hl,hx⟩:=line_rule cellLaw h
 obtain⟨q,d,hq,h1,h8,hlf,hc,h5,h6⟩:=may_parts hm
 have e1:=left_len hlf
 obtain⟨-,e2,e3⟩:=prC_lt hc
 have hb:∀ b ∈ x.left,b<256:=fun b hb=>ht b (by
  rw[← hl];unfold lineR
  simp only[List.mem_append,List.mem_cons]
  exact .inr (.inr (.inl hb)))
 refine⟨⟨⟨by rw[hq];omega,by rw[hq];omega⟩,?_,⟨by rw[hx];omega,by rw[hx];omega⟩,hb,e2,Nat.le_trans e1 (by decide),Nat.le_trans e3 (by decide)⟩,by omega,by omega⟩
 rcases Nat.lt_or_ge 5 q with hq5 | hq5
 ·rw[h6 hq5];exact⟨by decide,by decide⟩
 ·obtain⟨p,hp,hp9⟩:=h5 hq5
  rw[hp];exact⟨by omega,by omega⟩
theorem go_fits:∀ (m:List (List Nat)) (n:Nat) (acc:List Rl),(∀ t ∈ m,∀ b ∈ t,b<256)→n+m.length≤100000→(∀ x ∈ acc,FitR x∧x.left.length≤9000∧x.cells.length≤9000)→∀ x ∈ (goP psC m n acc).1,FitR x∧x.left.length≤9000∧x.cells.length≤9000
 | [],n,acc,_,_,h=>h
 | t::m,n,acc,hm,hn,h=>by
  rw[List.length_cons]at hn
  have hm2:=fun t' ht'=>hm t' (List.mem_cons_of_mem _ ht')
  by_cases hs:t=[]∨t.head?=some 35
  ·rw[go_skip hs];exact go_fits m (n+1) acc hm2 (by omega) h
  ·cases hr:ruleA psC t n with
   | none=>rw[go_bad hs hr];intro x hx;cases hx
   | some x =>
    rw[go_rule hs hr]
    by_cases h4:acc.length=400
    ·rw[if_pos h4];intro x hx;cases hx
    ·rw[if_neg h4]
     refine go_fits m (n+1) _ hm2 (by omega) fun y hy=>?_
     rcases List.mem_append.1 hy with hy | hy
     ·exact h y hy
     ·rw[List.mem_singleton.1 hy]
      exact rule_fits (hm t (List.mem_cons_self ..)) (by omega) hr
theorem split_length (c:Nat) (L:List Nat):(splitL c L).length≤L.length+1:=by
 rw[← split_sum c L]
 induction splitL c L with
 | nil=>exact Nat.le_refl _
 | cons a m ih=>rw[List.map_cons,List.sum_cons,List.length_cons];omega
theorem parse_fits {s:ByteArray} {r:List Rl × Nat × Nat} (h:parseZ s=r):∀ x ∈ r.1,FitR x∧x.left.length≤9000∧x.cells.length≤9000:=by
 subst h
 unfold parseZ parseR
 by_cases h6:65536<(bytesN s).length
 ·rw[if_pos h6];intro x hx;cases hx
 ·rw[if_neg h6]
  exact go_fits _ 1 [] (split_lt (bytesN_lt s)) (by have:=split_length 10 (bytesN s);omega) (fun x hx=>by cases hx)
end Go.Proofs.YtlgejmcihchngaaGreatDoor.Ru
namespace Go.Proofs.YtlgejmcihchngaaGreatDoor.Ru
open Go.RowKit Ba
theorem wpList_append_zero {P:Program} (w:World) {ops:Array Oper} {rest:List Oper} {o:Oper} {a:Act} {Q:Exit→Act→World→Prop} (hg:o.guard=none) (s x:Operand) (t:TypeId) (hop:o.op=Op.call { callee:=Callee.builtin Builtin.append,args:=#[s,x],argTypes:=#[t,t] })
  (base:Nat) (e:TypeId) (i:TypeInfo) (size:Nat) (h1:P.underlying t=some (.slice e)) (h2:P.info? e=some i) (v:Value) (n:Nat) (xs:List Value) (hs:a.eval s=v) (hown:w.ownsRow base e size v n xs) (A:Option Addr) (c:Nat) (hx:a.eval x=.slice A 0 c) (hK:wpList P ops Q rest (a.put o.dst v) w) :
  wpList P ops Q (o::rest) a w:=by
 refine wpList_plain hg fun K hK'=>?_
 have hrun:(Builtin.append_ #[t,t] o.type #[v,.slice A 0 c]).run P w=.ok v w:=by
  rcases hown.2 with⟨rfl,rfl⟩ | ⟨g,cap,cur,rfl,_,_,hnc,_⟩<;>cases A <;>
   simp[Builtin.append_,run_underlying h1,sizeOf,typeInfo,Builtin.lenOf,Builtin.firstCells,storeCells,loadCells,loadCellsFrom, *]
 unfold Oper.wp
 simp[execOp,hop,resolve,invoke,builtin,hs,hx,hrun,Result.andThen]
 exact hK' _ _ hK
theorem own_formR {w:World} {B e size n:Nat} {v:Value} {xs:List Value} (h:w.ownsRow B e size v n xs):∃ A c,v=.slice A n c∧n≤c∧c≤maxLen∧(0<n→∃ g,A=some ⟨g,0,none⟩∧B≤g):=by
 rcases h.2 with⟨rfl,rfl⟩ | ⟨g,cap,cur,rfl,h0,_,h1,h2,_⟩
 ·exact⟨none,0,rfl,Nat.le_refl _,Nat.zero_le _,fun h=>by omega⟩
 ·exact⟨_,_,rfl,h1,h2,fun _=>⟨g,rfl,h0⟩⟩
theorem capsR_own {w:World} {B e size n:Nat} {v:Value} {xs:List Value} (h:w.ownsRow B e size v n xs):CapsR v:=by
 obtain⟨A,c,rfl,h1,h2,-⟩:=own_formR h
 intro A' n' c' e
 injection e with _ e1 e2
 subst e1;subst e2
 exact⟨h1,h2⟩
theorem cells_newsR {g off:Nat} {w:World} {l:List Rl} (h:∀ k x,l[k]?=some x→∀ j u,(cR x)[j]?=some u→w.cell? ⟨g,off+(k * 5+j),none⟩=some u) :
  ∀ j u,(rows cR l)[j]?=some u→w.cell? ((⟨g,off,none⟩:Addr).add j)=some u:=by
 intro j u hu
 have hj:j<(rows cR l).length:=(List.getElem?_eq_some_iff.1 hu).1
 rw[rows_length cR cR_len]at hj
 have hk:j / 5<l.length:=by omega
 have e:=rows_at cR cR_len l (j / 5) _ (List.getElem?_eq_getElem hk) (j % 5) (Nat.mod_lt _ (by omega))
 have e2:j / 5 * 5+j % 5=j:=by omega
 rw[e2,hu]at e
 have:=h (j / 5) _ (List.getElem?_eq_getElem hk) (j % 5) u e.symm
 rw[e2]at this
 have e3:(⟨g,off,none⟩:Addr).add j=⟨g,off+j,none⟩:=by unfold Addr.add;split<;>simp_all
 rw[e3];exact this
theorem rows_cellsR (l:List Rl):∀ u ∈ rows cR l,u.oneCell'=true:=by
 intro u hu
 unfold rows at hu
 rw[List.mem_flatMap]at hu
 obtain⟨x,_,hx⟩:=hu
 simp[cR]at hx
 rcases hx with rfl | rfl | rfl | rfl | rfl<;>rfl
theorem str_cell {W:World} {B g n c k:Nat} {l:List (List Nat)} {s:List Nat} (h:W.ownsRow B 9 1 (.slice (some ⟨g,0,none⟩) n c) n (rows cS l)) (hk:k<n) (hs:l[k]?=some s):W.cell? ⟨g,k,none⟩=some (.string (bytesOf s)):=by
 rw[h.cellAt k (by omega)]
 have:=rows_at cS cS_len l k s hs 0 (by omega)
 rw[Nat.mul_one,Nat.add_zero]at this
 exact this
theorem wpList_append_rules (w:World) {ops:Array Oper} {rest:List Oper} {o:Oper} {a:Act} {Q:Exit→Act→World→Prop} (hgd:o.guard=none) (s x:Operand)
  (ho:o.op=.call { callee:=.builtin .append,args:=#[s,x],argTypes:=#[22,22] })
  (v0:Value) (hs:a.eval s=v0) (B:Nat) (hown:w.ownsRow B 50 5 v0 0 []) (hB:B≤w.heap.size) (A:Option Addr) (n c off B':Nat) (l:List Rl) (hx:a.eval x=.slice A n c) (hl:l.length=n) (hn:n≤9000) (hr:ReadsR off w B' (.slice A n c) l)
  (h:∀ v' w',w'.ownsRow B 50 5 v' n (rows cR l)→w.grownBy w' v0.ownBlock→wpList Tryz.prog ops Q rest (a.put o.dst v') w'):wpList Tryz.prog ops Q (o::rest) a w:=by
 obtain⟨i0,hi0,hz0,hz1,hz2⟩:=info_parts infoR
 rcases Nat.eq_zero_or_pos n with h0 | h0
 ·subst h0
  have:l=[]:=List.length_eq_zero_iff.1 hl
  subst this
  exact wpList_append_zero w hgd s x _ ho B _ i0 5 Tryz.underlying22 hi0 v0 0 [] hs hown A c hx (h v0 w hown ⟨rfl,rfl,rfl,Nat.le_refl _,fun _ _ _=>rfl⟩)
 ·obtain⟨A',c',e,hA⟩:=hr
  injection e with e1 e2 e3
  subst e1
  obtain⟨g,rfl,-,hc⟩:=hA (by omega)
  refine wpList_append_own w hgd s x _ ho B _ i0 _ 5 56 Tryz.underlying22 hi0 hz0 hz1 hz2 rfl (by decide) v0 0 [] hs hown ⟨g,off,none⟩ n c (rows cR l) hx (by rw[rows_length cR cR_len,hl]) (cells_newsR hc) (rows_cellsR l) (by unfold maxLen;omega) (by omega) hB ?_
  intro v' w' h1 h2 _
  rw[Nat.zero_add,List.nil_append]at h1
  exact h v' w' h1 h2
theorem wpList_append_more (w:World) {ops:Array Oper} {rest:List Oper} {o:Oper} {a:Act} {Q:Exit→Act→World→Prop} (hgd:o.guard=none) (s x:Operand)
  (ho:o.op=.call { callee:=.builtin .append,args:=#[s,x],argTypes:=#[22,22] })
  (v0:Value) (hs:a.eval s=v0) (B k:Nat) (xs:List Rl) (_hk:xs.length=k) (hown:w.ownsRow B 50 5 v0 k (rows cR xs)) (hB:B≤w.heap.size) (A:Option Addr) (n c off B':Nat) (l:List Rl) (hx:a.eval x=.slice A n c) (hl:l.length=n) (hn:k+n≤9000) (hr:ReadsR off w B' (.slice A n c) l)
  (h:∀ v' w',w'.ownsRow B 50 5 v' (k+n) (rows cR (xs++l))→w.grownBy w' v0.ownBlock→wpList Tryz.prog ops Q rest (a.put o.dst v') w'):wpList Tryz.prog ops Q (o::rest) a w:=by
 obtain⟨i0,hi0,hz0,hz1,hz2⟩:=info_parts infoR
 rcases Nat.eq_zero_or_pos n with h0 | h0
 ·subst h0
  have:l=[]:=List.length_eq_zero_iff.1 hl
  subst this
  exact wpList_append_zero w hgd s x _ ho B _ i0 5 Tryz.underlying22 hi0 v0 k _ hs hown A c hx (h v0 w (by rw[List.append_nil];exact hown) ⟨rfl,rfl,rfl,Nat.le_refl _,fun _ _ _=>rfl⟩)
 ·obtain⟨A',c',e,hA⟩:=hr
  injection e with e1 e2 e3
  subst e1
  obtain⟨g,rfl,-,hc⟩:=hA (by omega)
  refine wpList_append_own w hgd s x _ ho B _ i0 _ 5 56 Tryz.underlying22 hi0 hz0 hz1 hz2 rfl (by decide) v0 k _ hs hown ⟨g,off,none⟩ n c (rows cR l) hx (by rw[rows_length cR cR_len,hl]) (cells_newsR hc) (rows_cellsR l) (by unfold maxLen;omega) (by omega) hB ?_
  intro v' w' h1 h2 _
  rw[← rows_append]at h1
  exact h v' w' h1 h2
theorem wpList_append_by {P:Program} (w w':World) {ops:Array Oper} {rest:List Oper} {o:Oper} {a:Act} {Q:Exit→Act→World→Prop} (hg:o.guard=none) (s x:Operand) (t1 t2:TypeId) (hop:o.op=Op.call { callee:=Callee.builtin Builtin.append,args:=#[s,x],argTypes:=#[t1,t2] })
  (v y r:Value) (hs:a.eval s=v) (hx:a.eval x=y) (hrun:(Builtin.append_ #[t1,t2] o.type #[v,y]).run P w=.ok r w') (hK:wpList P ops Q rest (a.put o.dst r) w'):wpList P ops Q (o::rest) a w:=by
 refine wpList_plain hg fun K hK'=>?_
 unfold Oper.wp
 simp[execOp,hop,resolve,invoke,builtin,hs,hx,hrun,Result.andThen]
 exact hK' _ _ hK
end Go.Proofs.YtlgejmcihchngaaGreatDoor.Ru
