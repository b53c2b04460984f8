/-
  Put together.
-/
import Derived.Test.YthbigkoihpgcfaaGreatDoorHcA
import Derived.Test.YthbigkoihpgcfaaGreatDoorQe
import Derived.Test.YthbigkoihpgcfaaGreatDoorRuH
import Derived.Lib.SliceRun
import Derived.Lib.AppendZerosOnto
import Derived.Lib.Explode
open Go.Lib (hid)
set_option maxRecDepth 100000
set_option maxHeartbeats 16000000
namespace Go.Proofs.YthbigkoihpgcfaaGreatDoor.Ru
open Go.RowKit Ba
theorem jN (a b:List Nat):bytesOf (a++b)=bytesOf a++bytesOf b:=Ce.yB a b
theorem TM {x:Rl} (h:nM dM x=true):∃ (q:Nat) (t:List Nat),x.aE=(q:Int)∧1≤q∧q≤8∧aX q x.left=true∧dM x.cells=some t∧(q≤5→∃ p:Nat,x.prio=(p:Int)∧p≤99)∧(5<q→x.prio=0):=by
 unfold nM at h
 simp only[Bool.and_eq_true,decide_eq_true_eq]at h
 obtain⟨⟨⟨⟨h1,h8⟩,hl⟩,hc⟩,hp⟩:=h
 obtain⟨q,hq⟩:=Int.eq_ofNat_of_zero_le (show 0≤x.aE by omega)
 obtain⟨t,ht⟩:=Option.isSome_iff_exists.1 hc
 rw[hq,Int.toNat_natCast]at hl
 refine⟨q,t,hq,by omega,by omega,hl,ht,fun h5=>?_,fun h5=>?_⟩
 ·rw[if_pos (by omega)]at hp
  have hp:0≤x.prio∧x.prio≤99:=by simpa using hp
  obtain⟨p,hp2⟩:=Int.eq_ofNat_of_zero_le hp.1
  exact⟨p,hp2,by omega⟩
 ·rw[if_neg (by omega)]at hp
  simpa using hp
theorem pE {q:Nat} {s:List Nat} (h:aX q s=true):s.length≤12:=by
 unfold aX at h
 by_cases h5:q≤5
 ·rw[if_pos h5,Bool.and_eq_true,decide_eq_true_eq]at h
  exact h.1.2
 rw[if_neg h5]at h
 by_cases h6:q=6
 ·rw[if_pos h6]at h
  match s,h with
  | [b],_=>simp
 rw[if_neg h6]at h
 by_cases h7:q=7
 ·rw[if_pos h7]at h
  match s,h with
  | [b],_=>simp
 rw[if_neg h7,List.contains_iff_mem]at h
 have:∀ s ∈ bX,s.length≤12:=by decide +kernel
 exact this s h
def sO (x:Rl):Bool:=decide (50<x.left.length) || decide (50<x.cells.length)
theorem aEA {c t:List Nat} (h:dM c=some t):(∀ b ∈ t,b<256)∧(∀ b ∈ c,b<256)∧c.length≤4:=by
 unfold dM at h
 split at h
 ·rename_i hk
  cases h
  exact⟨Ce.mN c,hk.1,by have h2:=hk.2.2.1;have h3:(Ce.bytesOf c).size=c.length:=Ce.aF c;omega⟩
 ·cases h
theorem TN {t:List Nat} (ht:∀ b ∈ t,b<256) {n:Nat} (hn:n≤100000) {x:Rl} (h:dI kP t n=some x):eN x∧x.left.length≤9000∧x.cells.length≤9000:=by
 obtain⟨hm,hl,hx⟩:=TE aB2 h
 obtain⟨q,d,hq,h1,h8,hlf,hc,h5,h6⟩:=TM hm
 have e1:=pE hlf
 obtain⟨-,e2,e3⟩:=aEA hc
 have hb:∀ b ∈ x.left,b<256:=fun b hb=>ht b (by
  rw[← hl];unfold P1
  simp only[List.mem_append,List.mem_cons]
  exact .inr (.inr (.inl hb)))
 refine⟨⟨⟨by rw[hq];omega,by rw[hq];omega⟩,?_,⟨by rw[hx];omega,by rw[hx];omega⟩,hb,e2,Nat.le_trans e1 (by decide),Nat.le_trans e3 (by decide)⟩,by omega,by omega⟩
 rcases Nat.lt_or_ge 5 q with hq5 | hq5
 ·rw[h6 hq5];exact⟨by decide,by decide⟩
 ·obtain⟨p,hp,hp9⟩:=h5 hq5
  rw[hp];exact⟨by omega,by omega⟩
theorem FD:∀ (m:List (List Nat)) (n:Nat) (acc:List Rl),(∀ t ∈ m,∀ b ∈ t,b<256)→n+m.length≤100000→(∀ x ∈ acc,eN x∧x.left.length≤9000∧x.cells.length≤9000)→∀ x ∈ (F5 kP m n acc).1,eN x∧x.left.length≤9000∧x.cells.length≤9000
 | [],n,acc,_,_,h=>h
 | t::m,n,acc,hm,hn,h=>by
  rw[List.length_cons]at hn
  have hm2:=fun t' ht'=>hm t' (List.mem_cons_of_mem _ ht')
  by_cases hs:t=[]∨t.head?=some 35
  ·rw[tH hs];exact FD m (n+1) acc hm2 (by omega) h
  ·cases hr:dI kP t n with
   | none=>rw[N7 hs hr];intro x hx;cases hx
   | some x =>
    rw[tI hs hr]
    by_cases h4:acc.length=400
    ·rw[if_pos h4];intro x hx;cases hx
    ·rw[if_neg h4]
     refine FD m (n+1) _ hm2 (by omega) fun y hy=>?_
     rcases List.mem_append.1 hy with hy | hy
     ·exact h y hy
     ·rw[List.mem_singleton.1 hy]
      exact TN (hm t (List.mem_cons_self ..)) (by omega) hr
theorem FE (c:Nat) (L:List Nat):(bF c L).length≤L.length+1:=by
 rw[← vK c L]
 induction bF c L with
 | nil=>exact Nat.le_refl _
 | cons a m ih=>rw[List.map_cons,List.sum_cons,List.length_cons];omega
theorem LW {s:ByteArray} {r:List Rl × Nat × Nat} (h:nO s=r):∀ x ∈ r.1,eN x∧x.left.length≤9000∧x.cells.length≤9000:=by
 subst h
 unfold nO N6
 by_cases h6:65536<(aA s).length
 ·rw[if_pos h6];intro x hx;cases hx
 ·rw[if_neg h6]
  exact FD _ 1 [] (tK (iT s)) (by have:=FE 10 (aA s);omega) (fun x hx=>by cases hx)
theorem lE {P:Program} (w:World) {ops:Array Oper} {rest:List Oper} {o:Oper} {a:Act} {Q:Exit→Act→World→Prop} (hg:o.guard=none) (s x:Operand) (t:TypeId) (hop:o.op=Op.call { callee:=Callee.builtin Builtin.append,args:=#[s,x],argTypes:=#[t,t] })
  (base:Nat) (e:TypeId) (i:TypeInfo) (size:Nat) (h1:P.underlying t=some (.slice e)) (h2:P.info? e=some i) (v:Value) (n:Nat) (xs:List Value) (hs:a.eval s=v) (hown:w.ownsRow base e size v n xs) (A:Option Addr) (c:Nat) (hx:a.eval x=.slice A 0 c) (hK:wpList P ops Q rest (a.put o.dst v) w) :
  wpList P ops Q (o::rest) a w:=by
 refine wpList_plain hg fun K hK'=>?_
 have hrun:(Builtin.append_ #[t,t] o.type #[v,.slice A 0 c]).run P w=.ok v w:=by
  rcases hown.2 with⟨rfl,rfl⟩ | ⟨g,cap,cur,rfl,_,_,hnc,_⟩<;>cases A <;>
   simp[Builtin.append_,run_underlying h1,sizeOf,typeInfo,Builtin.lenOf,Builtin.firstCells,storeCells,loadCells,loadCellsFrom, *]
 unfold Oper.wp
 simp[execOp,hop,resolve,invoke,builtin,hs,hx,hrun,Result.andThen]
 exact hK' _ _ hK
theorem aN {w:World} {B e size n:Nat} {v:Value} {xs:List Value} (h:w.ownsRow B e size v n xs):∃ A c,v=.slice A n c∧n≤c∧c≤maxLen∧(0<n→∃ g,A=some ⟨g,0,none⟩∧B≤g):=by
 rcases h.2 with⟨rfl,rfl⟩ | ⟨g,cap,cur,rfl,h0,_,h1,h2,_⟩
 ·exact⟨none,0,rfl,Nat.le_refl _,Nat.zero_le _,fun h=>by omega⟩
 ·exact⟨_,_,rfl,h1,h2,fun _=>⟨g,rfl,h0⟩⟩
theorem xC {g off:Nat} {w:World} {l:List Rl} (h:∀ k x,l[k]?=some x→∀ j u,(cR x)[j]?=some u→w.cell? ⟨g,off+(k * 5+j),none⟩=some u) :
  ∀ j u,(rows cR l)[j]?=some u→w.cell? ((⟨g,off,none⟩:Addr).add j)=some u:=by
 intro j u hu
 have hj:j<(rows cR l).length:=(List.getElem?_eq_some_iff.1 hu).1
 rw[dA cR iA]at hj
 have hk:j / 5<l.length:=by omega
 have e:=fE cR iA l (j / 5) _ (List.getElem?_eq_getElem hk) (j % 5) (Nat.mod_lt _ (by omega))
 have e2:j / 5 * 5+j % 5=j:=by omega
 rw[e2,hu]at e
 have:=h (j / 5) _ (List.getElem?_eq_getElem hk) (j % 5) u e.symm
 rw[e2]at this
 have e3:(⟨g,off,none⟩:Addr).add j=⟨g,off+j,none⟩:=by unfold Addr.add;split<;>simp_all
 rw[e3];exact this
theorem pP (l:List Rl):∀ u ∈ rows cR l,u.oneCell'=true:=by
 intro u hu
 unfold rows at hu
 rw[List.mem_flatMap]at hu
 obtain⟨x,_,hx⟩:=hu
 simp[cR]at hx
 rcases hx with rfl | rfl | rfl | rfl | rfl<;>rfl
theorem VE {W:World} {B g n c k:Nat} {l:List (List Nat)} {s:List Nat} (h:W.ownsRow B 9 1 (.slice (some ⟨g,0,none⟩) n c) n (rows cS l)) (hk:k<n) (hs:l[k]?=some s):W.cell? ⟨g,k,none⟩=some (.string (bytesOf s)):=by
 rw[h.cellAt k (by omega)]
 have:=fE cS FA l k s hs 0 (by omega)
 rw[Nat.mul_one,Nat.add_zero]at this
 exact this
theorem qV (w:World) {ops:Array Oper} {rest:List Oper} {o:Oper} {a:Act} {Q:Exit→Act→World→Prop} (hgd:o.guard=none) (s x:Operand)
  (ho:o.op=.call { callee:=.builtin .append,args:=#[s,x],argTypes:=#[22,22] })
  (v0:Value) (hs:a.eval s=v0) (B:Nat) (hown:w.ownsRow B 48 5 v0 0 []) (hB:B≤w.heap.size) (A:Option Addr) (n c off B':Nat) (l:List Rl) (hx:a.eval x=.slice A n c) (hl:l.length=n) (hn:n≤9000) (hr:dZ off w B' (.slice A n c) l)
  (h:∀ v' w',w'.ownsRow B 48 5 v' n (rows cR l)→w.grownBy w' v0.ownBlock→wpList Tryz.prog ops Q rest (a.put o.dst v') w'):wpList Tryz.prog ops Q (o::rest) a w:=by
 obtain⟨i0,hi0,hz0,hz1,hz2⟩:=info_parts B4
 rcases Nat.eq_zero_or_pos n with h0 | h0
 ·subst h0
  have:l=[]:=List.length_eq_zero_iff.1 hl
  subst this
  exact lE w hgd s x _ ho B _ i0 5 Tryz.underlying22 hi0 v0 0 [] hs hown A c hx (h v0 w hown ⟨rfl,rfl,rfl,Nat.le_refl _,fun _ _ _=>rfl⟩)
 ·obtain⟨A',c',e,hA⟩:=hr
  injection e with e1 e2 e3
  subst e1
  obtain⟨g,rfl,-,hc⟩:=hA (by omega)
  refine wpList_append_own w hgd s x _ ho B _ i0 _ 5 56 Tryz.underlying22 hi0 hz0 hz1 hz2 rfl (by decide) v0 0 [] hs hown ⟨g,off,none⟩ n c (rows cR l) hx (by rw[dA cR iA,hl]) (xC hc) (pP l) (by unfold maxLen;omega) (by omega) hB ?_
  intro v' w' h1 h2 _
  rw[Nat.zero_add,List.nil_append]at h1
  exact h v' w' h1 h2
theorem rK (w:World) {ops:Array Oper} {rest:List Oper} {o:Oper} {a:Act} {Q:Exit→Act→World→Prop} (hgd:o.guard=none) (s x:Operand)
  (ho:o.op=.call { callee:=.builtin .append,args:=#[s,x],argTypes:=#[22,22] })
  (v0:Value) (hs:a.eval s=v0) (B k:Nat) (xs:List Rl) (_hk:xs.length=k) (hown:w.ownsRow B 48 5 v0 k (rows cR xs)) (hB:B≤w.heap.size) (A:Option Addr) (n c off B':Nat) (l:List Rl) (hx:a.eval x=.slice A n c) (hl:l.length=n) (hn:k+n≤9000) (hr:dZ off w B' (.slice A n c) l)
  (h:∀ v' w',w'.ownsRow B 48 5 v' (k+n) (rows cR (xs++l))→w.grownBy w' v0.ownBlock→wpList Tryz.prog ops Q rest (a.put o.dst v') w'):wpList Tryz.prog ops Q (o::rest) a w:=by
 obtain⟨i0,hi0,hz0,hz1,hz2⟩:=info_parts B4
 rcases Nat.eq_zero_or_pos n with h0 | h0
 ·subst h0
  have:l=[]:=List.length_eq_zero_iff.1 hl
  subst this
  exact lE w hgd s x _ ho B _ i0 5 Tryz.underlying22 hi0 v0 k _ hs hown A c hx (h v0 w (by rw[List.append_nil];exact hown) ⟨rfl,rfl,rfl,Nat.le_refl _,fun _ _ _=>rfl⟩)
 ·obtain⟨A',c',e,hA⟩:=hr
  injection e with e1 e2 e3
  subst e1
  obtain⟨g,rfl,-,hc⟩:=hA (by omega)
  refine wpList_append_own w hgd s x _ ho B _ i0 _ 5 56 Tryz.underlying22 hi0 hz0 hz1 hz2 rfl (by decide) v0 k _ hs hown ⟨g,off,none⟩ n c (rows cR l) hx (by rw[dA cR iA,hl]) (xC hc) (pP l) (by unfold maxLen;omega) (by omega) hB ?_
  intro v' w' h1 h2 _
  rw[← lN]at h1
  exact h v' w' h1 h2
theorem uL {P:Program} (w w':World) {ops:Array Oper} {rest:List Oper} {o:Oper} {a:Act} {Q:Exit→Act→World→Prop} (hg:o.guard=none) (s x:Operand) (t1 t2:TypeId) (hop:o.op=Op.call { callee:=Callee.builtin Builtin.append,args:=#[s,x],argTypes:=#[t1,t2] })
  (v y r:Value) (hs:a.eval s=v) (hx:a.eval x=y) (hrun:(Builtin.append_ #[t1,t2] o.type #[v,y]).run P w=.ok r w') (hK:wpList P ops Q rest (a.put o.dst r) w'):wpList P ops Q (o::rest) a w:=by
 refine wpList_plain hg fun K hK'=>?_
 unfold Oper.wp
 simp[execOp,hop,resolve,invoke,builtin,hs,hx,hrun,Result.andThen]
 exact hK' _ _ hK
end Go.Proofs.YthbigkoihpgcfaaGreatDoor.Ru
namespace Go.Proofs.YthbigkoihpgcfaaGreatDoor.Ck
open Go.RowKit Ba Ru
theorem xP (q:Int) (ls:List (List Nat)) (B g n c:Nat) (hn:ls.length=n) (hn9:n≤1000) (w:World) (_hB:B≤w.heap.size) (hown:w.ownsRow B 9 1 (.slice (some ⟨g,0,none⟩) n c) n (rows cS ls)) :
  Calls Tryz.prog 119 #[.int .i64 q,.slice (some ⟨g,0,none⟩) n c] w fun e w'=>∃ v,e=.returned v∧w'.ownsRow w.heap.size 48 5 v n (rows cR (eG q ls))∧Below w.heap.size w w':=by
 obtain⟨i0,hi0,hz0,hz1,hz2⟩:=info_parts B4
 have HO:=hid hown
 have HN:=hid hn
 clear hown hn
 go_enter Tryz.func119,Tryz.ntmps119
 go_wp2
 go_loopw [5,10] (fun v i wr=>∃ k:Nat,i=.int .i64 (k:Int)∧k≤n∧wr.ownsRow w.heap.size 48 5 v k (rows cR (eG q (ls.take k)))∧Below w.heap.size w wr) (fun _ i _=>n - (intOf i).toNat)
 case atStart=>exact⟨0,rfl,Nat.zero_le _,World.ownsRow_nil _ _ _ _,Below.refl _ _⟩
 case round =>
  obtain⟨k,rfl,hkn,how,hB1⟩:=hrel
  by_cases hlt:k<n
  ·obtain⟨s,hs⟩:∃ s,ls[k]?=some s:=⟨_,List.getElem?_eq_getElem (by rw[HN.out];exact hlt)⟩
   have hc:wr.cell? ⟨g,k,none⟩=some (.string (bytesOf s)):=VE (a6 HO.out (show Below w.heap.size w wr from hB1)) hlt hs
   have HNX:=hid (show eG q (ls.take (k+1))=eG q (ls.take k)++[⟨q,s,[],0,0⟩] from by
    unfold eG
    rw[List.take_add_one,hs,Option.toList_some,List.map_append];rfl)
   have HOW:=hid how
   have HBW:=hid hB1
   have HLT:=hid how.lt
   obtain⟨S,hS⟩:∃ S,bytesOf s=S:=⟨_,rfl⟩
   have HRW:=hid (show rows cR (eG q (ls.take k)++[⟨q,s,[],0,0⟩])=rows cR (eG q (ls.take k))++[.int .i64 q,.string S,.string { data:=#[] },.int .i64 0,.int .i64 0] from by
    rw[uK,← hS];rfl)
   rw[hS]at hc
   have hsz:=hB1.size
   have k0:(0:Int)≤(k:Int):=by omega
   have k1:(k:Int)<(n:Int):=by omega
   obtain⟨A5,c5,rfl,-⟩:=lR how
   clear hs hS how hB1
   go_wp2_with (at_builtin;refine wpList_append_own _ rfl _ _ 22 rfl w.heap.size 48 i0 _ 5 56 Tryz.underlying22 hi0 hz0 hz1 hz2 rfl (by decide) _ _ _ rfl (HOW.out.alloc _) ⟨wr.heap.size,0,none⟩ 1 1 [.int .i64 q,.string S,.string { data:=#[] },.int .i64 0,.int .i64 0] rfl rfl (World.news_of_block (cs:=#[.int .i64 q,.string S,.string { data:=#[] },.int .i64 0,.int .i64 0]) (t:=48) (fr:=(0,0)) (heap_alloc_new wr _)) (by simp[Value.oneCell']) (by unfold maxLen;omega) (by omega) (by simp;omega) ?_;intro v' w8 hown' hgrow _;have HF:=hid (show w8.ownsRow w.heap.size 48 5 v' (k+1) (rows cR (eG q (ls.take (k+1))))∧Below w.heap.size w w8 from ⟨by rw[HNX.out,HRW.out];exact hown',(HBW.out.alloc hsz _).grown hgrow (by simp;omega) (fun j ej=>(HLT.out j ej).1)⟩);clear hown' hgrow)
   go_roundw
   case rel=>exact⟨k+1,by go_num,by omega,HF.out.1,HF.out.2⟩
   case measure=>simp[intOf];omega
  ·have HE:=hid (show wr.ownsRow w.heap.size 48 5 u5 n (rows cR (eG q ls)) from by
    obtain rfl:k=n:=by omega
    rw[List.take_of_length_le (by rw[HN.out];exact Nat.le_refl _)]at how
    exact how)
   have HBW:=hid hB1
   have t1:decide ((k:Int)<(n:Int))=false:=decide_eq_false (by omega)
   clear how hB1
   go_wp2
   go_ret
   exact⟨_,rfl,HE.out,HBW.out⟩
theorem BF (b:UInt8):(bytesOf [b.toNat]).data.toList=[b]:=by
 unfold bytesOf
 simp
theorem L7 (s:ByteArray):(Lib.charsB s).map Value.string=rows cS ((aA s).map fun b=>[b]):=by
 have e:Lib.charsB s=((aA s).map fun b=>[b]).map bytesOf:=by
  refine(List.map_inj_right (f:=fun x:ByteArray=>x.data.toList) (fun x y h=>?_)).1 ?_
  ·exact ByteArray.ext (Array.ext' h)
  ·rw[Lib.chars_data]
   unfold aA
   rw[List.map_map,List.map_map,List.map_map]
   refine List.map_congr_left fun b _=>?_
   exact(BF b).symm
 rw[e]
 generalize (aA s).map (fun b=>[b])=l
 induction l with
 | nil=>rfl
 | cons x l ih=>rw[fV,List.map_cons,List.map_cons,ih];rfl
theorem pA (s:ByteArray) (hs:s.size≤1000) (ha:∀ (j:Nat) b,s.data.toList[j]?=some b→b.toNat<128) (w:World) :
  Calls Tryz.prog 120 #[.string s,.string { data:=#[] }] w fun e w'=>∃ g,e=.returned (.slice (some ⟨g,0,none⟩) s.size s.size)∧w'.ownsRow w.heap.size 9 1 (.slice (some ⟨g,0,none⟩) s.size s.size) s.size (rows cS ((aA s).map fun b=>[b]))∧Below w.heap.size w w':=by
 refine(Tryz.strings_Split_chars s { data:=#[] } w rfl (by omega) ha).mono ?_
 rintro e w' ⟨rfl,rfl⟩
 have hb:Below w.heap.size w (w.iter s s.size):=(Below.refl _ w).alloc (Nat.le_refl _) _
 refine⟨_,rfl,?_,hb.alloc hb.size _⟩
 rw[← L7]
 refine World.ownsRow_lit (base:=w.heap.size) (e:=9) (size:=1) (w.iter s s.size) ((Lib.charsB s).map Value.string).toArray s.size hb.size (by unfold maxLen;omega) ?_
 rw[List.size_toArray,List.length_map,Nat.mul_one]
 exact Lib.charsUpTo_length s s.size
theorem aAN (n:Nat) (h0:0<n) (hn9:n≤1000) (w:World) :
  Calls Tryz.prog 158 #[.slice none 0 0,.int .i64 (n:Int)] w fun e w'=>∃ v,e=.returned v∧w'.ownsRow w.heap.size 48 5 v 0 []∧Below w.heap.size w w':=by
 obtain⟨i0,hi0,hz0,hz1,hz2⟩:=info_parts B4
 have hrun:=fun(W:World) (ty:TypeId)=>Lib.run_append_grow_zeros (P:=Tryz.prog) W 22 3 ty 48 i0 _ .i64 .i64 Tryz.underlying22 Tryz.underlying3 hi0 hz0 none 0 0 [] (run_firstCells_none W.drew i0.size 0 0 0) n h0 (by omega) (by omega) (by omega) (by rw[hz2];omega) (by rw[hz2];simp[Builtin.nextslicecap,h0];omega)
 obtain⟨cp,hcp⟩:∃ cp,grownCap w (0+n) 0 48=cp:=⟨_,rfl⟩
 have hcm:cp≤maxLen:=by rw[← hcp];exact grownCap_le_maxLen _ _ _ _ (by unfold maxLen;omega)
 have hrun0:=fun ty=>hrun w ty
 rw[hcp]at hrun0
 have HRUN:=hid hrun0
 clear hrun hrun0
 have t0:decide ((n:Int)<0)=false:=decide_eq_false (by omega)
 have t1:decide ((0:Int)<(n:Int))=true:=decide_eq_true (by omega)
 have hcl:([].toArray++Builtin.zeroCells (Value.agg #[.int .i64 0,.string { data:=#[] },.string { data:=#[] },.int .i64 0,.int .i64 0]).cells n++Builtin.zeroCells (Value.agg #[.int .i64 0,.string { data:=#[] },.string { data:=#[] },.int .i64 0,.int .i64 0]).cells (cp - (0+n))).size=cp * 5:=by
  have hge:0+n≤cp:=by rw[← hcp];exact grownCap_ge _ _ _ _
  simp[Builtin.zeroCells,Value.cells]
  omega
 have HE:=hid (show ∀ W:World,W=w.drew.alloc (.cells ([].toArray++Builtin.zeroCells (Value.agg #[.int .i64 0,.string { data:=#[] },.string { data:=#[] },.int .i64 0,.int .i64 0]).cells n++Builtin.zeroCells (Value.agg #[.int .i64 0,.string { data:=#[] },.string { data:=#[] },.int .i64 0,.int .i64 0]).cells (cp - (0+n))) 48) →
   W.ownsRow w.heap.size 48 5 (.slice (some ⟨w.heap.size,0,none⟩) 0 cp) 0 []∧Below w.heap.size w W from fun W hW=>by
  subst hW
  refine⟨⟨rfl,.inr ⟨w.heap.size,cp,_,rfl,Nat.le_refl _,heap_alloc_new w.drew _,Nat.zero_le _,hcm,hcl,rfl⟩⟩,(Below.refl _ _).drew.alloc (Nat.le_refl _) _⟩)
 clear hcl hcp
 go_enter Tryz.func158,Tryz.ntmps158
 go_wp2_with (at_builtin;refine uL _ _ rfl _ _ _ _ rfl _ _ _ rfl rfl (HRUN.out _) ?_;generalize hWW:w.drew.alloc _=WW;have HF:=hid (HE.out WW hWW.symm);clear hWW)
 go_ret
 exact⟨_,rfl,HF.out.1,HF.out.2⟩
def xQ (w:World) (B g:Nat) (parts:List (List Rl)):Prop:=∀ (i:Nat) (p:List Rl),parts[i]?=some p→0<p.length∧∃ A c,w.cell? ⟨g,i,none⟩=some (.slice A p.length c)∧dZ 0 w B (.slice A p.length c) p
theorem xQ.below {w w':World} {B g:Nat} {parts:List (List Rl)} (h:xQ w B g parts) (hb:Below B w w') (hg:g<B):xQ w' B g parts:=fun i p hp=>by
 obtain⟨h0,A,c,h1,h2⟩:=h i p hp
 exact⟨h0,A,c,(hb.cell (p:=⟨g,i,none⟩) hg).trans h1,h2.below hb⟩
theorem uM {parts:List (List Rl)} {k:Nat} {p:List Rl} (hp:parts[k]?=some p):(parts.take (k+1)).flatten=(parts.take k).flatten++p:=by
 rw[List.take_add_one,hp,Option.toList_some,List.flatten_append];simp
theorem aAO (parts:List (List Rl)) (k:Nat):(parts.take k).flatten.length≤parts.flatten.length:=by
 have e:parts.flatten=(parts.take k).flatten++(parts.drop k).flatten:=by rw[← List.flatten_append,List.take_append_drop]
 rw[e,List.length_append];omega
theorem Q3 (parts:List (List Rl)) (g c n m:Nat) (hn:parts.length=n) (hn9:n≤100) (hm:parts.flatten.length=m) (hm0:0<m) (hm9:m≤1000) (w:World) (hg:g<w.heap.size) (hp:xQ w w.heap.size g parts) :
  Calls Tryz.prog 118 #[.slice (some ⟨g,0,none⟩) n c] w fun e w'=>∃ v,e=.returned v∧w'.ownsRow w.heap.size 48 5 v m (rows cR parts.flatten)∧Below w.heap.size w w':=by
 have HP:=hid hp
 have HN:=hid hn
 have HLE:=hid (show ∀ k,(parts.take k).flatten.length≤m from fun k=>hm▸aAO parts k)
 have HFL:=hid hm
 clear hp hn hm
 go_enter Tryz.func118,Tryz.ntmps118
 go_wp2
 go_loopw [3,11] (fun s i wr=>∃ k:Nat,i=.int .i64 (k:Int)∧k≤n∧s=.int .i64 (((parts.take k).flatten.length:Nat):Int)∧wr=w) (fun _ i _=>n - (intOf i).toNat)
 case atStart=>exact⟨0,rfl,Nat.zero_le _,rfl,rfl⟩
 case round =>
  obtain⟨k,rfl,hkn,rfl,rfl⟩:=hrel
  by_cases hlt:k<n
  ·obtain⟨p,hp⟩:∃ p,parts[k]?=some p:=⟨_,List.getElem?_eq_getElem (by rw[HN.out];exact hlt)⟩
   obtain⟨-,A,c',hc,-⟩:=HP.out k p hp
   obtain⟨s,hs⟩:∃ s,(parts.take k).flatten.length=s:=⟨_,rfl⟩
   obtain⟨pl,hpl⟩:∃ s,p.length=s:=⟨_,rfl⟩
   have HNX:=hid (show (parts.take (k+1)).flatten.length=s+pl by rw[uM hp,List.length_append,hs,hpl])
   have hsm:s+pl≤m:=by rw[← HNX.out];exact HLE.out (k+1)
   rw[hs]
   rw[hpl]at hc
   have k0:(0:Int)≤(k:Int):=by omega
   have k1:(k:Int)<(n:Int):=by omega
   have t0:decide ((s:Int)+(pl:Int)<0)=false:=decide_eq_false (by omega)
   clear hp hs hpl
   go_wp2
   go_roundw
   case rel=>exact⟨k+1,by go_num,by omega,by rw[HNX.out];go_num,trivial⟩
   case measure=>simp[intOf];omega
  ·have HE:=hid (show (parts.take k).flatten.length=m from by
    obtain rfl:k=n:=by omega
    rw[List.take_of_length_le (by rw[HN.out];exact Nat.le_refl _)];exact HFL.out)
   have t1:decide ((k:Int)<(n:Int))=false:=decide_eq_false (by omega)
   rw[HE.out]
   go_wp2_with fail
   refine(aAN m hm0 hm9 _).mono ?_
   rintro e w2 ⟨v2,rfl,own2,hb2⟩
   have HO2:=hid own2
   have HB2:=hid hb2
   clear own2 hb2
   obtain⟨W0,rfl⟩:∃ W,W=wr:=⟨_,rfl⟩
   go_wp2
   go_loopw [6,27] (fun v i w3=>∃ j:Nat,i=.int .i64 (j:Int)∧j≤n∧w3.ownsRow W0.heap.size 48 5 v (parts.take j).flatten.length (rows cR (parts.take j).flatten)∧Below W0.heap.size W0 w3) (fun _ i _=>n - (intOf i).toNat)
   case atStart=>exact⟨0,rfl,Nat.zero_le _,HO2.out,HB2.out⟩
   case round =>
    obtain⟨j,rfl,hjn,how,hB3⟩:=hrel
    by_cases hjlt:j<n
    ·obtain⟨p,hp⟩:∃ p,parts[j]?=some p:=⟨_,List.getElem?_eq_getElem (by rw[HN.out];exact hjlt)⟩
     obtain⟨-,A,c',hc,hr⟩:=(HP.out.below hB3 hg) j p hp
     obtain⟨s,hs⟩:∃ s,(parts.take j).flatten.length=s:=⟨_,rfl⟩
     obtain⟨pl,hpl⟩:∃ s,p.length=s:=⟨_,rfl⟩
     have HNX:=hid (show (parts.take (j+1)).flatten=(parts.take j).flatten++p∧(parts.take (j+1)).flatten.length=s+pl from ⟨uM hp,by rw[uM hp,List.length_append,hs,hpl]⟩)
     have hsm:s+pl≤m:=by rw[← HNX.out.2];exact HLE.out (j+1)
     have HSL:=hid hs
     have HPL:=hid hpl
     rw[hs]at how
     rw[hpl]at hc hr
     have HOW:=hid how
     have HBW:=hid hB3
     have HLT:=hid how.lt
     have HR:=hid hr
     have hsz:=hB3.size
     have j0:(0:Int)≤(j:Int):=by omega
     have j1:(j:Int)<(n:Int):=by omega
     obtain⟨A5,c5,rfl,-⟩:=lR how
     clear hp hs hpl how hB3 hr
     go_wp2_with (at_builtin;refine rK _ rfl _ _ rfl _ rfl W0.heap.size s _ HSL.out HOW.out hsz A pl c' 0 W0.heap.size p rfl HPL.out (by omega) HR.out ?_;intro v' w8 hown' hgrow;have HF:=hid (show w8.ownsRow W0.heap.size 48 5 v' (parts.take (j+1)).flatten.length (rows cR (parts.take (j+1)).flatten)∧Below W0.heap.size W0 w8 from ⟨by rw[HNX.out.2,HNX.out.1];exact hown',HBW.out.grown hgrow hsz (fun j ej=>(HLT.out j ej).1)⟩);clear hown' hgrow)
     go_roundw
     case rel=>exact⟨j+1,by go_num,by omega,HF.out.1,HF.out.2⟩
     case measure=>simp[intOf];omega
    ·have HE2:=hid (show wr.ownsRow W0.heap.size 48 5 u6 m (rows cR parts.flatten) from by
      obtain rfl:j=n:=by omega
      rw[List.take_of_length_le (by rw[HN.out];exact Nat.le_refl _),HFL.out]at how
      exact how)
     have HBW:=hid hB3
     have t2:decide ((j:Int)<(n:Int))=false:=decide_eq_false (by omega)
     clear how hB3
     go_wp2
     go_ret
     exact⟨_,rfl,HE2.out,HBW.out⟩
def GZ:ByteArray:={ data:=#[97,98,99,100,101,102,103,104,105,106,107,108,109,110,111,112,113,114,115,116,117,118,119,120,121,122] }
def O6:ByteArray:={ data:=#[48,49,50,51,52,53,54,55,56,57] }
theorem yM (s:ByteArray) (h:∀ b ∈ s.data.toList,b.toNat<128) (j:Nat) (b:UInt8) (e:s.data.toList[j]?=some b):b.toNat<128:=h b (List.mem_of_getElem? e)
theorem L8:((aA GZ).map fun b=>[b])=rJ:=by decide +kernel
theorem Q4:((aA O6).map fun b=>[b])=(List.range 10).map fun i=>[48+i]:=by decide +kernel
theorem VF:((aA Ka.kV).map fun b=>[b])=Ka.fZ.map fun c=>[c]:=by decide +kernel
theorem yN {w:World} {B B' e size n:Nat} {v:Value} {xs:List Value} (h:w.ownsRow B e size v n xs) (hb:B'≤B):w.ownsRow B' e size v n xs:=by
 refine⟨h.1,?_⟩
 rcases h.2 with h | ⟨g,cap,cur,h1,h2,h3⟩
 ·exact .inl h
 ·exact .inr ⟨g,cap,cur,h1,Nat.le_trans hb h2,h3⟩
theorem sP (k:Int) (l:List (List Nat)):(eG k l).length=l.length:=by unfold eG;rw[List.length_map]
theorem Q5 (w:World):Calls Tryz.prog 121 #[] w fun e w'=>e=.returned (.string Ka.kV)∧w'=w:=by
 go_enter Tryz.func121,Tryz.ntmps121
 go_wp2
 go_ret
 exact⟨rfl,rfl⟩
theorem Q6 (w:World) (hL:dP w) :
  Calls Tryz.prog 78 #[] w fun e w'=>∃ v,e=.returned v∧w'.ownsRow w.heap.size 48 5 v 61 (rows cR GR)∧Below w.heap.size w w':=by
 have hLN:=hL.1
 have HL:=hid hL
 have HSA:=hid (show ∀ W:World,Calls Tryz.prog 120 #[.string { data:=#[97,98,99,100,101,102,103,104,105,106,107,108,109,110,111,112,113,114,115,116,117,118,119,120,121,122] },.string { data:=#[] }] W fun e w'=>∃ g,e=.returned (.slice (some ⟨g,0,none⟩) 26 26)∧w'.ownsRow W.heap.size 9 1 (.slice (some ⟨g,0,none⟩) 26 26) 26 (rows cS rJ)∧Below W.heap.size W w' from fun W=>by
  have h:=pA GZ (by decide) (yM _ (by decide +kernel)) W
  rw[L8]at h
  exact h)
 have HSM:=hid (show ∀ W:World,Calls Tryz.prog 120 #[.string Ka.kV,.string { data:=#[] }] W fun e w'=>∃ g,e=.returned (.slice (some ⟨g,0,none⟩) 12 12)∧w'.ownsRow W.heap.size 9 1 (.slice (some ⟨g,0,none⟩) 12 12) 12 (rows cS (Ka.fZ.map fun c=>[c]))∧Below W.heap.size W w' from fun W=>by
  have h:=pA Ka.kV (by decide) (yM _ (by decide +kernel)) W
  rw[VF]at h
  exact h)
 have HSD:=hid (show ∀ W:World,Calls Tryz.prog 120 #[.string { data:=#[48,49,50,51,52,53,54,55,56,57] },.string { data:=#[] }] W fun e w'=>∃ g,e=.returned (.slice (some ⟨g,0,none⟩) 10 10)∧w'.ownsRow W.heap.size 9 1 (.slice (some ⟨g,0,none⟩) 10 10) 10 (rows cS ((List.range 10).map fun i=>[48+i]))∧Below W.heap.size W w' from fun W=>by
  have h:=pA O6 (by decide) (yM _ (by decide +kernel)) W
  rw[Q4]at h
  exact h)
 clear hL
 obtain⟨M,hM⟩:∃ M,Ka.kV=M:=⟨_,rfl⟩
 have HMK:=hid (hM▸Q5)
 rw[hM]at HSM
 clear hM
 go_enter Tryz.func78,Tryz.ntmps78
 go_wp2_with fail
 refine(HSA.out _).mono ?_
 rintro e w1 ⟨g1,rfl,own1,hb1⟩
 have HE1:=hid (xP 1 rJ _ g1 26 26 (by decide) (by decide) w1 hb1.size own1)
 have HB1:=hid hb1
 clear own1 hb1
 go_wp2_with fail
 refine HE1.out.mono ?_
 rintro e w2 ⟨v2,rfl,own2,hb2⟩
 have HB2:=hid (chain HB1.out HB1.out.size hb2)
 have HV2:=hid (Reads.hO (f:=cR) (n:=5) iA (by rw[sP];rfl) own2)
 have hfo2:=aN own2
 obtain⟨A2,c2,rfl,-,-,-⟩:=hfo2
 clear own2 hb2 HE1 HB1
 go_wp2_with fail
 refine(HMK.out _).mono ?_
 rintro e w3 ⟨rfl,rfl⟩
 go_wp2_with fail
 refine(HSM.out _).mono ?_
 rintro e w4 ⟨g4,rfl,own4,hb4⟩
 have HE4:=hid (xP 6 (Ka.fZ.map fun c=>[c]) _ g4 12 12 (by decide) (by decide) w4 hb4.size own4)
 have HB4:=hid (chain HB2.out HB2.out.size hb4)
 have HV2:=hid ((HV2.out.below hb4).mono hb4.size)
 clear own4 hb4
 go_wp2_with fail
 refine HE4.out.mono ?_
 rintro e w5 ⟨v5,rfl,own5,hb5⟩
 have HB5:=hid (chain HB4.out HB4.out.size hb5)
 have HV2:=hid ((HV2.out.below hb5).mono hb5.size)
 have HV5:=hid (Reads.hO (f:=cR) (n:=5) iA (by rw[sP];rfl) own5)
 obtain⟨A5,c5,rfl,-,-,-⟩:=aN own5
 clear own5 hb5 HE4 HB4
 go_wp2_with fail
 refine(HSD.out _).mono ?_
 rintro e w6 ⟨g6,rfl,own6,hb6⟩
 have HE6:=hid (xP 7 ((List.range 10).map fun i=>[48+i]) _ g6 10 10 (by decide) (by decide) w6 hb6.size own6)
 have HB6:=hid (chain HB5.out HB5.out.size hb6)
 have HV2:=hid ((HV2.out.below hb6).mono hb6.size)
 have HV5:=hid ((HV5.out.below hb6).mono hb6.size)
 clear own6 hb6
 go_wp2_with fail
 refine HE6.out.mono ?_
 rintro e w7 ⟨v7,rfl,own7,hb7⟩
 have HB7:=hid (chain HB6.out HB6.out.size hb7)
 have HV2:=hid ((HV2.out.below hb7).mono hb7.size)
 have HV5:=hid ((HV5.out.below hb7).mono hb7.size)
 have HV7:=hid (Reads.hO (f:=cR) (n:=5) iA (by rw[sP];rfl) own7)
 obtain⟨A7,c7,rfl,-,-,-⟩:=aN own7
 have HL7:=hid (HL.out.below HB7.out hLN)
 clear own7 hb7 HE6 HB6
 go_wp2_with fail
 refine(G5 _ HL7.out).mono ?_
 rintro e w8 ⟨v8,rfl,own8,hb8⟩
 obtain⟨g8,c8,rfl,-,-,-⟩:=dS own8 (by decide)
 have HE8:=hid (xP 8 bX _ g8 13 c8 (by decide) (by decide) w8 hb8.size own8)
 have HB8:=hid (chain HB7.out HB7.out.size hb8)
 have HV2:=hid ((HV2.out.below hb8).mono hb8.size)
 have HV5:=hid ((HV5.out.below hb8).mono hb8.size)
 have HV7:=hid ((HV7.out.below hb8).mono hb8.size)
 clear own8 hb8
 go_wp2_with fail
 refine HE8.out.mono ?_
 rintro e w9 ⟨v9,rfl,own9,hb9⟩
 have HB9:=hid (chain HB8.out HB8.out.size hb9)
 have HV2:=hid ((HV2.out.below hb9).mono hb9.size)
 have HV5:=hid ((HV5.out.below hb9).mono hb9.size)
 have HV7:=hid ((HV7.out.below hb9).mono hb9.size)
 have HV9:=hid (Reads.hO (f:=cR) (n:=5) iA (by rw[sP];rfl) own9)
 obtain⟨A9,c9,rfl,-,-,-⟩:=aN own9
 clear own9 hb9 HE8 HB8
 have hnew:=(Below.refl w9.heap.size w9).alloc (Nat.le_refl _) (.cells #[.slice A2 26 c2,.slice A5 12 c5,.slice A7 10 c7,.slice A9 13 c9] 22)
 have HCC:=hid (Q3 [eG 1 rJ,eG 6 (Ka.fZ.map fun c=>[c]),eG 7 ((List.range 10).map fun i=>[48+i]),eG 8 bX] w9.heap.size 4 4 61 rfl (by decide) (by decide +kernel) (by decide) (by decide) (w9.alloc (.cells #[.slice A2 26 c2,.slice A5 12 c5,.slice A7 10 c7,.slice A9 13 c9] 22)) (by simp) (fun i p hp=>by
  match i,hp with
  | 0,hp=>cases hp;exact⟨by decide,A2,c2,by simp;rfl,(HV2.out.below hnew).mono hnew.size⟩
  | 1,hp=>cases hp;exact⟨by decide,A5,c5,by simp;rfl,(HV5.out.below hnew).mono hnew.size⟩
  | 2,hp=>cases hp;exact⟨by decide,A7,c7,by simp;rfl,(HV7.out.below hnew).mono hnew.size⟩
  | 3,hp=>cases hp;exact⟨by decide,A9,c9,by simp;rfl,(HV9.out.below hnew).mono hnew.size⟩
  | i+4,hp=>cases hp))
 have HNEW:=hid hnew
 clear hnew
 go_wp2_with fail
 refine HCC.out.mono ?_
 rintro e w10 ⟨v10,rfl,own10,hb10⟩
 have HO10:=hid own10
 have HB10:=hid (chain HB9.out HB9.out.size (chain HNEW.out HNEW.out.size hb10))
 clear own10 hb10
 go_wp2
 go_ret
 refine⟨_,rfl,?_,HB10.out⟩
 rw[L0]
 have h:=yN HO10.out (Nat.le_trans HB9.out.size (show w9.heap.size≤(w9.alloc (.cells #[.slice A2 26 c2,.slice A5 12 c5,.slice A7 10 c7,.slice A9 13 c9] 22)).heap.size from HNEW.out.size))
 rw[show [eG 1 rJ,eG 6 (Ka.fZ.map fun c=>[c]),eG 7 ((List.range 10).map fun i=>[48+i]),eG 8 bX].flatten=eG 1 rJ++(eG 6 (Ka.fZ.map fun c=>[c])++(eG 7 ((List.range 10).map fun i=>[48+i])++eG 8 bX)) from by simp only[List.flatten_cons,List.flatten_nil,List.append_nil]]at h
 exact h
end Go.Proofs.YthbigkoihpgcfaaGreatDoor.Ck
