/-
  Put together.
-/
import Derived.Test.YthbigkoihpgcfaaGreatDoorNb
import Derived.Test.YthbigkoihpgcfaaGreatDoorOe
import Derived.Test.YthbigkoihpgcfaaGreatDoorQj
import Derived.Test.YthbigkoihpgcfaaGreatDoorSb
import Derived.Test.YthbigkoihpgcfaaGreatDoorSj
import Derived.Test.YthbigkoihpgcfaaGreatDoorTsG
import Derived.Test.YthbigkoihpgcfaaGreatDoorUa
import Derived.Test.YthbigkoihpgcfaaGreatDoorUm
import Derived.Test.YthbigkoihpgcfaaGreatDoorUn
import Derived.Test.YthbigkoihpgcfaaGreatDoorVg
import Derived.BigQuiet
import Derived.Maps.AppendAt
import Derived.IntWalk
import Derived.Laws.EntriesVeiled
set_option maxRecDepth 100000
set_option maxHeartbeats 16000000
namespace Go.Proofs.YthbigkoihpgcfaaGreatDoor.Cu
open Go.RowKit Ba Ru Ck Ti Pa Fl
def nS (x:Tk):Value:=.agg #[.int .i64 x.kind,.int .u8 (x.ch:Int),.int .i64 x.place]
def xI (w:World) (b:Nat) (q:Int) (c:Nat) (p:Int):Prop :=
 w.cell? ⟨b,0,none⟩=some (.int .i64 q)∧w.cell? ⟨b,1,none⟩=some (.int .u8 (c:Int))∧w.cell? ⟨b,2,none⟩=some (.int .i64 p)∧b<w.heap.size
theorem xI.kept {w w':World} {b:Nat} {q:Int} {c:Nat} {p:Int} (h:xI w b q c p) (hb:Below w.heap.size w w'):xI w' b q c p :=
 ⟨(hb.cell (p:=⟨b,0,none⟩) h.2.2.2).trans h.1,(hb.cell (p:=⟨b,1,none⟩) h.2.2.2).trans h.2.1,(hb.cell (p:=⟨b,2,none⟩) h.2.2.2).trans h.2.2.1,Nat.lt_of_lt_of_le h.2.2.2 hb.size⟩
theorem xI.new (w:World) (q:Int) (c:Nat) (p:Int) (t:TypeId):xI (w.alloc (.cells #[.int .i64 q,.int .u8 (c:Int),.int .i64 p] t)) w.heap.size q c p:=by
 refine⟨?_,?_,?_,?_⟩<;>simp
theorem pC {l:List Tk} {g off:Nat} {w:World} (hcell:∀ k x,l[k]?=some x→∀ j u,(cT x)[j]?=some u→w.cell? ⟨g,off+(k * 3+j),none⟩=some u) (k:Nat) (x:Tk) (hx:l[k]?=some x) :
  w.cell? ⟨g,off+k * 3,none⟩=some (.int .i64 x.kind)∧w.cell? ⟨g,off+k * 3+1,none⟩=some (.int .u8 (x.ch:Int))∧w.cell? ⟨g,off+k * 3+2,none⟩=some (.int .i64 x.place):=by
 have h:=fun j u hu=>hcell k x hx j u hu
 exact⟨h 0 _ rfl,h 1 _ rfl,h 2 _ rfl⟩
theorem GK (W:World) (g:Nat) (x:Nat) (hx:x<256) (h:W.cell? ⟨g,0,none⟩=some (.int .u8 (x:Int))) :
  (convert 89 9 (.slice (some ⟨g,0,none⟩) 1 1)).run Tryz.prog W=.ok (.string (bytesOf [x])) W:=by
 exact run_convert_bytes_back (P:=Tryz.prog) W 89 9 5 ⟨g,0,none⟩ 1 [UInt8.ofNat x] Tryz.underlying89 Tryz.underlying5 Tryz.underlying9 (fun j hj=>by
  obtain rfl:j=0:=by simp at hj;omega
  have e:(⟨g,0,none⟩:Addr).add 0=⟨g,0,none⟩:=by unfold Addr.add;split<;>simp_all
  have e3:(UInt8.ofNat x).toNat=x:=by simp[Nat.mod_eq_of_lt hx]
  rw[e]
  simp only[List.getElem_cons_zero,e3,h])
theorem gG:∀ n:Fin 256,(Hc.cls (n.val:Int)=1↔aW n.val=true)∧(Hc.cls (n.val:Int)=2↔aQ n.val=true)∧(Hc.cls (n.val:Int)=3↔48≤n.val∧n.val≤57)∧(Hc.cls (n.val:Int)=4↔Ka.fZ.contains n.val=true):=by decide +kernel
end Go.Proofs.YthbigkoihpgcfaaGreatDoor.Cu
namespace Go.Proofs.YthbigkoihpgcfaaGreatDoor.Cu
open Go.RowKit Ba Ru Ck Ti Pa Fl
structure Pq where
 rule:Int
 aR:Int
 len:Int
def Pc.q (x:Pc):Pq:=⟨(x.rule:Int),(x.aR:Int),(x.len:Int)⟩
def cQ (x:Pq):List Value:=[.int .i64 x.rule,.int .i64 x.aR,.int .i64 x.len]
theorem VM (x:Pq):(cQ x).length=3:=rfl
abbrev VN (off:Nat) (w:World) (B:Nat) (v:Value) (l:List Pq):Prop:=Ba.Reads cQ 3 off w B v l
def cW (p:List Pc):List Value:=Ba.rows cQ (p.map Pc.q)
theorem MD (p:List Pc) (x:Pc):cW (p++[x])=cW p++[.int .i64 (x.rule:Int),.int .i64 (x.aR:Int),.int .i64 (x.len:Int)]:=by
 unfold cW Ba.rows
 rw[List.map_append,List.flatMap_append]
 rfl
theorem yT {w:World} {B m:Nat} {v:Value} {p:List Pc} (hm:p.length=m) (h:w.ownsRow B 77 3 v m (cW p)):VN 0 w w.heap.size v (p.map Pc.q):=by
 unfold cW at h
 exact Ba.Reads.hO VM (by rw[List.length_map,hm]) h
theorem aC2 {l:List Pq} {g off:Nat} {w:World} (hcell:∀ k x,l[k]?=some x→∀ j u,(cQ x)[j]?=some u→w.cell? ⟨g,off+(k * 3+j),none⟩=some u) (k:Nat) (x:Pq) (hx:l[k]?=some x) :
  w.cell? ⟨g,off+k * 3,none⟩=some (.int .i64 x.rule)∧w.cell? ⟨g,off+k * 3+1,none⟩=some (.int .i64 x.aR)∧w.cell? ⟨g,off+k * 3+2,none⟩=some (.int .i64 x.len):=by
 have h:=fun j u hu=>hcell k x hx j u hu
 exact⟨h 0 _ rfl,h 1 _ rfl,h 2 _ rfl⟩
end Go.Proofs.YthbigkoihpgcfaaGreatDoor.Cu
namespace Go.Proofs.YthbigkoihpgcfaaGreatDoor.Cu
open Go.RowKit Ba Ru Ck Ti Pa Fl
def qS (l:List Rl) (p:List Pq):List Nat:=p.flatMap fun x=>(l[x.rule.toNat]?.map (·.cells)).getD []
theorem RB {l:List Rl} {p:List Pq} {x:Pq} {y:Rl} (h:l[x.rule.toNat]?=some y):qS l (p++[x])=qS l p++y.cells:=by
 unfold qS
 rw[List.flatMap_append,List.flatMap_singleton,h]
 rfl
theorem yU {l:List Rl} {M:Nat} (h:∀ x ∈ l,x.cells.length≤M):∀ p:List Pq,(qS l p).length≤p.length * M
 | []=>Nat.zero_le _
 | x::p=>by
  have ih:=yU h p
  have e:qS l (x::p)=(l[x.rule.toNat]?.map (·.cells)).getD []++qS l p:=rfl
  rw[e,List.length_append,List.length_cons,Nat.succ_mul]
  have:((l[x.rule.toNat]?.map (·.cells)).getD []).length≤M:=by
   cases hx:l[x.rule.toNat]? with
   | none=>exact Nat.zero_le _
   | some y=>exact h y (List.mem_of_getElem? hx)
  omega
end Go.Proofs.YthbigkoihpgcfaaGreatDoor.Cu
namespace Go.Proofs.YthbigkoihpgcfaaGreatDoor.Cu
open Go.RowKit Ba Ru Ck Ti Pa Fl
theorem PA {l:List Rl} (h:∀ x ∈ l,eN x) (s:List Nat):∀ c ∈ fN l s,c<256:=by
 unfold fN
 cases cI l 8 s with
 | none=>intro c hc;cases hc
 | some k =>
  show ∀ c ∈ (l[k]?.map (·.cells)).getD [],c<256
  cases hx:l[k]? with
  | none=>intro c hc;cases hc
  | some y=>exact(h y (List.mem_of_getElem? hx)).2.2.2.2.1
theorem RC {a b:List Tk} {k:Nat} {x y:Tk} (hx:a[k]?=some x) (hy:b[k]?=some y) (h:bare x≠bare y):a.map bare≠b.map bare:=fun e=>by
 have:=congrArg (fun L=>L[k]?) e
 simp only[List.getElem?_map,hx,hy,Option.map_some]at this
 exact h (Option.some.inj this)
theorem RD (u v:Value) (a b:List Tk) (o1 o2:Nat) (ha:a.length≤1000000) (hb:b.length≤1000000) (w:World) (B1 B2:Nat) (hu:bW o1 w B1 u a) (hv:bW o2 w B2 v b) (r:Bool) (hr:decide (a.map bare=b.map bare)=r) :
  Calls Tryz.prog 14 #[u,v] w fun e w'=>e=.returned (.bool r)∧∃ n,w'=w.drewN n:=by
 obtain⟨A,c,rfl,hA⟩:=hu
 obtain⟨B,d,rfl,hB⟩:=hv
 have HA:=Lib.hid hA;clear hA
 have HB:=Lib.hid hB;clear hB
 have HR:=Lib.hid hr;clear hr
 obtain⟨na,hna⟩:∃ n,a.length=n:=⟨_,rfl⟩
 obtain⟨nb,hnb⟩:∃ n,b.length=n:=⟨_,rfl⟩
 rw[hna]at HA ha ⊢
 rw[hnb]at HB hb ⊢
 have HNA:=Lib.hid hna
 have HNB:=Lib.hid hnb
 clear hna hnb
 go_enter Tryz.func14,Tryz.ntmps14
 by_cases hl:na=nb
 rotate_left
 ·have e1:((na:Int)==(nb:Int))=false:=beq_eq_false_iff_ne.2 (by omega)
  have e2:((na:Int) != (nb:Int))=true:=bne_iff_ne.2 (by omega)
  have HV:=Lib.hid (show r=false from by
   rw[← HR.out]
   exact decide_eq_false fun h=>hl (by
    have:=congrArg List.length h
    rw[List.length_map,List.length_map,HNA.out,HNB.out]at this
    exact this))
  clear hl
  go_wp2
  go_ret
  rw[HV.out]
  exact⟨rfl,0,rfl⟩
 subst hl
 have e1:((na:Int)==(na:Int))=true:=by simp
 go_wp2
 go_loopw [5] (fun i wr=>∃ (k n:Nat),k≤na∧i=.int .i64 k∧(∀ (j:Nat) (x y:Tk),j<k→a[j]?=some x→b[j]?=some y→bare x=bare y)∧wr=w.drewN n) (fun i _=>na - (intOf i).toNat)
 case atStart=>exact⟨0,0,by omega,rfl,fun j x y h=>absurd h (Nat.not_lt_zero _),rfl⟩
 case round =>
  obtain⟨k,n,hk,rfl,hall,rfl⟩:=hrel
  have HALL:=Lib.hid hall
  clear hall
  by_cases hlt:k<na
  ·obtain⟨g,rfl,-,hg⟩:=HA.out (by omega)
   obtain⟨h,rfl,-,hh⟩:=HB.out (by omega)
   obtain⟨x,hx⟩:∃ s,a[k]?=some s:=⟨_,List.getElem?_eq_getElem (by rw[HNA.out];exact hlt)⟩
   obtain⟨y,hy⟩:∃ s,b[k]?=some s:=⟨_,List.getElem?_eq_getElem (by rw[HNB.out];exact hlt)⟩
   obtain⟨g0,g1,-⟩:=pC hg k x hx
   obtain⟨h0,h1,-⟩:=pC hh k y hy
   have HNO:=Lib.hid (show bare x≠bare y→r=false from fun q=>by
    rw[← HR.out]
    exact decide_eq_false (RC hx hy q))
   have HYS:=Lib.hid (show bare x=bare y→∀ (j:Nat) (x y:Tk),j<k+1→a[j]?=some x→b[j]?=some y→bare x=bare y from fun q j x' y' hj hx' hy'=>by
    by_cases hjk:j=k
    ·subst hjk
     rw[hx]at hx';rw[hy]at hy'
     rw[← Option.some.inj hx',← Option.some.inj hy']
     exact q
    ·exact HALL.out j x' y' (by omega) hx' hy')
   clear hg hh HA HB hx hy
   obtain⟨xk,xc,xp⟩:=x
   obtain⟨yk,yc,yp⟩:=y
   simp only[]at g0 g1 h0 h1
   by_cases q1:xk=yk
   ·by_cases q2:xc=yc
    ·subst q1;subst q2
     have HY:=Lib.hid (HYS.out rfl)
     have v1:(xk==xk)=true:=by simp
     have v2:((xc:Int)==(xc:Int))=true:=by simp
     go_wp2
     go_quiet (fail)
     go_wp2
     go_roundw
     case rel=>exact⟨k+1,n+nq,by omega,by go_num,HY.out,rfl⟩
     case measure=>simp[intOf];omega
    ·subst q1
     have HV:=Lib.hid (HNO.out fun e=>q2 (congrArg Prod.snd e))
     have v1:(xk==xk)=true:=by simp
     have v2:((xc:Int)==(yc:Int))=false:=beq_eq_false_iff_ne.2 (by omega)
     clear q2
     go_wp2
     go_quiet (fail)
     go_wp2
     go_ret
     rw[HV.out]
     exact⟨rfl,n+nq,World.drewN_drewN ..⟩
   ·have HV:=Lib.hid (HNO.out fun e=>q1 (congrArg Prod.fst e))
    have v1:(xk==yk)=false:=beq_eq_false_iff_ne.2 q1
    have v1':decide (xk=yk)=false:=decide_eq_false q1
    have v1'':(xk != yk)=true:=bne_iff_ne.2 q1
    clear q1
    go_wp2
    go_quiet (fail)
    go_wp2
    go_ret
    rw[HV.out]
    exact⟨rfl,n+nq,World.drewN_drewN ..⟩
  ·obtain rfl:k=na:=by omega
   have HV:=Lib.hid (show r=true from by
    rw[← HR.out]
    refine decide_eq_true (List.ext_getElem? fun j=>?_)
    rw[List.getElem?_map,List.getElem?_map]
    rcases Nat.lt_or_ge j k with h | h
    ·obtain⟨x,hx⟩:∃ s,a[j]?=some s:=⟨_,List.getElem?_eq_getElem (by rw[HNA.out];exact h)⟩
     obtain⟨y,hy⟩:∃ s,b[j]?=some s:=⟨_,List.getElem?_eq_getElem (by rw[HNB.out];exact h)⟩
     rw[hx,hy]
     exact congrArg some (HALL.out j x y h hx hy)
    ·rw[List.getElem?_eq_none (by rw[HNA.out];exact h),List.getElem?_eq_none (by rw[HNB.out];exact h)])
   have t1:decide ((k:Int)<(k:Int))=false:=decide_eq_false (by omega)
   go_wp2
   go_ret
   rw[HV.out]
   exact⟨rfl,n,rfl⟩
end Go.Proofs.YthbigkoihpgcfaaGreatDoor.Cu
namespace Go.Proofs.YthbigkoihpgcfaaGreatDoor.Cu
open Go.RowKit Ba Ru Ck Ti Pa Fl
theorem PB (S:ByteArray) (j:Nat) (hj:j<S.size):(aA S).getD j 0<256:=by
 rw[List.getD_eq_getElem?_getD,List.getElem?_eq_getElem (by rw[aD];exact hj)]
 exact iT S _ (List.getElem_mem _)
theorem yV (S:ByteArray) (j:Nat) (hj:j<S.size):Hc.kc S j=2↔aQ ((aA S).getD j 0)=true:=by
 rw[VO S j hj]
 exact(gG ⟨_,PB S j hj⟩).2.1
theorem G9 (S:ByteArray) (j:Nat) (hj:j<S.size):Hc.kc S j=1↔aW ((aA S).getD j 0)=true:=by
 rw[VO S j hj]
 exact(gG ⟨_,PB S j hj⟩).1
theorem H6 (S:ByteArray):∀ n,n≤S.size→Hc.up S n=((aA S).take n).countP aQ
 | 0,_=>rfl
 | n+1,h=>by
  have ih:=H6 S n (by omega)
  have e:Hc.up S (n+1)=Hc.up S n+if Hc.kc S n=2 then 1 else 0:=rfl
  have hn:n<(aA S).length:=by rw[aD];omega
  have hk:=yV S n (by omega)
  rw[List.getD_eq_getElem?_getD,List.getElem?_eq_getElem hn,Option.getD_some]at hk
  rw[e,ih,List.take_add_one,List.getElem?_eq_getElem hn,Option.toList_some,List.countP_append,List.countP_singleton]
  congr 1
  by_cases hc:aQ (aA S)[n]=true
  ·rw[if_pos hc,if_pos (hk.2 hc)]
  ·rw[if_neg hc,if_neg fun q=>hc (hk.1 q)]
theorem VP (S:ByteArray):Hc.BH S S.size↔((aA S).all fun c=>aW c || aQ c)=true:=by
 have hlen:=aD S
 rw[List.all_eq_true]
 constructor
 ·intro h c hc
  obtain⟨j,hj,e⟩:=List.getElem_of_mem hc
  have hj':j<S.size:=by omega
  have e2:(aA S).getD j 0=c:=by rw[List.getD_eq_getElem?_getD,List.getElem?_eq_getElem hj,e];rfl
  rw[Bool.or_eq_true]
  rcases h j hj' with k | k
  ·exact .inl (by rw[← e2];exact(G9 S j hj').1 k)
  ·exact .inr (by rw[← e2];exact(yV S j hj').1 k)
 ·intro h j hj
  have e2:(aA S).getD j 0=(aA S)[j]'(by omega):=by rw[List.getD_eq_getElem?_getD,List.getElem?_eq_getElem (by omega)];rfl
  have:=h _ (List.getElem_mem (by omega:j<(aA S).length))
  rw[Bool.or_eq_true]at this
  rcases this with k | k
  ·exact .inl ((G9 S j hj).2 (by rw[e2];exact k))
  ·exact .inr ((yV S j hj).2 (by rw[e2];exact k))
theorem RE {c:Nat} (h:Pa.aW c=true∨aQ c=true):aW c=true↔¬ aQ c=true:=by
 unfold Pa.aW aQ at h ⊢
 simp only[decide_eq_true_eq]at h ⊢
 omega
theorem wI (S:ByteArray):Hc.j7 S=((aO (aA S):Nat):Int):=by
 have hlen:=aD S
 have hup:=H6 S S.size (Nat.le_refl _)
 rw[List.take_of_length_le (by omega)]at hup
 have hk0:0<S.size→(Hc.kc S 0=2↔aQ ((aA S).headD 0)=true):=fun h=>by
  have:=yV S 0 h
  cases hL:aA S with
  | nil=>rw[hL]at hlen;simp at hlen;omega
  | cons a b=>rw[hL]at this;exact this
 have hA:=VP S
 obtain⟨L,hL⟩:∃ L,aA S=L:=⟨_,rfl⟩
 rw[hL]at hlen hup hk0 hA ⊢
 unfold aO
 by_cases h0:S.size=0
 ·have:L=[]:=List.length_eq_zero_iff.1 (by omega)
  rw[this]
  unfold Hc.j7
  rw[if_pos h0]
  rfl
 obtain⟨a,b,rfl⟩:∃ a b,L=a::b:=by
  cases L with
  | nil=>exact absurd hlen.symm h0
  | cons a b=>exact⟨a,b,rfl⟩
 by_cases hall:Hc.BH S S.size
 ·rw[Hc.mV S hall]
  have hall2:=hA.1 hall
  have hm:∀ c ∈ a::b,(aW c=true↔¬ aQ c=true):=fun c hc=>by
   have:=List.all_eq_true.1 hall2 c hc
   rw[Bool.or_eq_true]at this
   exact RE this
  rw[hall2]
  have hsm:∀ M:List Nat,(∀ c ∈ M,c ∈ a::b)→(M.countP aQ=0↔M.all aW=true):=fun M hM=>by
   rw[List.countP_eq_zero,List.all_eq_true]
   exact⟨fun h c hc=>(hm c (hM c hc)).2 (h c hc),fun h c hc=>(hm c (hM c hc)).1 (h c hc)⟩
  have h1:=hsm (a::b) fun c hc=>hc
  have h2:=hsm b fun c hc=>List.mem_cons_of_mem _ hc
  have h3:(a::b).countP aQ=(a::b).length↔(a::b).all aQ=true:=by
   rw[List.countP_eq_length,List.all_eq_true]
  unfold Hc.eY
  rw[if_neg h0,hup]
  have hk:=hk0 (by omega)
  have e:(a::b).headD 0=a:=rfl
  rw[e]at hk
  have e2:(a::b).tail=b:=rfl
  have e3:((a::b).isEmpty || !true)=false:=rfl
  rw[e,e2,e3,if_neg Bool.false_ne_true]
  by_cases k0:(a::b).countP aQ=0
  ·rw[if_pos k0,if_pos (h1.1 k0)];rfl
  ·rw[if_neg k0,if_neg fun q=>k0 (h1.2 q)]
   have hc1:(a::b).countP aQ=b.countP aQ+if aQ a=true then 1 else 0:=List.countP_cons
   by_cases k1:(a::b).countP aQ=1∧Hc.kc S 0=2
   ·obtain⟨q1,q2⟩:=k1
    have q3:=hk.1 q2
    rw[if_pos ⟨q1,q2⟩]
    rw[hc1,if_pos q3]at q1
    rw[q3,h2.1 (by omega)]
    rfl
   ·rw[if_neg k1]
    have:(aQ a && b.all aW)=false:=by
     cases hx:(aQ a && b.all aW) with
     | false=>rfl
     | true =>
      rw[Bool.and_eq_true]at hx
      refine absurd ⟨?_,hk.2 hx.1⟩ k1
      rw[hc1,if_pos hx.1,h2.2 hx.2]
    rw[this,if_neg Bool.false_ne_true]
    by_cases k3:(a::b).countP aQ=S.size
    ·rw[if_pos k3,if_pos (h3.1 (by rw[k3,hlen]))];rfl
    ·rw[if_neg k3,if_neg fun q=>k3 (by rw[h3.2 q,hlen])];rfl
 ·rw[Hc.sS S hall]
  have:((a::b).all fun c=>aW c || aQ c)=false:=by
   cases hx:((a::b).all fun c=>aW c || aQ c) with
   | false=>rfl
   | true=>exact absurd (hA.2 hx) hall
  rw[this]
  rfl
theorem IA:∀ n:Fin 256,(Cl.QU (UInt8.ofNat n.val)).toNat=iP n.val:=by decide +kernel
theorem RF (S:ByteArray):Cl.aDJ S=bytesOf (bL (aA S)):=by
 unfold Cl.aDJ Cl.BB bytesOf bL aA
 congr 2
 rw[List.map_map,List.map_map]
 refine List.map_congr_left fun b _=>?_
 have h:=IA ⟨b.toNat,UInt8.toNat_lt b⟩
 simp only[UInt8.ofNat_toNat]at h
 show Cl.QU b=UInt8.ofNat (iP b.toNat)
 rw[← h,UInt8.ofNat_toNat]
end Go.Proofs.YthbigkoihpgcfaaGreatDoor.Cu
namespace Go.Proofs.YthbigkoihpgcfaaGreatDoor.Cu
open Go.RowKit Ba Ru Ck Ti Pa Fl
theorem RG {c:Nat} (h:c<256):iP c<256:=by unfold iP;split<;>omega
theorem PD {s:List Nat} (h:∀ c ∈ s,c<256):∀ c ∈ bL s,c<256:=fun c hc=>by
 unfold bL at hc
 obtain⟨d,hd,rfl⟩:=List.mem_map.1 hc
 exact RG (h d hd)
end Go.Proofs.YthbigkoihpgcfaaGreatDoor.Cu
namespace Go.Proofs.YthbigkoihpgcfaaGreatDoor.Cu
open Go.RowKit Ba Ru Ck Ti Pa Fl
theorem VQ:(Tryz.prog.info? 77).map (fun i=>(i.zero,i.size,i.bytes))=some (some (.agg #[.int .i64 0,.int .i64 0,.int .i64 0]),3,24):=by kernel_rfl
theorem IB (l:List Pq):∀ u ∈ Ba.rows cQ l,u.oneCell'=true:=by
 intro u hu
 unfold Ba.rows at hu
 rw[List.mem_flatMap]at hu
 obtain⟨x,_,hx⟩:=hu
 simp[cQ]at hx
 rcases hx with rfl | rfl | rfl<;>rfl
end Go.Proofs.YthbigkoihpgcfaaGreatDoor.Cu
namespace Go.Proofs.YthbigkoihpgcfaaGreatDoor.Cu
open Go.RowKit Ba Ru Ck Ti Pa Fl
theorem CD (l:List Rl) (aR:Nat):∀ (ks:List Nat) (p:Nat),(a8 l aR ks p).length=ks.length
 | [],_=>rfl
 | _::r,_=>congrArg (·+1) (CD l aR r _)
theorem yW (l:List Rl) (s:List Nat) (aR:Nat):∀ (n p:Nat),(fL l s aR n p).length≤2 * n+s.length
 | 0,_=>Nat.zero_le _
 | n+1,p=>by
  unfold fL
  split
  ·split
   ·rw[List.length_cons,CD]
    have:=IC l (bL s) (p:Int)
    rw[aT]at this
    omega
   ·split
    ·exact Nat.zero_le _
    ·rename_i k _
     have:=yW l s aR n (p+aK l k)
     rw[List.length_append,List.length_cons]
     split<;>simp<;>omega
  ·exact Nat.zero_le _
def iB (s:List Nat) (p:Nat):Nat:=((s.drop p).takeWhile fun c=>!aQ c).length
theorem qE {s:List Nat} {p:Nat} (hp:p<s.length) (h:aQ s[p]=false):iB s p=1+iB s (p+1):=by
 unfold iB
 rw[List.drop_eq_getElem_cons hp,List.takeWhile_cons_of_pos (by rw[h];rfl),List.length_cons]
 omega
theorem yX {s:List Nat} {p:Nat} (hp:p<s.length) (h:aQ s[p]=true):iB s p=0:=by
 unfold iB
 rw[List.drop_eq_getElem_cons hp,List.takeWhile_cons_of_neg (by rw[h];decide)]
 rfl
theorem sU {s:List Nat} {p:Nat} (hp:s.length≤p):iB s p=0:=by
 unfold iB
 rw[List.drop_of_length_le hp]
 rfl
theorem CE {s:List Nat} {p:Nat} (hp:p<s.length):eB s p=if aQ s[p]=true then 1+iB s (p+1) else iB s p:=by
 unfold eB iB
 rw[List.drop_eq_getElem_cons hp]
theorem PE {s:List Nat} (h:gE s):∀ c ∈ s,c<256:=fun c hc=>by
 have:=h c hc
 unfold Pa.aW aQ at this
 simp only[decide_eq_true_eq]at this
 omega
theorem VR {s:List Nat} (h:∀ c ∈ s,c<256) (p:Nat):(bytesOf s).extract p (bytesOf s).size=bytesOf (s.drop p):=by
 rw[← aP ((bytesOf s).extract p (bytesOf s).size),dX,aB _ h,List.take_of_length_le (by rw[List.length_drop,aF];exact Nat.le_refl _)]
end Go.Proofs.YthbigkoihpgcfaaGreatDoor.Cu
namespace Go.Proofs.YthbigkoihpgcfaaGreatDoor.Cu
open Go.RowKit Ba Ru Ck Ti Pa Fl
end Go.Proofs.YthbigkoihpgcfaaGreatDoor.Cu
namespace Go.Proofs.YthbigkoihpgcfaaGreatDoor.Cu
open Go.RowKit Ba Ru Ck Ti Pa Fl
theorem mW {l:List Rl} {i:Nat} {b:Bool} {x:Tk} {r:List Tk} {n:Nat}:bM l (n+1) i b (x::r) =
  if aJ x=true then (if b=true then [⟨aG l 8 eX,i,0⟩] else [])++runN l (fA ((x::r).takeWhile aJ)) i++bM l n (i+((x::r).takeWhile aJ).length) false ((x::r).dropWhile aJ)
  else if eO x=true then (if b=true then [] else [⟨aG l 8 jH,i,0⟩])++⟨aG l 7 [x.ch],i,1⟩::bM l n (i+1) true r
  else if gD x=true then ⟨aG l 6 [x.ch],i,1⟩::bM l n (i+1) false r
  else ⟨aG l 8 (cM x),i,1⟩::bM l n (i+1) false r:=rfl
theorem nU (l:List Rl):∀ (n n' i:Nat) (b:Bool) (t:List Tk),t.length≤n→t.length≤n'→bM l n i b t=bM l n' i b t
 | 0,n',i,b,[],_,_=>by cases n'<;>rfl
 | 0,n',i,b,x::t,h,_=>absurd h (by simp)
 | n+1,0,i,b,[],_,_=>rfl
 | n+1,0,i,b,x::t,_,h=>absurd h (by simp)
 | n+1,n'+1,i,b,[],_,_=>rfl
 | n+1,n'+1,i,b,x::t,h,h'=>by
  rw[List.length_cons]at h h'
  rw[mW,mW]
  by_cases hl:aJ x=true
  ·have hd:((x::t).dropWhile aJ).length≤t.length:=by
    rw[List.dropWhile_cons,if_pos hl]
    exact(List.dropWhile_suffix (l:=t) aJ).length_le
   rw[if_pos hl,if_pos hl,nU l n n' _ _ _ (by omega) (by omega)]
  ·rw[if_neg hl,if_neg hl,nU l n n' (i+1) true t (by omega) (by omega),nU l n n' (i+1) false t (by omega) (by omega)]
def mX (t:List Tk):Nat→Bool
 | 0=>false
 | k+1=>(t[k]?.map eO).getD false
theorem EE {t:List Tk} {k:Nat} {y:Tk} (h:t[k]?=some y):mX t (k+1)=eO y:=by
 show (t[k]?.map eO).getD false=_
 rw[h]
 rfl
theorem IE:∀ {t:List Tk} {k:Nat},k<(t.takeWhile aJ).length→∃ y,t[k]?=some y∧aJ y=true
 | [],k,h=>absurd h (by simp)
 | x::t,k,h=>by
  rw[List.takeWhile_cons]at h
  by_cases hl:aJ x=true
  ·rw[if_pos hl,List.length_cons]at h
   cases k with
   | zero=>exact⟨x,rfl,hl⟩
   | succ k=>exact IE (t:=t) (by omega)
  ·rw[if_neg hl]at h
   exact absurd h (by simp)
theorem aAV {y:Tk} (h:aJ y=true):eO y=false:=by
 unfold aJ mA BG Pa.aW aQ at h
 unfold eO
 rw[Bool.or_eq_true,Bool.and_eq_true,Bool.and_eq_true,decide_eq_true_eq,decide_eq_true_eq,decide_eq_true_eq]at h
 rw[Bool.and_eq_false_iff]
 exact .inr (decide_eq_false (by omega))
theorem drop_at {t:List Tk} {j:Nat} {x:Tk} (hx:t[j]?=some x):t.drop j=x::t.drop (j+1):=by
 obtain⟨h,e⟩:=List.getElem?_eq_some_iff.1 hx
 rw[List.drop_eq_getElem_cons h,e]
theorem RH {l:List Rl} {t:List Tk} {j:Nat} {x:Tk} (hx:t[j]?=some x) (hl:aJ x=true) (b:Bool) {L:List Tk} (hL:(t.drop j).takeWhile aJ=L) :
  bM l (t.length - j) j b (t.drop j)=((if b=true then [⟨aG l 8 eX,j,0⟩] else [])++runN l (fA L) j)++bM l (t.length - (j+L.length)) (j+L.length) (mX t (j+L.length)) (t.drop (j+L.length))∧0<L.length∧j+L.length≤t.length∧L=(t.drop j).take L.length∧L.all aJ=true:=by
 have hlt:j<t.length:=(List.getElem?_eq_some_iff.1 hx).1
 have hd:=drop_at hx
 have hall:L.all aJ=true:=by rw[← hL];exact gF _ _
 have hpre:L=(t.drop j).take L.length:=by
  have:=List.prefix_iff_eq_take.1 (List.takeWhile_prefix aJ (l:=t.drop j))
  rw[hL]at this
  exact this
 have hdw:(t.drop j).dropWhile aJ=t.drop (j+L.length):=by
  have:=List.takeWhile_append_dropWhile (p:=aJ) (l:=t.drop j)
  rw[hL]at this
  rw[← List.drop_drop]
  conv=>rhs;rw[← this]
  simp
 have h0:0<L.length:=by
  rw[← hL,hd,List.takeWhile_cons,if_pos hl]
  simp
 have hle:j+L.length≤t.length:=by
  have:=congrArg List.length hpre
  rw[List.length_take,List.length_drop]at this
  omega
 have hbeh:mX t (j+L.length)=false:=by
  obtain⟨k,hk⟩:∃ k,L.length=k+1:=⟨L.length - 1,by omega⟩
  obtain⟨y,h1,h2⟩:=IE (t:=t.drop j) (k:=k) (by rw[hL];omega)
  rw[List.getElem?_drop]at h1
  rw[hk,← Nat.add_assoc,EE h1]
  exact aAV h2
 refine⟨?_,h0,hle,hpre,hall⟩
 rw[hbeh]
 obtain⟨n,hn⟩:∃ n,t.length - j=n+1:=⟨t.length - j - 1,by omega⟩
 rw[hn]
 conv=>lhs;rw[hd,mW,← hd]
 rw[if_pos hl,hL,hdw,nU l n (t.length - (j+L.length)) _ _ _ (by rw[List.length_drop];omega) (by rw[List.length_drop];exact Nat.le_refl _)]
theorem MF {l:List Rl} {t:List Tk} {j:Nat} {x:Tk} (hx:t[j]?=some x) (hl:aJ x=false) (b:Bool) :
  bM l (t.length - j) j b (t.drop j)=(if eO x=true then (if b=true then [] else [⟨aG l 8 jH,j,0⟩])++[⟨aG l 7 [x.ch],j,1⟩] else if gD x=true then [⟨aG l 6 [x.ch],j,1⟩] else [⟨aG l 8 (cM x),j,1⟩])++bM l (t.length - (j+1)) (j+1) (mX t (j+1)) (t.drop (j+1)):=by
 have hlt:j<t.length:=(List.getElem?_eq_some_iff.1 hx).1
 have hd:=drop_at hx
 obtain⟨n,hn⟩:∃ n,t.length - j=n+1:=⟨t.length - j - 1,by omega⟩
 have hn2:t.length - (j+1)=n:=by omega
 rw[hn,hn2,hd,mW,if_neg (by rw[hl];decide),EE hx]
 cases eO x with
 | true =>
  rw[if_pos rfl,if_pos rfl,List.append_assoc]
  rfl
 | false =>
  rw[if_neg Bool.false_ne_true,if_neg Bool.false_ne_true]
  cases gD x with
  | true=>rfl
  | false=>rfl
theorem wJ {o2 B g m c:Nat} {w:World} {t:List Tk} (h:bW o2 w B (.slice (some ⟨g,o2,none⟩) m c) t) (j n c':Nat) (hjn:j+n≤t.length):bW (o2+j * 3) w B (.slice (some ⟨g,o2+j * 3,none⟩) n c') ((t.drop j).take n):=by
 have hlen:((t.drop j).take n).length=n:=by rw[List.length_take,List.length_drop];omega
 obtain⟨A,c0,e,hA⟩:=h
 injection e with e1 e2 e3
 subst e1
 refine⟨some ⟨g,o2+j * 3,none⟩,c',by rw[hlen],fun h0=>?_⟩
 rw[hlen]at h0
 obtain⟨g',e',hg,hc⟩:=hA (by omega)
 injection e' with e'
 injection e' with e'
 subst e'
 refine⟨g,rfl,hg,fun k x hk i u hu=>?_⟩
 have hkn:k<n:=by have:=(List.getElem?_eq_some_iff.1 hk).1;omega
 rw[List.getElem?_take,if_pos hkn,List.getElem?_drop]at hk
 have:=hc (j+k) x hk i u hu
 rw[show o2+j * 3+(k * 3+i)=o2+((j+k) * 3+i) by omega]
 exact this
end Go.Proofs.YthbigkoihpgcfaaGreatDoor.Cu
namespace Go.Proofs.YthbigkoihpgcfaaGreatDoor.Fl
open Go.RowKit Tr Nu Nl Cn
end Go.Proofs.YthbigkoihpgcfaaGreatDoor.Fl
namespace Go.Proofs.YthbigkoihpgcfaaGreatDoor.Fl
open Go.RowKit Tr Nu Nl Cn
def EvF (x:Ev):Prop:=x.name<256∧(-9223372036854775808≤x.place∧x.place≤9223372036854775807)
theorem C0 {acc:List Ev} {x:Ev} (ha:∀ y ∈ acc,EvF y) (hx:EvF x):∀ y ∈ nE acc x,EvF y:=by
 intro z hz
 by_cases hk:x.kind=1
 ·by_cases h0:x.text.size=0
  ·rw[rU hk h0]at hz;exact ha z hz
  ·rcases List.eq_nil_or_concat acc with rfl | ⟨acc',y,rfl⟩
   ·rw[dV hk h0 nF]at hz
    rw[List.nil_append,List.mem_singleton]at hz;subst hz;exact hx
   ·rw[List.concat_eq_append]at hz ha
    by_cases hy:y.kind=1
    ·rw[lB hk h0 hy]at hz
     rcases List.mem_append.1 hz with h | h
     ·exact ha z (List.mem_append_left _ h)
     ·rw[List.mem_singleton]at h
      subst h
      exact ha y (by simp)
    ·rw[dV hk h0 (lC hy)]at hz
     rcases List.mem_append.1 hz with h | h
     ·exact ha z h
     ·rw[List.mem_singleton]at h;subst h;exact hx
 ·rw[rV hk]at hz
  rcases List.mem_append.1 hz with h | h
  ·exact ha z h
  ·rw[List.mem_singleton]at h;subst h;exact hx
theorem vA (l:List Tk):iC l→∀ E S,aM l=some (E,S)→(∀ x ∈ E,EvF x)∧gO E≤l.length∧sI E≤l.length:=by
 refine mP (P:=fun l=>iC l→∀ E S,aM l=some (E,S)→(∀ x ∈ E,EvF x)∧gO E≤l.length∧sI E≤l.length) ?_ ?_ l.length l rfl
 ·intro _ E S h
  cases h
  exact⟨fun x hx=>(by cases hx),Nat.zero_le _,Nat.zero_le _⟩
 ·intro l x ih hl E S h
  have hx:=hl x (by simp)
  unfold aM at h
  rw[List.foldl_append]at h
  rw[List.length_append,List.length_singleton]
  cases hp:aM l with
  | none =>
   unfold aM at hp
   rw[hp]at h
   have h:eM none x=some (E,S):=h
   cases h
  | some q =>
   obtain⟨E0,S0⟩:=q
   obtain⟨i1,i2,i3⟩:=ih (fun y hy=>hl y (by simp[hy])) E0 S0 hp
   unfold aM at hp
   rw[hp]at h
   have h:eM (some (E0,S0)) x=some (E,S):=h
   unfold eM at h
   simp only[]at h
   by_cases h1:x.kind=1
   ·rw[if_pos h1]at h
    have h:=Option.some.inj h
    obtain⟨rfl,rfl⟩:=Prod.mk.inj h
    obtain⟨j1,j2⟩:=SQ E0 (JP (jZ x.ch) x.place)
    have k1:ED (JP (jZ x.ch) x.place)=1:=rfl
    have k2:sI [JP (jZ x.ch) x.place]=1:=rfl
    exact⟨C0 i1 ⟨by show 0<256;omega,hx.2.2⟩,by omega,by omega⟩
   ·rw[if_neg h1]at h
    by_cases h2:x.kind=2
    ·rw[if_pos h2]at h
     have h:=Option.some.inj h
     obtain⟨rfl,rfl⟩:=Prod.mk.inj h
     refine⟨fun y hy=>?_,?_,?_⟩
     ·rcases List.mem_append.1 hy with g | g
      ·exact i1 y g
      ·rw[List.mem_singleton]at g;subst g;exact⟨hx.2.1,hx.2.2⟩
     ·rw[B5,show gO [opE x.ch x.place]=0 from rfl];omega
     ·rw[qO,show sI [opE x.ch x.place]=1 from rfl];omega
    ·rw[if_neg h2]at h
     by_cases h3:x.kind=3
     ·rw[if_pos h3]at h
      cases hS:S0.getLast? with
      | none=>rw[hS]at h;cases h
      | some k =>
       rw[hS]at h
       simp only[]at h
       by_cases hk:k=x.ch
       ·rw[if_pos hk]at h
        have h:=Option.some.inj h
        obtain⟨rfl,rfl⟩:=Prod.mk.inj h
        refine⟨fun y hy=>?_,?_,?_⟩
        ·rcases List.mem_append.1 hy with g | g
         ·exact i1 y g
         ·rw[List.mem_singleton]at g;subst g;exact⟨by show 0<256;omega,by show (-9223372036854775808:Int)≤0∧(0:Int)≤9223372036854775807;omega⟩
        ·rw[B5,show gO [clE]=0 from rfl];omega
        ·rw[qO,show sI [clE]=0 from rfl];omega
       ·rw[if_neg hk]at h;cases h
     ·rw[if_neg h3]at h;cases h
theorem W7 {l:List Tk} (h:iC l) (hl:l.length≤9000):W5 l:=fun E hE=>by
 obtain⟨-,i2,i3⟩:=vA l h E [] hE
 exact⟨by rw[zT];omega,fun x hx=>by have:=PN E [] [] 0 (by simp) x hx;omega⟩
end Go.Proofs.YthbigkoihpgcfaaGreatDoor.Fl
namespace Go.Proofs.YthbigkoihpgcfaaGreatDoor.Fl
open Go.RowKit Tr Nu Nl Cn
theorem pM {g off:Nat} {w:World} {l:List Tk} (h:∀ k x,l[k]?=some x→∀ j u,(cT x)[j]?=some u→w.cell? ⟨g,off+(k * 3+j),none⟩=some u) (k:Nat) (x:Tk) (hx:l[k]?=some x) :
  w.cell? ⟨g,off+k * 3,none⟩=some (.int .i64 x.kind)∧w.cell? ⟨g,off+k * 3+1,none⟩=some (.int .u8 (x.ch:Int))∧w.cell? ⟨g,off+k * 3+2,none⟩=some (.int .i64 x.place):=by
 have e:=h k x hx
 simp only[← Nat.add_assoc]at e
 exact⟨e 0 _ rfl,e 1 _ rfl,e 2 _ rfl⟩
end Go.Proofs.YthbigkoihpgcfaaGreatDoor.Fl
namespace Go.Proofs.YthbigkoihpgcfaaGreatDoor.Fl
open Go.RowKit Go.Shelf Tr Nu Nl Cn
attribute [local go_sem] Oper.semAt_some
section
variable {l n0:Nat} {ws:List Tk} {J Jx:List Tk→World→Prop}
end
end Go.Proofs.YthbigkoihpgcfaaGreatDoor.Fl
namespace Go.Proofs.YthbigkoihpgcfaaGreatDoor.Fl
open Go.RowKit Go.Shelf Tr Nu Nl Cn
attribute [local go_sem] Oper.semAt_some
section
variable {l n0:Nat} {ws:List Tk} {J Jx:List Tk→World→Prop}
end
end Go.Proofs.YthbigkoihpgcfaaGreatDoor.Fl
namespace Go.Proofs.YthbigkoihpgcfaaGreatDoor.Fl
open Go.RowKit Go.Shelf Tr Nu Nl Cn
attribute [local go_sem] Oper.semAt_some
end Go.Proofs.YthbigkoihpgcfaaGreatDoor.Fl
