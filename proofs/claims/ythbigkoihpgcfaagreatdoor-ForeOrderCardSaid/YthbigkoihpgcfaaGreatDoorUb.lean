/-
  Put together.
-/
import Derived.Test.YthbigkoihpgcfaaGreatDoorQj
import Derived.Test.YthbigkoihpgcfaaGreatDoorSb
import Derived.Test.YthbigkoihpgcfaaGreatDoorSe
import Derived.Test.YthbigkoihpgcfaaGreatDoorSf
import Derived.Test.YthbigkoihpgcfaaGreatDoorSj
import Derived.Test.YthbigkoihpgcfaaGreatDoorTsC
import Derived.Test.YthbigkoihpgcfaaGreatDoorUa
import Derived.Test.YthbigkoihpgcfaaGreatDoorUl
import Derived.Test.YthbigkoihpgcfaaGreatDoorUm
import Derived.Test.YthbigkoihpgcfaaGreatDoorUn
import Derived.BigQuiet
import Derived.Maps.AppendAt
import Derived.Deep.Slices
import Derived.Deep.Strs
import Derived.Lib.SmallJoins
import Derived.ProofKit
import Derived.OpenShut
import Derived.WideKeyArgs
import Derived.Test.YthbigkoihpgcfaaGreatDoorTie
import Derived.LaidMore
import Derived.Lay
import Derived.SevenTiedAt
import Derived.Stop.Joined
import Derived.Stop.LaidErr
import Derived.Lib.LaidTab
import Derived.HandedShaped
import Derived.Carry
set_option maxRecDepth 100000
set_option maxHeartbeats 16000000
namespace Go.Proofs.YthbigkoihpgcfaaGreatDoor.Cu
open Go.RowKit Ba Ru Ck Ti Pa Fl
def nS (x:Tk):Value:=.agg #[.int .i64 x.kind,.int .u8 (x.ch:Int),.int .i64 x.place]
def xI (w:World) (b:Nat) (q:Int) (c:Nat) (p:Int):Prop :=
 w.cell? ⟨b,0,none⟩=some (.int .i64 q)∧w.cell? ⟨b,1,none⟩=some (.int .u8 (c:Int))∧w.cell? ⟨b,2,none⟩=some (.int .i64 p)∧b<w.heap.size
theorem xI.kept {w w':World} {b:Nat} {q:Int} {c:Nat} {p:Int} (h:xI w b q c p) (hb:Below w.heap.size w w'):xI w' b q c p :=
 ⟨(hb.cell (p:=⟨b,0,none⟩) h.2.2.2).trans h.1,(hb.cell (p:=⟨b,1,none⟩) h.2.2.2).trans h.2.1,(hb.cell (p:=⟨b,2,none⟩) h.2.2.2).trans h.2.2.1,Nat.lt_of_lt_of_le h.2.2.2 hb.size⟩
theorem xI.new (w:World) (q:Int) (c:Nat) (p:Int) (t:TypeId):xI (w.alloc (.cells #[.int .i64 q,.int .u8 (c:Int),.int .i64 p] t)) w.heap.size q c p:=by
 refine⟨?_,?_,?_,?_⟩<;>simp
theorem pC {l:List Tk} {g off:Nat} {w:World} (hcell:∀ k x,l[k]?=some x→∀ j u,(cT x)[j]?=some u→w.cell? ⟨g,off+(k * 3+j),none⟩=some u) (k:Nat) (x:Tk) (hx:l[k]?=some x) :
  w.cell? ⟨g,off+k * 3,none⟩=some (.int .i64 x.kind)∧w.cell? ⟨g,off+k * 3+1,none⟩=some (.int .u8 (x.ch:Int))∧w.cell? ⟨g,off+k * 3+2,none⟩=some (.int .i64 x.place):=by
 have h:=fun j u hu=>hcell k x hx j u hu
 exact⟨h 0 _ rfl,h 1 _ rfl,h 2 _ rfl⟩
theorem GK (W:World) (g:Nat) (x:Nat) (hx:x<256) (h:W.cell? ⟨g,0,none⟩=some (.int .u8 (x:Int))) :
  (convert 89 9 (.slice (some ⟨g,0,none⟩) 1 1)).run Tryz.prog W=.ok (.string (bytesOf [x])) W:=by
 exact run_convert_bytes_back (P:=Tryz.prog) W 89 9 5 ⟨g,0,none⟩ 1 [UInt8.ofNat x] Tryz.underlying89 Tryz.underlying5 Tryz.underlying9 (fun j hj=>by
  obtain rfl:j=0:=by simp at hj;omega
  have e:(⟨g,0,none⟩:Addr).add 0=⟨g,0,none⟩:=by unfold Addr.add;split<;>simp_all
  have e3:(UInt8.ofNat x).toNat=x:=by simp[Nat.mod_eq_of_lt hx]
  rw[e]
  simp only[List.getElem_cons_zero,e3,h])
theorem gG:∀ n:Fin 256,(Hc.cls (n.val:Int)=1↔aW n.val=true)∧(Hc.cls (n.val:Int)=2↔aQ n.val=true)∧(Hc.cls (n.val:Int)=3↔48≤n.val∧n.val≤57)∧(Hc.cls (n.val:Int)=4↔Ka.fZ.contains n.val=true):=by decide +kernel
structure Pq where
 rule:Int
 aR:Int
 len:Int
def Pc.q (x:Pc):Pq:=⟨(x.rule:Int),(x.aR:Int),(x.len:Int)⟩
def cQ (x:Pq):List Value:=[.int .i64 x.rule,.int .i64 x.aR,.int .i64 x.len]
theorem VM (x:Pq):(cQ x).length=3:=rfl
abbrev VN (off:Nat) (w:World) (B:Nat) (v:Value) (l:List Pq):Prop:=Ba.Reads cQ 3 off w B v l
def cW (p:List Pc):List Value:=Ba.rows cQ (p.map Pc.q)
theorem MD (p:List Pc) (x:Pc):cW (p++[x])=cW p++[.int .i64 (x.rule:Int),.int .i64 (x.aR:Int),.int .i64 (x.len:Int)]:=by
 unfold cW Ba.rows
 rw[List.map_append,List.flatMap_append]
 rfl
theorem yT {w:World} {B m:Nat} {v:Value} {p:List Pc} (hm:p.length=m) (h:w.ownsRow B 77 3 v m (cW p)):VN 0 w w.heap.size v (p.map Pc.q):=by
 unfold cW at h
 exact Ba.Reads.hO VM (by rw[List.length_map,hm]) h
theorem aC2 {l:List Pq} {g off:Nat} {w:World} (hcell:∀ k x,l[k]?=some x→∀ j u,(cQ x)[j]?=some u→w.cell? ⟨g,off+(k * 3+j),none⟩=some u) (k:Nat) (x:Pq) (hx:l[k]?=some x) :
  w.cell? ⟨g,off+k * 3,none⟩=some (.int .i64 x.rule)∧w.cell? ⟨g,off+k * 3+1,none⟩=some (.int .i64 x.aR)∧w.cell? ⟨g,off+k * 3+2,none⟩=some (.int .i64 x.len):=by
 have h:=fun j u hu=>hcell k x hx j u hu
 exact⟨h 0 _ rfl,h 1 _ rfl,h 2 _ rfl⟩
def qS (l:List Rl) (p:List Pq):List Nat:=p.flatMap fun x=>(l[x.rule.toNat]?.map (·.cells)).getD []
theorem RB {l:List Rl} {p:List Pq} {x:Pq} {y:Rl} (h:l[x.rule.toNat]?=some y):qS l (p++[x])=qS l p++y.cells:=by
 unfold qS
 rw[List.flatMap_append,List.flatMap_singleton,h]
 rfl
theorem yU {l:List Rl} {M:Nat} (h:∀ x ∈ l,x.cells.length≤M):∀ p:List Pq,(qS l p).length≤p.length * M
 | []=>Nat.zero_le _
 | x::p=>by
  have ih:=yU h p
  have e:qS l (x::p)=(l[x.rule.toNat]?.map (·.cells)).getD []++qS l p:=rfl
  rw[e,List.length_append,List.length_cons,Nat.succ_mul]
  have:((l[x.rule.toNat]?.map (·.cells)).getD []).length≤M:=by
   cases hx:l[x.rule.toNat]? with
   | none=>exact Nat.zero_le _
   | some y=>exact h y (List.mem_of_getElem? hx)
  omega
theorem PA {l:List Rl} (h:∀ x ∈ l,eN x) (s:List Nat):∀ c ∈ fN l s,c<256:=by
 unfold fN
 cases cI l 8 s with
 | none=>intro c hc;cases hc
 | some k =>
  show ∀ c ∈ (l[k]?.map (·.cells)).getD [],c<256
  cases hx:l[k]? with
  | none=>intro c hc;cases hc
  | some y=>exact(h y (List.mem_of_getElem? hx)).2.2.2.2.1
theorem PB (S:ByteArray) (j:Nat) (hj:j<S.size):(aA S).getD j 0<256:=by
 rw[List.getD_eq_getElem?_getD,List.getElem?_eq_getElem (by rw[aD];exact hj)]
 exact iT S _ (List.getElem_mem _)
theorem yV (S:ByteArray) (j:Nat) (hj:j<S.size):Hc.kc S j=2↔aQ ((aA S).getD j 0)=true:=by
 rw[VO S j hj]
 exact(gG ⟨_,PB S j hj⟩).2.1
theorem G9 (S:ByteArray) (j:Nat) (hj:j<S.size):Hc.kc S j=1↔aW ((aA S).getD j 0)=true:=by
 rw[VO S j hj]
 exact(gG ⟨_,PB S j hj⟩).1
theorem H6 (S:ByteArray):∀ n,n≤S.size→Hc.up S n=((aA S).take n).countP aQ
 | 0,_=>rfl
 | n+1,h=>by
  have ih:=H6 S n (by omega)
  have e:Hc.up S (n+1)=Hc.up S n+if Hc.kc S n=2 then 1 else 0:=rfl
  have hn:n<(aA S).length:=by rw[aD];omega
  have hk:=yV S n (by omega)
  rw[List.getD_eq_getElem?_getD,List.getElem?_eq_getElem hn,Option.getD_some]at hk
  rw[e,ih,List.take_add_one,List.getElem?_eq_getElem hn,Option.toList_some,List.countP_append,List.countP_singleton]
  congr 1
  by_cases hc:aQ (aA S)[n]=true
  ·rw[if_pos hc,if_pos (hk.2 hc)]
  ·rw[if_neg hc,if_neg fun q=>hc (hk.1 q)]
theorem VP (S:ByteArray):Hc.BH S S.size↔((aA S).all fun c=>aW c || aQ c)=true:=by
 have hlen:=aD S
 rw[List.all_eq_true]
 constructor
 ·intro h c hc
  obtain⟨j,hj,e⟩:=List.getElem_of_mem hc
  have hj':j<S.size:=by omega
  have e2:(aA S).getD j 0=c:=by rw[List.getD_eq_getElem?_getD,List.getElem?_eq_getElem hj,e];rfl
  rw[Bool.or_eq_true]
  rcases h j hj' with k | k
  ·exact .inl (by rw[← e2];exact(G9 S j hj').1 k)
  ·exact .inr (by rw[← e2];exact(yV S j hj').1 k)
 ·intro h j hj
  have e2:(aA S).getD j 0=(aA S)[j]'(by omega):=by rw[List.getD_eq_getElem?_getD,List.getElem?_eq_getElem (by omega)];rfl
  have:=h _ (List.getElem_mem (by omega:j<(aA S).length))
  rw[Bool.or_eq_true]at this
  rcases this with k | k
  ·exact .inl ((G9 S j hj).2 (by rw[e2];exact k))
  ·exact .inr ((yV S j hj).2 (by rw[e2];exact k))
theorem RE {c:Nat} (h:Pa.aW c=true∨aQ c=true):aW c=true↔¬ aQ c=true:=by
 unfold Pa.aW aQ at h ⊢
 simp only[decide_eq_true_eq]at h ⊢
 omega
theorem wI (S:ByteArray):Hc.j7 S=((aO (aA S):Nat):Int):=by
 have hlen:=aD S
 have hup:=H6 S S.size (Nat.le_refl _)
 rw[List.take_of_length_le (by omega)]at hup
 have hk0:0<S.size→(Hc.kc S 0=2↔aQ ((aA S).headD 0)=true):=fun h=>by
  have:=yV S 0 h
  cases hL:aA S with
  | nil=>rw[hL]at hlen;simp at hlen;omega
  | cons a b=>rw[hL]at this;exact this
 have hA:=VP S
 obtain⟨L,hL⟩:∃ L,aA S=L:=⟨_,rfl⟩
 rw[hL]at hlen hup hk0 hA ⊢
 unfold aO
 by_cases h0:S.size=0
 ·have:L=[]:=List.length_eq_zero_iff.1 (by omega)
  rw[this]
  unfold Hc.j7
  rw[if_pos h0]
  rfl
 obtain⟨a,b,rfl⟩:∃ a b,L=a::b:=by
  cases L with
  | nil=>exact absurd hlen.symm h0
  | cons a b=>exact⟨a,b,rfl⟩
 by_cases hall:Hc.BH S S.size
 ·rw[Hc.mV S hall]
  have hall2:=hA.1 hall
  have hm:∀ c ∈ a::b,(aW c=true↔¬ aQ c=true):=fun c hc=>by
   have:=List.all_eq_true.1 hall2 c hc
   rw[Bool.or_eq_true]at this
   exact RE this
  rw[hall2]
  have hsm:∀ M:List Nat,(∀ c ∈ M,c ∈ a::b)→(M.countP aQ=0↔M.all aW=true):=fun M hM=>by
   rw[List.countP_eq_zero,List.all_eq_true]
   exact⟨fun h c hc=>(hm c (hM c hc)).2 (h c hc),fun h c hc=>(hm c (hM c hc)).1 (h c hc)⟩
  have h1:=hsm (a::b) fun c hc=>hc
  have h2:=hsm b fun c hc=>List.mem_cons_of_mem _ hc
  have h3:(a::b).countP aQ=(a::b).length↔(a::b).all aQ=true:=by
   rw[List.countP_eq_length,List.all_eq_true]
  unfold Hc.eY
  rw[if_neg h0,hup]
  have hk:=hk0 (by omega)
  have e:(a::b).headD 0=a:=rfl
  rw[e]at hk
  have e2:(a::b).tail=b:=rfl
  have e3:((a::b).isEmpty || !true)=false:=rfl
  rw[e,e2,e3,if_neg Bool.false_ne_true]
  by_cases k0:(a::b).countP aQ=0
  ·rw[if_pos k0,if_pos (h1.1 k0)];rfl
  ·rw[if_neg k0,if_neg fun q=>k0 (h1.2 q)]
   have hc1:(a::b).countP aQ=b.countP aQ+if aQ a=true then 1 else 0:=List.countP_cons
   by_cases k1:(a::b).countP aQ=1∧Hc.kc S 0=2
   ·obtain⟨q1,q2⟩:=k1
    have q3:=hk.1 q2
    rw[if_pos ⟨q1,q2⟩]
    rw[hc1,if_pos q3]at q1
    rw[q3,h2.1 (by omega)]
    rfl
   ·rw[if_neg k1]
    have:(aQ a && b.all aW)=false:=by
     cases hx:(aQ a && b.all aW) with
     | false=>rfl
     | true =>
      rw[Bool.and_eq_true]at hx
      refine absurd ⟨?_,hk.2 hx.1⟩ k1
      rw[hc1,if_pos hx.1,h2.2 hx.2]
    rw[this,if_neg Bool.false_ne_true]
    by_cases k3:(a::b).countP aQ=S.size
    ·rw[if_pos k3,if_pos (h3.1 (by rw[k3,hlen]))];rfl
    ·rw[if_neg k3,if_neg fun q=>k3 (by rw[h3.2 q,hlen])];rfl
 ·rw[Hc.sS S hall]
  have:((a::b).all fun c=>aW c || aQ c)=false:=by
   cases hx:((a::b).all fun c=>aW c || aQ c) with
   | false=>rfl
   | true=>exact absurd (hA.2 hx) hall
  rw[this]
  rfl
theorem IA:∀ n:Fin 256,(Cl.QU (UInt8.ofNat n.val)).toNat=iP n.val:=by decide +kernel
theorem RF (S:ByteArray):Cl.aDJ S=bytesOf (bL (aA S)):=by
 unfold Cl.aDJ Cl.BB bytesOf bL aA
 congr 2
 rw[List.map_map,List.map_map]
 refine List.map_congr_left fun b _=>?_
 have h:=IA ⟨b.toNat,UInt8.toNat_lt b⟩
 simp only[UInt8.ofNat_toNat]at h
 show Cl.QU b=UInt8.ofNat (iP b.toNat)
 rw[← h,UInt8.ofNat_toNat]
theorem RG {c:Nat} (h:c<256):iP c<256:=by unfold iP;split<;>omega
theorem PD {s:List Nat} (h:∀ c ∈ s,c<256):∀ c ∈ bL s,c<256:=fun c hc=>by
 unfold bL at hc
 obtain⟨d,hd,rfl⟩:=List.mem_map.1 hc
 exact RG (h d hd)
theorem VQ:(Tryz.prog.info? 77).map (fun i=>(i.zero,i.size,i.bytes))=some (some (.agg #[.int .i64 0,.int .i64 0,.int .i64 0]),3,24):=by kernel_rfl
theorem IB (l:List Pq):∀ u ∈ Ba.rows cQ l,u.oneCell'=true:=by
 intro u hu
 unfold Ba.rows at hu
 rw[List.mem_flatMap]at hu
 obtain⟨x,_,hx⟩:=hu
 simp[cQ]at hx
 rcases hx with rfl | rfl | rfl<;>rfl
theorem CD (l:List Rl) (aR:Nat):∀ (ks:List Nat) (p:Nat),(a8 l aR ks p).length=ks.length
 | [],_=>rfl
 | _::r,_=>congrArg (·+1) (CD l aR r _)
theorem yW (l:List Rl) (s:List Nat) (aR:Nat):∀ (n p:Nat),(fL l s aR n p).length≤2 * n+s.length
 | 0,_=>Nat.zero_le _
 | n+1,p=>by
  unfold fL
  split
  ·split
   ·rw[List.length_cons,CD]
    have:=IC l (bL s) (p:Int)
    rw[aT]at this
    omega
   ·split
    ·exact Nat.zero_le _
    ·rename_i k _
     have:=yW l s aR n (p+aK l k)
     rw[List.length_append,List.length_cons]
     split<;>simp<;>omega
  ·exact Nat.zero_le _
def iB (s:List Nat) (p:Nat):Nat:=((s.drop p).takeWhile fun c=>!aQ c).length
theorem qE {s:List Nat} {p:Nat} (hp:p<s.length) (h:aQ s[p]=false):iB s p=1+iB s (p+1):=by
 unfold iB
 rw[List.drop_eq_getElem_cons hp,List.takeWhile_cons_of_pos (by rw[h];rfl),List.length_cons]
 omega
theorem yX {s:List Nat} {p:Nat} (hp:p<s.length) (h:aQ s[p]=true):iB s p=0:=by
 unfold iB
 rw[List.drop_eq_getElem_cons hp,List.takeWhile_cons_of_neg (by rw[h];decide)]
 rfl
theorem sU {s:List Nat} {p:Nat} (hp:s.length≤p):iB s p=0:=by
 unfold iB
 rw[List.drop_of_length_le hp]
 rfl
theorem CE {s:List Nat} {p:Nat} (hp:p<s.length):eB s p=if aQ s[p]=true then 1+iB s (p+1) else iB s p:=by
 unfold eB iB
 rw[List.drop_eq_getElem_cons hp]
theorem PE {s:List Nat} (h:gE s):∀ c ∈ s,c<256:=fun c hc=>by
 have:=h c hc
 unfold Pa.aW aQ at this
 simp only[decide_eq_true_eq]at this
 omega
theorem VR {s:List Nat} (h:∀ c ∈ s,c<256) (p:Nat):(bytesOf s).extract p (bytesOf s).size=bytesOf (s.drop p):=by
 rw[← aP ((bytesOf s).extract p (bytesOf s).size),dX,aB _ h,List.take_of_length_le (by rw[List.length_drop,aF];exact Nat.le_refl _)]
theorem mW {l:List Rl} {i:Nat} {b:Bool} {x:Tk} {r:List Tk} {n:Nat}:bM l (n+1) i b (x::r) =
  if aJ x=true then (if b=true then [⟨aG l 8 eX,i,0⟩] else [])++runN l (fA ((x::r).takeWhile aJ)) i++bM l n (i+((x::r).takeWhile aJ).length) false ((x::r).dropWhile aJ)
  else if eO x=true then (if b=true then [] else [⟨aG l 8 jH,i,0⟩])++⟨aG l 7 [x.ch],i,1⟩::bM l n (i+1) true r
  else if gD x=true then ⟨aG l 6 [x.ch],i,1⟩::bM l n (i+1) false r
  else ⟨aG l 8 (cM x),i,1⟩::bM l n (i+1) false r:=rfl
theorem nU (l:List Rl):∀ (n n' i:Nat) (b:Bool) (t:List Tk),t.length≤n→t.length≤n'→bM l n i b t=bM l n' i b t
 | 0,n',i,b,[],_,_=>by cases n'<;>rfl
 | 0,n',i,b,x::t,h,_=>absurd h (by simp)
 | n+1,0,i,b,[],_,_=>rfl
 | n+1,0,i,b,x::t,_,h=>absurd h (by simp)
 | n+1,n'+1,i,b,[],_,_=>rfl
 | n+1,n'+1,i,b,x::t,h,h'=>by
  rw[List.length_cons]at h h'
  rw[mW,mW]
  by_cases hl:aJ x=true
  ·have hd:((x::t).dropWhile aJ).length≤t.length:=by
    rw[List.dropWhile_cons,if_pos hl]
    exact(List.dropWhile_suffix (l:=t) aJ).length_le
   rw[if_pos hl,if_pos hl,nU l n n' _ _ _ (by omega) (by omega)]
  ·rw[if_neg hl,if_neg hl,nU l n n' (i+1) true t (by omega) (by omega),nU l n n' (i+1) false t (by omega) (by omega)]
def mX (t:List Tk):Nat→Bool
 | 0=>false
 | k+1=>(t[k]?.map eO).getD false
theorem EE {t:List Tk} {k:Nat} {y:Tk} (h:t[k]?=some y):mX t (k+1)=eO y:=by
 show (t[k]?.map eO).getD false=_
 rw[h]
 rfl
theorem IE:∀ {t:List Tk} {k:Nat},k<(t.takeWhile aJ).length→∃ y,t[k]?=some y∧aJ y=true
 | [],k,h=>absurd h (by simp)
 | x::t,k,h=>by
  rw[List.takeWhile_cons]at h
  by_cases hl:aJ x=true
  ·rw[if_pos hl,List.length_cons]at h
   cases k with
   | zero=>exact⟨x,rfl,hl⟩
   | succ k=>exact IE (t:=t) (by omega)
  ·rw[if_neg hl]at h
   exact absurd h (by simp)
theorem aAV {y:Tk} (h:aJ y=true):eO y=false:=by
 unfold aJ mA BG Pa.aW aQ at h
 unfold eO
 rw[Bool.or_eq_true,Bool.and_eq_true,Bool.and_eq_true,decide_eq_true_eq,decide_eq_true_eq,decide_eq_true_eq]at h
 rw[Bool.and_eq_false_iff]
 exact .inr (decide_eq_false (by omega))
theorem drop_at {t:List Tk} {j:Nat} {x:Tk} (hx:t[j]?=some x):t.drop j=x::t.drop (j+1):=by
 obtain⟨h,e⟩:=List.getElem?_eq_some_iff.1 hx
 rw[List.drop_eq_getElem_cons h,e]
theorem RH {l:List Rl} {t:List Tk} {j:Nat} {x:Tk} (hx:t[j]?=some x) (hl:aJ x=true) (b:Bool) {L:List Tk} (hL:(t.drop j).takeWhile aJ=L) :
  bM l (t.length - j) j b (t.drop j)=((if b=true then [⟨aG l 8 eX,j,0⟩] else [])++runN l (fA L) j)++bM l (t.length - (j+L.length)) (j+L.length) (mX t (j+L.length)) (t.drop (j+L.length))∧0<L.length∧j+L.length≤t.length∧L=(t.drop j).take L.length∧L.all aJ=true:=by
 have hlt:j<t.length:=(List.getElem?_eq_some_iff.1 hx).1
 have hd:=drop_at hx
 have hall:L.all aJ=true:=by rw[← hL];exact gF _ _
 have hpre:L=(t.drop j).take L.length:=by
  have:=List.prefix_iff_eq_take.1 (List.takeWhile_prefix aJ (l:=t.drop j))
  rw[hL]at this
  exact this
 have hdw:(t.drop j).dropWhile aJ=t.drop (j+L.length):=by
  have:=List.takeWhile_append_dropWhile (p:=aJ) (l:=t.drop j)
  rw[hL]at this
  rw[← List.drop_drop]
  conv=>rhs;rw[← this]
  simp
 have h0:0<L.length:=by
  rw[← hL,hd,List.takeWhile_cons,if_pos hl]
  simp
 have hle:j+L.length≤t.length:=by
  have:=congrArg List.length hpre
  rw[List.length_take,List.length_drop]at this
  omega
 have hbeh:mX t (j+L.length)=false:=by
  obtain⟨k,hk⟩:∃ k,L.length=k+1:=⟨L.length - 1,by omega⟩
  obtain⟨y,h1,h2⟩:=IE (t:=t.drop j) (k:=k) (by rw[hL];omega)
  rw[List.getElem?_drop]at h1
  rw[hk,← Nat.add_assoc,EE h1]
  exact aAV h2
 refine⟨?_,h0,hle,hpre,hall⟩
 rw[hbeh]
 obtain⟨n,hn⟩:∃ n,t.length - j=n+1:=⟨t.length - j - 1,by omega⟩
 rw[hn]
 conv=>lhs;rw[hd,mW,← hd]
 rw[if_pos hl,hL,hdw,nU l n (t.length - (j+L.length)) _ _ _ (by rw[List.length_drop];omega) (by rw[List.length_drop];exact Nat.le_refl _)]
theorem MF {l:List Rl} {t:List Tk} {j:Nat} {x:Tk} (hx:t[j]?=some x) (hl:aJ x=false) (b:Bool) :
  bM l (t.length - j) j b (t.drop j)=(if eO x=true then (if b=true then [] else [⟨aG l 8 jH,j,0⟩])++[⟨aG l 7 [x.ch],j,1⟩] else if gD x=true then [⟨aG l 6 [x.ch],j,1⟩] else [⟨aG l 8 (cM x),j,1⟩])++bM l (t.length - (j+1)) (j+1) (mX t (j+1)) (t.drop (j+1)):=by
 have hlt:j<t.length:=(List.getElem?_eq_some_iff.1 hx).1
 have hd:=drop_at hx
 obtain⟨n,hn⟩:∃ n,t.length - j=n+1:=⟨t.length - j - 1,by omega⟩
 have hn2:t.length - (j+1)=n:=by omega
 rw[hn,hn2,hd,mW,if_neg (by rw[hl];decide),EE hx]
 cases eO x with
 | true =>
  rw[if_pos rfl,if_pos rfl,List.append_assoc]
  rfl
 | false =>
  rw[if_neg Bool.false_ne_true,if_neg Bool.false_ne_true]
  cases gD x with
  | true=>rfl
  | false=>rfl
theorem wJ {o2 B g m c:Nat} {w:World} {t:List Tk} (h:bW o2 w B (.slice (some ⟨g,o2,none⟩) m c) t) (j n c':Nat) (hjn:j+n≤t.length):bW (o2+j * 3) w B (.slice (some ⟨g,o2+j * 3,none⟩) n c') ((t.drop j).take n):=by
 have hlen:((t.drop j).take n).length=n:=by rw[List.length_take,List.length_drop];omega
 obtain⟨A,c0,e,hA⟩:=h
 injection e with e1 e2 e3
 subst e1
 refine⟨some ⟨g,o2+j * 3,none⟩,c',by rw[hlen],fun h0=>?_⟩
 rw[hlen]at h0
 obtain⟨g',e',hg,hc⟩:=hA (by omega)
 injection e' with e'
 injection e' with e'
 subst e'
 refine⟨g,rfl,hg,fun k x hk i u hu=>?_⟩
 have hkn:k<n:=by have:=(List.getElem?_eq_some_iff.1 hk).1;omega
 rw[List.getElem?_take,if_pos hkn,List.getElem?_drop]at hk
 have:=hc (j+k) x hk i u hu
 rw[show o2+j * 3+(k * 3+i)=o2+((j+k) * 3+i) by omega]
 exact this
end Go.Proofs.YthbigkoihpgcfaaGreatDoor.Cu
namespace Go.Proofs.YthbigkoihpgcfaaGreatDoor.Ru
open Go.ChangeShapes Go.WideShapes Go.ChangeAt Go.RowKit Go.Deep Go.Joins Ba
theorem tL (s:ByteArray):∀ b ∈ aA s,b<256:=fun b hb=>by
 unfold aA at hb
 obtain⟨x,_,rfl⟩:=List.mem_map.1 hb
 exact UInt8.toNat_lt x
section
variable {H:Type} {enc:TypeId × Value→H} {W:World} {base:Nat} {spare:Nat→Bool} {held:Bool}
theorem FJ {P:Program} {t:TypeId} {f0 f1 f2 f3 f4:Field} {fuel:Nat} {cs:List Value} {x:DataW H × List MemPlace} (ht:P.underlying t=some (.struct #[f0,f1,f2,f3,f4])) (h:DataW.trod enc P W base spare held fuel t cs=some x) :
  ∃ y0 y1 y2 y3 y4 n,cs.length=P.cellsOf t∧DataW.trod enc P W base spare held n f0.type ((cs.drop f0.offset).take (P.cellsOf f0.type))=some y0 ∧
   DataW.trod enc P W base spare held n f1.type ((cs.drop f1.offset).take (P.cellsOf f1.type))=some y1∧DataW.trod enc P W base spare held n f2.type ((cs.drop f2.offset).take (P.cellsOf f2.type))=some y2 ∧
   DataW.trod enc P W base spare held n f3.type ((cs.drop f3.offset).take (P.cellsOf f3.type))=some y3∧DataW.trod enc P W base spare held n f4.type ((cs.drop f4.offset).take (P.cellsOf f4.type))=some y4:=by
 obtain⟨xs,n,_,rfl,hl,hlen,hf⟩:=DataW.trod_struct ht h
 match xs,hlen with
 | [y0,y1,y2,y3,y4],_=>exact⟨y0,y1,y2,y3,y4,n,hl,by simpa using hf 0 f0 rfl,by simpa using hf 1 f1 rfl,by simpa using hf 2 f2 rfl,by simpa using hf 3 f3 rfl,by simpa using hf 4 f4 rfl⟩
theorem TQ {fuel:Nat} {cs:List Value} {x:DataW H × List MemPlace} (h:DataW.trod enc Tryz.prog W base spare held fuel 48 cs=some x) :
  ∃ y:Rl,eN y∧cs=cR y:=by
 obtain⟨y0,y1,y2,y3,y4,n,hl,h0,h1,h2,h3,h4⟩:=FJ Tryz.underlying48 h
 have hc:Tryz.prog.cellsOf 48=5:=by kernel_rfl
 rw[hc]at hl
 match cs,hl with
 | [c0,c1,c2,c3,c4],_ =>
  obtain⟨k,e0,-,w0⟩:=DataW.trod_int Tryz.underlying3 h0
  obtain⟨s,e1,-,w1⟩:=DataW.trod_string Tryz.underlying9 h1
  obtain⟨t,e2,-,w2⟩:=DataW.trod_string Tryz.underlying9 h2
  obtain⟨p,e3,-,w3⟩:=DataW.trod_int Tryz.underlying3 h3
  obtain⟨z,e4,-,w4⟩:=DataW.trod_int Tryz.underlying3 h4
  have hs1:Tryz.prog.cellsOf 9=1:=by kernel_rfl
  have hi1:Tryz.prog.cellsOf 3=1:=by kernel_rfl
  simp[hi1]at e0 e3 e4
  simp[hs1]at e1 e2
  subst e0;subst e1;subst e2;subst e3;subst e4
  refine⟨⟨k,aA s,aA t,p,z⟩,⟨bounds_i64 w0,bounds_i64 w3,bounds_i64 w4,tL s,tL t,by rw[aD];exact w1,by rw[aD];exact w2⟩,?_⟩
  show _=[Value.int .i64 k,.string (bytesOf (aA s)),.string (bytesOf (aA t)),.int .i64 p,.int .i64 z]
  rw[aP,aP]
theorem NY {r:Reach} {b0:Nat} {v:Value} {d:DataW H} {p:List MemPlace} (hval:Value.okWide Tryz.prog W r b0 22 v) (h:DataW.Trod enc Tryz.prog W base spare held 22 v d p) :
  ∃ (t:List Rl) (A:Option Addr) (off c:Nat),v=.slice A t.length c∧t.length≤c∧c≤maxLen∧(∀ x ∈ t,eN x)∧dZ off W W.heap.size (.slice A t.length c) t:=by
 obtain⟨a0,len,cap,rfl⟩:=okWide_slice Tryz.underlying22 hval
 obtain⟨fuel,hf⟩:=h
 rcases open_slice Tryz.underlying22 hf with⟨hcs,-⟩ | ⟨a,l,c,m,n,D,Pl,hcs,-,hl,hc,hm,-,hi⟩
 ·cases hcs
  exact⟨[],none,0,0,rfl,Nat.le_refl _,Nat.zero_le _,(fun x hx=>by cases hx),Ba.Reads.nil _ _ _⟩
 ·cases hcs
  have hle:len≤m:=by rw[hm];split<;>omega
  have h4:Tryz.prog.cellsOf 48=5:=by kernel_rfl
  have one:∀ i,i<len→∃ y:Rl,eN y∧∀ j u,(cR y)[j]?=some u→W.cell? (a.add (i * 5+j))=some u:=by
   intro i hil
   obtain⟨cs',hcs',ht'⟩:=hi i (by omega)
   obtain⟨y,hy,rfl⟩:=TQ ht'
   refine⟨y,hy,fun j u hu=>?_⟩
   rw[h4]at hcs'
   obtain⟨-,hlen,hat⟩:=World.cells?_some hcs'
   have hj:j<5:=by rw[← hlen];exact(List.getElem?_eq_some_iff.1 hu).1
   rw[← Go.Deep.add_add,hat j hj]
   exact hu
  obtain⟨f,hfx⟩:∃ f:Nat→Rl,∀ i,i<len→eN (f i)∧∀ j u,(cR (f i))[j]?=some u→W.cell? (a.add (i * 5+j))=some u :=
   ⟨fun i=>if h:i<len then Classical.choose (one i h) else ⟨0,[],[],0,0⟩,fun i h=>by
    have:=Classical.choose_spec (one i h)
    simpa only[h,dite_true] using this⟩
  have hlen:((List.range len).map f).length=len:=by simp
  obtain⟨g,off,spot⟩:=a
  refine⟨(List.range len).map f,some ⟨g,off,spot⟩,off,cap,by rw[hlen],by rw[hlen];exact hl,hc,fun x hx=>?_,⟨some ⟨g,off,spot⟩,cap,rfl,fun h0=>?_⟩⟩
  ·obtain⟨i,hi',rfl⟩:=List.mem_map.1 hx
   exact(hfx i (List.mem_range.1 hi')).1
  ·rw[hlen]at h0
   have hc0:=(hfx 0 h0).2 0 _ rfl
   have hs:spot=none:=by simpa[Addr.add] using World.cell?_spot hc0
   subst hs
   refine⟨g,rfl,?_,fun k x hx j u hu=>?_⟩
   ·exact World.block_lt_of_cell? _ _ hc0
   ·rw[List.getElem?_map]at hx
    obtain⟨i,hi',rfl⟩:=Option.map_eq_some_iff.1 hx
    have hkl:k<len:=by
     have:=(List.getElem?_eq_some_iff.1 hi').1
     simpa using this
    have:i=k:=by rw[List.getElem?_range hkl]at hi';exact(Option.some.inj hi').symm
    subst this
    have e:∀ n,(⟨g,off,none⟩:Addr).add n=⟨g,off+n,none⟩:=fun n=>by unfold Addr.add;split<;>simp_all
    have:=(hfx i hkl).2 j u hu
    rw[e]at this
    exact this
end
theorem NZ {H:Type} {enc:TypeId × Value→H} {t:TypeId} (hr:Tryz.prog.readableRec t=true) (hrow:t<Tryz.prog.types.size) {W W':World} {base:Nat} {sp':Nat→Bool} {v:Value} {d:DataW H} {ps:List MemPlace}
  (h:DataW.Trod enc Tryz.prog W base (fun _=>true) true t v d ps) (hb:Below W.heap.size W W') (hlt:∀ p ∈ ps,p.block<W.heap.size) (hs:∀ p ∈ ps,sp' p.block=true):DataW.Trod enc Tryz.prog W' base sp' true t v d ps :=
 WideElems.Trod_stays (by kernel_rfl) hr hrow h (fun p hp=>by
  have:=hlt p hp
  cases p with
  | cell b off=>exact World.cell?_of_block (w:=W) (a:=⟨b,off,none⟩) (hb.block b this)
  | map b=>exact hb.block b this) hs
end Go.Proofs.YthbigkoihpgcfaaGreatDoor.Ru
namespace Go.Proofs.YthbigkoihpgcfaaGreatDoor.Ck
open Go.ChangeShapes Go.WideShapes Go.ChangeAt Go.RowKit Go.Deep Go.Joins Ba Ru
theorem own:ownKnob Tryz.prog.godebug=none:=by kernel_rfl
theorem aEY:Tryz.prog.globalNamed "stylus/chars.classes"=some 2:=by kernel_rfl
theorem aFY:(Tryz.prog.globals[2]?).map (·.type)=some 242:=by kernel_rfl
theorem aDH:(Tryz.prog.globals[0]?).map (·.type)=some 230:=by kernel_rfl
def qZ:List (String × DataW Unit):=[("unicode/utf8.acceptRanges",Rows.laid_unicode_utf8_acceptRanges),("stylus/chars.classes",Rows.laid_stylus_chars_classes),("unicode.White_Space",Rows.laid_unicode_White_Space),("strings.asciiSpace",Rows.laid_strings_asciiSpace),("unicode/utf8.first",Rows.laid_unicode_utf8_first)]
def aEZ:List Int:=[6597069766656,0,4919056986126943301,4611761005120402227,2459565876494606880,2345624805922,1229782938247303440,1172812402961,0,0,0,0,0,0,0,0]
theorem aDI:(qZ.all fun x=>x.2.handleName?.isNone)=true:=by kernel_rfl
theorem U4 {W:World} (h:laidMetH Tryz.prog qZ W) :
  laidMet Tryz.prog (("stylus/chars.classes",Lib.tabData .u64 aEZ)::qZ.drop 2) W∧laidMet Tryz.prog (("strings.asciiSpace",Lib.tabData .u8 Lib.asciiSpaceTab)::qZ.drop 4) W:=by
 rw[MakeChecks.laidMetH_plain _ _ _ aDI]at h
 have h1:laidMet Tryz.prog (qZ.drop 1) W:=laidMet.tail h
 exact⟨h1,laidMet.tail (laidMet.tail h1)⟩
theorem rG {W:World} {g i:Nat} {v:Value} (h:W.cell? ⟨g,i,none⟩=some v):g<W.heap.size:=by
 rcases Nat.lt_or_ge g W.heap.size with hz | hz
 ·exact hz
 ·rw[World.cell?,Array.getElem?_eq_none (by exact hz)]at h
  simp at h
theorem aAG {W:World} (h:laidMetH Tryz.prog qZ W) (hs:W.ShapedOpen Tryz.prog):bH W:=by
 obtain⟨hC,hA⟩:=U4 h
 have hT:=Lib.tabIs_of_head aEY aFY Tryz.underlying242 Tryz.underlying241 (by kernel_rfl) (by kernel_rfl) hC
 have hc:∀ i:Nat,i<16→W.cell? ⟨2,i,none⟩=some (.int .u64 (Ka.yJ i:Int)):=fun i hi=>by
  have:=hT.cell aEY i hi
  rw[this]
  have e:∀ i:Fin 16,aEZ.getD i.val 0=((Ka.yJ i.val:Nat):Int):=by decide +kernel
  exact congrArg (fun z=>some (Value.int .u64 z)) (e ⟨i,hi⟩)
 have hP:=Lib.tabIs_of_head D8 aDH Tryz.underlying230 Tryz.underlying5 (by kernel_rfl) (by kernel_rfl) hA
 have l0:=rG (hc 0 (by decide))
 have l4:=rG (hP.cell D8 0 (by decide))
 obtain⟨m,hm⟩:∃ m,W.cell? ⟨1,0,none⟩=some (.int .i64 m):=Tryz.laysM144.s1_3 W hs
 exact⟨⟨by unfold GJ;omega,⟨l0,hc⟩,hP⟩,rG hm,m,hm⟩
theorem rH {H:Type} {enc:TypeId × Value→H} {a:Assume} {C:Checked} {os:Os} {f:FuncId} {fn:Func} {s:ChangeSpec} {conds:List PathCond} {apart fresh handsOn again:Bool} {X:World→Array Value→Prop}
  (hX:∀ (w w':World) (args:Array Value),w.heap=w'.heap→X w args→X w' args)
  (own:ownKnob C.prog.godebug=none) (started:os.Started) (noInit:C.prog.inits.idxOf? f=none) (hfn:C.prog.funcs[f]?=some fn)
  (witness:∃ (w:World) (tape:Tape) (i:Input),w.os=os∧(w.forCall tape i).Shaped C.prog∧i.vars=[]∧Input.okWide C.prog (w.forCall tape i) .any w.heap.size f i ∧
   ((s.pre enc C.prog fn conds apart (w.forCall tape i).memory i.args∧X (w.forCall tape i).memory i.args)∧sizedMet enc C.prog fn (OpenSpec.ofChange s) apart (w.forCall tape i).memory i.args)∧a.holds C.prog (lone (Frame.enter C.prog f i.args .normal) [] (w.forCall tape i)))
  (contract:∀ (W:World) (base:Nat) (args:Array Value) (ds gs:List (DataW H)) (before:List MemPlace),
   (∀ (j:Nat) t v,fn.params[j]?=some t→args[j]?=some v→Value.okWide C.prog W .any base t v) →
   DataW.Whole enc C.prog fn.params.toList s.vars apart W args.toList ds gs before →
   conds.all (PathCond.test C.prog ⟨fn.params.toList,ds,s.plain.varTypes C.prog,gs⟩)=true →
   (DataW.weightsEach C.prog (fn.params.toList++s.plain.varTypes C.prog) (ds++gs)).all (·≤reachBytes)=true→X W args→W.ShapedOpen C.prog →
   a.holds C.prog (lone (Frame.enter C.prog f args .normal) [] W) →
   Calls C.prog f args W fun e W'=>∃ v,e=.returned v∧s.post enc C.prog fn apart fresh handsOn again W args v W') :
  ReturnsInHanded a C os f .any (fun w args=>(s.pre enc C.prog fn conds apart w args∧X w args)∧sizedMet enc C.prog fn (OpenSpec.ofChange s) apart w args) (s.post enc C.prog fn apart fresh handsOn again):=by
 refine returnsInHanded_of_calls own started noInit witness ?_
 intro w tape i _ hsh _ hok hpre hholds
 obtain⟨_,_,_,fn',hfn',_,_,_,_,hval⟩:=hok
 have e:fn'=fn:=Option.some.inj (hfn'.symm.trans hfn)
 subst e
 obtain⟨⟨⟨ds,gs,before,hw,hc⟩,hx⟩,hz⟩:=hpre
 have hw':=DataW.Whole.of_heap (w':=w.forCall tape i) (by rfl) hw
 refine(contract (w.forCall tape i) w.heap.size i.args ds gs before hval hw' hc (hz.weights hw) (hX _ _ _ (by rfl) hx) hsh hholds).mono fun e W' ⟨v,he,hp⟩=>?_
 subst he
 exact ChangeSpec.post_blind hp
def cB (b:Nat):List Value:=[.int .u8 (b:Int)]
end Go.Proofs.YthbigkoihpgcfaaGreatDoor.Ck
namespace Go.Proofs.YthbigkoihpgcfaaGreatDoor.Cu
open Go.ChangeShapes Go.WideShapes Go.ChangeAt Go.RowKit Go.Deep Go.Joins Ba Ru Ck Ti Pa Fl
def PG (y:Tk):Prop:=(-9223372036854775808≤y.kind∧y.kind≤9223372036854775807)∧y.ch<256∧(-9223372036854775808≤y.place∧y.place≤9223372036854775807)
section
variable {H:Type} {enc:TypeId × Value→H} {W:World} {base:Nat} {spare:Nat→Bool} {held:Bool}
theorem MG {P:Program} {t:TypeId} {f0 f1 f2:Field} {fuel:Nat} {cs:List Value} {x:DataW H × List MemPlace} (ht:P.underlying t=some (.struct #[f0,f1,f2])) (h:DataW.trod enc P W base spare held fuel t cs=some x) :
  ∃ y0 y1 y2 n,cs.length=P.cellsOf t∧DataW.trod enc P W base spare held n f0.type ((cs.drop f0.offset).take (P.cellsOf f0.type))=some y0 ∧
   DataW.trod enc P W base spare held n f1.type ((cs.drop f1.offset).take (P.cellsOf f1.type))=some y1∧DataW.trod enc P W base spare held n f2.type ((cs.drop f2.offset).take (P.cellsOf f2.type))=some y2:=by
 obtain⟨xs,n,_,rfl,hl,hlen,hf⟩:=DataW.trod_struct ht h
 match xs,hlen with
 | [y0,y1,y2],_=>exact⟨y0,y1,y2,n,hl,by simpa using hf 0 f0 rfl,by simpa using hf 1 f1 rfl,by simpa using hf 2 f2 rfl⟩
theorem VV {fuel:Nat} {cs:List Value} {x:DataW H × List MemPlace} (h:DataW.trod enc Tryz.prog W base spare held fuel 37 cs=some x) :
  ∃ y:Tk,PG y∧cs=cT y:=by
 obtain⟨y0,y1,y2,n,hl,h0,h1,h2⟩:=MG Tryz.underlying37 h
 have hc:Tryz.prog.cellsOf 37=3:=by kernel_rfl
 rw[hc]at hl
 match cs,hl with
 | [c0,c1,c2],_ =>
  obtain⟨k,e0,-,w0⟩:=DataW.trod_int Tryz.underlying3 h0
  obtain⟨b,e1,-,w1⟩:=DataW.trod_int Tryz.underlying5 h1
  obtain⟨p,e2,-,w2⟩:=DataW.trod_int Tryz.underlying3 h2
  have hk:=bounds_u8 w1
  obtain⟨b',rfl⟩:=Int.eq_ofNat_of_zero_le hk.1
  have hk1:Tryz.prog.cellsOf 5=1:=by kernel_rfl
  have hi1:Tryz.prog.cellsOf 3=1:=by kernel_rfl
  simp[hi1]at e0
  simp[hk1]at e1
  simp[hi1]at e2
  subst e0;subst e1;subst e2
  exact⟨⟨k,b',p⟩,⟨bounds_i64 w0,by show b'<256;omega,bounds_i64 w2⟩,rfl⟩
theorem CF {r:Reach} {b0:Nat} {v:Value} {d:DataW H} {p:List MemPlace} (hval:Value.okWide Tryz.prog W r b0 23 v) (h:DataW.Trod enc Tryz.prog W base spare held 23 v d p) :
  ∃ (t:List Tk) (A:Option Addr) (off c:Nat),v=.slice A t.length c∧t.length≤c∧c≤maxLen∧(∀ x ∈ t,PG x)∧bW off W W.heap.size (.slice A t.length c) t:=by
 obtain⟨a0,len,cap,rfl⟩:=okWide_slice Tryz.underlying23 hval
 obtain⟨fuel,hf⟩:=h
 rcases open_slice Tryz.underlying23 hf with⟨hcs,-⟩ | ⟨a,l,c,m,n,D,Pl,hcs,-,hl,hc,hm,-,hi⟩
 ·cases hcs
  exact⟨[],none,0,0,rfl,Nat.le_refl _,Nat.zero_le _,(fun x hx=>by cases hx),Ba.Reads.nil _ _ _⟩
 ·cases hcs
  have hle:len≤m:=by rw[hm];split<;>omega
  have h4:Tryz.prog.cellsOf 37=3:=by kernel_rfl
  have one:∀ i,i<len→∃ y:Tk,PG y∧∀ j u,(cT y)[j]?=some u→W.cell? (a.add (i * 3+j))=some u:=by
   intro i hil
   obtain⟨cs',hcs',ht'⟩:=hi i (by omega)
   obtain⟨y,hy,rfl⟩:=VV ht'
   refine⟨y,hy,fun j u hu=>?_⟩
   rw[h4]at hcs'
   obtain⟨-,hlen,hat⟩:=World.cells?_some hcs'
   have hj:j<3:=by rw[← hlen];exact(List.getElem?_eq_some_iff.1 hu).1
   rw[← Go.Deep.add_add,hat j hj]
   exact hu
  obtain⟨f,hfx⟩:∃ f:Nat→Tk,∀ i,i<len→PG (f i)∧∀ j u,(cT (f i))[j]?=some u→W.cell? (a.add (i * 3+j))=some u :=
   ⟨fun i=>if h:i<len then Classical.choose (one i h) else ⟨0,0,0⟩,fun i h=>by
    have:=Classical.choose_spec (one i h)
    simpa only[h,dite_true] using this⟩
  have hlen:((List.range len).map f).length=len:=by simp
  obtain⟨g,off,spot⟩:=a
  refine⟨(List.range len).map f,some ⟨g,off,spot⟩,off,cap,by rw[hlen],by rw[hlen];exact hl,hc,fun x hx=>?_,⟨some ⟨g,off,spot⟩,cap,rfl,fun h0=>?_⟩⟩
  ·obtain⟨i,hi',rfl⟩:=List.mem_map.1 hx
   exact(hfx i (List.mem_range.1 hi')).1
  ·rw[hlen]at h0
   have hc0:=(hfx 0 h0).2 0 _ rfl
   have hs:spot=none:=by simpa[Addr.add] using World.cell?_spot hc0
   subst hs
   refine⟨g,rfl,?_,fun k x hx j u hu=>?_⟩
   ·exact World.block_lt_of_cell? _ _ hc0
   ·rw[List.getElem?_map]at hx
    obtain⟨i,hi',rfl⟩:=Option.map_eq_some_iff.1 hx
    have hkl:k<len:=by
     have:=(List.getElem?_eq_some_iff.1 hi').1
     simpa using this
    have:i=k:=by rw[List.getElem?_range hkl]at hi';exact(Option.some.inj hi').symm
    subst this
    have e:∀ n,(⟨g,off,none⟩:Addr).add n=⟨g,off+n,none⟩:=fun n=>by unfold Addr.add;split<;>simp_all
    have:=(hfx i hkl).2 j u hu
    rw[e]at this
    exact this
end
end Go.Proofs.YthbigkoihpgcfaaGreatDoor.Cu
