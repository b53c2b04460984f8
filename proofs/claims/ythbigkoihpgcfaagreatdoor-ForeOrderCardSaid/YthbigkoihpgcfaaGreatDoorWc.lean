/-
  Put together.
-/
import Derived.Test.YthbigkoihpgcfaaGreatDoorWa
import Derived.Test.YthbigkoihpgcfaaGreatDoorYd
import Derived.Lib.AppendStr
import Derived.StillTailTactics
open Go.Lib (hid)
open Go.Proofs.YthbigkoihpgcfaaGreatDoor.Rg (zP zN zA zB zC tk)
set_option maxRecDepth 100000
set_option maxHeartbeats 16000000
namespace Go.Proofs.YthbigkoihpgcfaaGreatDoor.Da
open Go.RowKit Ba Ru Ck Ti Pa Fl Cu
structure oN (T:bT) (w1:World) (a:Addr) (l:List Rl) (lo hi:Nat) (t:List Tk) (off g rc:Nat) (A:Option Addr) (n c:Nat):Prop where
 LS:l.length≤1000
 acc:Acc dM l
 fit:kD l
 EL:t.length=n
 qT:n≤1000
 IH:iC t
 nc:n≤c
 cm:c≤maxLen
 laid:bH w1
 tab:T.Is w1 (.pointer (some a)) l lo hi
 glt:g<w1.heap.size
 rul:∀ k x,l[k]?=some x→bZ w1 g (0+k * 5) x.aE (bytesOf x.left) (bytesOf x.cells) x.prio x.line
 rS:bW off w1 w1.heap.size (.slice A n c) t
def uA (a:Addr) (m g rc:Nat) (A:Option Addr) (n c:Nat):Value:=.agg #[.pointer (some a),.slice (some ⟨g,0,none⟩) m rc,.slice A n c]
theorem oN.later {T:bT} {w1 W:World} {a:Addr} {l:List Rl} {lo hi:Nat} {t:List Tk} {off g rc:Nat} {A:Option Addr} {n c:Nat} (E:oN T w1 a l lo hi t off g rc A n c) (h:Below w1.heap.size w1 W):oN T W a l lo hi t off g rc A n c :=
 ⟨E.LS,E.acc,E.fit,E.EL,E.qT,E.IH,E.nc,E.cm,E.laid.kept h,T.xJ E.tab (Kept.dB h (T.ptr E.tab).2),Nat.lt_of_lt_of_le E.glt h.size,fun k x hx=>(E.rul k x hx).below h E.glt,(E.rS.below h).mono h.size⟩
theorem iG {W':World} {a:Addr} {m g rc:Nat} {A:Option Addr} {n c b:Nat} (h:W'.heap[b]?=some (.cells #[.pointer (some a),.slice (some ⟨g,0,none⟩) m rc,.slice A n c] 67 (0,0))) :
  W'.cell? ⟨b,0,none⟩=some (.pointer (some a))∧W'.cell? ⟨b,1,none⟩=some (.slice (some ⟨g,0,none⟩) m rc)∧W'.cell? ⟨b,2,none⟩=some (.slice A n c):=by
 refine⟨?_,?_,?_⟩<;>(rw[Lib.cell_of_heap h];rfl)
def nB (x:Tk):Bool:=!decide (x.kind=1) && !decide (x.ch=101) && !decide (x.ch=115) && !decide (x.ch=110)
theorem JD (x:Tk) (w:World):Calls Tryz.prog 50 #[nS x] w fun e w'=>e=.returned (.bool (s6 x))∧Below w.heap.size w w':=by
 obtain⟨r,hr⟩:∃ r,s6 x=r:=⟨_,rfl⟩
 rw[hr]
 have HR:=hid hr
 obtain⟨q,c,p⟩:=x
 simp only[nS]
 clear hr
 go_enter Tryz.func50,Tryz.ntmps50
 go_upto_region 1 with fail
 have hx:=xI.new w q c p 37
 have hw:=(Below.refl w.heap.size w).alloc (Nat.le_refl _) (.cells #[.int .i64 q,.int .u8 (c:Int),.int .i64 p] 37)
 generalize w.alloc _=w1 at hx hw ⊢
 have HE:=hid hw
 obtain⟨x0,x1,x2,x3⟩:=hx
 clear hw
 by_cases k1:q=1
 ·subst k1
  by_cases k2:c=32
  ·subst k2
   have HV:=hid (show true=r from by rw[← HR.out];rfl)
   go_wp2
   go_ret
   exact⟨Cl.aC HV.out,HE.out⟩
  ·have t1:((c:Int)==32)=false:=beq_eq_false_iff_ne.2 (by omega)
   have HV:=hid (show false=r from by rw[← HR.out];unfold s6;rw[decide_eq_false k2,Bool.and_false])
   clear k2
   go_wp2
   go_ret
   exact⟨Cl.aC HV.out,HE.out⟩
 ·have t1:(q==1)=false:=beq_eq_false_iff_ne.2 k1
  have HV:=hid (show false=r from by rw[← HR.out];unfold s6;rw[decide_eq_false k1];rfl)
  clear k1
  go_wp2
  go_ret
  exact⟨Cl.aC HV.out,HE.out⟩
theorem aBB (x:Tk) (w:World):Calls Tryz.prog 104 #[nS x] w fun e w'=>e=.returned (.bool (nB x))∧Below w.heap.size w w':=by
 obtain⟨r,hr⟩:∃ r,nB x=r:=⟨_,rfl⟩
 rw[hr]
 have HR:=hid hr
 obtain⟨q,c,p⟩:=x
 simp only[nS]
 unfold nB at HR
 simp only[]at HR
 clear hr
 go_enter Tryz.func104,Tryz.ntmps104
 go_upto_region 1 with fail
 have hx:=xI.new w q c p 37
 have hw:=(Below.refl w.heap.size w).alloc (Nat.le_refl _) (.cells #[.int .i64 q,.int .u8 (c:Int),.int .i64 p] 37)
 generalize w.alloc _=w1 at hx hw ⊢
 have HE:=hid hw
 obtain⟨x0,x1,x2,x3⟩:=hx
 clear hw
 by_cases k1:q=1
 ·have t1:(q != 1)=false:=by rw[bne,k1];rfl
  have HV:=hid (show false=r from by rw[← HR.out,decide_eq_true k1];rfl)
  clear k1 HR
  go_wp2
  go_ret
  exact⟨Cl.aC HV.out,HE.out⟩
 have t1:(q != 1)=true:=bne_iff_ne.2 k1
 by_cases k2:c=101
 ·have t2:((c:Int) != 101)=false:=by rw[k2];rfl
  have HV:=hid (show false=r from by rw[← HR.out,decide_eq_true k2];simp)
  clear k1 k2 HR
  go_wp2
  go_ret
  exact⟨Cl.aC HV.out,HE.out⟩
 have t2:((c:Int) != 101)=true:=bne_iff_ne.2 (by omega)
 by_cases k3:c=115
 ·have t3:((c:Int) != 115)=false:=by rw[k3];rfl
  have HV:=hid (show false=r from by rw[← HR.out,decide_eq_true k3];simp)
  clear k1 k2 k3 HR
  go_wp2
  go_ret
  exact⟨Cl.aC HV.out,HE.out⟩
 have t3:((c:Int) != 115)=true:=bne_iff_ne.2 (by omega)
 by_cases k4:c=110
 ·have t4:((c:Int) != 110)=false:=by rw[k4];rfl
  have HV:=hid (show false=r from by rw[← HR.out,decide_eq_true k4];simp)
  clear k1 k2 k3 k4 HR
  go_wp2
  go_ret
  exact⟨Cl.aC HV.out,HE.out⟩
 have t4:((c:Int) != 110)=true:=bne_iff_ne.2 (by omega)
 have HV:=hid (show true=r from by rw[← HR.out,decide_eq_false k1,decide_eq_false k2,decide_eq_false k3,decide_eq_false k4];rfl)
 clear k1 k2 k3 k4 HR
 go_wp2
 go_ret
 exact⟨Cl.aC HV.out,HE.out⟩
theorem M7 (u:List Tk) (A:Option Addr) (off n c:Nat) (hn:u.length=n) (hn9:n≤100000) (q:Tk→Bool) (w:World) (hu:bW off w w.heap.size (.slice A n c) u)
  (hq:∀ y ∈ u,∀ W:World,Below w.heap.size w W→Calls Tryz.prog 50 #[nS y] W fun e w'=>e=.returned (.bool (q y))∧Below W.heap.size W w') :
  Calls Tryz.prog 84 #[.slice A n c,.func (.func 50) #[] #[]] w (aAY q u w):=by
 obtain⟨A',c',e,hA⟩:=hu
 injection e with e1 e2 e3
 subst e1;subst e3
 have HA:=hid hA
 have HN:=hid hn
 have HPQ:=hid hq
 clear hA hn hq e2
 go_enter Tryz.func84,Tryz.ntmps84
 go_wp2
 go_loopw [8] (fun u8 wr=>∃ j:Nat,u8=.int .i64 (j:Int)∧j≤n∧(∀ (i:Nat) (y:Tk),i<j→u[i]?=some y→q y=false)∧Below w.heap.size w wr) (fun u8 _=>n - (intOf u8).toNat)
 case atStart=>exact⟨0,rfl,Nat.zero_le _,fun i y h=>by omega,Below.refl _ _⟩
 case round =>
  obtain⟨j,rfl,hj,hjq,hB⟩:=hrel
  have HQ:=hid hjq
  have HB:=hid hB
  have j0:(0:Int)≤(j:Int):=by omega
  clear hjq
  by_cases hlt:j<n
  ·obtain⟨g,rfl,hgw,hg⟩:=HA.out (by rw[HN.out];omega)
   obtain⟨x,hx⟩:∃ x,u[j]?=some x:=⟨_,List.getElem?_eq_getElem (by rw[HN.out];exact hlt)⟩
   obtain⟨g0,g1,g2⟩:=pC hg j x hx
   have g0:=(hB.cell (p:=⟨g,off+j * 3,none⟩) hgw).trans g0
   have g1:=(hB.cell (p:=⟨g,off+j * 3+1,none⟩) hgw).trans g1
   have g2:=(hB.cell (p:=⟨g,off+j * 3+2,none⟩) hgw).trans g2
   obtain⟨bq,hbq⟩:∃ bq,q x=bq:=⟨_,rfl⟩
   have hir:=HPQ.out x (List.mem_of_getElem? hx) wr hB
   rw[hbq]at hir
   have HIR:=hid hir
   have HX:=hid hx
   have HBQ:=hid hbq
   have j1:(j:Int)<(n:Int):=by omega
   obtain⟨xk,xc,xp⟩:=x
   simp only[nS]at HIR
   simp only[]at g0 g1 g2
   clear hx hg hgw hir hbq hB
   cases bq
   ·have HNX:=hid (show ∀ (i:Nat) (y:Tk),i<j+1→u[i]?=some y→q y=false from fun i y h1 h2=>by
     rcases Nat.lt_or_ge i j with h | h
     ·exact HQ.out i y h h2
     ·obtain rfl:i=j:=by omega
      rw[HX.out]at h2;cases h2;exact HBQ.out)
    go_wp2_with fail
    refine HIR.out.mono ?_
    rintro e w2 ⟨rfl,hb2⟩
    have HB2:=hid (chain HB.out HB.out.size hb2)
    clear hb2
    go_wp2
    go_roundw
    case rel=>exact⟨j+1,by go_num,by omega,HNX.out,HB2.out⟩
    case measure=>simp[intOf];omega
   ·have HFI:=hid (show ∀ y,u[j]?=some y→q y=true from fun y hy=>by rw[HX.out]at hy;cases hy;exact HBQ.out)
    go_wp2_with fail
    refine HIR.out.mono ?_
    rintro e w2 ⟨rfl,hb2⟩
    have HB2:=hid (chain HB.out HB.out.size hb2)
    clear hb2
    go_wp2
    go_ret
    exact⟨.inl ⟨j,rfl,by rw[HN.out];exact hlt,HQ.out,HFI.out⟩,HB2.out⟩
  ·obtain rfl:j=n:=by omega
   have HFI:=hid (show ∀ (i:Nat) (y:Tk),u[i]?=some y→q y=false from fun i y h2=>HQ.out i y (by rw[← HN.out];exact(List.getElem?_eq_some_iff.1 h2).1) h2)
   clear hB
   go_wp2
   go_ret
   exact⟨.inr ⟨rfl,HFI.out⟩,HB.out⟩
theorem M8 (u:List Tk) (A:Option Addr) (off n c:Nat) (hn:u.length=n) (hn9:n≤100000) (q:Tk→Bool) (w:World) (hu:bW off w w.heap.size (.slice A n c) u)
  (hq:∀ y ∈ u,∀ W:World,Below w.heap.size w W→Calls Tryz.prog 104 #[nS y] W fun e w'=>e=.returned (.bool (q y))∧Below W.heap.size W w') :
  Calls Tryz.prog 84 #[.slice A n c,.func (.func 104) #[] #[]] w (aAY q u w):=by
 obtain⟨A',c',e,hA⟩:=hu
 injection e with e1 e2 e3
 subst e1;subst e3
 have HA:=hid hA
 have HN:=hid hn
 have HPQ:=hid hq
 clear hA hn hq e2
 go_enter Tryz.func84,Tryz.ntmps84
 go_wp2
 go_loopw [8] (fun u8 wr=>∃ j:Nat,u8=.int .i64 (j:Int)∧j≤n∧(∀ (i:Nat) (y:Tk),i<j→u[i]?=some y→q y=false)∧Below w.heap.size w wr) (fun u8 _=>n - (intOf u8).toNat)
 case atStart=>exact⟨0,rfl,Nat.zero_le _,fun i y h=>by omega,Below.refl _ _⟩
 case round =>
  obtain⟨j,rfl,hj,hjq,hB⟩:=hrel
  have HQ:=hid hjq
  have HB:=hid hB
  have j0:(0:Int)≤(j:Int):=by omega
  clear hjq
  by_cases hlt:j<n
  ·obtain⟨g,rfl,hgw,hg⟩:=HA.out (by rw[HN.out];omega)
   obtain⟨x,hx⟩:∃ x,u[j]?=some x:=⟨_,List.getElem?_eq_getElem (by rw[HN.out];exact hlt)⟩
   obtain⟨g0,g1,g2⟩:=pC hg j x hx
   have g0:=(hB.cell (p:=⟨g,off+j * 3,none⟩) hgw).trans g0
   have g1:=(hB.cell (p:=⟨g,off+j * 3+1,none⟩) hgw).trans g1
   have g2:=(hB.cell (p:=⟨g,off+j * 3+2,none⟩) hgw).trans g2
   obtain⟨bq,hbq⟩:∃ bq,q x=bq:=⟨_,rfl⟩
   have hir:=HPQ.out x (List.mem_of_getElem? hx) wr hB
   rw[hbq]at hir
   have HIR:=hid hir
   have HX:=hid hx
   have HBQ:=hid hbq
   have j1:(j:Int)<(n:Int):=by omega
   obtain⟨xk,xc,xp⟩:=x
   simp only[nS]at HIR
   simp only[]at g0 g1 g2
   clear hx hg hgw hir hbq hB
   cases bq
   ·have HNX:=hid (show ∀ (i:Nat) (y:Tk),i<j+1→u[i]?=some y→q y=false from fun i y h1 h2=>by
     rcases Nat.lt_or_ge i j with h | h
     ·exact HQ.out i y h h2
     ·obtain rfl:i=j:=by omega
      rw[HX.out]at h2;cases h2;exact HBQ.out)
    go_wp2_with fail
    refine HIR.out.mono ?_
    rintro e w2 ⟨rfl,hb2⟩
    have HB2:=hid (chain HB.out HB.out.size hb2)
    clear hb2
    go_wp2
    go_roundw
    case rel=>exact⟨j+1,by go_num,by omega,HNX.out,HB2.out⟩
    case measure=>simp[intOf];omega
   ·have HFI:=hid (show ∀ y,u[j]?=some y→q y=true from fun y hy=>by rw[HX.out]at hy;cases hy;exact HBQ.out)
    go_wp2_with fail
    refine HIR.out.mono ?_
    rintro e w2 ⟨rfl,hb2⟩
    have HB2:=hid (chain HB.out HB.out.size hb2)
    clear hb2
    go_wp2
    go_ret
    exact⟨.inl ⟨j,rfl,by rw[HN.out];exact hlt,HQ.out,HFI.out⟩,HB2.out⟩
  ·obtain rfl:j=n:=by omega
   have HFI:=hid (show ∀ (i:Nat) (y:Tk),u[i]?=some y→q y=false from fun i y h2=>HQ.out i y (by rw[← HN.out];exact(List.getElem?_eq_some_iff.1 h2).1) h2)
   clear hB
   go_wp2
   go_ret
   exact⟨.inr ⟨rfl,HFI.out⟩,HB.out⟩
theorem uY {off B g n c:Nat} {w:World} {t:List Tk} (h:bW off w B (.slice (some ⟨g,off,none⟩) n c) t) (hn:t.length=n) (a b c':Nat) (hab:a≤b) (hb:b≤n):bW (off+a * 3) w B (.slice (some ⟨g,off+a * 3,none⟩) (b - a) c') ((t.drop a).take (b - a)) :=
 wJ h a (b - a) c' (by omega)
theorem nC {t:List Tk} {a b:Nat} (hb:b≤t.length):((t.drop a).take (b - a)).length=b - a:=by
 rw[List.length_take,List.length_drop];omega
theorem pJ {t:List Tk} {a b i:Nat} (h:i<b - a):((t.drop a).take (b - a))[i]?=t[a+i]?:=by
 rw[List.getElem?_take_of_lt h,List.getElem?_drop]
theorem JE {T:bT} {w1 W:World} {a:Addr} {l:List Rl} {lo hi:Nat} {t:List Tk} {off g rc:Nat} {A:Option Addr} {n c:Nat} (E:oN T w1 a l lo hi t off g rc A n c) (hW:Below w1.heap.size w1 W) (i j:Nat) (hij:i<j) (hj:j≤n) :
  Calls Tryz.prog 52 #[uA a l.length g rc A n c,.int .i64 (i:Int),.int .i64 (j:Int)] W fun e W'=>∃ k:Nat,e=.returned (.int .i64 (k:Int))∧i≤k∧k≤j∧WD t i k∧(∀ x,k<j→t[k]?=some x→s6 x=true)∧Below W.heap.size W W':=by
 have hmax:=E.qT
 have hnc:=E.nc
 have hcm:=E.cm
 have htl:=E.EL
 obtain⟨g0,rfl,-⟩:∃ g0,A=some ⟨g0,off,none⟩∧True:=by
  obtain⟨A',c',e,h⟩:=E.rS
  injection e with e1 e2 e3
  subst e1
  obtain⟨g0,h1,-⟩:=h (by omega)
  exact⟨g0,h1,trivial⟩
 have HIX:=hid (fun(V:World) (hV:Below W.heap.size W V)=>M7 ((t.drop i).take (j - i)) (some ⟨g0,off+i * 3,none⟩) (off+i * 3) (j - i) (c - i) (nC (by omega)) (by omega) s6 V ((uY (E.rS.below (hW.trans (hV.mono hW.size))) htl i j (c - i) (by omega) hj).mono (hW.trans (hV.mono hW.size)).size) (fun y _ U _=>JD y U))
 have HNO:=hid (show ∀ k,i≤k→k≤j→(∀ (m:Nat) (y:Tk),m<k - i→((t.drop i).take (j - i))[m]?=some y→s6 y=false)→WD t i k from fun k h1 h2 h m y h3 h4 hy=>h (m - i) y (by omega) (by rw[pJ (by omega),show i+(m - i)=m by omega];exact hy))
 have HYES:=hid (show ∀ k,i≤k→k<j→(∀ y,((t.drop i).take (j - i))[k - i]?=some y→s6 y=true)→∀ x,k<j→t[k]?=some x→s6 x=true from fun k h1 h2 h x _ hx=>h x (by rw[pJ (by omega),show i+(k - i)=k by omega];exact hx))
 have HLN:=hid (show ((t.drop i).take (j - i)).length=j - i from nC (by omega))
 unfold uA
 obtain⟨m,hm⟩:∃ m,l.length=m:=⟨_,rfl⟩
 rw[hm]
 clear E hW hm
 go_enter Tryz.func52,Tryz.ntmps52
 go_upto_region 1 with fail
 have hx:=iG (heap_alloc_new W (.cells #[.pointer (some a),.slice (some ⟨g,0,none⟩) m rc,.slice (some ⟨g0,off,none⟩) n c] 67))
 have hw:=(Below.refl W.heap.size W).alloc (Nat.le_refl _) (.cells #[.pointer (some a),.slice (some ⟨g,0,none⟩) m rc,.slice (some ⟨g0,off,none⟩) n c] 67)
 generalize W.alloc _=w2 at hx hw ⊢
 have HE:=hid hw
 obtain⟨x0,x1,x2⟩:=hx
 have hix:=HIX.out w2 hw
 have HI:=hid hix
 have jc:¬ c=i:=by omega
 have j0:(0:Int)≤(i:Int):=by omega
 have j1:(i:Int)≤(j:Int):=by omega
 have j2:(j:Int)≤(c:Int):=by omega
 clear hix HIX hw
 go_wp2_with fail
 refine HI.out.mono ?_
 rintro e w3 ⟨h,hb3⟩
 have HB3:=hid (chain HE.out HE.out.size hb3)
 clear hb3
 rcases h with⟨k,rfl,h1,h2,h3⟩ | ⟨rfl,h2⟩
 ·rw[HLN.out]at h1
  have HA:=hid (HNO.out (i+k) (by omega) (by omega) (fun m y hm hy=>h2 m y (by omega) hy))
  have HB:=hid (HYES.out (i+k) (by omega) (by omega) (fun y hy=>h3 y (by rw[Nat.add_sub_cancel_left]at hy;exact hy)))
  have t0:decide ((0:Int)≤(k:Int))=true:=decide_eq_true (by omega)
  have k9:k≤1000:=by omega
  clear h2 h3
  go_wp2
  go_ret
  exact⟨i+k,by push_cast;rfl,by omega,by omega,HA.out,HB.out,HB3.out⟩
 ·have HA:=hid (HNO.out j (by omega) (Nat.le_refl _) (fun m y hm hy=>h2 m y hy))
  clear h2
  go_wp2
  go_ret
  exact⟨j,rfl,by omega,Nat.le_refl _,HA.out,fun x h _=>by omega,HB3.out⟩
def FC (b:Nat) (cd dp fr tl:Int) (cs ps:List Nat) (av cv:Value) (W:World):Prop :=
 W.heap[b]?=some (.cells #[.int .i64 cd,.int .i64 dp,.string { data:=#[] },av,.int .i64 fr,.int .i64 tl,cv] 99 (0,0))∧W.ownsRow (b+1) 3 1 av ps.length (iV ps)∧W.ownsRow (b+1) 5 1 cv cs.length (Lib.strCells (bytesOf cs))
def FI (b:Nat) (cd dp fr tl:Int) (cs ps:List Nat) (W:World):Prop:=∃ av cv,FC b cd dp fr tl cs ps av cv W
def CW (V V':World):Prop:=∀ (k:Nat) (cs:Array Value) (ty:TypeId) (fz:Nat × Nat),V.heap[k]?=some (.cells cs ty fz)→ty≠3→ty≠5→ty≠99→V'.heap[k]?=some (.cells cs ty fz)
theorem CW.refl (V:World):CW V V:=fun _ _ _ _ e _ _ _=>e
theorem CW.trans {A B C:World} (h:CW A B) (k:CW B C):CW A C:=fun j cs ty fz e n1 n2 n3=>k j cs ty fz (h j cs ty fz e n1 n2 n3) n1 n2 n3
theorem CW.of {V V':World} (h:Below V.heap.size V V'):CW V V':=fun j _ _ _ e _ _ _=>(h.block j (Array.getElem?_eq_some_iff.1 e).1).trans e
theorem CW.set {V:World} {a:Addr} {cs:Array Value} {e:TypeId} {fz:Nat × Nat} (h:V.heap[a.block]?=some (.cells cs e fz)) (he:e=3∨e=5∨e=99) (u:Value):CW V (V.setCell a u):=fun k cs' ty fz' hk n1 n2 n3=>by
 refine(Below.heap_setCell V a u k (fun e1=>?_)).trans hk
 rw[e1,h]at hk
 injection hk with hk
 injection hk with _ hk _
 subst hk
 rcases he with he | he | he
 ·exact n1 he
 ·exact n2 he
 ·exact n3 he
theorem CW.grown {W V w6:World} {v:Value} {B size n:Nat} {xs:List Value} {e:TypeId} (h2:W.ownsRow B e size v n xs) (he:e=3∨e=5∨e=99) (hb:Below W.heap.size W V) (hg:V.grownBy w6 v.ownBlock):CW W w6:=fun k cs ty fz hk n1 n2 n3=>by
 have hkl:=(Array.getElem?_eq_some_iff.1 hk).1
 refine(hg.block k (Nat.lt_of_lt_of_le hkl hb.size) (fun e1=>?_)).trans ((hb.block k hkl).trans hk)
 obtain⟨-,-,cs2,h3⟩:=qJ h2 (g:=k) e1.symm
 rw[h3]at hk
 injection hk with hk
 injection hk with _ hk _
 subst hk
 rcases he with he | he | he
 ·exact n1 he
 ·exact n2 he
 ·exact n3 he
theorem qN {W V w6:World} {B e size n B2 e2 size2 n2:Nat} {u v:Value} {xs xs2:List Value} (h:W.ownsRow B e size u n xs) (h2:W.ownsRow B2 e2 size2 v n2 xs2) (hne:e≠e2) (hb:Below W.heap.size W V) (hg:V.grownBy w6 v.ownBlock):w6.ownsRow B e size u n xs:=by
 refine⟨h.1,?_⟩
 rcases h.2 with h | ⟨g,cap,cur,hv,hB,hgc,r⟩
 ·exact .inl h
 ·have hgl:=(Array.getElem?_eq_some_iff.1 hgc).1
  refine .inr ⟨g,cap,cur,hv,hB,(hg.block g (Nat.lt_of_lt_of_le hgl hb.size) (fun e1=>?_)).trans ((hb.block g hgl).trans hgc),r⟩
  obtain⟨-,-,cs2,h3⟩:=qJ h2 (g:=g) e1.symm
  rw[h3]at hgc
  injection hgc with hgc
  injection hgc with _ hgc _
  exact hne hgc.symm
theorem aBC {W W':World} {B e size n:Nat} {u:Value} {xs:List Value} (h:W.ownsRow B e size u n xs) (n1:e≠3) (n2:e≠5) (n3:e≠99) (hk:CW W W'):W'.ownsRow B e size u n xs:=by
 refine⟨h.1,?_⟩
 rcases h.2 with h | ⟨g,cap,cur,hv,hB,hgc,r⟩
 ·exact .inl h
 ·exact .inr ⟨g,cap,cur,hv,hB,hk g cur e (0,0) hgc n1 n2 n3,r⟩
def AY (b:Nat) (W W':World):Prop:=Below b W W'∧CW W W'
theorem AY.refl (b:Nat) (W:World):AY b W W:=⟨Below.refl _ _,CW.refl _⟩
theorem AY.trans {b:Nat} {A B C:World} (h:AY b A B) (k:AY b B C):AY b A C:=⟨h.1.trans k.1,h.2.trans k.2⟩
theorem AY.of {b:Nat} {A B:World} (hb:b≤A.heap.size) (h:Below A.heap.size A B):AY b A B:=⟨h.mono hb,CW.of h⟩
section
variable {b:Nat} {cd dp fr tl:Int} {cs ps:List Nat} {av cv:Value} {W W' w6:World}
theorem FC.lt (h:FC b cd dp fr tl cs ps av cv W):b<W.heap.size:=(Array.getElem?_eq_some_iff.1 h.1).1
theorem FI.lt (h:FI b cd dp fr tl cs ps W):b<W.heap.size:=by obtain⟨_,_,h⟩:=h;exact h.lt
theorem FI.below (h:FI b cd dp fr tl cs ps W) (hb:Below W.heap.size W W'):FI b cd dp fr tl cs ps W':=by
 obtain⟨av,cv,h⟩:=h
 exact⟨av,cv,(hb.block b h.lt).trans h.1,a6 h.2.1 hb,a6 h.2.2 hb⟩
theorem FI.step (h:FI b cd dp fr tl cs ps W) (hb:Below W.heap.size W W'):FI b cd dp fr tl cs ps W'∧AY b W W':=⟨h.below hb,AY.of (Nat.le_of_lt h.lt) hb⟩
theorem FC.cells (h:FC b cd dp fr tl cs ps av cv W):W.cell? ⟨b,0,none⟩=some (.int .i64 cd)∧W.cell? ⟨b,1,none⟩=some (.int .i64 dp)∧W.cell? ⟨b,2,none⟩=some (.string { data:=#[] })∧W.cell? ⟨b,3,none⟩=some av∧W.cell? ⟨b,4,none⟩=some (.int .i64 fr)∧W.cell? ⟨b,5,none⟩=some (.int .i64 tl)∧W.cell? ⟨b,6,none⟩=some cv:=by
 refine⟨?_,?_,?_,?_,?_,?_,?_⟩<;>(rw[Lib.cell_of_heap h.1];rfl)
theorem FI.cells (h:FI b cd dp fr tl cs ps W):W.cell? ⟨b,4,none⟩=some (.int .i64 fr)∧W.cell? ⟨b,5,none⟩=some (.int .i64 tl):=by
 obtain⟨_,_,h⟩:=h
 exact⟨h.cells.2.2.2.2.1,h.cells.2.2.2.2.2.1⟩
theorem EM (a b:List Nat):Lib.strCells (bytesOf (a++b))=Lib.strCells (bytesOf a)++Lib.strCells (bytesOf b):=by
 rw[jN]
 unfold Lib.strCells
 rw[ByteArray.data_append,Array.toList_append,List.map_append]
theorem FC.aF0 {v6:Value} {xs:List Nat} (h:FC b cd dp fr tl cs ps av cv W) (hgrow:W.grownBy w6 cv.ownBlock) (own6:w6.ownsRow (b+1) 5 1 v6 (cs.length+(bytesOf xs).size) (Lib.strCells (bytesOf cs)++Lib.strCells (bytesOf xs))) :
  w6.heap[b]?=some (.cells #[.int .i64 cd,.int .i64 dp,.string { data:=#[] },av,.int .i64 fr,.int .i64 tl,cv] 99 (0,0))∧FI b cd dp fr tl (cs++xs) ps (w6.setCell ⟨b,6,none⟩ v6)∧AY b W (w6.setCell ⟨b,6,none⟩ v6):=by
 have hbl:=h.lt
 obtain⟨h1,h2,h3⟩:=h
 have hlt:=h3.lt
 have s1:w6.heap[b]?=W.heap[b]?:=hgrow.block b hbl (fun e1=>by have:=(hlt _ e1.symm).1;omega)
 have h6:=s1.trans h1
 have s2:Below b W w6:=(Below.refl b W).grown hgrow (by omega) (fun j ej=>by have:=(hlt j ej).1;omega)
 have o2:=qN h2 h3 (by decide) (Below.refl _ W) hgrow
 refine⟨h6,⟨av,v6,?_,ownsRow_setCell_below o2 (show b<b+1 by omega) _,?_⟩,s2.setCell (p:=⟨b,6,none⟩) (Nat.le_refl _) _,(CW.grown h3 (.inr (.inl rfl)) (Below.refl _ W) hgrow).trans (CW.set (a:=⟨b,6,none⟩) h6 (.inr (.inr rfl)) v6)⟩
 ·simp only[World.setCell,Array.getElem?_modify,h6];rfl
 ·rw[List.length_append,EM]
  rw[aF]at own6
  exact ownsRow_setCell_below own6 (show b<b+1 by omega) _
theorem FC.aF1 {o:Obj} {v6:Value} {p:Nat} (h:FC b cd dp fr tl cs ps av cv W) (hgrow:(W.alloc o).grownBy w6 av.ownBlock) (own6:w6.ownsRow (b+1) 3 1 v6 (ps.length+1) (iV (ps++[p]))) :
  w6.heap[b]?=some (.cells #[.int .i64 cd,.int .i64 dp,.string { data:=#[] },av,.int .i64 fr,.int .i64 tl,cv] 99 (0,0))∧FI b cd dp fr tl cs (ps++[p]) (w6.setCell ⟨b,3,none⟩ v6)∧AY b W (w6.setCell ⟨b,3,none⟩ v6):=by
 have hbl:=h.lt
 obtain⟨h1,h2,h3⟩:=h
 have hlt:=h2.lt
 have ha:Below W.heap.size W (W.alloc o):=(Below.refl _ W).alloc (Nat.le_refl _) _
 have s1:w6.heap[b]?=W.heap[b]?:=(hgrow.block b (by simp;omega) (fun e1=>by have:=(hlt _ e1.symm).1;omega)).trans (ha.block b hbl)
 have h6:=s1.trans h1
 have s2:Below b W w6:=((Below.refl _ W).alloc (by omega) _).grown hgrow (by simp;omega) (fun j ej=>by have:=(hlt j ej).1;omega)
 have o3:=qN h3 h2 (by decide) ha hgrow
 refine⟨h6,⟨v6,cv,?_,?_,ownsRow_setCell_below o3 (show b<b+1 by omega) _⟩,s2.setCell (p:=⟨b,3,none⟩) (Nat.le_refl _) _,(CW.grown h2 (.inl rfl) ha hgrow).trans (CW.set (a:=⟨b,3,none⟩) h6 (.inr (.inr rfl)) v6)⟩
 ·simp only[World.setCell,Array.getElem?_modify,h6];rfl
 ·rw[List.length_append,List.length_singleton]
  exact ownsRow_setCell_below own6 (show b<b+1 by omega) _
end
theorem WN (n p:Nat):List.replicate (n+1) p=List.replicate n p++[p]:=List.replicate_succ' ..
theorem uT {b:Nat} {cd dp fr tl:Int} {cs ps:List Nat} {W:World} (hF:FI b cd dp fr tl cs ps W) (hcs:cs.length≤100000000) (hps:ps.length≤100000000) (xs:List Nat) (hx:xs.length≤9000) (X:ByteArray) (hX:bytesOf xs=X) (p:Nat) :
  Calls Tryz.prog 51 #[.pointer (some ⟨b,0,none⟩),.string X,.int .i64 (p:Int)] W fun e W'=>e=.returned (.tuple #[])∧FI b cd dp fr tl (cs++xs) (ps++List.replicate xs.length p) W'∧AY b W W':=by
 obtain⟨i0,hi0,hz0,hz1,hz2⟩:=info_parts Cl.infoByte
 obtain⟨i1,hi1,hy0,hy1,hy2⟩:=info_parts JF
 have hxs:X.size=xs.length:=by rw[← hX];exact aF _
 obtain⟨av,cv,hC⟩:=hF
 have hbl:=hC.lt
 obtain⟨-,-,-,-,-,-,q6⟩:=hC.cells
 have HPC:=hid (fun(v6:Value) (w6:World) h1 h2=>hC.aF0 (v6:=v6) (w6:=w6) (xs:=xs) h1 h2)
 have HOC:=hid hC.2.2
 rw[hX]at HPC
 obtain⟨Ac,cc,rfl,-,-,-⟩:=aN hC.2.2
 obtain⟨nc,hnc⟩:∃ nc,cs.length=nc:=⟨_,rfl⟩
 obtain⟨np,hnp⟩:∃ np,ps.length=np:=⟨_,rfl⟩
 rw[hnc]at q6 hcs HPC HOC
 have HNP:=hid hnp
 have HXS:=hid hxs
 obtain⟨ys,hys⟩:∃ ys,cs++xs=ys:=⟨_,rfl⟩
 rw[hys]at HPC ⊢
 rw[hnp]at hps
 rw[hxs.symm]
 clear hC hX hxs hys hnp hnc
 have hX9:X.size≤9000:=by rw[HXS.out];exact hx
 clear hx
 go_enter Tryz.func51,Tryz.ntmps51
 go_wp2_with (at_builtin;refine Lib.wpList_append_own_string _ rfl _ _ 89 9 rfl (b+1) 5 i0 Tryz.underlying89 Tryz.underlying9 hi0 hz0 hz1 hz2 _ _ _ rfl HOC.out X rfl (by unfold maxLen;omega) (by omega) (by omega) ?_;intro v6 w6 hown6 hgrow6 _;obtain⟨hb6,hf6,hs6⟩:=HPC.out _ _ hgrow6 hown6;have hc6:w6.cell? ⟨b,6,none⟩=some (.slice Ac nc cc):=(by rw[Lib.cell_of_heap hb6];rfl);have hz6:w6.frozen? ⟨b,6,none⟩=false:=Lib.frozen_of_heap hb6 6;obtain⟨A6,c6,rfl,-⟩:=aN hown6;have HF6:=hid hf6;have HS6:=hid hs6;clear hf6 hs6 hb6 hgrow6 hown6)
 generalize w6.setCell _ _=W6 at HF6 HS6 ⊢
 clear hc6 hz6 HPC HOC q6 hbl
 go_loopw [17] (fun i wr=>∃ k:Nat,i=.int .i64 (k:Int)∧k≤X.size∧FI b cd dp fr tl ys (ps++List.replicate k p) wr∧AY b W wr) (fun i _=>X.size - (intOf i).toNat)
 case atStart=>exact⟨0,rfl,Nat.zero_le _,by rw[List.replicate_zero,List.append_nil];exact HF6.out,HS6.out⟩
 case round =>
  obtain⟨k,rfl,hk,hf,hs⟩:=hrel
  have HF:=hid hf
  have HS:=hid hs
  have k0:(0:Int)≤(k:Int):=by omega
  clear hs
  by_cases hlt:k<X.size
  ·obtain⟨av,cv,hC⟩:=hf
   have hbl:=hC.lt
   obtain⟨-,-,-,r3,-,-,-⟩:=hC.cells
   have HPP:=hid (fun(o:Obj) (v6:Value) (w6:World) h1 h2=>hC.aF1 (o:=o) (v6:=v6) (w6:=w6) (p:=p) h1 h2)
   have HOP:=hid hC.2.1
   obtain⟨Aa,ca,rfl,-,-,-⟩:=aN hC.2.1
   have hln:(ps++List.replicate k p).length=np+k:=by rw[List.length_append,List.length_replicate,HNP.out]
   rw[hln]at r3 HPP HOP
   obtain⟨zs,hzs⟩:∃ zs,ps++List.replicate k p=zs:=⟨_,rfl⟩
   have HNX:=hid (show ps++List.replicate (k+1) p=zs++[p] from by rw[WN,← List.append_assoc,hzs])
   rw[hzs]at HPP HOP
   obtain⟨m,hm⟩:∃ m,np+k=m:=⟨_,rfl⟩
   rw[hm]at r3 HPP HOP
   have hmm:m≤100009000:=by omega
   clear hC hln hzs hm HF
   go_wp2_with (at_builtin;refine wpList_append_lies _ rfl _ _ 32 rfl (b+1) 3 i1 _ 1 8 Tryz.underlying32 hi1 hy0 hy1 hy2 rfl (by decide) _ _ _ rfl (HOP.out.alloc _) ⟨wr.heap.size,0,none⟩ 1 1 [.int .i64 (p:Int)] rfl rfl (World.news_of_block (cs:=#[.int .i64 (p:Int)]) (t:=3) (fr:=(0,0)) (heap_alloc_new wr _)) (by simp[Value.oneCell']) (by omega) (by unfold maxLen;omega) (by omega) (by simp;omega) (wr.heap.size+1) (by simp) ?_;intro gg cap w6 hown6 hgrow6 _ _;obtain⟨hb6,hf6,hs6⟩:=HPP.out _ _ w6 hgrow6 (by rw[PL];exact hown6);have hc6:w6.cell? ⟨b,3,none⟩=some (.slice Aa m ca):=(by rw[Lib.cell_of_heap hb6];rfl);have hz6:w6.frozen? ⟨b,3,none⟩=false:=Lib.frozen_of_heap hb6 3;have HF6:=hid hf6;have HS6:=hid (HS.out.trans hs6);clear hf6 hs6 hb6 hgrow6 hown6)
   go_roundw
   case rel=>exact⟨k+1,by go_num,by omega,by rw[HNX.out];exact HF6.out,HS6.out⟩
   case measure=>simp[intOf];omega
  ·obtain rfl:k=X.size:=by omega
   clear hf
   go_wp2
   go_end0
   exact⟨rfl,HF.out,HS.out⟩
theorem EN (l:List Rl) (t:List Tk):(j6 l t).length≤4 * t.length+2:=by
 have hs:(bI l t).length≤4 * t.length:=kL l _ _ _ _
 unfold j6
 cases hw:dD l t with
 | none =>
  simp only[]
  split
  ·rw[List.length_cons];omega
  ·omega
 | some p =>
  simp only[]
  unfold dD at hw
  split at hw
  ·split at hw
   ·cases hw
   ·split at hw
    ·cases hw;simp
    ·cases hw;simp
    ·cases hw;simp
    ·cases hw
  ·cases hw
theorem gH {B B2 e size n:Nat} {w:World} {v:Value} {xs:List Value} (h:w.ownsRow B2 e size v n xs) (hB:B≤B2):w.ownsRow B e size v n xs:=by
 refine⟨h.1,?_⟩
 rcases h.2 with h | ⟨g,cap,cur,hv,hg,r⟩
 ·exact .inl h
 ·exact .inr ⟨g,cap,cur,hv,Nat.le_trans hB hg,r⟩
def dO (l:List Rl) (i:Nat) (p:List Pc) (k:Nat):List (Nat × Nat):=bJ l i (p.take k)
theorem JG {l:List Rl} {i:Nat} {p:List Pc} {k:Nat} {x:Pc} {y:Rl} (hx:p[k]?=some x) (hy:l[x.rule]?=some y):dO l i p (k+1)=dO l i p k++y.cells.map fun c=>(c,i+x.aR):=by
 unfold dO
 rw[List.take_add_one,hx,Option.toList_some,IZ,hy]
 rfl
theorem aBD (c:List Nat) (m:Nat):(c.map fun x=>(x,m)).map (·.1)=c:=by
 rw[List.map_map];exact List.map_id' c
theorem aBE (c:List Nat) (m:Nat):(c.map fun x=>(x,m)).map (·.2)=List.replicate c.length m:=by
 rw[List.map_map]
 induction c with
 | nil=>rfl
 | cons a c ih=>rw[List.map_cons,ih,List.length_cons,List.replicate_succ];rfl
theorem nW {l:List Rl} (h:∀ x ∈ l,x.cells.length≤9000) (i:Nat):∀ p:List Pc,(bJ l i p).length≤p.length * 9000
 | []=>Nat.zero_le _
 | x::p=>by
  have ih:=nW h i p
  show (((l[x.rule]?.map (·.cells)).getD []).map (fun c=>(c,i+x.aR))++bJ l i p).length≤_
  rw[List.length_append,List.length_map,List.length_cons]
  have h1:((l[x.rule]?.map (·.cells)).getD []).length≤9000:=by
   cases ho:l[x.rule]? with
   | none=>exact Nat.zero_le _
   | some y=>exact h y (List.mem_of_getElem? ho)
  have h2:(p.length+1) * 9000=p.length * 9000+9000:=by omega
  omega
theorem SI {t:List Tk} {k:Nat} {x:Tk} (hx:t[k]?=some x):t.drop k=x::t.drop (k+1):=by
 obtain⟨hk,e⟩:=List.getElem?_eq_some_iff.1 hx
 rw[List.drop_eq_getElem_cons hk,e]
def j8 (l:List Rl) (t:List Tk) (k j:Nat):List (Nat × Nat):=oL l k ((t.take j).drop k)
def aX (t:List Tk) (k j:Nat):Bool:=gA ((t.take j).drop k)
theorem WO {l:List Rl} (A:Acc dM l) (t:List Tk) (j:Nat):j8 l t j j=[]∧aX t j j=true:=by
 have e:(t.take j).drop j=[]:=by rw[List.drop_eq_nil_iff,List.length_take];omega
 unfold j8 aX
 rw[e]
 exact⟨I4 A j,rfl⟩
theorem M9 {l:List Rl} (A:Acc dM l) {t:List Tk} {k j:Nat} (hkj:k<j) {x:Tk} (hx:t[k]?=some x) (hs:s6 x=true):j8 l t k j=(0,k)::j8 l t (k+1) j∧aX t k j=aX t (k+1) j:=by
 have e:(t.take j).drop k=x::(t.take j).drop (k+1):=SI (by rw[List.getElem?_take_of_lt hkj];exact hx)
 unfold j8 aX
 rw[e]
 exact rT A k hs
theorem NA {l:List Rl} (A:Acc dM l) {t:List Tk} {k e j:Nat} (hke:k≤e) (hej:e≤j) (hj:j≤t.length) (hn:WD t k e) (hs:∀ x,e<j→t[e]?=some x→s6 x=true):j8 l t k j=bJ l k (j6 l ((t.drop k).take (e - k)))++j8 l t e j∧aX t k j=(bB ((t.drop k).take (e - k)) && aX t e j):=by
 have h1:(t.take j).drop k=(t.drop k).take (e - k)++(t.take j).drop e:=by
  rw[List.drop_take,List.drop_take]
  have h2:(t.drop k).take (j - k)=(t.drop k).take (e - k)++((t.drop k).drop (e - k)).take (j - e):=by
   conv=>lhs;rw[show j - k=(e - k)+(j - e) by omega]
   rw[List.take_add]
  rw[h2,List.drop_drop,show k+(e - k)=e by omega]
 have h3:=M5 A k (c:=(t.drop k).take (e - k)) (r:=(t.take j).drop e) (fun y hy=>hn.mem y hy) (fun y r he=>by
  have hlt:e<j:=by
   have h:=congrArg List.length he
   rw[List.length_drop,List.length_take,List.length_cons]at h
   omega
  refine hs y hlt ?_
  have h:((t.take j).drop e)[0]?=some y:=by rw[he];rfl
  rw[List.getElem?_drop,Nat.add_zero,List.getElem?_take_of_lt hlt]at h
  exact h)
 unfold j8 aX
 rw[h1,h3.1,h3.2,nC (by omega),show k+(e - k)=e by omega]
 exact⟨rfl,rfl⟩
theorem pE {l:List Rl} (h:∀ x ∈ l,x.cells.length≤9000):∀ (cs:List (List Tk)) (i:Nat),(iM l i cs).length≤EK cs * 54000+18000
 | [],_=>Nat.zero_le _
 | [c],i=>by
  have h1:=nW h i (j6 l c)
  have h2:=EN l c
  have h3:(iM l i [c]).length=(bJ l i (j6 l c)).length:=rfl
  have h4:EK [c]=c.length:=rfl
  rw[h3,h4]
  generalize (bJ l i (j6 l c)).length=u at h1 ⊢
  generalize (j6 l c).length=v at h1 h2
  clear h3 h4 h
  generalize c.length=n at h2 ⊢
  omega
 | c::d::r,i=>by
  have h1:=nW h i (j6 l c)
  have h2:=EN l c
  have ih:=pE h (d::r) (i+c.length+1)
  have h3:iM l i (c::d::r)=bJ l i (j6 l c)++(0,i+c.length)::iM l (i+c.length+1) (d::r):=rfl
  have h4:EK (c::d::r)=c.length+1+EK (d::r):=rfl
  rw[h3,h4,List.length_append,List.length_cons]
  generalize (bJ l i (j6 l c)).length=u at h1 ⊢
  generalize (j6 l c).length=v at h1 h2
  generalize (iM l (i+c.length+1) (d::r)).length=w at ih ⊢
  generalize EK (d::r)=q at ih ⊢
  clear h3 h4 h
  generalize c.length=n at h2 ⊢
  omega
theorem WQ {l:List Rl} (h:∀ x ∈ l,x.cells.length≤9000) {t:List Tk} (ht:t.length≤1000) (i:Nat):(oL l i t).length≤55000000:=by
 have h1:=pE h (aS t) i
 rw[wQ]at h1
 unfold oL
 omega
theorem WR {T:bT} {w1 W:World} {a:Addr} {l:List Rl} {lo hi:Nat} {t:List Tk} {off g rc:Nat} {A:Option Addr} {n c:Nat} (E:oN T w1 a l lo hi t off g rc A n c) (hW:Below w1.heap.size w1 W) {b:Nat} (hbw:w1.heap.size=b) {cd dp fr tl:Int} {cs ps:List Nat} (hF:FI b cd dp fr tl cs ps W) (hcs:cs.length≤60000000) (hps:ps.length≤60000000) (i j:Nat) (hij:i<j) (hj:j≤n) (u:List Tk) (hu:(t.drop i).take (j - i)=u) (f:Int) (hf:rQ u=f) (qs:List Pc) (hqs:PF l u=qs) :
  Calls Tryz.prog 53 #[uA a l.length g rc A n c,.pointer (some ⟨b,0,none⟩),.int .i64 (i:Int),.int .i64 (j:Int)] W fun e W'=>e=.returned (.int .i64 f)∧FI b cd dp fr tl (cs++(bJ l i qs).map (·.1)) (ps++(bJ l i qs).map (·.2)) W'∧AY b W W':=by
 have hmax:=E.qT
 have hnc:=E.nc
 have hcm:=E.cm
 have htl:=E.EL
 obtain⟨g0,rfl⟩:∃ g0,A=some ⟨g0,off,none⟩:=by
  obtain⟨A',c',e,h⟩:=E.rS
  injection e with e1 e2 e3
  subst e1
  obtain⟨g0,h1,-⟩:=h (by omega)
  exact⟨g0,h1⟩
 have hul:u.length=j - i:=by rw[← hu];exact nC (by omega)
 have hqv:∀ (k:Nat) (x:Pc),qs[k]?=some x→∃ y,l[x.rule]?=some y∧x.aR<j - i:=fun k x hx=>by
  have hm:=List.mem_of_getElem? hx
  rw[← hqs]at hm
  unfold PF at hm
  split at hm
  ·rename_i hch
   have hv:=pB E.acc hch x hm
   refine⟨_,List.getElem?_eq_getElem hv,?_⟩
   have:=I2 E.acc u x hm
   omega
  ·cases hm
 have hql:qs.length≤4010:=by
  rw[← hqs]
  unfold PF
  split
  ·have:=EN l u
   omega
  ·exact Nat.zero_le _
 have HOF0:=hid (fun(V:World) (hV:Below W.heap.size W V)=>show Calls Tryz.prog 85 #[.pointer (some a),.slice (some ⟨g0,off+i * 3,none⟩) (j - i) (c - i)] V fun e w'=>∃ v',e=.returned (.tuple #[v',.int .i64 f])∧w'.ownsRow V.heap.size 77 3 v' qs.length (cW qs)∧Below V.heap.size V w' from by
  have hWV:Below w1.heap.size w1 V:=hW.trans (hV.mono hW.size)
  have EV:=E.later hWV
  have hr:=uY EV.rS htl i j (c - i) (by omega) hj
  rw[hu]at hr
  have h:=aDP (T:=T) (tv:=.pointer (some a)) (v:=.slice (some ⟨g0,off+i * 3,none⟩) (j - i) (c - i)) (by omega) (fun x hx=>E.IH x (by rw[← hu]at hx;exact List.mem_of_mem_drop (List.mem_of_mem_take hx))) (qF (by omega) (by omega)) E.LS E.acc E.fit V EV.laid EV.tab hr
  rw[hf,hqs]at h
  exact h)
 have HRU:=hid (fun(V:World) (hV:Below w1.heap.size w1 V) (k:Nat) (x:Rl) (hx:l[k]?=some x)=>show V.cell? ⟨g,k * 5+2,none⟩=some (.string (bytesOf x.cells)) from by
  have:=((E.rul k x hx).below hV E.glt).c2
  rw[Nat.zero_add]at this
  exact this)
 have HCL:=hid (fun(k:Nat)=>show (dO l i qs k).length≤40000000 from by
  have h1:=nW (fun x hx=>(E.fit x hx).2.2) i (qs.take k)
  have h2:(qs.take k).length≤4010:=by rw[List.length_take];omega
  have h3:(qs.take k).length * 9000≤4010 * 9000:=Nat.mul_le_mul_right _ h2
  unfold dO
  omega)
 have HC9:=hid (fun(k:Nat) (x:Rl) (hx:l[k]?=some x)=>(E.fit x (List.mem_of_getElem? hx)).2.2)
 have HQV:=hid hqv
 have HW:=hid hW
 have HALL:=hid (show dO l i qs qs.length=bJ l i qs from by unfold dO;rw[List.take_length])
 have HNIL:=hid (show dO l i qs 0=[] from rfl)
 have HSN:=hid (fun(k:Nat) (x:Pc) (y:Rl) h1 h2=>JG (l:=l) (i:=i) (p:=qs) (k:=k) (x:=x) (y:=y) h1 h2)
 have hfew:=E.LS
 have HLT:=hid (fun(k:Nat) (x:Rl) (hx:l[k]?=some x)=>(List.getElem?_eq_some_iff.1 hx).1)
 rw[hbw]at HRU HW
 unfold uA
 obtain⟨nl,hnl⟩:∃ m,l.length=m:=⟨_,rfl⟩
 obtain⟨m,hm⟩:∃ m,qs.length=m:=⟨_,rfl⟩
 rw[hnl]at HLT hfew ⊢
 rw[hm]at HALL HOF0 hql
 have HM:=hid hm
 have hF0:=hF.lt
 have HF:=hid hF
 have HCS:=hid hcs
 have HPS:=hid hps
 clear E hW hnl hu hf hqs hqv hm hul htl hbw hF hcs hps
 go_enter Tryz.func53,Tryz.ntmps53
 go_upto_region 1 with fail
 obtain⟨B0,hB0⟩:∃ B0,W.heap.size=B0:=⟨_,rfl⟩
 have hbx:=heap_alloc_new W (.cells #[.pointer (some a),.slice (some ⟨g,0,none⟩) nl rc,.slice (some ⟨g0,off,none⟩) n c] 67)
 have hw:=(Below.refl W.heap.size W).alloc (Nat.le_refl _) (.cells #[.pointer (some a),.slice (some ⟨g,0,none⟩) nl rc,.slice (some ⟨g0,off,none⟩) n c] 67)
 generalize W.alloc _=w2 at hbx hw ⊢
 have HB2:=hid hw
 rw[hB0]at hbx ⊢
 have HBX:=hid hbx
 have HSS:=hid (fun(V:World) (hV:Below w2.heap.size w2 V)=>show V.cell? ⟨B0,0,none⟩=some (.pointer (some a))∧V.cell? ⟨B0,2,none⟩=some (.slice (some ⟨g0,off,none⟩) n c)∧Below w2.heap.size w2 V from by
  have h:=iG ((hV.block B0 (Array.getElem?_eq_some_iff.1 hbx).1).trans hbx)
  exact⟨h.1,h.2.2,hV⟩)
 have HOF:=hid (fun(V:World) (hV:Below w2.heap.size w2 V)=>HOF0.out V (chain hw hw.size hV))
 clear HOF0
 have jc:¬ c=i:=by omega
 have j0:(0:Int)≤(i:Int):=by omega
 have j1:(i:Int)≤(j:Int):=by omega
 have j2:(j:Int)≤(c:Int):=by omega
 clear hbx hw
 have hS:=(HSS.out _ (Below.refl _ _).drew)
 refine wp_region_held_drew (S:=(fun V:World=>V.cell? ⟨B0,0,none⟩=some (.pointer (some a))∧V.cell? ⟨B0,2,none⟩=some (.slice (some ⟨g0,off,none⟩) n c)∧Below w2.heap.size w2 V)) (by kernel_rfl) hS (fun hHeld=>?_)
 refine tk 0 (v:=?_) ?_ ?_
 rotate_left
 ·rintro W ⟨x0,x2,-⟩;go_simp;all_goals (with_reducible rfl)
 try simp only[zP,zA,zB,zC]
 refine tk 1 (v:=?_) ?_ ?_
 rotate_left
 ·rintro W ⟨x0,x2,-⟩;go_simp;all_goals (with_reducible rfl)
 try simp only[zP,zA,zB,zC]
 refine tk 2 (v:=?_) ?_ ?_
 rotate_left
 ·rintro W ⟨x0,x2,-⟩;go_simp;all_goals (with_reducible rfl)
 try simp only[zP,zA,zB,zC]
 refine tk 3 (v:=?_) ?_ ?_
 rotate_left
 ·rintro W ⟨x0,x2,-⟩;go_simp;all_goals (with_reducible rfl)
 try simp only[zP,zA,zB,zC]
 refine tk 4 (v:=?_) ?_ ?_
 rotate_left
 ·rintro W ⟨x0,x2,-⟩;go_simp;all_goals (with_reducible rfl)
 try simp only[zP,zA,zB,zC]
 refine tk 5 (v:=?_) ?_ ?_
 rotate_left
 ·rintro W ⟨x0,x2,-⟩;go_simp;all_goals (with_reducible rfl)
 try simp only[zP,zA,zB,zC]
 refine Rg.NB 6 (by simp only[List.getElem?_toArray,List.getElem?_cons_succ,List.getElem?_cons_zero];rfl) (by kernel_rfl) (by kernel_rfl) (by kernel_rfl) (.slice (some ⟨g0,off+i * 3,none⟩) (j - i) (c - i)) (by exact fun _ _ _ h=>h) (by rfl) (by intro W hSw;(obtain⟨x0,x2,-⟩:=hSw);go_simp) (by with_reducible exact hS) ?_
 try simp only[zP,zA,zB,zC]
 refine Rg.take_one 7 (by simp only[List.getElem?_toArray,List.getElem?_cons_succ,List.getElem?_cons_zero];rfl) (by kernel_rfl) (fun K hK=>?_)
 go_simp
 go_at_call 85
 refine(HOF.out _ hS.2.2).mono ?_
 rintro e w4 ⟨v4,rfl,hown4,hb4⟩
 have hS7:=HSS.out _ (chain hS.2.2 hS.2.2.size hb4)
 have HO4:=hid (gH hown4 hS.2.2.size)
 obtain⟨A4,c4,rfl,-,-,-⟩:=aN hown4
 clear hown4
 go_wp2_with fail
 refine hK.out _ _ hS7 (fun hHeld7=>?_)
 clear hK K
 try simp only[zP,zA,zB,zC]
 try simp only[zN]
 refine tk 8 (v:=?_) ?_ ?_
 rotate_left
 ·rintro W ⟨x0,x2,-⟩;go_simp;all_goals (with_reducible rfl)
 try simp only[zP,zA,zB,zC]
 refine tk 9 (v:=?_) ?_ ?_
 rotate_left
 ·rintro W ⟨x0,x2,-⟩;go_simp;all_goals (with_reducible rfl)
 try simp only[zP,zA,zB,zC]
 refine tk 10 (v:=?_) ?_ ?_
 rotate_left
 ·rintro W ⟨x0,x2,-⟩;go_simp;all_goals (with_reducible rfl)
 try simp only[zP,zA,zB,zC]
 refine tk 11 (v:=?_) ?_ ?_
 rotate_left
 ·rintro W ⟨x0,x2,-⟩;go_simp;all_goals (with_reducible rfl)
 try simp only[zP,zA,zB,zC]
 refine tk 12 (v:=?_) ?_ ?_
 rotate_left
 ·rintro W ⟨x0,x2,-⟩;go_simp;all_goals (with_reducible rfl)
 try simp only[zP,zA,zB,zC]
 refine wpAnyH_done (by kernel_rfl) ?_ _
 have HB4:=hid hS7.2.2
 clear hS hS7
 have hs4:=HF.out.step (chain HB2.out HB2.out.size HB4.out)
 have HK4:=hid hs4
 have HBX4:=hid (show w4.heap[B0]?=some (.cells #[.pointer (some a),.slice (some ⟨g,0,none⟩) nl rc,.slice (some ⟨g0,off,none⟩) n c] 67 (0,0)) from (HB4.out.block B0 (Array.getElem?_eq_some_iff.1 HBX.out).1).trans HBX.out)
 clear hs4 HSS HOF
 go_wp2
 go_loopw [26] (fun u26 wr=>∃ k:Nat,u26=.int .i64 (k:Int)∧k≤m∧FI b cd dp fr tl (cs++(dO l i qs k).map (·.1)) (ps++(dO l i qs k).map (·.2)) wr∧AY b w4 wr) (fun u26 _=>m - (intOf u26).toNat)
 case atStart=>exact⟨0,rfl,Nat.zero_le _,by rw[HNIL.out,List.map_nil,List.map_nil,List.append_nil,List.append_nil];exact HK4.out.1,AY.refl _ _⟩
 case round =>
  obtain⟨k,rfl,hk,hf,hs⟩:=hrel
  have HFK:=hid hf
  have HSK:=hid hs
  have k0:(0:Int)≤(k:Int):=by omega
  by_cases hlt:k<m
  ·obtain⟨x,hx⟩:∃ x,qs[k]?=some x:=⟨_,List.getElem?_eq_getElem (by rw[HM.out];exact hlt)⟩
   obtain⟨y,hy,hfr⟩:=HQV.out k x hx
   have hown:=aBC HO4.out (by decide) (by decide) (by decide) hs.2
   have hrd:=yT HM.out hown
   obtain⟨A',c',e,hA⟩:=hrd
   injection e with e1 e2 e3
   subst e1;subst e3
   clear e2
   obtain⟨g1,rfl,hg1,hc1⟩:=hA (by rw[List.length_map,HM.out];omega)
   obtain⟨q0,q1,q2⟩:=aC2 hc1 k ⟨(x.rule:Int),(x.aR:Int),(x.len:Int)⟩ (by rw[List.getElem?_map,hx];rfl)
   obtain⟨xr,xf,xn⟩:=x
   simp only[Nat.zero_add]at q0 q1 q2 hy hfr
   have hy9:=HC9.out xr y hy
   have hrl:=HLT.out xr y hy
   have hsnF:=HSN.out k ⟨xr,xf,xn⟩ y hx hy
   simp only[]at hsnF
   have HNF:=hid (show (cs++(dO l i qs k).map (·.1))++y.cells=cs++(dO l i qs (k+1)).map (·.1) from by rw[hsnF,List.map_append,aBD,List.append_assoc])
   have HNS:=hid (show (ps++(dO l i qs k).map (·.2))++List.replicate y.cells.length (i+xf)=ps++(dO l i qs (k+1)).map (·.2) from by rw[hsnF,List.map_append,aBE,List.append_assoc])
   have hlF:(cs++(dO l i qs k).map (·.1)).length≤100000000:=by
    have:=HCL.out k;have:=HCS.out
    rw[List.length_append,List.length_map];omega
   have hlS:(ps++(dO l i qs k).map (·.2)).length≤100000000:=by
    have:=HCL.out k;have:=HPS.out
    rw[List.length_append,List.length_map];omega
   have HPUT:=hid (fun(V:World) (hV:Below wr.heap.size wr V)=>show Calls Tryz.prog 51 #[.pointer (some ⟨b,0,none⟩),.string (bytesOf y.cells),.int .i64 ((i:Int)+(xf:Int))] V fun e W'=>e=.returned (.tuple #[])∧FI b cd dp fr tl (cs++(dO l i qs (k+1)).map (·.1)) (ps++(dO l i qs (k+1)).map (·.2)) W'∧AY b V W' from by
    have h:=uT (hf.below hV) hlF hlS y.cells hy9 (bytesOf y.cells) rfl (i+xf)
    rw[HNF.out,HNS.out]at h
    rw[show ((i+xf:Nat):Int)=(i:Int)+(xf:Int) from by push_cast;rfl]at h
    exact h)
   obtain⟨X,hX⟩:∃ X,bytesOf y.cells=X:=⟨_,rfl⟩
   have HRX:=hid (fun(V:World) (hV:Below b w1 V)=>hX▸HRU.out V hV xr y hy)
   have HWR:=hid (HW.out.trans (HK4.out.2.1.trans hs.1))
   have hbr:b≤wr.heap.size:=Nat.le_of_lt hf.lt
   rw[hX]at HPUT
   have HBXR:=hid (hs.2 B0 _ _ _ HBX4.out (by decide) (by decide) (by decide))
   have k1:(k:Int)<(m:Int):=by omega
   have r0:(0:Int)≤(xr:Int):=by omega
   have r1:(xr:Int)<(nl:Int):=by omega
   have tw:IntKind.i64.wrap ((i:Int)+(xf:Int))=(i:Int)+(xf:Int):=IntWalk.i64_in _ ⟨by omega,by omega⟩
   clear hf hs hx hy hy9 hrl hsnF hlF hlS hX hown hA hc1 hg1
   go_upto_region 5 with fail
   have z0:=heap_alloc_new wr (.cells #[.int .i64 (xr:Int),.int .i64 (xf:Int),.int .i64 (xn:Int)] 77)
   have hw:=(Below.refl wr.heap.size wr).alloc (Nat.le_refl _) (.cells #[.int .i64 (xr:Int),.int .i64 (xf:Int),.int .i64 (xn:Int)] 77)
   generalize wr.alloc _=w5 at z0 hw ⊢
   obtain⟨B1,hB1⟩:∃ B1,wr.heap.size=B1:=⟨_,rfl⟩
   have HPU5:=hid (HPUT.out (w5.drewN 1) (Ba.below_drewN hw 1))
   have HST5:=hid (AY.of hbr (Ba.below_drewN hw 1))
   have y0:w5.cell? ⟨B1,0,none⟩=some (.int .i64 (xr:Int)):=by rw[← hB1,Lib.cell_of_heap z0];rfl
   have y1:w5.cell? ⟨B1,1,none⟩=some (.int .i64 (xf:Int)):=by rw[← hB1,Lib.cell_of_heap z0];rfl
   have y2:=(iG ((hw.block B0 (Array.getElem?_eq_some_iff.1 HBXR.out).1).trans HBXR.out)).2.1
   have y3:=HRX.out w5 (HWR.out.trans (hw.mono hbr))
   rw[hB1]at hw ⊢
   clear z0 hw HPUT HRX HBXR
   go_still_tail 12,(by kernel_rfl)
   change wpList _ _ _ _ _ (w5.drewN 1)
   go_wp2_with fail
   refine HPU5.out.mono ?_
   rintro e w9 ⟨rfl,hf9,hs9⟩
   have HF9:=hid hf9
   have HS9:=hid (HSK.out.trans (HST5.out.trans hs9))
   clear hf9 hs9 y0 y1 y2 y3
   go_wp2
   go_roundw
   case rel=>exact⟨k+1,by go_num,by omega,HF9.out,HS9.out⟩
   case measure=>simp[intOf];omega
  ·obtain rfl:k=m:=by omega
   rw[HALL.out]at HFK
   have HSE:=hid (HK4.out.2.trans hs)
   clear hf hs
   go_wp2
   go_ret
   exact⟨rfl,HFK.out,HSE.out⟩
end Go.Proofs.YthbigkoihpgcfaaGreatDoor.Da
