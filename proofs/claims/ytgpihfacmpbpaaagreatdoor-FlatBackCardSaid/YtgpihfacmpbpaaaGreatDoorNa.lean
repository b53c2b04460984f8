/-
  Put together: NuA, NuB, NuC, NuD, NuE, NuF, NuG.
-/
import Derived.Test.YtgpihfacmpbpaaaGreatDoorTrD
import Derived.Test.YtgpihfacmpbpaaaGreatDoorVa
import Derived.Deep.AppendLies
import Derived.Deep.RegionLaw
import Derived.Test.YtgpihfacmpbpaaaGreatDoorVg
import Derived.Deep.DeepCutAuto
namespace Go.Proofs.YtgpihfacmpbpaaaGreatDoor.Nu
open Go.RowKit Tr
def aK (k:Nat):Bool:=k==49 || k==50 || k==51 || k==112 || k==105 || k==99 || k==110
set_option maxHeartbeats 2000000 in
theorem oW (k:Nat) (_hk:k<256) (v:Bool) (hv:aK k=v) (w:World) :
  Calls Tryz.prog 110 #[.int .u8 (k:Int)] w fun e w'=>e=.returned (.bool v)∧w=w':=by
 have HV:=Lib.hid hv
 clear hv
 go_enter Tryz.func110,Tryz.ntmps110
 go_wp2
 all_goals
  go_ret
  refine⟨Ba.aC ?_,rfl⟩
  rw[← HV.out]
  first
   |(rw[show k=49 by omega];rfl)
   |(rw[show k=50 by omega];rfl)
   |(rw[show k=51 by omega];rfl)
   |(rw[show k=112 by omega];rfl)
   |(rw[show k=105 by omega];rfl)
   |(rw[show k=99 by omega];rfl)
   |(rw[show k=110 by omega];rfl)
   |(unfold aK
     have c0:((k:Int)==49)=false:=beq_eq_false_iff_ne.2 (by omega)
     have n0:(k==49)=false:=beq_eq_false_iff_ne.2 (by omega)
     have c1:((k:Int)==50)=false:=beq_eq_false_iff_ne.2 (by omega)
     have n1:(k==50)=false:=beq_eq_false_iff_ne.2 (by omega)
     have c2:((k:Int)==51)=false:=beq_eq_false_iff_ne.2 (by omega)
     have n2:(k==51)=false:=beq_eq_false_iff_ne.2 (by omega)
     have c3:((k:Int)==112)=false:=beq_eq_false_iff_ne.2 (by omega)
     have n3:(k==112)=false:=beq_eq_false_iff_ne.2 (by omega)
     have c4:((k:Int)==105)=false:=beq_eq_false_iff_ne.2 (by omega)
     have n4:(k==105)=false:=beq_eq_false_iff_ne.2 (by omega)
     have c5:((k:Int)==99)=false:=beq_eq_false_iff_ne.2 (by omega)
     have n5:(k==99)=false:=beq_eq_false_iff_ne.2 (by omega)
     by_cases h:k=110
     ·subst h;rfl
     ·have c6:((k:Int)==110)=false:=beq_eq_false_iff_ne.2 (by omega)
      have n6:(k==110)=false:=beq_eq_false_iff_ne.2 h
      simp only[c0,c1,c2,c3,c4,c5,c6,n0,n1,n2,n3,n4,n5,n6,Bool.or_false])
def eD (t:List Nd) (a:Nat):Nat→Int
 | 0=>-1
 | n+1=>match t[n]? with
  | some x=>if aK x.kind=true∧(a:Int)<(n:Int)+x.size then (n:Int) else eD t a n
  | none=>eD t a n
theorem iK {t:List Nd} {a m:Nat} {x:Nd} (hx:t[m]?=some x):eD t a (m+1)=if aK x.kind=true∧(a:Int)<(m:Int)+x.size then (m:Int) else eD t a m:=by
 rw[eD,hx]
def bY (t:List Nd) (a:Nat):Int:=eD t a a
theorem J5 (t:List Nd) (a:Nat):∀ n,-1≤eD t a n∧eD t a n<(n:Int)
 | 0=>by unfold eD;omega
 | n+1=>by
  have ih:=J5 t a n
  unfold eD
  cases t[n]? with
  | none=>simp only[];omega
  | some x=>simp only[];split<;>omega
set_option maxHeartbeats 4000000 in
theorem aAM (v:Value) (t:List Nd) (off:Nat) (ht:t.length≤9000) (hf:∀ x ∈ t,x.kind<256∧-70000≤x.size∧x.size≤70000) (a:Nat) (ha:a≤t.length) (B:Nat) (w:World) (hv:aS off w B v t) (z:Int) (hz:bY t a=z) :
  Calls Tryz.prog 119 #[v,.int .i64 (a:Int)] w fun e w'=>e=.returned (.int .i64 z)∧w=w':=by
 obtain⟨A,c,rfl,hA⟩:=hv
 have HA:=Lib.hid hA
 have HZ:=Lib.hid hz
 have HF:=Lib.hid hf
 clear hA hz hf
 go_enter Tryz.func119,Tryz.ntmps119
 go_wp2
 go_loop [5] (fun i=>∃ n:Nat,n≤a∧i=.int .i64 ((n:Int) - 1)∧eD t a n=bY t a) (fun i=>(intOf i+1).toNat)
 case atStart=>exact⟨a,by omega,rfl,rfl⟩
 case round =>
  obtain⟨n,hn,rfl,hF⟩:=hrel
  have HFF:=Lib.hid hF
  clear hF
  rcases Nat.eq_zero_or_pos n with rfl | h0
  ·have HR:=Lib.hid (show (-1:Int)=z by rw[← HZ.out,← HFF.out];rfl)
   go_wp2
   go_ret
   exact⟨Ba.bF HR.out,rfl⟩
  ·obtain⟨m,rfl⟩:∃ m,n=m+1:=⟨n - 1,by omega⟩
   obtain⟨g,rfl,-,hcell⟩:=HA.out (by omega)
   obtain⟨⟨xk,xt,xp,xs⟩,hx⟩:∃ x,t[m]?=some x:=⟨_,List.getElem?_eq_getElem (by omega)⟩
   obtain⟨d0,-,-,d3⟩:=cE hcell m _ hx
   obtain⟨k1,k2,k3⟩:=HF.out _ (List.mem_of_getElem? hx)
   simp only[]at k1 k2 k3
   have j0:(0:Int)≤(m:Int):=by omega
   have j1:(m:Int)<(t.length:Int):=by omega
   have i1:((m+1:Nat):Int) - 1=(m:Int):=by omega
   rw[i1]
   have HX:=Lib.hid (iK (a:=a) hx)
   obtain⟨b,hb⟩:∃ b,aK xk=b:=⟨_,rfl⟩
   have HB:=Lib.hid hb
   clear hcell hx i1 hb
   cases b
   ·have HN:=Lib.hid (show eD t a m=bY t a by rw[← HFF.out,HX.out,if_neg (by rw[HB.out];exact fun h=>Bool.noConfusion h.1)])
    go_wp2_with (go_at_call 110;refine(oW xk k1 false HB.out _).mono ?_;rintro e w' ⟨rfl,rfl⟩)
    go_round
    case rel=>exact⟨m,by omega,rfl,HN.out⟩
    case measure=>simp[intOf]
   ·by_cases hl:(a:Int)<(m:Int)+xs
    ·have g1:decide ((a:Int)<(m:Int)+xs)=true:=decide_eq_true hl
     have HR:=Lib.hid (show (m:Int)=z by rw[← HZ.out,← HFF.out,HX.out,if_pos ⟨HB.out,hl⟩])
     clear hl
     go_wp2_with (go_at_call 110;refine(oW xk k1 true HB.out _).mono ?_;rintro e w' ⟨rfl,rfl⟩)
     go_ret
     exact⟨Ba.bF HR.out,rfl⟩
    ·have g1:decide ((a:Int)<(m:Int)+xs)=false:=decide_eq_false hl
     have HN:=Lib.hid (show eD t a m=bY t a by rw[← HFF.out,HX.out,if_neg (fun h=>hl h.2)])
     clear hl
     go_wp2_with (go_at_call 110;refine(oW xk k1 true HB.out _).mono ?_;rintro e w' ⟨rfl,rfl⟩)
     go_round
     case rel=>exact⟨m,by omega,rfl,HN.out⟩
     case measure=>simp[intOf]
end Go.Proofs.YtgpihfacmpbpaaaGreatDoor.Nu
namespace Go.Proofs.YtgpihfacmpbpaaaGreatDoor.Nu
open Go.RowKit Tr
structure Sp where
 c:Nat
 node:Nat
 place:Nat
def cS (x:Sp):List Value:=[.int .u8 (x.c:Int),.int .i64 (x.node:Int),.int .i64 (x.place:Int)]
theorem M9 (x:Sp):(cS x).length=3:=rfl
def zT (i:Nat) (s:ByteArray) (k:Nat):List Sp :=
 if Lx.iD (Lx.bT s k)=false then [⟨Lx.bT s k,i,k⟩] else if k=0∨Lx.iD (Lx.bT s (k - 1))=false then [⟨32,i,k⟩] else []
def eI (i:Nat) (s:ByteArray) (k:Nat):List Sp:=(List.range k).flatMap (zT i s)
theorem jX (i:Nat) (s:ByteArray) (k:Nat):eI i s (k+1)=eI i s k++zT i s k:=by
 unfold eI;rw[List.range_succ,List.flatMap_append];simp
theorem WN (i:Nat) (s:ByteArray) (k:Nat):(zT i s k).length≤1:=by
 unfold zT
 repeat' split
 all_goals simp
theorem uM (i:Nat) (s:ByteArray):∀ k,(eI i s k).length≤k
 | 0=>by simp[eI]
 | k+1=>by rw[jX,List.length_append];have:=uM i s k;have:=WN i s k;omega
def kN (t:List Nd) (f i:Nat):List Sp :=
 match t[i]? with
 | some x=>if f<i∧x.kind=46∧bY t i=(f:Int) then eI i x.text x.text.size else []
 | none=>[]
def dE (t:List Nd) (f n:Nat):List Sp:=(List.range n).flatMap (kN t f)
theorem jY (t:List Nd) (f n:Nat):dE t f (n+1)=dE t f n++kN t f n:=by
 unfold dE;rw[List.range_succ,List.flatMap_append];simp
theorem vR (t:List Nd) (f:Nat):∀ n,n≤f+1→dE t f n=[]
 | 0,_=>rfl
 | n+1,h=>by
  rw[jY,vR t f n (by omega),List.nil_append]
  unfold kN
  cases t[n]? with
  | none=>rfl
  | some x=>simp only[];rw[if_neg (fun h'=>by omega)]
theorem qA {t:List Nd} (hx:∀ x ∈ t,x.text.size≤9000) (f:Nat):∀ n,(dE t f n).length≤n * 9000
 | 0=>by simp[dE]
 | n+1=>by
  rw[jY,List.length_append]
  have h1:=qA hx f n
  have h2:(kN t f n).length≤9000:=by
   unfold kN
   cases h:t[n]? with
   | none=>simp
   | some x =>
    simp only[]
    split
    ·have:=uM n x.text x.text.size;have:=hx x (List.mem_of_getElem? h);omega
    ·simp
  omega
def iI (t:List Nd) (f:Nat):List Sp:=match t[f]? with | some x=>dE t f (f+x.size.toNat) | none=>[]
theorem J6:(Tryz.prog.info? 167).map (fun i=>(i.zero,i.size,i.bytes))=some (some (.agg #[.int .u8 0,.int .i64 0,.int .i64 0]),3,24):=by kernel_rfl
def PD (t:List Nd) (f:Nat) (w:World) (e:Ending) (w':World):Prop:=∃ v,e=.returned v∧w'.ownsRow w.heap.size 167 3 v (iI t f).length (Ba.rows cS (iI t f))∧Below w.heap.size w w'
def SpO (t:List Nd) (f e:Nat) (w:World) (u5 u6:Value) (wr:World):Prop:=∃ n:Nat,u6=.int .i64 n∧f+1≤n∧n≤e∧wr.ownsRow w.heap.size 167 3 u5 (dE t f n).length (Ba.rows cS (dE t f n))∧Below w.heap.size w wr
def SpI (t:List Nd) (f n:Nat) (s:ByteArray) (w:World) (u5 u7:Value) (wr:World):Prop:=∃ k:Nat,u7=.int .i64 k∧k≤s.size∧wr.ownsRow w.heap.size 167 3 u5 (dE t f n++eI n s k).length (Ba.rows cS (dE t f n++eI n s k))∧Below w.heap.size w wr
set_option maxRecDepth 100000 in
set_option maxHeartbeats 8000000 in
theorem WO (v:Value) (t:List Nd) (off:Nat) (ht:t.length≤9000) (hf:∀ x ∈ t,x.kind<256∧x.text.size≤9000∧-70000≤x.size∧x.size≤70000) (f:Nat) (y:Nd) (z:Nat) (hy:t[f]?=some y) (hz:y.size=(z:Int)) (h1:1≤z) (hfz:f+z≤t.length) (w:World) (hv:aS off w w.heap.size v t) :
  Calls Tryz.prog 112 #[v,.int .i64 (f:Int)] w (PD t f w):=by
 obtain⟨i0,hi0,hz0,hz1,hz2⟩:=info_parts J6
 have HV0:=Lib.hid hv
 obtain⟨A,c,rfl,hA⟩:=hv
 have hlf:f<t.length:=by omega
 obtain⟨g,rfl,hg,hcell⟩:=hA (by omega)
 obtain⟨yk,yt,yp,ys⟩:=y
 simp only[]at hz
 subst hz
 have d3:=(cE hcell f _ hy).2.2.2
 simp only[]at d3
 have D3:=Lib.hid d3
 clear d3
 have HC:=Lib.hid hcell
 have HF:=Lib.hid hf
 have HLN:=Lib.hid (qA (fun x hx=>(hf x hx).2.1) f)
 have HSV:=Lib.hid (show iI t f=dE t f (f+z) by unfold iI;rw[hy];simp)
 have f0:(0:Int)≤(f:Int):=by omega
 have f1:(f:Int)<(t.length:Int):=by omega
 clear hA hcell hf hy
 go_enter Tryz.func112,Tryz.ntmps112
 go_wp2
 go_loopw [5,6] (fun u5 u6 wr=>SpO t f (f+z) w u5 u6 wr) (fun _ u6 _=>f+z - (intOf u6).toNat)
 case atStart=>exact⟨f+1,rfl,by omega,by omega,by rw[vR t f _ (Nat.le_refl _)];exact World.ownsRow_nil _ _ _ _,Below.refl _ _⟩
 case round =>
  obtain⟨n,rfl,hn1,hn2,own,hB⟩:=hrel
  have HOW:=Lib.hid own
  have HB:=Lib.hid hB
  have hBs:=hB.size
  have upr:=fun i=>World.cell?_of_block (w:=w) (a:=⟨g,i,none⟩) (hB.block g hg)
  have e3:=(upr _).trans D3.out
  have n0:(0:Int)≤(n:Int):=by omega
  clear own hB
  by_cases hlt:n<f+z
  ·obtain⟨⟨xk,xt,xp,xs⟩,hx⟩:∃ x,t[n]?=some x:=⟨_,List.getElem?_eq_getElem (by omega)⟩
   obtain⟨d0,d1,-,-⟩:=cE HC.out n _ hx
   obtain⟨k1,k2,-,-⟩:=HF.out _ (List.mem_of_getElem? hx)
   simp only[]at k1 k2
   rw[← upr]at d0 d1
   have n1:(n:Int)<(t.length:Int):=by omega
   have n2:(n:Int)<(f:Int)+(z:Int):=by omega
   obtain⟨fl,hfl⟩:∃ fl,bY t n=fl:=⟨_,rfl⟩
   have HFL:=Lib.hid hfl
   have HFA:=Lib.hid (fun W (hW:aS off W W.heap.size (.slice (some ⟨g,off,none⟩) t.length c) t)=>aAM _ t off ht (fun x hx=>⟨(HF.out x hx).1,(HF.out x hx).2.2⟩) n (by omega) _ W hW fl hfl)
   have HVR:=Lib.hid ((HV0.out.below HB.out).mono hBs)
   have HND:=Lib.hid (show kN t f n=if f<n∧xk=46∧fl=(f:Int) then eI n xt xt.size else [] by unfold kN;rw[hx,hfl])
   clear hx hfl upr
   by_cases k6:xk=46
   ·have t1:((xk:Int) != 46)=false:=by rw[bne,show ((xk:Int)==46)=true from beq_iff_eq.2 (by omega)];rfl
    by_cases kf:fl=(f:Int)
    ·have t2:(fl != (f:Int))=false:=by rw[bne,show (fl==(f:Int))=true from beq_iff_eq.2 kf];rfl
     have HN2:=Lib.hid (show kN t f n=eI n xt xt.size by rw[HND.out,if_pos ⟨by omega,k6,kf⟩])
     clear k6 kf
     go_wp2_with (go_at_call 119;refine(HFA.out _ HVR.out).mono ?_;rintro en w' ⟨rfl,rfl⟩)
     go_loopw [5,7] (fun u5 u7 wi=>SpI t f n xt w u5 u7 wi) (fun _ u7 _=>xt.size - (intOf u7).toNat)
     case atStart=>exact⟨0,rfl,Nat.zero_le _,by simpa[eI] using HOW.out,HB.out⟩
     case round =>
      obtain⟨k,rfl,hk,own,hB⟩:=hrel
      have hBs2:=hB.size
      have hgi:g<wr.heap.size:=by omega
      have HB2:=Lib.hid hB
      have e1:wr.cell? ⟨g,off+n * 4+1,none⟩=some (.string xt):=(World.cell?_of_block (w:=w) (a:=⟨g,off+n * 4+1,none⟩) (hB.block g hg)).trans ((World.cell?_of_block (w:=w) (a:=⟨g,off+n * 4+1,none⟩) (HB.out.block g hg)).symm.trans d1)
      have hql:=HLN.out n
      have hqt:=uM n xt k
      obtain⟨q,hq⟩:∃ q,(dE t f n++eI n xt k).length=q:=⟨_,rfl⟩
      have hq9:q≤100000000:=by rw[← hq,List.length_append];omega
      rw[hq]at own
      have HQ:=Lib.hid hq
      have k0:(0:Int)≤(k:Int):=by omega
      have H8:=Lib.hid own.lt
      clear hq hql hqt hB
      by_cases hkl:k<xt.size
      ·have E1:=Lx.cJ xt k hkl
       have hb256:=Lx.eF xt k
       obtain⟨bb,hbb⟩:∃ bb,Lx.bT xt k=bb:=⟨_,rfl⟩
       rw[hbb]at E1 hb256
       have HBB:=Lib.hid hbb
       clear hbb
       by_cases hw:Ka.cF (bb:Int)=true
       ·have HW:=Lib.hid hw
        rcases Nat.eq_zero_or_pos k with rfl | hk0
        ·have HS:=Lib.hid (show dE t f n++eI n xt (0+1)=(dE t f n++eI n xt 0)++[⟨32,n,0⟩] by
          rw[jX,List.append_assoc];congr 2;unfold zT;rw[if_neg (by rw[HBB.out];show ¬ Ka.cF (bb:Int)=false;rw[HW.out];exact fun h=>Bool.noConfusion h),if_pos (.inl rfl)])
         clear hw
         go_wp2_with (first | (go_at_call 50;refine(Ka.eP bb true hb256 HW.out _).mono ?_;rintro en w' ⟨rfl,rfl⟩) | (at_builtin;refine wpList_append_lies _ rfl _ _ _ rfl w.heap.size 167 i0 _ 3 24 Tryz.underlying163 hi0 hz0 hz1 hz2 rfl (by omega) u5 q _ rfl (own.alloc _) ⟨wr.heap.size,0,none⟩ 1 1 [.int .u8 32,.int .i64 (n:Int),.int .i64 0] rfl rfl (World.news_of_block (cs:=#[.int .u8 32,.int .i64 (n:Int),.int .i64 0]) (t:=167) (fr:=(0,0)) (heap_alloc_new wr _)) (by simp[Value.oneCell']) (by omega) (by unfold maxLen;omega) (by omega) (by simp;omega) (wr.heap.size+1) (by simp) ?_;intro gg cap w5 hown5 hgrow5 hat5 hlt5;have hB5:=Lib.hid ((HB2.out.alloc hBs2 _).grown hgrow5 (by simp;omega) (fun j ej=>(H8.out j ej).1));replace hown5:=Lib.hid hown5;clear hgrow5 hat5 hlt5))
         go_roundw
         case rel =>
          refine⟨0+1,by go_num,by omega,?_,hB5.out⟩
          rw[HS.out,List.length_append,HQ.out,Ba.cW]
          exact hown5.out
         case measure=>simp[intOf];omega
        ·have hp1:k - 1<xt.size:=by omega
         have E2:=Lx.cJ xt (k - 1) hp1
         have h256:=Lx.eF xt (k - 1)
         obtain⟨b2,hb2⟩:∃ b2,Lx.bT xt (k - 1)=b2:=⟨_,rfl⟩
         rw[hb2]at E2 h256
         have t3:((k:Int)==0)=false:=beq_eq_false_iff_ne.2 (by omega)
         obtain⟨j,hj⟩:∃ j,k - 1=j:=⟨_,rfl⟩
         have i1:(k:Int) - 1=(j:Int):=by omega
         have i2:IntKind.i64.wrap (j:Int)=(j:Int):=IntWalk.i64_in _ ⟨by omega,by omega⟩
         have jj0:(0:Int)≤(j:Int):=by omega
         have jj1:j<xt.size:=by omega
         have E3:(xt[j]'jj1).toNat=b2:=by subst hj;exact E2
         have HB2B:=Lib.hid hb2
         clear E2 hj hb2
         by_cases hw2:Ka.cF (b2:Int)=true
         ·have HW2:=Lib.hid hw2
          have HS:=Lib.hid (show dE t f n++eI n xt (k+1)=dE t f n++eI n xt k by
           rw[jX];congr 1
           have:zT n xt k=[]:=by
            unfold zT
            rw[if_neg (by rw[HBB.out];show ¬ Ka.cF (bb:Int)=false;rw[HW.out];exact fun h=>Bool.noConfusion h),if_neg]
            rintro(h | h)
            ·omega
            ·rw[HB2B.out]at h
             rw[show Lx.iD b2=true from HW2.out]at h;cases h
           rw[this,List.append_nil])
          clear hw hw2
          go_wp2_with (first | (go_at_call 50;first | (refine(Ka.eP bb true hb256 HW.out _).mono ?_;rintro en w' ⟨rfl,rfl⟩) | (refine(Ka.eP b2 true h256 HW2.out _).mono ?_;rintro en w' ⟨rfl,rfl⟩)))
          go_roundw
          case rel=>exact⟨k+1,by go_num,by omega,by rw[HS.out,HQ.out];exact own,HB2.out⟩
          case measure=>simp[intOf];omega
         ·have HW2:=Lib.hid (show Ka.cF (b2:Int)=false by simpa using hw2)
          have HS:=Lib.hid (show dE t f n++eI n xt (k+1)=(dE t f n++eI n xt k)++[⟨32,n,k⟩] by
           rw[jX,List.append_assoc];congr 2;unfold zT;rw[if_neg (by rw[HBB.out];show ¬ Ka.cF (bb:Int)=false;rw[HW.out];exact fun h=>Bool.noConfusion h),if_pos (.inr (by rw[HB2B.out];exact HW2.out))])
          clear hw hw2
          go_wp2_with (first | (go_at_call 50;first | (refine(Ka.eP bb true hb256 HW.out _).mono ?_;rintro en w' ⟨rfl,rfl⟩) | (refine(Ka.eP b2 false h256 HW2.out _).mono ?_;rintro en w' ⟨rfl,rfl⟩)) | (at_builtin;refine wpList_append_lies _ rfl _ _ _ rfl w.heap.size 167 i0 _ 3 24 Tryz.underlying163 hi0 hz0 hz1 hz2 rfl (by omega) u5 q _ rfl (own.alloc _) ⟨wr.heap.size,0,none⟩ 1 1 [.int .u8 32,.int .i64 (n:Int),.int .i64 (k:Int)] rfl rfl (World.news_of_block (cs:=#[.int .u8 32,.int .i64 (n:Int),.int .i64 (k:Int)]) (t:=167) (fr:=(0,0)) (heap_alloc_new wr _)) (by simp[Value.oneCell']) (by omega) (by unfold maxLen;omega) (by omega) (by simp;omega) (wr.heap.size+1) (by simp) ?_;intro gg cap w5 hown5 hgrow5 hat5 hlt5;have hB5:=Lib.hid ((HB2.out.alloc hBs2 _).grown hgrow5 (by simp;omega) (fun j ej=>(H8.out j ej).1));replace hown5:=Lib.hid hown5;clear hgrow5 hat5 hlt5))
          go_roundw
          case rel =>
           refine⟨k+1,by go_num,by omega,?_,hB5.out⟩
           rw[HS.out,List.length_append,HQ.out,Ba.cW]
           exact hown5.out
          case measure=>simp[intOf];omega
       ·have HW:=Lib.hid (show Ka.cF (bb:Int)=false by simpa using hw)
        have HS:=Lib.hid (show dE t f n++eI n xt (k+1)=(dE t f n++eI n xt k)++[⟨bb,n,k⟩] by
         rw[jX,List.append_assoc];congr 2;unfold zT;rw[HBB.out,if_pos (show Lx.iD bb=false from HW.out)])
        clear hw
        go_wp2_with (first | (go_at_call 50;refine(Ka.eP bb false hb256 HW.out _).mono ?_;rintro en w' ⟨rfl,rfl⟩) | (at_builtin;refine wpList_append_lies _ rfl _ _ _ rfl w.heap.size 167 i0 _ 3 24 Tryz.underlying163 hi0 hz0 hz1 hz2 rfl (by omega) u5 q _ rfl (own.alloc _) ⟨wr.heap.size,0,none⟩ 1 1 [.int .u8 (bb:Int),.int .i64 (n:Int),.int .i64 (k:Int)] rfl rfl (World.news_of_block (cs:=#[.int .u8 (bb:Int),.int .i64 (n:Int),.int .i64 (k:Int)]) (t:=167) (fr:=(0,0)) (heap_alloc_new wr _)) (by simp[Value.oneCell']) (by omega) (by unfold maxLen;omega) (by omega) (by simp;omega) (wr.heap.size+1) (by simp) ?_;intro gg cap w5 hown5 hgrow5 hat5 hlt5;have hB5:=Lib.hid ((HB2.out.alloc hBs2 _).grown hgrow5 (by simp;omega) (fun j ej=>(H8.out j ej).1));replace hown5:=Lib.hid hown5;clear hgrow5 hat5 hlt5))
        go_roundw
        case rel =>
         refine⟨k+1,by go_num,by omega,?_,hB5.out⟩
         rw[HS.out,List.length_append,HQ.out,Ba.cW]
         exact hown5.out
        case measure=>simp[intOf];omega
      ·obtain rfl:k=xt.size:=by omega
       have HS:=Lib.hid (show dE t f (n+1)=dE t f n++eI n xt xt.size by rw[jY,HN2.out])
       go_wp2
       go_roundw
       case rel=>exact⟨n+1,by go_num,by omega,by omega,by rw[HS.out,HQ.out];exact own,HB2.out⟩
       case measure=>simp[intOf];omega
    ·have t2:(fl != (f:Int))=true:=by rw[bne,show (fl==(f:Int))=false from beq_eq_false_iff_ne.2 kf];rfl
     have HS:=Lib.hid (show dE t f (n+1)=dE t f n by rw[jY,HND.out,if_neg (fun h=>kf h.2.2),List.append_nil])
     clear k6 kf
     go_wp2_with (go_at_call 119;refine(HFA.out _ HVR.out).mono ?_;rintro en w' ⟨rfl,rfl⟩)
     go_roundw
     case rel=>exact⟨n+1,by go_num,by omega,by omega,by rw[HS.out];exact HOW.out,HB.out⟩
     case measure=>simp[intOf];omega
   ·have t1:((xk:Int) != 46)=true:=by rw[bne,show ((xk:Int)==46)=false from beq_eq_false_iff_ne.2 (by omega)];rfl
    have HS:=Lib.hid (show dE t f (n+1)=dE t f n by rw[jY,HND.out,if_neg (fun h=>k6 h.2.1),List.append_nil])
    clear k6
    go_wp2
    go_roundw
    case rel=>exact⟨n+1,by go_num,by omega,by omega,by rw[HS.out];exact HOW.out,HB.out⟩
    case measure=>simp[intOf];omega
  ·obtain rfl:n=f+z:=by omega
   clear upr
   have HR:=Lib.hid (show PD t f w (.returned u5) wr from ⟨u5,rfl,by rw[HSV.out];exact HOW.out,HB.out⟩)
   go_wp2
   go_ret
   exact HR.out
end Go.Proofs.YtgpihfacmpbpaaaGreatDoor.Nu
namespace Go.Proofs.YtgpihfacmpbpaaaGreatDoor.Nu
open Go.RowKit Tr
def jP (x:Sp):Bool:=decide (x.c≠32)
def EF (l:List Sp):Nat:=(l.getLast?.map Sp.c).getD 32
def r9 (l:List Sp) (n:Nat) (out:List Sp):List Sp :=
 match l[n]? with
 | some x=>if x.c≠32 then [x] else if EF out≠32∧(l.drop n).any jP=true then [x] else []
 | none=>[]
def c8 (l:List Sp):Nat→List Sp
 | 0=>[]
 | n+1=>c8 l n++r9 l n (c8 l n)
def yZ (l:List Sp):List Sp:=c8 l l.length
theorem oX (l:List Sp):∀ n,(c8 l n).length≤n
 | 0=>by simp[c8]
 | n+1=>by
  unfold c8
  rw[List.length_append]
  have h1:=oX l n
  have h2:(r9 l n (c8 l n)).length≤1:=by
   unfold r9
   repeat' split
   all_goals simp
  omega
theorem y8 {l:List Sp} {n:Nat} {x:Sp} (hx:l[n]?=some x) (h:x.c≠32):c8 l (n+1)=c8 l n++[x]:=by
 rw[c8];unfold r9;rw[hx];simp only[];rw[if_pos h]
theorem y9 {l:List Sp} {n:Nat} {x:Sp} (hx:l[n]?=some x) (h:x.c=32) (h1:EF (c8 l n)≠32) (h2:(l.drop n).any jP=true):c8 l (n+1)=c8 l n++[x]:=by
 rw[c8];unfold r9;rw[hx];simp only[];rw[if_neg (by omega),if_pos ⟨h1,h2⟩]
theorem mQ {l:List Sp} {n:Nat} {x:Sp} (hx:l[n]?=some x) (h:x.c=32) (h1:¬ (EF (c8 l n)≠32∧(l.drop n).any jP=true)):c8 l (n+1)=c8 l n:=by
 rw[c8];unfold r9;rw[hx];simp only[];rw[if_neg (by omega),if_neg h1,List.append_nil]
def lV (l:List Sp) (i k:Nat):Nat:=(((l.take k).drop i).filter jP).length
theorem F7 (l:List Sp) (i:Nat):lV l i i=0:=by
 unfold lV;rw[List.drop_of_length_le (by rw[List.length_take];omega)];rfl
theorem zA {l:List Sp} {i k:Nat} {x:Sp} (h:i≤k) (hx:l[k]?=some x):lV l i (k+1)=lV l i k+if x.c≠32 then 1 else 0:=by
 have hk:=(List.getElem?_eq_some_iff.1 hx).1
 unfold lV
 rw[List.take_add_one,hx,List.drop_append_of_le_length (by rw[List.length_take];omega),List.filter_append,List.length_append]
 by_cases hc:x.c=32<;>simp[jP,hc]
theorem R9 (l:List Sp) (i k:Nat):lV l i k≤k:=by
 unfold lV
 refine Nat.le_trans (List.length_filter_le _ _) ?_
 rw[List.length_drop,List.length_take];omega
theorem NA (l:List Sp) (i:Nat):0<lV l i l.length↔(l.drop i).any jP=true:=by
 unfold lV
 rw[List.take_length,List.any_eq_true,List.length_pos_iff_exists_mem]
 constructor
 ·rintro⟨x,hx⟩
  rw[List.mem_filter]at hx
  exact⟨x,hx.1,hx.2⟩
 ·rintro⟨x,h1,h2⟩
  exact⟨x,List.mem_filter.2 ⟨h1,h2⟩⟩
theorem WQ {l:List Sp} {r:Nat} {x:Sp} (h:l.length=r+1) (hx:l[r]?=some x):EF l=x.c:=by
 unfold EF
 rw[List.getLast?_eq_getElem?,h,Nat.add_sub_cancel,hx];rfl
abbrev aC8 (w:World) (B:Nat) (v:Value) (l:List Sp):Prop:=Ba.Reads cS 3 0 w B v l
def WR (l:List Sp) (w:World) (e:Ending) (w':World):Prop:=∃ v,e=.returned v∧w'.ownsRow w.heap.size 167 3 v (yZ l).length (Ba.rows cS (yZ l))∧Below w.heap.size w w'
def KpO (l:List Sp) (w:World) (u3 u4:Value) (wr:World):Prop:=∃ n:Nat,u4=.int .i64 n∧n≤l.length∧wr.ownsRow w.heap.size 167 3 u3 (c8 l n).length (Ba.rows cS (c8 l n))∧Below w.heap.size w wr
set_option maxRecDepth 100000 in
set_option maxHeartbeats 8000000 in
theorem aAN (v:Value) (l:List Sp) (hl:l.length≤100000000) (w:World) (hv:aC8 w w.heap.size v l) :
  Calls Tryz.prog 111 #[v] w (WR l w):=by
 obtain⟨i0,hi0,hz0,hz1,hz2⟩:=info_parts J6
 obtain⟨A,c,rfl,hA⟩:=hv
 have HA:=Lib.hid hA
 clear hA
 go_enter Tryz.func111,Tryz.ntmps111
 go_wp2
 go_loopw [3,4] (fun u3 u4 wr=>KpO l w u3 u4 wr) (fun _ u4 _=>l.length - (intOf u4).toNat)
 case atStart=>exact⟨0,rfl,Nat.zero_le _,World.ownsRow_nil _ _ _ _,Below.refl _ _⟩
 case round =>
  obtain⟨n,rfl,hn,own,hB⟩:=hrel
  have HB:=Lib.hid hB
  have hBs:=hB.size
  have hq9:=oX l n
  obtain⟨q,hq⟩:∃ q,(c8 l n).length=q:=⟨_,rfl⟩
  rw[hq]at own hq9
  have HQ:=Lib.hid hq
  have H8:=Lib.hid own.lt
  obtain⟨Ao,co,hvo⟩:∃ A c,u3=.slice A q c:=by
   rcases own.2 with⟨h',h0⟩ | ⟨g',c',_,h',_⟩
   ·exact⟨none,0,by rw[h',h0]⟩
   ·exact⟨_,_,h'⟩
  subst hvo
  have n0:(0:Int)≤(n:Int):=by omega
  by_cases hlt:n<l.length
  ·obtain⟨g,rfl,hg,hcell⟩:=HA.out (by omega)
   obtain⟨⟨xc,xn,xp⟩,hx⟩:∃ x,l[n]?=some x:=⟨_,List.getElem?_eq_getElem hlt⟩
   have d0:=hcell n _ hx 0 _ rfl
   have d1:=hcell n _ hx 1 _ rfl
   have d2:=hcell n _ hx 2 _ rfl
   have upr:=fun i=>World.cell?_of_block (w:=w) (a:=⟨g,i,none⟩) (hB.block g hg)
   rw[← upr]at d0 d1 d2
   simp only[Nat.zero_add,Nat.add_zero]at d0 d1 d2
   have n1:(n:Int)<(l.length:Int):=by omega
   have HX:=Lib.hid hx
   have HC:=Lib.hid (fun k x hx=>(upr _).trans (hcell k x hx 0 _ rfl))
   clear hq hcell hx upr hB
   by_cases hc:xc=32
   ·have t1:((xc:Int) != 32)=false:=by rw[bne,show ((xc:Int)==32)=true from beq_iff_eq.2 (by omega)];rfl
    have HCC:=Lib.hid hc
    clear hc
    go_wp2
    go_loop [5,6] (fun u5 u6=>∃ k b:Nat,u6=.int .i64 k∧u5=.int .i64 b∧n≤k∧k≤l.length∧lV l n k=b) (fun _ u6=>l.length - (intOf u6).toNat)
    case atStart=>exact⟨n,0,rfl,rfl,Nat.le_refl _,by omega,F7 l n⟩
    case round =>
     obtain⟨k,b,rfl,rfl,hk1,hk2,hb⟩:=hrel
     have hbl:=R9 l n k
     rw[hb]at hbl
     have HBN:=Lib.hid hb
     have k0:(0:Int)≤(k:Int):=by omega
     clear hb
     by_cases hkl:k<l.length
     ·obtain⟨⟨yc,yn,yp⟩,hy⟩:∃ x,l[k]?=some x:=⟨_,List.getElem?_eq_getElem hkl⟩
      have e0:=HC.out k _ hy
      simp only[Nat.zero_add,Nat.add_zero]at e0
      have HY:=Lib.hid hy
      have k1:(k:Int)<(l.length:Int):=by omega
      clear hy
      by_cases hc2:yc=32
      ·have t2:((yc:Int) != 32)=false:=by rw[bne,show ((yc:Int)==32)=true from beq_iff_eq.2 (by omega)];rfl
       have HS:=Lib.hid (show lV l n (k+1)=b by rw[zA hk1 HY.out,HBN.out,if_neg (by simp[hc2])];rfl)
       clear hc2
       go_wp2
       go_round
       case rel=>exact⟨k+1,b,by go_num,rfl,by omega,by omega,HS.out⟩
       case measure=>simp[intOf];omega
      ·have t2:((yc:Int) != 32)=true:=by rw[bne,show ((yc:Int)==32)=false from beq_eq_false_iff_ne.2 (by omega)];rfl
       have HS:=Lib.hid (show lV l n (k+1)=b+1 by rw[zA hk1 HY.out,HBN.out,if_pos hc2])
       clear hc2
       go_wp2
       go_round
       case rel=>exact⟨k+1,b+1,by go_num,by go_num,by omega,by omega,HS.out⟩
       case measure=>simp[intOf];omega
     ·obtain rfl:k=l.length:=by omega
      have HBA:=Lib.hid (NA l n)
      rcases Nat.eq_zero_or_pos q with rfl | hq0
      ·have HS:=Lib.hid (show c8 l (n+1)=c8 l n from mQ HX.out HCC.out (fun h=>by
        have:c8 l n=[]:=List.length_eq_zero_iff.1 HQ.out
        rw[this]at h;exact h.1 rfl))
       go_wp2
       go_roundw
       case rel=>exact⟨n+1,by go_num,by omega,by rw[HS.out,HQ.out];exact own,HB.out⟩
       case measure=>simp[intOf];omega
      ·obtain⟨r,rfl⟩:∃ r,q=r+1:=⟨q - 1,by omega⟩
       obtain⟨go',co',he,-,-⟩:=own.form (by omega)
       cases he
       obtain⟨⟨zc,zn,zp⟩,hz⟩:∃ x,(c8 l n)[r]?=some x:=⟨_,List.getElem?_eq_getElem (by rw[HQ.out];omega)⟩
       have y0:wr.cell? ⟨go',r * 3,none⟩=some (.int .u8 (zc:Int)):=by
        have h1:=own.cellAt (r * 3+0) (by omega)
        rw[Ba.cB cS M9 _ _ _ hz 0 (by omega)]at h1
        exact h1
       have HLC:=Lib.hid (WQ HQ.out hz)
       have r0:(0:Int)≤(r:Int):=by omega
       have r1:(r:Int)<(r:Int)+1:=by omega
       clear hz
       by_cases hz2:zc=32
       ·have t3:((zc:Int) != 32)=false:=by rw[bne,show ((zc:Int)==32)=true from beq_iff_eq.2 (by omega)];rfl
        have HS:=Lib.hid (show c8 l (n+1)=c8 l n from mQ HX.out HCC.out (fun h=>h.1 (by rw[HLC.out];exact hz2)))
        clear hz2
        go_wp2
        go_roundw
        case rel=>exact⟨n+1,by go_num,by omega,by rw[HS.out,HQ.out];exact own,HB.out⟩
        case measure=>simp[intOf];omega
       ·have t3:((zc:Int) != 32)=true:=by rw[bne,show ((zc:Int)==32)=false from beq_eq_false_iff_ne.2 (by omega)];rfl
        by_cases hb0:0<b
        ·have g1:decide ((0:Int)<(b:Int))=true:=decide_eq_true (by omega)
         have HS:=Lib.hid (show c8 l (n+1)=c8 l n++[⟨xc,xn,xp⟩] from y9 HX.out HCC.out (by rw[HLC.out];exact hz2) (HBA.out.1 (by rw[HBN.out];exact hb0)))
         clear hz2
         go_wp2_with (first | (at_builtin;refine wpList_append_lies _ rfl _ _ _ rfl w.heap.size 167 i0 _ 3 24 Tryz.underlying163 hi0 hz0 hz1 hz2 rfl (by omega) (.slice (some ⟨go',0,none⟩) (r+1) co) (r+1) _ rfl (own.alloc _) ⟨wr.heap.size,0,none⟩ 1 1 [.int .u8 (xc:Int),.int .i64 (xn:Int),.int .i64 (xp:Int)] rfl rfl (World.news_of_block (cs:=#[.int .u8 (xc:Int),.int .i64 (xn:Int),.int .i64 (xp:Int)]) (t:=167) (fr:=(0,0)) (heap_alloc_new wr _)) (by simp[Value.oneCell']) (by omega) (by unfold maxLen;omega) (by omega) (by simp;omega) (wr.heap.size+1) (by simp) ?_;intro gg cap w5 hown5 hgrow5 hat5 hlt5;have hB5:=Lib.hid ((HB.out.alloc hBs _).grown hgrow5 (by simp;omega) (fun j ej=>(H8.out j ej).1));replace hown5:=Lib.hid hown5;clear hgrow5 hat5 hlt5))
         go_roundw
         case rel =>
          refine⟨n+1,by go_num,by omega,?_,hB5.out⟩
          rw[HS.out,List.length_append,HQ.out,Ba.cW]
          exact hown5.out
         case measure=>simp[intOf];omega
        ·have g1:decide ((0:Int)<(b:Int))=false:=decide_eq_false (by omega)
         have HS:=Lib.hid (show c8 l (n+1)=c8 l n from mQ HX.out HCC.out (fun h=>hb0 (by have:=HBA.out.2 h.2;rw[HBN.out]at this;exact this)))
         clear hz2
         go_wp2
         go_roundw
         case rel=>exact⟨n+1,by go_num,by omega,by rw[HS.out,HQ.out];exact own,HB.out⟩
         case measure=>simp[intOf];omega
   ·have t1:((xc:Int) != 32)=true:=by rw[bne,show ((xc:Int)==32)=false from beq_eq_false_iff_ne.2 (by omega)];rfl
    have HS:=Lib.hid (show c8 l (n+1)=c8 l n++[⟨xc,xn,xp⟩] from y8 HX.out hc)
    clear hc
    go_wp2_with (first | (at_builtin;refine wpList_append_lies _ rfl _ _ _ rfl w.heap.size 167 i0 _ 3 24 Tryz.underlying163 hi0 hz0 hz1 hz2 rfl (by omega) (.slice Ao q co) q _ rfl (own.alloc _) ⟨wr.heap.size,0,none⟩ 1 1 [.int .u8 (xc:Int),.int .i64 (xn:Int),.int .i64 (xp:Int)] rfl rfl (World.news_of_block (cs:=#[.int .u8 (xc:Int),.int .i64 (xn:Int),.int .i64 (xp:Int)]) (t:=167) (fr:=(0,0)) (heap_alloc_new wr _)) (by simp[Value.oneCell']) (by omega) (by unfold maxLen;omega) (by omega) (by simp;omega) (wr.heap.size+1) (by simp) ?_;intro gg cap w5 hown5 hgrow5 hat5 hlt5;have hB5:=Lib.hid ((HB.out.alloc hBs _).grown hgrow5 (by simp;omega) (fun j ej=>(H8.out j ej).1));replace hown5:=Lib.hid hown5;clear hgrow5 hat5 hlt5))
    go_roundw
    case rel =>
     refine⟨n+1,by go_num,by omega,?_,hB5.out⟩
     rw[HS.out,List.length_append,HQ.out,Ba.cW]
     exact hown5.out
    case measure=>simp[intOf];omega
  ·obtain rfl:n=l.length:=by omega
   have HR:=Lib.hid (show WR l w (.returned (.slice Ao q co)) wr from ⟨_,rfl,by show wr.ownsRow _ _ _ _ (c8 l l.length).length _;rw[hq];exact own,hB⟩)
   clear hB hq
   go_wp2
   go_ret
   exact HR.out
end Go.Proofs.YtgpihfacmpbpaaaGreatDoor.Nu
namespace Go.Proofs.YtgpihfacmpbpaaaGreatDoor.Nu
open Go.RowKit Tr
theorem fV {α:Type} {l:List α} {i:Nat} (hi:i<l.length):∃ b,l[i]?=some b:=⟨_,List.getElem?_eq_getElem hi⟩
theorem sY {α:Type} {l:List α} {i:Nat} {b:α} (hb:l[i]?=some b) (f:α→α):l.set i (f b)=l.modify i f:=by
 apply List.ext_getElem?
 intro j
 rw[List.getElem?_set,List.getElem?_modify]
 by_cases h:i=j
 ·subst h
  have:=(List.getElem?_eq_some_iff.1 hb).1
  rw[if_pos rfl,if_pos this,hb];simp
 ·rw[if_neg h];simp only[if_neg h];cases l[j]?<;>rfl
def oA (x:Nd):Nd:={ x with text:=aA }
def eW (t:List Nd):Nat→List Nd
 | 0=>t
 | n+1=>match t[n]? with
  | some x=>if x.kind=46 then (eW t n).modify n oA else eW t n
  | none=>eW t n
def aU (t:List Nd) (i:Nat):Int:=match t[i]? with | some x=>x.place | none=>0
def vS (t:List Nd) (s:Sp) (x:Nd):Nd:={ x with text:=x.text++dS s.c,place:=if x.text.size=0 then wrap64 (aU t s.node+(s.place:Int)) else x.place }
def lY (t:List Nd) (out:List Nd) (s:Sp):List Nd:=out.modify s.node (vS t s)
def gJ (t:List Nd) (i:Nat):List Sp:=yZ (iI t i)
def dQ (t:List Nd):Nat→List Nd
 | 0=>eW t t.length
 | n+1=>match t[n]? with
  | some x=>if aK x.kind=true then (gJ t n).foldl (lY t) (dQ t n) else dQ t n
  | none=>dQ t n
def jM (t:List Nd):List Nd:=dQ t t.length
theorem mR (t:List Nd):∀ n,(eW t n).length=t.length
 | 0=>rfl
 | n+1=>by
  unfold eW
  cases t[n]? with
  | none=>exact mR t n
  | some x=>simp only[];split<;>simp[mR t n]
theorem xQ (t:List Nd):∀ (l:List Sp) (out:List Nd),(l.foldl (lY t) out).length=out.length
 | [],_=>rfl
 | s::l,out=>by rw[List.foldl_cons,xQ t l];simp[lY]
theorem mS (t:List Nd):∀ n,(dQ t n).length=t.length
 | 0=>mR t _
 | n+1=>by
  unfold dQ
  cases t[n]? with
  | none=>exact mS t n
  | some x =>
   simp only[]
   split
   ·rw[xQ];exact mS t n
   ·exact mS t n
theorem iY {w:World} {N g k c i:Nat} {l:List Nd} (hk:l.length=k) (own:w.ownsRow N 41 4 (.slice (some ⟨g,0,none⟩) k c) k (Ba.rows cN l)) {x:Nd} (hx:l[i]?=some x) :
  w.cell? ⟨g,i * 4,none⟩=some (.int .u8 (x.kind:Int))∧w.cell? ⟨g,i * 4+1,none⟩=some (.string x.text)∧w.cell? ⟨g,i * 4+2,none⟩=some (.int .i64 x.place)∧w.cell? ⟨g,i * 4+3,none⟩=some (.int .i64 x.size):=by
 have hi:=(List.getElem?_eq_some_iff.1 hx).1
 have key:∀ j,j<4→w.cell? ⟨g,i * 4+j,none⟩=(cN x)[j]?:=fun j hj=>by
  rw[own.cellAt _ (by omega),Ba.cB cN dX _ _ _ hx j hj]
 exact⟨key 0 (by omega),key 1 (by omega),key 2 (by omega),key 3 (by omega)⟩
theorem PE {i:Nat} {s:ByteArray} {k:Nat} {x:Sp} (h:x ∈ zT i s k):x.c<256∧x.node=i∧x.place=k:=by
 unfold zT at h
 split at h
 ·rw[List.mem_singleton]at h;subst h;exact⟨Lx.eF _ _,rfl,rfl⟩
 ·split at h
  ·rw[List.mem_singleton]at h;subst h;exact⟨by show (32:Nat)<256;omega,rfl,rfl⟩
  ·cases h
theorem SA {t:List Nd} {f i:Nat} {x:Sp} (h:x ∈ kN t f i):x.c<256∧x.node=i∧i<t.length∧∃ y,t[i]?=some y∧x.place<y.text.size:=by
 unfold kN at h
 cases hy:t[i]? with
 | none=>rw[hy]at h;cases h
 | some y =>
  rw[hy]at h
  simp only[]at h
  split at h
  ·unfold eI at h
   obtain⟨k,hk,hx⟩:=List.mem_flatMap.1 h
   obtain⟨a,b,c⟩:=PE hx
   exact⟨a,b,(List.getElem?_eq_some_iff.1 hy).1,y,rfl,by rw[c];exact List.mem_range.1 hk⟩
  ·cases h
theorem SB {t:List Nd} {f:Nat} {x:Sp} (h:x ∈ iI t f):x.c<256∧x.node<t.length∧∃ y,t[x.node]?=some y∧x.place<y.text.size:=by
 unfold iI at h
 cases hy:t[f]? with
 | none=>rw[hy]at h;cases h
 | some y =>
  rw[hy]at h
  obtain⟨i,-,hx⟩:=List.mem_flatMap.1 h
  obtain⟨a,b,c,d⟩:=SA hx
  exact⟨a,by omega,by rw[b];exact d⟩
theorem SC {l:List Sp} {n:Nat} {out:List Sp} {x:Sp} (h:x ∈ r9 l n out):x ∈ l:=by
 unfold r9 at h
 cases hy:l[n]? with
 | none=>rw[hy]at h;cases h
 | some y =>
  rw[hy]at h
  simp only[]at h
  have hm:=List.mem_of_getElem? hy
  split at h
  ·rw[List.mem_singleton]at h;subst h;exact hm
  ·split at h
   ·rw[List.mem_singleton]at h;subst h;exact hm
   ·cases h
theorem BY {l:List Sp} {x:Sp}:∀ n,x ∈ c8 l n→x ∈ l
 | 0,h=>by cases h
 | n+1,h=>by
  rw[c8]at h
  rcases List.mem_append.1 h with h | h
  ·exact BY n h
  ·exact SC h
theorem EG {t:List Nd} {f:Nat} {x:Sp} (h:x ∈ gJ t f):x.c<256∧x.node<t.length∧∃ y,t[x.node]?=some y∧x.place<y.text.size:=SB (BY _ h)
end Go.Proofs.YtgpihfacmpbpaaaGreatDoor.Nu
namespace Go.Proofs.YtgpihfacmpbpaaaGreatDoor.Nu
open Go.RowKit Tr
theorem tB {w:World} {N g k c i:Nat} {l:List Nd} (own:w.ownsRow N 41 4 (.slice (some ⟨g,0,none⟩) k c) k (Ba.rows cN l)) {x x':Nd} (hx:l[i]?=some x) (j:Nat) (hj:j<4) (v:Value) (hf:(cN x).set j v=cN x') (hNg:N≤g) :
  (w.setCell ⟨g,i * 4+j,none⟩ v).ownsRow N 41 4 (.slice (some ⟨g,0,none⟩) k c) k (Ba.rows cN (l.set i x'))∧Below N w (w.setCell ⟨g,i * 4+j,none⟩ v):=by
 refine⟨?_,(Below.refl N w).setCell (p:=⟨g,i * 4+j,none⟩) hNg _⟩
 rw[← Ba.gS cN dX l i x x' hx j v hj hf]
 exact(own.stored _ _).1
theorem sB (t:List Nd):∀ (l:List Sp) (out:List Nd) (B:Nat),(∀ y ∈ out,y.text.size≤B)→∀ y ∈ l.foldl (lY t) out,y.text.size≤B+l.length
 | [],_,_,h=>fun y hy=>by simpa using h y hy
 | s::l,out,B,h=>fun y hy=>by
  rw[List.foldl_cons]at hy
  have:=sB t l (lY t out s) (B+1) (fun z hz=>by
   obtain⟨j,hj⟩:=List.mem_iff_getElem?.1 hz
   unfold lY at hj
   rw[List.getElem?_modify]at hj
   obtain⟨u,hu,he⟩:=Option.map_eq_some_iff.1 hj
   have hb:=h u (List.mem_of_getElem? hu)
   by_cases hjj:s.node=j
   ·rw[if_pos hjj]at he;subst he
    show (u.text++dS s.c).size≤B+1
    rw[ByteArray.size_append,show (dS s.c).size=1 from Lx.c9 _];omega
   ·rw[if_neg hjj]at he;subst he;show u.text.size≤B+1;omega) y hy
  rw[List.length_cons];omega
theorem vT {t:List Nd} {B:Nat} (h:∀ y ∈ t,y.text.size≤B):∀ n,∀ y ∈ eW t n,y.text.size≤B
 | 0=>h
 | n+1=>fun y hy=>by
  unfold eW at hy
  have ih:=vT h n
  cases hx:t[n]? with
  | none=>rw[hx]at hy;exact ih y hy
  | some x =>
   rw[hx]at hy
   simp only[]at hy
   split at hy
   ·obtain⟨j,hj⟩:=List.mem_iff_getElem?.1 hy
    rw[List.getElem?_modify]at hj
    obtain⟨u,hu,he⟩:=Option.map_eq_some_iff.1 hj
    have hb:=ih u (List.mem_of_getElem? hu)
    by_cases hjj:n=j
    ·rw[if_pos hjj]at he;subst he;show (0:Nat)≤B;omega
    ·rw[if_neg hjj]at he;subst he;exact hb
   ·exact ih y hy
def lN (t:List Nd):Prop:=∀ (i:Nat) (x:Nd),t[i]?=some x→x.kind<256∧x.text.size≤9000∧∃ z:Nat,x.size=(z:Int)∧1≤z∧i+z≤t.length
theorem BZ {t:List Nd} (h:lN t) (f:Nat):(gJ t f).length≤t.length * 9000:=by
 refine Nat.le_trans (oX _ _) ?_
 unfold iI
 cases hy:t[f]? with
 | none=>simp
 | some y =>
  simp only[]
  obtain⟨-,-,z,hz,-,hfz⟩:=h f y hy
  have h1:=qA (fun x hx=>by obtain⟨j,hj⟩:=List.mem_iff_getElem?.1 hx;exact(h j x hj).2.1) f (f+y.size.toNat)
  rw[hz,Int.toNat_natCast]at h1 ⊢
  exact Nat.le_trans h1 (Nat.mul_le_mul_right _ hfz)
theorem vU {t:List Nd} (h:lN t) {K E:Nat} (hK:t.length * 9000≤K) (hE:9000≤E):∀ n,∀ y ∈ dQ t n,y.text.size≤E+n * K
 | 0=>fun y hy=>by
  have:=vT (t:=t) (B:=E) (fun x hx=>by obtain⟨j,hj⟩:=List.mem_iff_getElem?.1 hx;exact Nat.le_trans (h j x hj).2.1 hE) t.length y hy
  rw[Nat.zero_mul];exact this
 | n+1=>fun y hy=>by
  have hm:(n+1) * K=n * K+K:=Nat.succ_mul n K
  rw[dQ]at hy
  have ih:=vU h hK hE n
  cases hx:t[n]? with
  | none=>rw[hx]at hy;have:=ih y hy;omega
  | some x =>
   rw[hx]at hy
   simp only[]at hy
   split at hy
   ·have h1:=sB t (gJ t n) (dQ t n) (E+n * K) ih y hy
    have h2:=BZ h n
    omega
   ·have:=ih y hy;omega
theorem SD {t:List Nd} {L:List Sp} {k:Nat} {s:Sp} (hs:L[k]?=some s) (out:List Nd):(L.take (k+1)).foldl (lY t) out=lY t ((L.take k).foldl (lY t) out) s:=by
 rw[List.take_add_one,hs,Option.toList_some,List.foldl_append];rfl
def F8 (t:List Nd) (w:World) (e:Ending) (w':World):Prop:=∃ v,e=.returned v∧w'.ownsRow w.heap.size 41 4 v t.length (Ba.rows cN (jM t))∧Below w.heap.size w w'
def B0 (w:World) (V:Value) (m:Nat) (out:List Nd) (wr:World):Prop:=wr.ownsRow w.heap.size 41 4 V m (Ba.rows cN out)∧Below w.heap.size w wr
def TxI (w:World) (go:Nat) (V:Value) (m:Nat) (t:List Nd) (L:List Sp) (out:List Nd) (w3:World) (u7:Value) (wi:World):Prop:=∃ k:Nat,u7=.int .i64 k∧k≤L.length∧B0 w V m ((L.take k).foldl (lY t) out) wi∧(∀ b,b<w3.heap.size→b≠go→wi.heap[b]?=w3.heap[b]?)∧w3.heap.size≤wi.heap.size
def aEA (w:World) (go:Nat) (V:Value) (m:Nat) (out:List Nd) (w3 wx:World):Prop:=wx.ownsRow w.heap.size 41 4 V m (Ba.rows cN out)∧Below w.heap.size w wx∧(∀ b,b<w3.heap.size→b≠go→wx.heap[b]?=w3.heap[b]?)∧w3.heap.size≤wx.heap.size
theorem WS {w W w3:World} {go n cap:Nat} {out:List Nd} (own:W.ownsRow w.heap.size 41 4 (.slice (some ⟨go,0,none⟩) n cap) n (Ba.rows cN out)) (hB:Below w.heap.size w W) (hf:∀ b,b<w3.heap.size→b≠go→W.heap[b]?=w3.heap[b]?) (hs:w3.heap.size≤W.heap.size) (o:Obj) :
  B0 w (.slice (some ⟨go,0,none⟩) n cap) n out (W.alloc o).drew∧(∀ b,b<w3.heap.size→b≠go→(W.alloc o).drew.heap[b]?=w3.heap[b]?)∧w3.heap.size≤(W.alloc o).drew.heap.size :=
 ⟨⟨Lx.cV own (Lx.below_drewN ((Below.refl _ _).alloc (Nat.le_refl _) _) 1),Lx.below_drewN (hB.alloc hB.size _) 1⟩,
  fun b hb hbg=>(Below.heap_alloc W o b (by omega)).trans (hf b hb hbg),Nat.le_trans hs (by show W.heap.size≤(W.alloc o).heap.size;simp)⟩
set_option maxRecDepth 100000 in
set_option maxHeartbeats 16000000 in
theorem NB (v:Value) (t:List Nd) (off:Nat) (ht:t.length≤9000) (h0:0<t.length) (hs:lN t) (w:World) (hv:aS off w w.heap.size v t) :
  Calls Tryz.prog 87 #[v] w (F8 t w):=by
 obtain⟨i0,hi0,hz0,hz1,hz2⟩:=info_parts (show (Tryz.prog.info? 41).map (fun i=>(i.zero,i.size,i.bytes))=some (some (.agg #[.int .u8 0,.string { data:=#[] },.int .i64 0,.int .i64 0]),4,40) by kernel_rfl)
 have HV0:=Lib.hid hv
 obtain⟨A,c,rfl,hA⟩:=hv
 obtain⟨g,rfl,hg,hcell⟩:=hA h0
 have HS:=Lib.hid hs
 have HC:=Lib.hid hcell
 have HNEW:=Lib.hid (show ∀ j u,(Ba.rows cN t)[j]?=some u→(w.alloc (.cells #[] 41)).cell? ((⟨g,off,none⟩:Addr).add j)=some u from fun j u hu=>by
  have hj:j<(Ba.rows cN t).length:=(List.getElem?_eq_some_iff.1 hu).1
  rw[Ba.cK cN dX]at hj
  have e:=Ba.cB cN dX t (j / 4) _ (List.getElem?_eq_getElem (by omega)) (j % 4) (Nat.mod_lt _ (by omega))
  have e2:j / 4 * 4+j % 4=j:=by omega
  rw[e2,hu]at e
  have:=hcell (j / 4) _ (List.getElem?_eq_getElem (by omega)) (j % 4) u e.symm
  rw[e2]at this
  have e3:(⟨g,off,none⟩:Addr).add j=⟨g,off+j,none⟩:=by unfold Addr.add;split<;>simp_all
  rw[e3]
  exact(World.cell?_of_block (w:=w) (a:=⟨g,off+j,none⟩) (Below.heap_alloc w _ g hg)).trans this)
 have HONE:=Lib.hid (show ∀ u ∈ Ba.rows cN t,u.oneCell'=true from fun u hu=>by
  unfold Ba.rows at hu
  rw[List.mem_flatMap]at hu
  obtain⟨x,_,hx⟩:=hu
  simp[cN]at hx
  rcases hx with rfl | rfl | rfl | rfl<;>rfl)
 obtain⟨nt,hnt⟩:∃ nt,t.length=nt:=⟨_,rfl⟩
 have HNT:=Lib.hid hnt
 rw[hnt]at ht h0 ⊢
 clear hs hcell hA hnt
 go_enter Tryz.func87,Tryz.ntmps87
 go_wp2_with (at_builtin;refine wpList_append_lies _ rfl _ _ _ rfl w.heap.size 41 i0 _ 4 40 Tryz.underlying22 hi0 hz0 hz1 hz2 rfl (by omega) (.slice (some ⟨w.heap.size,0,none⟩) 0 0) 0 [] rfl (World.ownsRow_lit w #[] 0 (Nat.le_refl _) (by decide) rfl) ⟨g,off,none⟩ nt c (Ba.rows cN t) rfl (by rw[Ba.cK cN dX,HNT.out]) HNEW.out HONE.out h0 (by unfold maxLen;omega) (by omega) (by simp) (w.heap.size+1) (by simp) ?_;intro go cap w1 hown hgrow hat hlt)
 have hB1:Below w.heap.size w w1:=((Below.refl _ w).alloc (Nat.le_refl _) _).grown hgrow (by simp) (fun j ej=>by simp[Value.ownBlock]at ej;omega)
 have HGO:=Lib.hid (show w.heap.size≤go by
  rcases hat with h | h
  ·have h':w.heap.size=go:=by simpa[Value.ownBlock] using h
   omega
  ·omega)
 have hown':w1.ownsRow w.heap.size 41 4 (.slice (some ⟨go,0,none⟩) nt cap) nt (Ba.rows cN t):=by simpa using hown
 have HT1:=Lib.hid (show B0 w (.slice (some ⟨go,0,none⟩) nt cap) nt t w1 from ⟨hown',hB1⟩)
 clear hown hown' hgrow hat hlt hB1
 go_loopw [4] (fun u4 wr=>∃ n:Nat,u4=.int .i64 n∧n≤nt∧B0 w (.slice (some ⟨go,0,none⟩) nt cap) nt (eW t n) wr) (fun u4 _=>nt - (intOf u4).toNat)
 case atStart=>exact⟨0,rfl,Nat.zero_le _,HT1.out⟩
 case round =>
  obtain⟨n,rfl,hn,own,hB⟩:=hrel
  have n0:(0:Int)≤(n:Int):=by omega
  by_cases hlt:n<nt
  ·obtain⟨⟨xk,xt,xp,xs⟩,hx⟩:=fV (l:=t) (i:=n) (by have:=HNT.out;omega)
   have n1:(n:Int)<(nt:Int):=by omega
   have d0:=(World.cell?_of_block (w:=w) (a:=⟨g,off+n * 4,none⟩) (hB.block g hg)).trans (cE HC.out n _ hx).1
   by_cases k6:xk=46
   ·have t1:((xk:Int)==46)=true:=beq_iff_eq.2 (by omega)
    have HS2:=Lib.hid (show eW t (n+1)=(eW t n).modify n oA by rw[eW,hx];simp only[];rw[if_pos k6])
    obtain⟨y,hy⟩:=fV (l:=eW t n) (i:=n) (by rw[mR,HNT.out];exact hlt)
    have hl:=(mR t n).trans HNT.out
    obtain⟨-,e1,-,-⟩:=iY hl own hy
    have f1:=own.frozenAt (n * 4+1)
    obtain⟨own2,hB2⟩:=tB own (x':=oA y) hy 1 (by omega) (.string { data:=#[] }) rfl HGO.out
    have HF:=Lib.hid (show B0 w (.slice (some ⟨go,0,none⟩) nt cap) nt (eW t (n+1)) (wr.setCell ⟨go,n * 4+1,none⟩ (.string { data:=#[] })) by rw[HS2.out,← sY hy];exact⟨own2,hB.trans hB2⟩)
    clear k6 hx hy own own2 hB hB2 hl
    go_wp2
    go_roundw
    case rel=>exact⟨n+1,by go_num,by omega,HF.out⟩
    case measure=>simp[intOf];omega
   ·have t1:((xk:Int)==46)=false:=beq_eq_false_iff_ne.2 (by omega)
    have HS2:=Lib.hid (show eW t (n+1)=eW t n by rw[eW,hx];simp only[];rw[if_neg k6])
    have HF:=Lib.hid (show B0 w (.slice (some ⟨go,0,none⟩) nt cap) nt (eW t (n+1)) wr by rw[HS2.out];exact⟨own,hB⟩)
    clear k6 hx own hB
    go_wp2
    go_roundw
    case rel=>exact⟨n+1,by go_num,by omega,HF.out⟩
    case measure=>simp[intOf];omega
  ·obtain rfl:n=nt:=by omega
   have HT2:=Lib.hid (show B0 w (.slice (some ⟨go,0,none⟩) n cap) n (dQ t 0) wr by show B0 _ _ _ (eW t t.length) _;rw[HNT.out];exact⟨own,hB⟩)
   clear own hB
   go_wp2
   go_loopw [5] (fun u5 wr=>∃ i:Nat,u5=.int .i64 i∧i≤n∧B0 w (.slice (some ⟨go,0,none⟩) n cap) n (dQ t i) wr) (fun u5 _=>n - (intOf u5).toNat)
   case atStart=>exact⟨0,rfl,Nat.zero_le _,HT2.out⟩
   case round =>
    obtain⟨i,rfl,hi,own,hB⟩:=hrel
    have HOW:=Lib.hid own
    have HB:=Lib.hid hB
    have hBs:=hB.size
    have q0:(0:Int)≤(i:Int):=by omega
    have hgo:go<wr.heap.size:=(own.lt go rfl).2
    by_cases hlt2:i<n
    ·obtain⟨⟨xk,xt,xp,xs⟩,hx⟩:=fV (l:=t) (i:=i) (by have:=HNT.out;omega)
     have q1:(i:Int)<(n:Int):=by omega
     have d0:=(World.cell?_of_block (w:=w) (a:=⟨g,off+i * 4,none⟩) (hB.block g hg)).trans (cE HC.out i _ hx).1
     obtain⟨k1,-,z,hz,hz3,hz4⟩:=HS.out i _ hx
     simp only[]at k1 hz d0
     by_cases kf:aK xk=true
     ·have HKF:=Lib.hid kf
      have HTN:=Lib.hid (show dQ t (i+1)=(gJ t i).foldl (lY t) (dQ t i) by rw[dQ,hx];simp only[];rw[if_pos kf])
      have hvr:=(HV0.out.below hB).mono hBs
      have hsp:=fun W hW=>WO (.slice (some ⟨g,off,none⟩) t.length c) t off (by rw[HNT.out];exact ht) (fun x hx=>by obtain⟨j,hj⟩:=List.mem_iff_getElem?.1 hx;obtain⟨a1,a2,zz,a3,a4,a5⟩:=HS.out j x hj;have:=HNT.out;exact⟨a1,a2,by omega,by omega⟩) i ⟨xk,xt,xp,xs⟩ z hx hz hz3 hz4 W hW
      rw[HNT.out]at hvr hsp
      have HVR:=Lib.hid hvr
      have HSP:=Lib.hid hsp
      have HLL:=Lib.hid (show (iI t i).length≤100000000 by
       unfold iI
       rw[hx]
       simp only[]
       have h1:=qA (t:=t) (fun x hx=>by obtain⟨j,hj⟩:=List.mem_iff_getElem?.1 hx;exact(HS.out j x hj).2.1) i (i+xs.toNat)
       have h2:=HNT.out
       rw[hz,Int.toNat_natCast]at h1 ⊢
       omega)
      clear kf hx hvr hsp hz own hB
      go_wp2_with (first
       |(go_at_call 110;refine(oW xk k1 true HKF.out _).mono ?_;rintro en w' ⟨rfl,rfl⟩)
       |(go_at_call 112;refine(HSP.out _ HVR.out).mono ?_;rintro en w2 ⟨vs,rfl,hown2,hb2⟩;have HSL:=Lib.hid (Ba.Reads.kC M9 rfl hown2);have HB2:=Lib.hid hb2;clear hown2 hb2)
       |(go_at_call 111;refine(aAN _ (iI t i) HLL.out _ HSL.out).mono ?_;rintro en w3 ⟨vk,rfl,hown3,hb3⟩;have HO3:=Lib.hid hown3;have HB3:=Lib.hid hb3;clear hown3 hb3))
      obtain⟨Ak,ck,hvk⟩:∃ A c,vk=.slice A (yZ (iI t i)).length c:=by
       rcases HO3.out.2 with⟨h',hz'⟩ | ⟨g',c',_,h',_⟩
       ·exact⟨none,0,by rw[h',hz']⟩
       ·exact⟨_,_,h'⟩
      subst hvk
      obtain⟨L,hL⟩:∃ L,yZ (iI t i)=L:=⟨_,rfl⟩
      have HL:=Lib.hid hL
      rw[hL]at HO3 ⊢
      have hw3:Below wr.heap.size wr w3:=Ba.chain HB2.out HB2.out.size HB3.out
      have HT3:=Lib.hid (show B0 w (.slice (some ⟨go,0,none⟩) n cap) n (dQ t i) w3 from ⟨HOW.out.kept (w':=w3) ⟨hw3.os,hw3.tape,hw3.output,hw3.size,fun b hb _=>hw3.block b hb⟩ (row:=none) (.inr (by simp[Value.ownBlock])),Ba.chain HB.out HB.out.size hw3⟩)
      have hgo3:go<w3.heap.size:=Nat.lt_of_lt_of_le hgo hw3.size
      have hgo2:go<w2.heap.size:=Nat.lt_of_lt_of_le hgo HB2.out.size
      clear hL hw3
      go_loopw [7] (fun u7 wi=>TxI w go (.slice (some ⟨go,0,none⟩) n cap) n t L (dQ t i) w3 u7 wi) (fun u7 _=>L.length - (intOf u7).toNat)
      case atStart=>exact⟨0,rfl,Nat.zero_le _,HT3.out,fun _ _ _=>rfl,Nat.le_refl _⟩
      case round =>
       obtain⟨k,rfl,hk,⟨own,hBi⟩,hfr,hsz⟩:=hrel
       have k0:(0:Int)≤(k:Int):=by omega
       have hLL9:L.length≤100000000:=by rw[← HL.out];exact Nat.le_trans (oX _ _) HLL.out
       by_cases hkl:k<L.length
       ·obtain⟨⟨sc,sn,sp⟩,hsx⟩:=fV (l:=L) hkl
        obtain⟨hc256,hsn,⟨⟨yk,yt,yp,ys⟩,hy,hpl⟩⟩:=EG (t:=t) (f:=i) (x:=⟨sc,sn,sp⟩) (show _ ∈ yZ (iI t i) by rw[HL.out];exact List.mem_of_getElem? hsx)
        have hy9:=(HS.out sn _ hy).2.1
        simp only[]at hc256 hsn hy hpl hy9
        rw[HNT.out]at hsn
        obtain⟨gk,ck',hek,hgk1,hgk2⟩:=HO3.out.form (by omega)
        cases hek
        have hne:gk≠go:=by omega
        have sA:∀ j,j<3→wr.cell? ⟨gk,k * 3+j,none⟩=(cS ⟨sc,sn,sp⟩)[j]?:=fun j hj=>by
         rw[World.cell?_of_block (w:=w3) (a:=⟨gk,k * 3+j,none⟩) (hfr gk hgk2 hne),HO3.out.cellAt _ (by omega),Ba.cB cS M9 _ _ _ hsx j hj]
        have s0:wr.cell? ⟨gk,k * 3,none⟩=some (.int .u8 (sc:Int)):=sA 0 (by omega)
        have s1:wr.cell? ⟨gk,k * 3+1,none⟩=some (.int .i64 (sn:Int)):=sA 1 (by omega)
        have s2:wr.cell? ⟨gk,k * 3+2,none⟩=some (.int .i64 (sp:Int)):=sA 2 (by omega)
        obtain⟨O,hO⟩:∃ O,(L.take k).foldl (lY t) (dQ t i)=O:=⟨_,rfl⟩
        have hlen:O.length=n:=by rw[← hO,xQ,mS];exact HNT.out
        have hbd:∀ y ∈ O,y.text.size≤1000000000000:=fun y hy'=>by
         rw[← hO]at hy'
         have h1:=sB t (L.take k) (dQ t i) _ (vU HS.out (K:=t.length * 9000) (E:=9000) (Nat.le_refl _) (Nat.le_refl _) i) y hy'
         have h2:i * (t.length * 9000)≤9000 * (9000 * 9000):=Nat.mul_le_mul (by omega) (Nat.mul_le_mul (by rw[HNT.out];exact ht) (Nat.le_refl _))
         have h3:L.length≤100000000:=by rw[← HL.out];exact Nat.le_trans (oX _ _) HLL.out
         rw[List.length_take]at h1
         obtain⟨M,hM⟩:∃ M,i * (t.length * 9000)=M:=⟨_,rfl⟩
         rw[hM]at h1 h2
         omega
        rw[hO]at own
        obtain⟨⟨ok,ot,op,os⟩,hxo⟩:=fV (l:=O) (i:=sn) (by omega)
        have hots:=hbd _ (List.mem_of_getElem? hxo)
        obtain⟨-,o1,o2,-⟩:=iY hlen own hxo
        simp only[]at o1 o2 hots
        have f1:=own.frozenAt (sn * 4+1)
        have f2:=own.frozenAt (sn * 4+2)
        have tp:=(World.cell?_of_block (w:=w) (a:=⟨g,off+sn * 4+2,none⟩) (hBi.block g hg)).trans (cE HC.out sn _ hy).2.2.1
        simp only[]at tp
        have m0:(0:Int)≤(sn:Int):=by omega
        have m1:(sn:Int)<(n:Int):=by omega
        have k1:(k:Int)<(L.length:Int):=by omega
        have hgor:go<wr.heap.size:=(own.lt go rfl).2
        have hgr:g<wr.heap.size:=Nat.lt_of_lt_of_le hg hBi.size
        have hgkr:gk<wr.heap.size:=Nat.lt_of_lt_of_le hgk2 hsz
        have hgg:g≠go:=by have:=HGO.out;omega
        have HCV:=fun(W:World) (gx:Nat) (h:W.cell? ⟨gx,0,none⟩=some (.int .u8 (sc:Int)))=>Lx.BJ W gx sc hc256 h
        have hcat:¬ (9223372036854775807<ot.size+(Lx.bytesOf [sc]).size):=by rw[Lx.c9];simp;omega
        have HST:=Lib.hid (show (L.take (k+1)).foldl (lY t) (dQ t i)=O.set sn ⟨ok,ot++dS sc,if ot.size=0 then wrap64 (yp+(sp:Int)) else op,os⟩ by
         rw[SD hsx,hO]
         unfold lY
         rw[← sY hxo]
         unfold vS aU
         simp only[]
         rw[hy])
        have HLEN:=Lib.hid hlen
        have HOWN:=Lib.hid own
        have HBI:=Lib.hid hBi
        have HFR:=Lib.hid hfr
        have HXO:=Lib.hid hxo
        clear own hBi hfr hxo hy hsx sA hO hbd hlen hpl
        by_cases hz0:ot.size=0
        ·have HS5:=Lib.hid (HST.out.trans (by rw[if_pos hz0]))
         obtain⟨e1,e2⟩:ot.toList.isEmpty=true∧(!ot.toList.isEmpty)=false:=by
          have:ot.toList.isEmpty=true:=by rw[ByteArray.toList_eq,List.isEmpty_iff,Array.toList_eq_nil_iff];exact Array.eq_empty_of_size_eq_zero hz0
          exact⟨this,by rw[this];rfl⟩
         obtain⟨P,hP⟩:∃ P,wrap64 (yp+(sp:Int))=P:=⟨_,rfl⟩
         have hwp:IntKind.i64.wrap (yp+(sp:Int))=P:=(IntWalk.i64_left _).trans hP
         rw[hP]at HS5
         clear hz0
         go_upto_region 17 with fail
         go_cut [62] (fun _ wx=>aEA w go (.slice (some ⟨go,0,none⟩) n cap) n (O.set sn ⟨ok,ot,P,os⟩) w3 wx)
         case first =>
          obtain⟨own6,hB6⟩:=tB HOWN.out (x':=⟨ok,ot,P,os⟩) HXO.out 2 (by omega) (.int .i64 P) rfl HGO.out
          have HF:=Lib.hid (show aEA w go (.slice (some ⟨go,0,none⟩) n cap) n (O.set sn ⟨ok,ot,P,os⟩) w3 (wr.setCell ⟨go,sn * 4+2,none⟩ (.int .i64 P)).drew from
           ⟨Lx.cV own6 (Lx.below_drewN (Below.refl _ _) 1),Lx.below_drewN (HBI.out.trans hB6) 1,fun b hb hbg=>(Below.heap_setCell wr ⟨go,sn * 4+2,none⟩ (.int .i64 P) b hbg).trans (HFR.out b hb hbg),by show w3.heap.size≤(wr.setCell ⟨go,sn * 4+2,none⟩ (.int .i64 P)).heap.size;simpa using hsz⟩)
          clear own6 hB6
          go_region_law (first | fail)
          all_goals
           go_wp2_with fail
           go_meet
           exact HF.out
         case rest =>
          obtain⟨own5,hB5,hfr5,hsz5⟩:=hcut
          have s0':wc.cell? ⟨gk,k * 3,none⟩=some (.int .u8 (sc:Int)):=(World.cell?_of_block (w:=wr) (a:=⟨gk,k * 3,none⟩) ((hfr5 gk hgk2 hne).trans (HFR.out gk hgk2 hne).symm)).trans s0
          obtain⟨-,o1',-,-⟩:=iY (i:=sn) (x:=⟨ok,ot,P,os⟩) (by rw[List.length_set];exact HLEN.out) own5 (by rw[List.getElem?_set];simp;rw[HLEN.out];omega)
          simp only[]at o1'
          have f1':=own5.frozenAt (sn * 4+1)
          obtain⟨own6,hB6⟩:=tB own5 (i:=sn) (x:=⟨ok,ot,P,os⟩) (x':=⟨ok,ot++dS sc,P,os⟩) (by rw[List.getElem?_set];simp;rw[HLEN.out];omega) 1 (by omega) (.string (ot++Lx.bytesOf [sc])) rfl HGO.out
          rw[List.set_set]at own6
          have HF:=Lib.hid (WS (go:=go) own6 (hB5.trans hB6) (fun b hb hbg=>(Below.heap_setCell wc ⟨go,sn * 4+1,none⟩ (.string (ot++Lx.bytesOf [sc])) b hbg).trans (hfr5 b hb hbg)) (by simpa using hsz5) (.cells #[.int .u8 (sc:Int)] 5))
          have hgoc:go<wc.heap.size:=(own5.lt go rfl).2
          have hgkc:gk<wc.heap.size:=Nat.lt_of_lt_of_le hgk2 hsz5
          clear own5 hB5 hfr5 own6 hB6 s0 s1 s2 o1 o2 f1 f2 tp d0
          go_wp2
          go_region_law (first | fail)
          all_goals
           go_wp2
           go_roundw
           case rel=>exact⟨k+1,by go_num,by omega,by rw[HS5.out];exact HF.out.1,HF.out.2.1,HF.out.2.2⟩
           case measure=>simp[intOf];omega
        ·have HS5:=Lib.hid (HST.out.trans (by rw[if_neg hz0]))
         obtain⟨e1,e2⟩:ot.toList.isEmpty=false∧(!ot.toList.isEmpty)=true:=by
          have:ot.toList.isEmpty=false:=by
           rw[ByteArray.toList_eq,← Bool.not_eq_true,List.isEmpty_iff,Array.toList_eq_nil_iff]
           intro h
           exact hz0 (by show ot.data.size=0;rw[h];rfl)
          exact⟨this,by rw[this];rfl⟩
         obtain⟨own6,hB6⟩:=tB HOWN.out (x':=⟨ok,ot++dS sc,op,os⟩) HXO.out 1 (by omega) (.string (ot++Lx.bytesOf [sc])) rfl HGO.out
         have HF:=Lib.hid (WS (go:=go) own6 (HBI.out.trans hB6) (fun b hb hbg=>(Below.heap_setCell wr ⟨go,sn * 4+1,none⟩ (.string (ot++Lx.bytesOf [sc])) b hbg).trans (HFR.out b hb hbg)) (by simpa using hsz) (.cells #[.int .u8 (sc:Int)] 5))
         clear hz0 own6 hB6
         go_wp2
         go_region_law (first | fail)
         all_goals
          go_wp2
          go_roundw
          case rel=>exact⟨k+1,by go_num,by omega,by rw[HS5.out];exact HF.out.1,HF.out.2.1,HF.out.2.2⟩
          case measure=>simp[intOf];omega
       ·obtain rfl:k=L.length:=by omega
        have HF:=Lib.hid (show B0 w (.slice (some ⟨go,0,none⟩) n cap) n (dQ t (i+1)) wr by rw[HTN.out,show gJ t i=L from HL.out];rw[List.take_length]at own;exact⟨own,hBi⟩)
        clear own hBi hfr
        go_wp2
        go_roundw
        case rel=>exact⟨i+1,by go_num,by omega,HF.out⟩
        case measure=>simp[intOf];omega
     ·have HKF:=Lib.hid (show aK xk=false by simpa using kf)
      have HTN:=Lib.hid (show dQ t (i+1)=dQ t i by rw[dQ,hx];simp only[];rw[if_neg kf])
      clear kf hx hz own hB
      go_wp2_with (go_at_call 110;refine(oW xk k1 false HKF.out _).mono ?_;rintro en w' ⟨rfl,rfl⟩)
      go_roundw
      case rel=>exact⟨i+1,by go_num,by omega,by rw[HTN.out];exact⟨HOW.out,HB.out⟩⟩
      case measure=>simp[intOf];omega
    ·obtain rfl:i=n:=by omega
     have HR:=Lib.hid (show F8 t w (.returned (.slice (some ⟨go,0,none⟩) i cap)) wr from ⟨_,rfl,by rw[HNT.out];show wr.ownsRow _ _ _ _ _ (Ba.rows cN (dQ t t.length));rw[HNT.out];exact own,hB⟩)
     clear own hB
     go_wp2
     go_ret
     exact HR.out
end Go.Proofs.YtgpihfacmpbpaaaGreatDoor.Nu
namespace Go.Proofs.YtgpihfacmpbpaaaGreatDoor.Nu
open Go.RowKit Tr
def FF (x:Nd):Nd:={ x with size:=x.size - 1 }
def kO (t:List Nd) (a:Nat):Nat→List Nd
 | 0=>t.take a
 | n+1=>match t[n]? with
  | some x=>if (a:Int)<(n:Int)+x.size then (kO t a n).modify n FF else kO t a n
  | none=>kO t a n
def bA (t:List Nd) (a:Nat):List Nd:=kO t a a++t.drop (a+1)
theorem sC (t:List Nd) (a:Nat):∀ n,(kO t a n).length=min a t.length
 | 0=>by simp[kO]
 | n+1=>by
  unfold kO
  cases t[n]? with
  | none=>exact sC t a n
  | some x=>simp only[];split<;>simp[sC t a n]
theorem J7 (t:List Nd) (a:Nat):∀ n j,n≤j→j<a→(kO t a n)[j]?=t[j]?
 | 0,j,_,h=>by unfold kO;rw[List.getElem?_take,if_pos h]
 | n+1,j,h1,h2=>by
  have ih:=J7 t a n j (by omega) h2
  unfold kO
  cases t[n]? with
  | none=>exact ih
  | some x =>
   simp only[]
   split
   ·rw[List.getElem?_modify]
    simp only[if_neg (show ¬ n=j by omega)]
    rw[ih];cases t[j]?<;>rfl
   ·exact ih
def aC9 (t:List Nd) (a m:Nat) (w:World) (e:Ending) (w':World):Prop:=∃ v,e=.returned v∧w'.ownsRow w.heap.size 41 4 v (m - 1) (Ba.rows cN (bA t a))∧Below w.heap.size w w'
theorem PF {t:List Nd} {off g:Nat} {w:World} (hcell:∀ k x,t[k]?=some x→∀ j u,(cN x)[j]?=some u→w.cell? ⟨g,off+(k * 4+j),none⟩=some u):∀ j u,(Ba.rows cN t)[j]?=some u→w.cell? ((⟨g,off,none⟩:Addr).add j)=some u:=fun j u hu=>by
 have hj:j<(Ba.rows cN t).length:=(List.getElem?_eq_some_iff.1 hu).1
 rw[Ba.cK cN dX]at hj
 have e:=Ba.cB cN dX t (j / 4) _ (List.getElem?_eq_getElem (by omega)) (j % 4) (Nat.mod_lt _ (by omega))
 have e2:j / 4 * 4+j % 4=j:=by omega
 rw[e2,hu]at e
 have:=hcell (j / 4) _ (List.getElem?_eq_getElem (by omega)) (j % 4) u e.symm
 rw[e2]at this
 have e3:(⟨g,off,none⟩:Addr).add j=⟨g,off+j,none⟩:=by unfold Addr.add;split<;>simp_all
 rw[e3];exact this
theorem NC (t:List Nd):∀ u ∈ Ba.rows cN t,u.oneCell'=true:=fun u hu=>by
 unfold Ba.rows at hu
 rw[List.mem_flatMap]at hu
 obtain⟨x,_,hx⟩:=hu
 simp[cN]at hx
 rcases hx with rfl | rfl | rfl | rfl<;>rfl
theorem ND {t:List Nd} {off g a:Nat} {w:World} (hcell:∀ k x,t[k]?=some x→∀ j u,(cN x)[j]?=some u→w.cell? ⟨g,off+(k * 4+j),none⟩=some u):∀ k x,(t.take a)[k]?=some x→∀ j u,(cN x)[j]?=some u→w.cell? ⟨g,off+(k * 4+j),none⟩=some u:=fun k x hx=>by
 rw[List.getElem?_take]at hx
 split at hx
 ·exact hcell k x hx
 ·cases hx
theorem NF {t:List Nd} {off g a:Nat} {w:World} (hcell:∀ k x,t[k]?=some x→∀ j u,(cN x)[j]?=some u→w.cell? ⟨g,off+(k * 4+j),none⟩=some u):∀ k x,(t.drop a)[k]?=some x→∀ j u,(cN x)[j]?=some u→w.cell? ⟨g,off+a * 4+(k * 4+j),none⟩=some u:=fun k x hx j u hu=>by
 rw[List.getElem?_drop]at hx
 have:=hcell (a+k) x hx j u hu
 rw[Nat.add_mul]at this
 rw[show off+a * 4+(k * 4+j)=off+(a * 4+k * 4+j) by omega];exact this
set_option maxRecDepth 100000 in
set_option maxHeartbeats 8000000 in
theorem B3 (t:List Nd) (off g c:Nat) (ht:t.length≤9000) (hc:t.length≤c) (hcm:c≤maxLen) (hf:∀ x ∈ t,-70000≤x.size∧x.size≤70000) (a:Nat) (ha:a<t.length) (w:World) (hg:g<w.heap.size)
  (hcell:∀ k x,t[k]?=some x→∀ j u,(cN x)[j]?=some u→w.cell? ⟨g,off+(k * 4+j),none⟩=some u) :
  Calls Tryz.prog 88 #[.slice (some ⟨g,off,none⟩) t.length c,.int .i64 (a:Int)] w (aC9 t a t.length w):=by
 obtain⟨i0,hi0,hz0,hz1,hz2⟩:=info_parts (show (Tryz.prog.info? 41).map (fun i=>(i.zero,i.size,i.bytes))=some (some (.agg #[.int .u8 0,.string { data:=#[] },.int .i64 0,.int .i64 0]),4,40) by kernel_rfl)
 unfold maxLen at hcm
 have hal:=fun(W:World) (hW:Below w.heap.size w W)=>(fun i=>World.cell?_of_block (w:=w) (w':=W) (a:=⟨g,i,none⟩) (hW.block g hg))
 have HC:=Lib.hid hcell
 have HF:=Lib.hid hf
 have hB0:Below w.heap.size w (w.alloc (.cells #[] 41)):=(Below.refl _ w).alloc (Nat.le_refl _) _
 have HNEW:=Lib.hid (PF (ND (a:=a) (fun k x hx j u hu=>(hal _ hB0 _).trans (hcell k x hx j u hu))))
 have HL1:=Lib.hid (show (Ba.rows cN (t.take a)).length=a * 4 by rw[Ba.cK cN dX,List.length_take,Nat.min_eq_left (by omega)])
 obtain⟨nt,hnt⟩:∃ nt,t.length=nt:=⟨_,rfl⟩
 have HNT:=Lib.hid hnt
 rw[hnt]at ht hc ha ⊢
 have a0:(0:Int)≤(a:Int):=by omega
 have a1:(a:Int)≤(c:Int):=by omega
 have a2:a≤c:=by omega
 clear hf hcell hnt hal hB0
 go_enter Tryz.func88,Tryz.ntmps88
 go_wp2_with (at_builtin;refine wpList_append_own _ rfl _ _ 22 rfl w.heap.size 41 i0 _ 4 40 Tryz.underlying22 hi0 hz0 hz1 hz2 rfl (by decide) (.slice (some ⟨w.heap.size,0,none⟩) 0 0) 0 [] rfl (World.ownsRow_lit w #[] 0 (Nat.le_refl _) (by decide) rfl) ⟨g,off,none⟩ a c (Ba.rows cN (t.take a)) rfl HL1.out HNEW.out (NC _) (by unfold maxLen;omega) (by omega) (by simp) ?_;intro v1 w1 hown hgrow hnil)
 have hB1:Below w.heap.size w w1:=((Below.refl _ w).alloc (Nat.le_refl _) _).grown hgrow (by simp) (fun j ej=>by simp[Value.ownBlock]at ej;omega)
 have HT1:=Lib.hid (show B0 w v1 a (kO t a 0) w1 from ⟨by simpa[kO] using hown,hB1⟩)
 clear hown hgrow hnil hB1
 go_loopw [6] (fun u6 wr=>∃ n:Nat,u6=.int .i64 n∧n≤a∧B0 w v1 a (kO t a n) wr) (fun u6 _=>a - (intOf u6).toNat)
 case atStart=>exact⟨0,rfl,Nat.zero_le _,HT1.out⟩
 case round =>
  obtain⟨n,rfl,hn,own,hB⟩:=hrel
  have n0:(0:Int)≤(n:Int):=by omega
  by_cases hlt:n<a
  ·obtain⟨⟨xk,xt,xp,xs⟩,hx⟩:=fV (l:=t) (i:=n) (by have:=HNT.out;omega)
   obtain⟨z1,z2⟩:=HF.out _ (List.mem_of_getElem? hx)
   have d3:=(World.cell?_of_block (w:=w) (a:=⟨g,off+n * 4+3,none⟩) (hB.block g hg)).trans (cE HC.out n _ hx).2.2.2
   simp only[]at z1 z2 d3
   have n1:(n:Int)<(nt:Int):=by omega
   have n2:(n:Int)<(a:Int):=by omega
   by_cases hs:(a:Int)<(n:Int)+xs
   ·have g1:decide ((a:Int)<(n:Int)+xs)=true:=decide_eq_true hs
    have HS2:=Lib.hid (show kO t a (n+1)=(kO t a n).modify n FF by rw[kO,hx];simp only[];rw[if_pos hs])
    have hy:(kO t a n)[n]?=some ⟨xk,xt,xp,xs⟩:=(J7 t a n n (Nat.le_refl _) hlt).trans hx
    have hl:(kO t a n).length=a:=by rw[sC,HNT.out];omega
    obtain⟨go,co,hvo,hgo,hgol⟩:=own.form (by omega)
    subst hvo
    obtain⟨-,-,-,e3⟩:=iY hl own hy
    simp only[]at e3
    have f3:=own.frozenAt (n * 4+3)
    obtain⟨own2,hB2⟩:=tB own (x':=⟨xk,xt,xp,xs - 1⟩) hy 3 (by omega) (.int .i64 (xs - 1)) rfl hgo
    have HF2:=Lib.hid (show B0 w (.slice (some ⟨go,0,none⟩) a co) a (kO t a (n+1)) (wr.setCell ⟨go,n * 4+3,none⟩ (.int .i64 (xs - 1))) by rw[HS2.out,← sY hy];exact⟨own2,hB.trans hB2⟩)
    clear hs hx hy own own2 hB hB2 hl
    go_wp2
    go_roundw
    case rel=>exact⟨n+1,by go_num,by omega,HF2.out⟩
    case measure=>simp[intOf];omega
   ·have g1:decide ((a:Int)<(n:Int)+xs)=false:=decide_eq_false hs
    have HS2:=Lib.hid (show kO t a (n+1)=kO t a n by rw[kO,hx];simp only[];rw[if_neg hs])
    have HF2:=Lib.hid (show B0 w v1 a (kO t a (n+1)) wr by rw[HS2.out];exact⟨own,hB⟩)
    clear hs hx own hB
    go_wp2
    go_roundw
    case rel=>exact⟨n+1,by go_num,by omega,HF2.out⟩
    case measure=>simp[intOf];omega
  ·obtain rfl:n=a:=by omega
   have HOWN:=Lib.hid own
   have H8:=Lib.hid own.lt
   have HB:=Lib.hid hB
   have hBs:=hB.size
   have hcw:∀ k x,t[k]?=some x→∀ j u,(cN x)[j]?=some u→wr.cell? ⟨g,off+(k * 4+j),none⟩=some u:=fun k x hx j u hu=>(World.cell?_of_block (w:=w) (a:=⟨g,off+(k * 4+j),none⟩) (hB.block g hg)).trans (HC.out k x hx j u hu)
   have HNEW2:=Lib.hid (PF (NF (a:=n+1) hcw))
   have HL2:=Lib.hid (show (Ba.rows cN (t.drop (n+1))).length=(nt - (n+1)) * 4 by rw[Ba.cK cN dX,List.length_drop,HNT.out])
   have HL3:=Lib.hid HL2.out
   obtain⟨q,hq⟩:∃ q,nt - (n+1)=q:=⟨_,rfl⟩
   have HQ:=Lib.hid hq
   rw[hq]at HL2
   have b1:(n:Int)+1≤(nt:Int):=by omega
   have b2:(n:Int)+1≤(c:Int):=by omega
   have b3:(nt:Int) - ((n:Int)+1)=(q:Int):=by omega
   clear own hB hcw hq
   by_cases hcap:n+1=c
   ·have hq0:q=0:=by have:=HQ.out;omega
    have HW:=Lib.hid (show Ba.rows cN (bA t n)=Ba.rows cN (kO t n n)++Ba.rows cN [] by unfold bA;rw[List.drop_of_length_le (by rw[HNT.out];have:=HQ.out;omega),List.append_nil];simp[Ba.rows])
    have HN1:=Lib.hid (show nt=n+1 by have:=HQ.out;omega)
    clear hq0
    go_wp2_with (at_builtin;refine wpList_append_own _ rfl _ _ 22 rfl w.heap.size 41 i0 _ 4 40 Tryz.underlying22 hi0 hz0 hz1 hz2 rfl (by decide) v1 n _ rfl HOWN.out ⟨g,off,none⟩ 0 0 (Ba.rows cN []) rfl rfl (fun j u hu=>by simp[Ba.rows]at hu) (NC _) (by unfold maxLen;omega) (by omega) hBs ?_;intro v9 w9 hown9 hgrow9 _;have hF:=Lib.hid (show w9.ownsRow w.heap.size 41 4 v9 (nt - 1) (Ba.rows cN (bA t n))∧Below w.heap.size w w9 from ⟨by rw[HW.out,show nt - 1=n+0 by have:=HN1.out;omega];exact hown9,HB.out.grown hgrow9 hBs (fun j ej=>(H8.out j ej).1)⟩);clear hown9 hgrow9)
    go_ret
    exact⟨v9,rfl,hF.out.1,hF.out.2⟩
   ·have HW:=Lib.hid (show Ba.rows cN (bA t n)=Ba.rows cN (kO t n n)++Ba.rows cN (t.drop (n+1)) by unfold bA;rw[Ba.iH])
    have hq1:n+1+q=nt:=by have:=HQ.out;omega
    have hcap':¬ c=n+1:=fun h=>hcap h.symm
    go_wp2_with (at_builtin;refine wpList_append_own _ rfl _ _ 22 rfl w.heap.size 41 i0 _ 4 40 Tryz.underlying22 hi0 hz0 hz1 hz2 rfl (by decide) v1 n _ rfl HOWN.out ⟨g,off+(n+1) * 4,none⟩ (nt - (n+1)) (c - (n+1)) (Ba.rows cN (t.drop (n+1))) rfl HL3.out HNEW2.out (NC _) (by unfold maxLen;omega) (by omega) hBs ?_;intro v9 w9 hown9 hgrow9 _;have hF:=Lib.hid (show w9.ownsRow w.heap.size 41 4 v9 (nt - 1) (Ba.rows cN (bA t n))∧Below w.heap.size w w9 from ⟨by rw[HW.out,show nt - 1=n+(nt - (n+1)) by omega];exact hown9,HB.out.grown hgrow9 hBs (fun j ej=>(H8.out j ej).1)⟩);clear hown9 hgrow9)
    go_ret
    exact⟨v9,rfl,hF.out.1,hF.out.2⟩
end Go.Proofs.YtgpihfacmpbpaaaGreatDoor.Nu
namespace Go.Proofs.YtgpihfacmpbpaaaGreatDoor.Nu
open Go.RowKit Tr
def zU (t:List Nd) (a:Nat):Nat→Int
 | 0=>-1
 | n+1=>match t[n]? with
  | some x=>if (a:Int)<(n:Int)+x.size then (n:Int) else zU t a n
  | none=>zU t a n
def B4 (t:List Nd) (a:Nat):Int:=zU t a a
theorem SE {t:List Nd} {a m:Nat} {x:Nd} (hx:t[m]?=some x):zU t a (m+1)=if (a:Int)<(m:Int)+x.size then (m:Int) else zU t a m:=by
 rw[zU,hx]
set_option maxHeartbeats 4000000 in
theorem EH (v:Value) (t:List Nd) (off:Nat) (ht:t.length≤9000) (hf:∀ x ∈ t,-70000≤x.size∧x.size≤70000) (a:Nat) (ha:a≤t.length) (B:Nat) (w:World) (hv:aS off w B v t) (z:Int) (hz:B4 t a=z) :
  Calls Tryz.prog 89 #[v,.int .i64 (a:Int)] w fun e w'=>e=.returned (.int .i64 z)∧w=w':=by
 obtain⟨A,c,rfl,hA⟩:=hv
 have HA:=Lib.hid hA
 have HZ:=Lib.hid hz
 have HF:=Lib.hid hf
 clear hA hz hf
 go_enter Tryz.func89,Tryz.ntmps89
 go_wp2
 go_loop [5] (fun i=>∃ n:Nat,n≤a∧i=.int .i64 ((n:Int) - 1)∧zU t a n=B4 t a) (fun i=>(intOf i+1).toNat)
 case atStart=>exact⟨a,by omega,rfl,rfl⟩
 case round =>
  obtain⟨n,hn,rfl,hF⟩:=hrel
  have HFF:=Lib.hid hF
  clear hF
  rcases Nat.eq_zero_or_pos n with rfl | h0
  ·have HR:=Lib.hid (show (-1:Int)=z by rw[← HZ.out,← HFF.out];rfl)
   go_wp2
   go_ret
   exact⟨Ba.bF HR.out,rfl⟩
  ·obtain⟨m,rfl⟩:∃ m,n=m+1:=⟨n - 1,by omega⟩
   obtain⟨g,rfl,-,hcell⟩:=HA.out (by omega)
   obtain⟨⟨xk,xt,xp,xs⟩,hx⟩:∃ x,t[m]?=some x:=⟨_,List.getElem?_eq_getElem (by omega)⟩
   obtain⟨-,-,-,d3⟩:=cE hcell m _ hx
   obtain⟨k2,k3⟩:=HF.out _ (List.mem_of_getElem? hx)
   simp only[]at k2 k3 d3
   have j0:(0:Int)≤(m:Int):=by omega
   have j1:(m:Int)<(t.length:Int):=by omega
   have i1:((m+1:Nat):Int) - 1=(m:Int):=by omega
   rw[i1]
   have HX:=Lib.hid (SE (a:=a) hx)
   clear hcell hx i1
   by_cases hl:(a:Int)<(m:Int)+xs
   ·have g1:decide ((a:Int)<(m:Int)+xs)=true:=decide_eq_true hl
    have HR:=Lib.hid (show (m:Int)=z by rw[← HZ.out,← HFF.out,HX.out,if_pos hl])
    clear hl
    go_wp2
    go_ret
    exact⟨Ba.bF HR.out,rfl⟩
   ·have g1:decide ((a:Int)<(m:Int)+xs)=false:=decide_eq_false hl
    have HN:=Lib.hid (show zU t a m=B4 t a by rw[← HFF.out,HX.out,if_neg hl])
    clear hl
    go_wp2
    go_round
    case rel=>exact⟨m,by omega,rfl,HN.out⟩
    case measure=>simp[intOf]
end Go.Proofs.YtgpihfacmpbpaaaGreatDoor.Nu
