/-
  Put together: NuA, NuB, NuC, NuD, NuE, NuF, NuG.
-/
import Derived.Test.YtmldpkigfhoalaaGreatDoorTrD
import Derived.Test.YtmldpkigfhoalaaGreatDoorVa
import Derived.Deep.AppendLies
import Derived.Deep.RegionLaw
import Derived.Test.YtmldpkigfhoalaaGreatDoorVg
import Derived.Deep.DeepCutAuto
namespace Go.Proofs.YtmldpkigfhoalaaGreatDoor.Nu
open Go.RowKit Tr
def flowedK (k:Nat):Bool:=k==49 || k==50 || k==51 || k==112 || k==105 || k==99 || k==110
set_option maxHeartbeats 2000000 in
theorem flowed_at (k:Nat) (_hk:k<256) (v:Bool) (hv:flowedK k=v) (w:World) :
  Calls Tryz.prog 84 #[.int .u8 (k:Int)] w fun e w'=>e=.returned (.bool v)∧w=w':=by
 have HV:=Lib.hid hv
 clear hv
 go_enter Tryz.func84,Tryz.ntmps84
 go_wp2
 all_goals
  go_ret
  refine ⟨Ba.ret_bool ?_,rfl⟩
  rw [← HV.out]
  first
   |(rw [show k=49 by omega];rfl)
   |(rw [show k=50 by omega];rfl)
   |(rw [show k=51 by omega];rfl)
   |(rw [show k=112 by omega];rfl)
   |(rw [show k=105 by omega];rfl)
   |(rw [show k=99 by omega];rfl)
   |(rw [show k=110 by omega];rfl)
   |(unfold flowedK
     have c0:((k:Int)==49)=false:=beq_eq_false_iff_ne.2 (by omega)
     have n0:(k==49)=false:=beq_eq_false_iff_ne.2 (by omega)
     have c1:((k:Int)==50)=false:=beq_eq_false_iff_ne.2 (by omega)
     have n1:(k==50)=false:=beq_eq_false_iff_ne.2 (by omega)
     have c2:((k:Int)==51)=false:=beq_eq_false_iff_ne.2 (by omega)
     have n2:(k==51)=false:=beq_eq_false_iff_ne.2 (by omega)
     have c3:((k:Int)==112)=false:=beq_eq_false_iff_ne.2 (by omega)
     have n3:(k==112)=false:=beq_eq_false_iff_ne.2 (by omega)
     have c4:((k:Int)==105)=false:=beq_eq_false_iff_ne.2 (by omega)
     have n4:(k==105)=false:=beq_eq_false_iff_ne.2 (by omega)
     have c5:((k:Int)==99)=false:=beq_eq_false_iff_ne.2 (by omega)
     have n5:(k==99)=false:=beq_eq_false_iff_ne.2 (by omega)
     by_cases h:k=110
     ·subst h;rfl
     ·have c6:((k:Int)==110)=false:=beq_eq_false_iff_ne.2 (by omega)
      have n6:(k==110)=false:=beq_eq_false_iff_ne.2 h
      simp only [c0,c1,c2,c3,c4,c5,c6,n0,n1,n2,n3,n4,n5,n6,Bool.or_false])
def flowF (t:List Nd) (a:Nat):Nat→Int
 | 0=>-1
 | n+1=>match t[n]? with
  | some x=>if flowedK x.kind=true∧(a:Int)<(n:Int)+x.size then (n:Int) else flowF t a n
  | none=>flowF t a n
theorem flowF_succ {t:List Nd} {a m:Nat} {x:Nd} (hx:t[m]?=some x):flowF t a (m+1)=if flowedK x.kind=true∧(a:Int)<(m:Int)+x.size then (m:Int) else flowF t a m:=by
 rw [flowF,hx]
def flowV (t:List Nd) (a:Nat):Int:=flowF t a a
theorem flowF_lt (t:List Nd) (a:Nat):∀ n,-1≤flowF t a n∧flowF t a n<(n:Int)
 | 0=>by unfold flowF;omega
 | n+1=>by
  have ih:=flowF_lt t a n
  unfold flowF
  cases t[n]? with
  | none=>simp only [];omega
  | some x=>simp only [];split<;>omega
set_option maxHeartbeats 4000000 in
theorem flow_at (v:Value) (t:List Nd) (off:Nat) (ht:t.length≤9000) (hf:∀ x ∈ t,x.kind<256∧-70000≤x.size∧x.size≤70000) (a:Nat) (ha:a≤t.length) (B:Nat) (w:World) (hv:ReadsN off w B v t) (z:Int) (hz:flowV t a=z) :
  Calls Tryz.prog 106 #[v,.int .i64 (a:Int)] w fun e w'=>e=.returned (.int .i64 z)∧w=w':=by
 obtain ⟨A,c,rfl,hA⟩:=hv
 have HA:=Lib.hid hA
 have HZ:=Lib.hid hz
 have HF:=Lib.hid hf
 clear hA hz hf
 go_enter Tryz.func106,Tryz.ntmps106
 go_wp2
 go_loop [5] (fun i=>∃ n:Nat,n≤a∧i=.int .i64 ((n:Int) - 1)∧flowF t a n=flowV t a) (fun i=>(intOf i+1).toNat)
 case atStart=>exact ⟨a,by omega,rfl,rfl⟩
 case round =>
  obtain ⟨n,hn,rfl,hF⟩:=hrel
  have HFF:=Lib.hid hF
  clear hF
  rcases Nat.eq_zero_or_pos n with rfl | h0
  ·have HR:=Lib.hid (show (-1:Int)=z by rw [← HZ.out,← HFF.out];rfl)
   go_wp2
   go_ret
   exact ⟨Ba.ret_int HR.out,rfl⟩
  ·obtain ⟨m,rfl⟩:∃ m,n=m+1:=⟨n - 1,by omega⟩
   obtain ⟨g,rfl,-,hcell⟩:=HA.out (by omega)
   obtain ⟨⟨xk,xt,xp,xs⟩,hx⟩:∃ x,t[m]?=some x:=⟨_,List.getElem?_eq_getElem (by omega)⟩
   obtain ⟨d0,-,-,d3⟩:=cells_of hcell m _ hx
   obtain ⟨k1,k2,k3⟩:=HF.out _ (List.mem_of_getElem? hx)
   simp only [] at k1 k2 k3
   have j0:(0:Int)≤(m:Int):=by omega
   have j1:(m:Int)<(t.length:Int):=by omega
   have i1:((m+1:Nat):Int) - 1=(m:Int):=by omega
   rw [i1]
   have HX:=Lib.hid (flowF_succ (a:=a) hx)
   obtain ⟨b,hb⟩:∃ b,flowedK xk=b:=⟨_,rfl⟩
   have HB:=Lib.hid hb
   clear hcell hx i1 hb
   cases b
   ·have HN:=Lib.hid (show flowF t a m=flowV t a by rw [← HFF.out,HX.out,if_neg (by rw [HB.out];exact fun h=>Bool.noConfusion h.1)])
    go_wp2_with (go_at_call 84;refine (flowed_at xk k1 false HB.out _).mono ?_;rintro e w' ⟨rfl,rfl⟩)
    go_round
    case rel=>exact ⟨m,by omega,rfl,HN.out⟩
    case measure=>simp [intOf]
   ·by_cases hl:(a:Int)<(m:Int)+xs
    ·have g1:decide ((a:Int)<(m:Int)+xs)=true:=decide_eq_true hl
     have HR:=Lib.hid (show (m:Int)=z by rw [← HZ.out,← HFF.out,HX.out,if_pos ⟨HB.out,hl⟩])
     clear hl
     go_wp2_with (go_at_call 84;refine (flowed_at xk k1 true HB.out _).mono ?_;rintro e w' ⟨rfl,rfl⟩)
     go_ret
     exact ⟨Ba.ret_int HR.out,rfl⟩
    ·have g1:decide ((a:Int)<(m:Int)+xs)=false:=decide_eq_false hl
     have HN:=Lib.hid (show flowF t a m=flowV t a by rw [← HFF.out,HX.out,if_neg (fun h=>hl h.2)])
     clear hl
     go_wp2_with (go_at_call 84;refine (flowed_at xk k1 true HB.out _).mono ?_;rintro e w' ⟨rfl,rfl⟩)
     go_round
     case rel=>exact ⟨m,by omega,rfl,HN.out⟩
     case measure=>simp [intOf]
end Go.Proofs.YtmldpkigfhoalaaGreatDoor.Nu
namespace Go.Proofs.YtmldpkigfhoalaaGreatDoor.Nu
open Go.RowKit Tr
structure Sp where
 c:Nat
 node:Nat
 place:Nat
def cS (x:Sp):List Value:=[.int .u8 (x.c:Int),.int .i64 (x.node:Int),.int .i64 (x.place:Int)]
theorem cS_len (x:Sp):(cS x).length=3:=rfl
def spAt (i:Nat) (s:ByteArray) (k:Nat):List Sp :=
 if Lx.white (Lx.bAt s k)=false then [⟨Lx.bAt s k,i,k⟩] else if k=0∨Lx.white (Lx.bAt s (k - 1))=false then [⟨32,i,k⟩] else []
def textSp (i:Nat) (s:ByteArray) (k:Nat):List Sp:=(List.range k).flatMap (spAt i s)
theorem textSp_succ (i:Nat) (s:ByteArray) (k:Nat):textSp i s (k+1)=textSp i s k++spAt i s k:=by
 unfold textSp;rw [List.range_succ,List.flatMap_append];simp
theorem spAt_len (i:Nat) (s:ByteArray) (k:Nat):(spAt i s k).length≤1:=by
 unfold spAt
 repeat' split
 all_goals simp
theorem textSp_len (i:Nat) (s:ByteArray):∀ k,(textSp i s k).length≤k
 | 0=>by simp [textSp]
 | k+1=>by rw [textSp_succ,List.length_append];have:=textSp_len i s k;have:=spAt_len i s k;omega
def nodeSp (t:List Nd) (f i:Nat):List Sp :=
 match t[i]? with
 | some x=>if f<i∧x.kind=46∧flowV t i=(f:Int) then textSp i x.text x.text.size else []
 | none=>[]
def spotsF (t:List Nd) (f n:Nat):List Sp:=(List.range n).flatMap (nodeSp t f)
theorem spotsF_succ (t:List Nd) (f n:Nat):spotsF t f (n+1)=spotsF t f n++nodeSp t f n:=by
 unfold spotsF;rw [List.range_succ,List.flatMap_append];simp
theorem spotsF_first (t:List Nd) (f:Nat):∀ n,n≤f+1→spotsF t f n=[]
 | 0,_=>rfl
 | n+1,h=>by
  rw [spotsF_succ,spotsF_first t f n (by omega),List.nil_append]
  unfold nodeSp
  cases t[n]? with
  | none=>rfl
  | some x=>simp only [];rw [if_neg (fun h'=>by omega)]
theorem spotsF_len {t:List Nd} (hx:∀ x ∈ t,x.text.size≤9000) (f:Nat):∀ n,(spotsF t f n).length≤n * 9000
 | 0=>by simp [spotsF]
 | n+1=>by
  rw [spotsF_succ,List.length_append]
  have h1:=spotsF_len hx f n
  have h2:(nodeSp t f n).length≤9000:=by
   unfold nodeSp
   cases h:t[n]? with
   | none=>simp
   | some x =>
    simp only []
    split
    ·have:=textSp_len n x.text x.text.size;have:=hx x (List.mem_of_getElem? h);omega
    ·simp
  omega
def spotsV (t:List Nd) (f:Nat):List Sp:=match t[f]? with | some x=>spotsF t f (f+x.size.toNat) | none=>[]
theorem infoSpot:(Tryz.prog.info? 138).map (fun i=>(i.zero,i.size,i.bytes))=some (some (.agg #[.int .u8 0,.int .i64 0,.int .i64 0]),3,24):=by kernel_rfl
def SpotsTo (t:List Nd) (f:Nat) (w:World) (e:Ending) (w':World):Prop:=∃ v,e=.returned v∧w'.ownsRow w.heap.size 138 3 v (spotsV t f).length (Ba.rows cS (spotsV t f))∧Below w.heap.size w w'
def SpO (t:List Nd) (f e:Nat) (w:World) (u5 u6:Value) (wr:World):Prop:=∃ n:Nat,u6=.int .i64 n∧f+1≤n∧n≤e∧wr.ownsRow w.heap.size 138 3 u5 (spotsF t f n).length (Ba.rows cS (spotsF t f n))∧Below w.heap.size w wr
def SpI (t:List Nd) (f n:Nat) (s:ByteArray) (w:World) (u5 u7:Value) (wr:World):Prop:=∃ k:Nat,u7=.int .i64 k∧k≤s.size∧wr.ownsRow w.heap.size 138 3 u5 (spotsF t f n++textSp n s k).length (Ba.rows cS (spotsF t f n++textSp n s k))∧Below w.heap.size w wr
set_option maxRecDepth 100000 in
set_option maxHeartbeats 8000000 in
theorem spots_at (v:Value) (t:List Nd) (off:Nat) (ht:t.length≤9000) (hf:∀ x ∈ t,x.kind<256∧x.text.size≤9000∧-70000≤x.size∧x.size≤70000) (f:Nat) (y:Nd) (z:Nat) (hy:t[f]?=some y) (hz:y.size=(z:Int)) (h1:1≤z) (hfz:f+z≤t.length) (w:World) (hv:ReadsN off w w.heap.size v t) :
  Calls Tryz.prog 86 #[v,.int .i64 (f:Int)] w (SpotsTo t f w):=by
 obtain ⟨i0,hi0,hz0,hz1,hz2⟩:=info_parts infoSpot
 have HV0:=Lib.hid hv
 obtain ⟨A,c,rfl,hA⟩:=hv
 have hlf:f<t.length:=by omega
 obtain ⟨g,rfl,hg,hcell⟩:=hA (by omega)
 obtain ⟨yk,yt,yp,ys⟩:=y
 simp only [] at hz
 subst hz
 have d3:=(cells_of hcell f _ hy).2.2.2
 simp only [] at d3
 have D3:=Lib.hid d3
 clear d3
 have HC:=Lib.hid hcell
 have HF:=Lib.hid hf
 have HLN:=Lib.hid (spotsF_len (fun x hx=>(hf x hx).2.1) f)
 have HSV:=Lib.hid (show spotsV t f=spotsF t f (f+z) by unfold spotsV;rw [hy];simp)
 have f0:(0:Int)≤(f:Int):=by omega
 have f1:(f:Int)<(t.length:Int):=by omega
 clear hA hcell hf hy
 go_enter Tryz.func86,Tryz.ntmps86
 go_wp2
 go_loopw [5,6] (fun u5 u6 wr=>SpO t f (f+z) w u5 u6 wr) (fun _ u6 _=>f+z - (intOf u6).toNat)
 case atStart=>exact ⟨f+1,rfl,by omega,by omega,by rw [spotsF_first t f _ (Nat.le_refl _)];exact World.ownsRow_nil _ _ _ _,Below.refl _ _⟩
 case round =>
  obtain ⟨n,rfl,hn1,hn2,own,hB⟩:=hrel
  have HOW:=Lib.hid own
  have HB:=Lib.hid hB
  have hBs:=hB.size
  have upr:=fun i=>World.cell?_of_block (w:=w) (a:=⟨g,i,none⟩) (hB.block g hg)
  have e3:=(upr _).trans D3.out
  have n0:(0:Int)≤(n:Int):=by omega
  clear own hB
  by_cases hlt:n<f+z
  ·obtain ⟨⟨xk,xt,xp,xs⟩,hx⟩:∃ x,t[n]?=some x:=⟨_,List.getElem?_eq_getElem (by omega)⟩
   obtain ⟨d0,d1,-,-⟩:=cells_of HC.out n _ hx
   obtain ⟨k1,k2,-,-⟩:=HF.out _ (List.mem_of_getElem? hx)
   simp only [] at k1 k2
   rw [← upr] at d0 d1
   have n1:(n:Int)<(t.length:Int):=by omega
   have n2:(n:Int)<(f:Int)+(z:Int):=by omega
   obtain ⟨fl,hfl⟩:∃ fl,flowV t n=fl:=⟨_,rfl⟩
   have HFL:=Lib.hid hfl
   have HFA:=Lib.hid (fun W (hW:ReadsN off W W.heap.size (.slice (some ⟨g,off,none⟩) t.length c) t)=>flow_at _ t off ht (fun x hx=>⟨(HF.out x hx).1,(HF.out x hx).2.2⟩) n (by omega) _ W hW fl hfl)
   have HVR:=Lib.hid ((HV0.out.below HB.out).mono hBs)
   have HND:=Lib.hid (show nodeSp t f n=if f<n∧xk=46∧fl=(f:Int) then textSp n xt xt.size else [] by unfold nodeSp;rw [hx,hfl])
   clear hx hfl upr
   by_cases k6:xk=46
   ·have t1:((xk:Int) != 46)=false:=by rw [bne,show ((xk:Int)==46)=true from beq_iff_eq.2 (by omega)];rfl
    by_cases kf:fl=(f:Int)
    ·have t2:(fl != (f:Int))=false:=by rw [bne,show (fl==(f:Int))=true from beq_iff_eq.2 kf];rfl
     have HN2:=Lib.hid (show nodeSp t f n=textSp n xt xt.size by rw [HND.out,if_pos ⟨by omega,k6,kf⟩])
     clear k6 kf
     go_wp2_with (go_at_call 106;refine (HFA.out _ HVR.out).mono ?_;rintro en w' ⟨rfl,rfl⟩)
     go_loopw [5,7] (fun u5 u7 wi=>SpI t f n xt w u5 u7 wi) (fun _ u7 _=>xt.size - (intOf u7).toNat)
     case atStart=>exact ⟨0,rfl,Nat.zero_le _,by simpa [textSp] using HOW.out,HB.out⟩
     case round =>
      obtain ⟨k,rfl,hk,own,hB⟩:=hrel
      have hBs2:=hB.size
      have hgi:g<wr.heap.size:=by omega
      have HB2:=Lib.hid hB
      have e1:wr.cell? ⟨g,off+n * 4+1,none⟩=some (.string xt):=(World.cell?_of_block (w:=w) (a:=⟨g,off+n * 4+1,none⟩) (hB.block g hg)).trans ((World.cell?_of_block (w:=w) (a:=⟨g,off+n * 4+1,none⟩) (HB.out.block g hg)).symm.trans d1)
      have hql:=HLN.out n
      have hqt:=textSp_len n xt k
      obtain ⟨q,hq⟩:∃ q,(spotsF t f n++textSp n xt k).length=q:=⟨_,rfl⟩
      have hq9:q≤100000000:=by rw [← hq,List.length_append];omega
      rw [hq] at own
      have HQ:=Lib.hid hq
      have k0:(0:Int)≤(k:Int):=by omega
      have H8:=Lib.hid own.lt
      clear hq hql hqt hB
      by_cases hkl:k<xt.size
      ·have E1:=Lx.bAt_get xt k hkl
       have hb256:=Lx.bAt_lt xt k
       obtain ⟨bb,hbb⟩:∃ bb,Lx.bAt xt k=bb:=⟨_,rfl⟩
       rw [hbb] at E1 hb256
       have HBB:=Lib.hid hbb
       clear hbb
       by_cases hw:Ka.whiteB (bb:Int)=true
       ·have HW:=Lib.hid hw
        rcases Nat.eq_zero_or_pos k with rfl | hk0
        ·have HS:=Lib.hid (show spotsF t f n++textSp n xt (0+1)=(spotsF t f n++textSp n xt 0)++[⟨32,n,0⟩] by
          rw [textSp_succ,List.append_assoc];congr 2;unfold spAt;rw [if_neg (by rw [HBB.out];show ¬ Ka.whiteB (bb:Int)=false;rw [HW.out];exact fun h=>Bool.noConfusion h),if_pos (.inl rfl)])
         clear hw
         go_wp2_with (first | (go_at_call 35;refine (Ka.rwhite_at bb true hb256 HW.out _).mono ?_;rintro en w' ⟨rfl,rfl⟩) | (at_builtin;refine wpList_append_lies _ rfl _ _ _ rfl w.heap.size 138 i0 _ 3 24 Tryz.underlying134 hi0 hz0 hz1 hz2 rfl (by omega) u5 q _ rfl (own.alloc _) ⟨wr.heap.size,0,none⟩ 1 1 [.int .u8 32,.int .i64 (n:Int),.int .i64 0] rfl rfl (World.news_of_block (cs:=#[.int .u8 32,.int .i64 (n:Int),.int .i64 0]) (t:=138) (fr:=(0,0)) (heap_alloc_new wr _)) (by simp [Value.oneCell']) (by omega) (by unfold maxLen;omega) (by omega) (by simp;omega) (wr.heap.size+1) (by simp) ?_;intro gg cap w5 hown5 hgrow5 hat5 hlt5;have hB5:=Lib.hid ((HB2.out.alloc hBs2 _).grown hgrow5 (by simp;omega) (fun j ej=>(H8.out j ej).1));replace hown5:=Lib.hid hown5;clear hgrow5 hat5 hlt5))
         go_roundw
         case rel =>
          refine ⟨0+1,by go_num,by omega,?_,hB5.out⟩
          rw [HS.out,List.length_append,HQ.out,Ba.rows_snoc]
          exact hown5.out
         case measure=>simp [intOf];omega
        ·have hp1:k - 1<xt.size:=by omega
         have E2:=Lx.bAt_get xt (k - 1) hp1
         have h256:=Lx.bAt_lt xt (k - 1)
         obtain ⟨b2,hb2⟩:∃ b2,Lx.bAt xt (k - 1)=b2:=⟨_,rfl⟩
         rw [hb2] at E2 h256
         have t3:((k:Int)==0)=false:=beq_eq_false_iff_ne.2 (by omega)
         obtain ⟨j,hj⟩:∃ j,k - 1=j:=⟨_,rfl⟩
         have i1:(k:Int) - 1=(j:Int):=by omega
         have i2:IntKind.i64.wrap (j:Int)=(j:Int):=IntWalk.i64_in _ ⟨by omega,by omega⟩
         have jj0:(0:Int)≤(j:Int):=by omega
         have jj1:j<xt.size:=by omega
         have E3:(xt[j]'jj1).toNat=b2:=by subst hj;exact E2
         have HB2B:=Lib.hid hb2
         clear E2 hj hb2
         by_cases hw2:Ka.whiteB (b2:Int)=true
         ·have HW2:=Lib.hid hw2
          have HS:=Lib.hid (show spotsF t f n++textSp n xt (k+1)=spotsF t f n++textSp n xt k by
           rw [textSp_succ];congr 1
           have:spAt n xt k=[]:=by
            unfold spAt
            rw [if_neg (by rw [HBB.out];show ¬ Ka.whiteB (bb:Int)=false;rw [HW.out];exact fun h=>Bool.noConfusion h),if_neg]
            rintro (h | h)
            ·omega
            ·rw [HB2B.out] at h
             rw [show Lx.white b2=true from HW2.out] at h;cases h
           rw [this,List.append_nil])
          clear hw hw2
          go_wp2_with (first | (go_at_call 35;first | (refine (Ka.rwhite_at bb true hb256 HW.out _).mono ?_;rintro en w' ⟨rfl,rfl⟩) | (refine (Ka.rwhite_at b2 true h256 HW2.out _).mono ?_;rintro en w' ⟨rfl,rfl⟩)))
          go_roundw
          case rel=>exact ⟨k+1,by go_num,by omega,by rw [HS.out,HQ.out];exact own,HB2.out⟩
          case measure=>simp [intOf];omega
         ·have HW2:=Lib.hid (show Ka.whiteB (b2:Int)=false by simpa using hw2)
          have HS:=Lib.hid (show spotsF t f n++textSp n xt (k+1)=(spotsF t f n++textSp n xt k)++[⟨32,n,k⟩] by
           rw [textSp_succ,List.append_assoc];congr 2;unfold spAt;rw [if_neg (by rw [HBB.out];show ¬ Ka.whiteB (bb:Int)=false;rw [HW.out];exact fun h=>Bool.noConfusion h),if_pos (.inr (by rw [HB2B.out];exact HW2.out))])
          clear hw hw2
          go_wp2_with (first | (go_at_call 35;first | (refine (Ka.rwhite_at bb true hb256 HW.out _).mono ?_;rintro en w' ⟨rfl,rfl⟩) | (refine (Ka.rwhite_at b2 false h256 HW2.out _).mono ?_;rintro en w' ⟨rfl,rfl⟩)) | (at_builtin;refine wpList_append_lies _ rfl _ _ _ rfl w.heap.size 138 i0 _ 3 24 Tryz.underlying134 hi0 hz0 hz1 hz2 rfl (by omega) u5 q _ rfl (own.alloc _) ⟨wr.heap.size,0,none⟩ 1 1 [.int .u8 32,.int .i64 (n:Int),.int .i64 (k:Int)] rfl rfl (World.news_of_block (cs:=#[.int .u8 32,.int .i64 (n:Int),.int .i64 (k:Int)]) (t:=138) (fr:=(0,0)) (heap_alloc_new wr _)) (by simp [Value.oneCell']) (by omega) (by unfold maxLen;omega) (by omega) (by simp;omega) (wr.heap.size+1) (by simp) ?_;intro gg cap w5 hown5 hgrow5 hat5 hlt5;have hB5:=Lib.hid ((HB2.out.alloc hBs2 _).grown hgrow5 (by simp;omega) (fun j ej=>(H8.out j ej).1));replace hown5:=Lib.hid hown5;clear hgrow5 hat5 hlt5))
          go_roundw
          case rel =>
           refine ⟨k+1,by go_num,by omega,?_,hB5.out⟩
           rw [HS.out,List.length_append,HQ.out,Ba.rows_snoc]
           exact hown5.out
          case measure=>simp [intOf];omega
       ·have HW:=Lib.hid (show Ka.whiteB (bb:Int)=false by simpa using hw)
        have HS:=Lib.hid (show spotsF t f n++textSp n xt (k+1)=(spotsF t f n++textSp n xt k)++[⟨bb,n,k⟩] by
         rw [textSp_succ,List.append_assoc];congr 2;unfold spAt;rw [HBB.out,if_pos (show Lx.white bb=false from HW.out)])
        clear hw
        go_wp2_with (first | (go_at_call 35;refine (Ka.rwhite_at bb false hb256 HW.out _).mono ?_;rintro en w' ⟨rfl,rfl⟩) | (at_builtin;refine wpList_append_lies _ rfl _ _ _ rfl w.heap.size 138 i0 _ 3 24 Tryz.underlying134 hi0 hz0 hz1 hz2 rfl (by omega) u5 q _ rfl (own.alloc _) ⟨wr.heap.size,0,none⟩ 1 1 [.int .u8 (bb:Int),.int .i64 (n:Int),.int .i64 (k:Int)] rfl rfl (World.news_of_block (cs:=#[.int .u8 (bb:Int),.int .i64 (n:Int),.int .i64 (k:Int)]) (t:=138) (fr:=(0,0)) (heap_alloc_new wr _)) (by simp [Value.oneCell']) (by omega) (by unfold maxLen;omega) (by omega) (by simp;omega) (wr.heap.size+1) (by simp) ?_;intro gg cap w5 hown5 hgrow5 hat5 hlt5;have hB5:=Lib.hid ((HB2.out.alloc hBs2 _).grown hgrow5 (by simp;omega) (fun j ej=>(H8.out j ej).1));replace hown5:=Lib.hid hown5;clear hgrow5 hat5 hlt5))
        go_roundw
        case rel =>
         refine ⟨k+1,by go_num,by omega,?_,hB5.out⟩
         rw [HS.out,List.length_append,HQ.out,Ba.rows_snoc]
         exact hown5.out
        case measure=>simp [intOf];omega
      ·obtain rfl:k=xt.size:=by omega
       have HS:=Lib.hid (show spotsF t f (n+1)=spotsF t f n++textSp n xt xt.size by rw [spotsF_succ,HN2.out])
       go_wp2
       go_roundw
       case rel=>exact ⟨n+1,by go_num,by omega,by omega,by rw [HS.out,HQ.out];exact own,HB2.out⟩
       case measure=>simp [intOf];omega
    ·have t2:(fl != (f:Int))=true:=by rw [bne,show (fl==(f:Int))=false from beq_eq_false_iff_ne.2 kf];rfl
     have HS:=Lib.hid (show spotsF t f (n+1)=spotsF t f n by rw [spotsF_succ,HND.out,if_neg (fun h=>kf h.2.2),List.append_nil])
     clear k6 kf
     go_wp2_with (go_at_call 106;refine (HFA.out _ HVR.out).mono ?_;rintro en w' ⟨rfl,rfl⟩)
     go_roundw
     case rel=>exact ⟨n+1,by go_num,by omega,by omega,by rw [HS.out];exact HOW.out,HB.out⟩
     case measure=>simp [intOf];omega
   ·have t1:((xk:Int) != 46)=true:=by rw [bne,show ((xk:Int)==46)=false from beq_eq_false_iff_ne.2 (by omega)];rfl
    have HS:=Lib.hid (show spotsF t f (n+1)=spotsF t f n by rw [spotsF_succ,HND.out,if_neg (fun h=>k6 h.2.1),List.append_nil])
    clear k6
    go_wp2
    go_roundw
    case rel=>exact ⟨n+1,by go_num,by omega,by omega,by rw [HS.out];exact HOW.out,HB.out⟩
    case measure=>simp [intOf];omega
  ·obtain rfl:n=f+z:=by omega
   clear upr
   have HR:=Lib.hid (show SpotsTo t f w (.returned u5) wr from ⟨u5,rfl,by rw [HSV.out];exact HOW.out,HB.out⟩)
   go_wp2
   go_ret
   exact HR.out
end Go.Proofs.YtmldpkigfhoalaaGreatDoor.Nu
namespace Go.Proofs.YtmldpkigfhoalaaGreatDoor.Nu
open Go.RowKit Tr
def blackS (x:Sp):Bool:=decide (x.c≠32)
def lastC (l:List Sp):Nat:=(l.getLast?.map Sp.c).getD 32
def keepAt (l:List Sp) (n:Nat) (out:List Sp):List Sp :=
 match l[n]? with
 | some x=>if x.c≠32 then [x] else if lastC out≠32∧(l.drop n).any blackS=true then [x] else []
 | none=>[]
def keptN (l:List Sp):Nat→List Sp
 | 0=>[]
 | n+1=>keptN l n++keepAt l n (keptN l n)
def keptV (l:List Sp):List Sp:=keptN l l.length
theorem keptN_len (l:List Sp):∀ n,(keptN l n).length≤n
 | 0=>by simp [keptN]
 | n+1=>by
  unfold keptN
  rw [List.length_append]
  have h1:=keptN_len l n
  have h2:(keepAt l n (keptN l n)).length≤1:=by
   unfold keepAt
   repeat' split
   all_goals simp
  omega
theorem keptN_black {l:List Sp} {n:Nat} {x:Sp} (hx:l[n]?=some x) (h:x.c≠32):keptN l (n+1)=keptN l n++[x]:=by
 rw [keptN];unfold keepAt;rw [hx];simp only [];rw [if_pos h]
theorem keptN_space {l:List Sp} {n:Nat} {x:Sp} (hx:l[n]?=some x) (h:x.c=32) (h1:lastC (keptN l n)≠32) (h2:(l.drop n).any blackS=true):keptN l (n+1)=keptN l n++[x]:=by
 rw [keptN];unfold keepAt;rw [hx];simp only [];rw [if_neg (by omega),if_pos ⟨h1,h2⟩]
theorem keptN_gone {l:List Sp} {n:Nat} {x:Sp} (hx:l[n]?=some x) (h:x.c=32) (h1:¬ (lastC (keptN l n)≠32∧(l.drop n).any blackS=true)):keptN l (n+1)=keptN l n:=by
 rw [keptN];unfold keepAt;rw [hx];simp only [];rw [if_neg (by omega),if_neg h1,List.append_nil]
def blackN (l:List Sp) (i k:Nat):Nat:=(((l.take k).drop i).filter blackS).length
theorem blackN_first (l:List Sp) (i:Nat):blackN l i i=0:=by
 unfold blackN;rw [List.drop_of_length_le (by rw [List.length_take];omega)];rfl
theorem blackN_succ {l:List Sp} {i k:Nat} {x:Sp} (h:i≤k) (hx:l[k]?=some x):blackN l i (k+1)=blackN l i k+if x.c≠32 then 1 else 0:=by
 have hk:=(List.getElem?_eq_some_iff.1 hx).1
 unfold blackN
 rw [List.take_add_one,hx,List.drop_append_of_le_length (by rw [List.length_take];omega),List.filter_append,List.length_append]
 by_cases hc:x.c=32<;>simp [blackS,hc]
theorem blackN_le (l:List Sp) (i k:Nat):blackN l i k≤k:=by
 unfold blackN
 refine Nat.le_trans (List.length_filter_le _ _) ?_
 rw [List.length_drop,List.length_take];omega
theorem blackN_any (l:List Sp) (i:Nat):0<blackN l i l.length↔(l.drop i).any blackS=true:=by
 unfold blackN
 rw [List.take_length,List.any_eq_true,List.length_pos_iff_exists_mem]
 constructor
 ·rintro ⟨x,hx⟩
  rw [List.mem_filter] at hx
  exact ⟨x,hx.1,hx.2⟩
 ·rintro ⟨x,h1,h2⟩
  exact ⟨x,List.mem_filter.2 ⟨h1,h2⟩⟩
theorem lastC_at {l:List Sp} {r:Nat} {x:Sp} (h:l.length=r+1) (hx:l[r]?=some x):lastC l=x.c:=by
 unfold lastC
 rw [List.getLast?_eq_getElem?,h,Nat.add_sub_cancel,hx];rfl
abbrev ReadsS (w:World) (B:Nat) (v:Value) (l:List Sp):Prop:=Ba.Reads cS 3 0 w B v l
def KeptTo (l:List Sp) (w:World) (e:Ending) (w':World):Prop:=∃ v,e=.returned v∧w'.ownsRow w.heap.size 138 3 v (keptV l).length (Ba.rows cS (keptV l))∧Below w.heap.size w w'
def KpO (l:List Sp) (w:World) (u3 u4:Value) (wr:World):Prop:=∃ n:Nat,u4=.int .i64 n∧n≤l.length∧wr.ownsRow w.heap.size 138 3 u3 (keptN l n).length (Ba.rows cS (keptN l n))∧Below w.heap.size w wr
set_option maxRecDepth 100000 in
set_option maxHeartbeats 8000000 in
theorem kept_at (v:Value) (l:List Sp) (hl:l.length≤100000000) (w:World) (hv:ReadsS w w.heap.size v l) :
  Calls Tryz.prog 85 #[v] w (KeptTo l w):=by
 obtain ⟨i0,hi0,hz0,hz1,hz2⟩:=info_parts infoSpot
 obtain ⟨A,c,rfl,hA⟩:=hv
 have HA:=Lib.hid hA
 clear hA
 go_enter Tryz.func85,Tryz.ntmps85
 go_wp2
 go_loopw [3,4] (fun u3 u4 wr=>KpO l w u3 u4 wr) (fun _ u4 _=>l.length - (intOf u4).toNat)
 case atStart=>exact ⟨0,rfl,Nat.zero_le _,World.ownsRow_nil _ _ _ _,Below.refl _ _⟩
 case round =>
  obtain ⟨n,rfl,hn,own,hB⟩:=hrel
  have HB:=Lib.hid hB
  have hBs:=hB.size
  have hq9:=keptN_len l n
  obtain ⟨q,hq⟩:∃ q,(keptN l n).length=q:=⟨_,rfl⟩
  rw [hq] at own hq9
  have HQ:=Lib.hid hq
  have H8:=Lib.hid own.lt
  obtain ⟨Ao,co,hvo⟩:∃ A c,u3=.slice A q c:=by
   rcases own.2 with ⟨h',h0⟩ | ⟨g',c',_,h',_⟩
   ·exact ⟨none,0,by rw [h',h0]⟩
   ·exact ⟨_,_,h'⟩
  subst hvo
  have n0:(0:Int)≤(n:Int):=by omega
  by_cases hlt:n<l.length
  ·obtain ⟨g,rfl,hg,hcell⟩:=HA.out (by omega)
   obtain ⟨⟨xc,xn,xp⟩,hx⟩:∃ x,l[n]?=some x:=⟨_,List.getElem?_eq_getElem hlt⟩
   have d0:=hcell n _ hx 0 _ rfl
   have d1:=hcell n _ hx 1 _ rfl
   have d2:=hcell n _ hx 2 _ rfl
   have upr:=fun i=>World.cell?_of_block (w:=w) (a:=⟨g,i,none⟩) (hB.block g hg)
   rw [← upr] at d0 d1 d2
   simp only [Nat.zero_add,Nat.add_zero] at d0 d1 d2
   have n1:(n:Int)<(l.length:Int):=by omega
   have HX:=Lib.hid hx
   have HC:=Lib.hid (fun k x hx=>(upr _).trans (hcell k x hx 0 _ rfl))
   clear hq hcell hx upr hB
   by_cases hc:xc=32
   ·have t1:((xc:Int) != 32)=false:=by rw [bne,show ((xc:Int)==32)=true from beq_iff_eq.2 (by omega)];rfl
    have HCC:=Lib.hid hc
    clear hc
    go_wp2
    go_loop [5,6] (fun u5 u6=>∃ k b:Nat,u6=.int .i64 k∧u5=.int .i64 b∧n≤k∧k≤l.length∧blackN l n k=b) (fun _ u6=>l.length - (intOf u6).toNat)
    case atStart=>exact ⟨n,0,rfl,rfl,Nat.le_refl _,by omega,blackN_first l n⟩
    case round =>
     obtain ⟨k,b,rfl,rfl,hk1,hk2,hb⟩:=hrel
     have hbl:=blackN_le l n k
     rw [hb] at hbl
     have HBN:=Lib.hid hb
     have k0:(0:Int)≤(k:Int):=by omega
     clear hb
     by_cases hkl:k<l.length
     ·obtain ⟨⟨yc,yn,yp⟩,hy⟩:∃ x,l[k]?=some x:=⟨_,List.getElem?_eq_getElem hkl⟩
      have e0:=HC.out k _ hy
      simp only [Nat.zero_add,Nat.add_zero] at e0
      have HY:=Lib.hid hy
      have k1:(k:Int)<(l.length:Int):=by omega
      clear hy
      by_cases hc2:yc=32
      ·have t2:((yc:Int) != 32)=false:=by rw [bne,show ((yc:Int)==32)=true from beq_iff_eq.2 (by omega)];rfl
       have HS:=Lib.hid (show blackN l n (k+1)=b by rw [blackN_succ hk1 HY.out,HBN.out,if_neg (by simp [hc2])];rfl)
       clear hc2
       go_wp2
       go_round
       case rel=>exact ⟨k+1,b,by go_num,rfl,by omega,by omega,HS.out⟩
       case measure=>simp [intOf];omega
      ·have t2:((yc:Int) != 32)=true:=by rw [bne,show ((yc:Int)==32)=false from beq_eq_false_iff_ne.2 (by omega)];rfl
       have HS:=Lib.hid (show blackN l n (k+1)=b+1 by rw [blackN_succ hk1 HY.out,HBN.out,if_pos hc2])
       clear hc2
       go_wp2
       go_round
       case rel=>exact ⟨k+1,b+1,by go_num,by go_num,by omega,by omega,HS.out⟩
       case measure=>simp [intOf];omega
     ·obtain rfl:k=l.length:=by omega
      have HBA:=Lib.hid (blackN_any l n)
      rcases Nat.eq_zero_or_pos q with rfl | hq0
      ·have HS:=Lib.hid (show keptN l (n+1)=keptN l n from keptN_gone HX.out HCC.out (fun h=>by
        have:keptN l n=[]:=List.length_eq_zero_iff.1 HQ.out
        rw [this] at h;exact h.1 rfl))
       go_wp2
       go_roundw
       case rel=>exact ⟨n+1,by go_num,by omega,by rw [HS.out,HQ.out];exact own,HB.out⟩
       case measure=>simp [intOf];omega
      ·obtain ⟨r,rfl⟩:∃ r,q=r+1:=⟨q - 1,by omega⟩
       obtain ⟨go',co',he,-,-⟩:=own.form (by omega)
       cases he
       obtain ⟨⟨zc,zn,zp⟩,hz⟩:∃ x,(keptN l n)[r]?=some x:=⟨_,List.getElem?_eq_getElem (by rw [HQ.out];omega)⟩
       have y0:wr.cell? ⟨go',r * 3,none⟩=some (.int .u8 (zc:Int)):=by
        have h1:=own.cellAt (r * 3+0) (by omega)
        rw [Ba.rows_at cS cS_len _ _ _ hz 0 (by omega)] at h1
        exact h1
       have HLC:=Lib.hid (lastC_at HQ.out hz)
       have r0:(0:Int)≤(r:Int):=by omega
       have r1:(r:Int)<(r:Int)+1:=by omega
       clear hz
       by_cases hz2:zc=32
       ·have t3:((zc:Int) != 32)=false:=by rw [bne,show ((zc:Int)==32)=true from beq_iff_eq.2 (by omega)];rfl
        have HS:=Lib.hid (show keptN l (n+1)=keptN l n from keptN_gone HX.out HCC.out (fun h=>h.1 (by rw [HLC.out];exact hz2)))
        clear hz2
        go_wp2
        go_roundw
        case rel=>exact ⟨n+1,by go_num,by omega,by rw [HS.out,HQ.out];exact own,HB.out⟩
        case measure=>simp [intOf];omega
       ·have t3:((zc:Int) != 32)=true:=by rw [bne,show ((zc:Int)==32)=false from beq_eq_false_iff_ne.2 (by omega)];rfl
        by_cases hb0:0<b
        ·have g1:decide ((0:Int)<(b:Int))=true:=decide_eq_true (by omega)
         have HS:=Lib.hid (show keptN l (n+1)=keptN l n++[⟨xc,xn,xp⟩] from keptN_space HX.out HCC.out (by rw [HLC.out];exact hz2) (HBA.out.1 (by rw [HBN.out];exact hb0)))
         clear hz2
         go_wp2_with (first | (at_builtin;refine wpList_append_lies _ rfl _ _ _ rfl w.heap.size 138 i0 _ 3 24 Tryz.underlying134 hi0 hz0 hz1 hz2 rfl (by omega) (.slice (some ⟨go',0,none⟩) (r+1) co) (r+1) _ rfl (own.alloc _) ⟨wr.heap.size,0,none⟩ 1 1 [.int .u8 (xc:Int),.int .i64 (xn:Int),.int .i64 (xp:Int)] rfl rfl (World.news_of_block (cs:=#[.int .u8 (xc:Int),.int .i64 (xn:Int),.int .i64 (xp:Int)]) (t:=138) (fr:=(0,0)) (heap_alloc_new wr _)) (by simp [Value.oneCell']) (by omega) (by unfold maxLen;omega) (by omega) (by simp;omega) (wr.heap.size+1) (by simp) ?_;intro gg cap w5 hown5 hgrow5 hat5 hlt5;have hB5:=Lib.hid ((HB.out.alloc hBs _).grown hgrow5 (by simp;omega) (fun j ej=>(H8.out j ej).1));replace hown5:=Lib.hid hown5;clear hgrow5 hat5 hlt5))
         go_roundw
         case rel =>
          refine ⟨n+1,by go_num,by omega,?_,hB5.out⟩
          rw [HS.out,List.length_append,HQ.out,Ba.rows_snoc]
          exact hown5.out
         case measure=>simp [intOf];omega
        ·have g1:decide ((0:Int)<(b:Int))=false:=decide_eq_false (by omega)
         have HS:=Lib.hid (show keptN l (n+1)=keptN l n from keptN_gone HX.out HCC.out (fun h=>hb0 (by have:=HBA.out.2 h.2;rw [HBN.out] at this;exact this)))
         clear hz2
         go_wp2
         go_roundw
         case rel=>exact ⟨n+1,by go_num,by omega,by rw [HS.out,HQ.out];exact own,HB.out⟩
         case measure=>simp [intOf];omega
   ·have t1:((xc:Int) != 32)=true:=by rw [bne,show ((xc:Int)==32)=false from beq_eq_false_iff_ne.2 (by omega)];rfl
    have HS:=Lib.hid (show keptN l (n+1)=keptN l n++[⟨xc,xn,xp⟩] from keptN_black HX.out hc)
    clear hc
    go_wp2_with (first | (at_builtin;refine wpList_append_lies _ rfl _ _ _ rfl w.heap.size 138 i0 _ 3 24 Tryz.underlying134 hi0 hz0 hz1 hz2 rfl (by omega) (.slice Ao q co) q _ rfl (own.alloc _) ⟨wr.heap.size,0,none⟩ 1 1 [.int .u8 (xc:Int),.int .i64 (xn:Int),.int .i64 (xp:Int)] rfl rfl (World.news_of_block (cs:=#[.int .u8 (xc:Int),.int .i64 (xn:Int),.int .i64 (xp:Int)]) (t:=138) (fr:=(0,0)) (heap_alloc_new wr _)) (by simp [Value.oneCell']) (by omega) (by unfold maxLen;omega) (by omega) (by simp;omega) (wr.heap.size+1) (by simp) ?_;intro gg cap w5 hown5 hgrow5 hat5 hlt5;have hB5:=Lib.hid ((HB.out.alloc hBs _).grown hgrow5 (by simp;omega) (fun j ej=>(H8.out j ej).1));replace hown5:=Lib.hid hown5;clear hgrow5 hat5 hlt5))
    go_roundw
    case rel =>
     refine ⟨n+1,by go_num,by omega,?_,hB5.out⟩
     rw [HS.out,List.length_append,HQ.out,Ba.rows_snoc]
     exact hown5.out
    case measure=>simp [intOf];omega
  ·obtain rfl:n=l.length:=by omega
   have HR:=Lib.hid (show KeptTo l w (.returned (.slice Ao q co)) wr from ⟨_,rfl,by show wr.ownsRow _ _ _ _ (keptN l l.length).length _;rw [hq];exact own,hB⟩)
   clear hB hq
   go_wp2
   go_ret
   exact HR.out
end Go.Proofs.YtmldpkigfhoalaaGreatDoor.Nu
namespace Go.Proofs.YtmldpkigfhoalaaGreatDoor.Nu
open Go.RowKit Tr
theorem nu_some {α:Type} {l:List α} {i:Nat} (hi:i<l.length):∃ b,l[i]?=some b:=⟨_,List.getElem?_eq_getElem hi⟩
theorem nu_modify {α:Type} {l:List α} {i:Nat} {b:α} (hb:l[i]?=some b) (f:α→α):l.set i (f b)=l.modify i f:=by
 apply List.ext_getElem?
 intro j
 rw [List.getElem?_set,List.getElem?_modify]
 by_cases h:i=j
 ·subst h
  have:=(List.getElem?_eq_some_iff.1 hb).1
  rw [if_pos rfl,if_pos this,hb];simp
 ·rw [if_neg h];simp only [if_neg h];cases l[j]?<;>rfl
def noText (x:Nd):Nd:={ x with text:=emptyS }
def blankN (t:List Nd):Nat→List Nd
 | 0=>t
 | n+1=>match t[n]? with
  | some x=>if x.kind=46 then (blankN t n).modify n noText else blankN t n
  | none=>blankN t n
def placeAt (t:List Nd) (i:Nat):Int:=match t[i]? with | some x=>x.place | none=>0
def putSp (t:List Nd) (s:Sp) (x:Nd):Nd:={ x with text:=x.text++oneS s.c,place:=if x.text.size=0 then wrap64 (placeAt t s.node+(s.place:Int)) else x.place }
def addSp (t:List Nd) (out:List Nd) (s:Sp):List Nd:=out.modify s.node (putSp t s)
def flowSp (t:List Nd) (i:Nat):List Sp:=keptV (spotsV t i)
def textsN (t:List Nd):Nat→List Nd
 | 0=>blankN t t.length
 | n+1=>match t[n]? with
  | some x=>if flowedK x.kind=true then (flowSp t n).foldl (addSp t) (textsN t n) else textsN t n
  | none=>textsN t n
def textsV (t:List Nd):List Nd:=textsN t t.length
theorem blankN_len (t:List Nd):∀ n,(blankN t n).length=t.length
 | 0=>rfl
 | n+1=>by
  unfold blankN
  cases t[n]? with
  | none=>exact blankN_len t n
  | some x=>simp only [];split<;>simp [blankN_len t n]
theorem addSp_len (t:List Nd):∀ (l:List Sp) (out:List Nd),(l.foldl (addSp t) out).length=out.length
 | [],_=>rfl
 | s::l,out=>by rw [List.foldl_cons,addSp_len t l];simp [addSp]
theorem textsN_len (t:List Nd):∀ n,(textsN t n).length=t.length
 | 0=>blankN_len t _
 | n+1=>by
  unfold textsN
  cases t[n]? with
  | none=>exact textsN_len t n
  | some x =>
   simp only []
   split
   ·rw [addSp_len];exact textsN_len t n
   ·exact textsN_len t n
theorem own_cells {w:World} {N g k c i:Nat} {l:List Nd} (hk:l.length=k) (own:w.ownsRow N 33 4 (.slice (some ⟨g,0,none⟩) k c) k (Ba.rows cN l)) {x:Nd} (hx:l[i]?=some x) :
  w.cell? ⟨g,i * 4,none⟩=some (.int .u8 (x.kind:Int))∧w.cell? ⟨g,i * 4+1,none⟩=some (.string x.text)∧w.cell? ⟨g,i * 4+2,none⟩=some (.int .i64 x.place)∧w.cell? ⟨g,i * 4+3,none⟩=some (.int .i64 x.size):=by
 have hi:=(List.getElem?_eq_some_iff.1 hx).1
 have key:∀ j,j<4→w.cell? ⟨g,i * 4+j,none⟩=(cN x)[j]?:=fun j hj=>by
  rw [own.cellAt _ (by omega),Ba.rows_at cN cN_len _ _ _ hx j hj]
 exact ⟨key 0 (by omega),key 1 (by omega),key 2 (by omega),key 3 (by omega)⟩
theorem spAt_in {i:Nat} {s:ByteArray} {k:Nat} {x:Sp} (h:x ∈ spAt i s k):x.c<256∧x.node=i∧x.place=k:=by
 unfold spAt at h
 split at h
 ·rw [List.mem_singleton] at h;subst h;exact ⟨Lx.bAt_lt _ _,rfl,rfl⟩
 ·split at h
  ·rw [List.mem_singleton] at h;subst h;exact ⟨by show (32:Nat)<256;omega,rfl,rfl⟩
  ·cases h
theorem nodeSp_in {t:List Nd} {f i:Nat} {x:Sp} (h:x ∈ nodeSp t f i):x.c<256∧x.node=i∧i<t.length∧∃ y,t[i]?=some y∧x.place<y.text.size:=by
 unfold nodeSp at h
 cases hy:t[i]? with
 | none=>rw [hy] at h;cases h
 | some y =>
  rw [hy] at h
  simp only [] at h
  split at h
  ·unfold textSp at h
   obtain ⟨k,hk,hx⟩:=List.mem_flatMap.1 h
   obtain ⟨a,b,c⟩:=spAt_in hx
   exact ⟨a,b,(List.getElem?_eq_some_iff.1 hy).1,y,rfl,by rw [c];exact List.mem_range.1 hk⟩
  ·cases h
theorem spotsV_in {t:List Nd} {f:Nat} {x:Sp} (h:x ∈ spotsV t f):x.c<256∧x.node<t.length∧∃ y,t[x.node]?=some y∧x.place<y.text.size:=by
 unfold spotsV at h
 cases hy:t[f]? with
 | none=>rw [hy] at h;cases h
 | some y =>
  rw [hy] at h
  obtain ⟨i,-,hx⟩:=List.mem_flatMap.1 h
  obtain ⟨a,b,c,d⟩:=nodeSp_in hx
  exact ⟨a,by omega,by rw [b];exact d⟩
theorem keepAt_in {l:List Sp} {n:Nat} {out:List Sp} {x:Sp} (h:x ∈ keepAt l n out):x ∈ l:=by
 unfold keepAt at h
 cases hy:l[n]? with
 | none=>rw [hy] at h;cases h
 | some y =>
  rw [hy] at h
  simp only [] at h
  have hm:=List.mem_of_getElem? hy
  split at h
  ·rw [List.mem_singleton] at h;subst h;exact hm
  ·split at h
   ·rw [List.mem_singleton] at h;subst h;exact hm
   ·cases h
theorem keptN_in {l:List Sp} {x:Sp}:∀ n,x ∈ keptN l n→x ∈ l
 | 0,h=>by cases h
 | n+1,h=>by
  rw [keptN] at h
  rcases List.mem_append.1 h with h | h
  ·exact keptN_in n h
  ·exact keepAt_in h
theorem flowSp_in {t:List Nd} {f:Nat} {x:Sp} (h:x ∈ flowSp t f):x.c<256∧x.node<t.length∧∃ y,t[x.node]?=some y∧x.place<y.text.size:=spotsV_in (keptN_in _ h)
end Go.Proofs.YtmldpkigfhoalaaGreatDoor.Nu
namespace Go.Proofs.YtmldpkigfhoalaaGreatDoor.Nu
open Go.RowKit Tr
theorem own_put {w:World} {N g k c i:Nat} {l:List Nd} (own:w.ownsRow N 33 4 (.slice (some ⟨g,0,none⟩) k c) k (Ba.rows cN l)) {x x':Nd} (hx:l[i]?=some x) (j:Nat) (hj:j<4) (v:Value) (hf:(cN x).set j v=cN x') (hNg:N≤g) :
  (w.setCell ⟨g,i * 4+j,none⟩ v).ownsRow N 33 4 (.slice (some ⟨g,0,none⟩) k c) k (Ba.rows cN (l.set i x'))∧Below N w (w.setCell ⟨g,i * 4+j,none⟩ v):=by
 refine ⟨?_,(Below.refl N w).setCell (p:=⟨g,i * 4+j,none⟩) hNg _⟩
 rw [← Ba.rows_set cN cN_len l i x x' hx j v hj hf]
 exact (own.stored _ _).1
theorem addSp_bound (t:List Nd):∀ (l:List Sp) (out:List Nd) (B:Nat),(∀ y ∈ out,y.text.size≤B)→∀ y ∈ l.foldl (addSp t) out,y.text.size≤B+l.length
 | [],_,_,h=>fun y hy=>by simpa using h y hy
 | s::l,out,B,h=>fun y hy=>by
  rw [List.foldl_cons] at hy
  have:=addSp_bound t l (addSp t out s) (B+1) (fun z hz=>by
   obtain ⟨j,hj⟩:=List.mem_iff_getElem?.1 hz
   unfold addSp at hj
   rw [List.getElem?_modify] at hj
   obtain ⟨u,hu,he⟩:=Option.map_eq_some_iff.1 hj
   have hb:=h u (List.mem_of_getElem? hu)
   by_cases hjj:s.node=j
   ·rw [if_pos hjj] at he;subst he
    show (u.text++oneS s.c).size≤B+1
    rw [ByteArray.size_append,show (oneS s.c).size=1 from Lx.bytesOf_size _];omega
   ·rw [if_neg hjj] at he;subst he;show u.text.size≤B+1;omega) y hy
  rw [List.length_cons];omega
theorem blankN_bound {t:List Nd} {B:Nat} (h:∀ y ∈ t,y.text.size≤B):∀ n,∀ y ∈ blankN t n,y.text.size≤B
 | 0=>h
 | n+1=>fun y hy=>by
  unfold blankN at hy
  have ih:=blankN_bound h n
  cases hx:t[n]? with
  | none=>rw [hx] at hy;exact ih y hy
  | some x =>
   rw [hx] at hy
   simp only [] at hy
   split at hy
   ·obtain ⟨j,hj⟩:=List.mem_iff_getElem?.1 hy
    rw [List.getElem?_modify] at hj
    obtain ⟨u,hu,he⟩:=Option.map_eq_some_iff.1 hj
    have hb:=ih u (List.mem_of_getElem? hu)
    by_cases hjj:n=j
    ·rw [if_pos hjj] at he;subst he;show (0:Nat)≤B;omega
    ·rw [if_neg hjj] at he;subst he;exact hb
   ·exact ih y hy
def Sized (t:List Nd):Prop:=∀ (i:Nat) (x:Nd),t[i]?=some x→x.kind<256∧x.text.size≤9000∧∃ z:Nat,x.size=(z:Int)∧1≤z∧i+z≤t.length
theorem flowSp_len {t:List Nd} (h:Sized t) (f:Nat):(flowSp t f).length≤t.length * 9000:=by
 refine Nat.le_trans (keptN_len _ _) ?_
 unfold spotsV
 cases hy:t[f]? with
 | none=>simp
 | some y =>
  simp only []
  obtain ⟨-,-,z,hz,-,hfz⟩:=h f y hy
  have h1:=spotsF_len (fun x hx=>by obtain ⟨j,hj⟩:=List.mem_iff_getElem?.1 hx;exact (h j x hj).2.1) f (f+y.size.toNat)
  rw [hz,Int.toNat_natCast] at h1 ⊢
  exact Nat.le_trans h1 (Nat.mul_le_mul_right _ hfz)
theorem textsN_bound {t:List Nd} (h:Sized t) {K E:Nat} (hK:t.length * 9000≤K) (hE:9000≤E):∀ n,∀ y ∈ textsN t n,y.text.size≤E+n * K
 | 0=>fun y hy=>by
  have:=blankN_bound (t:=t) (B:=E) (fun x hx=>by obtain ⟨j,hj⟩:=List.mem_iff_getElem?.1 hx;exact Nat.le_trans (h j x hj).2.1 hE) t.length y hy
  rw [Nat.zero_mul];exact this
 | n+1=>fun y hy=>by
  have hm:(n+1) * K=n * K+K:=Nat.succ_mul n K
  rw [textsN] at hy
  have ih:=textsN_bound h hK hE n
  cases hx:t[n]? with
  | none=>rw [hx] at hy;have:=ih y hy;omega
  | some x =>
   rw [hx] at hy
   simp only [] at hy
   split at hy
   ·have h1:=addSp_bound t (flowSp t n) (textsN t n) (E+n * K) ih y hy
    have h2:=flowSp_len h n
    omega
   ·have:=ih y hy;omega
theorem fold_take {t:List Nd} {L:List Sp} {k:Nat} {s:Sp} (hs:L[k]?=some s) (out:List Nd):(L.take (k+1)).foldl (addSp t) out=addSp t ((L.take k).foldl (addSp t) out) s:=by
 rw [List.take_add_one,hs,Option.toList_some,List.foldl_append];rfl
def TextsTo (t:List Nd) (w:World) (e:Ending) (w':World):Prop:=∃ v,e=.returned v∧w'.ownsRow w.heap.size 33 4 v t.length (Ba.rows cN (textsV t))∧Below w.heap.size w w'
def TxR (w:World) (V:Value) (m:Nat) (out:List Nd) (wr:World):Prop:=wr.ownsRow w.heap.size 33 4 V m (Ba.rows cN out)∧Below w.heap.size w wr
def TxI (w:World) (go:Nat) (V:Value) (m:Nat) (t:List Nd) (L:List Sp) (out:List Nd) (w3:World) (u7:Value) (wi:World):Prop:=∃ k:Nat,u7=.int .i64 k∧k≤L.length∧TxR w V m ((L.take k).foldl (addSp t) out) wi∧(∀ b,b<w3.heap.size→b≠go→wi.heap[b]?=w3.heap[b]?)∧w3.heap.size≤wi.heap.size
def Tx17 (w:World) (go:Nat) (V:Value) (m:Nat) (out:List Nd) (w3 wx:World):Prop:=wx.ownsRow w.heap.size 33 4 V m (Ba.rows cN out)∧Below w.heap.size w wx∧(∀ b,b<w3.heap.size→b≠go→wx.heap[b]?=w3.heap[b]?)∧w3.heap.size≤wx.heap.size
theorem tx_end {w W w3:World} {go n cap:Nat} {out:List Nd} (own:W.ownsRow w.heap.size 33 4 (.slice (some ⟨go,0,none⟩) n cap) n (Ba.rows cN out)) (hB:Below w.heap.size w W) (hf:∀ b,b<w3.heap.size→b≠go→W.heap[b]?=w3.heap[b]?) (hs:w3.heap.size≤W.heap.size) (o:Obj) :
  TxR w (.slice (some ⟨go,0,none⟩) n cap) n out (W.alloc o).drew∧(∀ b,b<w3.heap.size→b≠go→(W.alloc o).drew.heap[b]?=w3.heap[b]?)∧w3.heap.size≤(W.alloc o).drew.heap.size :=
 ⟨⟨Lx.own_below own (Lx.below_drewN ((Below.refl _ _).alloc (Nat.le_refl _) _) 1),Lx.below_drewN (hB.alloc hB.size _) 1⟩,
  fun b hb hbg=>(Below.heap_alloc W o b (by omega)).trans (hf b hb hbg),Nat.le_trans hs (by show W.heap.size≤(W.alloc o).heap.size;simp)⟩
set_option maxRecDepth 100000 in
set_option maxHeartbeats 16000000 in
theorem texts_some (v:Value) (t:List Nd) (off:Nat) (ht:t.length≤9000) (h0:0<t.length) (hs:Sized t) (w:World) (hv:ReadsN off w w.heap.size v t) :
  Calls Tryz.prog 48 #[v] w (TextsTo t w):=by
 obtain ⟨i0,hi0,hz0,hz1,hz2⟩:=info_parts (show (Tryz.prog.info? 33).map (fun i=>(i.zero,i.size,i.bytes))=some (some (.agg #[.int .u8 0,.string { data:=#[] },.int .i64 0,.int .i64 0]),4,40) by kernel_rfl)
 have HV0:=Lib.hid hv
 obtain ⟨A,c,rfl,hA⟩:=hv
 obtain ⟨g,rfl,hg,hcell⟩:=hA h0
 have HS:=Lib.hid hs
 have HC:=Lib.hid hcell
 have HNEW:=Lib.hid (show ∀ j u,(Ba.rows cN t)[j]?=some u→(w.alloc (.cells #[] 33)).cell? ((⟨g,off,none⟩:Addr).add j)=some u from fun j u hu=>by
  have hj:j<(Ba.rows cN t).length:=(List.getElem?_eq_some_iff.1 hu).1
  rw [Ba.rows_length cN cN_len] at hj
  have e:=Ba.rows_at cN cN_len t (j / 4) _ (List.getElem?_eq_getElem (by omega)) (j % 4) (Nat.mod_lt _ (by omega))
  have e2:j / 4 * 4+j % 4=j:=by omega
  rw [e2,hu] at e
  have:=hcell (j / 4) _ (List.getElem?_eq_getElem (by omega)) (j % 4) u e.symm
  rw [e2] at this
  have e3:(⟨g,off,none⟩:Addr).add j=⟨g,off+j,none⟩:=by unfold Addr.add;split<;>simp_all
  rw [e3]
  exact (World.cell?_of_block (w:=w) (a:=⟨g,off+j,none⟩) (Below.heap_alloc w _ g hg)).trans this)
 have HONE:=Lib.hid (show ∀ u ∈ Ba.rows cN t,u.oneCell'=true from fun u hu=>by
  unfold Ba.rows at hu
  rw [List.mem_flatMap] at hu
  obtain ⟨x,_,hx⟩:=hu
  simp [cN] at hx
  rcases hx with rfl | rfl | rfl | rfl<;>rfl)
 obtain ⟨nt,hnt⟩:∃ nt,t.length=nt:=⟨_,rfl⟩
 have HNT:=Lib.hid hnt
 rw [hnt] at ht h0 ⊢
 clear hs hcell hA hnt
 go_enter Tryz.func48,Tryz.ntmps48
 go_wp2_with (at_builtin;refine wpList_append_lies _ rfl _ _ _ rfl w.heap.size 33 i0 _ 4 40 Tryz.underlying22 hi0 hz0 hz1 hz2 rfl (by omega) (.slice (some ⟨w.heap.size,0,none⟩) 0 0) 0 [] rfl (World.ownsRow_lit w #[] 0 (Nat.le_refl _) (by decide) rfl) ⟨g,off,none⟩ nt c (Ba.rows cN t) rfl (by rw [Ba.rows_length cN cN_len,HNT.out]) HNEW.out HONE.out h0 (by unfold maxLen;omega) (by omega) (by simp) (w.heap.size+1) (by simp) ?_;intro go cap w1 hown hgrow hat hlt)
 have hB1:Below w.heap.size w w1:=((Below.refl _ w).alloc (Nat.le_refl _) _).grown hgrow (by simp) (fun j ej=>by simp [Value.ownBlock] at ej;omega)
 have HGO:=Lib.hid (show w.heap.size≤go by
  rcases hat with h | h
  ·have h':w.heap.size=go:=by simpa [Value.ownBlock] using h
   omega
  ·omega)
 have hown':w1.ownsRow w.heap.size 33 4 (.slice (some ⟨go,0,none⟩) nt cap) nt (Ba.rows cN t):=by simpa using hown
 have HT1:=Lib.hid (show TxR w (.slice (some ⟨go,0,none⟩) nt cap) nt t w1 from ⟨hown',hB1⟩)
 clear hown hown' hgrow hat hlt hB1
 go_loopw [4] (fun u4 wr=>∃ n:Nat,u4=.int .i64 n∧n≤nt∧TxR w (.slice (some ⟨go,0,none⟩) nt cap) nt (blankN t n) wr) (fun u4 _=>nt - (intOf u4).toNat)
 case atStart=>exact ⟨0,rfl,Nat.zero_le _,HT1.out⟩
 case round =>
  obtain ⟨n,rfl,hn,own,hB⟩:=hrel
  have n0:(0:Int)≤(n:Int):=by omega
  by_cases hlt:n<nt
  ·obtain ⟨⟨xk,xt,xp,xs⟩,hx⟩:=nu_some (l:=t) (i:=n) (by have:=HNT.out;omega)
   have n1:(n:Int)<(nt:Int):=by omega
   have d0:=(World.cell?_of_block (w:=w) (a:=⟨g,off+n * 4,none⟩) (hB.block g hg)).trans (cells_of HC.out n _ hx).1
   by_cases k6:xk=46
   ·have t1:((xk:Int)==46)=true:=beq_iff_eq.2 (by omega)
    have HS2:=Lib.hid (show blankN t (n+1)=(blankN t n).modify n noText by rw [blankN,hx];simp only [];rw [if_pos k6])
    obtain ⟨y,hy⟩:=nu_some (l:=blankN t n) (i:=n) (by rw [blankN_len,HNT.out];exact hlt)
    have hl:=(blankN_len t n).trans HNT.out
    obtain ⟨-,e1,-,-⟩:=own_cells hl own hy
    have f1:=own.frozenAt (n * 4+1)
    obtain ⟨own2,hB2⟩:=own_put own (x':=noText y) hy 1 (by omega) (.string { data:=#[] }) rfl HGO.out
    have HF:=Lib.hid (show TxR w (.slice (some ⟨go,0,none⟩) nt cap) nt (blankN t (n+1)) (wr.setCell ⟨go,n * 4+1,none⟩ (.string { data:=#[] })) by rw [HS2.out,← nu_modify hy];exact ⟨own2,hB.trans hB2⟩)
    clear k6 hx hy own own2 hB hB2 hl
    go_wp2
    go_roundw
    case rel=>exact ⟨n+1,by go_num,by omega,HF.out⟩
    case measure=>simp [intOf];omega
   ·have t1:((xk:Int)==46)=false:=beq_eq_false_iff_ne.2 (by omega)
    have HS2:=Lib.hid (show blankN t (n+1)=blankN t n by rw [blankN,hx];simp only [];rw [if_neg k6])
    have HF:=Lib.hid (show TxR w (.slice (some ⟨go,0,none⟩) nt cap) nt (blankN t (n+1)) wr by rw [HS2.out];exact ⟨own,hB⟩)
    clear k6 hx own hB
    go_wp2
    go_roundw
    case rel=>exact ⟨n+1,by go_num,by omega,HF.out⟩
    case measure=>simp [intOf];omega
  ·obtain rfl:n=nt:=by omega
   have HT2:=Lib.hid (show TxR w (.slice (some ⟨go,0,none⟩) n cap) n (textsN t 0) wr by show TxR _ _ _ (blankN t t.length) _;rw [HNT.out];exact ⟨own,hB⟩)
   clear own hB
   go_wp2
   go_loopw [5] (fun u5 wr=>∃ i:Nat,u5=.int .i64 i∧i≤n∧TxR w (.slice (some ⟨go,0,none⟩) n cap) n (textsN t i) wr) (fun u5 _=>n - (intOf u5).toNat)
   case atStart=>exact ⟨0,rfl,Nat.zero_le _,HT2.out⟩
   case round =>
    obtain ⟨i,rfl,hi,own,hB⟩:=hrel
    have HOW:=Lib.hid own
    have HB:=Lib.hid hB
    have hBs:=hB.size
    have q0:(0:Int)≤(i:Int):=by omega
    have hgo:go<wr.heap.size:=(own.lt go rfl).2
    by_cases hlt2:i<n
    ·obtain ⟨⟨xk,xt,xp,xs⟩,hx⟩:=nu_some (l:=t) (i:=i) (by have:=HNT.out;omega)
     have q1:(i:Int)<(n:Int):=by omega
     have d0:=(World.cell?_of_block (w:=w) (a:=⟨g,off+i * 4,none⟩) (hB.block g hg)).trans (cells_of HC.out i _ hx).1
     obtain ⟨k1,-,z,hz,hz3,hz4⟩:=HS.out i _ hx
     simp only [] at k1 hz d0
     by_cases kf:flowedK xk=true
     ·have HKF:=Lib.hid kf
      have HTN:=Lib.hid (show textsN t (i+1)=(flowSp t i).foldl (addSp t) (textsN t i) by rw [textsN,hx];simp only [];rw [if_pos kf])
      have hvr:=(HV0.out.below hB).mono hBs
      have hsp:=fun W hW=>spots_at (.slice (some ⟨g,off,none⟩) t.length c) t off (by rw [HNT.out];exact ht) (fun x hx=>by obtain ⟨j,hj⟩:=List.mem_iff_getElem?.1 hx;obtain ⟨a1,a2,zz,a3,a4,a5⟩:=HS.out j x hj;have:=HNT.out;exact ⟨a1,a2,by omega,by omega⟩) i ⟨xk,xt,xp,xs⟩ z hx hz hz3 hz4 W hW
      rw [HNT.out] at hvr hsp
      have HVR:=Lib.hid hvr
      have HSP:=Lib.hid hsp
      have HLL:=Lib.hid (show (spotsV t i).length≤100000000 by
       unfold spotsV
       rw [hx]
       simp only []
       have h1:=spotsF_len (t:=t) (fun x hx=>by obtain ⟨j,hj⟩:=List.mem_iff_getElem?.1 hx;exact (HS.out j x hj).2.1) i (i+xs.toNat)
       have h2:=HNT.out
       rw [hz,Int.toNat_natCast] at h1 ⊢
       omega)
      clear kf hx hvr hsp hz own hB
      go_wp2_with (first
       |(go_at_call 84;refine (flowed_at xk k1 true HKF.out _).mono ?_;rintro en w' ⟨rfl,rfl⟩)
       |(go_at_call 86;refine (HSP.out _ HVR.out).mono ?_;rintro en w2 ⟨vs,rfl,hown2,hb2⟩;have HSL:=Lib.hid (Ba.Reads.of_own cS_len rfl hown2);have HB2:=Lib.hid hb2;clear hown2 hb2)
       |(go_at_call 85;refine (kept_at _ (spotsV t i) HLL.out _ HSL.out).mono ?_;rintro en w3 ⟨vk,rfl,hown3,hb3⟩;have HO3:=Lib.hid hown3;have HB3:=Lib.hid hb3;clear hown3 hb3))
      obtain ⟨Ak,ck,hvk⟩:∃ A c,vk=.slice A (keptV (spotsV t i)).length c:=by
       rcases HO3.out.2 with ⟨h',hz'⟩ | ⟨g',c',_,h',_⟩
       ·exact ⟨none,0,by rw [h',hz']⟩
       ·exact ⟨_,_,h'⟩
      subst hvk
      obtain ⟨L,hL⟩:∃ L,keptV (spotsV t i)=L:=⟨_,rfl⟩
      have HL:=Lib.hid hL
      rw [hL] at HO3 ⊢
      have hw3:Below wr.heap.size wr w3:=Ba.chain HB2.out HB2.out.size HB3.out
      have HT3:=Lib.hid (show TxR w (.slice (some ⟨go,0,none⟩) n cap) n (textsN t i) w3 from ⟨HOW.out.kept (w':=w3) ⟨hw3.os,hw3.tape,hw3.output,hw3.size,fun b hb _=>hw3.block b hb⟩ (row:=none) (.inr (by simp [Value.ownBlock])),Ba.chain HB.out HB.out.size hw3⟩)
      have hgo3:go<w3.heap.size:=Nat.lt_of_lt_of_le hgo hw3.size
      have hgo2:go<w2.heap.size:=Nat.lt_of_lt_of_le hgo HB2.out.size
      clear hL hw3
      go_loopw [7] (fun u7 wi=>TxI w go (.slice (some ⟨go,0,none⟩) n cap) n t L (textsN t i) w3 u7 wi) (fun u7 _=>L.length - (intOf u7).toNat)
      case atStart=>exact ⟨0,rfl,Nat.zero_le _,HT3.out,fun _ _ _=>rfl,Nat.le_refl _⟩
      case round =>
       obtain ⟨k,rfl,hk,⟨own,hBi⟩,hfr,hsz⟩:=hrel
       have k0:(0:Int)≤(k:Int):=by omega
       have hLL9:L.length≤100000000:=by rw [← HL.out];exact Nat.le_trans (keptN_len _ _) HLL.out
       by_cases hkl:k<L.length
       ·obtain ⟨⟨sc,sn,sp⟩,hsx⟩:=nu_some (l:=L) hkl
        obtain ⟨hc256,hsn,⟨⟨yk,yt,yp,ys⟩,hy,hpl⟩⟩:=flowSp_in (t:=t) (f:=i) (x:=⟨sc,sn,sp⟩) (show _ ∈ keptV (spotsV t i) by rw [HL.out];exact List.mem_of_getElem? hsx)
        have hy9:=(HS.out sn _ hy).2.1
        simp only [] at hc256 hsn hy hpl hy9
        rw [HNT.out] at hsn
        obtain ⟨gk,ck',hek,hgk1,hgk2⟩:=HO3.out.form (by omega)
        cases hek
        have hne:gk≠go:=by omega
        have sA:∀ j,j<3→wr.cell? ⟨gk,k * 3+j,none⟩=(cS ⟨sc,sn,sp⟩)[j]?:=fun j hj=>by
         rw [World.cell?_of_block (w:=w3) (a:=⟨gk,k * 3+j,none⟩) (hfr gk hgk2 hne),HO3.out.cellAt _ (by omega),Ba.rows_at cS cS_len _ _ _ hsx j hj]
        have s0:wr.cell? ⟨gk,k * 3,none⟩=some (.int .u8 (sc:Int)):=sA 0 (by omega)
        have s1:wr.cell? ⟨gk,k * 3+1,none⟩=some (.int .i64 (sn:Int)):=sA 1 (by omega)
        have s2:wr.cell? ⟨gk,k * 3+2,none⟩=some (.int .i64 (sp:Int)):=sA 2 (by omega)
        obtain ⟨O,hO⟩:∃ O,(L.take k).foldl (addSp t) (textsN t i)=O:=⟨_,rfl⟩
        have hlen:O.length=n:=by rw [← hO,addSp_len,textsN_len];exact HNT.out
        have hbd:∀ y ∈ O,y.text.size≤1000000000000:=fun y hy'=>by
         rw [← hO] at hy'
         have h1:=addSp_bound t (L.take k) (textsN t i) _ (textsN_bound HS.out (K:=t.length * 9000) (E:=9000) (Nat.le_refl _) (Nat.le_refl _) i) y hy'
         have h2:i * (t.length * 9000)≤9000 * (9000 * 9000):=Nat.mul_le_mul (by omega) (Nat.mul_le_mul (by rw [HNT.out];exact ht) (Nat.le_refl _))
         have h3:L.length≤100000000:=by rw [← HL.out];exact Nat.le_trans (keptN_len _ _) HLL.out
         rw [List.length_take] at h1
         obtain ⟨M,hM⟩:∃ M,i * (t.length * 9000)=M:=⟨_,rfl⟩
         rw [hM] at h1 h2
         omega
        rw [hO] at own
        obtain ⟨⟨ok,ot,op,os⟩,hxo⟩:=nu_some (l:=O) (i:=sn) (by omega)
        have hots:=hbd _ (List.mem_of_getElem? hxo)
        obtain ⟨-,o1,o2,-⟩:=own_cells hlen own hxo
        simp only [] at o1 o2 hots
        have f1:=own.frozenAt (sn * 4+1)
        have f2:=own.frozenAt (sn * 4+2)
        have tp:=(World.cell?_of_block (w:=w) (a:=⟨g,off+sn * 4+2,none⟩) (hBi.block g hg)).trans (cells_of HC.out sn _ hy).2.2.1
        simp only [] at tp
        have m0:(0:Int)≤(sn:Int):=by omega
        have m1:(sn:Int)<(n:Int):=by omega
        have k1:(k:Int)<(L.length:Int):=by omega
        have hgor:go<wr.heap.size:=(own.lt go rfl).2
        have hgr:g<wr.heap.size:=Nat.lt_of_lt_of_le hg hBi.size
        have hgkr:gk<wr.heap.size:=Nat.lt_of_lt_of_le hgk2 hsz
        have hgg:g≠go:=by have:=HGO.out;omega
        have HCV:=fun (W:World) (gx:Nat) (h:W.cell? ⟨gx,0,none⟩=some (.int .u8 (sc:Int)))=>Lx.back_one W gx sc hc256 h
        have hcat:¬ (9223372036854775807<ot.size+(Lx.bytesOf [sc]).size):=by rw [Lx.bytesOf_size];simp;omega
        have HST:=Lib.hid (show (L.take (k+1)).foldl (addSp t) (textsN t i)=O.set sn ⟨ok,ot++oneS sc,if ot.size=0 then wrap64 (yp+(sp:Int)) else op,os⟩ by
         rw [fold_take hsx,hO]
         unfold addSp
         rw [← nu_modify hxo]
         unfold putSp placeAt
         simp only []
         rw [hy])
        have HLEN:=Lib.hid hlen
        have HOWN:=Lib.hid own
        have HBI:=Lib.hid hBi
        have HFR:=Lib.hid hfr
        have HXO:=Lib.hid hxo
        clear own hBi hfr hxo hy hsx sA hO hbd hlen hpl
        by_cases hz0:ot.size=0
        ·have HS5:=Lib.hid (HST.out.trans (by rw [if_pos hz0]))
         obtain ⟨e1,e2⟩:ot.toList.isEmpty=true∧(!ot.toList.isEmpty)=false:=by
          have:ot.toList.isEmpty=true:=by rw [ByteArray.toList_eq,List.isEmpty_iff,Array.toList_eq_nil_iff];exact Array.eq_empty_of_size_eq_zero hz0
          exact ⟨this,by rw [this];rfl⟩
         obtain ⟨P,hP⟩:∃ P,wrap64 (yp+(sp:Int))=P:=⟨_,rfl⟩
         have hwp:IntKind.i64.wrap (yp+(sp:Int))=P:=(IntWalk.i64_left _).trans hP
         rw [hP] at HS5
         clear hz0
         go_upto_region 17 with fail
         go_cut [62] (fun _ wx=>Tx17 w go (.slice (some ⟨go,0,none⟩) n cap) n (O.set sn ⟨ok,ot,P,os⟩) w3 wx)
         case first =>
          obtain ⟨own6,hB6⟩:=own_put HOWN.out (x':=⟨ok,ot,P,os⟩) HXO.out 2 (by omega) (.int .i64 P) rfl HGO.out
          have HF:=Lib.hid (show Tx17 w go (.slice (some ⟨go,0,none⟩) n cap) n (O.set sn ⟨ok,ot,P,os⟩) w3 (wr.setCell ⟨go,sn * 4+2,none⟩ (.int .i64 P)).drew from
           ⟨Lx.own_below own6 (Lx.below_drewN (Below.refl _ _) 1),Lx.below_drewN (HBI.out.trans hB6) 1,fun b hb hbg=>(Below.heap_setCell wr ⟨go,sn * 4+2,none⟩ (.int .i64 P) b hbg).trans (HFR.out b hb hbg),by show w3.heap.size≤(wr.setCell ⟨go,sn * 4+2,none⟩ (.int .i64 P)).heap.size;simpa using hsz⟩)
          clear own6 hB6
          go_region_law (first | fail)
          all_goals
           go_wp2_with fail
           go_meet
           exact HF.out
         case rest =>
          obtain ⟨own5,hB5,hfr5,hsz5⟩:=hcut
          have s0':wc.cell? ⟨gk,k * 3,none⟩=some (.int .u8 (sc:Int)):=(World.cell?_of_block (w:=wr) (a:=⟨gk,k * 3,none⟩) ((hfr5 gk hgk2 hne).trans (HFR.out gk hgk2 hne).symm)).trans s0
          obtain ⟨-,o1',-,-⟩:=own_cells (i:=sn) (x:=⟨ok,ot,P,os⟩) (by rw [List.length_set];exact HLEN.out) own5 (by rw [List.getElem?_set];simp;rw [HLEN.out];omega)
          simp only [] at o1'
          have f1':=own5.frozenAt (sn * 4+1)
          obtain ⟨own6,hB6⟩:=own_put own5 (i:=sn) (x:=⟨ok,ot,P,os⟩) (x':=⟨ok,ot++oneS sc,P,os⟩) (by rw [List.getElem?_set];simp;rw [HLEN.out];omega) 1 (by omega) (.string (ot++Lx.bytesOf [sc])) rfl HGO.out
          rw [List.set_set] at own6
          have HF:=Lib.hid (tx_end (go:=go) own6 (hB5.trans hB6) (fun b hb hbg=>(Below.heap_setCell wc ⟨go,sn * 4+1,none⟩ (.string (ot++Lx.bytesOf [sc])) b hbg).trans (hfr5 b hb hbg)) (by simpa using hsz5) (.cells #[.int .u8 (sc:Int)] 5))
          have hgoc:go<wc.heap.size:=(own5.lt go rfl).2
          have hgkc:gk<wc.heap.size:=Nat.lt_of_lt_of_le hgk2 hsz5
          clear own5 hB5 hfr5 own6 hB6 s0 s1 s2 o1 o2 f1 f2 tp d0
          go_wp2
          go_region_law (first | fail)
          all_goals
           go_wp2
           go_roundw
           case rel=>exact ⟨k+1,by go_num,by omega,by rw [HS5.out];exact HF.out.1,HF.out.2.1,HF.out.2.2⟩
           case measure=>simp [intOf];omega
        ·have HS5:=Lib.hid (HST.out.trans (by rw [if_neg hz0]))
         obtain ⟨e1,e2⟩:ot.toList.isEmpty=false∧(!ot.toList.isEmpty)=true:=by
          have:ot.toList.isEmpty=false:=by
           rw [ByteArray.toList_eq,← Bool.not_eq_true,List.isEmpty_iff,Array.toList_eq_nil_iff]
           intro h
           exact hz0 (by show ot.data.size=0;rw [h];rfl)
          exact ⟨this,by rw [this];rfl⟩
         obtain ⟨own6,hB6⟩:=own_put HOWN.out (x':=⟨ok,ot++oneS sc,op,os⟩) HXO.out 1 (by omega) (.string (ot++Lx.bytesOf [sc])) rfl HGO.out
         have HF:=Lib.hid (tx_end (go:=go) own6 (HBI.out.trans hB6) (fun b hb hbg=>(Below.heap_setCell wr ⟨go,sn * 4+1,none⟩ (.string (ot++Lx.bytesOf [sc])) b hbg).trans (HFR.out b hb hbg)) (by simpa using hsz) (.cells #[.int .u8 (sc:Int)] 5))
         clear hz0 own6 hB6
         go_wp2
         go_region_law (first | fail)
         all_goals
          go_wp2
          go_roundw
          case rel=>exact ⟨k+1,by go_num,by omega,by rw [HS5.out];exact HF.out.1,HF.out.2.1,HF.out.2.2⟩
          case measure=>simp [intOf];omega
       ·obtain rfl:k=L.length:=by omega
        have HF:=Lib.hid (show TxR w (.slice (some ⟨go,0,none⟩) n cap) n (textsN t (i+1)) wr by rw [HTN.out,show flowSp t i=L from HL.out];rw [List.take_length] at own;exact ⟨own,hBi⟩)
        clear own hBi hfr
        go_wp2
        go_roundw
        case rel=>exact ⟨i+1,by go_num,by omega,HF.out⟩
        case measure=>simp [intOf];omega
     ·have HKF:=Lib.hid (show flowedK xk=false by simpa using kf)
      have HTN:=Lib.hid (show textsN t (i+1)=textsN t i by rw [textsN,hx];simp only [];rw [if_neg kf])
      clear kf hx hz own hB
      go_wp2_with (go_at_call 84;refine (flowed_at xk k1 false HKF.out _).mono ?_;rintro en w' ⟨rfl,rfl⟩)
      go_roundw
      case rel=>exact ⟨i+1,by go_num,by omega,by rw [HTN.out];exact ⟨HOW.out,HB.out⟩⟩
      case measure=>simp [intOf];omega
    ·obtain rfl:i=n:=by omega
     have HR:=Lib.hid (show TextsTo t w (.returned (.slice (some ⟨go,0,none⟩) i cap)) wr from ⟨_,rfl,by rw [HNT.out];show wr.ownsRow _ _ _ _ _ (Ba.rows cN (textsN t t.length));rw [HNT.out];exact own,hB⟩)
     clear own hB
     go_wp2
     go_ret
     exact HR.out
end Go.Proofs.YtmldpkigfhoalaaGreatDoor.Nu
namespace Go.Proofs.YtmldpkigfhoalaaGreatDoor.Nu
open Go.RowKit Tr
def decS (x:Nd):Nd:={ x with size:=x.size - 1 }
def decN (t:List Nd) (a:Nat):Nat→List Nd
 | 0=>t.take a
 | n+1=>match t[n]? with
  | some x=>if (a:Int)<(n:Int)+x.size then (decN t a n).modify n decS else decN t a n
  | none=>decN t a n
def withoutV (t:List Nd) (a:Nat):List Nd:=decN t a a++t.drop (a+1)
theorem decN_len (t:List Nd) (a:Nat):∀ n,(decN t a n).length=min a t.length
 | 0=>by simp [decN]
 | n+1=>by
  unfold decN
  cases t[n]? with
  | none=>exact decN_len t a n
  | some x=>simp only [];split<;>simp [decN_len t a n]
theorem decN_far (t:List Nd) (a:Nat):∀ n j,n≤j→j<a→(decN t a n)[j]?=t[j]?
 | 0,j,_,h=>by unfold decN;rw [List.getElem?_take,if_pos h]
 | n+1,j,h1,h2=>by
  have ih:=decN_far t a n j (by omega) h2
  unfold decN
  cases t[n]? with
  | none=>exact ih
  | some x =>
   simp only []
   split
   ·rw [List.getElem?_modify]
    simp only [if_neg (show ¬ n=j by omega)]
    rw [ih];cases t[j]?<;>rfl
   ·exact ih
def WithTo (t:List Nd) (a m:Nat) (w:World) (e:Ending) (w':World):Prop:=∃ v,e=.returned v∧w'.ownsRow w.heap.size 33 4 v (m - 1) (Ba.rows cN (withoutV t a))∧Below w.heap.size w w'
theorem nu_news {t:List Nd} {off g:Nat} {w:World} (hcell:∀ k x,t[k]?=some x→∀ j u,(cN x)[j]?=some u→w.cell? ⟨g,off+(k * 4+j),none⟩=some u):∀ j u,(Ba.rows cN t)[j]?=some u→w.cell? ((⟨g,off,none⟩:Addr).add j)=some u:=fun j u hu=>by
 have hj:j<(Ba.rows cN t).length:=(List.getElem?_eq_some_iff.1 hu).1
 rw [Ba.rows_length cN cN_len] at hj
 have e:=Ba.rows_at cN cN_len t (j / 4) _ (List.getElem?_eq_getElem (by omega)) (j % 4) (Nat.mod_lt _ (by omega))
 have e2:j / 4 * 4+j % 4=j:=by omega
 rw [e2,hu] at e
 have:=hcell (j / 4) _ (List.getElem?_eq_getElem (by omega)) (j % 4) u e.symm
 rw [e2] at this
 have e3:(⟨g,off,none⟩:Addr).add j=⟨g,off+j,none⟩:=by unfold Addr.add;split<;>simp_all
 rw [e3];exact this
theorem nu_one (t:List Nd):∀ u ∈ Ba.rows cN t,u.oneCell'=true:=fun u hu=>by
 unfold Ba.rows at hu
 rw [List.mem_flatMap] at hu
 obtain ⟨x,_,hx⟩:=hu
 simp [cN] at hx
 rcases hx with rfl | rfl | rfl | rfl<;>rfl
theorem cells_take {t:List Nd} {off g a:Nat} {w:World} (hcell:∀ k x,t[k]?=some x→∀ j u,(cN x)[j]?=some u→w.cell? ⟨g,off+(k * 4+j),none⟩=some u):∀ k x,(t.take a)[k]?=some x→∀ j u,(cN x)[j]?=some u→w.cell? ⟨g,off+(k * 4+j),none⟩=some u:=fun k x hx=>by
 rw [List.getElem?_take] at hx
 split at hx
 ·exact hcell k x hx
 ·cases hx
theorem cells_drop {t:List Nd} {off g a:Nat} {w:World} (hcell:∀ k x,t[k]?=some x→∀ j u,(cN x)[j]?=some u→w.cell? ⟨g,off+(k * 4+j),none⟩=some u):∀ k x,(t.drop a)[k]?=some x→∀ j u,(cN x)[j]?=some u→w.cell? ⟨g,off+a * 4+(k * 4+j),none⟩=some u:=fun k x hx j u hu=>by
 rw [List.getElem?_drop] at hx
 have:=hcell (a+k) x hx j u hu
 rw [Nat.add_mul] at this
 rw [show off+a * 4+(k * 4+j)=off+(a * 4+k * 4+j) by omega];exact this
set_option maxRecDepth 100000 in
set_option maxHeartbeats 8000000 in
theorem without_at (t:List Nd) (off g c:Nat) (ht:t.length≤9000) (hc:t.length≤c) (hcm:c≤maxLen) (hf:∀ x ∈ t,-70000≤x.size∧x.size≤70000) (a:Nat) (ha:a<t.length) (w:World) (hg:g<w.heap.size)
  (hcell:∀ k x,t[k]?=some x→∀ j u,(cN x)[j]?=some u→w.cell? ⟨g,off+(k * 4+j),none⟩=some u) :
  Calls Tryz.prog 49 #[.slice (some ⟨g,off,none⟩) t.length c,.int .i64 (a:Int)] w (WithTo t a t.length w):=by
 obtain ⟨i0,hi0,hz0,hz1,hz2⟩:=info_parts (show (Tryz.prog.info? 33).map (fun i=>(i.zero,i.size,i.bytes))=some (some (.agg #[.int .u8 0,.string { data:=#[] },.int .i64 0,.int .i64 0]),4,40) by kernel_rfl)
 unfold maxLen at hcm
 have hal:=fun (W:World) (hW:Below w.heap.size w W)=>(fun i=>World.cell?_of_block (w:=w) (w':=W) (a:=⟨g,i,none⟩) (hW.block g hg))
 have HC:=Lib.hid hcell
 have HF:=Lib.hid hf
 have hB0:Below w.heap.size w (w.alloc (.cells #[] 33)):=(Below.refl _ w).alloc (Nat.le_refl _) _
 have HNEW:=Lib.hid (nu_news (cells_take (a:=a) (fun k x hx j u hu=>(hal _ hB0 _).trans (hcell k x hx j u hu))))
 have HL1:=Lib.hid (show (Ba.rows cN (t.take a)).length=a * 4 by rw [Ba.rows_length cN cN_len,List.length_take,Nat.min_eq_left (by omega)])
 obtain ⟨nt,hnt⟩:∃ nt,t.length=nt:=⟨_,rfl⟩
 have HNT:=Lib.hid hnt
 rw [hnt] at ht hc ha ⊢
 have a0:(0:Int)≤(a:Int):=by omega
 have a1:(a:Int)≤(c:Int):=by omega
 have a2:a≤c:=by omega
 clear hf hcell hnt hal hB0
 go_enter Tryz.func49,Tryz.ntmps49
 go_wp2_with (at_builtin;refine wpList_append_own _ rfl _ _ 22 rfl w.heap.size 33 i0 _ 4 40 Tryz.underlying22 hi0 hz0 hz1 hz2 rfl (by decide) (.slice (some ⟨w.heap.size,0,none⟩) 0 0) 0 [] rfl (World.ownsRow_lit w #[] 0 (Nat.le_refl _) (by decide) rfl) ⟨g,off,none⟩ a c (Ba.rows cN (t.take a)) rfl HL1.out HNEW.out (nu_one _) (by unfold maxLen;omega) (by omega) (by simp) ?_;intro v1 w1 hown hgrow hnil)
 have hB1:Below w.heap.size w w1:=((Below.refl _ w).alloc (Nat.le_refl _) _).grown hgrow (by simp) (fun j ej=>by simp [Value.ownBlock] at ej;omega)
 have HT1:=Lib.hid (show TxR w v1 a (decN t a 0) w1 from ⟨by simpa [decN] using hown,hB1⟩)
 clear hown hgrow hnil hB1
 go_loopw [6] (fun u6 wr=>∃ n:Nat,u6=.int .i64 n∧n≤a∧TxR w v1 a (decN t a n) wr) (fun u6 _=>a - (intOf u6).toNat)
 case atStart=>exact ⟨0,rfl,Nat.zero_le _,HT1.out⟩
 case round =>
  obtain ⟨n,rfl,hn,own,hB⟩:=hrel
  have n0:(0:Int)≤(n:Int):=by omega
  by_cases hlt:n<a
  ·obtain ⟨⟨xk,xt,xp,xs⟩,hx⟩:=nu_some (l:=t) (i:=n) (by have:=HNT.out;omega)
   obtain ⟨z1,z2⟩:=HF.out _ (List.mem_of_getElem? hx)
   have d3:=(World.cell?_of_block (w:=w) (a:=⟨g,off+n * 4+3,none⟩) (hB.block g hg)).trans (cells_of HC.out n _ hx).2.2.2
   simp only [] at z1 z2 d3
   have n1:(n:Int)<(nt:Int):=by omega
   have n2:(n:Int)<(a:Int):=by omega
   by_cases hs:(a:Int)<(n:Int)+xs
   ·have g1:decide ((a:Int)<(n:Int)+xs)=true:=decide_eq_true hs
    have HS2:=Lib.hid (show decN t a (n+1)=(decN t a n).modify n decS by rw [decN,hx];simp only [];rw [if_pos hs])
    have hy:(decN t a n)[n]?=some ⟨xk,xt,xp,xs⟩:=(decN_far t a n n (Nat.le_refl _) hlt).trans hx
    have hl:(decN t a n).length=a:=by rw [decN_len,HNT.out];omega
    obtain ⟨go,co,hvo,hgo,hgol⟩:=own.form (by omega)
    subst hvo
    obtain ⟨-,-,-,e3⟩:=own_cells hl own hy
    simp only [] at e3
    have f3:=own.frozenAt (n * 4+3)
    obtain ⟨own2,hB2⟩:=own_put own (x':=⟨xk,xt,xp,xs - 1⟩) hy 3 (by omega) (.int .i64 (xs - 1)) rfl hgo
    have HF2:=Lib.hid (show TxR w (.slice (some ⟨go,0,none⟩) a co) a (decN t a (n+1)) (wr.setCell ⟨go,n * 4+3,none⟩ (.int .i64 (xs - 1))) by rw [HS2.out,← nu_modify hy];exact ⟨own2,hB.trans hB2⟩)
    clear hs hx hy own own2 hB hB2 hl
    go_wp2
    go_roundw
    case rel=>exact ⟨n+1,by go_num,by omega,HF2.out⟩
    case measure=>simp [intOf];omega
   ·have g1:decide ((a:Int)<(n:Int)+xs)=false:=decide_eq_false hs
    have HS2:=Lib.hid (show decN t a (n+1)=decN t a n by rw [decN,hx];simp only [];rw [if_neg hs])
    have HF2:=Lib.hid (show TxR w v1 a (decN t a (n+1)) wr by rw [HS2.out];exact ⟨own,hB⟩)
    clear hs hx own hB
    go_wp2
    go_roundw
    case rel=>exact ⟨n+1,by go_num,by omega,HF2.out⟩
    case measure=>simp [intOf];omega
  ·obtain rfl:n=a:=by omega
   have HOWN:=Lib.hid own
   have H8:=Lib.hid own.lt
   have HB:=Lib.hid hB
   have hBs:=hB.size
   have hcw:∀ k x,t[k]?=some x→∀ j u,(cN x)[j]?=some u→wr.cell? ⟨g,off+(k * 4+j),none⟩=some u:=fun k x hx j u hu=>(World.cell?_of_block (w:=w) (a:=⟨g,off+(k * 4+j),none⟩) (hB.block g hg)).trans (HC.out k x hx j u hu)
   have HNEW2:=Lib.hid (nu_news (cells_drop (a:=n+1) hcw))
   have HL2:=Lib.hid (show (Ba.rows cN (t.drop (n+1))).length=(nt - (n+1)) * 4 by rw [Ba.rows_length cN cN_len,List.length_drop,HNT.out])
   have HL3:=Lib.hid HL2.out
   obtain ⟨q,hq⟩:∃ q,nt - (n+1)=q:=⟨_,rfl⟩
   have HQ:=Lib.hid hq
   rw [hq] at HL2
   have b1:(n:Int)+1≤(nt:Int):=by omega
   have b2:(n:Int)+1≤(c:Int):=by omega
   have b3:(nt:Int) - ((n:Int)+1)=(q:Int):=by omega
   clear own hB hcw hq
   by_cases hcap:n+1=c
   ·have hq0:q=0:=by have:=HQ.out;omega
    have HW:=Lib.hid (show Ba.rows cN (withoutV t n)=Ba.rows cN (decN t n n)++Ba.rows cN [] by unfold withoutV;rw [List.drop_of_length_le (by rw [HNT.out];have:=HQ.out;omega),List.append_nil];simp [Ba.rows])
    have HN1:=Lib.hid (show nt=n+1 by have:=HQ.out;omega)
    clear hq0
    go_wp2_with (at_builtin;refine wpList_append_own _ rfl _ _ 22 rfl w.heap.size 33 i0 _ 4 40 Tryz.underlying22 hi0 hz0 hz1 hz2 rfl (by decide) v1 n _ rfl HOWN.out ⟨g,off,none⟩ 0 0 (Ba.rows cN []) rfl rfl (fun j u hu=>by simp [Ba.rows] at hu) (nu_one _) (by unfold maxLen;omega) (by omega) hBs ?_;intro v9 w9 hown9 hgrow9 _;have hF:=Lib.hid (show w9.ownsRow w.heap.size 33 4 v9 (nt - 1) (Ba.rows cN (withoutV t n))∧Below w.heap.size w w9 from ⟨by rw [HW.out,show nt - 1=n+0 by have:=HN1.out;omega];exact hown9,HB.out.grown hgrow9 hBs (fun j ej=>(H8.out j ej).1)⟩);clear hown9 hgrow9)
    go_ret
    exact ⟨v9,rfl,hF.out.1,hF.out.2⟩
   ·have HW:=Lib.hid (show Ba.rows cN (withoutV t n)=Ba.rows cN (decN t n n)++Ba.rows cN (t.drop (n+1)) by unfold withoutV;rw [Ba.rows_append])
    have hq1:n+1+q=nt:=by have:=HQ.out;omega
    have hcap':¬ c=n+1:=fun h=>hcap h.symm
    go_wp2_with (at_builtin;refine wpList_append_own _ rfl _ _ 22 rfl w.heap.size 33 i0 _ 4 40 Tryz.underlying22 hi0 hz0 hz1 hz2 rfl (by decide) v1 n _ rfl HOWN.out ⟨g,off+(n+1) * 4,none⟩ (nt - (n+1)) (c - (n+1)) (Ba.rows cN (t.drop (n+1))) rfl HL3.out HNEW2.out (nu_one _) (by unfold maxLen;omega) (by omega) hBs ?_;intro v9 w9 hown9 hgrow9 _;have hF:=Lib.hid (show w9.ownsRow w.heap.size 33 4 v9 (nt - 1) (Ba.rows cN (withoutV t n))∧Below w.heap.size w w9 from ⟨by rw [HW.out,show nt - 1=n+(nt - (n+1)) by omega];exact hown9,HB.out.grown hgrow9 hBs (fun j ej=>(H8.out j ej).1)⟩);clear hown9 hgrow9)
    go_ret
    exact ⟨v9,rfl,hF.out.1,hF.out.2⟩
end Go.Proofs.YtmldpkigfhoalaaGreatDoor.Nu
namespace Go.Proofs.YtmldpkigfhoalaaGreatDoor.Nu
open Go.RowKit Tr
def parF (t:List Nd) (a:Nat):Nat→Int
 | 0=>-1
 | n+1=>match t[n]? with
  | some x=>if (a:Int)<(n:Int)+x.size then (n:Int) else parF t a n
  | none=>parF t a n
def parV (t:List Nd) (a:Nat):Int:=parF t a a
theorem parF_succ {t:List Nd} {a m:Nat} {x:Nd} (hx:t[m]?=some x):parF t a (m+1)=if (a:Int)<(m:Int)+x.size then (m:Int) else parF t a m:=by
 rw [parF,hx]
set_option maxHeartbeats 4000000 in
theorem parent_at (v:Value) (t:List Nd) (off:Nat) (ht:t.length≤9000) (hf:∀ x ∈ t,-70000≤x.size∧x.size≤70000) (a:Nat) (ha:a≤t.length) (B:Nat) (w:World) (hv:ReadsN off w B v t) (z:Int) (hz:parV t a=z) :
  Calls Tryz.prog 50 #[v,.int .i64 (a:Int)] w fun e w'=>e=.returned (.int .i64 z)∧w=w':=by
 obtain ⟨A,c,rfl,hA⟩:=hv
 have HA:=Lib.hid hA
 have HZ:=Lib.hid hz
 have HF:=Lib.hid hf
 clear hA hz hf
 go_enter Tryz.func50,Tryz.ntmps50
 go_wp2
 go_loop [5] (fun i=>∃ n:Nat,n≤a∧i=.int .i64 ((n:Int) - 1)∧parF t a n=parV t a) (fun i=>(intOf i+1).toNat)
 case atStart=>exact ⟨a,by omega,rfl,rfl⟩
 case round =>
  obtain ⟨n,hn,rfl,hF⟩:=hrel
  have HFF:=Lib.hid hF
  clear hF
  rcases Nat.eq_zero_or_pos n with rfl | h0
  ·have HR:=Lib.hid (show (-1:Int)=z by rw [← HZ.out,← HFF.out];rfl)
   go_wp2
   go_ret
   exact ⟨Ba.ret_int HR.out,rfl⟩
  ·obtain ⟨m,rfl⟩:∃ m,n=m+1:=⟨n - 1,by omega⟩
   obtain ⟨g,rfl,-,hcell⟩:=HA.out (by omega)
   obtain ⟨⟨xk,xt,xp,xs⟩,hx⟩:∃ x,t[m]?=some x:=⟨_,List.getElem?_eq_getElem (by omega)⟩
   obtain ⟨-,-,-,d3⟩:=cells_of hcell m _ hx
   obtain ⟨k2,k3⟩:=HF.out _ (List.mem_of_getElem? hx)
   simp only [] at k2 k3 d3
   have j0:(0:Int)≤(m:Int):=by omega
   have j1:(m:Int)<(t.length:Int):=by omega
   have i1:((m+1:Nat):Int) - 1=(m:Int):=by omega
   rw [i1]
   have HX:=Lib.hid (parF_succ (a:=a) hx)
   clear hcell hx i1
   by_cases hl:(a:Int)<(m:Int)+xs
   ·have g1:decide ((a:Int)<(m:Int)+xs)=true:=decide_eq_true hl
    have HR:=Lib.hid (show (m:Int)=z by rw [← HZ.out,← HFF.out,HX.out,if_pos hl])
    clear hl
    go_wp2
    go_ret
    exact ⟨Ba.ret_int HR.out,rfl⟩
   ·have g1:decide ((a:Int)<(m:Int)+xs)=false:=decide_eq_false hl
    have HN:=Lib.hid (show parF t a m=parV t a by rw [← HFF.out,HX.out,if_neg hl])
    clear hl
    go_wp2
    go_round
    case rel=>exact ⟨m,by omega,rfl,HN.out⟩
    case measure=>simp [intOf]
end Go.Proofs.YtmldpkigfhoalaaGreatDoor.Nu
