/-
  Put together: TuE, TuF.
-/
import Derived.Test.YtgpihfacmpbpaaaGreatDoorTuC
import Derived.Test.YtgpihfacmpbpaaaGreatDoorTrV
import Derived.Test.YtgpihfacmpbpaaaGreatDoorTuD
namespace Go.Proofs.YtgpihfacmpbpaaaGreatDoor.Tr
open Go.RowKit
def pA (t:List Nd) (a e:Nat) (w:World) (en:Ending) (w':World):Prop :=
 (match fJ t a e with
  | none=>en=.returned (.tuple #[.slice none 0 0,.bool false])
  | some L=>∃ v,en=.returned (.tuple #[v,.bool true])∧(L=[]→v=.slice none 0 0)∧L.length≤2 * (e - a)∧w'.ownsRow w.heap.size 71 4 v L.length (Ba.rows Lx.dJ L))∧Below w.heap.size w w'
theorem pA.bad {t:List Nd} {a e:Nat} {w w':World} (h:fJ t a e=none) (hb:Below w.heap.size w w'):pA t a e w (.returned (.tuple #[.slice none 0 0,.bool false])) w':=by
 unfold pA;rw[h];exact⟨rfl,hb⟩
def EvR (t:List Nd) (a e:Nat) (w:World) (u v:Value) (wr:World):Prop:=∃ (k:Nat) (L0:List Lx.Lx),u=.int .i64 k∧a≤k∧k≤e∧fJ t a e=(fJ t k e).map (L0++·)∧L0.length≤2 * (k - a)∧(L0=[]→v=.slice none 0 0)∧wr.ownsRow w.heap.size 71 4 v L0.length (Ba.rows Lx.dJ L0)∧Below w.heap.size w wr
theorem aBP (x:Lx.Lx):(Lx.dJ x).length=4:=rfl
theorem aDV (l:List Lx.Lx):∀ u ∈ Ba.rows Lx.dJ l,u.oneCell'=true:=by
 intro u hu
 unfold Ba.rows at hu
 rw[List.mem_flatMap]at hu
 obtain⟨x,_,hx⟩:=hu
 simp[Lx.dJ]at hx
 rcases hx with rfl | rfl | rfl | rfl<;>rfl
theorem aBQ {t:List Nd} {k e:Nat} {x:Nd} (h:k<e) (hx:t[k]?=some x) (hk:x.kind=46) (hs:x.size=1) (L0:List Lx.Lx):(fJ t k e).map (L0++·)=(fJ t (k+1) e).map ((L0++[pB x.text])++·):=by
 rw[oN h hx hk hs]
 cases fJ t (k+1) e<;>simp
theorem aBR {t:List Nd} {k e n:Nat} {x:Nd} (hx:t[k]?=some x) (hk:x.kind≠46) (hs:x.size=(n:Int)) (h1:1≤n) (h2:k+n≤e) {M:List Lx.Lx} (hM:fJ t (k+1) (k+n)=some M) (L0:List Lx.Lx):(fJ t k e).map (L0++·)=(fJ t (k+n) e).map ((L0++jJ x.kind::(M++[nB]))++·):=by
 rw[lK hx hk hs h1 h2,hM]
 cases fJ t (k+n) e<;>simp
theorem aBS {t:List Nd} {k e n:Nat} {x:Nd} (hx:t[k]?=some x) (hk:x.kind≠46) (hs:x.size=(n:Int)) (h1:1≤n) (h2:k+n≤e) (hM:fJ t (k+1) (k+n)=none):fJ t k e=none:=by
 rw[lK hx hk hs h1 h2,hM];rfl
theorem YI {t:List Nd} {k e:Nat} {x:Nd} (h:k<e) (hx:t[k]?=some x) (hb:x.size<1∨(e:Int)<(k:Int)+x.size):fJ t k e=none:=by
 rw[iM t k e h,hx];simp only[];rw[if_pos hb]
theorem aBT {t:List Nd} {k e:Nat} {x:Nd} (h:k<e) (hx:t[k]?=some x) (hk:x.kind=46) (hs:x.size≠1):fJ t k e=none:=by
 rw[iM t k e h,hx];simp only[]
 by_cases hb:x.size<1∨(e:Int)<(k:Int)+x.size
 ·rw[if_pos hb]
 ·rw[if_neg hb,if_pos hk,if_neg hs]
theorem wI {w1 w5:World} {X:Obj} {v:Value} (hg:(w1.alloc X).grownBy w5 v.ownBlock) {bx i:Nat} {u:Value} (hlt:bx<w1.heap.size) (hne:∀ j,v.ownBlock=some j→j≠bx) (h:w1.cell? ⟨bx,i,none⟩=some u):w5.cell? ⟨bx,i,none⟩=some u:=by
 rw[hg.cell_far ⟨bx,i,none⟩ (by simp;omega) (fun e=>hne bx e.symm rfl)]
 exact(World.cell?_of_block (w:=w1) (a:=⟨bx,i,none⟩) (Below.heap_alloc w1 X bx hlt)).trans h
theorem YJ {w1 w5:World} {v:Value} (hg:w1.grownBy w5 v.ownBlock) {bx i:Nat} {u:Value} (hlt:bx<w1.heap.size) (hne:∀ j,v.ownBlock=some j→j≠bx) (h:w1.cell? ⟨bx,i,none⟩=some u):w5.cell? ⟨bx,i,none⟩=some u :=
 (hg.cell_far ⟨bx,i,none⟩ hlt (fun e=>hne bx e.symm rfl)).trans h
theorem YK {v:Value} {g n c bx H j:Nat} (hat:v.ownBlock=some g∨g=H+1) (hj:(Value.slice (some ⟨g,0,none⟩) n c).ownBlock=some j) (hne:∀ j,v.ownBlock=some j→j≠bx) (hlt:bx<H):j≠bx:=by
 have:g=j:=by simpa[Value.ownBlock] using hj
 subst this
 rcases hat with h | h
 ·exact hne _ h
 ·omega
theorem aBU {v:Value} {g n c bx H j:Nat} (hat:v.ownBlock=some g∨g=H) (hj:(Value.slice (some ⟨g,0,none⟩) n c).ownBlock=some j) (hne:∀ j,v.ownBlock=some j→j≠bx) (hlt:bx<H):j≠bx:=by
 have:g=j:=by simpa[Value.ownBlock] using hj
 subst this
 rcases hat with h | h
 ·exact hne _ h
 ·omega
theorem YL {t:List Nd} {a e:Nat} {L:List Lx.Lx} (h:fJ t a e=some L):L.length≤2 * (e - a):=by
 have key:∀ n a e (L:List Lx.Lx),e - a≤n→fJ t a e=some L→L.length≤2 * (e - a):=by
  intro n
  induction n with
  | zero=>intro a e L hn h;rw[dT t a e (by omega)]at h;cases h;simp
  | succ n ih =>
   intro a e L hn h
   by_cases hlt:a<e
   ·rw[iM t a e hlt]at h
    cases hx:t[a]? with
    | none=>rw[hx]at h;cases h
    | some x =>
     rw[hx]at h
     simp only[]at h
     by_cases hs:x.size<1∨(e:Int)<(a:Int)+x.size
     ·rw[if_pos hs]at h;cases h
     rw[if_neg hs]at h
     by_cases hk:x.kind=46
     ·rw[if_pos hk]at h
      by_cases h5:x.size=1
      ·rw[if_pos h5]at h
       obtain⟨R,hR,rfl⟩:=Option.map_eq_some_iff.1 h
       have:=ih (a+1) e R (by omega) hR
       simp only[List.length_cons];omega
      ·rw[if_neg h5]at h;cases h
     ·rw[if_neg hk]at h
      obtain⟨K,hK,h3⟩:=Option.bind_eq_some_iff.1 h
      obtain⟨R,hR,rfl⟩:=Option.map_eq_some_iff.1 h3
      have h1:=ih (a+1) (a+x.size.toNat) K (by omega) hK
      have h2:=ih (a+x.size.toNat) e R (by omega) hR
      simp only[List.length_cons,List.length_append];omega
   ·rw[dT t a e (by omega)]at h;cases h;simp
 exact key _ a e L (Nat.le_refl _) h
theorem pA.P9 {t:List Nd} {a e:Nat} {w w':World} {en:Ending} (hM:fJ t a e=none) (h:pA t a e w en w'):en=.returned (.tuple #[.slice none 0 0,.bool false])∧Below w.heap.size w w':=by
 unfold pA at h;rw[hM]at h;exact h
theorem pA.GX {t:List Nd} {a e:Nat} {w w':World} {en:Ending} {L:List Lx.Lx} (hM:fJ t a e=some L) (h:pA t a e w en w'):(∃ v,en=.returned (.tuple #[v,.bool true])∧(L=[]→v=.slice none 0 0)∧L.length≤2 * (e - a)∧w'.ownsRow w.heap.size 71 4 v L.length (Ba.rows Lx.dJ L))∧Below w.heap.size w w':=by
 unfold pA at h;rw[hM]at h;exact h
theorem QA {w:World} {base:Nat} {e:TypeId} {size g n c:Nat} {xs:List Value} (h:w.ownsRow base e size (.slice (some ⟨g,0,none⟩) n c) n xs):n≤c:=by
 rcases h.2 with⟨h',_⟩ | ⟨g',c',_,h',_,_,h1,_⟩
 ·cases h'
 ·injection h' with _ _ e;omega
theorem YM {w:World} {base:Nat} {e:TypeId} {g n c:Nat} {L:List Lx.Lx} (h:w.ownsRow base e 4 (.slice (some ⟨g,0,none⟩) n c) n (Ba.rows Lx.dJ L)):∀ j u,(Ba.rows Lx.dJ L)[j]?=some u→w.cell? ((⟨g,0,none⟩:Addr).add j)=some u:=fun j u hu=>by
 have hj:j<(Ba.rows Lx.dJ L).length:=(List.getElem?_eq_some_iff.1 hu).1
 have hl:=h.1
 have hadd:(⟨g,0,none⟩:Addr).add j=⟨g,j,none⟩:=by unfold Addr.add;split<;>simp_all
 rw[hadd,h.cellAt j (by omega),hu]
theorem YN:(Tryz.prog.info? 71).map (fun i=>(i.zero,i.size,i.bytes))=some (some (.agg #[.int .i64 0,.int .u8 0,.string { data:=#[] },.int .i64 0]),4,40):=by kernel_rfl
set_option maxRecDepth 100000 in
set_option maxHeartbeats 8000000 in
theorem TU (t:List Nd) (off:Nat) (v:Value) (ht:t.length≤9000) (hf:Fit t):∀ n a e,e - a≤n→a≤e→e≤t.length→∀ w:World,aS off w w.heap.size v t →
  Calls Tryz.prog 51 #[v,.int .i64 (a:Int),.int .i64 (e:Int)] w (pA t a e w):=by
 intro n
 induction n using Nat.strongRecOn with
 | _ n ih =>
  intro a e hn hae hel w hv
  have IH:=Lib.hid ih
  have HF:=Lib.hid hf
  obtain⟨A,c,rfl,hA⟩:=hv
  have HA:=Lib.hid hA
  obtain⟨i0,hi0,hz0,hz1,hz2⟩:=info_parts YN
  clear ih hf hA
  go_enter Tryz.func51,Tryz.ntmps51
  go_wp2
  go_loopw [1,8] (fun u v wr=>EvR t a e w u v wr) (fun u _ _=>e - (intOf u).toNat)
  case atStart=>exact⟨a,[],rfl,Nat.le_refl _,hae,by cases fJ t a e<;>simp,by simp,fun _=>rfl,World.ownsRow_nil _ _ _ _,Below.refl _ _⟩
  case round =>
   obtain⟨k,L0,rfl,hak,hke,hEV,hLL,hnil,own,hB⟩:=hrel
   have HEV:=Lib.hid hEV
   have HNL:=Lib.hid hnil
   have HB:=Lib.hid hB
   have HOW:=Lib.hid own
   have hBs:=hB.size
   obtain⟨q,hq⟩:∃ q,L0.length=q:=⟨_,rfl⟩
   have HQ:=Lib.hid hq
   rw[hq]at hLL
   clear hEV hnil own
   by_cases hlt:k<e
   ·obtain⟨g,rfl,hg,hcell⟩:=HA.out (by omega)
    obtain⟨⟨xk,xt,xp,xs⟩,hx⟩:=e9 (l:=t) (i:=k) (by omega)
    have HX:=Lib.hid hx
    obtain⟨hk2,hts,-,hs1,hs2⟩:=HF.out _ (List.mem_of_getElem? hx)
    simp only[]at hk2 hts hs1 hs2
    obtain⟨d0,d1,d2,d3⟩:=cE hcell k _ hx
    have upr:=fun i=>World.cell?_of_block (w:=w) (a:=⟨g,i,none⟩) (hB.block g hg)
    rw[← upr]at d0 d1 d2 d3
    have j0:(0:Int)≤(k:Int):=by omega
    have j1:(k:Int)<(t.length:Int):=by omega
    have hbx:Below w.heap.size w (wr.alloc (.cells #[.int .u8 (xk:Int),.string xt,.int .i64 xp,.int .i64 xs] 41)):=hB.alloc hBs _
    have HBX:=Lib.hid hbx
    clear hcell hx upr hB hq hbx
    by_cases b1:xs<1
    ·have HR:=Lib.hid (pA.bad (show fJ t a e=none by rw[HEV.out,YI hlt HX.out (.inl b1)];rfl) HBX.out)
     have g1:decide (xs<1)=true:=decide_eq_true b1
     go_wp2
     go_ret2
     exact HR.out
    by_cases b2:(e:Int)<(k:Int)+xs
    ·have HR:=Lib.hid (pA.bad (show fJ t a e=none by rw[HEV.out,YI hlt HX.out (.inr b2)];rfl) HBX.out)
     have g1:decide (xs<1)=false:=decide_eq_false b1
     by_cases b3:(k:Int)+xs≤9223372036854775807
     ·have g2:decide ((e:Int)<(k:Int)+xs)=true:=decide_eq_true b2
      go_wp2
      go_ret2
      exact HR.out
     ·have hwv:wrap64 ((k:Int)+xs)=(k:Int)+xs - 18446744073709551616:=by unfold wrap64;omega
      have g2:decide ((e:Int)<wrap64 ((k:Int)+xs))=false:=decide_eq_false (by omega)
      have g3:decide (wrap64 ((k:Int)+xs)<(k:Int))=true:=decide_eq_true (by omega)
      clear hwv
      go_wp2
      go_ret2
      exact HR.out
    obtain⟨z,rfl⟩:∃ z:Nat,xs=(z:Int):=⟨xs.toNat,by omega⟩
    have z1:1≤z:=by omega
    have z2:k+z≤e:=by omega
    have g1:decide ((z:Int)<1)=false:=decide_eq_false (by omega)
    have g2:decide ((e:Int)<(k:Int)+(z:Int))=false:=decide_eq_false (by omega)
    have g3:decide ((k:Int)+(z:Int)<(k:Int))=false:=decide_eq_false (by omega)
    clear b1 b2
    by_cases k6:xk=46
    ·have t1:((xk:Int)==46)=true:=nE k6
     by_cases z3:z=1
     ·have t2:((z:Int) != 1)=false:=by rw[bne,show ((z:Int)==1)=true from nE z3];rfl
      have HE2:=Lib.hid (HEV.out.trans (aBQ hlt HX.out k6 (by show (z:Int)=1;omega) L0))
      have hbw1:Below wr.heap.size wr (wr.alloc (.cells #[.int .u8 (xk:Int),.string xt,.int .i64 xp,.int .i64 (z:Int)] 41)):=(Below.refl _ wr).alloc (Nat.le_refl _) _
      have own1:=Lx.cV HOW.out hbw1
      rw[HQ.out]at own1
      have HZ3:=Lib.hid z3
      have y1:(wr.alloc (.cells #[.int .u8 (xk:Int),.string xt,.int .i64 xp,.int .i64 (z:Int)] 41)).cell? ⟨wr.heap.size,1,none⟩=some (.string xt):=by simp
      have y3:(wr.alloc (.cells #[.int .u8 (xk:Int),.string xt,.int .i64 xp,.int .i64 (z:Int)] 41)).cell? ⟨wr.heap.size,3,none⟩=some (.int .i64 (z:Int)):=by simp
      have y0:(wr.alloc (.cells #[.int .u8 (xk:Int),.string xt,.int .i64 xp,.int .i64 (z:Int)] 41)).cell? ⟨wr.heap.size,0,none⟩=some (.int .u8 (xk:Int)):=by simp
      have hs1:(wr.alloc (.cells #[.int .u8 (xk:Int),.string xt,.int .i64 xp,.int .i64 (z:Int)] 41)).heap.size=wr.heap.size+1:=by simp
      clear k6 z3 hbw1
      go_upto_region 4 with fail
      generalize wr.alloc (.cells #[.int .u8 (xk:Int),.string xt,.int .i64 xp,.int .i64 (z:Int)] 41)=w1 at *
      have hsz1:=HBX.out.size
      have hne8:∀ j,u8.ownBlock=some j→j≠wr.heap.size:=fun j hj=>by have:=(HOW.out.lt j hj).2;omega
      have HNE:=Lib.hid hne8
      have hlb:wr.heap.size<w1.heap.size:=by omega
      have h8b:=HOW.out.lt
      have H8B:=Lib.hid h8b
      clear hs1 hne8 h8b
      go_wp2_with (at_builtin;refine wpList_append_lies _ rfl _ _ _ rfl w.heap.size 71 i0 _ 4 40 Tryz.underlying58 hi0 hz0 hz1 hz2 rfl (by omega) u8 q _ rfl (own1.alloc _) ⟨w1.heap.size,0,none⟩ 1 1 [.int .i64 1,.int .u8 0,.string xt,.int .i64 0] rfl rfl (World.news_of_block (cs:=#[.int .i64 1,.int .u8 0,.string xt,.int .i64 0]) (t:=71) (fr:=(0,0)) (heap_alloc_new w1 _)) (by simp[Value.oneCell']) (by omega) (by unfold maxLen;omega) (by omega) (by simp;omega) (w1.heap.size+1) (by simp) ?_;intro gg cap w5 hown5 hgrow5 hat5 hlt5;have y5:=wI hgrow5 hlb HNE.out y3;replace hown5:=Lib.hid hown5;have hB5:=Lib.hid ((HBX.out.alloc hsz1 _).grown hgrow5 (by simp;omega) (fun j ej=>(H8B.out j ej).1));clear hgrow5 hat5 hlt5)
      go_roundw
      case rel =>
       refine⟨k+1,L0++[pB xt],by rw[HZ3.out];go_num,by omega,by omega,HE2.out,by rw[List.length_append,List.length_singleton,HQ.out];omega,fun h=>by simp at h,?_,hB5.out⟩
       rw[List.length_append,List.length_singleton,HQ.out,Ba.cW]
       exact hown5.out
      case measure=>simp[intOf];have:=HZ3.out;omega
     ·have t2:((z:Int) != 1)=true:=by rw[bne,show ((z:Int)==1)=false from kZ z3];rfl
      have HR:=Lib.hid (pA.bad (show fJ t a e=none by rw[HEV.out,aBT hlt HX.out k6 (by show (z:Int)≠1;omega)];rfl) HBX.out)
      clear z3 k6
      go_wp2
      go_ret2
      exact HR.out
    ·have t1:((xk:Int)==46)=false:=kZ k6
     have hbw1:Below wr.heap.size wr (wr.alloc (.cells #[.int .u8 (xk:Int),.string xt,.int .i64 xp,.int .i64 (z:Int)] 41)):=(Below.refl _ wr).alloc (Nat.le_refl _) _
     have own1:=Lx.cV HOW.out hbw1
     rw[HQ.out]at own1
     have y3:(wr.alloc (.cells #[.int .u8 (xk:Int),.string xt,.int .i64 xp,.int .i64 (z:Int)] 41)).cell? ⟨wr.heap.size,3,none⟩=some (.int .i64 (z:Int)):=by simp
     have y0:(wr.alloc (.cells #[.int .u8 (xk:Int),.string xt,.int .i64 xp,.int .i64 (z:Int)] 41)).cell? ⟨wr.heap.size,0,none⟩=some (.int .u8 (xk:Int)):=by simp
     have hs1:(wr.alloc (.cells #[.int .u8 (xk:Int),.string xt,.int .i64 xp,.int .i64 (z:Int)] 41)).heap.size=wr.heap.size+1:=by simp
     have HV1:=Lib.hid (show aS off (wr.alloc (.cells #[.int .u8 (xk:Int),.string xt,.int .i64 xp,.int .i64 (z:Int)] 41)) (wr.alloc (.cells #[.int .u8 (xk:Int),.string xt,.int .i64 xp,.int .i64 (z:Int)] 41)).heap.size (.slice (some ⟨g,off,none⟩) t.length c) t from
      (Ba.Reads.below ⟨some ⟨g,off,none⟩,c,rfl,HA.out⟩ HBX.out).mono HBX.out.size)
     have HCALL:=Lib.hid (show Calls Tryz.prog 51 #[.slice (some ⟨g,off,none⟩) t.length c,.int .i64 ((k:Int)+1),.int .i64 ((k:Int)+(z:Int))] (wr.alloc (.cells #[.int .u8 (xk:Int),.string xt,.int .i64 xp,.int .i64 (z:Int)] 41)) (pA t (k+1) (k+z) (wr.alloc (.cells #[.int .u8 (xk:Int),.string xt,.int .i64 xp,.int .i64 (z:Int)] 41))) from
      IH.out (z - 1) (by omega) (k+1) (k+z) (by omega) (by omega) (by omega) _ HV1.out)
     clear hbw1
     go_upto_region 4 with fail
     generalize wr.alloc (.cells #[.int .u8 (xk:Int),.string xt,.int .i64 xp,.int .i64 (z:Int)] 41)=w1 at *
     have hsz1:=HBX.out.size
     have hne8:∀ j,u8.ownBlock=some j→j≠wr.heap.size:=fun j hj=>by have:=(HOW.out.lt j hj).2;omega
     have HNE:=Lib.hid hne8
     have hlb:wr.heap.size<w1.heap.size:=by omega
     have h8b:=HOW.out.lt
     have H8B:=Lib.hid h8b
     clear hs1 hne8 h8b
     cases hM:fJ t (k+1) (k+z) with
     | none =>
      have HM:=Lib.hid hM
      have HN:=Lib.hid (show fJ t a e=none by rw[HEV.out,aBS HX.out k6 rfl z1 z2 hM];rfl)
      clear hM k6
      go_wp2_with (go_at_call 51;refine(show Calls Tryz.prog 51 #[.slice (some ⟨g,off,none⟩) t.length c,.int .i64 ((k:Int)+1),.int .i64 ((k:Int)+(z:Int))] w1 (pA t (k+1) (k+z) w1) from HCALL.out).mono ?_;rintro en w3 hev;obtain⟨rfl,hb3⟩:=hev.P9 HM.out;replace hb3:=Lib.hid hb3;clear hev)
      go_ret2
      exact pA.bad HN.out (Ba.chain HBX.out HBX.out.size hb3.out)
     | some M =>
      have HM:=Lib.hid hM
      have HE2:=Lib.hid (HEV.out.trans (aBR HX.out k6 rfl z1 z2 hM L0))
      have hml:=YL hM
      obtain⟨r,hr⟩:∃ r,M.length=r:=⟨_,rfl⟩
      have HR:=Lib.hid hr
      rw[hr]at hml
      have hml2:r≤2 * (z - 1):=by omega
      have HLN:=Lib.hid (show (L0++jJ xk::(M++[nB])).length=q+1+r+1 by simp[HQ.out,hr];omega)
      have HRW:=Lib.hid (show Ba.rows Lx.dJ (L0++jJ xk::(M++[nB]))=Ba.rows Lx.dJ L0++Lx.dJ (jJ xk)++Ba.rows Lx.dJ M++Lx.dJ nB by
       rw[Ba.iH,Ba.iU,Ba.iH,Ba.iU,Ba.GZ];simp)
      clear hM k6 hr hml
      by_cases hr0:r=0
      ·have HM0:=Lib.hid (show M=[] from List.length_eq_zero_iff.1 (HR.out.trans hr0))
       subst hr0
       go_wp2_with (first | (go_at_call 51;refine(show Calls Tryz.prog 51 #[.slice (some ⟨g,off,none⟩) t.length c,.int .i64 ((k:Int)+1),.int .i64 ((k:Int)+(z:Int))] w1 (pA t (k+1) (k+z) w1) from HCALL.out).mono ?_;rintro en w3 hev;obtain⟨⟨v3,rfl,hn3,hl3,own3m⟩,hb3⟩:=hev.GX HM.out;obtain rfl:=hn3 HM0.out;clear own3m hn3 hl3;have y0:=(World.cell?_of_block (w:=w1) (a:=⟨wr.heap.size,0,none⟩) (hb3.block _ hlb)).trans y0;have y3:=(World.cell?_of_block (w:=w1) (a:=⟨wr.heap.size,3,none⟩) (hb3.block _ hlb)).trans y3;have own3:=Lx.cV own1 hb3;have HB3:=Lib.hid (Ba.chain HBX.out HBX.out.size hb3);have hsz3:=HB3.out.size;have hlb3:wr.heap.size<w3.heap.size:=Nat.lt_of_lt_of_le hlb hb3.size;clear hev) | (at_builtin;refine wpList_append_lies _ rfl _ _ _ rfl w.heap.size 71 i0 _ 4 40 Tryz.underlying58 hi0 hz0 hz1 hz2 rfl (by omega) u8 q _ rfl (own3.alloc _) ⟨w3.heap.size,0,none⟩ 1 1 [.int .i64 2,.int .u8 (xk:Int),.string { data:=#[] },.int .i64 0] rfl rfl (World.news_of_block (cs:=#[.int .i64 2,.int .u8 (xk:Int),.string { data:=#[] },.int .i64 0]) (t:=71) (fr:=(0,0)) (heap_alloc_new w3 _)) (by simp[Value.oneCell']) (by omega) (by unfold maxLen;omega) (by omega) (by simp;omega) (w3.heap.size+1) (by simp) ?_;intro g1 cap1 w4 hown4 hgrow4 hat4 hlt4;have y4:=wI hgrow4 hlb3 HNE.out y3;have hN4:∀ j,(Value.slice (some ⟨g1,0,none⟩) (q+1) cap1).ownBlock=some j→j≠wr.heap.size:=fun j hj=>YK hat4 hj HNE.out hlb3;have hB4:=(HB3.out.alloc hsz3 _).grown hgrow4 (by simp;omega) (fun j ej=>(H8B.out j ej).1);have hL4:wr.heap.size<w4.heap.size:=Nat.lt_of_lt_of_le hlb3 (Nat.le_trans (by simp) hgrow4.size);have hG4:=hown4.lt;have hcap4:=QA hown4;replace hown4:=Lib.hid hown4;have hsz4:=hB4.size;replace hB4:=Lib.hid hB4;replace hN4:=Lib.hid hN4;replace hG4:=Lib.hid hG4;clear hgrow4 hat4 hlt4) | (at_builtin;refine wpList_append_lies _ rfl _ _ _ rfl w.heap.size 71 i0 _ 4 40 Tryz.underlying58 hi0 hz0 hz1 hz2 rfl (by omega) (.slice (some ⟨g1,0,none⟩) (q+1) cap1) (q+1) _ rfl (hown4.out.alloc _) ⟨w4.heap.size,0,none⟩ 1 1 [.int .i64 3,.int .u8 0,.string { data:=#[] },.int .i64 0] rfl rfl (World.news_of_block (cs:=#[.int .i64 3,.int .u8 0,.string { data:=#[] },.int .i64 0]) (t:=71) (fr:=(0,0)) (heap_alloc_new w4 _)) (by simp[Value.oneCell']) (by omega) (by unfold maxLen;omega) (by omega) (by simp;omega) (w4.heap.size+1) (by simp) ?_;intro g6 cap6 w6 hown6 hgrow6 hat6 hlt6;have y6:=wI hgrow6 hL4 hN4.out y4;replace hown6:=Lib.hid hown6;have hB6:=Lib.hid ((hB4.out.alloc hsz4 _).grown hgrow6 (by simp;omega) (fun j ej=>(hG4.out j ej).1));clear hgrow6 hat6 hlt6))
       go_roundw
       case rel =>
        refine⟨k+z,L0++jJ xk::(M++[nB]),by go_num,by omega,by omega,HE2.out,?_,fun h=>by simp at h,?_,hB6.out⟩
        ·rw[HLN.out];omega
        ·rw[HLN.out,HRW.out,HM0.out,Ba.GZ,List.append_nil];exact hown6.out
       case measure=>simp[intOf];omega
      ·have hr1:0<r:=by omega
       go_wp2_with fail
       refine(show Calls Tryz.prog 51 #[.slice (some ⟨g,off,none⟩) t.length c,.int .i64 ((k:Int)+1),.int .i64 ((k:Int)+(z:Int))] w1 (pA t (k+1) (k+z) w1) from HCALL.out).mono ?_
       rintro en w3 hev
       obtain⟨⟨v3,rfl,hn3,hl3,own3m⟩,hb3⟩:=hev.GX HM.out
       rw[HR.out]at own3m
       obtain⟨gm,cm,hvm,hgm1,hgm2⟩:=own3m.form hr1
       subst hvm
       have HOM:=Lib.hid own3m
       have hgm3:gm≠wr.heap.size:=by omega
       clear own3m hn3 hl3
       have y0:=(World.cell?_of_block (w:=w1) (a:=⟨wr.heap.size,0,none⟩) (hb3.block _ hlb)).trans y0
       have y3:=(World.cell?_of_block (w:=w1) (a:=⟨wr.heap.size,3,none⟩) (hb3.block _ hlb)).trans y3
       have own3:=Lx.cV own1 hb3
       have HB3:=Lib.hid (Ba.chain HBX.out HBX.out.size hb3)
       have hsz3:=HB3.out.size
       have hlb3:wr.heap.size<w3.heap.size:=Nat.lt_of_lt_of_le hlb hb3.size
       go_wp2_with (first | (at_builtin;refine wpList_append_lies _ rfl _ _ _ rfl w.heap.size 71 i0 _ 4 40 Tryz.underlying58 hi0 hz0 hz1 hz2 rfl (by omega) u8 q _ rfl (own3.alloc _) ⟨w3.heap.size,0,none⟩ 1 1 [.int .i64 2,.int .u8 (xk:Int),.string { data:=#[] },.int .i64 0] rfl rfl (World.news_of_block (cs:=#[.int .i64 2,.int .u8 (xk:Int),.string { data:=#[] },.int .i64 0]) (t:=71) (fr:=(0,0)) (heap_alloc_new w3 _)) (by simp[Value.oneCell']) (by omega) (by unfold maxLen;omega) (by omega) (by simp;omega) (w3.heap.size+1) (by simp) ?_;intro g1 cap1 w4 hown4 hgrow4 hat4 hlt4;have y4:=wI hgrow4 hlb3 HNE.out y3;have hN4:∀ j,(Value.slice (some ⟨g1,0,none⟩) (q+1) cap1).ownBlock=some j→j≠wr.heap.size:=fun j hj=>YK hat4 hj HNE.out hlb3;have hB4:=(HB3.out.alloc hsz3 _).grown hgrow4 (by simp;omega) (fun j ej=>(H8B.out j ej).1);have hL4:wr.heap.size<w4.heap.size:=Nat.lt_of_lt_of_le hlb3 (Nat.le_trans (by simp) hgrow4.size);have hG4:=hown4.lt;have hcap4:=QA hown4;have hM4:=Lib.hid ((HOM.out.alloc _).kept hgrow4 (.inr (fun e=>by have:=(H8B.out gm (by rw[← e];rfl)).2;omega)));replace hown4:=Lib.hid hown4;have hsz4:=hB4.size;replace hB4:=Lib.hid hB4;replace hN4:=Lib.hid hN4;replace hG4:=Lib.hid hG4;clear hgrow4 hat4 hlt4) | (at_builtin;refine wpList_append_lies _ rfl _ _ _ rfl w.heap.size 71 i0 _ 4 40 Tryz.underlying58 hi0 hz0 hz1 hz2 rfl (by omega) (.slice (some ⟨g1,0,none⟩) (q+1) cap1) (q+1) _ rfl hown4.out ⟨gm,0,none⟩ r cm (Ba.rows Lx.dJ M) rfl (by rw[Ba.cK Lx.dJ aBP,HR.out]) (YM hM4.out) (aDV M) (by omega) (by unfold maxLen;omega) (by omega) (by omega) w4.heap.size rfl ?_;intro g2 cap2 w5 hown5 hgrow5 hat5 hlt5;have y5:=YJ hgrow5 hL4 hN4.out y4;have hN5:∀ j,(Value.slice (some ⟨g2,0,none⟩) (q+1+r) cap2).ownBlock=some j→j≠wr.heap.size:=fun j hj=>aBU hat5 hj hN4.out hL4;have hB5:=hB4.out.grown hgrow5 hsz4 (fun j ej=>(hG4.out j ej).1);have hL5:=Nat.lt_of_lt_of_le hL4 hgrow5.size;have hG5:=hown5.lt;replace hown5:=Lib.hid hown5;have hsz5:=hB5.size;replace hB5:=Lib.hid hB5;replace hN5:=Lib.hid hN5;replace hG5:=Lib.hid hG5;clear hgrow5 hat5 hlt5) | (at_builtin;refine wpList_append_lies _ rfl _ _ _ rfl w.heap.size 71 i0 _ 4 40 Tryz.underlying58 hi0 hz0 hz1 hz2 rfl (by omega) (.slice (some ⟨g2,0,none⟩) (q+1+r) cap2) (q+1+r) _ rfl (hown5.out.alloc _) ⟨w5.heap.size,0,none⟩ 1 1 [.int .i64 3,.int .u8 0,.string { data:=#[] },.int .i64 0] rfl rfl (World.news_of_block (cs:=#[.int .i64 3,.int .u8 0,.string { data:=#[] },.int .i64 0]) (t:=71) (fr:=(0,0)) (heap_alloc_new w5 _)) (by simp[Value.oneCell']) (by omega) (by unfold maxLen;omega) (by omega) (by simp;omega) (w5.heap.size+1) (by simp) ?_;intro g6 cap6 w6 hown6 hgrow6 hat6 hlt6;have y6:=wI hgrow6 hL5 hN5.out y5;replace hown6:=Lib.hid hown6;have hB6:=Lib.hid ((hB5.out.alloc hsz5 _).grown hgrow6 (by simp;omega) (fun j ej=>(hG5.out j ej).1));clear hgrow6 hat6 hlt6))
       go_roundw
       case rel =>
        refine⟨k+z,L0++jJ xk::(M++[nB]),by go_num,by omega,by omega,HE2.out,?_,fun h=>by simp at h,?_,hB6.out⟩
        ·rw[HLN.out];omega
        ·rw[HLN.out,HRW.out];exact hown6.out
       case measure=>simp[intOf];omega
   ·obtain rfl:k=e:=by omega
    have HF:=Lib.hid (show pA t a k w (.returned (.tuple #[u8,.bool true])) wr by
     unfold pA
     rw[HEV.out,dT t k k (Nat.le_refl _)]
     refine⟨⟨u8,rfl,fun h=>HNL.out (by simpa using h),by simp;have:=HQ.out;omega,?_⟩,HB.out⟩
     simpa using HOW.out)
    go_wp2
    go_ret2
    exact HF.out
end Go.Proofs.YtgpihfacmpbpaaaGreatDoor.Tr
namespace Go.Proofs.YtgpihfacmpbpaaaGreatDoor.Tr
open Go.RowKit
def sI (l:List Lx.Lx) (k:Nat):Prop:=∀ i x,i<k→l[i]?=some x→(aD (aV (l.take i)).1 (aV (l.take i)).2 x).2≠2
theorem sI.zero (l:List Lx.Lx):sI l 0:=fun i x h=>absurd h (by omega)
theorem sI.succ {l:List Lx.Lx} {k:Nat} (h:sI l k) {x:Lx.Lx} (hx:l[k]?=some x) (he:(aD (aV (l.take k)).1 (aV (l.take k)).2 x).2≠2):sI l (k+1):=fun i y hi hy=>by
 rcases Nat.lt_or_ge i k with h1 | h1
 ·exact h i y h1 hy
 ·obtain rfl:i=k:=by omega
  rw[hx]at hy;cases hy;exact he
theorem TV {l:List Lx.Lx} (hp:∀ x ∈ l,yI x) {k:Nat} (hk:k≤l.length) (h:sI l k):zN (l.take k):=aBO hp k hk fun i x hi hx h1=>by
 have he:=h i x hi hx
 by_cases e1:x.kind=1
 ·exact .inl e1
 by_cases e2:x.kind=2
 ·exact .inr e2
 rw[CY e1 e2,if_pos (.inl h1)]at he
 exact absurd rfl he
theorem YO {t:List Nd} (hf:∀ x ∈ t,x.kind<256∧x.text.size≤9000):∀ n a e (L:List Lx.Lx),e - a≤n→fJ t a e=some L→∀ x ∈ L,yI x:=by
 intro n
 induction n with
 | zero=>intro a e L hn h;rw[dT t a e (by omega)]at h;cases h;intro x hx;cases hx
 | succ n ih =>
  intro a e L hn h
  by_cases hlt:a<e
  ·rw[iM t a e hlt]at h
   cases hx:t[a]? with
   | none=>rw[hx]at h;cases h
   | some x =>
    have hxf:=hf x (List.mem_of_getElem? hx)
    rw[hx]at h
    simp only[]at h
    by_cases hs:x.size<1∨(e:Int)<(a:Int)+x.size
    ·rw[if_pos hs]at h;cases h
    rw[if_neg hs]at h
    by_cases hk:x.kind=46
    ·rw[if_pos hk]at h
     by_cases h5:x.size=1
     ·rw[if_pos h5]at h
      obtain⟨R,hR,rfl⟩:=Option.map_eq_some_iff.1 h
      intro y hy
      rcases List.mem_cons.1 hy with rfl | hy
      ·exact⟨by show (0:Nat)<256;omega,hxf.2,by show (0:Nat)≤70000;omega,by show (1:Nat)≤3;omega⟩
      ·exact ih (a+1) e R (by omega) hR y hy
     ·rw[if_neg h5]at h;cases h
    ·rw[if_neg hk]at h
     obtain⟨K,hK,h3⟩:=Option.bind_eq_some_iff.1 h
     obtain⟨R,hR,rfl⟩:=Option.map_eq_some_iff.1 h3
     intro y hy
     rcases List.mem_cons.1 hy with rfl | hy
     ·exact⟨hxf.1,by show (0:Nat)≤9000;omega,by show (0:Nat)≤70000;omega,by show (2:Nat)≤3;omega⟩
     rcases List.mem_append.1 hy with hy | hy
     ·exact ih (a+1) (a+x.size.toNat) K (by omega) hK y hy
     rcases List.mem_cons.1 hy with rfl | hy
     ·exact⟨by show (0:Nat)<256;omega,by show (0:Nat)≤9000;omega,by show (0:Nat)≤70000;omega,by show (3:Nat)≤3;omega⟩
     ·exact ih (a+x.size.toNat) e R (by omega) hR y hy
  ·rw[dT t a e (by omega)]at h;cases h;intro x hx;cases hx
theorem TW {l:List Lx.Lx} {k:Nat} {x:Lx.Lx} (hx:l[k]?=some x) (st:List Nd × List Op) (d b:Bool):oB st d b (l.drop k)=if (x.kind=1∧aJ st.2=false)∨(aD st.1 st.2 x).2=2 then 2 else oB (aE st x) (d || decide ((aD st.1 st.2 x).2=5)) (b || decide ((aD st.1 st.2 x).2=4)) (l.drop (k+1)):=by
 have hk:=(List.getElem?_eq_some_iff.1 hx).1
 rw[List.drop_eq_getElem_cons hk,(List.getElem?_eq_some_iff.1 hx).2]
 rfl
def uU (x:Nd):Bool:=if x.kind=46 then decide (x.text.size≠0) else decide (x.text.size=0∧(Lx.bE x.kind).size≠0)
theorem FB {x:Nd} (h1:uU x=true) (h2:∀ j,j<x.text.size→Lx.jD (Lx.bT x.text j)=true):bO x=true:=by
 unfold bO
 unfold uU at h1
 rw[h1,Bool.true_and,List.all_eq_true]
 intro b hb
 obtain⟨j,hj⟩:=List.mem_iff_getElem?.1 hb
 have hl:=(List.getElem?_eq_some_iff.1 hj).1
 rw[Lx.bL]at hl
 have:=h2 j hl
 unfold Lx.bT at this
 rw[List.getD_eq_getElem?_getD,hj]at this
 exact this
theorem sJ {x:Nd} (h:uU x=false):bO x=false:=by
 unfold bO;unfold uU at h;rw[h];rfl
theorem zO {x:Nd} {j:Nat} (hj:j<x.text.size) (h:Lx.jD (Lx.bT x.text j)=false):bO x=false:=by
 unfold bO
 rw[Bool.and_eq_false_iff]
 refine .inr ?_
 rw[← Bool.not_eq_true,List.all_eq_true]
 intro hall
 have hm:Lx.bT x.text j ∈ Lx.aH x.text:=by
  unfold Lx.bT
  rw[List.getD_eq_getElem?_getD,List.getElem?_eq_getElem (by rw[Lx.bL];exact hj)]
  exact List.getElem_mem _
 rw[hall _ hm]at h;cases h
theorem mZ {t:List Nd} {k:Nat} {x:Nd} (hx:t[k]?=some x) (h:bO x=false):aL t=2:=by
 unfold aL
 rw[if_pos]
 rw[← Bool.not_eq_true,List.all_eq_true]
 intro hall
 rw[hall x (List.mem_of_getElem? hx)]at h;cases h
theorem OC {t:List Nd} (h:∀ (j:Nat) (x:Nd),j<t.length→t[j]?=some x→bO x=true):aL t=match fJ t 0 t.length with | none=>2 | some l=>oB ([],[root]) false false l:=by
 have h1:t.all bO=true:=List.all_eq_true.2 fun x hx=>by
  obtain⟨j,hj⟩:=List.mem_iff_getElem?.1 hx
  exact h j x (List.getElem?_eq_some_iff.1 hj).1 hj
 unfold aL
 rw[if_neg (by rw[h1];exact fun h=>Bool.noConfusion h)]
 cases fJ t 0 t.length<;>rfl
theorem YP {X:ByteArray} (h:X.size=0):X.toList.isEmpty=true∧(!X.toList.isEmpty)=false:=by
 have k1:X.toList.isEmpty=true:=by rw[ByteArray.toList_eq,List.isEmpty_iff,Array.toList_eq_nil_iff];exact Array.eq_empty_of_size_eq_zero h
 exact⟨k1,by rw[k1];rfl⟩
def aFC (l:List Lx.Lx) (w:World) (u7 u8 u9:Value) (wr:World):Prop:=∃ k dn bn:Nat,u9=.int .i64 k∧u7=.int .i64 dn∧u8=.int .i64 bn∧k≤l.length∧dn≤k∧bn≤k∧sI l k∧oB ([],[root]) false false l=oB (aV (l.take k)) (decide (0<dn)) (decide (0<bn)) (l.drop k)∧Below w.heap.size w wr
set_option maxRecDepth 100000 in
set_option maxHeartbeats 16000000 in
theorem pI (t:List Nd) (off:Nat) (v:Value) (ht:t.length≤700) (hf:Fit t) (hx9:∀ x ∈ t,x.text.size≤700) (w:World) (hv:aS off w w.heap.size v t) (z:Int) (hz:((aL t:Nat):Int)=z) :
  Calls Tryz.prog 22 #[v] w fun e w'=>e=.returned (.int .i64 z)∧Below w.heap.size w w':=by
 have HV0:=Lib.hid hv
 obtain⟨A,c,rfl,hA⟩:=hv
 have HA:=Lib.hid hA
 have HF:=Lib.hid hf
 have HX9:=Lib.hid hx9
 have HZ:=Lib.hid hz
 have hev:=TU t off (.slice A t.length c) (by omega) hf (t.length - 0) 0 t.length (Nat.le_refl _) (Nat.zero_le _) (Nat.le_refl _)
 have HEV:=Lib.hid hev
 clear hA hf hx9 hz hev
 go_enter Tryz.func22,Tryz.ntmps22
 go_wp2
 go_loopw [3] (fun u wr=>∃ k:Nat,k≤t.length∧u=.int .i64 k∧(∀ (j:Nat) (x:Nd),j<k→t[j]?=some x→bO x=true)∧Below w.heap.size w wr) (fun u _=>t.length - (intOf u).toNat)
 case atStart=>exact⟨0,by omega,rfl,fun j x h=>absurd h (by omega),Below.refl _ _⟩
 case round =>
  obtain⟨k,hk,rfl,hok,hB⟩:=hrel
  have HOK:=Lib.hid hok
  have HB:=Lib.hid hB
  have hBs:=hB.size
  clear hok
  by_cases hlt:k<t.length
  ·obtain⟨g,rfl,hg,hcell⟩:=HA.out (by omega)
   obtain⟨⟨xk,xt,xp,xs⟩,hx⟩:=e9 (l:=t) (i:=k) hlt
   have HX:=Lib.hid hx
   have hk2:=(HF.out _ (List.mem_of_getElem? hx)).1
   have hts:=HX9.out _ (List.mem_of_getElem? hx)
   simp only[]at hk2 hts
   obtain⟨d0,d1,-,-⟩:=cE hcell k _ hx
   have upr:=fun i=>World.cell?_of_block (w:=w) (a:=⟨g,i,none⟩) (hB.block g hg)
   rw[← upr]at d0 d1
   have hgr:g<wr.heap.size:=Nat.lt_of_lt_of_le hg hBs
   have j0:(0:Int)≤(k:Int):=by omega
   have j1:(k:Int)<(t.length:Int):=by omega
   clear hcell hx upr hB
   obtain⟨nm,hnm⟩:∃ nm,Lx.bE xk=nm:=⟨_,rfl⟩
   have HNM:=Lib.hid hnm
   obtain⟨hd,hhd⟩:∃ hd,uU ⟨xk,xt,xp,xs⟩=hd:=⟨_,rfl⟩
   have HHD:=Lib.hid hhd
   have HH2:=Lib.hid (show (if xk=46 then decide (xt.size≠0) else decide (xt.size=0∧nm.size≠0))=hd by rw[← hhd,← hnm];rfl)
   clear hnm hhd
   by_cases k6:xk=46
   ·have t1:((xk:Int)==46)=true:=nE k6
    have t2:((xk:Int) != 46)=false:=by rw[bne,t1];rfl
    by_cases z0:xt.size=0
    ·obtain⟨s1,s2⟩:=YP z0
     have HR:=Lib.hid (show (2:Int)=z by rw[← HZ.out,mZ HX.out (sJ (by rw[HHD.out,← HH2.out,if_pos k6,decide_eq_false (by omega)]))];rfl)
     clear k6 z0
     go_wp2
     go_ret
     exact⟨Ba.bF HR.out,HB.out⟩
    ·obtain⟨s1,s2⟩:=Lx.P8 xt (by omega)
     have HOKH:=Lib.hid (show uU ⟨xk,xt,xp,xs⟩=true by rw[HHD.out,← HH2.out,if_pos k6,decide_eq_true z0])
     clear k6 z0
     go_wp2
     go_loop [4] (fun u=>∃ j:Nat,j≤xt.size∧u=.int .i64 j∧∀ i,i<j→Lx.jD (Lx.bT xt i)=true) (fun u=>xt.size - (intOf u).toNat)
     case atStart=>exact⟨0,by omega,rfl,fun i h=>absurd h (by omega)⟩
     case round =>
      obtain⟨j,hj,rfl,hall⟩:=hrel
      have HALL:=Lib.hid hall
      clear hall
      by_cases jl:j<xt.size
      ·have E1:=Lx.cJ xt j jl
       have hb256:=Lx.eF xt j
       obtain⟨bb,hbb⟩:∃ bb,Lx.bT xt j=bb:=⟨_,rfl⟩
       rw[hbb]at E1 hb256
       have HBB:=Lib.hid hbb
       clear hbb
       by_cases i1:Ka.JK (bb:Int)=true
       ·have HI:=Lib.hid i1
        have HN:=Lib.hid (show ∀ i,i<j+1→Lx.jD (Lx.bT xt i)=true from fun i hi=>by
         rcases Nat.lt_or_ge i j with h | h
         ·exact HALL.out i h
         ·obtain rfl:i=j:=by omega
          rw[HBB.out];unfold Lx.jD;rw[HI.out];rfl)
        clear i1
        go_wp2_with (first | (go_at_call 49;refine(Ka.xK bb true hb256 HI.out _).mono ?_;rintro en w' ⟨rfl,rfl⟩))
        go_round
        case rel=>exact⟨j+1,by omega,by go_num,HN.out⟩
        case measure=>simp[intOf];omega
       ·have HI:=Lib.hid (show Ka.JK (bb:Int)=false by simpa using i1)
        clear i1
        by_cases i2:Ka.cF (bb:Int)=true
        ·have HW:=Lib.hid i2
         have HN:=Lib.hid (show ∀ i,i<j+1→Lx.jD (Lx.bT xt i)=true from fun i hi=>by
          rcases Nat.lt_or_ge i j with h | h
          ·exact HALL.out i h
          ·obtain rfl:i=j:=by omega
           rw[HBB.out];unfold Lx.jD;rw[HW.out,Bool.or_true])
         clear i2
         go_wp2_with (first | (go_at_call 49;refine(Ka.xK bb false hb256 HI.out _).mono ?_;rintro en w' ⟨rfl,rfl⟩) | (go_at_call 50;refine(Ka.eP bb true hb256 HW.out _).mono ?_;rintro en w' ⟨rfl,rfl⟩))
         go_round
         case rel=>exact⟨j+1,by omega,by go_num,HN.out⟩
         case measure=>simp[intOf];omega
        ·have HW:=Lib.hid (show Ka.cF (bb:Int)=false by simpa using i2)
         clear i2
         have HR:=Lib.hid (show (2:Int)=z by rw[← HZ.out,mZ HX.out (zO jl (show Lx.jD (Lx.bT xt j)=false by rw[HBB.out];unfold Lx.jD;rw[HI.out,HW.out];rfl))];rfl)
         go_wp2_with (first | (go_at_call 49;refine(Ka.xK bb false hb256 HI.out _).mono ?_;rintro en w' ⟨rfl,rfl⟩) | (go_at_call 50;refine(Ka.eP bb false hb256 HW.out _).mono ?_;rintro en w' ⟨rfl,rfl⟩))
         go_ret
         exact⟨Ba.bF HR.out,HB.out⟩
      ·obtain rfl:j=xt.size:=by omega
       have HN:=Lib.hid (FB (x:=⟨xk,xt,xp,xs⟩) HOKH.out HALL.out)
       have HO2:=Lib.hid (show ∀ (j:Nat) (x:Nd),j<k+1→t[j]?=some x→bO x=true from fun j x hj hx=>by
        rcases Nat.lt_or_ge j k with h | h
        ·exact HOK.out j x h hx
        ·obtain rfl:j=k:=by omega
         rw[HX.out]at hx;cases hx;exact HN.out)
       go_wp2
       go_roundw
       case rel=>exact⟨k+1,by omega,by go_num,HO2.out,HB.out⟩
       case measure=>simp[intOf];omega
   ·have t1:((xk:Int)==46)=false:=kZ k6
    have t2:((xk:Int) != 46)=true:=by rw[bne,t1];rfl
    by_cases z0:xt.size=0
    ·obtain⟨s1,s2⟩:=YP z0
     by_cases n0:nm.size=0
     ·obtain⟨s3,s4⟩:=YP n0
      have HR:=Lib.hid (show (2:Int)=z by rw[← HZ.out,mZ HX.out (sJ (by rw[HHD.out,← HH2.out,if_neg k6,decide_eq_false (fun h=>h.2 n0)]))];rfl)
      clear k6 z0 n0
      go_wp2_with (first | (go_at_call 48;refine(Lx.JW xk hk2 nm HNM.out _ rfl _).mono ?_;rintro en w3 ⟨rfl,hb3⟩;have d1':=(World.cell?_of_block (w:=wr) (a:=⟨g,off+k * 4+1,none⟩) (hb3.block g hgr)).trans d1;have HB3:=Lib.hid (Ba.chain HB.out HB.out.size hb3);clear hb3))
      go_ret
      exact⟨Ba.bF HR.out,HB3.out⟩
     ·obtain⟨s3,s4⟩:=Lx.P8 nm (by omega)
      have HOKH:=Lib.hid (show uU ⟨xk,xt,xp,xs⟩=true by rw[HHD.out,← HH2.out,if_neg k6,decide_eq_true ⟨z0,n0⟩])
      clear k6 z0 n0
      go_wp2_with (first | (go_at_call 48;refine(Lx.JW xk hk2 nm HNM.out _ rfl _).mono ?_;rintro en w3 ⟨rfl,hb3⟩;have d1':=(World.cell?_of_block (w:=wr) (a:=⟨g,off+k * 4+1,none⟩) (hb3.block g hgr)).trans d1;have HB3:=Lib.hid (Ba.chain HB.out HB.out.size hb3);clear hb3))
      go_loop [4] (fun u=>∃ j:Nat,j≤xt.size∧u=.int .i64 j∧∀ i,i<j→Lx.jD (Lx.bT xt i)=true) (fun u=>xt.size - (intOf u).toNat)
      case atStart=>exact⟨0,by omega,rfl,fun i h=>absurd h (by omega)⟩
      case round =>
       obtain⟨j,hj,rfl,hall⟩:=hrel
       have HALL:=Lib.hid hall
       clear hall
       by_cases jl:j<xt.size
       ·have E1:=Lx.cJ xt j jl
        have hb256:=Lx.eF xt j
        obtain⟨bb,hbb⟩:∃ bb,Lx.bT xt j=bb:=⟨_,rfl⟩
        rw[hbb]at E1 hb256
        have HBB:=Lib.hid hbb
        clear hbb
        by_cases i1:Ka.JK (bb:Int)=true
        ·have HI:=Lib.hid i1
         have HN:=Lib.hid (show ∀ i,i<j+1→Lx.jD (Lx.bT xt i)=true from fun i hi=>by
          rcases Nat.lt_or_ge i j with h | h
          ·exact HALL.out i h
          ·obtain rfl:i=j:=by omega
           rw[HBB.out];unfold Lx.jD;rw[HI.out];rfl)
         clear i1
         go_wp2_with (first | (go_at_call 49;refine(Ka.xK bb true hb256 HI.out _).mono ?_;rintro en w' ⟨rfl,rfl⟩))
         go_round
         case rel=>exact⟨j+1,by omega,by go_num,HN.out⟩
         case measure=>simp[intOf];omega
        ·have HI:=Lib.hid (show Ka.JK (bb:Int)=false by simpa using i1)
         clear i1
         by_cases i2:Ka.cF (bb:Int)=true
         ·have HW:=Lib.hid i2
          have HN:=Lib.hid (show ∀ i,i<j+1→Lx.jD (Lx.bT xt i)=true from fun i hi=>by
           rcases Nat.lt_or_ge i j with h | h
           ·exact HALL.out i h
           ·obtain rfl:i=j:=by omega
            rw[HBB.out];unfold Lx.jD;rw[HW.out,Bool.or_true])
          clear i2
          go_wp2_with (first | (go_at_call 49;refine(Ka.xK bb false hb256 HI.out _).mono ?_;rintro en w' ⟨rfl,rfl⟩) | (go_at_call 50;refine(Ka.eP bb true hb256 HW.out _).mono ?_;rintro en w' ⟨rfl,rfl⟩))
          go_round
          case rel=>exact⟨j+1,by omega,by go_num,HN.out⟩
          case measure=>simp[intOf];omega
         ·have HW:=Lib.hid (show Ka.cF (bb:Int)=false by simpa using i2)
          clear i2
          have HR:=Lib.hid (show (2:Int)=z by rw[← HZ.out,mZ HX.out (zO jl (show Lx.jD (Lx.bT xt j)=false by rw[HBB.out];unfold Lx.jD;rw[HI.out,HW.out];rfl))];rfl)
          go_wp2_with (first | (go_at_call 49;refine(Ka.xK bb false hb256 HI.out _).mono ?_;rintro en w' ⟨rfl,rfl⟩) | (go_at_call 50;refine(Ka.eP bb false hb256 HW.out _).mono ?_;rintro en w' ⟨rfl,rfl⟩))
          go_ret
          exact⟨Ba.bF HR.out,HB3.out⟩
       ·obtain rfl:j=xt.size:=by omega
        have HN:=Lib.hid (FB (x:=⟨xk,xt,xp,xs⟩) HOKH.out HALL.out)
        have HO2:=Lib.hid (show ∀ (j:Nat) (x:Nd),j<k+1→t[j]?=some x→bO x=true from fun j x hj hx=>by
         rcases Nat.lt_or_ge j k with h | h
         ·exact HOK.out j x h hx
         ·obtain rfl:j=k:=by omega
          rw[HX.out]at hx;cases hx;exact HN.out)
        go_wp2
        go_roundw
        case rel=>exact⟨k+1,by omega,by go_num,HO2.out,HB3.out⟩
        case measure=>simp[intOf];omega
    ·obtain⟨s1,s2⟩:=Lx.P8 xt (by omega)
     have HR:=Lib.hid (show (2:Int)=z by rw[← HZ.out,mZ HX.out (sJ (by rw[HHD.out,← HH2.out,if_neg k6,decide_eq_false (fun h=>z0 h.1)]))];rfl)
     clear k6 z0
     go_wp2
     go_ret
     exact⟨Ba.bF HR.out,HB.out⟩
  ·obtain rfl:k=t.length:=by omega
   have HCV:=Lib.hid (OC HOK.out)
   have HV1:=Lib.hid ((HV0.out.below hB).mono hBs)
   clear hB
   cases hM:fJ t 0 t.length with
   | none =>
    have HM:=Lib.hid hM
    have HR:=Lib.hid (show (2:Int)=z by rw[← HZ.out,HCV.out,hM];rfl)
    clear hM
    go_wp2_with (go_at_call 51;refine(HEV.out _ HV1.out).mono ?_;rintro en w3 hev;obtain⟨rfl,hb3⟩:=hev.P9 HM.out;replace hb3:=Lib.hid hb3;clear hev)
    go_ret
    exact⟨Ba.bF HR.out,Ba.chain HB.out HB.out.size hb3.out⟩
   | some l =>
    have HM:=Lib.hid hM
    have hll:l.length≤1400:=by have:=YL hM;omega
    have HPX:=Lib.hid (YO (fun x hx=>⟨(HF.out x hx).1,by have:=HX9.out x hx;omega⟩) _ _ _ l (Nat.le_refl _) hM)
    have HRZ:=Lib.hid (show ((oB ([],[root]) false false l:Nat):Int)=z by rw[← HZ.out,HCV.out,hM])
    clear hM
    go_wp2_with fail
    refine(HEV.out _ HV1.out).mono ?_
    rintro en w3 hev
    obtain⟨⟨v3,rfl,-,-,own3⟩,hb3⟩:=hev.GX HM.out
    have HL3:=Lib.hid (Ba.Reads.kC aDU rfl own3)
    obtain⟨A3,c3,hv3,hc3⟩:=aW own3
    subst hv3
    have HC3:=Lib.hid hc3
    have HB3:=Lib.hid (Ba.chain HB.out HB.out.size hb3)
    clear hev own3 hb3 hc3
    go_wp2
    go_loopw [7,8,9] (fun u7 u8 u9 wr=>aFC l w3 u7 u8 u9 wr) (fun _ _ u9 _=>l.length - (intOf u9).toNat)
    case atStart=>exact⟨0,0,0,rfl,rfl,rfl,by omega,by omega,by omega,sI.zero l,rfl,Below.refl _ _⟩
    case round =>
     obtain⟨i,dn,bn,rfl,rfl,rfl,hil,hdn,hbn,hnf,hrun,hbr⟩:=hrel
     have HNF:=Lib.hid hnf
     have HRUN:=Lib.hid hrun
     have HBR:=Lib.hid hbr
     have hv2:=(HL3.out.below hbr).mono hbr.size
     have HB0:=Lib.hid (Ba.chain HB3.out HB3.out.size hbr)
     clear hnf hrun hbr
     by_cases hlt2:i<l.length
     ·obtain⟨A',c',e1,hA3⟩:=hv2
      obtain⟨gl,e2,hgl,hcell⟩:=hA3 (by omega)
      subst e2
      obtain⟨rfl,-,rfl⟩:=Value.slice.inj e1
      obtain⟨⟨xk,xn,xt,xp⟩,hx⟩:=e9 hlt2
      have HX:=Lib.hid hx
      obtain⟨⟨t2,p⟩,hst⟩:∃ st,aV (l.take i)=st:=⟨_,rfl⟩
      have HSF:=Lib.hid (TV HPX.out hil HNF.out)
      have hgd:=HSF.out.TQ i (by rw[List.length_take];omega)
      rw[List.take_take,Nat.min_self,hst]at hgd
      have hi9:i≤9000:=by omega
      have HKD:=Lib.hid (o8 hi9 hgd.op)
      have HP0:=Lib.hid (show 0<p.length from hgd.pos)
      have HPL:=Lib.hid (show p.length≤70000 by have:=hgd.aFA;simp only[]at this;omega)
      have HGD:=Lib.hid hgd
      have HST:=Lib.hid hst
      have HRW:=Lib.hid (YH (c:=c3) hgl hcell i hil)
      have HPK:=Lib.hid (HPX.out _ (List.mem_of_getElem? hx))
      obtain⟨⟨a,e⟩,hae⟩:∃ ae,aD t2 p ⟨xk,xn,xt,xp⟩=ae:=⟨_,rfl⟩
      have HAE:=Lib.hid hae
      have hec:=tQ t2 p ⟨xk,xn,xt,xp⟩
      rw[hae]at hec
      simp only[]at hec
      obtain⟨tx,htx⟩:∃ tx,aJ p=tx:=⟨_,rfl⟩
      have HTX:=Lib.hid htx
      have HRD:=Lib.hid (show ((oB ([],[root]) false false l:Nat):Int)=((if (xk=1∧tx=false)∨e=2 then 2 else oB (aE (t2,p) ⟨xk,xn,xt,xp⟩) (decide (0<dn) || decide (e=5)) (decide (0<bn) || decide (e=4)) (l.drop (i+1)):Nat):Int) by
       rw[HRUN.out,TW HX.out,HST.out];simp only[];rw[hae,htx])
      have HRS:=Lib.hid (show aV (l.take (i+1))=aE (t2,p) ⟨xk,xn,xt,xp⟩ by rw[CV HX.out,HST.out])
      have d0:=hcell i _ hx 0 _ rfl
      have d1:=hcell i _ hx 1 _ rfl
      have d2:=hcell i _ hx 2 _ rfl
      have d3:=hcell i _ hx 3 _ rfl
      simp only[Nat.zero_add,Nat.add_zero]at d0 d1 d2 d3
      have j0:(0:Int)≤(i:Int):=by omega
      have j1:(i:Int)<(l.length:Int):=by omega
      have hcc:l.length≤c3:=HC3.out
      have j2:(i:Int)≤(c3:Int):=by omega
      clear hcell hx hA3 e1 hst hgd hae hcc htx
      by_cases e1:xk=1
      ·have t1:((xk:Int)==1)=true:=nE e1
       cases tx
       ·have HR:=Lib.hid (show (2:Int)=z by rw[← HRZ.out,HRD.out,if_pos (.inl ⟨e1,rfl⟩)];rfl)
        clear e1 hec
        go_wp2_with (first | (go_at_call 52;refine(l8 _ (l.take i) (by rw[List.length_take];omega) HSF.out _ HRW.out).mono ?_;rintro en w4 ⟨V,T,rfl,hR,hb4⟩;rw[HST.out]at hR;simp only[]at hR;obtain⟨AT,cT,hTT⟩:=hR.qW;subst hTT;have up4:=fun i=>World.cell?_of_block (w:=wr) (a:=⟨gl,i,none⟩) (hb4.block gl hgl);have y0:=(up4 _).trans d0;have y1:=(up4 _).trans d1;have y2:=(up4 _).trans d2;have y3:=(up4 _).trans d3;have hgl4:=Nat.lt_of_lt_of_le hgl hb4.size;replace hR:=Lib.hid hR;replace hb4:=Lib.hid hb4;clear up4) | (go_at_call 53;refine(aO _ p HP0.out HPL.out HKD.out _ _ hR.out.reads false HTX.out).mono ?_;rintro en w5 ⟨rfl,hb5⟩;have up5:=fun i=>World.cell?_of_block (w:=w4) (a:=⟨gl,i,none⟩) (hb5.block gl hgl4);have x0:=(up5 _).trans y0;have x1:=(up5 _).trans y1;have x2:=(up5 _).trans y2;have x3:=(up5 _).trans y3;have hR5:=Lib.hid (hR.out.below hb5);replace hb5:=Lib.hid hb5;clear up5))
        go_ret
        exact⟨Ba.bF HR.out,Ba.chain (Ba.chain HB0.out HB0.out.size hb4.out) (Ba.chain HB0.out HB0.out.size hb4.out).size hb5.out⟩
       ·have hne:xk=1→true=false→False:=fun _ h=>by cases h
        clear e1
        by_cases e2:e=2
        ·have g2:((e:Int)==2)=true:=nE e2
         have HR:=Lib.hid (show ((e:Nat):Int)=z by rw[← HRZ.out,HRD.out,if_pos (.inr e2),e2])
         clear e2 hec hne
         go_wp2_with (first | (go_at_call 52;refine(l8 _ (l.take i) (by rw[List.length_take];omega) HSF.out _ HRW.out).mono ?_;rintro en w4 ⟨V,T,rfl,hR,hb4⟩;rw[HST.out]at hR;simp only[]at hR;obtain⟨AT,cT,hTT⟩:=hR.qW;subst hTT;have up4:=fun i=>World.cell?_of_block (w:=wr) (a:=⟨gl,i,none⟩) (hb4.block gl hgl);have y0:=(up4 _).trans d0;have y1:=(up4 _).trans d1;have y2:=(up4 _).trans d2;have y3:=(up4 _).trans d3;have hgl4:=Nat.lt_of_lt_of_le hgl hb4.size;replace hR:=Lib.hid hR;replace hb4:=Lib.hid hb4;clear up4) | (go_at_call 53;refine(aO _ p HP0.out HPL.out HKD.out _ _ hR.out.reads true HTX.out).mono ?_;rintro en w5 ⟨rfl,hb5⟩;have up5:=fun i=>World.cell?_of_block (w:=w4) (a:=⟨gl,i,none⟩) (hb5.block gl hgl4);have x0:=(up5 _).trans y0;have x1:=(up5 _).trans y1;have x2:=(up5 _).trans y2;have x3:=(up5 _).trans y3;have hR5:=Lib.hid (hR.out.below hb5);replace hb5:=Lib.hid hb5;clear up5) | (go_at_call 54;refine(nV _ AT cT t2 p xk xn xp xt HPK.out i hi9 HGD.out _ hR5.out.reads a e HAE.out).mono ?_;rintro en w6 ⟨rfl,hb6⟩;replace hb6:=Lib.hid hb6))
         go_ret
         exact⟨Ba.bF HR.out,(Ba.chain (Ba.chain (Ba.chain HB0.out HB0.out.size hb4.out) (Ba.chain HB0.out HB0.out.size hb4.out).size hb5.out) (Nat.le_trans (Ba.chain HB0.out HB0.out.size hb4.out).size hb5.out.size) hb6.out)⟩
        have g2:((e:Int)==2)=false:=kZ e2
        have HRN:=Lib.hid (show ((oB ([],[root]) false false l:Nat):Int)=((oB (aE (t2,p) ⟨xk,xn,xt,xp⟩) (decide (0<dn) || decide (e=5)) (decide (0<bn) || decide (e=4)) (l.drop (i+1)):Nat):Int) by rw[HRD.out,if_neg (fun h=>h.elim (fun h=>hne h.1 h.2) e2)])
        have HNN:=Lib.hid (HNF.out.succ HX.out (by rw[HST.out];simp only[];rw[HAE.out];exact e2))
        clear hne
        by_cases e5:e=5
        ·have g5:((e:Int)==5)=true:=nE e5
         have g4:((e:Int)==4)=false:=kZ (show e≠4 by omega)
         have HD:=Lib.hid (show (decide (0<dn) || decide (e=5))=decide (0<dn+1)∧(decide (0<bn) || decide (e=4))=decide (0<bn) by rw[decide_eq_true e5,Bool.or_true,decide_eq_true (by omega:0<dn+1),decide_eq_false (by omega:¬ e=4),Bool.or_false];exact⟨rfl,rfl⟩)
         clear e2 e5 hec
         go_wp2_with (first | (go_at_call 52;refine(l8 _ (l.take i) (by rw[List.length_take];omega) HSF.out _ HRW.out).mono ?_;rintro en w4 ⟨V,T,rfl,hR,hb4⟩;rw[HST.out]at hR;simp only[]at hR;obtain⟨AT,cT,hTT⟩:=hR.qW;subst hTT;have up4:=fun i=>World.cell?_of_block (w:=wr) (a:=⟨gl,i,none⟩) (hb4.block gl hgl);have y0:=(up4 _).trans d0;have y1:=(up4 _).trans d1;have y2:=(up4 _).trans d2;have y3:=(up4 _).trans d3;have hgl4:=Nat.lt_of_lt_of_le hgl hb4.size;replace hR:=Lib.hid hR;replace hb4:=Lib.hid hb4;clear up4) | (go_at_call 53;refine(aO _ p HP0.out HPL.out HKD.out _ _ hR.out.reads true HTX.out).mono ?_;rintro en w5 ⟨rfl,hb5⟩;have up5:=fun i=>World.cell?_of_block (w:=w4) (a:=⟨gl,i,none⟩) (hb5.block gl hgl4);have x0:=(up5 _).trans y0;have x1:=(up5 _).trans y1;have x2:=(up5 _).trans y2;have x3:=(up5 _).trans y3;have hR5:=Lib.hid (hR.out.below hb5);replace hb5:=Lib.hid hb5;clear up5) | (go_at_call 54;refine(nV _ AT cT t2 p xk xn xp xt HPK.out i hi9 HGD.out _ hR5.out.reads a e HAE.out).mono ?_;rintro en w6 ⟨rfl,hb6⟩;replace hb6:=Lib.hid hb6))
         go_roundw
         case rel=>exact⟨i+1,dn+1,bn,by go_num,by go_num,by go_num,by omega,by omega,by omega,HNN.out,by rw[HRS.out,← HD.out.1,← HD.out.2];exact Int.ofNat.inj HRN.out,(Ba.chain (Ba.chain (Ba.chain HBR.out HBR.out.size hb4.out) (Ba.chain HBR.out HBR.out.size hb4.out).size hb5.out) (Nat.le_trans (Ba.chain HBR.out HBR.out.size hb4.out).size hb5.out.size) hb6.out)⟩
         case measure=>simp[intOf];omega
        by_cases e4:e=4
        ·have g5:((e:Int)==5)=false:=kZ e5
         have g4:((e:Int)==4)=true:=nE e4
         have HD:=Lib.hid (show (decide (0<dn) || decide (e=5))=decide (0<dn)∧(decide (0<bn) || decide (e=4))=decide (0<bn+1) by rw[decide_eq_true e4,Bool.or_true,decide_eq_true (by omega:0<bn+1),decide_eq_false e5,Bool.or_false];exact⟨rfl,rfl⟩)
         clear e2 e5 e4 hec
         go_wp2_with (first | (go_at_call 52;refine(l8 _ (l.take i) (by rw[List.length_take];omega) HSF.out _ HRW.out).mono ?_;rintro en w4 ⟨V,T,rfl,hR,hb4⟩;rw[HST.out]at hR;simp only[]at hR;obtain⟨AT,cT,hTT⟩:=hR.qW;subst hTT;have up4:=fun i=>World.cell?_of_block (w:=wr) (a:=⟨gl,i,none⟩) (hb4.block gl hgl);have y0:=(up4 _).trans d0;have y1:=(up4 _).trans d1;have y2:=(up4 _).trans d2;have y3:=(up4 _).trans d3;have hgl4:=Nat.lt_of_lt_of_le hgl hb4.size;replace hR:=Lib.hid hR;replace hb4:=Lib.hid hb4;clear up4) | (go_at_call 53;refine(aO _ p HP0.out HPL.out HKD.out _ _ hR.out.reads true HTX.out).mono ?_;rintro en w5 ⟨rfl,hb5⟩;have up5:=fun i=>World.cell?_of_block (w:=w4) (a:=⟨gl,i,none⟩) (hb5.block gl hgl4);have x0:=(up5 _).trans y0;have x1:=(up5 _).trans y1;have x2:=(up5 _).trans y2;have x3:=(up5 _).trans y3;have hR5:=Lib.hid (hR.out.below hb5);replace hb5:=Lib.hid hb5;clear up5) | (go_at_call 54;refine(nV _ AT cT t2 p xk xn xp xt HPK.out i hi9 HGD.out _ hR5.out.reads a e HAE.out).mono ?_;rintro en w6 ⟨rfl,hb6⟩;replace hb6:=Lib.hid hb6))
         go_roundw
         case rel=>exact⟨i+1,dn,bn+1,by go_num,by go_num,by go_num,by omega,by omega,by omega,HNN.out,by rw[HRS.out,← HD.out.1,← HD.out.2];exact Int.ofNat.inj HRN.out,(Ba.chain (Ba.chain (Ba.chain HBR.out HBR.out.size hb4.out) (Ba.chain HBR.out HBR.out.size hb4.out).size hb5.out) (Nat.le_trans (Ba.chain HBR.out HBR.out.size hb4.out).size hb5.out.size) hb6.out)⟩
         case measure=>simp[intOf];omega
        ·have g5:((e:Int)==5)=false:=kZ e5
         have g4:((e:Int)==4)=false:=kZ e4
         have HD:=Lib.hid (show (decide (0<dn) || decide (e=5))=decide (0<dn)∧(decide (0<bn) || decide (e=4))=decide (0<bn) by rw[decide_eq_false e5,Bool.or_false,decide_eq_false e4,Bool.or_false];exact⟨rfl,rfl⟩)
         clear e2 e5 e4 hec
         go_wp2_with (first | (go_at_call 52;refine(l8 _ (l.take i) (by rw[List.length_take];omega) HSF.out _ HRW.out).mono ?_;rintro en w4 ⟨V,T,rfl,hR,hb4⟩;rw[HST.out]at hR;simp only[]at hR;obtain⟨AT,cT,hTT⟩:=hR.qW;subst hTT;have up4:=fun i=>World.cell?_of_block (w:=wr) (a:=⟨gl,i,none⟩) (hb4.block gl hgl);have y0:=(up4 _).trans d0;have y1:=(up4 _).trans d1;have y2:=(up4 _).trans d2;have y3:=(up4 _).trans d3;have hgl4:=Nat.lt_of_lt_of_le hgl hb4.size;replace hR:=Lib.hid hR;replace hb4:=Lib.hid hb4;clear up4) | (go_at_call 53;refine(aO _ p HP0.out HPL.out HKD.out _ _ hR.out.reads true HTX.out).mono ?_;rintro en w5 ⟨rfl,hb5⟩;have up5:=fun i=>World.cell?_of_block (w:=w4) (a:=⟨gl,i,none⟩) (hb5.block gl hgl4);have x0:=(up5 _).trans y0;have x1:=(up5 _).trans y1;have x2:=(up5 _).trans y2;have x3:=(up5 _).trans y3;have hR5:=Lib.hid (hR.out.below hb5);replace hb5:=Lib.hid hb5;clear up5) | (go_at_call 54;refine(nV _ AT cT t2 p xk xn xp xt HPK.out i hi9 HGD.out _ hR5.out.reads a e HAE.out).mono ?_;rintro en w6 ⟨rfl,hb6⟩;replace hb6:=Lib.hid hb6))
         go_roundw
         case rel=>exact⟨i+1,dn,bn,by go_num,by go_num,by go_num,by omega,by omega,by omega,HNN.out,by rw[HRS.out,← HD.out.1,← HD.out.2];exact Int.ofNat.inj HRN.out,(Ba.chain (Ba.chain (Ba.chain HBR.out HBR.out.size hb4.out) (Ba.chain HBR.out HBR.out.size hb4.out).size hb5.out) (Nat.le_trans (Ba.chain HBR.out HBR.out.size hb4.out).size hb5.out.size) hb6.out)⟩
         case measure=>simp[intOf];omega
      ·have t1:((xk:Int)==1)=false:=kZ e1
       have hne:xk=1→tx=false→False:=fun h _=>e1 h
       clear e1
       by_cases e2:e=2
       ·have g2:((e:Int)==2)=true:=nE e2
        have HR:=Lib.hid (show ((e:Nat):Int)=z by rw[← HRZ.out,HRD.out,if_pos (.inr e2),e2])
        clear e2 hec hne
        go_wp2_with (first | (go_at_call 52;refine(l8 _ (l.take i) (by rw[List.length_take];omega) HSF.out _ HRW.out).mono ?_;rintro en w4 ⟨V,T,rfl,hR,hb4⟩;rw[HST.out]at hR;simp only[]at hR;obtain⟨AT,cT,hTT⟩:=hR.qW;subst hTT;have up4:=fun i=>World.cell?_of_block (w:=wr) (a:=⟨gl,i,none⟩) (hb4.block gl hgl);have y0:=(up4 _).trans d0;have y1:=(up4 _).trans d1;have y2:=(up4 _).trans d2;have y3:=(up4 _).trans d3;have hgl4:=Nat.lt_of_lt_of_le hgl hb4.size;replace hR:=Lib.hid hR;replace hb4:=Lib.hid hb4;clear up4) | (go_at_call 54;refine(nV _ AT cT t2 p xk xn xp xt HPK.out i hi9 HGD.out _ hR.out.reads a e HAE.out).mono ?_;rintro en w6 ⟨rfl,hb6⟩;replace hb6:=Lib.hid hb6))
        go_ret
        exact⟨Ba.bF HR.out,(Ba.chain (Ba.chain HB0.out HB0.out.size hb4.out) (Ba.chain HB0.out HB0.out.size hb4.out).size hb6.out)⟩
       have g2:((e:Int)==2)=false:=kZ e2
       have HRN:=Lib.hid (show ((oB ([],[root]) false false l:Nat):Int)=((oB (aE (t2,p) ⟨xk,xn,xt,xp⟩) (decide (0<dn) || decide (e=5)) (decide (0<bn) || decide (e=4)) (l.drop (i+1)):Nat):Int) by rw[HRD.out,if_neg (fun h=>h.elim (fun h=>hne h.1 h.2) e2)])
       have HNN:=Lib.hid (HNF.out.succ HX.out (by rw[HST.out];simp only[];rw[HAE.out];exact e2))
       clear hne
       by_cases e5:e=5
       ·have g5:((e:Int)==5)=true:=nE e5
        have g4:((e:Int)==4)=false:=kZ (show e≠4 by omega)
        have HD:=Lib.hid (show (decide (0<dn) || decide (e=5))=decide (0<dn+1)∧(decide (0<bn) || decide (e=4))=decide (0<bn) by rw[decide_eq_true e5,Bool.or_true,decide_eq_true (by omega:0<dn+1),decide_eq_false (by omega:¬ e=4),Bool.or_false];exact⟨rfl,rfl⟩)
        clear e2 e5 hec
        go_wp2_with (first | (go_at_call 52;refine(l8 _ (l.take i) (by rw[List.length_take];omega) HSF.out _ HRW.out).mono ?_;rintro en w4 ⟨V,T,rfl,hR,hb4⟩;rw[HST.out]at hR;simp only[]at hR;obtain⟨AT,cT,hTT⟩:=hR.qW;subst hTT;have up4:=fun i=>World.cell?_of_block (w:=wr) (a:=⟨gl,i,none⟩) (hb4.block gl hgl);have y0:=(up4 _).trans d0;have y1:=(up4 _).trans d1;have y2:=(up4 _).trans d2;have y3:=(up4 _).trans d3;have hgl4:=Nat.lt_of_lt_of_le hgl hb4.size;replace hR:=Lib.hid hR;replace hb4:=Lib.hid hb4;clear up4) | (go_at_call 54;refine(nV _ AT cT t2 p xk xn xp xt HPK.out i hi9 HGD.out _ hR.out.reads a e HAE.out).mono ?_;rintro en w6 ⟨rfl,hb6⟩;replace hb6:=Lib.hid hb6))
        go_roundw
        case rel=>exact⟨i+1,dn+1,bn,by go_num,by go_num,by go_num,by omega,by omega,by omega,HNN.out,by rw[HRS.out,← HD.out.1,← HD.out.2];exact Int.ofNat.inj HRN.out,(Ba.chain (Ba.chain HBR.out HBR.out.size hb4.out) (Ba.chain HBR.out HBR.out.size hb4.out).size hb6.out)⟩
        case measure=>simp[intOf];omega
       by_cases e4:e=4
       ·have g5:((e:Int)==5)=false:=kZ e5
        have g4:((e:Int)==4)=true:=nE e4
        have HD:=Lib.hid (show (decide (0<dn) || decide (e=5))=decide (0<dn)∧(decide (0<bn) || decide (e=4))=decide (0<bn+1) by rw[decide_eq_true e4,Bool.or_true,decide_eq_true (by omega:0<bn+1),decide_eq_false e5,Bool.or_false];exact⟨rfl,rfl⟩)
        clear e2 e5 e4 hec
        go_wp2_with (first | (go_at_call 52;refine(l8 _ (l.take i) (by rw[List.length_take];omega) HSF.out _ HRW.out).mono ?_;rintro en w4 ⟨V,T,rfl,hR,hb4⟩;rw[HST.out]at hR;simp only[]at hR;obtain⟨AT,cT,hTT⟩:=hR.qW;subst hTT;have up4:=fun i=>World.cell?_of_block (w:=wr) (a:=⟨gl,i,none⟩) (hb4.block gl hgl);have y0:=(up4 _).trans d0;have y1:=(up4 _).trans d1;have y2:=(up4 _).trans d2;have y3:=(up4 _).trans d3;have hgl4:=Nat.lt_of_lt_of_le hgl hb4.size;replace hR:=Lib.hid hR;replace hb4:=Lib.hid hb4;clear up4) | (go_at_call 54;refine(nV _ AT cT t2 p xk xn xp xt HPK.out i hi9 HGD.out _ hR.out.reads a e HAE.out).mono ?_;rintro en w6 ⟨rfl,hb6⟩;replace hb6:=Lib.hid hb6))
        go_roundw
        case rel=>exact⟨i+1,dn,bn+1,by go_num,by go_num,by go_num,by omega,by omega,by omega,HNN.out,by rw[HRS.out,← HD.out.1,← HD.out.2];exact Int.ofNat.inj HRN.out,(Ba.chain (Ba.chain HBR.out HBR.out.size hb4.out) (Ba.chain HBR.out HBR.out.size hb4.out).size hb6.out)⟩
        case measure=>simp[intOf];omega
       ·have g5:((e:Int)==5)=false:=kZ e5
        have g4:((e:Int)==4)=false:=kZ e4
        have HD:=Lib.hid (show (decide (0<dn) || decide (e=5))=decide (0<dn)∧(decide (0<bn) || decide (e=4))=decide (0<bn) by rw[decide_eq_false e5,Bool.or_false,decide_eq_false e4,Bool.or_false];exact⟨rfl,rfl⟩)
        clear e2 e5 e4 hec
        go_wp2_with (first | (go_at_call 52;refine(l8 _ (l.take i) (by rw[List.length_take];omega) HSF.out _ HRW.out).mono ?_;rintro en w4 ⟨V,T,rfl,hR,hb4⟩;rw[HST.out]at hR;simp only[]at hR;obtain⟨AT,cT,hTT⟩:=hR.qW;subst hTT;have up4:=fun i=>World.cell?_of_block (w:=wr) (a:=⟨gl,i,none⟩) (hb4.block gl hgl);have y0:=(up4 _).trans d0;have y1:=(up4 _).trans d1;have y2:=(up4 _).trans d2;have y3:=(up4 _).trans d3;have hgl4:=Nat.lt_of_lt_of_le hgl hb4.size;replace hR:=Lib.hid hR;replace hb4:=Lib.hid hb4;clear up4) | (go_at_call 54;refine(nV _ AT cT t2 p xk xn xp xt HPK.out i hi9 HGD.out _ hR.out.reads a e HAE.out).mono ?_;rintro en w6 ⟨rfl,hb6⟩;replace hb6:=Lib.hid hb6))
        go_roundw
        case rel=>exact⟨i+1,dn,bn,by go_num,by go_num,by go_num,by omega,by omega,by omega,HNN.out,by rw[HRS.out,← HD.out.1,← HD.out.2];exact Int.ofNat.inj HRN.out,(Ba.chain (Ba.chain HBR.out HBR.out.size hb4.out) (Ba.chain HBR.out HBR.out.size hb4.out).size hb6.out)⟩
        case measure=>simp[intOf];omega
     ·obtain rfl:i=l.length:=by omega
      have HRD:=Lib.hid (show (((if decide (0<dn)=true then 5 else if decide (0<bn)=true then 4 else 0:Nat):Nat):Int)=z by rw[← HRZ.out,HRUN.out,List.drop_length];rfl)
      clear hv2
      by_cases d0:0<dn
      ·have g1:decide ((0:Int)<(dn:Int))=true:=decide_eq_true (by omega)
       have HR:=Lib.hid (show (5:Int)=z by rw[← HRD.out,if_pos (decide_eq_true d0)];rfl)
       go_wp2
       go_ret
       exact⟨Ba.bF HR.out,HB0.out⟩
      ·have g1:decide ((0:Int)<(dn:Int))=false:=decide_eq_false (by omega)
       obtain rfl:dn=0:=by omega
       by_cases b0:0<bn
       ·have g2:decide ((0:Int)<(bn:Int))=true:=decide_eq_true (by omega)
        have HR:=Lib.hid (show (4:Int)=z by rw[← HRD.out,if_neg (by simp),if_pos (decide_eq_true b0)];rfl)
        go_wp2
        go_ret
        exact⟨Ba.bF HR.out,HB0.out⟩
       ·obtain rfl:bn=0:=by omega
        have HR:=Lib.hid (show (0:Int)=z by rw[← HRD.out,if_neg (by simp),if_neg (by simp)];rfl)
        go_wp2
        go_ret
        exact⟨Ba.bF HR.out,HB0.out⟩
end Go.Proofs.YtgpihfacmpbpaaaGreatDoor.Tr
