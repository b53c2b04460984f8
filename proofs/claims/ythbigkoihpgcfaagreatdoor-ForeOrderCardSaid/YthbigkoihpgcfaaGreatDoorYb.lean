/-
  Put together.
-/
import Derived.Test.YthbigkoihpgcfaaGreatDoorYa
import Derived.Lib.ConvBytes
import Derived.Laws.IdiomStrings
open Go.Lib (hid)
set_option maxRecDepth 100000
set_option maxHeartbeats 16000000
namespace Go.Proofs.YthbigkoihpgcfaaGreatDoor.Cu
open Go.RowKit Ba Ru Ck Ti Pa Fl
theorem RU:∀ n:Fin 256,Hc.cls (n.val:Int)=2→bits .or .u8 ((n.val:Nat):Int) 32=Cl.l9 ((n.val:Nat):Int):=by decide +kernel
theorem RV (c:Int) (h0:0≤c) (h1:c<256) (w:World) (hL:Hc.Laid w) :
  Calls Tryz.prog 205 #[.int .u8 c] w fun e w'=>e=.returned (.int .u8 (Cl.l9 c))∧w=w':=by
 by_cases h:Hc.cls c=2
 ·have hB:=hid (show bits .or .u8 c 32=Cl.l9 c from by
   have:=RU ⟨c.toNat,by omega⟩
   simp only[Int.toNat_of_nonneg h0]at this
   exact this h)
  have HC:=hid (Hc.fQ c 2 h0 h1 h w hL)
  clear h
  go_enter Tryz.func205,Tryz.ntmps205
  go_wp2_with fail
  refine HC.out.mono ?_
  rintro e w' ⟨rfl,rfl⟩
  go_wp2
  go_ret
  exact⟨Hc.aI hB.out,rfl⟩
 ·have hB:=hid (show c=Cl.l9 c from by unfold Cl.l9;rw[if_neg h])
  obtain⟨k,hk⟩:∃ k,Hc.cls c=k:=⟨_,rfl⟩
  have HC:=hid (Hc.fQ c k h0 h1 hk w hL)
  have hd:(k==2)=false:=by rw[← hk];simpa using h
  clear h hk
  go_enter Tryz.func205,Tryz.ntmps205
  go_wp2_with fail
  refine HC.out.mono ?_
  rintro e w' ⟨rfl,rfl⟩
  go_wp2
  go_ret
  exact⟨Hc.aI hB.out,rfl⟩
def MM (w:World) (s:ByteArray) (k:Nat) (wr:World):Prop :=
 (∀ j,j<s.size→wr.cell? ⟨w.heap.size,j,none⟩=some (.int .u8 (if j<k then Cl.l9 (Hc.aV s j) else Hc.aV s j)))∧(∀ j,j<s.size→wr.frozen? ⟨w.heap.size,j,none⟩=false)∧Below w.heap.size w wr
theorem MM.zero (w:World) (s:ByteArray):MM w s 0 (Lib.bytesWorld w 5 s):=by
 refine⟨fun j hj=>?_,fun j hj=>?_,?_⟩
 ·rw[Lib.bytesWorld_cell w _ s j hj,if_neg (by omega)];rfl
 ·have hs:s.size≤(Lib.bytesCells w 5 s).size:=by simp[Lib.bytesCells]
  simp[World.frozen?,Lib.bytesWorld_at_new]
  omega
 ·exact⟨rfl,rfl,rfl,by rw[Lib.bytesWorld_size];omega,fun k hk=>Lib.bytesWorld_at_old w _ s k hk⟩
theorem MM.succ {w:World} {s:ByteArray} {k:Nat} {wr:World} (h:MM w s k wr) (hk:k<s.size):MM w s (k+1) (wr.setCell ⟨w.heap.size,k,none⟩ (.int .u8 (Cl.l9 (Hc.aV s k)))):=by
 refine⟨fun j hj=>?_,fun j hj=>by rw[World.frozen?_setCell];exact h.2.1 j hj,h.2.2.setCell (p:=⟨w.heap.size,k,none⟩) (Nat.le_refl _) _⟩
 by_cases e:j=k
 ·subst e
  rw[if_pos (by omega)]
  exact World.cell?_setCell_same' _ _ _ (by rw[h.1 j hj];rfl)
 ·rw[World.cell?_setCell_other _ _ _ _ (fun he=>e (by injection he with _ h2;exact h2.symm)),h.1 j hj]
  by_cases h1:j<k
  ·rw[if_pos h1,if_pos (by omega)]
  ·rw[if_neg h1,if_neg (by omega)]
theorem V0 (s:ByteArray) (hs:s.size≤2000) (w:World) (hL:Hc.Laid w) :
  Calls Tryz.prog 164 #[.string s] w fun e w'=>e=.returned (.string (Cl.aDJ s))∧Below w.heap.size w w':=by
 have hcv:=Lib.run_convert_string_bytes (P:=Tryz.prog) w 9 89 5 s (u:=.string) Tryz.underlying9 Tryz.underlying89 Tryz.underlying5
 have hI0:=MM.zero w s
 have hsz:=Lib.bytesWorld_size w 5 s
 have HSZ:=hid hsz;clear hsz
 go_enter Tryz.func164,Tryz.ntmps164
 go_wp2
 clear hcv
 go_loopw [10,4,5] (fun i _ _ wr=>∃ k:Nat,k≤s.size∧i=.int .i64 k∧MM w s k wr) (fun i _ _ _=>s.size - (intOf i).toNat)
 case atStart=>exact⟨0,by omega,rfl,hI0⟩
 case round =>
  obtain⟨k,hk,rfl,hI⟩:=hrel
  have hLr:=hL.below hI.2.2 hL.1
  by_cases hlt:k<s.size
  ·have hc:=hI.1 k hlt
   rw[if_neg (by omega)]at hc
   have hf:=hI.2.1 k hlt
   obtain⟨b0,b1⟩:=Hc.dQ s k
   have hN:=hI.succ hlt
   go_wp2_with (go_at_call 205;refine(RV (Hc.aV s k) b0 b1 _ hLr).mono ?_;rintro e w' ⟨rfl,rfl⟩)
   go_roundw
   case rel=>exact⟨k+1,by omega,by go_num,hN⟩
   case measure=>simp[intOf];omega
  ·obtain rfl:k=s.size:=by omega
   have hback:=run_convert_bytes_back (P:=Tryz.prog) wr 89 9 5 ⟨w.heap.size,0,none⟩ (grownCap w s.size 0 5) (Cl.BB s) Tryz.underlying89 Tryz.underlying5 Tryz.underlying9 (fun j hj=>by
    have hj':j<s.size:=by rw[← Cl.wA];exact hj
    rw[Cl.U8 s j hj]
    have e:(⟨w.heap.size,0,none⟩:Addr).add j=⟨w.heap.size,j,none⟩:=by unfold Addr.add;split<;>simp_all
    rw[e,hI.1 j hj',if_pos hj'])
   rw[Cl.wA]at hback
   have hb:=hI.2.2
   go_wp2
   go_ret
   exact⟨rfl,hb⟩
theorem PH (s:List Nat) (hs:s.length≤2000) (h256:∀ c ∈ s,c<256) (W:World) (hL:bH W) :
  Calls Tryz.prog 164 #[.string (bytesOf s)] W fun e w'=>e=.returned (.string (bytesOf (bL s)))∧Below W.heap.size W w':=by
 have h:=V0 (bytesOf s) (by rw[aF];exact hs) W (kE hL.1)
 rw[RF,aB _ h256]at h
 exact h
theorem MN (c:Nat) (hc:c<256) (v:Bool) (hv:(aW c || aQ c)=v) (w:World) (hL:bH w) :
  Calls Tryz.prog 204 #[.int .u8 (c:Int)] w fun e w'=>e=.returned (.bool v)∧w=w':=by
 have h1:=(gG ⟨c,hc⟩).1
 have h2:=(gG ⟨c,hc⟩).2.1
 simp only[]at h1 h2
 obtain⟨k,hk⟩:∃ k,Hc.cls (c:Int)=k:=⟨_,rfl⟩
 rw[hk]at h1 h2
 have HC:=hid (Hc.fQ (c:Int) k (by omega) (by omega) hk w (kE hL.1))
 have HV:=hid (show decide (k=1∨k=2)=v from by
  rw[← hv,Bool.eq_iff_iff,decide_eq_true_iff,Bool.or_eq_true,h1,h2])
 clear h1 h2 hk hv hL
 by_cases k1:k=1
 ·subst k1
  have HB:=hid (show true=v from HV.out)
  go_enter Tryz.func204,Tryz.ntmps204
  go_wp2_with fail
  refine HC.out.mono ?_
  rintro e w' ⟨rfl,rfl⟩
  go_wp2
  go_ret
  exact⟨Cl.aC HB.out,rfl⟩
 ·by_cases k2:k=2
  ·subst k2
   have HB:=hid (show true=v from HV.out)
   clear k1
   go_enter Tryz.func204,Tryz.ntmps204
   go_wp2_with fail
   refine HC.out.mono ?_
   rintro e w' ⟨rfl,rfl⟩
   go_wp2
   go_ret
   exact⟨Cl.aC HB.out,rfl⟩
  ·have HB:=hid (show false=v from by rw[← HV.out];exact(decide_eq_false (by omega)).symm)
   have t1:(k==1)=false:=beq_eq_false_iff_ne.2 k1
   have t2:(k==2)=false:=beq_eq_false_iff_ne.2 k2
   clear k1 k2
   go_enter Tryz.func204,Tryz.ntmps204
   go_wp2_with fail
   refine HC.out.mono ?_
   rintro e w' ⟨rfl,rfl⟩
   go_wp2
   go_ret
   exact⟨Cl.aC HB.out,rfl⟩
theorem aDN (x:Tk):aJ x=(decide (x.kind=1) && (aW x.ch || aQ x.ch)):=by
 unfold aJ mA BG
 cases decide (x.kind=1)<;>rfl
theorem IM (x:Tk) (hc:x.ch<256) (w:World) (hL:bH w) :
  Calls Tryz.prog 203 #[nS x] w fun e w'=>e=.returned (.bool (!aJ x))∧Below w.heap.size w w':=by
 obtain⟨v,hv⟩:∃ v,(aW x.ch || aQ x.ch)=v:=⟨_,rfl⟩
 have HLE:=hid (fun(W:World) (hW:Below w.heap.size w W)=>MN x.ch hc v hv W (hL.kept hW))
 have hl:=aDN x
 rw[hv]at hl
 obtain⟨r,hr⟩:∃ r,(!aJ x)=r:=⟨_,rfl⟩
 rw[hr]
 rw[hl]at hr
 have HR:=hid hr
 obtain⟨q,c,p⟩:=x
 simp only[nS]at HLE HR ⊢
 clear hl hr hv hc hL
 go_enter Tryz.func203,Tryz.ntmps203
 go_upto_region 1 with fail
 have hx:=xI.new w q c p 37
 have hw:=(Below.refl w.heap.size w).alloc (Nat.le_refl _) (.cells #[.int .i64 q,.int .u8 (c:Int),.int .i64 p] 37)
 generalize w.alloc _=w1 at hx hw ⊢
 have HE:=hid hw
 have HC:=hid (HLE.out w1 hw)
 obtain⟨x0,x1,x2,x3⟩:=hx
 clear hw
 by_cases k1:q=1
 ·subst k1
  have HV:=hid (show (!v)=r from by rw[← HR.out];rfl)
  clear HR
  go_wp2_with fail
  refine HC.out.mono ?_
  rintro e w2 ⟨rfl,rfl⟩
  go_wp2
  go_ret
  exact⟨Cl.aC HV.out,HE.out⟩
 ·have t1:(q != 1)=true:=bne_iff_ne.2 k1
  have HV:=hid (show true=r from by rw[← HR.out,decide_eq_false k1];rfl)
  clear k1 HR
  go_wp2
  go_ret
  exact⟨Cl.aC HV.out,HE.out⟩
def aAY (q:Tk→Bool) (u:List Tk) (w:World) (e:Ending) (w':World):Prop :=
 ((∃ j:Nat,e=.returned (.int .i64 (j:Int))∧j<u.length∧(∀ (i:Nat) (y:Tk),i<j→u[i]?=some y→q y=false)∧∀ y,u[j]?=some y→q y=true)∨(e=.returned (.int .i64 (-1))∧∀ (i:Nat) (y:Tk),u[i]?=some y→q y=false))∧Below w.heap.size w w'
theorem MO (u:List Tk) (A:Option Addr) (off n c:Nat) (hn:u.length=n) (hn9:n≤100000) (q:Tk→Bool) (w:World) (hu:bW off w w.heap.size (.slice A n c) u)
  (hq:∀ y ∈ u,∀ W:World,Below w.heap.size w W→Calls Tryz.prog 203 #[nS y] W fun e w'=>e=.returned (.bool (q y))∧Below W.heap.size W w') :
  Calls Tryz.prog 84 #[.slice A n c,.func (.func 203) #[] #[]] w (aAY q u w):=by
 obtain⟨A',c',e,hA⟩:=hu
 injection e with e1 e2 e3
 subst e1;subst e3
 have HA:=hid hA
 have HN:=hid hn
 have HPQ:=hid hq
 clear hA hn hq e2
 go_enter Tryz.func84,Tryz.ntmps84
 go_wp2
 go_loopw [8] (fun u8 wr=>∃ j:Nat,u8=.int .i64 (j:Int)∧j≤n∧(∀ (i:Nat) (y:Tk),i<j→u[i]?=some y→q y=false)∧Below w.heap.size w wr) (fun u8 _=>n - (intOf u8).toNat)
 case atStart=>exact⟨0,rfl,Nat.zero_le _,fun i y h=>by omega,Below.refl _ _⟩
 case round =>
  obtain⟨j,rfl,hj,hjq,hB⟩:=hrel
  have HQ:=hid hjq
  have HB:=hid hB
  have j0:(0:Int)≤(j:Int):=by omega
  clear hjq
  by_cases hlt:j<n
  ·obtain⟨g,rfl,hgw,hg⟩:=HA.out (by rw[HN.out];omega)
   obtain⟨x,hx⟩:∃ x,u[j]?=some x:=⟨_,List.getElem?_eq_getElem (by rw[HN.out];exact hlt)⟩
   obtain⟨g0,g1,g2⟩:=pC hg j x hx
   have g0:=(hB.cell (p:=⟨g,off+j * 3,none⟩) hgw).trans g0
   have g1:=(hB.cell (p:=⟨g,off+j * 3+1,none⟩) hgw).trans g1
   have g2:=(hB.cell (p:=⟨g,off+j * 3+2,none⟩) hgw).trans g2
   obtain⟨bq,hbq⟩:∃ bq,q x=bq:=⟨_,rfl⟩
   have hir:=HPQ.out x (List.mem_of_getElem? hx) wr hB
   rw[hbq]at hir
   have HIR:=hid hir
   have HX:=hid hx
   have HBQ:=hid hbq
   have j1:(j:Int)<(n:Int):=by omega
   obtain⟨xk,xc,xp⟩:=x
   simp only[nS]at HIR
   simp only[]at g0 g1 g2
   clear hx hg hgw hir hbq hB
   cases bq
   ·have HNX:=hid (show ∀ (i:Nat) (y:Tk),i<j+1→u[i]?=some y→q y=false from fun i y h1 h2=>by
     rcases Nat.lt_or_ge i j with h | h
     ·exact HQ.out i y h h2
     ·obtain rfl:i=j:=by omega
      rw[HX.out]at h2;cases h2;exact HBQ.out)
    go_wp2_with fail
    refine HIR.out.mono ?_
    rintro e w2 ⟨rfl,hb2⟩
    have HB2:=hid (chain HB.out HB.out.size hb2)
    clear hb2
    go_wp2
    go_roundw
    case rel=>exact⟨j+1,by go_num,by omega,HNX.out,HB2.out⟩
    case measure=>simp[intOf];omega
   ·have HFI:=hid (show ∀ y,u[j]?=some y→q y=true from fun y hy=>by rw[HX.out]at hy;cases hy;exact HBQ.out)
    go_wp2_with fail
    refine HIR.out.mono ?_
    rintro e w2 ⟨rfl,hb2⟩
    have HB2:=hid (chain HB.out HB.out.size hb2)
    clear hb2
    go_wp2
    go_ret
    exact⟨.inl ⟨j,rfl,by rw[HN.out];exact hlt,HQ.out,HFI.out⟩,HB2.out⟩
  ·obtain rfl:j=n:=by omega
   have HFI:=hid (show ∀ (i:Nat) (y:Tk),u[i]?=some y→q y=false from fun i y h2=>HQ.out i y (by rw[← HN.out];exact(List.getElem?_eq_some_iff.1 h2).1) h2)
   clear hB
   go_wp2
   go_ret
   exact⟨.inr ⟨rfl,HFI.out⟩,HB.out⟩
theorem IN:∀ {u:List Tk} {j:Nat},j≤u.length→(∀ (i:Nat) (y:Tk),i<j→u[i]?=some y→aJ y=true)→(∀ y,u[j]?=some y→aJ y=false)→u.takeWhile aJ=u.take j
 | [],j,_,_,_=>by rw[List.take_nil];rfl
 | x::u,0,_,_,h2=>by rw[List.takeWhile_cons,if_neg (by rw[h2 x rfl];decide)];rfl
 | x::u,j+1,h0,h1,h2=>by
  rw[List.takeWhile_cons,if_pos (h1 0 x (by omega) rfl),List.take_succ_cons]
  rw[IN (u:=u) (j:=j) (by rw[List.length_cons]at h0;omega) (fun i y hi hy=>h1 (i+1) y (by omega) hy) (fun y hy=>h2 y hy)]
def oM (cs:List Nat) (k:Nat):List Value:=(cs.take k).map (fun c=>Value.int .u8 ((c:Nat):Int))++List.replicate (cs.length - k) (Value.int .u8 0)
theorem RW (n:Nat) (cs:List Nat) (h:cs.length=n):(madeCells (Value.cells (.int .u8 0)) (n * 1)).toList=oM cs 0:=by
 unfold oM
 rw[List.take_zero,List.map_nil,List.nil_append,Nat.sub_zero,h]
 apply List.ext_getElem?
 intro j
 rcases Nat.lt_or_ge j n with hj | hj
 ·unfold madeCells
  simp only[Array.toList_map,Array.toList_range,List.getElem?_map,Nat.mul_one,List.getElem?_range hj,Option.map_some,List.getElem?_replicate,if_pos hj]
  show some ((#[Value.int .u8 0])[j % 1]!)=_
  rw[Nat.mod_one];rfl
 ·rw[List.getElem?_eq_none (by rw[Array.length_toList,size_madeCells];omega),List.getElem?_eq_none (by simp;omega)]
theorem IP (cs:List Nat) (k:Nat) (h:k≤cs.length):(oM cs k).length=cs.length:=by
 unfold oM
 rw[List.length_append,List.length_map,List.length_take,List.length_replicate];omega
theorem IQ (cs:List Nat) (k c:Nat) (h:cs[k]?=some c):(oM cs k).set k (.int .u8 ((c:Nat):Int))=oM cs (k+1):=by
 have hk:=(List.getElem?_eq_some_iff.1 h).1
 unfold oM
 rw[List.set_append_right _ _ (by rw[List.length_map,List.length_take];omega),List.length_map,List.length_take,Nat.min_eq_left (Nat.le_of_lt hk),Nat.sub_self,List.take_add_one,h]
 obtain⟨n,hn⟩:∃ n,cs.length - k=n+1:=⟨cs.length - k - 1,by omega⟩
 rw[hn,show cs.length - (k+1)=n by omega,List.replicate_succ]
 simp
theorem sZ (W:World) (g cap:Nat) (cs:List Nat) (n:Nat) (hn:cs.length=n) (h256:∀ c ∈ cs,c<256) (h:∀ j c,cs[j]?=some c→W.cell? ⟨g,j,none⟩=some (.int .u8 ((c:Nat):Int))) :
  (convert 89 9 (.slice (some ⟨g,0,none⟩) n cap)).run Tryz.prog W=.ok (.string (bytesOf cs)) W:=by
 have:=run_convert_bytes_back (P:=Tryz.prog) W 89 9 5 ⟨g,0,none⟩ cap (cs.map UInt8.ofNat) Tryz.underlying89 Tryz.underlying5 Tryz.underlying9 (fun j hj=>by
  rw[List.length_map]at hj
  have e:(⟨g,0,none⟩:Addr).add j=⟨g,j,none⟩:=by unfold Addr.add;split<;>simp_all
  rw[e,h j cs[j] (List.getElem?_eq_getElem hj),List.getElem_map]
  have e3:(UInt8.ofNat cs[j]).toNat=cs[j]:=by simp[Nat.mod_eq_of_lt (h256 _ (List.getElem_mem hj))]
  rw[e3])
 rw[List.length_map,hn]at this
 exact this
theorem y9 (u:List Tk) (A:Option Addr) (off n c:Nat) (hn:u.length=n) (hn9:n≤1000) (hf:∀ x ∈ u,x.ch<256) (w:World) (hL:bH w) (hu:bW off w w.heap.size (.slice A n c) u) (L:List Tk) (hLL:u.takeWhile aJ=L) :
  Calls Tryz.prog 162 #[.slice A n c] w fun e w'=>e=.returned (.string (bytesOf (fA L)))∧Below w.heap.size w w':=by
 obtain⟨i0,hi0,hz0,hz1,hz2⟩:=info_parts Cl.infoByte
 have HIX:=hid (MO u A off n c hn (by omega) (fun y=>!aJ y) w hu (fun y hy W hW=>IM y (hf y hy) W (hL.kept hW)))
 obtain⟨A',c',e,hA⟩:=hu
 injection e with e1 e2 e3
 subst e1;subst e3
 have HA:=hid hA
 have HN:=hid hn
 have hLm:L.length≤n:=by
  rw[← hLL,← hn]
  exact(List.takeWhile_prefix aJ).length_le
 have hpre:L=u.take L.length:=by
  have:=List.prefix_iff_eq_take.1 (List.takeWhile_prefix aJ (l:=u))
  rw[hLL]at this
  exact this
 have HAT:=hid (show ∀ (j:Nat) (x:Tk),j<L.length→u[j]?=some x→(fA L)[j]?=some x.ch from fun j x hj hx=>by
  unfold fA
  rw[hpre,List.getElem?_map,List.getElem?_take,if_pos hj,hx]
  rfl)
 have h256:∀ c ∈ fA L,c<256:=fun c hc=>by
  unfold fA at hc
  obtain⟨x,hx,rfl⟩:=List.mem_map.1 hc
  rw[hpre]at hx
  exact hf x (List.mem_of_mem_take hx)
 have H256:=hid h256
 have HSZ:=hid (show ∀ j:Nat,j≤n→(∀ (i:Nat) (y:Tk),i<j→u[i]?=some y→(!aJ y)=false)→(∀ y,u[j]?=some y→(!aJ y)=true)→j=L.length from fun j hj h1 h2=>by
  have:=IN (u:=u) (j:=j) (by rw[hn];exact hj) (fun i y hi hy=>by simpa using h1 i y hi hy) (fun y hy=>by simpa using h2 y hy)
  rw[hLL]at this
  rw[this,List.length_take,hn]
  omega)
 have hcl:(fA L).length=L.length:=List.length_map ..
 obtain⟨cs,hcs⟩:∃ cs,fA L=cs:=⟨_,rfl⟩
 obtain⟨m,hm⟩:∃ m,L.length=m:=⟨_,rfl⟩
 obtain⟨S,hS⟩:∃ S,bytesOf cs=S:=⟨_,rfl⟩
 rw[hcs]at HAT H256 hcl ⊢
 rw[hm]at HAT HSZ hLm hcl
 rw[hS]
 have HS:=hid hS
 have HCL:=hid hcl
 have HMK:=hid (fun(W:World)=>show ∃ W1,(Instr.makeSlice 89 (.int .i64 (m:Int)) (.int .i64 (m:Int))).run Tryz.prog W=.ok (.slice (some ⟨W.heap.size,0,none⟩) m m) W1∧W1.ownsRow W.heap.size 5 1 (.slice (some ⟨W.heap.size,0,none⟩) m m) m (oM cs 0)∧Below W.heap.size W W1 from by
  have h:=run_make (P:=Tryz.prog) W 89 5 i0 (.int .u8 0) Tryz.underlying89 hi0 hz0 .i64 .i64 (m:Int) (m:Int) (by omega) (Int.le_refl _) (by rw[hz2];omega) (by omega)
  simp only[Int.toNat_natCast,hz1]at h
  refine⟨_,h,?_,(Below.refl _ W).alloc (Nat.le_refl _) _⟩
  have h2:=World.ownsRow_lit (base:=W.heap.size) (e:=5) (size:=1) W (madeCells (Value.cells (.int .u8 0)) (m * 1)) m (Nat.le_refl _) (by unfold maxLen;omega) (size_madeCells _ _)
  rw[RW m cs HCL.out]at h2
  exact h2)
 clear hn hf hL hA hLL hpre h256 hcs hm hS hcl e2
 go_enter Tryz.func162,Tryz.ntmps162
 go_wp2_with fail
 refine HIX.out.mono ?_
 rintro e w2 ⟨hres,hb2⟩
 have HB2:=hid hb2
 obtain⟨z,rfl,hz⟩:∃ z:Int,e=.returned (.int .i64 z)∧(z=(m:Int)∨z = -1∧n=m):=by
  rcases hres with⟨j,rfl,hj,h1,h2⟩ | ⟨rfl,h1⟩
  ·rw[HN.out]at hj
   exact⟨_,rfl,.inl (by rw[HSZ.out j (by omega) h1 h2])⟩
  ·exact⟨_,rfl,.inr ⟨rfl,HSZ.out n (Nat.le_refl _) (fun i y _ hy=>h1 i y hy) (fun y hy=>by have:=(List.getElem?_eq_some_iff.1 hy).1;rw[HN.out]at this;omega)⟩⟩
 obtain⟨W1,hmk,hown1,hb1⟩:=HMK.out w2
 have hg2:=hb2.size
 have HO1:=hid hown1
 have HB1:=hid (chain HB2.out hg2 hb1)
 have HAW:=hid (fun(W:World) (hW:Below w2.heap.size w2 W) (h0:0<n)=>show ∃ g,A=some ⟨g,off,none⟩∧g<w.heap.size∧∀ k x,u[k]?=some x→W.cell? ⟨g,off+k * 3+1,none⟩=some (.int .u8 (x.ch:Int)) from by
  obtain⟨g,e,h1,h2⟩:=HA.out (by rw[HN.out];exact h0)
  refine⟨g,e,h1,fun k x hx=>?_⟩
  have:=(pC h2 k x hx).2.1
  exact((chain HB2.out HB2.out.size hW).cell (p:=⟨g,off+k * 3+1,none⟩) h1).trans this)
 have HB21:=hid hb1
 clear hres hb2 hown1 hb1 HA HIX HMK HSZ
 obtain⟨B,hB⟩:∃ B,w2.heap.size=B:=⟨_,rfl⟩
 rw[hB]at hmk HO1 HB21 HAW
 have m0:(0:Int)≤(m:Int):=by omega
 have HNM:=hid (show m≤n from hLm)
 rcases hz with rfl | ⟨rfl,hnm⟩
 rotate_left
 ·subst hnm
  go_wp2
  clear hmk
  go_loopw [16] (fun u16 wr=>∃ k:Nat,u16=.int .i64 (k:Int)∧k≤n∧wr.ownsRow B 5 1 (.slice (some ⟨B,0,none⟩) n n) n (oM cs k)∧Below B w2 wr) (fun u16 _=>n - (intOf u16).toNat)
  case atStart=>exact⟨0,rfl,Nat.zero_le _,HO1.out,HB21.out⟩
  case round =>
   obtain⟨k,rfl,hk,own,hBr⟩:=hrel
   have k0:(0:Int)≤(k:Int):=by omega
   have hBs:=hBr.size
   have HBR:=hid hBr
   by_cases hlt:k<n
   ·obtain⟨x,hx⟩:∃ x,u[k]?=some x:=⟨_,List.getElem?_eq_getElem (by rw[HN.out];omega)⟩
    obtain⟨g,rfl,hgw,hg⟩:=HAW.out wr hBr (by omega)
    have c1:=hg k x hx
    have hc8:=HAT.out k x hlt hx
    have f1:wr.frozen? ⟨B,k,none⟩=false:=own.frozenAt k
    have e1:=own.cellAt k (by omega)
    obtain⟨v,hv⟩:∃ v,(oM cs k)[k]?=some v:=⟨_,List.getElem?_eq_getElem (by rw[IP _ _ (by rw[HCL.out];exact hk),HCL.out];exact hlt)⟩
    rw[hv]at e1
    obtain⟨ch,hch⟩:∃ c,x.ch=c:=⟨_,rfl⟩
    rw[hch]at c1 hc8
    have HNX:=hid (show World.ownsRow (wr.setCell ⟨B,k,none⟩ (.int .u8 (ch:Int))) B 5 1 (.slice (some ⟨B,0,none⟩) n n) n (oM cs (k+1)) from by
     have h:=(own.stored k (.int .u8 (ch:Int))).1
     rw[IQ cs k ch hc8]at h
     exact h)
    have k1:(k:Int)<(n:Int):=by omega
    have k2:(k:Int)<(n:Int):=by have:=HNM.out;omega
    clear hx hg hgw hc8 own hv hch hBr
    go_wp2
    go_roundw
    case rel=>exact⟨k+1,by go_num,by omega,HNX.out,HBR.out.setCell (p:=⟨B,k,none⟩) (Nat.le_refl _) _⟩
    case measure=>simp[intOf];omega
   ·obtain rfl:k=n:=by omega
    have hcv:=sZ wr B k cs k HCL.out H256.out (fun j c hc=>by
     have hj:j<k:=by rw[← HCL.out];exact(List.getElem?_eq_some_iff.1 hc).1
     have h1:=own.cellAt j (by omega)
     have e:(oM cs k)[j]?=some (.int .u8 ((c:Nat):Int)):=by
      unfold oM
      rw[List.take_of_length_le (by rw[HCL.out];exact Nat.le_refl _),List.getElem?_append_left (by rw[List.length_map,HCL.out];exact hj),List.getElem?_map,hc]
      rfl
     rw[e]at h1
     exact h1)
    rw[HS.out]at hcv
    have HE:=hid (show Below w.heap.size w wr from HB2.out.trans (hBr.mono (by rw[← hB];exact HB2.out.size)))
    clear own hBr
    go_wp2
    go_ret
    exact⟨rfl,HE.out⟩
 ·have t0:decide ((m:Int)<0)=false:=decide_eq_false (by omega)
  go_wp2
  clear hmk
  go_loopw [16] (fun u16 wr=>∃ k:Nat,u16=.int .i64 (k:Int)∧k≤m∧wr.ownsRow B 5 1 (.slice (some ⟨B,0,none⟩) m m) m (oM cs k)∧Below B w2 wr) (fun u16 _=>m - (intOf u16).toNat)
  case atStart=>exact⟨0,rfl,Nat.zero_le _,HO1.out,HB21.out⟩
  case round =>
   obtain⟨k,rfl,hk,own,hBr⟩:=hrel
   have k0:(0:Int)≤(k:Int):=by omega
   have hBs:=hBr.size
   have HBR:=hid hBr
   by_cases hlt:k<m
   ·obtain⟨x,hx⟩:∃ x,u[k]?=some x:=⟨_,List.getElem?_eq_getElem (by rw[HN.out];omega)⟩
    obtain⟨g,rfl,hgw,hg⟩:=HAW.out wr hBr (by omega)
    have c1:=hg k x hx
    have hc8:=HAT.out k x hlt hx
    have f1:wr.frozen? ⟨B,k,none⟩=false:=own.frozenAt k
    have e1:=own.cellAt k (by omega)
    obtain⟨v,hv⟩:∃ v,(oM cs k)[k]?=some v:=⟨_,List.getElem?_eq_getElem (by rw[IP _ _ (by rw[HCL.out];exact hk),HCL.out];exact hlt)⟩
    rw[hv]at e1
    obtain⟨ch,hch⟩:∃ c,x.ch=c:=⟨_,rfl⟩
    rw[hch]at c1 hc8
    have HNX:=hid (show World.ownsRow (wr.setCell ⟨B,k,none⟩ (.int .u8 (ch:Int))) B 5 1 (.slice (some ⟨B,0,none⟩) m m) m (oM cs (k+1)) from by
     have h:=(own.stored k (.int .u8 (ch:Int))).1
     rw[IQ cs k ch hc8]at h
     exact h)
    have k1:(k:Int)<(m:Int):=by omega
    have k2:(k:Int)<(n:Int):=by have:=HNM.out;omega
    clear hx hg hgw hc8 own hv hch hBr
    go_wp2
    go_roundw
    case rel=>exact⟨k+1,by go_num,by omega,HNX.out,HBR.out.setCell (p:=⟨B,k,none⟩) (Nat.le_refl _) _⟩
    case measure=>simp[intOf];omega
   ·obtain rfl:k=m:=by omega
    have hcv:=sZ wr B k cs k HCL.out H256.out (fun j c hc=>by
     have hj:j<k:=by rw[← HCL.out];exact(List.getElem?_eq_some_iff.1 hc).1
     have h1:=own.cellAt j (by omega)
     have e:(oM cs k)[j]?=some (.int .u8 ((c:Nat):Int)):=by
      unfold oM
      rw[List.take_of_length_le (by rw[HCL.out];exact Nat.le_refl _),List.getElem?_append_left (by rw[List.length_map,HCL.out];exact hj),List.getElem?_map,hc]
      rfl
     rw[e]at h1
     exact h1)
    rw[HS.out]at hcv
    have HE:=hid (show Below w.heap.size w wr from HB2.out.trans (hBr.mono (by rw[← hB];exact HB2.out.size)))
    clear own hBr
    go_wp2
    go_ret
    exact⟨rfl,HE.out⟩
theorem V1 {W W':World} {B n:Nat} {v:Value} {ks:List Nat} (h:W.ownsRow B 3 1 v n (iV ks)) (hK:LI W W'):W'.ownsRow B 3 1 v n (iV ks):=by
 refine⟨h.1,?_⟩
 rcases h.2 with hn | ⟨g,cap,cur,hv,hbg,hg,rest⟩
 ·exact .inl hn
 ·exact .inr ⟨g,cap,cur,hv,hbg,hK g _ _ hg,rest⟩
theorem RX {ks:List Nat} {j k:Nat} {r:List Nat} (h:ks.drop j=k::r):ks[j]?=some k∧ks.drop (j+1)=r:=by
 have hl:j<ks.length:=by
  rcases Nat.lt_or_ge j ks.length with h1 | h1
  ·exact h1
  ·rw[List.drop_of_length_le h1]at h;cases h
 rw[List.drop_eq_getElem_cons hl]at h
 injection h with h1 h2
 exact⟨by rw[List.getElem?_eq_getElem hl,h1],h2⟩
section
variable {T:bT} {w1 W W':World} {tv lv:Value} {l:List Rl} {lo hi:Nat} {t:List Tk} {off g rc:Nat} {ps:List Pc}
theorem aDO (E:Env T w1 tv lv l lo hi t off g rc) (hW:Below w1.heap.size w1 W) (hK:KI w1.heap.size tv (jD l g rc) lv ps W) (hps:ps.length≤50000) (s:List Nat) (hs:gE s) (hne:0<s.length) (aR:Nat) (hfr:aR+s.length≤t.length) (r:Bool) (hr:mX t aR=r) :
  Calls Tryz.prog 167 #[.pointer (some ⟨w1.heap.size,0,none⟩),.string (bytesOf s),.int .i64 (aR:Int)] W fun e W'=>e=.returned (.tuple #[])∧KI w1.heap.size tv (jD l g rc) lv (ps++((if r=true then [⟨aG l 8 eX,aR,0⟩] else [])++runN l s aR)) W'∧rR w1.heap.size W W':=by
 have hsl:s.length≤1000:=by have:=E.qT;omega
 have h256:=PE hs
 have hne':s≠[]:=fun e=>by rw[e]at hne;exact absurd hne (Nat.not_lt_zero _)
 have hrun:=jC hs hne'
 have hz:(bytesOf s).size=s.length:=aF _
 have HBH:=hid (CI E hW hK aR (by omega) r hr)
 have HTL:=hid (xT E hW hK (by omega) eX (by decide) (by decide) { data:=#[108,101,116] } rfl aR)
 have HLO:=hid (fun(V:World) (hV:Below w1.heap.size w1 V)=>PH s (by omega) h256 V (E.gR hV))
 have HUN:=hid (fun(V:World) (hV:Below w1.heap.size w1 V)=>ML s hs (by omega) V (E.gR hV))
 have HNX:=hid (fun(p:Nat) (hp:p≤s.length) (V:World) (hV:Below w1.heap.size w1 V)=>aAW s h256 (by omega) p hp V (E.gR hV))
 have HTC:=hid (fun(S:ByteArray) (hS:S.size≤2000) (f:Nat) (V:World) (hV:Below w1.heap.size w1 V) (qs:List Pc) (hq:qs.length≤100000) (hKV:KI w1.heap.size tv (jD l g rc) lv qs V)=>wL E hV hKV hq S hS f)
 have HPP:=hid (fun(k:Nat) (x:Rl) (hx:l[k]?=some x) (n:Nat) (hn:x.left.length=n) (f:Nat) (V:World) (hV:Below w1.heap.size w1 V) (qs:List Pc) (hq:qs.length≤100000) (hKV:KI w1.heap.size tv (jD l g rc) lv qs V)=>MK E hV hKV hq k x hx n hn f)
 have HBE:=hid (fun(p most k:Nat) (hp:p<s.length) (hm:most≤2000) (hk:dC l (bL s) (p:Int) (most:Int)=some k) (V:World) (hV:Below w1.heap.size w1 V) (qs:List Pc) (hKV:KI w1.heap.size tv (jD l g rc) lv qs V)=>aAX E hV hKV (bL s) hrun (by rw[aT];exact hsl) p (by rw[aT];exact hp) most hm k hk)
 have HAL:=hid (fun(p:Nat) (hp:p≤2000) (V:World) (hV:Below w1.heap.size w1 V)=>show Calls Tryz.prog 212 #[tv,.string (bytesOf (bL s)),.int .i64 (p:Int)] V fun e w'=>∃ v,e=.returned v∧w'.ownsRow V.heap.size 3 1 v (gZ l (bL s) (p:Int)).length (iV (gZ l (bL s) (p:Int)))∧Below V.heap.size V w' from by
  have h:=(VZ T).all (t:=tv) (bytesOf (bL s)) (p:Int) (by rw[aF,aT];omega) (by unfold oI;omega) E.LS E.acc E.fit V (E.gR hV) (E.II hV)
  rw[aB _ (PD h256)]at h
  exact h)
 have HEX:=hid (fun(p q:Nat)=>show aA ((bytesOf s).extract p q)=(s.drop p).take (q - p) from by rw[dX,aB _ h256])
 have HEB:=hid (fun(qs:List Pc) (V:World) (hKV:KI w1.heap.size tv (jD l g rc) lv qs V)=>hKV.cells.1)
 have HKS:=hid (fun(qs:List Pc) (V V':World) (hKV:KI w1.heap.size tv (jD l g rc) lv qs V) (hb:Below V.heap.size V V')=>hKV.step hb)
 have HLT:=hid (fun(qs:List Pc) (V:World) (hKV:KI w1.heap.size tv (jD l g rc) lv qs V)=>hKV.lt)
 have HLS:=hid hs
 have HACC:=hid E.acc
 have HRUN:=hid hrun
 have HW0:=hid hW
 have HTOT:=hid (show (runN l s aR).length≤3 * s.length from by
  have:=yW l s aR s.length 0
  unfold runN
  omega)
 obtain⟨TX,hTX⟩:∃ S,bytesOf s=S:=⟨_,rfl⟩
 obtain⟨TL,hTL⟩:∃ S,bytesOf (bL s)=S:=⟨_,rfl⟩
 obtain⟨rv,hrv⟩:∃ v,jD l g rc=v:=⟨_,rfl⟩
 obtain⟨b,hb⟩:∃ b,w1.heap.size=b:=⟨_,rfl⟩
 rw[hTX]at HLO HUN HNX HEX hz ⊢
 rw[hTL]at HLO HBE HAL
 rw[hrv]at HTL HTC HPP HBE HEB HKS HLT hK ⊢
 rw[hb]at HBH HTL HLO HUN HNX HTC HPP HBE HAL HEB HKS HLT HW0 hK ⊢
 have HK0:=hid hK
 have hfr9:aR≤1000:=by have:=E.qT;omega
 have hz2:TX.size≤1000:=by omega
 have HZ:=hid hz
 clear E hW hK hs hfr hr hne' hrun h256 hTX hTL hrv hb hz
 obtain⟨P3,hP3⟩:∃ P,ps++(if r=true then [⟨aG l 8 eX,aR,0⟩] else [])=P:=⟨_,rfl⟩
 have hp3:P3.length≤60000:=by
  rw[← hP3,List.length_append]
  split<;>simp<;>omega
 rw[← List.append_assoc,hP3]
 go_enter Tryz.func167,Tryz.ntmps167
 go_wp2_with fail
 refine HBH.out.mono ?_
 rintro e w2 ⟨rfl,rfl⟩
 cases r
 case' true =>
  rw[if_pos rfl]at hP3
  rw[hP3]at HTL
  go_wp2_with fail
  refine HTL.out.mono ?_
  rintro e w3 ⟨rfl,hk3,hs3⟩
  have HK3:=hid hk3
  have HS3:=hid hs3
  have HW3:=hid (HW0.out.trans hs3.1)
  clear hk3 hs3
 case' false =>
  rw[if_neg Bool.false_ne_true,List.append_nil]at hP3
  rw[hP3]at HK0
  have HK3:=HK0
  have HS3:=hid (rR.refl b w2)
  have HW3:=HW0
 all_goals
  clear HBH HTL HK0 HW0 hP3
  go_wp2_with fail
  refine(HLO.out _ HW3.out).mono ?_
  rintro e w4 ⟨rfl,hb4⟩
  have HST4:=hid (HKS.out _ _ _ HK3.out hb4)
  have HS4:=hid (HS3.out.trans HST4.out.2)
  have HW4:=hid (HW3.out.trans HST4.out.2.1)
  clear hb4 HK3 HS3 HW3
  go_wp2_with fail
  refine(HUN.out _ HW4.out).mono ?_
  rintro e w5 ⟨⟨rest,rfl,hrest⟩,hb5⟩
  have HRE:=hid hrest
  have hrl:rest≤TX.size:=by have:=hrest.le;have:=HZ.out;omega
  have HST5:=hid (HKS.out _ _ _ HST4.out.1 hb5)
  have HS5:=hid (HS4.out.trans HST5.out.2)
  have HW5:=hid (HW4.out.trans HST5.out.2.1)
  clear hb5 hrest HST4 HS4 HW4
  go_wp2_with fail
  go_loopw [8] (fun a wr=>∃ (p:Nat) (us:List Pc),a=.int .i64 (p:Int)∧p≤rest∧runN l s aR=us++fL l s aR (s.length - p) p∧KI b tv rv lv (P3++us) wr∧rR b w2 wr∧Below b w1 wr) (fun a _=>rest - (intOf a).toNat)
  case atStart=>exact⟨0,[],rfl,Nat.zero_le _,rfl,by rw[List.append_nil];exact HST5.out.1,HS5.out,HW5.out⟩
  case round =>
   obtain⟨p,us,rfl,hp,hcat,hk,hst,hw⟩:=hrel
   have HCAT:=hid hcat
   have HK:=hid hk
   have HS:=hid hst
   have HW:=hid hw
   have hul:us.length≤3000:=by
    have h1:=HTOT.out
    rw[hcat,List.length_append]at h1
    have:=HZ.out
    omega
   have c0:=HEB.out _ _ hk
   have p0:(0:Int)≤(p:Int):=by omega
   clear hcat hk hst hw
   by_cases hlt:p<rest
   ·have hps:p<s.length:=by have:=HZ.out;omega
    have h4:=HRE.out.yes p hlt
    have HIN:=hid (CH HACC.out HLS.out aR hps (by rw[h4];decide))
    have hzr:=RL HLS.out HRE.out hlt
    have hzp:=sV (s:=s) (p:=p+1) (by omega)
    have hcp:=RM HLS.out hps
    have hcap:k8 l (if aQ s[p]=true then 2 else 1) (aR+p)=MI l s aR p:=by
     unfold k8 MI
     rw[sW hps]
     cases aQ s[p]<;>rfl
    have hnx:=HNX.out (p+1) (by omega) wr HW.out
    have hce:=HEX.out p (aZ s (p+1))
    rw[← hce]at hcp
    have hIS:=fun q (h1:p≤q) (h2:q<aZ s (p+1))=>MJ HACC.out HLS.out aR hps h1 h2
    have hIE:=RN (l:=l) (s:=s) aR (aZ s (p+1))
    obtain⟨z,hzz⟩:∃ z,aZ s (p+1)=z:=⟨_,rfl⟩
    rw[hzz]at HIN hzr hzp hcp hnx hIS hIE
    have HIS:=hid hIS
    have HIE:=hid hIE
    have htc:=HTC.out (TX.extract p z) (by rw[ByteArray.size_extract];omega) (aR+p) wr HW.out (P3++us) (by rw[List.length_append];omega) HK.out
    rw[hcp,hcap,Int.natCast_add]at htc
    rw[Int.natCast_add]at hnx
    have hnx:Calls Tryz.prog 209 #[.string TX,.int .i64 ((p:Int)+1)] wr fun e w'=>e=.returned (.int .i64 (z:Int))∧wr=w':=hnx
    have HN1:=hid hnx
    have HT1:=hid htc
    have t1:IntKind.i64.wrap ((p:Int)+1)=(p:Int)+1:=IntWalk.i64_in _ ⟨by omega,by omega⟩
    have t2:IntKind.i64.wrap ((aR:Int)+(p:Int))=(aR:Int)+(p:Int):=IntWalk.i64_in _ ⟨by omega,by omega⟩
    have t3:decide ((p:Int)<(rest:Int))=true:=decide_eq_true (by omega)
    have p1:(p:Int)≤(z:Int):=by omega
    have p2:(z:Int)≤(TX.size:Int):=by omega
    clear h4 hcp hcap hnx htc hce hzz hIS hIE
    go_wp2_with fail
    refine HN1.out.mono ?_
    rintro e w6 ⟨rfl,rfl⟩
    go_wp2_with fail
    refine HT1.out.mono ?_
    rintro e w7 ⟨rfl,hk7,hs7⟩
    have HK7:=hid (show KI b tv rv lv (P3++(us++MI l s aR p)) w7 from by rw[← List.append_assoc];exact hk7)
    have HS7:=hid (HS.out.trans hs7)
    have HW7:=hid (HW.out.trans hs7.1)
    have HC7:=hid (show runN l s aR=(us++MI l s aR p)++kZ l s aR z p from by rw[HCAT.out,HIN.out,List.append_assoc])
    clear hk7 hs7 HCAT HIN HK HS HW HT1 HN1 c0
    go_wp2_with fail
    go_loopw [8] (fun a wr=>∃ (q:Nat) (us:List Pc),a=.int .i64 (q:Int)∧p≤q∧q≤z∧runN l s aR=us++kZ l s aR z q∧KI b tv rv lv (P3++us) wr∧rR b w2 wr∧Below b w1 wr) (fun a _=>z - (intOf a).toNat)
    case atStart=>exact⟨p,_,rfl,Nat.le_refl _,by omega,HC7.out,HK7.out,HS7.out,HW7.out⟩
    case round =>
     clear HK7 HS7 HW7 HC7
     obtain⟨q,vs,rfl,hpq,hqz,hcat,hk,hst,hw⟩:=hrel
     have HCAT:=hid hcat
     have HK:=hid hk
     have HS:=hid hst
     have HW:=hid hw
     have hvl:vs.length≤3000:=by
      have h1:=HTOT.out
      rw[hcat,List.length_append]at h1
      have:=HZ.out
      omega
     have q0:(0:Int)≤(q:Int):=by omega
     clear hcat hk hst hw
     by_cases hlt2:q<z
     ·obtain⟨k,x,hB,hstep,h0,hle⟩:=HIS.out q hpq hlt2
      have hbk:=sX hB
      rw[show (z:Int) - (q:Int)=((z - q:Nat):Int) by omega]at hbk
      have hbe:=HBE.out q (z - q) k (by have:=HZ.out;omega) (by omega) hbk _ HW.out (P3++vs) HK.out
      rw[show ((z - q:Nat):Int)=(z:Int) - (q:Int) by omega]at hbe
      have HB1:=hid hbe
      obtain⟨n,hn⟩:∃ n,x.left.length=n:=⟨_,rfl⟩
      rw[hn]at hstep h0 hle
      have hpp:=fun(V:World) (hV:Below b w1 V) (hKV:KI b tv rv lv (P3++vs) V)=>HPP.out k x hB.at' n hn (aR+q) V hV (P3++vs) (by rw[List.length_append];omega) hKV
      simp only[Int.natCast_add]at hpp
      have HP1:=hid hpp
      have HNC:=hid (show runN l s aR=(vs++[⟨k,aR+q,n⟩])++kZ l s aR z (q+n) from by rw[HCAT.out,hstep,List.append_assoc];rfl)
      have t4:decide ((q:Int)<(z:Int))=true:=decide_eq_true (by omega)
      have t5:IntKind.i64.wrap ((z:Int) - (q:Int))=(z:Int) - (q:Int):=IntWalk.i64_in _ ⟨by omega,by omega⟩
      have t6:IntKind.i64.wrap ((aR:Int)+(q:Int))=(aR:Int)+(q:Int):=IntWalk.i64_in _ ⟨by omega,by omega⟩
      have t7:IntKind.i64.wrap ((q:Int)+(n:Int))=(q:Int)+(n:Int):=IntWalk.i64_in _ ⟨by omega,by omega⟩
      clear hB hstep hbk hbe hpp hn
      go_wp2_with fail
      refine HB1.out.mono ?_
      rintro e w8 ⟨rfl,hb8⟩
      have HST8:=hid (HKS.out _ _ _ HK.out hb8)
      have HW8:=hid (HW.out.trans HST8.out.2.1)
      clear hb8
      go_wp2_with fail
      refine(HP1.out _ HW8.out HST8.out.1).mono ?_
      rintro e w9 ⟨rfl,hk9,hs9⟩
      have HK9:=hid (show KI b tv rv lv (P3++(vs++[⟨k,aR+q,n⟩])) w9 from by rw[← List.append_assoc];exact hk9)
      have HS9:=hid ((HS.out.trans HST8.out.2).trans hs9)
      have HW9:=hid (HW8.out.trans hs9.1)
      clear hk9 hs9
      go_wp2
      go_roundw
      case rel=>exact⟨q+n,_,by go_num,by omega,hle,HNC.out,HK9.out,HS9.out,HW9.out⟩
      case measure=>simp[intOf];omega
     ·obtain rfl:q=z:=by omega
      have HNC:=hid (show runN l s aR=vs++fL l s aR (s.length - q) q from by rw[HCAT.out,HIE.out])
      have t4:decide ((q:Int)<(q:Int))=false:=decide_eq_false (by omega)
      go_wp2
      go_roundw
      case rel=>exact⟨q,vs,rfl,hzr,HNC.out,HK.out,HS.out,HW.out⟩
      case measure=>simp[intOf];omega
   ·obtain rfl:p=rest:=by omega
    have hpl:p≤s.length:=HRE.out.le
    have h4:aO (s.drop p)≠4:=by
     by_cases h:p<s.length
     ·exact HRE.out.no p (Nat.le_refl _) h
     ·rw[List.drop_of_length_le (by omega)];decide
    have HRR:=hid (VW HACC.out HLS.out aR hpl h4)
    have hce:=HEX.out p TX.size
    rw[List.take_of_length_le (by rw[List.length_drop];have:=HZ.out;omega)]at hce
    have htc:=HTC.out (TX.extract p TX.size) (by rw[ByteArray.size_extract];omega) (aR+p) wr HW.out (P3++us) (by rw[List.length_append];omega) HK.out
    rw[hce,Int.natCast_add]at htc
    have HT1:=hid htc
    obtain⟨ks,hks⟩:∃ ks,gZ l (bL s) (p:Int)=ks:=⟨_,rfl⟩
    rw[hks]at HRR
    have hal:=HAL.out p (by omega)
    rw[hks]at hal
    have HA1:=hid hal
    have HKSS:=hid hks
    have t2:IntKind.i64.wrap ((aR:Int)+(p:Int))=(aR:Int)+(p:Int):=IntWalk.i64_in _ ⟨by omega,by omega⟩
    have t3:decide ((p:Int)<(p:Int))=false:=decide_eq_false (by omega)
    have p2:(p:Int)≤(TX.size:Int):=by omega
    clear h4 hce htc hks hal
    go_wp2_with fail
    refine HT1.out.mono ?_
    rintro e w7 ⟨rfl,hk7,hs7⟩
    have HK7:=hid (show KI b tv rv lv (P3++(us++k8 l (aO (s.drop p)) (aR+p))) w7 from by rw[← List.append_assoc];exact hk7)
    have HS7:=hid (HS.out.trans hs7)
    have HW7:=hid (HW.out.trans hs7.1)
    have HC7:=hid (show runN l s aR=(us++k8 l (aO (s.drop p)) (aR+p))++a8 l aR ks p from by rw[HCAT.out,HRR.out,List.append_assoc])
    obtain⟨vs,hvs⟩:∃ vs,us++k8 l (aO (s.drop p)) (aR+p)=vs:=⟨_,rfl⟩
    rw[hvs]at HK7 HC7
    have c0:=HEB.out _ _ HK7.out
    clear hk7 hs7 HCAT HRR HK HS HW HT1 hvs
    go_wp2_with fail
    refine(HA1.out _ HW7.out).mono ?_
    rintro e w8 ⟨v,rfl,hrow,hb8⟩
    have HST8:=hid (HKS.out _ _ _ HK7.out hb8)
    have HS8:=hid (HS7.out.trans HST8.out.2)
    have HW8:=hid (HW7.out.trans HST8.out.2.1)
    have HROW:=hid hrow
    obtain⟨A9,c9,rfl,-,-,hA9⟩:=aN hrow
    have HA9:=hid hA9
    obtain⟨nk,hnk⟩:∃ nk,ks.length=nk:=⟨_,rfl⟩
    rw[hnk]at HROW HA9 ⊢
    have HNK:=hid hnk
    have hnk9:nk≤1000:=by
     have:=IC l (bL s) (p:Int)
     rw[HKSS.out,hnk,aT]at this
     omega
    clear hb8 hrow hA9 HK7 HS7 HW7 HA1 hnk c0
    go_wp2_with fail
    go_loopw [75,10] (fun i a wr=>∃ (j p3:Nat) (us:List Pc),i=.int .i64 (j:Int)∧a=.int .i64 ((aR:Int)+(p3:Int))∧j≤nk∧p3≤TX.size∧ks.drop j=gZ l (bL s) (p3:Int)∧runN l s aR=us++a8 l aR (ks.drop j) p3∧KI b tv rv lv (P3++us) wr∧rR b w8 wr∧Below b w1 wr) (fun i _ _=>nk - (intOf i).toNat)
    case atStart=>exact⟨0,p,vs,rfl,rfl,Nat.zero_le _,by omega,HKSS.out.symm,HC7.out,HST8.out.1,rR.refl b w8,HW8.out⟩
    case round =>
     clear HC7 HST8 HW8
     obtain⟨j,p3,us,rfl,rfl,hj,hp3,hdr,hcat,hk,hst,hw⟩:=hrel
     have HDR:=hid hdr
     have HCAT:=hid hcat
     have HK:=hid hk
     have HS:=hid hst
     have HW:=hid hw
     have hul:us.length≤3000:=by
      have h1:=HTOT.out
      rw[hcat,List.length_append]at h1
      have:=HZ.out
      omega
     have j0:(0:Int)≤(j:Int):=by omega
     clear hdr hcat hk hst hw
     by_cases hlt2:j<nk
     ·have hpl3:p3<s.length:=by
       rcases Nat.lt_or_ge p3 s.length with h | h
       ·exact h
       ·have h1:=HDR.out
        rw[lT fun h2=>by have:=h2.2.2;rw[aT]at this;omega]at h1
        have:=congrArg List.length h1
        rw[List.length_drop,HNK.out]at this
        simp at this
        omega
      obtain⟨k,x,hB,-,hstep,h0,hle⟩:=kW HACC.out HRUN.out (p:=p3) (by rw[aT];exact hpl3)
      rw[aT]at hle
      obtain⟨hkj,hkd⟩:=RX (HDR.out.trans hstep)
      obtain⟨g9,rfl,-⟩:=HA9.out (by omega)
      have hcl:=(V1 HROW.out HS.out.2).cellAt j (by omega)
      have hiv:(iV ks)[j]?=some (.int .i64 (k:Int)):=by unfold iV;rw[List.getElem?_map,hkj];rfl
      rw[hiv]at hcl
      obtain⟨n,hn⟩:∃ n,x.left.length=n:=⟨_,rfl⟩
      rw[hn]at h0 hle hkd
      have hpp:=HPP.out k x hB.at' n hn (aR+p3) wr HW.out (P3++us) (by rw[List.length_append];omega) HK.out
      simp only[Int.natCast_add]at hpp
      have HP1:=hid hpp
      have HNC:=hid (show runN l s aR=(us++[⟨k,aR+p3,n⟩])++a8 l aR (ks.drop (j+1)) (p3+n) from by
       rw[HCAT.out,HDR.out,hstep,hn,← hkd,List.append_assoc]
       show us++(⟨k,aR+p3,aK l k⟩::a8 l aR _ (p3+aK l k))=_
       rw[iU hB.at',hn]
       rfl)
      have HKD:=hid hkd
      have t4:decide ((j:Int)<(nk:Int))=true:=decide_eq_true (by omega)
      have t7:IntKind.i64.wrap ((aR:Int)+(p3:Int)+(n:Int))=(aR:Int)+(p3:Int)+(n:Int):=IntWalk.i64_in _ ⟨by omega,by omega⟩
      have j1:(j:Int)<(nk:Int):=by omega
      have hle2:p3+n≤TX.size:=by have:=HZ.out;omega
      clear hB hstep hpp hn hkj hkd hiv
      go_wp2_with fail
      refine HP1.out.mono ?_
      rintro e w9 ⟨rfl,hk9,hs9⟩
      have HK9:=hid (show KI b tv rv lv (P3++(us++[⟨k,aR+p3,n⟩])) w9 from by rw[← List.append_assoc];exact hk9)
      have HS9:=hid (HS.out.trans hs9)
      have HW9:=hid (HW.out.trans hs9.1)
      clear hk9 hs9 hcl
      go_wp2
      go_roundw
      case rel=>exact⟨j+1,p3+n,_,by go_num,by rw[Int.natCast_add,← Int.add_assoc],by omega,hle2,HKD.out,HNC.out,HK9.out,HS9.out,HW9.out⟩
      case measure=>simp[intOf];omega
     ·have HE:=hid (show runN l s aR=us from by
       rw[HCAT.out,List.drop_of_length_le (by rw[HNK.out];omega)]
       exact List.append_nil _)
      have t4:decide ((j:Int)<(nk:Int))=false:=decide_eq_false (by omega)
      rw[← HE.out]at HK
      go_wp2
      go_end0
      exact⟨rfl,HK.out,HS8.out.trans HS.out⟩
end
def xK (l:List Rl) (x:Tk) (b:Bool) (j:Nat):List Pc :=
 if eO x=true then (if b=true then [] else [⟨aG l 8 jH,j,0⟩])++[⟨aG l 7 [x.ch],j,1⟩] else if gD x=true then [⟨aG l 6 [x.ch],j,1⟩] else [⟨aG l 8 (cM x),j,1⟩]
theorem V4 {x:Tk} (h:jG x=true) (hc:x.ch<256) (hl:aJ x=false) :
  (x.kind=2∧eO x=false∧gD x=false∧cM x=[x.ch,43])∨(x.kind=3∧eO x=false∧gD x=false∧cM x=[x.ch,45])∨(x.kind=1∧Hc.cls (x.ch:Int)=4∧eO x=false∧gD x=true)∨(x.kind=1∧Hc.cls (x.ch:Int)≠4∧eO x=true):=by
 have h3:Hc.cls (x.ch:Int)=3↔48≤x.ch∧x.ch≤57:=(gG ⟨x.ch,hc⟩).2.2.1
 have h4:Hc.cls (x.ch:Int)=4↔Ka.fZ.contains x.ch=true:=(gG ⟨x.ch,hc⟩).2.2.2
 unfold jG at h
 rw[hl,Bool.false_or]at h
 by_cases hd:eO x=true
 ·have hd':=hd
  unfold eO at hd
  rw[Bool.and_eq_true,decide_eq_true_eq,decide_eq_true_eq]at hd
  have:=h3.2 hd.2
  exact .inr (.inr (.inr ⟨hd.1,by omega,hd'⟩))
 ·have hd:eO x=false:=by simpa using hd
  rw[hd,Bool.false_or]at h
  by_cases hm:gD x=true
  ·have hm':=hm
   unfold gD at hm
   rw[Bool.and_eq_true,decide_eq_true_eq]at hm
   exact .inr (.inr (.inl ⟨hm.1,h4.2 hm.2,hd,hm'⟩))
  ·have hm:gD x=false:=by simpa using hm
   rw[hm,Bool.false_or]at h
   by_cases h1:x.ch=101∨x.ch=115∨x.ch=110
   ·by_cases k2:x.kind=2
    ·exact .inl ⟨k2,hd,hm,by unfold cM;rw[if_pos h1,if_pos k2]⟩
    ·by_cases k3:x.kind=3
     ·exact .inr (.inl ⟨k3,hd,hm,by unfold cM;rw[if_pos h1,if_neg k2,if_pos k3]⟩)
     ·unfold cM at h
      rw[if_pos h1,if_neg k2,if_neg k3]at h
      cases h
   ·unfold cM at h
    rw[if_neg h1]at h
    cases h
section
variable {T:bT} {w1 W W':World} {tv lv:Value} {l:List Rl} {lo hi:Nat} {t:List Tk} {off g rc:Nat} {ps:List Pc}
theorem RY (E:Env T w1 tv lv l lo hi t off g rc) (hW:Below w1.heap.size w1 W) (hK:KI w1.heap.size tv (jD l g rc) lv ps W) (hps:ps.length≤50000) (i:Nat) (x:Tk) (hx:t[i]?=some x) (hl:aJ x=false) (r:Bool) (hr:mX t i=r) :
  Calls Tryz.prog 168 #[.pointer (some ⟨w1.heap.size,0,none⟩),.int .i64 (i:Int)] W fun e W'=>e=.returned (.tuple #[])∧KI w1.heap.size tv (jD l g rc) lv (ps++xK l x r i) W'∧rR w1.heap.size W W':=by
 have hi9:i<t.length:=(List.getElem?_eq_some_iff.1 hx).1
 have hfew:=E.qT
 have hmem:=List.mem_of_getElem? hx
 have hch:=(E.IH x hmem).2.1
 have hsort:=V4 (List.all_eq_true.1 E.chunk x hmem) hch hl
 obtain⟨g0,c0,rfl,hg0,hcell⟩:=(E.EI hW).at (by omega)
 obtain⟨y0,y1,y2⟩:=pC hcell i x hx
 have c2:=hK.cells.2.2
 have HTK:=hid (fun(q:Int) (hq:oI q) (s:List Nat) (hs:s.length≤9000) (h256:∀ c ∈ s,c<256) (S:ByteArray) (hS:bytesOf s=S) (V:World) (hV:Below w1.heap.size w1 V) (qs:List Pc) (hqs:qs.length≤100000) (hKV:KI w1.heap.size tv (jD l g rc) (.slice (some ⟨g0,off,none⟩) t.length c0) qs V)=>take_at E hV hKV hqs q hq s hs h256 S hS i 1)
 have HTL:=hid (fun(V:World) (hV:Below w1.heap.size w1 V) (hKV:KI w1.heap.size tv (jD l g rc) (.slice (some ⟨g0,off,none⟩) t.length c0) ps V)=>xT E hV hKV (by omega) jH (by decide) (by decide) { data:=#[110,117,109] } rfl i)
 have HBH:=hid (fun(V:World) (hV:Below w1.heap.size w1 V) (hKV:KI w1.heap.size tv (jD l g rc) (.slice (some ⟨g0,off,none⟩) t.length c0) ps V)=>CI E hV hKV i (by omega) r hr)
 have HLD:=hid (fun(V:World) (hV:Below w1.heap.size w1 V)=>kE (E.gR hV).1)
 have HK:=hid hK
 have HKS:=hid (fun(V V':World) (hKV:KI w1.heap.size tv (jD l g rc) (.slice (some ⟨g0,off,none⟩) t.length c0) ps V) (hb:Below V.heap.size V V')=>hKV.step hb)
 have HW0:=hid hW
 obtain⟨nt,hnt⟩:∃ n,t.length=n:=⟨_,rfl⟩
 obtain⟨rv,hrv⟩:∃ v,jD l g rc=v:=⟨_,rfl⟩
 obtain⟨b,hb⟩:∃ b,w1.heap.size=b:=⟨_,rfl⟩
 rw[hnt]at c2 HTK HTL HBH HK HKS hi9 hfew ⊢
 rw[hrv]at HTK HTL HBH HK HKS ⊢
 rw[hb]at c2 HTK HTL HBH HLD HK HKS HW0 ⊢
 have HSO:=hid hsort
 have i0:(0:Int)≤(i:Int):=by omega
 have i1:(i:Int)<(nt:Int):=by omega
 obtain⟨q,c,p⟩:=x
 simp only[]at y0 y1 y2 hch HSO
 obtain⟨PP,hPP⟩:∃ P,xK l ⟨q,c,p⟩ r i=P:=⟨_,rfl⟩
 rw[hPP]
 have HPP:=hid hPP
 clear E hW hK hx hl hr hmem hsort hcell hg0 hnt hrv hb hPP
 go_enter Tryz.func168,Tryz.ntmps168
 go_upto_region 1 with fail
 have hb1:=(Below.refl W.heap.size W).alloc (Nat.le_refl _) (.cells #[.int .i64 q,.int .u8 (c:Int),.int .i64 p] 37)
 have hx1:=xI.new W q c p 37
 generalize W.alloc _=W1 at hb1 hx1 ⊢
 have hcv:=GK (W1.alloc (.cells #[.int .u8 (c:Int)] 5)) W1.heap.size c hch (by simp)
 clear y0 y1 y2
 obtain⟨x0,x1,x2,x3⟩:=hx1
 have HB1:=hid hb1
 have HX1:=hid (show xI W1 W.heap.size q c p from ⟨x0,x1,x2,x3⟩)
 clear hb1 c2
 have hone:(bytesOf [c]).size=1:=aF _
 obtain⟨S1,hS1⟩:∃ S,bytesOf [c]=S:=⟨_,rfl⟩
 rw[hS1]at hcv hone
 have HS1:=hid hS1
 clear hS1
 go_upto_region 5 with fail
 have hb2:=(Below.refl W1.heap.size W1).alloc (Nat.le_refl _) (.cells #[.int .u8 (c:Int)] 5)
 clear hcv x0 x1 x2 x3
 generalize W1.alloc _=W2 at hb2 ⊢
 obtain⟨x0,x1,x2,x3⟩:=HX1.out.kept hb2
 have HST:=hid (HKS.out _ _ HK.out (chain HB1.out HB1.out.size hb2))
 have HW2:=hid (HW0.out.trans HST.out.2.1)
 clear hb2 HX1 HB1 HK HW0
 have hst2:=HST.out.2
 have hk2:=HST.out.1
 have HS2:=hid hst2
 have HK2:=hid hk2
 clear HST hst2 hk2
 have hplus:∀ d:Nat,bytesOf [c,d]=S1++bytesOf [d]:=fun d=>by rw[← HS1.out,← jN];rfl
 have h256:∀ d:Nat,d<256→∀ z ∈ [c,d],z<256:=fun d hd z hz=>by simp at hz;omega
 rcases HSO.out with⟨rfl,e1,e2,e3⟩ | ⟨rfl,e1,e2,e3⟩ | ⟨rfl,e1,e2,e3⟩ | ⟨rfl,e1,e2⟩
 ·have HT:=hid (HTK.out 8 (by unfold oI;decide) [c,43] (by simp) (h256 43 (by decide)) (S1++{ data:=#[43] }) (hplus 43) _ HW2.out ps (by omega) HK2.out)
  have HP:=hid (show xK l ⟨2,c,p⟩ r i=[⟨aG l 8 [c,43],i,1⟩] from by unfold xK;rw[if_neg (by rw[e1];decide),if_neg (by rw[e2];decide),e3])
  have HP:=hid (HPP.out.symm.trans HP.out)
  rw[← HP.out]at HT
  clear hplus h256 e1 e2 e3 HSO
  go_wp2_with fail
  refine HT.out.mono ?_
  rintro e w3 ⟨rfl,hk3,hs3⟩
  have HK3:=hid hk3
  have HS3:=hid (HS2.out.trans hs3)
  clear hk3 hs3
  go_wp2
  go_end0
  exact⟨rfl,HK3.out,HS3.out⟩
 ·have HT:=hid (HTK.out 8 (by unfold oI;decide) [c,45] (by simp) (h256 45 (by decide)) (S1++{ data:=#[45] }) (hplus 45) _ HW2.out ps (by omega) HK2.out)
  have HP:=hid (show xK l ⟨3,c,p⟩ r i=[⟨aG l 8 [c,45],i,1⟩] from by unfold xK;rw[if_neg (by rw[e1];decide),if_neg (by rw[e2];decide),e3])
  have HP:=hid (HPP.out.symm.trans HP.out)
  rw[← HP.out]at HT
  clear hplus h256 e1 e2 e3 HSO
  go_wp2_with fail
  refine HT.out.mono ?_
  rintro e w3 ⟨rfl,hk3,hs3⟩
  have HK3:=hid hk3
  have HS3:=hid (HS2.out.trans hs3)
  clear hk3 hs3
  go_wp2
  go_end0
  exact⟨rfl,HK3.out,HS3.out⟩
 ·have HT:=hid (HTK.out 6 (by unfold oI;decide) [c] (by simp) (fun z hz=>by simp at hz;omega) S1 HS1.out _ HW2.out ps (by omega) HK2.out)
  have HP:=hid (show xK l ⟨1,c,p⟩ r i=[⟨aG l 6 [c],i,1⟩] from by unfold xK;rw[if_neg (by rw[e2];decide),if_pos e3])
  have HC:=hid (Hc.fQ (c:Int) 4 (by omega) (by omega) e1 _ (HLD.out _ HW2.out))
  have HP:=hid (HPP.out.symm.trans HP.out)
  rw[← HP.out]at HT
  clear hplus h256 e1 e2 e3 HSO
  go_wp2_with fail
  refine HC.out.mono ?_
  rintro e w3 ⟨rfl,rfl⟩
  go_wp2_with fail
  refine HT.out.mono ?_
  rintro e w3 ⟨rfl,hk3,hs3⟩
  have HK3:=hid hk3
  have HS3:=hid (HS2.out.trans hs3)
  clear hk3 hs3
  go_wp2
  go_end0
  exact⟨rfl,HK3.out,HS3.out⟩
 ·obtain⟨kc,hkc⟩:∃ k,Hc.cls (c:Int)=k:=⟨_,rfl⟩
  rw[hkc]at e1
  have HC:=hid (Hc.fQ (c:Int) kc (by omega) (by omega) hkc _ (HLD.out _ HW2.out))
  have HP:=hid (show xK l ⟨1,c,p⟩ r i=(if r=true then [] else [⟨aG l 8 jH,i,0⟩])++[⟨aG l 7 [c],i,1⟩] from by unfold xK;rw[if_pos e2])
  have t4:(kc==4)=false:=beq_eq_false_iff_ne.2 e1
  have HT:=hid (fun(V:World) (hV:Below b w1 V) (qs:List Pc) (hqs:qs.length≤100000) (hKV:KI b tv rv (.slice (some ⟨g0,off,none⟩) nt c0) qs V)=>HTK.out 7 (by unfold oI;decide) [c] (by simp) (fun z hz=>by simp at hz;omega) S1 HS1.out V hV qs hqs hKV)
  have HBH2:=hid (HBH.out _ HW2.out HK2.out)
  have HTL2:=hid (HTL.out _ HW2.out HK2.out)
  have HP:=hid (HPP.out.symm.trans HP.out)
  clear hplus h256 e1 e2 hkc HSO HTK HBH HTL
  go_wp2_with fail
  refine HC.out.mono ?_
  rintro e w3 ⟨rfl,rfl⟩
  go_wp2_with fail
  refine HBH2.out.mono ?_
  rintro e w3 ⟨rfl,rfl⟩
  cases r
  ·have HT2:=hid (fun(V:World) (hV:Below b w1 V) (hKV:KI b tv rv (.slice (some ⟨g0,off,none⟩) nt c0) (ps++[⟨aG l 8 jH,i,0⟩]) V)=>HT.out V hV (ps++[⟨aG l 8 jH,i,0⟩]) (by rw[List.length_append];simp;omega) hKV)
   have HP:=hid (show PP=[⟨aG l 8 jH,i,0⟩]++[⟨aG l 7 [c],i,1⟩] from HP.out)
   go_wp2_with fail
   refine HTL2.out.mono ?_
   rintro e w4 ⟨rfl,hk4,hs4⟩
   have HK4:=hid hk4
   have HS4:=hid (HS2.out.trans hs4)
   have HW4:=hid (HW2.out.trans hs4.1)
   clear hk4 hs4
   go_wp2_with fail
   refine(HT2.out _ HW4.out HK4.out).mono ?_
   rintro e w5 ⟨rfl,hk3,hs3⟩
   have HK3:=hid hk3
   have HS3:=hid (HS4.out.trans hs3)
   clear hk3 hs3
   go_wp2
   go_end0
   exact⟨rfl,by rw[HP.out,← List.append_assoc];exact HK3.out,HS3.out⟩
  ·have HP:=hid (show PP=[⟨aG l 7 [c],i,1⟩] from HP.out)
   rw[← HP.out]at HT
   go_wp2_with fail
   refine(HT.out _ HW2.out ps (by omega) HK2.out).mono ?_
   rintro e w5 ⟨rfl,hk3,hs3⟩
   have HK3:=hid hk3
   have HS3:=hid (HS2.out.trans hs3)
   clear hk3 hs3
   go_wp2
   go_end0
   exact⟨rfl,HK3.out,HS3.out⟩
end
end Go.Proofs.YthbigkoihpgcfaaGreatDoor.Cu
