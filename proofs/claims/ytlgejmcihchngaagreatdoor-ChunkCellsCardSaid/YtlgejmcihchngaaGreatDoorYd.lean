/-
  Put together: CvL, CvM, CvZ.
-/
import Derived.Test.YtlgejmcihchngaaGreatDoorYc
import Derived.Test.YtlgejmcihchngaaGreatDoorVa
import Derived.Test.YtlgejmcihchngaaGreatDoorUd
namespace Go.Proofs.YtlgejmcihchngaaGreatDoor.Cu
open Go.RowKit Ba Ru Ck Ti Pa Fl
theorem is_spec:∀ n:Fin 256,(Ka.isB (n.val:Int) && !Ka.whiteB (n.val:Int))=(smallB n.val || capB n.val || decide (48≤n.val∧n.val≤57) || Ka.markL.contains n.val):=by decide +kernel
theorem tok_one {c:Nat} {p:Int} (hc:c<256):tokT ⟨1,c,p⟩=(Ka.isB (c:Int) && !Ka.whiteB (c:Int)):=by
 rw[is_spec ⟨c,hc⟩]
 unfold tokT letT smallT capT digT mrkT nameT
 simp only[]
 have e:(!(if c=101∨c=115∨c=110 then (if (1:Int)=2 then [c,43] else if (1:Int)=3 then [c,45] else []) else ([]:List Nat)).isEmpty)=false:=by
  rw[if_neg (show ¬ (1:Int)=2 by decide),if_neg (show ¬ (1:Int)=3 by decide)]
  split<;>rfl
 rw[e,Bool.or_false]
 simp only[decide_true,Bool.true_and]
theorem tok_two {q:Int} {c:Nat} {p:Int} (hq:q=2∨q=3):tokT ⟨q,c,p⟩=decide (c=101∨c=115∨c=110):=by
 have h1:¬ q=1:=by omega
 unfold tokT letT smallT capT digT mrkT nameT
 simp only[decide_eq_false h1,Bool.false_and,Bool.or_false,Bool.false_or]
 by_cases h:c=101∨c=115∨c=110
 ·rw[if_pos h,decide_eq_true h]
  rcases hq with rfl | rfl<;>rfl
 ·rw[if_neg h,decide_eq_false h]
  rfl
theorem tok_else {q:Int} {c:Nat} {p:Int} (h1:¬ q=1) (h2:¬ q=2) (h3:¬ q=3):tokT ⟨q,c,p⟩=false:=by
 unfold tokT letT smallT capT digT mrkT nameT
 simp only[decide_eq_false h1,Bool.false_and,Bool.or_false,Bool.false_or]
 rw[if_neg h2,if_neg h3]
 split<;>rfl
set_option maxRecDepth 100000 in
set_option maxHeartbeats 8000000 in
theorem belongs_at (x:Tk) (hc:x.ch<256) (w:World) (hL:Laid9 w) :
  Calls Tryz.prog 28 #[aggK x] w fun e w'=>e=.returned (.bool (tokT x))∧Below w.heap.size w w':=by
 obtain⟨q,c,p⟩:=x
 simp only[]at hc
 simp only[aggK]
 obtain⟨r,hr⟩:∃ r,tokT ⟨q,c,p⟩=r:=⟨_,rfl⟩
 rw[hr]
 have HR:=Lib.hid hr
 have HLD:=Lib.hid (fun(V:World) (hV:Below w.heap.size w V)=>show Ka.Laid V from (hL.kept hV).1.ka)
 obtain⟨v1,hv1⟩:∃ v,Ka.isB (c:Int)=v:=⟨_,rfl⟩
 obtain⟨v2,hv2⟩:∃ v,Ka.whiteB (c:Int)=v:=⟨_,rfl⟩
 have HI:=Lib.hid (fun(V:World) (hV:Below w.heap.size w V)=>hv1▸Ka.is_any (c:Int) (by omega) (by omega) V (HLD.out V hV))
 have HW:=Lib.hid (fun(V:World) (hV:Below w.heap.size w V)=>hv2▸Ka.white_any (c:Int) (by omega) (by omega) V (HLD.out V hV))
 have HT1:=Lib.hid (show q=1→(v1 && !v2)=r from fun h=>by rw[← HR.out,h,tok_one hc,hv1,hv2])
 have HT2:=Lib.hid (show (q=2∨q=3)→decide (c=101∨c=115∨c=110)=r from fun h=>by rw[← HR.out,tok_two h])
 have HT3:=Lib.hid (show ¬ q=1→¬ q=2→¬ q=3→false=r from fun h1 h2 h3=>by rw[← HR.out,tok_else h1 h2 h3])
 clear hr hv1 hv2 hL HR HLD
 go_enter Tryz.func28,Tryz.ntmps28
 go_upto_region 1 with fail
 have hx:=BoxT.new w q c p 42
 have hw:=(Below.refl w.heap.size w).alloc (Nat.le_refl _) (.cells #[.int .i64 q,.int .u8 (c:Int),.int .i64 p] 42)
 generalize w.alloc _=w1 at hx hw ⊢
 have HE:=Lib.hid hw
 have HI1:=Lib.hid (HI.out w1 hw)
 have HW1:=Lib.hid (HW.out w1 hw)
 obtain⟨x0,x1,x2,x3⟩:=hx
 clear hw HI HW
 by_cases k1:q=1
 ·have HV:=Lib.hid (HT1.out k1)
  subst k1
  clear HT1 HT2 HT3
  go_wp2_with fail
  refine HI1.out.mono ?_
  rintro e w2 ⟨rfl,rfl⟩
  cases v1
  ·go_wp2
   go_ret
   exact⟨Cl.ret_bool HV.out,HE.out⟩
  ·go_wp2_with fail
   refine HW1.out.mono ?_
   rintro e w2 ⟨rfl,rfl⟩
   go_wp2
   go_ret
   exact⟨Cl.ret_bool HV.out,HE.out⟩
 ·have e1:(q==1)=false:=beq_eq_false_iff_ne.2 k1
  by_cases k23:q=2∨q=3
  ·have HV:=Lib.hid (HT2.out k23)
   clear HT1 HT2 HT3 HI1 HW1 k1
   have HF:=Lib.hid (show (((c:Int)==101)=true∧true=r)∨(((c:Int)==101)=false∧((c:Int)==115)=true∧true=r)∨(((c:Int)==101)=false∧((c:Int)==115)=false∧((c:Int)==110)=true∧true=r)∨(((c:Int)==101)=false∧((c:Int)==115)=false∧((c:Int)==110)=false∧false=r) from by
    by_cases c1:c=101
    ·exact .inl ⟨by rw[c1];rfl,by rw[← HV.out,decide_eq_true (.inl c1)]⟩
    ·have d1:((c:Int)==101)=false:=beq_eq_false_iff_ne.2 (by omega)
     by_cases c2:c=115
     ·exact .inr (.inl ⟨d1,by rw[c2];rfl,by rw[← HV.out,decide_eq_true (.inr (.inl c2))]⟩)
     ·have d2:((c:Int)==115)=false:=beq_eq_false_iff_ne.2 (by omega)
      by_cases c3:c=110
      ·exact .inr (.inr (.inl ⟨d1,d2,by rw[c3];rfl,by rw[← HV.out,decide_eq_true (.inr (.inr c3))]⟩))
      ·exact .inr (.inr (.inr ⟨d1,d2,beq_eq_false_iff_ne.2 (by omega),by rw[← HV.out,decide_eq_false (by omega)]⟩)))
   clear HV
   rcases k23 with rfl | rfl
   all_goals
    rcases HF.out with⟨d1,hv⟩ | ⟨d1,d2,hv⟩ | ⟨d1,d2,d3,hv⟩ | ⟨d1,d2,d3,hv⟩
    all_goals
     have HV:=Lib.hid hv
     clear hv HF
     go_wp2
     go_ret
     exact⟨Cl.ret_bool HV.out,HE.out⟩
  ·have HV:=Lib.hid (HT3.out k1 (by omega) (by omega))
   have e2:(q==2)=false:=beq_eq_false_iff_ne.2 (by omega)
   have e3:(q==3)=false:=beq_eq_false_iff_ne.2 (by omega)
   clear HT1 HT2 HT3 HI1 HW1 k1 k23
   go_wp2
   go_ret
   exact⟨Cl.ret_bool HV.out,HE.out⟩
set_option maxRecDepth 100000 in
set_option maxHeartbeats 4000000 in
theorem checkF_at (x:Tk) (hc:x.ch<256) (w:World) (hL:Laid9 w) :
  Calls Tryz.prog 27 #[aggK x] w fun e w'=>e=.returned (.bool (!tokT x))∧Below w.heap.size w w':=by
 have HBE:=Lib.hid (fun(V:World) (hV:Below w.heap.size w V)=>belongs_at x hc V (hL.kept hV))
 obtain⟨r,hr⟩:∃ r,tokT x=r:=⟨_,rfl⟩
 rw[hr]at HBE ⊢
 obtain⟨q,c,p⟩:=x
 simp only[aggK]at HBE ⊢
 clear hr hc hL
 go_enter Tryz.func27,Tryz.ntmps27
 go_upto_region 1 with fail
 have hx:=BoxT.new w q c p 42
 have hw:=(Below.refl w.heap.size w).alloc (Nat.le_refl _) (.cells #[.int .i64 q,.int .u8 (c:Int),.int .i64 p] 42)
 generalize w.alloc _=w1 at hx hw ⊢
 have HE:=Lib.hid hw
 have HB1:=Lib.hid (HBE.out w1 hw)
 obtain⟨x0,x1,x2,x3⟩:=hx
 clear hw HBE
 go_wp2_with fail
 refine HB1.out.mono ?_
 rintro e w2 ⟨rfl,hb2⟩
 have HB2:=Lib.hid (chain HE.out HE.out.size hb2)
 clear hb2
 go_wp2
 go_ret
 exact⟨rfl,HB2.out⟩
set_option maxRecDepth 100000 in
set_option maxHeartbeats 4000000 in
theorem indexCF_at (u:List Tk) (A:Option Addr) (off n c:Nat) (hn:u.length=n) (hn9:n≤100000) (q:Tk→Bool) (w:World) (hu:ReadsT off w w.heap.size (.slice A n c) u)
  (hq:∀ y ∈ u,∀ W:World,Below w.heap.size w W→Calls Tryz.prog 27 #[aggK y] W fun e w'=>e=.returned (.bool (q y))∧Below W.heap.size W w') :
  Calls Tryz.prog 55 #[.slice A n c,.func (.func 27) #[] #[]] w (IdxT q u w):=by
 obtain⟨A',c',e,hA⟩:=hu
 injection e with e1 e2 e3
 subst e1;subst e3
 have HA:=Lib.hid hA
 have HN:=Lib.hid hn
 have HPQ:=Lib.hid hq
 clear hA hn hq e2
 go_enter Tryz.func55,Tryz.ntmps55
 go_wp2
 go_loopw [8] (fun u8 wr=>∃ j:Nat,u8=.int .i64 (j:Int)∧j≤n∧(∀ (i:Nat) (y:Tk),i<j→u[i]?=some y→q y=false)∧Below w.heap.size w wr) (fun u8 _=>n - (intOf u8).toNat)
 case atStart=>exact⟨0,rfl,Nat.zero_le _,fun i y h=>by omega,Below.refl _ _⟩
 case round =>
  obtain⟨j,rfl,hj,hjq,hB⟩:=hrel
  have HQ:=Lib.hid hjq
  have HB:=Lib.hid hB
  have j0:(0:Int)≤(j:Int):=by omega
  clear hjq
  by_cases hlt:j<n
  ·obtain⟨g,rfl,hgw,hg⟩:=HA.out (by rw[HN.out];omega)
   obtain⟨x,hx⟩:∃ x,u[j]?=some x:=⟨_,List.getElem?_eq_getElem (by rw[HN.out];exact hlt)⟩
   obtain⟨g0,g1,g2⟩:=tcell hg j x hx
   have g0:=(hB.cell (p:=⟨g,off+j * 3,none⟩) hgw).trans g0
   have g1:=(hB.cell (p:=⟨g,off+j * 3+1,none⟩) hgw).trans g1
   have g2:=(hB.cell (p:=⟨g,off+j * 3+2,none⟩) hgw).trans g2
   obtain⟨bq,hbq⟩:∃ bq,q x=bq:=⟨_,rfl⟩
   have hir:=HPQ.out x (List.mem_of_getElem? hx) wr hB
   rw[hbq]at hir
   have HIR:=Lib.hid hir
   have HX:=Lib.hid hx
   have HBQ:=Lib.hid hbq
   have j1:(j:Int)<(n:Int):=by omega
   obtain⟨xk,xc,xp⟩:=x
   simp only[aggK]at HIR
   simp only[]at g0 g1 g2
   clear hx hg hgw hir hbq hB
   cases bq
   ·have HNX:=Lib.hid (show ∀ (i:Nat) (y:Tk),i<j+1→u[i]?=some y→q y=false from fun i y h1 h2=>by
     rcases Nat.lt_or_ge i j with h | h
     ·exact HQ.out i y h h2
     ·obtain rfl:i=j:=by omega
      rw[HX.out]at h2;cases h2;exact HBQ.out)
    go_wp2_with fail
    refine HIR.out.mono ?_
    rintro e w2 ⟨rfl,hb2⟩
    have HB2:=Lib.hid (chain HB.out HB.out.size hb2)
    clear hb2
    go_wp2
    go_roundw
    case rel=>exact⟨j+1,by go_num,by omega,HNX.out,HB2.out⟩
    case measure=>simp[intOf];omega
   ·have HFI:=Lib.hid (show ∀ y,u[j]?=some y→q y=true from fun y hy=>by rw[HX.out]at hy;cases hy;exact HBQ.out)
    go_wp2_with fail
    refine HIR.out.mono ?_
    rintro e w2 ⟨rfl,hb2⟩
    have HB2:=Lib.hid (chain HB.out HB.out.size hb2)
    clear hb2
    go_wp2
    go_ret
    exact⟨.inl ⟨j,rfl,by rw[HN.out];exact hlt,HQ.out,HFI.out⟩,HB2.out⟩
  ·obtain rfl:j=n:=by omega
   have HFI:=Lib.hid (show ∀ (i:Nat) (y:Tk),u[i]?=some y→q y=false from fun i y h2=>HQ.out i y (by rw[← HN.out];exact(List.getElem?_eq_some_iff.1 h2).1) h2)
   clear hB
   go_wp2
   go_ret
   exact⟨.inr ⟨rfl,HFI.out⟩,HB.out⟩
set_option maxRecDepth 100000 in
set_option maxHeartbeats 4000000 in
theorem containsCF_at (u:List Tk) (A:Option Addr) (off n c:Nat) (hn:u.length=n) (hn9:n≤100000) (hf:∀ x ∈ u,x.ch<256) (r:Bool) (hr:(!chunkB u)=r) (w:World) (hL:Laid9 w) (hu:ReadsT off w w.heap.size (.slice A n c) u) :
  Calls Tryz.prog 26 #[.slice A n c,.func (.func 27) #[] #[]] w fun e w'=>e=.returned (.bool r)∧Below w.heap.size w w':=by
 have HI:=Lib.hid (indexCF_at u A off n c hn hn9 (fun y=>!tokT y) w hu (fun y hy W hW=>checkF_at y (hf y hy) W (hL.kept hW)))
 have HR:=Lib.hid hr
 clear hn hn9 hf hr hL hu
 go_enter Tryz.func26,Tryz.ntmps26
 go_wp2_with fail
 refine HI.out.mono ?_
 rintro e w2 ⟨hres,hb2⟩
 have HB2:=Lib.hid hb2
 clear hb2
 rcases hres with⟨j,rfl,hj,-,hy⟩ | ⟨rfl,hno⟩
 ·have HE:=Lib.hid (show true=r from by
   rw[← HR.out]
   obtain⟨y,hyy⟩:∃ y,u[j]?=some y:=⟨_,List.getElem?_eq_getElem hj⟩
   have h1:=hy y hyy
   unfold chunkB
   rw[List.all_eq_false.2 ⟨y,List.mem_of_getElem? hyy,by simpa using h1⟩]
   rfl)
  have j2:decide ((0:Int)≤(j:Int))=true:=decide_eq_true (by omega)
  clear hj hy
  go_wp2
  go_ret
  exact⟨Cl.ret_bool HE.out,HB2.out⟩
 ·have HE:=Lib.hid (show false=r from by
   rw[← HR.out]
   unfold chunkB
   rw[List.all_eq_true.2 fun y hy=>by
    obtain⟨i,hi,e⟩:=List.getElem_of_mem hy
    have:=hno i y (by rw[List.getElem?_eq_getElem hi,e])
    simpa using this]
   rfl)
  clear hno
  go_wp2
  go_ret
  exact⟨Cl.ret_bool HE.out,HB2.out⟩
set_option maxRecDepth 100000 in
set_option maxHeartbeats 4000000 in
theorem check_at12 (v:Value) (t:List Tk) (off:Nat) (hn:t.length≤1000) (hf:FitT t) (w:World) (hL:Laid9 w) (hr:ReadsT off w w.heap.size v t) :
  Calls Tryz.prog 9 #[v] w fun e w'=>e=.returned (.int .i64 (errC t))∧Below w.heap.size w w':=by
 have hr0:=hr
 obtain⟨A,c,rfl,-⟩:=hr
 obtain⟨r,hrr⟩:∃ r,(!chunkB t)=r:=⟨_,rfl⟩
 have HC:=Lib.hid (containsCF_at t A off t.length c rfl (by omega) (fun x hx=>(hf x hx).2.1) r hrr w hL hr0)
 have HV:=Lib.hid (show errC t=if r=true then 1 else 0 from by
  unfold errC
  rw[← hrr]
  cases chunkB t<;>rfl)
 clear hn hf hL hr0 hrr
 go_enter Tryz.func9,Tryz.ntmps9
 go_wp2_with fail
 refine HC.out.mono ?_
 rintro e w2 ⟨rfl,hb2⟩
 have HB2:=Lib.hid hb2
 clear hb2
 cases r
 ·have HE:=Lib.hid (show (0:Int)=errC t from by rw[HV.out];rfl)
  go_wp2
  go_ret
  exact⟨Ba.ret_int HE.out,HB2.out⟩
 ·have HE:=Lib.hid (show (1:Int)=errC t from by rw[HV.out];rfl)
  go_wp2
  go_ret
  exact⟨Ba.ret_int HE.out,HB2.out⟩
def BegT (l:List Rl) (tv v:Value) (f:Int) (w:World) (e:Ending) (w':World):Prop :=
 ∃ (w1:World) (g rc:Nat),e=.returned (.tuple #[.pointer (some ⟨w1.heap.size,0,none⟩),.int .i64 f])∧Below w.heap.size w w1∧Below w1.heap.size w1 w'∧KI w1.heap.size tv (rvK l g rc) v [] w'∧g<w1.heap.size∧∀ k x,l[k]?=some x→CellsR w1 g (0+k * 5) x.what (bytesOf x.left) (bytesOf x.cells) x.prio x.line
set_option maxRecDepth 100000 in
set_option maxHeartbeats 4000000 in
theorem begin_at (T:TLands) {tv:Value} {l:List Rl} {lo hi:Nat} (v:Value) (t:List Tk) (off:Nat) (hn:t.length≤1000) (hf:FitT t) (hl:l.length≤1000) (hA:Acc prC l) (hfl:FitL l) (w:World) (hL:Laid9 w) (H:T.Is w tv l lo hi) (hr:ReadsT off w w.heap.size v t) (f:Int) (hff:errC t=f) :
  Calls Tryz.prog 38 #[tv,v] w (BegT l tv v f w):=by
 have HRU:=Lib.hid (T.rules hl hA hfl w hL H)
 have HCK:=Lib.hid (fun(V:World) (hV:Below w.heap.size w V)=>hff▸check_at12 v t off hn hf V (hL.kept hV) ((hr.below hV).mono hV.size))
 have HNE:=Lib.hid (show l≠[] from by
  obtain⟨k,x,hk,-,-⟩:=letter_rule hA (c:=97) (by omega) (by omega)
  intro e
  rw[e]at hk
  cases hk)
 obtain⟨⟨a,rfl⟩,-⟩:=T.ptr H
 have hr0:=hr
 obtain⟨A,c,rfl,-⟩:=hr0
 clear hn hf hl hA hfl hL H hr hff
 unfold BegT rvK
 go_enter Tryz.func38,Tryz.ntmps38
 go_wp2_with fail
 refine HRU.out.mono ?_
 rintro e w1 ⟨u,rfl,hu,hb1⟩
 obtain⟨g,rc,rfl,hg,hc⟩:=rules_cells HNE.out hu
 have hl0:0<l.length:=List.length_pos_iff.2 HNE.out
 have HG:=Lib.hid hg
 have HC:=Lib.hid hc
 have HB1:=Lib.hid hb1
 have t0:((l.length:Int)==0)=false:=beq_eq_false_iff_ne.2 (by omega)
 have HW2:=Lib.hid ((Below.refl w1.heap.size w1).alloc (Nat.le_refl _) (.cells #[.pointer (some a),.slice (some ⟨g,0,none⟩) l.length rc,.slice A t.length c,.slice none 0 0] 79))
 have HKI:=Lib.hid (show KI w1.heap.size (.pointer (some a)) (.slice (some ⟨g,0,none⟩) l.length rc) (.slice A t.length c) [] (w1.alloc (.cells #[.pointer (some a),.slice (some ⟨g,0,none⟩) l.length rc,.slice A t.length c,.slice none 0 0] 79)) from ⟨.slice none 0 0,World.alloc_heap_new w1 _,World.ownsRow_nil _ _ _ _⟩)
 have HCK2:=Lib.hid (HCK.out _ (chain HB1.out HB1.out.size HW2.out))
 clear hu hb1 hg hc HRU HCK
 go_wp2_with fail
 refine HCK2.out.mono ?_
 rintro e w3 ⟨rfl,hb3⟩
 have HK3:=Lib.hid (HKI.out.step hb3)
 clear hb3 HCK2 HKI
 go_wp2
 go_ret2
 exact⟨w1,g,rc,rfl,HB1.out,HW2.out.trans HK3.out.2.1,HK3.out.1,HG.out,HC.out⟩
set_option maxRecDepth 100000 in
set_option maxHeartbeats 4000000 in
theorem rules0_at (w:World):Calls Tryz.prog 49 #[.pointer none] w fun e w'=>e=.returned (.slice none 0 0)∧w'=w:=by
 go_enter Tryz.func49,Tryz.ntmps49
 go_wp2
 go_ret
 exact⟨rfl,rfl⟩
set_option maxRecDepth 100000 in
set_option maxHeartbeats 4000000 in
theorem begin0_at (v:Value) (w:World):Calls Tryz.prog 38 #[.pointer none,v] w fun e w'=>e=.returned (.tuple #[.pointer none,.int .i64 1])∧w'=w:=by
 go_enter Tryz.func38,Tryz.ntmps38
 go_wp2_with fail
 refine(rules0_at _).mono ?_
 rintro e w2 ⟨rfl,rfl⟩
 go_wp2
 go_ret2
 exact⟨rfl,rfl⟩
end Go.Proofs.YtlgejmcihchngaaGreatDoor.Cu
namespace Go.Proofs.YtlgejmcihchngaaGreatDoor.Cu
open Go.RowKit Ba Ru Ck Ti Pa Fl
theorem wordN_nil {l:List Rl} (A:Acc prC l):wordN l []=none:=by
 cases h:wordN l [] with
 | none=>rfl
 | some k =>
  exfalso
  unfold wordN at h
  rw[List.findIdx?_eq_some_iff_getElem]at h
  obtain⟨hk,hp,-⟩:=h
  have:=of_decide_eq_true hp
  exact acc_cells A _ (List.getElem_mem hk) this.2
theorem insert_own (ps:List Pc) (x:Pc) (n:Nat) (hn:ps.length=n) (h0:0<n) (hn9:n≤100000) (B:Nat) (pv:Value) (w:World) (hB:B≤w.heap.size) (hown:w.ownsRow B 48 3 pv n (rowsP ps)) (o:Obj) (ho:o=.cells #[.int .i64 (x.rule:Int),.int .i64 (x.frm:Int),.int .i64 (x.len:Int)] 48) :
  Calls Tryz.prog 83 #[pv,.int .i64 0,.slice (some ⟨w.heap.size,0,none⟩) 1 1] (w.alloc o) fun e w'=>∃ v',e=.returned v'∧w'.ownsRow B 48 3 v' (n+1) (rowsP (x::ps))∧(w.alloc o).grownBy w' pv.ownBlock:=by
 subst ho
 rcases hown.2 with⟨-,hz⟩ | ⟨g,cap,cur,rfl,hbg,hg,h1,h2,h3,h4⟩
 ·omega
 have hgl:g<w.heap.size:=(Array.getElem?_eq_some_iff.1 hg).1
 have hg2:=(Below.heap_alloc w (.cells #[.int .i64 (x.rule:Int),.int .i64 (x.frm:Int),.int .i64 (x.len:Int)] 48) g hgl).trans hg
 have hnb:=World.alloc_heap_new w (.cells #[.int .i64 (x.rule:Int),.int .i64 (x.frm:Int),.int .i64 (x.len:Int)] 48)
 by_cases hroom:cap<n+1
 ·exact insert_grow ps x n cap hn h0 hn9 B g _ (by simp;omega) cur hg2 h1 h4 hroom w.heap.size hnb
 ·exact insert_room ps x n cap hn h0 hn9 B g _ hbg cur hg2 h2 h3 h4 (by omega) w.heap.size (by omega) hnb
section
variable {T:TLands} {w1 W W':World} {tv lv:Value} {l:List Rl} {lo hi:Nat} {t:List Tk} {off g rc:Nat} {ps:List Pc}
set_option maxRecDepth 100000 in
set_option maxHeartbeats 8000000 in
theorem guard_at (E:Env T w1 tv lv l lo hi t off g rc) (hW:Below w1.heap.size w1 W) (hK:KI w1.heap.size tv (rvK l g rc) lv ps W) (hps:ps.length≤4400) (hval:Valid l ps) (qs:List Pc) (hq:(if looksB l (cellsP l ps)=true then ⟨ruleN l 8 letS,0,0⟩::ps else ps)=qs) :
  Calls Tryz.prog 41 #[.pointer (some ⟨w1.heap.size,0,none⟩)] W fun e W'=>e=.returned (.tuple #[])∧KI w1.heap.size tv (rvK l g rc) lv qs W'∧StK w1.heap.size W W':=by
 obtain⟨⟨ta,rfl⟩,-⟩:=T.ptr E.tab
 obtain⟨C,hC⟩:∃ C,cellsP l ps=C:=⟨_,rfl⟩
 have hl9:∀ x ∈ l,x.cells.length≤9000:=fun x hx=>(E.fit x hx).2.2
 have hCl:C.length≤45000000:=by
  rw[← hC,← catQ_cells hval]
  have h1:=catQ_len hl9 (ps.map Pc.q)
  rw[List.length_map]at h1
  have h3:ps.length * 9000≤4400 * 9000:=Nat.mul_le_mul_right _ hps
  omega
 have hC256:∀ z ∈ C,z<256:=fun z hz=>by
  rw[← hC,cells_valid hval]at hz
  unfold cellsR at hz
  obtain⟨x,hx,hzx⟩:=List.mem_flatMap.1 hz
  exact(E.fit x (rulesP_mem x hx)).1.2.2.2.2.1 z hzx
 have hD256:∀ z ∈ bareN l C,z<256:=fun z hz=>by
  unfold bareN at hz
  split at hz
  ·exact hC256 z (List.mem_of_mem_drop hz)
  ·split at hz
   ·exact hC256 z (List.mem_of_mem_drop hz)
   ·exact hC256 z hz
 have hDl:=bareN_len l C
 have HUN:=Lib.hid (fun(V:World) (hV:Below W.heap.size W V)=>uncased_at E (hW.trans (hV.mono hW.size)) (hK.below hV) (by omega) hval C hC)
 have HWD:=Lib.hid (fun(V:World) (hV:Below W.heap.size W V)=>show Calls Tryz.prog 81 #[.pointer (some ta),.string (bytesOf (bareN l C))] V fun e w'=>e=.returned (.tuple #[.int .i64 (numV (wordN l (bareN l C))),.bool (okV (wordN l (bareN l C)))])∧Below V.heap.size V w' from by
  have hWV:=hW.trans (hV.mono hW.size)
  have h:=T.word (t:=.pointer (some ta)) (bytesOf (bareN l C)) (by rw[bytesOf_size];omega) E.few E.acc E.fit V (E.laidAt hWV) (E.tabAt hWV)
  rw[bytesN_bytesOf _ hD256]at h
  exact h)
 have HFL:=Lib.hid (fun(V:World) (hV:Below W.heap.size W V)=>E.find 8 (by unfold I64;decide) letS (by decide) (by decide) (hW.trans (hV.mono hW.size)))
 rw[show bytesOf letS={ data:=#[108,101,116] } from rfl]at HFL
 have HNIL:=Lib.hid (show okV (wordN l (bareN l C))=true→0<ps.length from fun h=>by
  cases ps with
  | nil =>
   have e:C=[]:=by rw[← hC];rfl
   rw[e,bareN_nil,wordN_nil E.acc]at h
   cases h
  | cons y p=>simp)
 have hq2:(if okV (wordN l (bareN l C))=true then ⟨ruleN l 8 letS,0,0⟩::ps else ps)=qs:=by
  rw[← hq,hC,looks_bare]
  rfl
 have HSS:=Lib.hid (show ∀ V:World,Below W.heap.size W V→V.cell? ⟨w1.heap.size,0,none⟩=some (.pointer (some ta))∧Below W.heap.size W V from fun V hV=>⟨(hK.below hV).cells.1,hV⟩)
 have HKV:=Lib.hid (fun(V:World) (hV:Below W.heap.size W V)=>show ∃ pv,KV w1.heap.size (.pointer (some ta)) (rvK l g rc) lv pv ps V from hK.below hV)
 have HST:=Lib.hid (fun(V:World) (hV:Below W.heap.size W V)=>(hK.step hV).2)
 obtain⟨nw,hnw⟩:∃ z,numV (wordN l (bareN l C))=z:=⟨_,rfl⟩
 obtain⟨ok,hok⟩:∃ b,okV (wordN l (bareN l C))=b:=⟨_,rfl⟩
 obtain⟨SD,hSD⟩:∃ S,bytesOf (bareN l C)=S:=⟨_,rfl⟩
 obtain⟨rl,hrl⟩:∃ r,ruleN l 8 letS=r:=⟨_,rfl⟩
 obtain⟨fl,hfl⟩:∃ b,(findN l 8 letS).isSome=b:=⟨_,rfl⟩
 obtain⟨rv,hrv⟩:∃ v,rvK l g rc=v:=⟨_,rfl⟩
 obtain⟨b,hb⟩:∃ b,w1.heap.size=b:=⟨_,rfl⟩
 rw[hSD]at HUN HWD
 rw[hnw,hok]at HWD
 rw[hok]at HNIL hq2
 rw[hrl,hfl]at HFL
 rw[hrl]at hq2
 rw[hrv]at HKV ⊢
 rw[hb]at HUN HSS HKV HST ⊢
 have HQ:=Lib.hid hq2
 clear E hW hK hval hq hC hl9 hCl hC256 hD256 hDl hnw hok hSD hrl hfl hrv hb hq2
 go_enter Tryz.func41,Tryz.ntmps41
 go_upto_region 0 with fail
 have hS:=(HSS.out _ (Below.refl _ _).drew)
 refine wp_region_held_drew (S:=(fun V:World=>V.cell? ⟨b,0,none⟩=some (.pointer (some ta))∧Below W.heap.size W V)) (by kernel_rfl) hS (fun hHeld=>?_)
 refine wpAnyH_take (i:=0) (v:=?_) (by simp only[List.getElem?_toArray,List.getElem?_cons_zero];rfl) (by kernel_rfl) (by kernel_rfl) (by kernel_rfl) (by exact fun _ _ _ h=>h) (Or.inl ⟨by rfl,?_⟩) (by with_reducible exact hS) ?_
 rotate_left
 ·intro W hSw;(obtain⟨x0,-⟩:=hSw);go_simp;all_goals (with_reducible rfl)
 try simp only[Act.put,List.setIfInBounds_toArray,List.set_cons_zero,List.set_cons_succ]
 refine wpAnyH_take (i:=1) (v:=?_) (by simp only[List.getElem?_toArray,List.getElem?_cons_succ,List.getElem?_cons_zero];rfl) (by kernel_rfl) (by kernel_rfl) (by kernel_rfl) (by exact fun _ _ _ h=>h) (Or.inl ⟨by rfl,?_⟩) (by with_reducible exact hS) ?_
 rotate_left
 ·intro W hSw;(obtain⟨x0,-⟩:=hSw);go_simp;all_goals (with_reducible rfl)
 try simp only[Act.put,List.setIfInBounds_toArray,List.set_cons_zero,List.set_cons_succ]
 refine wpAnyH_take (i:=2) (v:=?_) (by simp only[List.getElem?_toArray,List.getElem?_cons_succ,List.getElem?_cons_zero];rfl) (by kernel_rfl) (by kernel_rfl) (by kernel_rfl) (by exact fun _ _ _ h=>h) (Or.inl ⟨by rfl,?_⟩) (by with_reducible exact hS) ?_
 rotate_left
 ·intro W hSw;(obtain⟨x0,-⟩:=hSw);go_simp;all_goals (with_reducible rfl)
 try simp only[Act.put,List.setIfInBounds_toArray,List.set_cons_zero,List.set_cons_succ]
 refine wpAnyH_take (i:=3) (v:=?_) (by simp only[List.getElem?_toArray,List.getElem?_cons_succ,List.getElem?_cons_zero];rfl) (by kernel_rfl) (by kernel_rfl) (by kernel_rfl) (by exact fun _ _ _ h=>h) (Or.inl ⟨by rfl,?_⟩) (by with_reducible exact hS) ?_
 rotate_left
 ·intro W hSw;(obtain⟨x0,-⟩:=hSw);go_simp;all_goals (with_reducible rfl)
 try simp only[Act.put,List.setIfInBounds_toArray,List.set_cons_zero,List.set_cons_succ]
 refine wpAnyH_take (i:=4) (v:=?_) (by simp only[List.getElem?_toArray,List.getElem?_cons_succ,List.getElem?_cons_zero];rfl) (by kernel_rfl) (by kernel_rfl) (by kernel_rfl) (by exact fun _ _ _ h=>h) (Or.inl ⟨by rfl,?_⟩) (by with_reducible exact hS) ?_
 rotate_left
 ·intro W hSw;(obtain⟨x0,-⟩:=hSw);go_simp;all_goals (with_reducible rfl)
 try simp only[Act.put,List.setIfInBounds_toArray,List.set_cons_zero,List.set_cons_succ]
 refine Rg.take_one 5 (by simp only[List.getElem?_toArray,List.getElem?_cons_succ,List.getElem?_cons_zero];rfl) (by kernel_rfl) (fun K hK=>?_)
 go_simp
 go_at_call 82
 refine(HUN.out _ hS.2).mono ?_
 rintro e w4 ⟨rfl,hb4⟩
 have hS5:=HSS.out _ (chain hS.2 hS.2.size hb4)
 go_wp2_with fail
 refine hK.out _ _ hS5 (fun hHeld5=>?_)
 clear hK K
 try simp only[Act.put,List.setIfInBounds_toArray,List.set_cons_zero,List.set_cons_succ]
 refine Rg.take_one 6 (by simp only[List.getElem?_toArray,List.getElem?_cons_succ,List.getElem?_cons_zero];rfl) (by kernel_rfl) (fun K hK=>?_)
 go_simp
 go_at_call 81
 refine(HWD.out _ hS5.2).mono ?_
 rintro e w5 ⟨rfl,hb5⟩
 have hS6:=HSS.out _ (chain hS5.2 hS5.2.size hb5)
 go_wp2_with fail
 refine hK.out _ _ hS6 (fun hHeld6=>?_)
 clear hK K
 try simp only[Act.put,List.setIfInBounds_toArray,List.set_cons_zero,List.set_cons_succ]
 refine wpAnyH_take (i:=7) (v:=?_) (by simp only[List.getElem?_toArray,List.getElem?_cons_succ,List.getElem?_cons_zero];rfl) (by kernel_rfl) (by kernel_rfl) (by kernel_rfl) (by exact fun _ _ _ h=>h) (Or.inl ⟨by rfl,?_⟩) (by with_reducible exact hS6) ?_
 rotate_left
 ·intro W hSw;(obtain⟨x0,-⟩:=hSw);go_simp;all_goals (with_reducible rfl)
 try simp only[Act.put,List.setIfInBounds_toArray,List.set_cons_zero,List.set_cons_succ]
 refine wpAnyH_take (i:=8) (v:=?_) (by simp only[List.getElem?_toArray,List.getElem?_cons_succ,List.getElem?_cons_zero];rfl) (by kernel_rfl) (by kernel_rfl) (by kernel_rfl) (by exact fun _ _ _ h=>h) (Or.inl ⟨by rfl,?_⟩) (by with_reducible exact hS6) ?_
 rotate_left
 ·intro W hSw;(obtain⟨x0,-⟩:=hSw);go_simp;all_goals (with_reducible rfl)
 try simp only[Act.put,List.setIfInBounds_toArray,List.set_cons_zero,List.set_cons_succ]
 refine wpAnyH_take (i:=9) (v:=?_) (by simp only[List.getElem?_toArray,List.getElem?_cons_succ,List.getElem?_cons_zero];rfl) (by kernel_rfl) (by kernel_rfl) (by kernel_rfl) (by exact fun _ _ _ h=>h) (Or.inl ⟨by rfl,?_⟩) (by with_reducible exact hS6) ?_
 rotate_left
 ·intro W hSw;(obtain⟨x0,-⟩:=hSw);go_simp;all_goals (with_reducible rfl)
 try simp only[Act.put,List.setIfInBounds_toArray,List.set_cons_zero,List.set_cons_succ]
 refine wpAnyH_take (i:=10) (v:=?_) (by simp only[List.getElem?_toArray,List.getElem?_cons_succ,List.getElem?_cons_zero];rfl) (by kernel_rfl) (by kernel_rfl) (by kernel_rfl) (by exact fun _ _ _ h=>h) (Or.inl ⟨by rfl,?_⟩) (by with_reducible exact hS6) ?_
 rotate_left
 ·intro W hSw;(obtain⟨x0,-⟩:=hSw);go_simp;all_goals (with_reducible rfl)
 try simp only[Act.put,List.setIfInBounds_toArray,List.set_cons_zero,List.set_cons_succ]
 refine wpAnyH_take (i:=11) (v:=?_) (by simp only[List.getElem?_toArray,List.getElem?_cons_succ,List.getElem?_cons_zero];rfl) (by kernel_rfl) (by kernel_rfl) (by kernel_rfl) (by exact fun _ _ _ h=>h) (Or.inl ⟨by rfl,?_⟩) (by with_reducible exact hS6) ?_
 rotate_left
 ·intro W hSw;(obtain⟨x0,-⟩:=hSw);go_simp;all_goals (with_reducible rfl)
 try simp only[Act.put,List.setIfInBounds_toArray,List.set_cons_zero,List.set_cons_succ]
 refine wpAnyH_done (by kernel_rfl) ?_ _
 have HB6:=Lib.hid hS6.2
 clear hS hS5 hS6
 clear HUN HWD HSS
 have HST6:=Lib.hid (HST.out _ HB6.out)
 cases ok
 ·have HV:=Lib.hid (show ps=qs from HQ.out)
  obtain⟨pv,hkv⟩:=HKV.out _ HB6.out
  have HK6:=Lib.hid hkv
  clear hkv
  go_wp2
  go_end0
  rw[← HV.out]
  exact⟨rfl,⟨pv,HK6.out⟩,HST6.out⟩
 have HV:=Lib.hid (show ⟨rl,0,0⟩::ps=qs from HQ.out)
 have hn0:=HNIL.out rfl
 have HF6:=Lib.hid (HFL.out _ HB6.out)
 obtain⟨pv0,hkv0⟩:=HKV.out _ HB6.out
 have c0:=hkv0.cells.1
 clear HNIL HQ HFL hkv0
 go_wp2_with fail
 refine HF6.out.mono ?_
 rintro e w7 ⟨rfl,hb7⟩
 have HB7:=Lib.hid (chain HB6.out HB6.out.size hb7)
 obtain⟨pv,hkv⟩:=HKV.out _ HB7.out
 have HST7:=Lib.hid (HST.out _ HB7.out)
 obtain⟨A,cp,rfl,-,-,hA⟩:=own_formR hkv.2
 obtain⟨g9,rfl,-⟩:=hA hn0
 have c3:=hkv.cells.2.2.2
 have hbl:=hkv.lt
 have HIN:=Lib.hid (insert_own ps ⟨rl,0,0⟩ ps.length rfl hn0 (by omega) (b+1) _ w7 (by omega) hkv.2 _ rfl)
 have HSE:=Lib.hid (fun(v6:Value) (w6:World) h1 h2=>hkv.set (o:=.cells #[.int .i64 (rl:Int),.int .i64 0,.int .i64 0] 48) (v6:=v6) (w6:=w6) (qs:=⟨rl,0,0⟩::ps) h1 h2)
 obtain⟨n,hn⟩:∃ n,ps.length=n:=⟨_,rfl⟩
 rw[hn]at c3 HIN HSE
 have HN:=Lib.hid hn
 clear hb7 hkv hA HKV HST HF6 HST6 hn c0 hps hn0
 simp only[]at HIN
 go_wp2_with fail
 refine HIN.out.mono ?_
 rintro e w8 ⟨v8,rfl,hown8,hgrow8⟩
 obtain⟨hb8,hk8,hs8⟩:=HSE.out v8 w8 hgrow8 (by rw[List.length_cons,HN.out];exact hown8)
 obtain⟨A8,c8,rfl,-,-,-⟩:=own_formR hown8
 have d3:w8.cell? ⟨b,3,none⟩=some (.slice (some ⟨g9,0,none⟩) n cp):=by rw[Lib.cell_of_heap hb8];rfl
 have f3:w8.frozen? ⟨b,3,none⟩=false:=Lib.frozen_of_heap hb8 3
 have HK8:=Lib.hid hk8
 have HS8:=Lib.hid (HST7.out.trans hs8)
 clear hown8 hgrow8 hb8 hk8 hs8 HSE HIN
 go_wp2
 go_end0
 rw[← HV.out]
 exact⟨rfl,HK8.out,HS8.out⟩
end
end Go.Proofs.YtlgejmcihchngaaGreatDoor.Cu
namespace Go.Proofs.YtlgejmcihchngaaGreatDoor.Cu
open Go.RowKit Ba Ru Ck Ti Pa Fl
theorem word_chunk {l:List Rl} {t:List Tk} (h:chunkB t=false):wordP l t=none:=by
 refine word_not (.inl ?_)
 by_cases ha:t.all letT=true
 ·have:chunkB t=true:=by
   unfold chunkB
   rw[List.all_eq_true]at ha ⊢
   intro x hx
   unfold tokT
   rw[ha x hx]
   rfl
  rw[this]at h
  cases h
 ·simpa using ha
section
variable {T:TLands} {tv:Value} {l:List Rl} {lo hi:Nat} {t:List Tk} {v:Value} {off:Nat}
theorem env_of (hn:t.length≤1000) (hf:FitT t) (hl:l.length≤1000) (hA:Acc prC l) (hfl:FitL l) {w w1:World} (hL:Laid9 w) (H:T.Is w tv l lo hi) (hr:ReadsT off w w.heap.size v t) (hch:chunkB t=true) (hb:Below w.heap.size w w1) {g rc:Nat} (hg:g<w1.heap.size) (hc:∀ k x,l[k]?=some x→CellsR w1 g (0+k * 5) x.what (bytesOf x.left) (bytesOf x.cells) x.prio x.line):Env T w1 tv v l lo hi t off g rc :=
 ⟨hl,hA,hfl,hn,hf,hch,hL.kept hb,T.keep H (Kept.of_below hb (T.ptr H).2),hg,hc,(hr.below hb).mono hb.size⟩
set_option maxRecDepth 100000 in
set_option maxHeartbeats 8000000 in
theorem cWord_at (hn:t.length≤1000) (hf:FitT t) (hl:l.length≤1000) (hA:Acc prC l) (hfl:FitL l) (w:World) (hL:Laid9 w) (H:T.Is w tv l lo hi) (hr:ReadsT off w w.heap.size v t) :
  Calls Tryz.prog 14 #[tv,v] w fun e w'=>∃ v',e=.returned (.tuple #[v',.bool (wordP l t).isSome])∧w'.ownsRow w.heap.size 48 3 v' ((wordP l t).getD []).length (rowsP ((wordP l t).getD []))∧Below w.heap.size w w':=by
 obtain⟨f,hff⟩:∃ f,errC t=f:=⟨_,rfl⟩
 have HBG:=Lib.hid (begin_at T v t off hn hf hl hA hfl w hL H hr f hff)
 have HTW:=Lib.hid (fun(hch:chunkB t=true) (w1:World) (hb:Below w.heap.size w w1) (g rc:Nat) (hg:g<w1.heap.size) hc (W:World) (hW:Below w1.heap.size w1 W) hK=>takeWord_at (env_of (rc:=rc) hn hf hl hA hfl hL H hr hch hb hg hc) hW hK)
 have HNO:=Lib.hid (show f≠0→wordP l t=none from fun h=>by
  refine word_chunk ?_
  cases hb:chunkB t with
  | false=>rfl
  | true =>
   unfold errC at hff
   rw[if_pos hb]at hff
   exact absurd hff.symm h)
 have HCH:=Lib.hid (show f=0→chunkB t=true from fun h=>by
  cases hb:chunkB t with
  | true=>rfl
  | false =>
   unfold errC at hff
   rw[if_neg (by rw[hb];decide)]at hff
   rw[h]at hff
   cases hff)
 obtain⟨wp,hwp⟩:∃ p,wordP l t=p:=⟨_,rfl⟩
 rw[hwp]at HTW HNO ⊢
 clear hn hf hl hA hfl hL H hr hff hwp
 go_enter Tryz.func14,Tryz.ntmps14
 go_wp2_with fail
 refine HBG.out.mono ?_
 rintro e w2 ⟨w1,g,rc,rfl,hb1,hb2,hk,hg,hc⟩
 have HB1:=Lib.hid hb1
 have HB2:=Lib.hid hb2
 have HK:=Lib.hid hk
 have hs1:=hb1.size
 by_cases hz:f=0
 ·have HT:=Lib.hid (HTW.out (HCH.out hz) w1 hb1 g rc hg hc w2 hb2 hk)
  subst hz
  obtain⟨b,hbb⟩:∃ b,w1.heap.size=b:=⟨_,rfl⟩
  rw[hbb]at HT hs1 HB2 HK ⊢
  clear HBG HTW HNO HCH hb1 hb2 hk hg hc hbb
  go_wp2_with fail
  refine HT.out.mono ?_
  rintro e w3 ⟨rfl,⟨pv,hkv⟩,hs3⟩
  have HE:=Lib.hid (HB1.out.trans ((HB2.out.trans hs3.1).mono hs1))
  have c3:=hkv.cells.2.2.2
  have HOW:=Lib.hid hkv.2
  clear hkv hs3
  cases wp with
  | none =>
   go_wp2
   go_ret2
   exact⟨_,rfl,World.ownsRow_nil _ _ _ _,HE.out⟩
  | some p =>
   go_wp2
   go_ret2
   exact⟨_,rfl,HOW.out.mono (by omega),HE.out⟩
 ·have HV:=Lib.hid (HNO.out hz)
  have t1:(f != 0)=true:=bne_iff_ne.2 hz
  clear HBG HTW HNO HCH hb1 hb2 hk hg hc hz
  go_wp2
  go_ret2
  rw[HV.out]
  exact⟨_,rfl,World.ownsRow_nil _ _ _ _,chain HB1.out HB1.out.size HB2.out⟩
set_option maxRecDepth 100000 in
set_option maxHeartbeats 8000000 in
theorem cSpelled_at (hn:t.length≤1000) (hf:FitT t) (hcp:CapsR v) (hl:l.length≤1000) (hA:Acc prC l) (hfl:FitL l) (w:World) (hL:Laid9 w) (H:T.Is w tv l lo hi) (hr:ReadsT off w w.heap.size v t) :
  Calls Tryz.prog 15 #[tv,v] w fun e w'=>∃ v',e=.returned (.tuple #[v',.int .i64 (errC t)])∧w'.ownsRow w.heap.size 48 3 v' (spellC l t).length (rowsP (spellC l t))∧Below w.heap.size w w':=by
 obtain⟨f,hff⟩:∃ f,errC t=f:=⟨_,rfl⟩
 have HBG:=Lib.hid (begin_at T v t off hn hf hl hA hfl w hL H hr f hff)
 have HSP:=Lib.hid (fun(hch:chunkB t=true) (w1:World) (hb:Below w.heap.size w w1) (g rc:Nat) (hg:g<w1.heap.size) hc (W:World) (hW:Below w1.heap.size w1 W) hK=>spell_at (env_of (rc:=rc) hn hf hl hA hfl hL H hr hch hb hg hc) hcp hW hK)
 have HNO:=Lib.hid (show f≠0→spellC l t=[] from fun h=>by
  unfold spellC
  cases hb:chunkB t with
  | false=>rw[if_neg (by decide)]
  | true =>
   unfold errC at hff
   rw[if_pos hb]at hff
   exact absurd hff.symm h)
 have HCH:=Lib.hid (show f=0→chunkB t=true∧spellN l t=spellC l t from fun h=>by
  cases hb:chunkB t with
  | true=>exact⟨rfl,by unfold spellC;rw[if_pos hb]⟩
  | false =>
   unfold errC at hff
   rw[if_neg (by rw[hb];decide)]at hff
   rw[h]at hff
   cases hff)
 obtain⟨sc,hsc⟩:∃ p,spellC l t=p:=⟨_,rfl⟩
 rw[hsc]at HNO HCH ⊢
 rw[hff]
 clear hn hf hcp hl hA hfl hL H hr hff hsc
 go_enter Tryz.func15,Tryz.ntmps15
 go_wp2_with fail
 refine HBG.out.mono ?_
 rintro e w2 ⟨w1,g,rc,rfl,hb1,hb2,hk,hg,hc⟩
 have HB1:=Lib.hid hb1
 have HB2:=Lib.hid hb2
 have hs1:=hb1.size
 by_cases hz:f=0
 ·have HT:=HSP.out (HCH.out hz).1 w1 hb1 g rc hg hc w2 hb2 hk
  rw[(HCH.out hz).2]at HT
  have HT:=Lib.hid HT
  subst hz
  obtain⟨b,hbb⟩:∃ b,w1.heap.size=b:=⟨_,rfl⟩
  rw[hbb]at HT hs1 HB2 ⊢
  clear HBG HSP HNO HCH hb1 hb2 hk hg hc hbb
  go_wp2_with fail
  refine HT.out.mono ?_
  rintro e w3 ⟨rfl,⟨pv,hkv⟩,hs3⟩
  have HE:=Lib.hid (HB1.out.trans ((HB2.out.trans hs3.1).mono hs1))
  have c3:=hkv.cells.2.2.2
  have HOW:=Lib.hid hkv.2
  clear hkv hs3
  go_wp2
  go_ret2
  exact⟨_,rfl,HOW.out.mono (by omega),HE.out⟩
 ·have HV:=Lib.hid (HNO.out hz)
  have t1:(f != 0)=true:=bne_iff_ne.2 hz
  clear HBG HSP HNO HCH hb1 hb2 hk hg hc hz
  go_wp2
  go_ret2
  rw[HV.out]
  exact⟨_,rfl,World.ownsRow_nil _ _ _ _,chain HB1.out HB1.out.size HB2.out⟩
set_option maxRecDepth 100000 in
set_option maxHeartbeats 8000000 in
theorem cOf_at (hn:t.length≤1000) (hf:FitT t) (hcp:CapsR v) (hl:l.length≤1000) (hA:Acc prC l) (hfl:FitL l) (w:World) (hL:Laid9 w) (H:T.Is w tv l lo hi) (hr:ReadsT off w w.heap.size v t) :
  Calls Tryz.prog 13 #[tv,v] w fun e w'=>∃ v',e=.returned (.tuple #[v',.int .i64 (errC t)])∧w'.ownsRow w.heap.size 48 3 v' (ofC l t).length (rowsP (ofC l t))∧Below w.heap.size w w':=by
 obtain⟨f,hff⟩:∃ f,errC t=f:=⟨_,rfl⟩
 have HBG:=Lib.hid (begin_at T v t off hn hf hl hA hfl w hL H hr f hff)
 have HTW:=Lib.hid (fun(hch:chunkB t=true) (w1:World) (hb:Below w.heap.size w w1) (g rc:Nat) (hg:g<w1.heap.size) hc (W:World) (hW:Below w1.heap.size w1 W) hK=>takeWord_at (env_of (rc:=rc) hn hf hl hA hfl hL H hr hch hb hg hc) hW hK)
 have HSP:=Lib.hid (fun(hch:chunkB t=true) (w1:World) (hb:Below w.heap.size w w1) (g rc:Nat) (hg:g<w1.heap.size) hc (W:World) (hW:Below w1.heap.size w1 W) hK=>spell_at (env_of (rc:=rc) hn hf hl hA hfl hL H hr hch hb hg hc) hcp hW hK)
 have HGU:=Lib.hid (fun(hch:chunkB t=true) (hw:wordP l t=none) (w1:World) (hb:Below w.heap.size w w1) (g rc:Nat) (hg:g<w1.heap.size) hc (W:World) (hW:Below w1.heap.size w1 W) hK=>guard_at (ps:=spellN l t) (env_of (rc:=rc) hn hf hl hA hfl hL H hr hch hb hg hc) hW hK (by have:(spellN l t).length≤4 * t.length:=spell_len l _ _ _ _;omega) (show Valid l (spellN l t) from spell_valid hA _ _ _ _ hch) (ofC l t) (by
  unfold ofC ofP
  rw[if_pos hch,hw]))
 have HNO:=Lib.hid (show f≠0→ofC l t=[] from fun h=>by
  unfold ofC
  cases hb:chunkB t with
  | false=>rw[if_neg (by decide)]
  | true =>
   unfold errC at hff
   rw[if_pos hb]at hff
   exact absurd hff.symm h)
 have HCH:=Lib.hid (show f=0→chunkB t=true from fun h=>by
  cases hb:chunkB t with
  | true=>rfl
  | false =>
   unfold errC at hff
   rw[if_neg (by rw[hb];decide)]at hff
   rw[h]at hff
   cases hff)
 have HWO:=Lib.hid (show chunkB t=true→∀ p,wordP l t=some p→p=ofC l t from fun h p hp=>by
  unfold ofC ofP
  rw[if_pos h,hp])
 obtain⟨oc,hoc⟩:∃ p,ofC l t=p:=⟨_,rfl⟩
 obtain⟨wp,hwp⟩:∃ p,wordP l t=p:=⟨_,rfl⟩
 rw[hoc]at HNO HGU HWO ⊢
 rw[hwp]at HTW HGU HWO
 rw[hff]
 clear hn hf hcp hl hA hfl hL H hr hff hoc hwp
 go_enter Tryz.func13,Tryz.ntmps13
 go_wp2_with fail
 refine HBG.out.mono ?_
 rintro e w2 ⟨w1,g,rc,rfl,hb1,hb2,hk,hg,hc⟩
 have HB1:=Lib.hid hb1
 have HB2:=Lib.hid hb2
 have hs1:=hb1.size
 by_cases hz:f=0
 ·have hch:=HCH.out hz
  have HT:=Lib.hid (HTW.out hch w1 hb1 g rc hg hc w2 hb2 hk)
  have HS:=Lib.hid (fun(W:World) hW hK=>HSP.out hch w1 hb1 g rc hg hc W hW hK)
  have HG:=Lib.hid (fun(h:wp=none) (W:World) hW hK=>HGU.out hch h w1 hb1 g rc hg hc W hW hK)
  have HO:=Lib.hid (HWO.out hch)
  subst hz
  obtain⟨b,hbb⟩:∃ b,w1.heap.size=b:=⟨_,rfl⟩
  rw[hbb]at HT HS HG hs1 HB2 ⊢
  clear HBG HTW HSP HGU HNO HCH HWO hb1 hb2 hk hg hc hbb hch
  go_wp2_with fail
  refine HT.out.mono ?_
  rintro e w3 ⟨rfl,hk3,hs3⟩
  have HB3:=Lib.hid (HB2.out.trans hs3.1)
  cases wp with
  | none =>
   have HK3:=Lib.hid hk3
   clear hk3 hs3
   go_wp2_with fail
   refine(HS.out _ HB3.out HK3.out).mono ?_
   rintro e w4 ⟨rfl,hk4,hs4⟩
   have HK4:=Lib.hid hk4
   have HB4:=Lib.hid (HB3.out.trans hs4.1)
   clear hk4 hs4
   go_wp2_with fail
   refine(HG.out trivial _ HB4.out HK4.out).mono ?_
   rintro e w5 ⟨rfl,⟨pv,hkv⟩,hs5⟩
   have HE:=Lib.hid (HB1.out.trans ((HB4.out.trans hs5.1).mono hs1))
   have c3:=hkv.cells.2.2.2
   have HOW:=Lib.hid hkv.2
   clear hkv hs5
   go_wp2
   go_ret2
   exact⟨_,rfl,HOW.out.mono (by omega),HE.out⟩
  | some p =>
   have HP:=Lib.hid (HO.out p rfl)
   obtain⟨pv,hkv⟩:=hk3
   have HE:=Lib.hid (HB1.out.trans (HB3.out.mono hs1))
   have c3:=hkv.cells.2.2.2
   have HOW:=Lib.hid hkv.2
   clear hkv hs3
   go_wp2
   go_ret2
   refine⟨_,rfl,?_,HE.out⟩
   rw[← HP.out]
   exact HOW.out.mono (by omega)
 ·have HV:=Lib.hid (HNO.out hz)
  have t1:(f != 0)=true:=bne_iff_ne.2 hz
  clear HBG HTW HSP HGU HNO HCH HWO hb1 hb2 hk hg hc hz
  go_wp2
  go_ret2
  rw[HV.out]
  exact⟨_,rfl,World.ownsRow_nil _ _ _ _,chain HB1.out HB1.out.size HB2.out⟩
theorem catQ_all {p:List Pq} (h:∀ x ∈ p,0≤x.rule∧x.rule<l.length):cellsQ l p=catQ l p:=by
 unfold cellsQ
 rw[if_pos (by rw[List.all_eq_true];exact fun x hx=>decide_eq_true (h x hx))]
 rfl
theorem catQ_bad {p:List Pq} {x:Pq} (hx:x ∈ p) (h:¬ (0≤x.rule∧x.rule<l.length)):cellsQ l p=[]:=by
 unfold cellsQ
 rw[if_neg]
 rw[List.all_eq_true]
 exact fun k=>h (of_decide_eq_true (k x hx))
set_option maxRecDepth 100000 in
set_option maxHeartbeats 8000000 in
theorem cCells_at {p:List Pq} (hn:p.length≤1000) (hf:∀ x ∈ p,I64 x.rule) (hl:l.length≤1000) (hA:Acc prC l) (hfl:FitL l) (w:World) (hL:Laid9 w) (H:T.Is w tv l lo hi) (hr:ReadsQ off w w.heap.size v p) :
  Calls Tryz.prog 20 #[tv,v] w fun e w'=>e=.returned (.string (bytesOf (cellsQ l p)))∧Below w.heap.size w w':=by
 have HRU:=Lib.hid (T.rules hl hA hfl w hL H)
 have HNE:=Lib.hid (show l≠[] from by
  obtain⟨k,x,hk,-,-⟩:=letter_rule hA (c:=97) (by omega) (by omega)
  intro e
  rw[e]at hk
  cases hk)
 have HCL:=Lib.hid (fun(hval:∀ x ∈ p,0≤x.rule∧x.rule<l.length) (g rc:Nat) (W:World) (hW:Below w.heap.size w W) (hg:g<W.heap.size) hc=>cellsK_at l g rc hl (fun x hx=>(hfl x hx).2.2) v p off (by omega) hval W hg hc ((hr.below hW).mono hW.size))
 obtain⟨⟨ta,rfl⟩,-⟩:=T.ptr H
 obtain⟨A,c,rfl,hAA⟩:=hr
 have HA:=Lib.hid hAA
 have HOK:=Lib.hid (fun(h:∀ x ∈ p,0≤x.rule∧x.rule<(l.length:Int))=>catQ_all h)
 have HBAD:=Lib.hid (fun(x:Pq) (hx:x ∈ p) (h:¬ (0≤x.rule∧x.rule<(l.length:Int)))=>catQ_bad (l:=l) hx h)
 have HF:=Lib.hid hf
 obtain⟨cq,hcq⟩:∃ q,cellsQ l p=q:=⟨_,rfl⟩
 obtain⟨n,hnn⟩:∃ n,p.length=n:=⟨_,rfl⟩
 rw[hcq]at HOK HBAD ⊢
 rw[hnn]at HA HCL hn ⊢
 have HN:=Lib.hid hnn
 clear hf hA hfl hL H hAA hcq hnn
 go_enter Tryz.func20,Tryz.ntmps20
 go_wp2_with fail
 refine HRU.out.mono ?_
 rintro e w1 ⟨u,rfl,hu,hb1⟩
 obtain⟨g,rc,rfl,hg,hc⟩:=rules_cells HNE.out hu
 have HB1:=Lib.hid hb1
 have HC1:=Lib.hid (fun(hval:∀ x ∈ p,0≤x.rule∧x.rule<(l.length:Int)) (W:World) (hW:Below w1.heap.size w1 W)=>HCL.out hval g rc W (chain HB1.out HB1.out.size hW) (Nat.lt_of_lt_of_le hg hW.size) (fun k x hx=>(hc k x hx).below hW hg))
 clear hu hb1 hg hc HRU HCL
 obtain⟨nl,hnl⟩:∃ n,l.length=n:=⟨_,rfl⟩
 rw[hnl]at HC1 HOK HBAD hl
 go_wp2
 go_loopw [12] (fun i wr=>∃ k:Nat,i=.int .i64 (k:Int)∧k≤n∧(∀ x ∈ p.take k,0≤x.rule∧x.rule<(nl:Int))∧Below w1.heap.size w1 wr) (fun i _=>n - (intOf i).toNat)
 case atStart=>exact⟨0,rfl,Nat.zero_le _,fun x hx=>by simp at hx,Below.refl _ _⟩
 case round =>
  obtain⟨k,rfl,hk,hall,hB⟩:=hrel
  have HALL:=Lib.hid hall
  have HB:=Lib.hid hB
  have hsz:=hB.size
  have k0:(0:Int)≤(k:Int):=by omega
  clear hall
  by_cases hlt:k<n
  ·obtain⟨g1,rfl,hg1,hc1⟩:=HA.out (by omega)
   obtain⟨x,hx⟩:∃ x,p[k]?=some x:=⟨_,List.getElem?_eq_getElem (by rw[HN.out];exact hlt)⟩
   have hmem:=List.mem_of_getElem? hx
   obtain⟨q0,q1,q2⟩:=qcell hc1 k x hx
   have hB0:=HB1.out.trans (hB.mono HB1.out.size)
   have q0:=(hB0.cell (p:=⟨g1,off+k * 3,none⟩) hg1).trans q0
   have q1:=(hB0.cell (p:=⟨g1,off+k * 3+1,none⟩) hg1).trans q1
   have q2:=(hB0.cell (p:=⟨g1,off+k * 3+2,none⟩) hg1).trans q2
   have hi:=HF.out x hmem
   have HNX:=Lib.hid (show 0≤x.rule→x.rule<(nl:Int)→∀ y ∈ p.take (k+1),0≤y.rule∧y.rule<(nl:Int) from fun h1 h2 y hy=>by
    rw[List.take_add_one,hx,Option.toList_some,List.mem_append,List.mem_singleton]at hy
    rcases hy with hy | rfl
    ·exact HALL.out y hy
    ·exact⟨h1,h2⟩)
   have HNO:=Lib.hid (HBAD.out x hmem)
   obtain⟨pr,pf,pn⟩:=x
   simp only[]at q0 q1 q2 hi HNX HNO
   unfold I64 at hi
   have k1:(k:Int)<(n:Int):=by omega
   clear hx hmem hc1 hg1 hB hB0
   go_upto_region 5 with fail
   have hb1:=(Below.refl wr.heap.size wr).alloc (Nat.le_refl _) (.cells #[.int .i64 pr,.int .i64 pf,.int .i64 pn] 48)
   have z0:(wr.alloc (.cells #[.int .i64 pr,.int .i64 pf,.int .i64 pn] 48)).cell? ⟨wr.heap.size,0,none⟩=some (.int .i64 pr):=by rw[World.cell?_alloc_at _ _ _ _ (by simp)];rfl
   clear q0 q1 q2
   generalize wr.alloc _=w2 at hb1 z0 ⊢
   have HB2:=Lib.hid (chain HB.out hsz hb1)
   clear hb1
   by_cases h1:pr<0
   ·have HV:=Lib.hid (HNO.out (fun h=>by omega))
    have t1:decide (pr<0)=true:=decide_eq_true h1
    clear HNX HNO
    go_wp2
    go_ret
    rw[HV.out]
    exact⟨rfl,HB1.out.trans (HB2.out.mono HB1.out.size)⟩
   ·have t1:decide (pr<0)=false:=decide_eq_false h1
    by_cases h2:(nl:Int)≤pr
    ·have HV:=Lib.hid (HNO.out (fun h=>by omega))
     have t2:decide ((nl:Int)≤pr)=true:=decide_eq_true h2
     clear HNX HNO
     go_wp2
     go_ret
     rw[HV.out]
     exact⟨rfl,HB1.out.trans (HB2.out.mono HB1.out.size)⟩
    ·have HV:=Lib.hid (HNX.out (by omega) (by omega))
     have t2:decide ((nl:Int)≤pr)=false:=decide_eq_false h2
     clear HNX HNO
     go_wp2
     go_roundw
     case rel=>exact⟨k+1,by go_num,by omega,HV.out,HB2.out⟩
     case measure=>simp[intOf];omega
  ·have hval:=HALL.out
   rw[List.take_of_length_le (by rw[HN.out];omega)]at hval
   have HCE:=Lib.hid (HC1.out hval wr hB)
   have HV:=Lib.hid ((HOK.out hval).symm)
   have t1:decide ((k:Int)<(n:Int))=false:=decide_eq_false (by omega)
   clear hval hB
   go_wp2_with fail
   refine HCE.out.mono ?_
   rintro e w3 ⟨rfl,hb3⟩
   have HE:=Lib.hid (HB1.out.trans ((chain HB.out HB.out.size hb3).mono HB1.out.size))
   clear hb3
   go_wp2
   go_ret
   rw[← HV.out]
   exact⟨rfl,HE.out⟩
end
set_option maxRecDepth 100000 in
set_option maxHeartbeats 4000000 in
theorem cWord0_at (v:Value) (w:World):Calls Tryz.prog 14 #[.pointer none,v] w fun e w'=>∃ v',e=.returned (.tuple #[v',.bool false])∧Below w.heap.size w w':=by
 go_enter Tryz.func14,Tryz.ntmps14
 go_wp2_with fail
 refine(begin0_at v _).mono ?_
 rintro e w2 ⟨rfl,rfl⟩
 go_wp2
 go_ret2
 exact⟨_,rfl,Below.refl _ _⟩
set_option maxRecDepth 100000 in
set_option maxHeartbeats 4000000 in
theorem cSpelled0_at (v:Value) (w:World):Calls Tryz.prog 15 #[.pointer none,v] w fun e w'=>∃ v',e=.returned (.tuple #[v',.int .i64 1])∧Below w.heap.size w w':=by
 go_enter Tryz.func15,Tryz.ntmps15
 go_wp2_with fail
 refine(begin0_at v _).mono ?_
 rintro e w2 ⟨rfl,rfl⟩
 go_wp2
 go_ret2
 exact⟨_,rfl,Below.refl _ _⟩
set_option maxRecDepth 100000 in
set_option maxHeartbeats 4000000 in
theorem cOf0_at (v:Value) (w:World):Calls Tryz.prog 13 #[.pointer none,v] w fun e w'=>∃ v',e=.returned (.tuple #[v',.int .i64 1])∧Below w.heap.size w w':=by
 go_enter Tryz.func13,Tryz.ntmps13
 go_wp2_with fail
 refine(begin0_at v _).mono ?_
 rintro e w2 ⟨rfl,rfl⟩
 go_wp2
 go_ret2
 exact⟨_,rfl,Below.refl _ _⟩
set_option maxRecDepth 100000 in
set_option maxHeartbeats 4000000 in
theorem cellsK0_at (R:Value) (A:Option Addr) (c:Nat) (w:World):Calls Tryz.prog 50 #[R,.slice A 0 c] w fun e w'=>e=.returned (.string { data:=#[] })∧Below w.heap.size w w':=by
 have HB0:=Lib.hid ((Below.refl w.heap.size w).alloc (Nat.le_refl _) (.cells #[.pointer none,.slice none 0 0] 118))
 have HD0:=Lib.hid (BldK.new w)
 go_enter Tryz.func50,Tryz.ntmps50
 go_wp2
 generalize w.alloc (.cells #[.pointer none,.slice none 0 0] 118)=w0 at HB0 HD0 ⊢
 go_loopw [10] (fun i wr=>i=.int .i64 0∧wr=w0) (fun _ _=>0)
 case atStart=>exact⟨rfl,rfl⟩
 case round =>
  obtain⟨rfl,rfl⟩:=hrel
  have HST:=Lib.hid (stringK_at w.heap.size w.heap.size { data:=#[] } wr HD0.out HB0.out.size)
  go_wp2_with fail
  refine HST.out.mono ?_
  rintro e w2 ⟨rfl,hb2⟩
  have HB2:=Lib.hid (HB0.out.trans hb2)
  clear hb2
  go_wp2
  go_ret
  exact⟨rfl,HB2.out⟩
set_option maxRecDepth 100000 in
set_option maxHeartbeats 4000000 in
theorem cCells0_at (v:Value) (p:List Pq) (off:Nat) (hn:p.length≤1000) (w:World) (hr:ReadsQ off w w.heap.size v p):Calls Tryz.prog 20 #[.pointer none,v] w fun e w'=>e=.returned (.string { data:=#[] })∧Below w.heap.size w w':=by
 obtain⟨A,c,rfl,hAA⟩:=hr
 have HA:=Lib.hid hAA
 obtain⟨n,hnn⟩:∃ n,p.length=n:=⟨_,rfl⟩
 rw[hnn]at HA hn ⊢
 have HN:=Lib.hid hnn
 clear hAA hnn
 go_enter Tryz.func20,Tryz.ntmps20
 go_wp2_with fail
 refine(rules0_at _).mono ?_
 rintro e w1 ⟨rfl,rfl⟩
 go_wp2
 go_loopw [12] (fun i wr=>i=.int .i64 0∧wr=w1) (fun _ _=>0)
 case atStart=>exact⟨rfl,rfl⟩
 case round =>
  obtain⟨rfl,rfl⟩:=hrel
  by_cases hlt:0<n
  ·obtain⟨g1,rfl,hg1,hc1⟩:=HA.out hlt
   obtain⟨x,hx⟩:∃ x,p[0]?=some x:=⟨_,List.getElem?_eq_getElem (by rw[HN.out];exact hlt)⟩
   obtain⟨q0,q1,q2⟩:=qcell hc1 0 x hx
   rw[Nat.zero_mul,Nat.add_zero]at q0 q1 q2
   obtain⟨pr,pf,pn⟩:=x
   simp only[]at q0 q1 q2
   have t0:decide ((0:Int)<(n:Int))=true:=decide_eq_true (by omega)
   clear hx hc1 hg1
   go_upto_region 5 with fail
   have hb1:=(Below.refl wr.heap.size wr).alloc (Nat.le_refl _) (.cells #[.int .i64 pr,.int .i64 pf,.int .i64 pn] 48)
   have z0:(wr.alloc (.cells #[.int .i64 pr,.int .i64 pf,.int .i64 pn] 48)).cell? ⟨wr.heap.size,0,none⟩=some (.int .i64 pr):=by rw[World.cell?_alloc_at _ _ _ _ (by simp)];rfl
   clear q0 q1 q2
   generalize wr.alloc _=w2 at hb1 z0 ⊢
   have HB2:=Lib.hid hb1
   clear hb1
   by_cases h1:pr<0
   ·have t1:decide (pr<0)=true:=decide_eq_true h1
    go_wp2
    go_ret
    exact⟨rfl,HB2.out⟩
   ·have t1:decide (pr<0)=false:=decide_eq_false h1
    have t2:decide (0≤pr)=true:=decide_eq_true (by omega)
    go_wp2
    go_ret
    exact⟨rfl,HB2.out⟩
  ·obtain rfl:n=0:=by omega
   have HCE:=Lib.hid (cellsK0_at (.slice none 0 0) A c wr)
   go_wp2_with fail
   refine HCE.out.mono ?_
   rintro e w3 ⟨rfl,hb3⟩
   have HE:=Lib.hid hb3
   clear hb3
   go_wp2
   go_ret
   exact⟨rfl,HE.out⟩
theorem qlands (T:TLands):QLands T where
 check:=fun v t off hn hf w hL hr=>check_at12 v t off hn hf w hL hr
 word:=fun _ _ _ hn hf hl hA hfl w hL H hr=>cWord_at hn hf hl hA hfl w hL H hr
 spelled:=fun _ _ _ hn hf hc hl hA hfl w hL H hr=>cSpelled_at hn hf hc hl hA hfl w hL H hr
 of:=fun _ _ _ hn hf hc hl hA hfl w hL H hr=>cOf_at hn hf hc hl hA hfl w hL H hr
 cells:=fun _ _ _ hn hf hl hA hfl w hL H hr=>cCells_at hn hf hl hA hfl w hL H hr
 word0:=fun v _ _ _ _ w _ _=>cWord0_at v w
 spelled0:=fun v _ _ _ _ w _ _=>cSpelled0_at v w
 of0:=fun v _ _ _ _ w _ _=>cOf0_at v w
 cells0:=fun v p off hn w _ hr=>cCells0_at v p off hn w hr
end Go.Proofs.YtlgejmcihchngaaGreatDoor.Cu
