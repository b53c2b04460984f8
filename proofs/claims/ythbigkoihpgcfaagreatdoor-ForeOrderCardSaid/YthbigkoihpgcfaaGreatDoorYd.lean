/-
  Put together.
-/
import Derived.Test.YthbigkoihpgcfaaGreatDoorDaN
import Derived.Test.YthbigkoihpgcfaaGreatDoorVa
import Derived.Test.YthbigkoihpgcfaaGreatDoorYc
open Go.Lib (hid)
open Go.Proofs.YthbigkoihpgcfaaGreatDoor.Rg (zP zN zA zB zC tk)
set_option maxRecDepth 100000
set_option maxHeartbeats 16000000
namespace Go.Proofs.YthbigkoihpgcfaaGreatDoor.Cu
open Go.RowKit Ba Ru Ck Ti Pa Fl
theorem aA4:∀ n:Fin 256,(Ka.isB (n.val:Int) && !Ka.mC (n.val:Int))=(aW n.val || aQ n.val || decide (48≤n.val∧n.val≤57) || Ka.fZ.contains n.val):=by decide +kernel
theorem aA6 {c:Nat} {p:Int} (hc:c<256):jG ⟨1,c,p⟩=(Ka.isB (c:Int) && !Ka.mC (c:Int)):=by
 rw[aA4 ⟨c,hc⟩]
 unfold jG aJ mA BG eO gD cM
 simp only[]
 have e:(!(if c=101∨c=115∨c=110 then (if (1:Int)=2 then [c,43] else if (1:Int)=3 then [c,45] else []) else ([]:List Nat)).isEmpty)=false:=by
  rw[if_neg (show ¬ (1:Int)=2 by decide),if_neg (show ¬ (1:Int)=3 by decide)]
  split<;>rfl
 rw[e,Bool.or_false]
 simp only[decide_true,Bool.true_and]
theorem aA7 {q:Int} {c:Nat} {p:Int} (hq:q=2∨q=3):jG ⟨q,c,p⟩=decide (c=101∨c=115∨c=110):=by
 have h1:¬ q=1:=by omega
 unfold jG aJ mA BG eO gD cM
 simp only[decide_eq_false h1,Bool.false_and,Bool.or_false,Bool.false_or]
 by_cases h:c=101∨c=115∨c=110
 ·rw[if_pos h,decide_eq_true h]
  rcases hq with rfl | rfl<;>rfl
 ·rw[if_neg h,decide_eq_false h]
  rfl
theorem V7 {q:Int} {c:Nat} {p:Int} (h1:¬ q=1) (h2:¬ q=2) (h3:¬ q=3):jG ⟨q,c,p⟩=false:=by
 unfold jG aJ mA BG eO gD cM
 simp only[decide_eq_false h1,Bool.false_and,Bool.or_false,Bool.false_or]
 rw[if_neg h2,if_neg h3]
 split<;>rfl
theorem MS (x:Tk) (hc:x.ch<256) (w:World) (hL:bH w) :
  Calls Tryz.prog 202 #[nS x] w fun e w'=>e=.returned (.bool (jG x))∧Below w.heap.size w w':=by
 obtain⟨q,c,p⟩:=x
 simp only[]at hc
 simp only[nS]
 obtain⟨r,hr⟩:∃ r,jG ⟨q,c,p⟩=r:=⟨_,rfl⟩
 rw[hr]
 have HR:=hid hr
 have HLD:=hid (fun(V:World) (hV:Below w.heap.size w V)=>show Ka.Laid V from (hL.kept hV).1.ka)
 obtain⟨v1,hv1⟩:∃ v,Ka.isB (c:Int)=v:=⟨_,rfl⟩
 obtain⟨v2,hv2⟩:∃ v,Ka.mC (c:Int)=v:=⟨_,rfl⟩
 have HI:=hid (fun(V:World) (hV:Below w.heap.size w V)=>hv1▸Ka.V8 (c:Int) (by omega) (by omega) V (HLD.out V hV))
 have HW:=hid (fun(V:World) (hV:Below w.heap.size w V)=>hv2▸Ka.CL (c:Int) (by omega) (by omega) V (HLD.out V hV))
 have HT1:=hid (show q=1→(v1 && !v2)=r from fun h=>by rw[← HR.out,h,aA6 hc,hv1,hv2])
 have HT2:=hid (show (q=2∨q=3)→decide (c=101∨c=115∨c=110)=r from fun h=>by rw[← HR.out,aA7 h])
 have HT3:=hid (show ¬ q=1→¬ q=2→¬ q=3→false=r from fun h1 h2 h3=>by rw[← HR.out,V7 h1 h2 h3])
 clear hr hv1 hv2 hL HR HLD
 go_enter Tryz.func202,Tryz.ntmps202
 go_upto_region 1 with fail
 have hx:=xI.new w q c p 37
 have hw:=(Below.refl w.heap.size w).alloc (Nat.le_refl _) (.cells #[.int .i64 q,.int .u8 (c:Int),.int .i64 p] 37)
 generalize w.alloc _=w1 at hx hw ⊢
 have HE:=hid hw
 have HI1:=hid (HI.out w1 hw)
 have HW1:=hid (HW.out w1 hw)
 obtain⟨x0,x1,x2,x3⟩:=hx
 clear hw HI HW
 by_cases k1:q=1
 ·have HV:=hid (HT1.out k1)
  subst k1
  clear HT1 HT2 HT3
  go_wp2_with fail
  refine HI1.out.mono ?_
  rintro e w2 ⟨rfl,rfl⟩
  cases v1
  ·go_wp2
   go_ret
   exact⟨Cl.aC HV.out,HE.out⟩
  ·go_wp2_with fail
   refine HW1.out.mono ?_
   rintro e w2 ⟨rfl,rfl⟩
   go_wp2
   go_ret
   exact⟨Cl.aC HV.out,HE.out⟩
 ·have e1:(q==1)=false:=beq_eq_false_iff_ne.2 k1
  by_cases k23:q=2∨q=3
  ·have HV:=hid (HT2.out k23)
   clear HT1 HT2 HT3 HI1 HW1 k1
   have HF:=hid (show (((c:Int)==101)=true∧true=r)∨(((c:Int)==101)=false∧((c:Int)==115)=true∧true=r)∨(((c:Int)==101)=false∧((c:Int)==115)=false∧((c:Int)==110)=true∧true=r)∨(((c:Int)==101)=false∧((c:Int)==115)=false∧((c:Int)==110)=false∧false=r) from by
    by_cases c1:c=101
    ·exact .inl ⟨by rw[c1];rfl,by rw[← HV.out,decide_eq_true (.inl c1)]⟩
    ·have d1:((c:Int)==101)=false:=beq_eq_false_iff_ne.2 (by omega)
     by_cases c2:c=115
     ·exact .inr (.inl ⟨d1,by rw[c2];rfl,by rw[← HV.out,decide_eq_true (.inr (.inl c2))]⟩)
     ·have d2:((c:Int)==115)=false:=beq_eq_false_iff_ne.2 (by omega)
      by_cases c3:c=110
      ·exact .inr (.inr (.inl ⟨d1,d2,by rw[c3];rfl,by rw[← HV.out,decide_eq_true (.inr (.inr c3))]⟩))
      ·exact .inr (.inr (.inr ⟨d1,d2,beq_eq_false_iff_ne.2 (by omega),by rw[← HV.out,decide_eq_false (by omega)]⟩)))
   clear HV
   rcases k23 with rfl | rfl
   all_goals
    rcases HF.out with⟨d1,hv⟩ | ⟨d1,d2,hv⟩ | ⟨d1,d2,d3,hv⟩ | ⟨d1,d2,d3,hv⟩
    all_goals
     have HV:=hid hv
     clear hv HF
     go_wp2
     go_ret
     exact⟨Cl.aC HV.out,HE.out⟩
  ·have HV:=hid (HT3.out k1 (by omega) (by omega))
   have e2:(q==2)=false:=beq_eq_false_iff_ne.2 (by omega)
   have e3:(q==3)=false:=beq_eq_false_iff_ne.2 (by omega)
   clear HT1 HT2 HT3 HI1 HW1 k1 k23
   go_wp2
   go_ret
   exact⟨Cl.aC HV.out,HE.out⟩
theorem R9 (x:Tk) (hc:x.ch<256) (w:World) (hL:bH w) :
  Calls Tryz.prog 201 #[nS x] w fun e w'=>e=.returned (.bool (!jG x))∧Below w.heap.size w w':=by
 have HBE:=hid (fun(V:World) (hV:Below w.heap.size w V)=>MS x hc V (hL.kept hV))
 obtain⟨r,hr⟩:∃ r,jG x=r:=⟨_,rfl⟩
 rw[hr]at HBE ⊢
 obtain⟨q,c,p⟩:=x
 simp only[nS]at HBE ⊢
 clear hr hc hL
 go_enter Tryz.func201,Tryz.ntmps201
 go_upto_region 1 with fail
 have hx:=xI.new w q c p 37
 have hw:=(Below.refl w.heap.size w).alloc (Nat.le_refl _) (.cells #[.int .i64 q,.int .u8 (c:Int),.int .i64 p] 37)
 generalize w.alloc _=w1 at hx hw ⊢
 have HE:=hid hw
 have HB1:=hid (HBE.out w1 hw)
 obtain⟨x0,x1,x2,x3⟩:=hx
 clear hw HBE
 go_wp2_with fail
 refine HB1.out.mono ?_
 rintro e w2 ⟨rfl,hb2⟩
 have HB2:=hid (chain HE.out HE.out.size hb2)
 clear hb2
 go_wp2
 go_ret
 exact⟨rfl,HB2.out⟩
theorem MT (u:List Tk) (A:Option Addr) (off n c:Nat) (hn:u.length=n) (hn9:n≤100000) (q:Tk→Bool) (w:World) (hu:bW off w w.heap.size (.slice A n c) u)
  (hq:∀ y ∈ u,∀ W:World,Below w.heap.size w W→Calls Tryz.prog 201 #[nS y] W fun e w'=>e=.returned (.bool (q y))∧Below W.heap.size W w') :
  Calls Tryz.prog 84 #[.slice A n c,.func (.func 201) #[] #[]] w (aAY q u w):=by
 obtain⟨A',c',e,hA⟩:=hu
 injection e with e1 e2 e3
 subst e1;subst e3
 have HA:=hid hA
 have HN:=hid hn
 have HPQ:=hid hq
 clear hA hn hq e2
 go_enter Tryz.func84,Tryz.ntmps84
 go_wp2
 go_loopw [8] (fun u8 wr=>∃ j:Nat,u8=.int .i64 (j:Int)∧j≤n∧(∀ (i:Nat) (y:Tk),i<j→u[i]?=some y→q y=false)∧Below w.heap.size w wr) (fun u8 _=>n - (intOf u8).toNat)
 case atStart=>exact⟨0,rfl,Nat.zero_le _,fun i y h=>by omega,Below.refl _ _⟩
 case round =>
  obtain⟨j,rfl,hj,hjq,hB⟩:=hrel
  have HQ:=hid hjq
  have HB:=hid hB
  have j0:(0:Int)≤(j:Int):=by omega
  clear hjq
  by_cases hlt:j<n
  ·obtain⟨g,rfl,hgw,hg⟩:=HA.out (by rw[HN.out];omega)
   obtain⟨x,hx⟩:∃ x,u[j]?=some x:=⟨_,List.getElem?_eq_getElem (by rw[HN.out];exact hlt)⟩
   obtain⟨g0,g1,g2⟩:=pC hg j x hx
   have g0:=(hB.cell (p:=⟨g,off+j * 3,none⟩) hgw).trans g0
   have g1:=(hB.cell (p:=⟨g,off+j * 3+1,none⟩) hgw).trans g1
   have g2:=(hB.cell (p:=⟨g,off+j * 3+2,none⟩) hgw).trans g2
   obtain⟨bq,hbq⟩:∃ bq,q x=bq:=⟨_,rfl⟩
   have hir:=HPQ.out x (List.mem_of_getElem? hx) wr hB
   rw[hbq]at hir
   have HIR:=hid hir
   have HX:=hid hx
   have HBQ:=hid hbq
   have j1:(j:Int)<(n:Int):=by omega
   obtain⟨xk,xc,xp⟩:=x
   simp only[nS]at HIR
   simp only[]at g0 g1 g2
   clear hx hg hgw hir hbq hB
   cases bq
   ·have HNX:=hid (show ∀ (i:Nat) (y:Tk),i<j+1→u[i]?=some y→q y=false from fun i y h1 h2=>by
     rcases Nat.lt_or_ge i j with h | h
     ·exact HQ.out i y h h2
     ·obtain rfl:i=j:=by omega
      rw[HX.out]at h2;cases h2;exact HBQ.out)
    go_wp2_with fail
    refine HIR.out.mono ?_
    rintro e w2 ⟨rfl,hb2⟩
    have HB2:=hid (chain HB.out HB.out.size hb2)
    clear hb2
    go_wp2
    go_roundw
    case rel=>exact⟨j+1,by go_num,by omega,HNX.out,HB2.out⟩
    case measure=>simp[intOf];omega
   ·have HFI:=hid (show ∀ y,u[j]?=some y→q y=true from fun y hy=>by rw[HX.out]at hy;cases hy;exact HBQ.out)
    go_wp2_with fail
    refine HIR.out.mono ?_
    rintro e w2 ⟨rfl,hb2⟩
    have HB2:=hid (chain HB.out HB.out.size hb2)
    clear hb2
    go_wp2
    go_ret
    exact⟨.inl ⟨j,rfl,by rw[HN.out];exact hlt,HQ.out,HFI.out⟩,HB2.out⟩
  ·obtain rfl:j=n:=by omega
   have HFI:=hid (show ∀ (i:Nat) (y:Tk),u[i]?=some y→q y=false from fun i y h2=>HQ.out i y (by rw[← HN.out];exact(List.getElem?_eq_some_iff.1 h2).1) h2)
   clear hB
   go_wp2
   go_ret
   exact⟨.inr ⟨rfl,HFI.out⟩,HB.out⟩
theorem BJ (u:List Tk) (A:Option Addr) (off n c:Nat) (hn:u.length=n) (hn9:n≤100000) (hf:∀ x ∈ u,x.ch<256) (r:Bool) (hr:(!bB u)=r) (w:World) (hL:bH w) (hu:bW off w w.heap.size (.slice A n c) u) :
  Calls Tryz.prog 63 #[.slice A n c,.func (.func 201) #[] #[]] w fun e w'=>e=.returned (.bool r)∧Below w.heap.size w w':=by
 have HI:=hid (MT u A off n c hn hn9 (fun y=>!jG y) w hu (fun y hy W hW=>R9 y (hf y hy) W (hL.kept hW)))
 have HR:=hid hr
 clear hn hn9 hf hr hL hu
 go_enter Tryz.func63,Tryz.ntmps63
 go_wp2_with fail
 refine HI.out.mono ?_
 rintro e w2 ⟨hres,hb2⟩
 have HB2:=hid hb2
 clear hb2
 rcases hres with⟨j,rfl,hj,-,hy⟩ | ⟨rfl,hno⟩
 ·have HE:=hid (show true=r from by
   rw[← HR.out]
   obtain⟨y,hyy⟩:∃ y,u[j]?=some y:=⟨_,List.getElem?_eq_getElem hj⟩
   have h1:=hy y hyy
   unfold bB
   rw[List.all_eq_false.2 ⟨y,List.mem_of_getElem? hyy,by simpa using h1⟩]
   rfl)
  have j2:decide ((0:Int)≤(j:Int))=true:=decide_eq_true (by omega)
  clear hj hy
  go_wp2
  go_ret
  exact⟨Cl.aC HE.out,HB2.out⟩
 ·have HE:=hid (show false=r from by
   rw[← HR.out]
   unfold bB
   rw[List.all_eq_true.2 fun y hy=>by
    obtain⟨i,hi,e⟩:=List.getElem_of_mem hy
    have:=hno i y (by rw[List.getElem?_eq_getElem hi,e])
    simpa using this]
   rfl)
  clear hno
  go_wp2
  go_ret
  exact⟨Cl.aC HE.out,HB2.out⟩
theorem MU (v:Value) (t:List Tk) (off:Nat) (hn:t.length≤1000) (hf:iC t) (w:World) (hL:bH w) (hr:bW off w w.heap.size v t) :
  Calls Tryz.prog 161 #[v] w fun e w'=>e=.returned (.int .i64 (rQ t))∧Below w.heap.size w w':=by
 have hr0:=hr
 obtain⟨A,c,rfl,-⟩:=hr
 obtain⟨r,hrr⟩:∃ r,(!bB t)=r:=⟨_,rfl⟩
 have HC:=hid (BJ t A off t.length c rfl (by omega) (fun x hx=>(hf x hx).2.1) r hrr w hL hr0)
 have HV:=hid (show rQ t=if r=true then 1 else 0 from by
  unfold rQ
  rw[← hrr]
  cases bB t<;>rfl)
 clear hn hf hL hr0 hrr
 go_enter Tryz.func161,Tryz.ntmps161
 go_wp2_with fail
 refine HC.out.mono ?_
 rintro e w2 ⟨rfl,hb2⟩
 have HB2:=hid hb2
 clear hb2
 cases r
 ·have HE:=hid (show (0:Int)=rQ t from by rw[HV.out];rfl)
  go_wp2
  go_ret
  exact⟨Ba.aI HE.out,HB2.out⟩
 ·have HE:=hid (show (1:Int)=rQ t from by rw[HV.out];rfl)
  go_wp2
  go_ret
  exact⟨Ba.aI HE.out,HB2.out⟩
def aE1 (l:List Rl) (tv v:Value) (f:Int) (w:World) (e:Ending) (w':World):Prop :=
 ∃ (w1:World) (g rc:Nat),e=.returned (.tuple #[.pointer (some ⟨w1.heap.size,0,none⟩),.int .i64 f])∧Below w.heap.size w w1∧Below w1.heap.size w1 w'∧KI w1.heap.size tv (jD l g rc) v [] w'∧g<w1.heap.size∧∀ k x,l[k]?=some x→bZ w1 g (0+k * 5) x.aE (bytesOf x.left) (bytesOf x.cells) x.prio x.line
theorem V9 (T:bT) {tv:Value} {l:List Rl} {lo hi:Nat} (v:Value) (t:List Tk) (off:Nat) (hn:t.length≤1000) (hf:iC t) (hl:l.length≤1000) (hA:Acc dM l) (hfl:kD l) (w:World) (hL:bH w) (H:T.Is w tv l lo hi) (hr:bW off w w.heap.size v t) (f:Int) (hff:rQ t=f) :
  Calls Tryz.prog 124 #[tv,v] w (aE1 l tv v f w):=by
 have HRU:=hid (T.rules hl hA hfl w hL H)
 have HCK:=hid (fun(V:World) (hV:Below w.heap.size w V)=>hff▸MU v t off hn hf V (hL.kept hV) ((hr.below hV).mono hV.size))
 have HNE:=hid (show l≠[] from by
  obtain⟨k,x,hk,-,-⟩:=jO hA (c:=97) (by omega) (by omega)
  intro e
  rw[e]at hk
  cases hk)
 obtain⟨⟨a,rfl⟩,-⟩:=T.ptr H
 have hr0:=hr
 obtain⟨A,c,rfl,-⟩:=hr0
 clear hn hf hl hA hfl hL H hr hff
 unfold aE1 jD
 go_enter Tryz.func124,Tryz.ntmps124
 go_wp2_with fail
 refine HRU.out.mono ?_
 rintro e w1 ⟨u,rfl,hu,hb1⟩
 obtain⟨g,rc,rfl,hg,hc⟩:=lV HNE.out hu
 have hl0:0<l.length:=List.length_pos_iff.2 HNE.out
 have HG:=hid hg
 have HC:=hid hc
 have HB1:=hid hb1
 have t0:((l.length:Int)==0)=false:=beq_eq_false_iff_ne.2 (by omega)
 have HW2:=hid ((Below.refl w1.heap.size w1).alloc (Nat.le_refl _) (.cells #[.pointer (some a),.slice (some ⟨g,0,none⟩) l.length rc,.slice A t.length c,.slice none 0 0] 172))
 have HKI:=hid (show KI w1.heap.size (.pointer (some a)) (.slice (some ⟨g,0,none⟩) l.length rc) (.slice A t.length c) [] (w1.alloc (.cells #[.pointer (some a),.slice (some ⟨g,0,none⟩) l.length rc,.slice A t.length c,.slice none 0 0] 172)) from ⟨.slice none 0 0,World.alloc_heap_new w1 _,World.ownsRow_nil _ _ _ _⟩)
 have HCK2:=hid (HCK.out _ (chain HB1.out HB1.out.size HW2.out))
 clear hu hb1 hg hc HRU HCK
 go_wp2_with fail
 refine HCK2.out.mono ?_
 rintro e w3 ⟨rfl,hb3⟩
 have HK3:=hid (HKI.out.step hb3)
 clear hb3 HCK2 HKI
 go_wp2
 go_ret2
 exact⟨w1,g,rc,rfl,HB1.out,HW2.out.trans HK3.out.2.1,HK3.out.1,HG.out,HC.out⟩
theorem SB {l:List Rl} (A:Acc dM l):cZ l []=none:=by
 cases h:cZ l [] with
 | none=>rfl
 | some k =>
  exfalso
  unfold cZ at h
  rw[List.findIdx?_eq_some_iff_getElem]at h
  obtain⟨hk,hp,-⟩:=h
  have:=of_decide_eq_true hp
  exact uH A _ (List.getElem_mem hk) this.2
theorem MV (ps:List Pc) (x:Pc) (n:Nat) (hn:ps.length=n) (h0:0<n) (hn9:n≤100000) (B:Nat) (pv:Value) (w:World) (hB:B≤w.heap.size) (hown:w.ownsRow B 77 3 pv n (cW ps)) (o:Obj) (ho:o=.cells #[.int .i64 (x.rule:Int),.int .i64 (x.aR:Int),.int .i64 (x.len:Int)] 77) :
  Calls Tryz.prog 171 #[pv,.int .i64 0,.slice (some ⟨w.heap.size,0,none⟩) 1 1] (w.alloc o) fun e w'=>∃ v',e=.returned v'∧w'.ownsRow B 77 3 v' (n+1) (cW (x::ps))∧(w.alloc o).grownBy w' pv.ownBlock:=by
 subst ho
 rcases hown.2 with⟨-,hz⟩ | ⟨g,cap,cur,rfl,hbg,hg,h1,h2,h3,h4⟩
 ·omega
 have hgl:g<w.heap.size:=(Array.getElem?_eq_some_iff.1 hg).1
 have hg2:=(Below.heap_alloc w (.cells #[.int .i64 (x.rule:Int),.int .i64 (x.aR:Int),.int .i64 (x.len:Int)] 77) g hgl).trans hg
 have hnb:=World.alloc_heap_new w (.cells #[.int .i64 (x.rule:Int),.int .i64 (x.aR:Int),.int .i64 (x.len:Int)] 77)
 by_cases hroom:cap<n+1
 ·exact IT ps x n cap hn h0 hn9 B g _ (by simp;omega) cur hg2 h1 h4 hroom w.heap.size hnb
 ·exact IU ps x n cap hn h0 hn9 B g _ hbg cur hg2 h2 h3 h4 (by omega) w.heap.size (by omega) hnb
section
variable {T:bT} {w1 W W':World} {tv lv:Value} {l:List Rl} {lo hi:Nat} {t:List Tk} {off g rc:Nat} {ps:List Pc}
theorem WA (E:Env T w1 tv lv l lo hi t off g rc) (hW:Below w1.heap.size w1 W) (hK:KI w1.heap.size tv (jD l g rc) lv ps W) (hps:ps.length≤4400) (hval:Valid l ps) (qs:List Pc) (hq:(if jU l (cC l ps)=true then ⟨aG l 8 eX,0,0⟩::ps else ps)=qs) :
  Calls Tryz.prog 127 #[.pointer (some ⟨w1.heap.size,0,none⟩)] W fun e W'=>e=.returned (.tuple #[])∧KI w1.heap.size tv (jD l g rc) lv qs W'∧rR w1.heap.size W W':=by
 obtain⟨⟨ta,rfl⟩,-⟩:=T.ptr E.tab
 obtain⟨C,hC⟩:∃ C,cC l ps=C:=⟨_,rfl⟩
 have hl9:∀ x ∈ l,x.cells.length≤9000:=fun x hx=>(E.fit x hx).2.2
 have hCl:C.length≤45000000:=by
  rw[← hC,← zD hval]
  have h1:=yU hl9 (ps.map Pc.q)
  rw[List.length_map]at h1
  have h3:ps.length * 9000≤4400 * 9000:=Nat.mul_le_mul_right _ hps
  omega
 have hC256:∀ z ∈ C,z<256:=fun z hz=>by
  rw[← hC,jL hval]at hz
  unfold bV at hz
  obtain⟨x,hx,hzx⟩:=List.mem_flatMap.1 hz
  exact(E.fit x (eA x hx)).1.2.2.2.2.1 z hzx
 have hD256:∀ z ∈ gU l C,z<256:=fun z hz=>by
  unfold gU at hz
  split at hz
  ·exact hC256 z (List.mem_of_mem_drop hz)
  ·split at hz
   ·exact hC256 z (List.mem_of_mem_drop hz)
   ·exact hC256 z hz
 have hDl:=CJ l C
 have HUN:=hid (fun(V:World) (hV:Below W.heap.size W V)=>MR E (hW.trans (hV.mono hW.size)) (hK.below hV) (by omega) hval C hC)
 have HWD:=hid (fun(V:World) (hV:Below W.heap.size W V)=>show Calls Tryz.prog 169 #[.pointer (some ta),.string (bytesOf (gU l C))] V fun e w'=>e=.returned (.tuple #[.int .i64 (mY (cZ l (gU l C))),.bool (okV (cZ l (gU l C)))])∧Below V.heap.size V w' from by
  have hWV:=hW.trans (hV.mono hW.size)
  have h:=T.word (t:=.pointer (some ta)) (bytesOf (gU l C)) (by rw[aF];omega) E.LS E.acc E.fit V (E.gR hWV) (E.II hWV)
  rw[aB _ hD256]at h
  exact h)
 have HFL:=hid (fun(V:World) (hV:Below W.heap.size W V)=>E.find 8 (by unfold oI;decide) eX (by decide) (by decide) (hW.trans (hV.mono hW.size)))
 rw[show bytesOf eX={ data:=#[108,101,116] } from rfl]at HFL
 have HNIL:=hid (show okV (cZ l (gU l C))=true→0<ps.length from fun h=>by
  cases ps with
  | nil =>
   have e:C=[]:=by rw[← hC];rfl
   rw[e,R8,SB E.acc]at h
   cases h
  | cons y p=>simp)
 have hq2:(if okV (cZ l (gU l C))=true then ⟨aG l 8 eX,0,0⟩::ps else ps)=qs:=by
  rw[← hq,hC,MQ]
  rfl
 have HSS:=hid (show ∀ V:World,Below W.heap.size W V→V.cell? ⟨w1.heap.size,0,none⟩=some (.pointer (some ta))∧Below W.heap.size W V from fun V hV=>⟨(hK.below hV).cells.1,hV⟩)
 have HKV:=hid (fun(V:World) (hV:Below W.heap.size W V)=>show ∃ pv,KV w1.heap.size (.pointer (some ta)) (jD l g rc) lv pv ps V from hK.below hV)
 have HST:=hid (fun(V:World) (hV:Below W.heap.size W V)=>(hK.step hV).2)
 obtain⟨nw,hnw⟩:∃ z,mY (cZ l (gU l C))=z:=⟨_,rfl⟩
 obtain⟨ok,hok⟩:∃ b,okV (cZ l (gU l C))=b:=⟨_,rfl⟩
 obtain⟨SD,hSD⟩:∃ S,bytesOf (gU l C)=S:=⟨_,rfl⟩
 obtain⟨rl,hrl⟩:∃ r,aG l 8 eX=r:=⟨_,rfl⟩
 obtain⟨fl,hfl⟩:∃ b,(cI l 8 eX).isSome=b:=⟨_,rfl⟩
 obtain⟨rv,hrv⟩:∃ v,jD l g rc=v:=⟨_,rfl⟩
 obtain⟨b,hb⟩:∃ b,w1.heap.size=b:=⟨_,rfl⟩
 rw[hSD]at HUN HWD
 rw[hnw,hok]at HWD
 rw[hok]at HNIL hq2
 rw[hrl,hfl]at HFL
 rw[hrl]at hq2
 rw[hrv]at HKV ⊢
 rw[hb]at HUN HSS HKV HST ⊢
 have HQ:=hid hq2
 clear E hW hK hval hq hC hl9 hCl hC256 hD256 hDl hnw hok hSD hrl hfl hrv hb hq2
 go_enter Tryz.func127,Tryz.ntmps127
 go_upto_region 0 with fail
 have hS:=(HSS.out _ (Below.refl _ _).drew)
 refine wp_region_held_drew (S:=(fun V:World=>V.cell? ⟨b,0,none⟩=some (.pointer (some ta))∧Below W.heap.size W V)) (by kernel_rfl) hS (fun hHeld=>?_)
 refine tk 0 (v:=?_) ?_ ?_
 rotate_left
 ·rintro W ⟨x0,-⟩;go_simp;all_goals (with_reducible rfl)
 try simp only[zP,zA,zB,zC]
 refine tk 1 (v:=?_) ?_ ?_
 rotate_left
 ·rintro W ⟨x0,-⟩;go_simp;all_goals (with_reducible rfl)
 try simp only[zP,zA,zB,zC]
 refine tk 2 (v:=?_) ?_ ?_
 rotate_left
 ·rintro W ⟨x0,-⟩;go_simp;all_goals (with_reducible rfl)
 try simp only[zP,zA,zB,zC]
 refine tk 3 (v:=?_) ?_ ?_
 rotate_left
 ·rintro W ⟨x0,-⟩;go_simp;all_goals (with_reducible rfl)
 try simp only[zP,zA,zB,zC]
 refine tk 4 (v:=?_) ?_ ?_
 rotate_left
 ·rintro W ⟨x0,-⟩;go_simp;all_goals (with_reducible rfl)
 try simp only[zP,zA,zB,zC]
 refine Rg.take_one 5 (by simp only[List.getElem?_toArray,List.getElem?_cons_succ,List.getElem?_cons_zero];rfl) (by kernel_rfl) (fun K hK=>?_)
 go_simp
 go_at_call 170
 refine(HUN.out _ hS.2).mono ?_
 rintro e w4 ⟨rfl,hb4⟩
 have hS5:=HSS.out _ (chain hS.2 hS.2.size hb4)
 go_wp2_with fail
 refine hK.out _ _ hS5 (fun hHeld5=>?_)
 clear hK K
 try simp only[zP,zA,zB,zC]
 try simp only[zN]
 refine Rg.take_one 6 (by simp only[List.getElem?_toArray,List.getElem?_cons_succ,List.getElem?_cons_zero];rfl) (by kernel_rfl) (fun K hK=>?_)
 go_simp
 go_at_call 169
 refine(HWD.out _ hS5.2).mono ?_
 rintro e w5 ⟨rfl,hb5⟩
 have hS6:=HSS.out _ (chain hS5.2 hS5.2.size hb5)
 go_wp2_with fail
 refine hK.out _ _ hS6 (fun hHeld6=>?_)
 clear hK K
 try simp only[zP,zA,zB,zC]
 try simp only[zN]
 refine tk 7 (v:=?_) ?_ ?_
 rotate_left
 ·rintro W ⟨x0,-⟩;go_simp;all_goals (with_reducible rfl)
 try simp only[zP,zA,zB,zC]
 refine tk 8 (v:=?_) ?_ ?_
 rotate_left
 ·rintro W ⟨x0,-⟩;go_simp;all_goals (with_reducible rfl)
 try simp only[zP,zA,zB,zC]
 refine tk 9 (v:=?_) ?_ ?_
 rotate_left
 ·rintro W ⟨x0,-⟩;go_simp;all_goals (with_reducible rfl)
 try simp only[zP,zA,zB,zC]
 refine tk 10 (v:=?_) ?_ ?_
 rotate_left
 ·rintro W ⟨x0,-⟩;go_simp;all_goals (with_reducible rfl)
 try simp only[zP,zA,zB,zC]
 refine tk 11 (v:=?_) ?_ ?_
 rotate_left
 ·rintro W ⟨x0,-⟩;go_simp;all_goals (with_reducible rfl)
 try simp only[zP,zA,zB,zC]
 refine wpAnyH_done (by kernel_rfl) ?_ _
 have HB6:=hid hS6.2
 clear hS hS5 hS6
 clear HUN HWD HSS
 have HST6:=hid (HST.out _ HB6.out)
 cases ok
 ·have HV:=hid (show ps=qs from HQ.out)
  obtain⟨pv,hkv⟩:=HKV.out _ HB6.out
  have HK6:=hid hkv
  clear hkv
  go_wp2
  go_end0
  rw[← HV.out]
  exact⟨rfl,⟨pv,HK6.out⟩,HST6.out⟩
 have HV:=hid (show ⟨rl,0,0⟩::ps=qs from HQ.out)
 have hn0:=HNIL.out rfl
 have HF6:=hid (HFL.out _ HB6.out)
 obtain⟨pv0,hkv0⟩:=HKV.out _ HB6.out
 have c0:=hkv0.cells.1
 clear HNIL HQ HFL hkv0
 go_wp2_with fail
 refine HF6.out.mono ?_
 rintro e w7 ⟨rfl,hb7⟩
 have HB7:=hid (chain HB6.out HB6.out.size hb7)
 obtain⟨pv,hkv⟩:=HKV.out _ HB7.out
 have HST7:=hid (HST.out _ HB7.out)
 obtain⟨A,cp,rfl,-,-,hA⟩:=aN hkv.2
 obtain⟨g9,rfl,-⟩:=hA hn0
 have c3:=hkv.cells.2.2.2
 have hbl:=hkv.lt
 have HIN:=hid (MV ps ⟨rl,0,0⟩ ps.length rfl hn0 (by omega) (b+1) _ w7 (by omega) hkv.2 _ rfl)
 have HSE:=hid (fun(v6:Value) (w6:World) h1 h2=>hkv.set (o:=.cells #[.int .i64 (rl:Int),.int .i64 0,.int .i64 0] 77) (v6:=v6) (w6:=w6) (qs:=⟨rl,0,0⟩::ps) h1 h2)
 obtain⟨n,hn⟩:∃ n,ps.length=n:=⟨_,rfl⟩
 rw[hn]at c3 HIN HSE
 have HN:=hid hn
 clear hb7 hkv hA HKV HST HF6 HST6 hn c0 hps hn0
 simp only[]at HIN
 go_wp2_with fail
 refine HIN.out.mono ?_
 rintro e w8 ⟨v8,rfl,hown8,hgrow8⟩
 obtain⟨hb8,hk8,hs8⟩:=HSE.out v8 w8 hgrow8 (by rw[List.length_cons,HN.out];exact hown8)
 obtain⟨A8,c8,rfl,-,-,-⟩:=aN hown8
 have d3:w8.cell? ⟨b,3,none⟩=some (.slice (some ⟨g9,0,none⟩) n cp):=by rw[Lib.cell_of_heap hb8];rfl
 have f3:w8.frozen? ⟨b,3,none⟩=false:=Lib.frozen_of_heap hb8 3
 have HK8:=hid hk8
 have HS8:=hid (HST7.out.trans hs8)
 clear hown8 hgrow8 hb8 hk8 hs8 HSE HIN
 go_wp2
 go_end0
 rw[← HV.out]
 exact⟨rfl,HK8.out,HS8.out⟩
end
section
variable {T:bT} {tv:Value} {l:List Rl} {lo hi:Nat} {t:List Tk} {v:Value} {off:Nat}
theorem MW (hn:t.length≤1000) (hf:iC t) (hl:l.length≤1000) (hA:Acc dM l) (hfl:kD l) {w w1:World} (hL:bH w) (H:T.Is w tv l lo hi) (hr:bW off w w.heap.size v t) (hch:bB t=true) (hb:Below w.heap.size w w1) {g rc:Nat} (hg:g<w1.heap.size) (hc:∀ k x,l[k]?=some x→bZ w1 g (0+k * 5) x.aE (bytesOf x.left) (bytesOf x.cells) x.prio x.line):Env T w1 tv v l lo hi t off g rc :=
 ⟨hl,hA,hfl,hn,hf,hch,hL.kept hb,T.xJ H (Kept.dB hb (T.ptr H).2),hg,hc,(hr.below hb).mono hb.size⟩
theorem aDP (hn:t.length≤1000) (hf:iC t) (hcp:lS v) (hl:l.length≤1000) (hA:Acc dM l) (hfl:kD l) (w:World) (hL:bH w) (H:T.Is w tv l lo hi) (hr:bW off w w.heap.size v t) :
  Calls Tryz.prog 85 #[tv,v] w fun e w'=>∃ v',e=.returned (.tuple #[v',.int .i64 (rQ t)])∧w'.ownsRow w.heap.size 77 3 v' (PF l t).length (cW (PF l t))∧Below w.heap.size w w':=by
 obtain⟨f,hff⟩:∃ f,rQ t=f:=⟨_,rfl⟩
 have HBG:=hid (V9 T v t off hn hf hl hA hfl w hL H hr f hff)
 have HTW:=hid (fun(hch:bB t=true) (w1:World) (hb:Below w.heap.size w w1) (g rc:Nat) (hg:g<w1.heap.size) hc (W:World) (hW:Below w1.heap.size w1 W) hK=>IS (MW (rc:=rc) hn hf hl hA hfl hL H hr hch hb hg hc) hW hK)
 have HSP:=hid (fun(hch:bB t=true) (w1:World) (hb:Below w.heap.size w w1) (g rc:Nat) (hg:g<w1.heap.size) hc (W:World) (hW:Below w1.heap.size w1 W) hK=>V5 (MW (rc:=rc) hn hf hl hA hfl hL H hr hch hb hg hc) hcp hW hK)
 have HGU:=hid (fun(hch:bB t=true) (hw:dD l t=none) (w1:World) (hb:Below w.heap.size w w1) (g rc:Nat) (hg:g<w1.heap.size) hc (W:World) (hW:Below w1.heap.size w1 W) hK=>WA (ps:=bI l t) (MW (rc:=rc) hn hf hl hA hfl hL H hr hch hb hg hc) hW hK (by have:(bI l t).length≤4 * t.length:=kL l _ _ _ _;omega) (show Valid l (bI l t) from fP hA _ _ _ _ hch) (PF l t) (by
  unfold PF j6
  rw[if_pos hch,hw]))
 have HNO:=hid (show f≠0→PF l t=[] from fun h=>by
  unfold PF
  cases hb:bB t with
  | false=>rw[if_neg (by decide)]
  | true =>
   unfold rQ at hff
   rw[if_pos hb]at hff
   exact absurd hff.symm h)
 have HCH:=hid (show f=0→bB t=true from fun h=>by
  cases hb:bB t with
  | true=>rfl
  | false =>
   unfold rQ at hff
   rw[if_neg (by rw[hb];decide)]at hff
   rw[h]at hff
   cases hff)
 have HWO:=hid (show bB t=true→∀ p,dD l t=some p→p=PF l t from fun h p hp=>by
  unfold PF j6
  rw[if_pos h,hp])
 obtain⟨oc,hoc⟩:∃ p,PF l t=p:=⟨_,rfl⟩
 obtain⟨wp,hwp⟩:∃ p,dD l t=p:=⟨_,rfl⟩
 rw[hoc]at HNO HGU HWO ⊢
 rw[hwp]at HTW HGU HWO
 rw[hff]
 clear hn hf hcp hl hA hfl hL H hr hff hoc hwp
 go_enter Tryz.func85,Tryz.ntmps85
 go_wp2_with fail
 refine HBG.out.mono ?_
 rintro e w2 ⟨w1,g,rc,rfl,hb1,hb2,hk,hg,hc⟩
 have HB1:=hid hb1
 have HB2:=hid hb2
 have hs1:=hb1.size
 by_cases hz:f=0
 ·have hch:=HCH.out hz
  have HT:=hid (HTW.out hch w1 hb1 g rc hg hc w2 hb2 hk)
  have HS:=hid (fun(W:World) hW hK=>HSP.out hch w1 hb1 g rc hg hc W hW hK)
  have HG:=hid (fun(h:wp=none) (W:World) hW hK=>HGU.out hch h w1 hb1 g rc hg hc W hW hK)
  have HO:=hid (HWO.out hch)
  subst hz
  obtain⟨b,hbb⟩:∃ b,w1.heap.size=b:=⟨_,rfl⟩
  rw[hbb]at HT HS HG hs1 HB2 ⊢
  clear HBG HTW HSP HGU HNO HCH HWO hb1 hb2 hk hg hc hbb hch
  go_wp2_with fail
  refine HT.out.mono ?_
  rintro e w3 ⟨rfl,hk3,hs3⟩
  have HB3:=hid (HB2.out.trans hs3.1)
  cases wp with
  | none =>
   have HK3:=hid hk3
   clear hk3 hs3
   go_wp2_with fail
   refine(HS.out _ HB3.out HK3.out).mono ?_
   rintro e w4 ⟨rfl,hk4,hs4⟩
   have HK4:=hid hk4
   have HB4:=hid (HB3.out.trans hs4.1)
   clear hk4 hs4
   go_wp2_with fail
   refine(HG.out trivial _ HB4.out HK4.out).mono ?_
   rintro e w5 ⟨rfl,⟨pv,hkv⟩,hs5⟩
   have HE:=hid (HB1.out.trans ((HB4.out.trans hs5.1).mono hs1))
   have c3:=hkv.cells.2.2.2
   have HOW:=hid hkv.2
   clear hkv hs5
   go_wp2
   go_ret2
   exact⟨_,rfl,HOW.out.mono (by omega),HE.out⟩
  | some p =>
   have HP:=hid (HO.out p rfl)
   obtain⟨pv,hkv⟩:=hk3
   have HE:=hid (HB1.out.trans (HB3.out.mono hs1))
   have c3:=hkv.cells.2.2.2
   have HOW:=hid hkv.2
   clear hkv hs3
   go_wp2
   go_ret2
   refine⟨_,rfl,?_,HE.out⟩
   rw[← HP.out]
   exact HOW.out.mono (by omega)
 ·have HV:=hid (HNO.out hz)
  have t1:(f != 0)=true:=bne_iff_ne.2 hz
  clear HBG HTW HSP HGU HNO HCH HWO hb1 hb2 hk hg hc hz
  go_wp2
  go_ret2
  rw[HV.out]
  exact⟨_,rfl,World.ownsRow_nil _ _ _ _,chain HB1.out HB1.out.size HB2.out⟩
end
end Go.Proofs.YthbigkoihpgcfaaGreatDoor.Cu
