/-
  Put together: CuK, CuL, CuM.
-/
import Derived.Test.YtlgejmcihchngaaGreatDoorUb
import Derived.Test.YtlgejmcihchngaaGreatDoorUm
import Derived.Test.YtlgejmcihchngaaGreatDoorQf
import Derived.Maps.AppendAt
import Derived.Test.YtlgejmcihchngaaGreatDoorUa
import Derived.Test.YtlgejmcihchngaaGreatDoorPaH
namespace Go.Proofs.YtlgejmcihchngaaGreatDoor.Cu
open Go.RowKit Ba Ru Ck Ti Pa Fl
def BoxQ (w:World) (b:Nat) (r f n:Int):Prop :=
 w.cell? ⟨b,0,none⟩=some (.int .i64 r)∧w.cell? ⟨b,1,none⟩=some (.int .i64 f)∧w.cell? ⟨b,2,none⟩=some (.int .i64 n)∧b<w.heap.size
theorem BoxQ.kept {w w':World} {b:Nat} {r f n:Int} (h:BoxQ w b r f n) (hb:Below w.heap.size w w'):BoxQ w' b r f n :=
 ⟨(hb.cell (p:=⟨b,0,none⟩) h.2.2.2).trans h.1,(hb.cell (p:=⟨b,1,none⟩) h.2.2.2).trans h.2.1,(hb.cell (p:=⟨b,2,none⟩) h.2.2.2).trans h.2.2.1,Nat.lt_of_lt_of_le h.2.2.2 hb.size⟩
theorem BoxQ.new (w:World) (r f n:Int) (t:TypeId):BoxQ (w.alloc (.cells #[.int .i64 r,.int .i64 f,.int .i64 n] t)) w.heap.size r f n:=by
 refine⟨?_,?_,?_,?_⟩<;>simp
theorem lit_own {W:World} {base b:Nat} (hb:W.heap.size=b) (h:base≤b) (p:List Pc) {cs:Array Value} (hp:cs=(rowsP p).toArray) (n:Nat) (hn:p.length=n) (h0:0<n) (hm:n≤1000):(W.alloc (.cells cs 48)).ownsRow base 48 3 (.slice (some ⟨b,0,none⟩) n n) n (rowsP p):=by
 subst hb
 subst hp
 have hl:(rowsP p).length=n * 3:=by
  unfold rowsP
  rw[Ba.rows_length cQ cQ_len,List.length_map,hn]
 have:=World.ownsRow_lit (base:=base) (e:=48) (size:=3) W (rowsP p).toArray n h (by unfold maxLen;omega) (by simpa using hl)
 simpa using this
theorem caseN_le (s:List Nat):caseN s=0∨caseN s=1∨caseN s=2∨caseN s=3∨caseN s=4:=by
 unfold caseN
 split
 ·exact .inl rfl
 ·split
  ·exact .inr (.inl rfl)
  ·split
   ·exact .inr (.inr (.inl rfl))
   ·split
    ·exact .inr (.inr (.inr (.inl rfl)))
    ·exact .inr (.inr (.inr (.inr rfl)))
theorem smallN_lt {c:Nat} (h:c<256):smallN c<256:=by unfold smallN;split<;>omega
theorem lowN_lt {s:List Nat} (h:∀ c ∈ s,c<256):∀ c ∈ lowN s,c<256:=fun c hc=>by
 unfold lowN at hc
 obtain⟨d,hd,rfl⟩:=List.mem_map.1 hc
 exact smallN_lt (h d hd)
theorem chs_lt {t:List Tk} (h:∀ x ∈ t,x.ch<256):∀ c ∈ chs t,c<256:=fun c hc=>by
 unfold chs at hc
 obtain⟨d,hd,rfl⟩:=List.mem_map.1 hc
 exact h d hd
def wordM (fo:Option Nat) (c r2 r3 n:Nat):Option (List Pc):=match fo with
 | none=>none
 | some k=>match c with
  | 1=>some [⟨k,0,n⟩]
  | 2=>some [⟨r2,0,0⟩,⟨k,0,n⟩]
  | 3=>some [⟨r3,0,0⟩,⟨k,0,n⟩]
  | _=>none
theorem wordP_eq {l:List Rl} {t:List Tk} (h:t.all letT=true):wordP l t=wordM (findN l 5 (lowN (chs t))) (caseN (chs t)) (ruleN l 8 capS) (ruleN l 8 capsS) t.length:=by
 unfold wordP
 rw[if_pos h]
 rfl
theorem wordP_no {l:List Rl} {t:List Tk} (h:¬ t.all letT=true):wordP l t=none:=by
 unfold wordP
 rw[if_neg h]
set_option maxRecDepth 100000 in
set_option maxHeartbeats 8000000 in
theorem rword12_any (v u:Value) (l:List Rl) (t:List Tk) (o1 o2:Nat) (hl:l.length≤100000) (ht:t.length≤2000) (hf:∀ x ∈ l,FitR x) (hft:∀ x ∈ t,x.ch<256) (o:Option (List Pc)) (ho:wordP l t=o) (w:World) (hv:ReadsR o1 w w.heap.size v l) (hu:ReadsT o2 w w.heap.size u t) :
  Calls Tryz.prog 16 #[v,u] w fun e w'=>∃ v',e=.returned (.tuple #[v',.bool o.isSome])∧w'.ownsRow w.heap.size 48 3 v' (o.getD []).length (rowsP (o.getD []))∧Below w.heap.size w w':=by
 have HV:=Lib.hid hv
 have HU:=Lib.hid hu
 have hv0:=hv
 have hu0:=hu
 obtain⟨A,c,rfl,-⟩:=hv0
 obtain⟨A2,c2,rfl,hA2⟩:=hu0
 have HA2:=Lib.hid hA2
 have HF:=Lib.hid hf
 have HFT:=Lib.hid hft
 have HO:=Lib.hid ho
 have HTX:=Lib.hid (fun(W:World) (hW:Below w.heap.size w W)=>rtext_any _ t o2 (by omega) hft W W.heap.size (Nat.le_refl _) ((hu.below hW).mono hW.size))
 have hcl:(chs t).length=t.length:=by unfold chs;rw[List.length_map]
 have HLO:=Lib.hid (fun(W:World)=>rlow_is (chs t) (by omega) (chs_lt hft) W)
 have HCA:=Lib.hid (fun(W:World)=>rcase_is (chs t) (by omega) (chs_lt hft) W)
 have HFI:=Lib.hid (fun(W:World) (hW:Below w.heap.size w W)=>rfind_any _ l o1 5 (bytesOf (lowN (chs t))) (by omega) hf (findN l 5 (lowN (chs t))) (by rw[bytesN_bytesOf _ (lowN_lt (chs_lt hft))]) W _ (hv.below hW))
 have HRU2:=Lib.hid (fun(W:World) (hW:Below w.heap.size w W)=>rrule_any _ l o1 8 capS (by omega) hf (by decide) W _ (hv.below hW))
 have HRU3:=Lib.hid (fun(W:World) (hW:Below w.heap.size w W)=>rrule_any _ l o1 8 capsS (by omega) hf (by decide) W _ (hv.below hW))
 rw[show bytesOf capS={ data:=#[99,97,112] } from rfl]at HRU2
 rw[show bytesOf capsS={ data:=#[99,97,112,115] } from rfl]at HRU3
 have hTs:(bytesOf (chs t)).size=t.length:=by rw[bytesOf_size,hcl]
 obtain⟨T,hT⟩:∃ T,bytesOf (chs t)=T:=⟨_,rfl⟩
 obtain⟨T2,hT2⟩:∃ T,bytesOf (lowN (chs t))=T:=⟨_,rfl⟩
 obtain⟨fo,hfo⟩:∃ o,findN l 5 (lowN (chs t))=o:=⟨_,rfl⟩
 obtain⟨cn,hcn⟩:∃ c,caseN (chs t)=c:=⟨_,rfl⟩
 obtain⟨r2,hr2⟩:∃ r,ruleN l 8 capS=r:=⟨_,rfl⟩
 obtain⟨r3,hr3⟩:∃ r,ruleN l 8 capsS=r:=⟨_,rfl⟩
 have hcn4:=caseN_le (chs t)
 rw[hcn]at hcn4
 have HWP:=Lib.hid (show t.all letT=true→o=wordM fo cn r2 r3 t.length from fun h=>by
  rw[← HO.out,wordP_eq h,hfo,hcn,hr2,hr3])
 rw[hT]at HTX HLO HCA hTs
 rw[hT2]at HLO HFI
 rw[hfo]at HFI
 rw[hcn]at HCA
 rw[hr2]at HRU2
 rw[hr3]at HRU3
 obtain⟨nl,hnl⟩:∃ n,l.length=n:=⟨_,rfl⟩
 obtain⟨n,hn⟩:∃ n,t.length=n:=⟨_,rfl⟩
 rw[hnl]at HFI HRU2 HRU3 hl HV ⊢
 rw[hn]at HTX HA2 ht hTs HWP HU ⊢
 have HN:=Lib.hid hn
 clear hv hu hA2 hf hft ho hT hT2 hfo hcn hr2 hr3 hnl hn hcl
 go_enter Tryz.func16,Tryz.ntmps16
 go_wp2
 go_loopw [6] (fun i wr=>∃ k:Nat,i=.int .i64 (k:Int)∧k≤n∧(∀ x ∈ t.take k,letT x=true)∧Below w.heap.size w wr) (fun i _=>n - (intOf i).toNat)
 case atStart=>exact⟨0,rfl,Nat.zero_le _,fun x hx=>by simp at hx,Below.refl _ _⟩
 case round =>
  obtain⟨k,rfl,hk,hall,hBr⟩:=hrel
  have HBR:=Lib.hid hBr
  have HALL:=Lib.hid hall
  by_cases hlt:k<n
  ·obtain⟨x,hx⟩:∃ x,t[k]?=some x:=⟨_,List.getElem?_eq_getElem (by rw[HN.out];exact hlt)⟩
   have hxm:=List.mem_of_getElem? hx
   obtain⟨g,rfl,hgw,hg⟩:=HA2.out (by omega)
   obtain⟨y0,y1,y2⟩:=tcell hg k x hx
   have y0:=(hBr.cell (p:=⟨g,o2+k * 3,none⟩) hgw).trans y0
   have y1:=(hBr.cell (p:=⟨g,o2+k * 3+1,none⟩) hgw).trans y1
   have y2:=(hBr.cell (p:=⟨g,o2+k * 3+2,none⟩) hgw).trans y2
   obtain⟨b,hb⟩:∃ b,letT x=b:=⟨_,rfl⟩
   have HC:=Lib.hid (fun(W:World)=>rletter_tok x (HFT.out x hxm) b hb W)
   have HYS:=Lib.hid (show b=true→∀ y ∈ t.take (k+1),letT y=true from fun h y hy=>by
    rw[List.take_add_one,hx,List.mem_append]at hy
    rcases hy with hy | hy
    ·exact HALL.out y hy
    ·rw[Option.toList_some,List.mem_singleton]at hy
     rw[hy,hb];exact h)
   have HNO:=Lib.hid (show b=false→o=none from fun h=>by
    rw[← HO.out]
    refine wordP_no fun q=>?_
    rw[List.all_eq_true]at q
    rw[q x hxm]at hb
    rw[← hb]at h
    cases h)
   clear hx hxm hg hgw hb hall hBr
   obtain⟨xk,xc,xp⟩:=x
   simp only[aggK]at HC
   simp only[]at y0 y1 y2
   have j0:(0:Int)≤(k:Int):=by omega
   have j1:(k:Int)<(n:Int):=by omega
   have t1:decide ((k:Int)<(n:Int))=true:=decide_eq_true j1
   cases b
   case true =>
    have HY:=Lib.hid (HYS.out (by trivial))
    go_wp2_with fail
    refine(HC.out _).mono ?_
    rintro e w2 ⟨rfl,hb2⟩
    have HE:=Lib.hid (chain HBR.out HBR.out.size hb2)
    clear hb2
    go_wp2
    go_roundw
    case rel=>exact⟨k+1,by go_num,by omega,HY.out,HE.out⟩
    case measure=>simp[intOf];omega
   case false =>
    have HY:=Lib.hid (HNO.out (by trivial))
    go_wp2_with fail
    refine(HC.out _).mono ?_
    rintro e w2 ⟨rfl,hb2⟩
    have HE:=Lib.hid (chain HBR.out HBR.out.size hb2)
    clear hb2
    go_wp2
    go_ret2
    rw[HY.out]
    exact⟨_,rfl,World.ownsRow_nil _ _ _ _,HE.out⟩
  ·obtain rfl:k=n:=by omega
   have HWQ:=Lib.hid (HWP.out (by
    rw[List.all_eq_true]
    intro x hx
    exact HALL.out x (by rw[List.take_of_length_le (by rw[HN.out];exact Nat.le_refl _)];exact hx)))
   have t1:decide ((k:Int)<(k:Int))=false:=decide_eq_false (by omega)
   clear hall hBr
   go_wp2_with fail
   refine(HTX.out _ HBR.out).mono ?_
   rintro e w2 ⟨rfl,hb2⟩
   have HB2:=Lib.hid (chain HBR.out HBR.out.size hb2)
   clear hb2
   go_wp2_with fail
   refine(HLO.out _).mono ?_
   rintro e w3 ⟨rfl,hb3⟩
   have HB3:=Lib.hid (chain HB2.out HB2.out.size hb3)
   clear hb3
   go_wp2_with fail
   refine(HFI.out _ HB3.out).mono ?_
   rintro e w4 ⟨rfl,rfl⟩
   go_wp2_with fail
   refine(HCA.out _).mono ?_
   rintro e w4 ⟨rfl,rfl⟩
   cases fo with
   | none =>
    have HY:=Lib.hid (show o=none from HWQ.out)
    simp only[numV,okV,Option.isSome]
    go_wp2
    go_ret2
    rw[HY.out]
    exact⟨_,rfl,World.ownsRow_nil _ _ _ _,HB3.out⟩
   | some q =>
   simp only[numV,okV,Option.isSome]
   rcases hcn4 with rfl | rfl | rfl | rfl | rfl
   ·have HY:=Lib.hid (show o=none from HWQ.out)
    go_wp2
    go_ret2
    rw[HY.out]
    exact⟨_,rfl,World.ownsRow_nil _ _ _ _,HB3.out⟩
   ·have HY:=Lib.hid (show o=some [⟨q,0,k⟩] from HWQ.out)
    have HOB:=Lib.hid (show ∀ (cs:Array Value) (h:cs=#[.int .i64 (q:Int),.int .i64 0,.int .i64 (k:Int)]),((w4.alloc (.cells cs 48)).alloc (.cells cs 48)).ownsRow w.heap.size 48 3 (.slice (some ⟨w4.heap.size+1,0,none⟩) 1 1) 1 (rowsP [⟨q,0,k⟩])∧Below w.heap.size w ((w4.alloc (.cells cs 48)).alloc (.cells cs 48)) from fun cs h=>by
     have hb:=HB3.out.alloc HB3.out.size (.cells cs 48)
     exact⟨lit_own (by simp) (by have:=HB3.out.size;omega) [⟨q,0,k⟩] (by rw[h];rfl) 1 rfl (by decide) (by decide),hb.alloc hb.size _⟩)
    go_wp2
    go_ret2
    rw[HY.out]
    exact⟨_,rfl,(HOB.out _ rfl).1,(HOB.out _ rfl).2⟩
   ·have HY:=Lib.hid (show o=some [⟨r2,0,0⟩,⟨q,0,k⟩] from HWQ.out)
    go_wp2_with fail
    have hx:=BoxQ.new w4 (q:Int) 0 (k:Int) 48
    have hw:=HB3.out.alloc HB3.out.size (.cells #[.int .i64 (q:Int),.int .i64 0,.int .i64 (k:Int)] 48)
    generalize w4.alloc _=w5 at hx hw ⊢
    obtain⟨bx,hbx⟩:∃ n,w4.heap.size=n:=⟨_,rfl⟩
    rw[hbx]at hx ⊢
    have HB5:=Lib.hid hw
    have HBX:=Lib.hid (show ∀ W:World,Below w5.heap.size w5 W→BoxQ W bx (q:Int) 0 (k:Int)∧Below w5.heap.size w5 W from fun W hW=>⟨hx.kept hW,hW⟩)
    clear hx hw hbx
    have hS:=(HBX.out _ (Below.refl _ _).drew)
    refine wp_region_held_drew (S:=fun W=>BoxQ W bx (q:Int) 0 (k:Int)∧Below w5.heap.size w5 W) (by kernel_rfl) hS (fun hHeld=>?_)
    refine wpAnyH_take (i:=0) (v:=?_) (by simp only[List.getElem?_toArray,List.getElem?_cons_zero];rfl) (by kernel_rfl) (by kernel_rfl) (by kernel_rfl) (by exact fun _ _ _ h=>h) (Or.inl ⟨by rfl,?_⟩) (by with_reducible exact hS) ?_
    rotate_left
    ·intro W hSw;(obtain⟨⟨x0,x1,x2,x3⟩,-⟩:=hSw);go_simp;all_goals (with_reducible rfl)
    try simp only[Act.put,List.setIfInBounds_toArray,List.set_cons_zero,List.set_cons_succ]
    refine wpAnyH_take (i:=3) (v:=?_) (by simp only[List.getElem?_toArray,List.getElem?_cons_succ,List.getElem?_cons_zero];rfl) (by kernel_rfl) (by kernel_rfl) (by kernel_rfl) (by exact fun _ _ _ h=>h) (Or.inl ⟨by rfl,?_⟩) (by with_reducible exact hS) ?_
    rotate_left
    ·intro W hSw;(obtain⟨⟨x0,x1,x2,x3⟩,-⟩:=hSw);go_simp;all_goals (with_reducible rfl)
    try simp only[Act.put,List.setIfInBounds_toArray,List.set_cons_zero,List.set_cons_succ]
    refine Rg.take_one 1 (by simp only[List.getElem?_toArray,List.getElem?_cons_succ,List.getElem?_cons_zero];rfl) (by kernel_rfl) (fun K hK=>?_)
    go_simp
    go_at_call 46
    refine(HRU2.out _ (chain HB5.out HB5.out.size hS.2)).mono ?_
    rintro e w9 ⟨rfl,rfl⟩
    have hS1:=hS
    go_wp2_with fail
    refine hK.out _ _ hS1 (fun hHeld1=>?_)
    clear hK K
    try simp only[Act.put,List.setIfInBounds_toArray,List.set_cons_zero,List.set_cons_succ]
    refine wpAnyH_take (i:=2) (v:=?_) (by simp only[List.getElem?_toArray,List.getElem?_cons_succ,List.getElem?_cons_zero];rfl) (by kernel_rfl) (by kernel_rfl) (by kernel_rfl) (by exact fun _ _ _ h=>h) (Or.inl ⟨by rfl,?_⟩) (by with_reducible exact hS1) ?_
    rotate_left
    ·intro W hSw;(obtain⟨⟨x0,x1,x2,x3⟩,-⟩:=hSw);go_simp;all_goals (with_reducible rfl)
    try simp only[Act.put,List.setIfInBounds_toArray,List.set_cons_zero,List.set_cons_succ]
    refine Rg.take_one 4 (by simp only[List.getElem?_toArray,List.getElem?_cons_succ,List.getElem?_cons_zero];rfl) (by kernel_rfl) (fun K hK=>?_)
    go_simp
    have hS4:=fun o=>HBX.out _ ((Below.refl w5.heap.size w5).alloc (Nat.le_refl _) o).drew
    refine hK.out _ _ (hS4 _) (fun hHeld4=>?_)
    clear hK K
    try simp only[Act.put,List.setIfInBounds_toArray,List.set_cons_zero,List.set_cons_succ]
    refine wpAnyH_take (i:=5) (v:=?_) (by simp only[List.getElem?_toArray,List.getElem?_cons_succ,List.getElem?_cons_zero];rfl) (by kernel_rfl) (by kernel_rfl) (by kernel_rfl) (by exact fun _ _ _ h=>h) (Or.inl ⟨by rfl,?_⟩) (by with_reducible exact(hS4 _)) ?_
    rotate_left
    ·intro W hSw;(obtain⟨⟨x0,x1,x2,x3⟩,-⟩:=hSw);go_simp;all_goals (with_reducible rfl)
    try simp only[Act.put,List.setIfInBounds_toArray,List.set_cons_zero,List.set_cons_succ]
    refine wpAnyH_take (i:=6) (v:=?_) (by simp only[List.getElem?_toArray,List.getElem?_cons_succ,List.getElem?_cons_zero];rfl) (by kernel_rfl) (by kernel_rfl) (by kernel_rfl) (by exact fun _ _ _ h=>h) (Or.inl ⟨by rfl,?_⟩) (by with_reducible exact(hS4 _)) ?_
    rotate_left
    ·intro W hSw;(obtain⟨⟨x0,x1,x2,x3⟩,-⟩:=hSw);go_simp;all_goals (with_reducible rfl)
    try simp only[Act.put,List.setIfInBounds_toArray,List.set_cons_zero,List.set_cons_succ]
    refine wpAnyH_done (by kernel_rfl) ?_ _
    have HB6:=Lib.hid (fun o=>chain HB5.out HB5.out.size (hS4 o).2)
    clear hS hS1 hS4
    go_wp2
    go_ret2
    refine⟨_,by rw[HY.out];rfl,?_,HB6.out _⟩
    rw[HY.out]
    exact own_below (lit_own rfl (by have:=HB5.out.size;omega) [⟨r2,0,0⟩,⟨q,0,k⟩] rfl 2 rfl (by decide) (by decide)) (Below.refl _ _).drew
   ·have HY:=Lib.hid (show o=some [⟨r3,0,0⟩,⟨q,0,k⟩] from HWQ.out)
    go_wp2_with fail
    have hx:=BoxQ.new w4 (q:Int) 0 (k:Int) 48
    have hw:=HB3.out.alloc HB3.out.size (.cells #[.int .i64 (q:Int),.int .i64 0,.int .i64 (k:Int)] 48)
    generalize w4.alloc _=w5 at hx hw ⊢
    obtain⟨bx,hbx⟩:∃ n,w4.heap.size=n:=⟨_,rfl⟩
    rw[hbx]at hx ⊢
    have HB5:=Lib.hid hw
    have HBX:=Lib.hid (show ∀ W:World,Below w5.heap.size w5 W→BoxQ W bx (q:Int) 0 (k:Int)∧Below w5.heap.size w5 W from fun W hW=>⟨hx.kept hW,hW⟩)
    clear hx hw hbx
    have hS:=(HBX.out _ (Below.refl _ _).drew)
    refine wp_region_held_drew (S:=fun W=>BoxQ W bx (q:Int) 0 (k:Int)∧Below w5.heap.size w5 W) (by kernel_rfl) hS (fun hHeld=>?_)
    refine wpAnyH_take (i:=0) (v:=?_) (by simp only[List.getElem?_toArray,List.getElem?_cons_zero];rfl) (by kernel_rfl) (by kernel_rfl) (by kernel_rfl) (by exact fun _ _ _ h=>h) (Or.inl ⟨by rfl,?_⟩) (by with_reducible exact hS) ?_
    rotate_left
    ·intro W hSw;(obtain⟨⟨x0,x1,x2,x3⟩,-⟩:=hSw);go_simp;all_goals (with_reducible rfl)
    try simp only[Act.put,List.setIfInBounds_toArray,List.set_cons_zero,List.set_cons_succ]
    refine wpAnyH_take (i:=3) (v:=?_) (by simp only[List.getElem?_toArray,List.getElem?_cons_succ,List.getElem?_cons_zero];rfl) (by kernel_rfl) (by kernel_rfl) (by kernel_rfl) (by exact fun _ _ _ h=>h) (Or.inl ⟨by rfl,?_⟩) (by with_reducible exact hS) ?_
    rotate_left
    ·intro W hSw;(obtain⟨⟨x0,x1,x2,x3⟩,-⟩:=hSw);go_simp;all_goals (with_reducible rfl)
    try simp only[Act.put,List.setIfInBounds_toArray,List.set_cons_zero,List.set_cons_succ]
    refine Rg.take_one 1 (by simp only[List.getElem?_toArray,List.getElem?_cons_succ,List.getElem?_cons_zero];rfl) (by kernel_rfl) (fun K hK=>?_)
    go_simp
    go_at_call 46
    refine(HRU3.out _ (chain HB5.out HB5.out.size hS.2)).mono ?_
    rintro e w9 ⟨rfl,rfl⟩
    have hS1:=hS
    go_wp2_with fail
    refine hK.out _ _ hS1 (fun hHeld1=>?_)
    clear hK K
    try simp only[Act.put,List.setIfInBounds_toArray,List.set_cons_zero,List.set_cons_succ]
    refine wpAnyH_take (i:=2) (v:=?_) (by simp only[List.getElem?_toArray,List.getElem?_cons_succ,List.getElem?_cons_zero];rfl) (by kernel_rfl) (by kernel_rfl) (by kernel_rfl) (by exact fun _ _ _ h=>h) (Or.inl ⟨by rfl,?_⟩) (by with_reducible exact hS1) ?_
    rotate_left
    ·intro W hSw;(obtain⟨⟨x0,x1,x2,x3⟩,-⟩:=hSw);go_simp;all_goals (with_reducible rfl)
    try simp only[Act.put,List.setIfInBounds_toArray,List.set_cons_zero,List.set_cons_succ]
    refine Rg.take_one 4 (by simp only[List.getElem?_toArray,List.getElem?_cons_succ,List.getElem?_cons_zero];rfl) (by kernel_rfl) (fun K hK=>?_)
    go_simp
    have hS4:=fun o=>HBX.out _ ((Below.refl w5.heap.size w5).alloc (Nat.le_refl _) o).drew
    refine hK.out _ _ (hS4 _) (fun hHeld4=>?_)
    clear hK K
    try simp only[Act.put,List.setIfInBounds_toArray,List.set_cons_zero,List.set_cons_succ]
    refine wpAnyH_take (i:=5) (v:=?_) (by simp only[List.getElem?_toArray,List.getElem?_cons_succ,List.getElem?_cons_zero];rfl) (by kernel_rfl) (by kernel_rfl) (by kernel_rfl) (by exact fun _ _ _ h=>h) (Or.inl ⟨by rfl,?_⟩) (by with_reducible exact(hS4 _)) ?_
    rotate_left
    ·intro W hSw;(obtain⟨⟨x0,x1,x2,x3⟩,-⟩:=hSw);go_simp;all_goals (with_reducible rfl)
    try simp only[Act.put,List.setIfInBounds_toArray,List.set_cons_zero,List.set_cons_succ]
    refine wpAnyH_take (i:=6) (v:=?_) (by simp only[List.getElem?_toArray,List.getElem?_cons_succ,List.getElem?_cons_zero];rfl) (by kernel_rfl) (by kernel_rfl) (by kernel_rfl) (by exact fun _ _ _ h=>h) (Or.inl ⟨by rfl,?_⟩) (by with_reducible exact(hS4 _)) ?_
    rotate_left
    ·intro W hSw;(obtain⟨⟨x0,x1,x2,x3⟩,-⟩:=hSw);go_simp;all_goals (with_reducible rfl)
    try simp only[Act.put,List.setIfInBounds_toArray,List.set_cons_zero,List.set_cons_succ]
    refine wpAnyH_done (by kernel_rfl) ?_ _
    have HB6:=Lib.hid (fun o=>chain HB5.out HB5.out.size (hS4 o).2)
    clear hS hS1 hS4
    go_wp2
    go_ret2
    refine⟨_,by rw[HY.out];rfl,?_,HB6.out _⟩
    rw[HY.out]
    exact own_below (lit_own rfl (by have:=HB5.out.size;omega) [⟨r3,0,0⟩,⟨q,0,k⟩] rfl 2 rfl (by decide) (by decide)) (Below.refl _ _).drew
   ·have HY:=Lib.hid (show o=none from HWQ.out)
    go_wp2
    go_ret2
    rw[HY.out]
    exact⟨_,rfl,World.ownsRow_nil _ _ _ _,HB3.out⟩
end Go.Proofs.YtlgejmcihchngaaGreatDoor.Cu
namespace Go.Proofs.YtlgejmcihchngaaGreatDoor.Cu
open Go.RowKit Ba Ru Ck Ti Pa Fl
theorem infoP:(Tryz.prog.info? 48).map (fun i=>(i.zero,i.size,i.bytes))=some (some (.agg #[.int .i64 0,.int .i64 0,.int .i64 0]),3,24):=by kernel_rfl
theorem cells_newsP {g off:Nat} {w:World} {l:List Pq} (h:∀ k x,l[k]?=some x→∀ j u,(cQ x)[j]?=some u→w.cell? ⟨g,off+(k * 3+j),none⟩=some u) :
  ∀ j u,(Ba.rows cQ l)[j]?=some u→w.cell? ((⟨g,off,none⟩:Addr).add j)=some u:=by
 intro j u hu
 have hj:j<(Ba.rows cQ l).length:=(List.getElem?_eq_some_iff.1 hu).1
 rw[rows_length cQ cQ_len]at hj
 have hk:j / 3<l.length:=by omega
 have e:=rows_at cQ cQ_len l (j / 3) _ (List.getElem?_eq_getElem hk) (j % 3) (Nat.mod_lt _ (by omega))
 have e2:j / 3 * 3+j % 3=j:=by omega
 rw[e2,hu]at e
 have:=h (j / 3) _ (List.getElem?_eq_getElem hk) (j % 3) u e.symm
 rw[e2]at this
 have e3:(⟨g,off,none⟩:Addr).add j=⟨g,off+j,none⟩:=by unfold Addr.add;split<;>simp_all
 rw[e3];exact this
theorem rows_cellsP (l:List Pq):∀ u ∈ Ba.rows cQ l,u.oneCell'=true:=by
 intro u hu
 unfold Ba.rows at hu
 rw[List.mem_flatMap]at hu
 obtain⟨x,_,hx⟩:=hu
 simp[cQ]at hx
 rcases hx with rfl | rfl | rfl<;>rfl
theorem wpList_append_pieces (w:World) {ops:Array Oper} {rest:List Oper} {o:Oper} {a:Act} {Q:Exit→Act→World→Prop} (hgd:o.guard=none) (s x:Operand)
  (ho:o.op=.call { callee:=.builtin .append,args:=#[s,x],argTypes:=#[33,33] })
  (v0:Value) (hs:a.eval s=v0) (B k:Nat) (xs:List Pc) (hown:w.ownsRow B 48 3 v0 k (rowsP xs)) (hB:B≤w.heap.size) (A:Option Addr) (n c off B':Nat) (l:List Pc) (hx:a.eval x=.slice A n c) (hl:l.length=n) (hn:k+n≤9000) (hr:ReadsQ off w B' (.slice A n c) (l.map Pc.q))
  (h:∀ v' w',w'.ownsRow B 48 3 v' (k+n) (rowsP (xs++l))→w.grownBy w' v0.ownBlock→(v'.ownBlock=v0.ownBlock∨v'.ownBlock=some w.heap.size)→wpList Tryz.prog ops Q rest (a.put o.dst v') w'):wpList Tryz.prog ops Q (o::rest) a w:=by
 obtain⟨i0,hi0,hz0,hz1,hz2⟩:=info_parts infoP
 rcases Nat.eq_zero_or_pos n with h0 | h0
 ·subst h0
  have:l=[]:=List.length_eq_zero_iff.1 hl
  subst this
  exact wpList_append_zero w hgd s x _ ho B _ i0 3 Tryz.underlying33 hi0 v0 k _ hs hown A c hx (h v0 w (by rw[List.append_nil];exact hown) ⟨rfl,rfl,rfl,Nat.le_refl _,fun _ _ _=>rfl⟩ (.inl rfl))
 ·obtain⟨A',c',e,hA⟩:=hr
  injection e with e1 e2 e3
  subst e1
  obtain⟨g,rfl,-,hc⟩:=hA (by rw[List.length_map];omega)
  refine wpList_append_own_at w hgd s x _ ho B _ i0 _ 3 24 Tryz.underlying33 hi0 hz0 hz1 hz2 rfl (by decide) v0 k _ hs hown ⟨g,off,none⟩ n c (Ba.rows cQ (l.map Pc.q)) hx (by rw[rows_length cQ cQ_len,List.length_map,hl]) (cells_newsP hc) (rows_cellsP _) (by unfold maxLen;omega) (by omega) hB ?_
  intro v' w' h1 h2 _ h4
  refine h v' w' ?_ h2 h4
  unfold rowsP
  rw[List.map_append,rows_append]
  exact h1
theorem lit_reads (W:World) (r f n:Nat) {cs:Array Value} (hc:cs=#[.int .i64 (r:Int),.int .i64 (f:Int),.int .i64 (n:Int)]):ReadsQ 0 (W.alloc (.cells cs 48)) (W.alloc (.cells cs 48)).heap.size (.slice (some ⟨W.heap.size,0,none⟩) 1 1) ([(⟨r,f,n⟩:Pc)].map Pc.q) :=
 readsQ_own rfl (lit_own (base:=W.heap.size) rfl (Nat.le_refl _) [⟨r,f,n⟩] (by rw[hc];rfl) 1 rfl (by decide) (by decide))
end Go.Proofs.YtlgejmcihchngaaGreatDoor.Cu
namespace Go.Proofs.YtlgejmcihchngaaGreatDoor.Cu
open Go.RowKit Ba Ru Ck Ti Pa Fl
theorem parts_len (l:List Rl) (frm:Nat):∀ (ks:List Nat) (p:Nat),(partsF l frm ks p).length=ks.length
 | [],_=>rfl
 | _::r,_=>congrArg (·+1) (parts_len l frm r _)
theorem runF_len (l:List Rl) (s:List Nat) (frm:Nat):∀ (n p:Nat),(runF l s frm n p).length≤2 * n+s.length
 | 0,_=>Nat.zero_le _
 | n+1,p=>by
  unfold runF
  split
  ·split
   ·rw[List.length_cons,parts_len]
    have:=allN_len l (lowN s) (p:Int)
    rw[lowN_len]at this
    omega
   ·split
    ·exact Nat.zero_le _
    ·rename_i k _
     have:=runF_len l s frm n (p+leftLen l k)
     rw[List.length_append,List.length_cons]
     split<;>simp<;>omega
  ·exact Nat.zero_le _
def freeN (s:List Nat) (p:Nat):Nat:=((s.drop p).takeWhile fun c=>!capB c).length
theorem free_step {s:List Nat} {p:Nat} (hp:p<s.length) (h:capB s[p]=false):freeN s p=1+freeN s (p+1):=by
 unfold freeN
 rw[List.drop_eq_getElem_cons hp,List.takeWhile_cons_of_pos (by rw[h];rfl),List.length_cons]
 omega
theorem free_cap {s:List Nat} {p:Nat} (hp:p<s.length) (h:capB s[p]=true):freeN s p=0:=by
 unfold freeN
 rw[List.drop_eq_getElem_cons hp,List.takeWhile_cons_of_neg (by rw[h];decide)]
 rfl
theorem free_end {s:List Nat} {p:Nat} (hp:s.length≤p):freeN s p=0:=by
 unfold freeN
 rw[List.drop_of_length_le hp]
 rfl
theorem most_free {s:List Nat} {p:Nat} (hp:p<s.length):mostN s p=if capB s[p]=true then 1+freeN s (p+1) else freeN s p:=by
 unfold mostN freeN
 rw[List.drop_eq_getElem_cons hp]
theorem most_le {s:List Nat} {p:Nat} (hp:p<s.length):p+mostN s p≤s.length:=by
 have hl:∀ q,freeN s q≤s.length - q:=fun q=>by
  unfold freeN
  have:=(List.takeWhile_prefix (l:=s.drop q) fun c=>!capB c).length_le
  rw[List.length_drop]at this
  exact this
 rw[most_free hp]
 have:=hl p
 have:=hl (p+1)
 split<;>omega
theorem lets_lt {s:List Nat} (h:LetS s):∀ c ∈ s,c<256:=fun c hc=>by
 have:=h c hc
 unfold Pa.smallB capB at this
 simp only[decide_eq_true_eq]at this
 omega
theorem drop_ext {s:List Nat} (h:∀ c ∈ s,c<256) (p:Nat):(bytesOf s).extract p (bytesOf s).size=bytesOf (s.drop p):=by
 rw[← bytesOf_bytesN ((bytesOf s).extract p (bytesOf s).size),bytesN_ext,bytesN_bytesOf _ h,List.take_of_length_le (by rw[List.length_drop,bytesOf_size];exact Nat.le_refl _)]
theorem cell_block {w w':World} {a:Addr} (h:w'.heap[a.block]?=w.heap[a.block]?):w'.cell? a=w.cell? a:=by
 simp only[World.cell?,h]
end Go.Proofs.YtlgejmcihchngaaGreatDoor.Cu
