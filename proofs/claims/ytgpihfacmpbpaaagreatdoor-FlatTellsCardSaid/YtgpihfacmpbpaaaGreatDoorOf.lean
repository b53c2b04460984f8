/-
  Put together: FlE, FlF.
-/
import Derived.Test.YtgpihfacmpbpaaaGreatDoorOe
import Derived.Test.YtgpihfacmpbpaaaGreatDoorOc
import Derived.Test.YtgpihfacmpbpaaaGreatDoorNh
import Derived.Test.YtgpihfacmpbpaaaGreatDoorTrJ
namespace Go.Proofs.YtgpihfacmpbpaaaGreatDoor.Fl
open Go.RowKit Tr Nu Nl Cn
abbrev fE (off:Nat) (w:World) (B:Nat) (v:Value) (l:List Tk):Prop:=Ba.Reads cT 3 off w B v l
def kQ (l:List Tk):Prop:=∀ x ∈ l,(-9223372036854775808≤x.kind∧x.kind≤9223372036854775807)∧x.ch<256∧(-9223372036854775808≤x.place∧x.place≤9223372036854775807)
def DM (t:List Nd):Nat:=if aL t≠0 then aL t else if zP t=false then 1 else 0
def LF (t:List Nd):List Tk:=if DM t=0 then rN t else []
theorem aB8 {t:List Nd} (h:DM t=0):zP t=true:=by
 unfold DM at h
 by_cases h1:aL t≠0
 ·rw[if_pos h1]at h;exact absurd h h1
 ·rw[if_neg h1]at h
  by_cases h2:zP t=false
  ·rw[if_pos h2]at h;cases h
  ·simpa using h2
theorem FK {t:List Nd} (h:zP t=true):DM t=0:=by
 unfold DM
 rw[if_neg (by rw[rI h];exact fun e=>e rfl),if_neg (by rw[h];exact fun e=>Bool.noConfusion e)]
def OM (l:List Tk) (z:Int) (w:World) (e:Ending) (w':World):Prop:=∃ v,e=.returned (.tuple #[v,.int .i64 z])∧fE 0 w' w'.heap.size v l∧Below w.heap.size w w'
def UE (t:List Nd) (z:Int) (w:World) (e:Ending) (w':World):Prop:=∃ v,e=.returned (.tuple #[v,.int .i64 z])∧aS 0 w' w'.heap.size v t∧Below w.heap.size w w'∧AQ v
def Y9 (l:List Tk) (z:Int) (w:World) (e:Ending) (w':World):Prop:=∃ v,e=.returned (.tuple #[v,.int .i64 z])∧fE 0 w' w'.heap.size v l∧Below w.heap.size w w'∧AQ v
structure mJ:Prop where
 of:∀ (v:Value) (t:List Nd) (off:Nat),t.length≤9000→Fit t→(∀ x ∈ t,x.text.size≤9000)→gA t≤100000→AQ v→∀ w:World,Ka.Laid w→aS off w w.heap.size v t→Calls Tryz.prog 8 #[v] w (Y9 (LF t) ((DM t:Nat):Int) w)
 tree:∀ (v:Value) (l:List Tk) (off:Nat),l.length≤200000→kQ l→FL l→AQ v→∀ w:World,Ka.Laid w→fE off w w.heap.size v l→Calls Tryz.prog 12 #[v] w (UE (vF l).1 (((mK l).2:Nat):Int) w)
 same:∀ (u v:Value) (l m:List Tk) (a b:Nat),l.length≤200000→m.length≤200000→kQ l→kQ m→∀ w:World,fE a w w.heap.size u l→fE b w w.heap.size v m→Calls Tryz.prog 15 #[u,v] w fun e w'=>e=.returned (.bool (lX l m))∧Below w.heap.size w w'
theorem FM:(Tryz.prog.info? 39).map (fun i=>(i.zero,i.size,i.bytes))=some (some (.agg #[.int .i64 0,.int .u8 0,.int .i64 0]),3,24):=by kernel_rfl
def DN (b:Nat):Int:=if b=40 then 2 else if b=41 then 3 else 1
def UF (s:ByteArray) (i:Nat):Tk:=⟨DN (Lx.bT s (2 * i)),Lx.bT s (2 * i+1),0⟩
def rO (s:ByteArray) (n:Nat):List Tk:=(List.range n).map (UF s)
def mL (s:ByteArray):List Tk:=rO s (s.size / 2)
theorem LO (s:ByteArray) (n:Nat):rO s (n+1)=rO s n++[UF s n]:=by unfold rO;rw[List.range_succ,List.map_append];rfl
theorem sT (s:ByteArray) (n:Nat):(rO s n).length=n:=by unfold rO;simp
theorem sU (s:ByteArray):kQ (mL s):=fun x hx=>by
 unfold mL rO at hx
 obtain⟨i,-,rfl⟩:=List.mem_map.1 hx
 refine⟨?_,Lx.eF _ _,by show (-9223372036854775808:Int)≤0∧(0:Int)≤9223372036854775807;omega⟩
 show -9223372036854775808≤DN _∧DN _≤9223372036854775807
 unfold DN
 repeat' split
 all_goals omega
def UG (l:List Tk) (w:World) (e:Ending) (w':World):Prop:=∃ v,e=.returned v∧w'.ownsRow w.heap.size 39 3 v l.length (Ba.rows cT l)∧Below w.heap.size w w'
def TkL (s:ByteArray) (w:World) (u3 u4:Value) (wr:World):Prop:=∃ k q:Nat,u4=.int .i64 (q:Int)∧q=2 * k∧k≤s.size / 2∧wr.ownsRow w.heap.size 39 3 u3 k (Ba.rows cT (rO s k))∧Below w.heap.size w wr
set_option maxRecDepth 100000 in
set_option maxHeartbeats 4000000 in
theorem IP (s:ByteArray) (hs:s.size≤9000) (w:World):Calls Tryz.prog 43 #[.string s] w (UG (mL s) w):=by
 obtain⟨i0,hi0,hz0,hz1,hz2⟩:=info_parts FM
 go_enter Tryz.func43,Tryz.ntmps43
 go_wp2
 go_loopw [3,4] (fun u3 u4 wr=>TkL s w u3 u4 wr) (fun _ u4 _=>s.size - (intOf u4).toNat)
 case atStart=>exact⟨0,0,rfl,rfl,Nat.zero_le _,World.ownsRow_nil _ _ _ _,Below.refl _ _⟩
 case round =>
  obtain⟨k,q,rfl,hq,hk,own,hB⟩:=hrel
  have hBs:=hB.size
  have HQ:=Lib.hid hq
  have q0:(0:Int)≤(q:Int):=by omega
  by_cases hlt:k<s.size / 2
  ·have q1:q<s.size:=by omega
   have q2:q+1<s.size:=by omega
   have E1:=Lx.cJ s q q1
   have E2:=Lx.cJ s (q+1) q2
   have q3:(q:Int)+1<(s.size:Int):=by omega
   obtain⟨b,hb⟩:∃ b,Lx.bT s q=b:=⟨_,rfl⟩
   obtain⟨c,hc⟩:∃ c,Lx.bT s (q+1)=c:=⟨_,rfl⟩
   have hb2:b<256:=hb▸Lx.eF s q
   have hc2:c<256:=hc▸Lx.eF s (q+1)
   rw[hb]at E1
   rw[hc]at E2
   obtain⟨kk,hkk⟩:∃ kk,DN b=kk:=⟨_,rfl⟩
   have HNX:=Lib.hid (show Ba.rows cT (rO s (k+1))=Ba.rows cT (rO s k)++[.int .i64 kk,.int .u8 (c:Int),.int .i64 0] by
    rw[LO,Ba.iH]
    show _++Ba.rows cT [UF s k]=_
    rw[show UF s k=⟨kk,c,0⟩ by unfold UF;rw[← hq,hb,hc,hkk]]
    simp[Ba.rows,cT])
   have HEND:=Lib.hid (fun(v:Value) (W:World) (h1:W.ownsRow w.heap.size 39 3 v (k+1) (Ba.rows cT (rO s k)++[.int .i64 kk,.int .u8 (c:Int),.int .i64 0])) (h2:Below w.heap.size w W)=>(show TkL s w v (.int .i64 ((q:Int)+2)) W from ⟨k+1,q+2,by go_num,by omega,by omega,by rw[HNX.out];exact h1,h2⟩))
   have HOW:=Lib.hid own
   have HB:=Lib.hid hB
   have HLT:=Lib.hid own.lt
   have k9:k≤9000:=by omega
   clear hq hb hc hk hlt own hB
   have hcases:(b=40∧kk=2)∨(b=41∧kk=3)∨(b≠40∧b≠41∧kk=1):=by
    rw[← hkk]
    unfold DN
    by_cases h1:b=40
    ·exact .inl ⟨h1,if_pos h1⟩
    ·by_cases h2:b=41
     ·exact .inr (.inl ⟨h2,by rw[if_neg h1,if_pos h2]⟩)
     ·exact .inr (.inr ⟨h1,h2,by rw[if_neg h1,if_neg h2]⟩)
   clear hkk
   rcases hcases with⟨e1,rfl⟩ | ⟨e1,rfl⟩ | ⟨e1,e2,rfl⟩
   ·have t1:((b:Int)==40)=true:=by rw[beq_iff_eq];omega
    have t2:((b:Int)==41)=false:=by rw[beq_eq_false_iff_ne];omega
    clear e1
    go_wp2_with (at_builtin;refine wpList_append_own _ rfl _ _ 25 rfl w.heap.size 39 i0 _ 3 24 Tryz.underlying25 hi0 hz0 hz1 hz2 rfl (by decide) _ _ _ rfl (HOW.out.alloc _) ⟨wr.heap.size,0,none⟩ 1 1 [.int .i64 2,.int .u8 (c:Int),.int .i64 0] rfl rfl (World.news_of_block (cs:=#[.int .i64 2,.int .u8 (c:Int),.int .i64 0]) (t:=39) (fr:=(0,0)) (heap_alloc_new wr _)) (by simp[Value.oneCell']) (by unfold maxLen;omega) (by omega) (by simp;omega) ?_;intro v' w1 hown' hgrow _;have HF:=Lib.hid (HEND.out v' w1 hown' ((HB.out.alloc hBs _).grown hgrow (by simp;omega) (fun j ej=>(HLT.out j ej).1)));clear hown' hgrow)
    go_roundw
    case rel=>exact HF.out
    case measure=>simp[intOf];omega
   ·have t1:((b:Int)==40)=false:=by rw[beq_eq_false_iff_ne];omega
    have t2:((b:Int)==41)=true:=by rw[beq_iff_eq];omega
    clear e1
    go_wp2_with (at_builtin;refine wpList_append_own _ rfl _ _ 25 rfl w.heap.size 39 i0 _ 3 24 Tryz.underlying25 hi0 hz0 hz1 hz2 rfl (by decide) _ _ _ rfl (HOW.out.alloc _) ⟨wr.heap.size,0,none⟩ 1 1 [.int .i64 3,.int .u8 (c:Int),.int .i64 0] rfl rfl (World.news_of_block (cs:=#[.int .i64 3,.int .u8 (c:Int),.int .i64 0]) (t:=39) (fr:=(0,0)) (heap_alloc_new wr _)) (by simp[Value.oneCell']) (by unfold maxLen;omega) (by omega) (by simp;omega) ?_;intro v' w1 hown' hgrow _;have HF:=Lib.hid (HEND.out v' w1 hown' ((HB.out.alloc hBs _).grown hgrow (by simp;omega) (fun j ej=>(HLT.out j ej).1)));clear hown' hgrow)
    go_roundw
    case rel=>exact HF.out
    case measure=>simp[intOf];omega
   ·have t1:((b:Int)==40)=false:=by rw[beq_eq_false_iff_ne];omega
    have t2:((b:Int)==41)=false:=by rw[beq_eq_false_iff_ne];omega
    clear e1 e2
    go_wp2_with (at_builtin;refine wpList_append_own _ rfl _ _ 25 rfl w.heap.size 39 i0 _ 3 24 Tryz.underlying25 hi0 hz0 hz1 hz2 rfl (by decide) _ _ _ rfl (HOW.out.alloc _) ⟨wr.heap.size,0,none⟩ 1 1 [.int .i64 1,.int .u8 (c:Int),.int .i64 0] rfl rfl (World.news_of_block (cs:=#[.int .i64 1,.int .u8 (c:Int),.int .i64 0]) (t:=39) (fr:=(0,0)) (heap_alloc_new wr _)) (by simp[Value.oneCell']) (by unfold maxLen;omega) (by omega) (by simp;omega) ?_;intro v' w1 hown' hgrow _;have HF:=Lib.hid (HEND.out v' w1 hown' ((HB.out.alloc hBs _).grown hgrow (by simp;omega) (fun j ej=>(HLT.out j ej).1)));clear hown' hgrow)
    go_roundw
    case rel=>exact HF.out
    case measure=>simp[intOf];omega
  ·have hk2:k=s.size / 2:=by omega
   have q9:q≤9000:=by omega
   have q3:(s.size:Int)≤(q:Int)+1:=by omega
   have HFIN:=Lib.hid (show UG (mL s) w (.returned u3) wr from ⟨u3,rfl,by unfold mL;rw[sT,← hk2];exact own,hB⟩)
   clear hk2 own hB hq hk hlt
   go_wp2
   go_ret
   exact HFIN.out
end Go.Proofs.YtgpihfacmpbpaaaGreatDoor.Fl
namespace Go.Proofs.YtgpihfacmpbpaaaGreatDoor.Fl
open Go.RowKit Tr Nu Nl Cn
theorem FN:∀ {t:List Nd} {B:Nat},(∀ x ∈ t,x.text.size≤B)→gA t≤t.length * B
 | [],_,_=>Nat.zero_le _
 | x::t,B,h=>by
  have h1:=h x (List.mem_cons_self ..)
  have h2:=FN (t:=t) (B:=B) (fun y hy=>h y (List.mem_cons_of_mem _ hy))
  show x.text.size+gA t≤(t.length+1) * B
  rw[Nat.add_mul];omega
def EvF (x:Ev):Prop:=x.name<256∧(-9223372036854775808≤x.place∧x.place≤9223372036854775807)
theorem wY {acc:List Ev} {x:Ev} (ha:∀ y ∈ acc,EvF y) (hx:EvF x):∀ y ∈ cD acc x,EvF y:=by
 intro z hz
 by_cases hk:x.kind=1
 ·by_cases h0:x.text.size=0
  ·rw[cI hk h0]at hz;exact ha z hz
  ·rcases List.eq_nil_or_concat acc with rfl | ⟨acc',y,rfl⟩
   ·rw[aI hk h0 cC]at hz
    rw[List.nil_append,List.mem_singleton]at hz;subst hz;exact hx
   ·rw[List.concat_eq_append]at hz ha
    by_cases hy:y.kind=1
    ·rw[bX hk h0 hy]at hz
     rcases List.mem_append.1 hz with h | h
     ·exact ha z (List.mem_append_left _ h)
     ·rw[List.mem_singleton]at h
      subst h
      exact ha y (by simp)
    ·rw[aI hk h0 (bK hy)]at hz
     rcases List.mem_append.1 hz with h | h
     ·exact ha z h
     ·rw[List.mem_singleton]at h;subst h;exact hx
 ·rw[bQ hk]at hz
  rcases List.mem_append.1 hz with h | h
  ·exact ha z h
  ·rw[List.mem_singleton]at h;subst h;exact hx
theorem wZ (l:List Tk):kQ l→∀ E S,aM l=some (E,S)→(∀ x ∈ E,EvF x)∧dO E≤l.length∧bI E≤l.length:=by
 refine kH (P:=fun l=>kQ l→∀ E S,aM l=some (E,S)→(∀ x ∈ E,EvF x)∧dO E≤l.length∧bI E≤l.length) ?_ ?_ l.length l rfl
 ·intro _ E S h
  cases h
  exact⟨fun x hx=>(by cases hx),Nat.zero_le _,Nat.zero_le _⟩
 ·intro l x ih hl E S h
  have hx:=hl x (by simp)
  unfold aM at h
  rw[List.foldl_append]at h
  rw[List.length_append,List.length_singleton]
  cases hp:aM l with
  | none =>
   unfold aM at hp
   rw[hp]at h
   have h:eV none x=some (E,S):=h
   cases h
  | some q =>
   obtain⟨E0,S0⟩:=q
   obtain⟨i1,i2,i3⟩:=ih (fun y hy=>hl y (by simp[hy])) E0 S0 hp
   unfold aM at hp
   rw[hp]at h
   have h:eV (some (E0,S0)) x=some (E,S):=h
   unfold eV at h
   simp only[]at h
   by_cases h1:x.kind=1
   ·rw[if_pos h1]at h
    have h:=Option.some.inj h
    obtain⟨rfl,rfl⟩:=Prod.mk.inj h
    obtain⟨j1,j2⟩:=DO E0 (jC (dS x.ch) x.place)
    have k1:zQ (jC (dS x.ch) x.place)=1:=rfl
    have k2:bI [jC (dS x.ch) x.place]=1:=rfl
    exact⟨wY i1 ⟨by show 0<256;omega,hx.2.2⟩,by omega,by omega⟩
   ·rw[if_neg h1]at h
    by_cases h2:x.kind=2
    ·rw[if_pos h2]at h
     have h:=Option.some.inj h
     obtain⟨rfl,rfl⟩:=Prod.mk.inj h
     refine⟨fun y hy=>?_,?_,?_⟩
     ·rcases List.mem_append.1 hy with g | g
      ·exact i1 y g
      ·rw[List.mem_singleton]at g;subst g;exact⟨hx.2.1,hx.2.2⟩
     ·rw[DL,show dO [mC x.ch x.place]=0 from rfl];omega
     ·rw[bC,show bI [mC x.ch x.place]=1 from rfl];omega
    ·rw[if_neg h2]at h
     by_cases h3:x.kind=3
     ·rw[if_pos h3]at h
      cases hS:S0.getLast? with
      | none=>rw[hS]at h;cases h
      | some k =>
       rw[hS]at h
       simp only[]at h
       by_cases hk:k=x.ch
       ·rw[if_pos hk]at h
        have h:=Option.some.inj h
        obtain⟨rfl,rfl⟩:=Prod.mk.inj h
        refine⟨fun y hy=>?_,?_,?_⟩
        ·rcases List.mem_append.1 hy with g | g
         ·exact i1 y g
         ·rw[List.mem_singleton]at g;subst g;exact⟨by show 0<256;omega,by show (-9223372036854775808:Int)≤0∧(0:Int)≤9223372036854775807;omega⟩
        ·rw[DL,show dO [lT]=0 from rfl];omega
        ·rw[bC,show bI [lT]=0 from rfl];omega
       ·rw[if_neg hk]at h;cases h
     ·rw[if_neg h3]at h;cases h
theorem UH {l:List Tk} (h:kQ l) (hl:l.length≤9000):FL l:=fun E hE=>by
 obtain⟨-,i2,i3⟩:=wZ l h E [] hE
 exact⟨by rw[dV];omega,fun x hx=>by have:=zZ E [] [] 0 (by simp) x hx;omega⟩
theorem ZA {pl:Int} {s:ByteArray} {n:Nat}:kQ (nZ pl s n):=fun x hx=>by
 unfold nZ at hx
 obtain⟨i,-,rfl⟩:=List.mem_map.1 hx
 refine⟨by show (-9223372036854775808:Int)≤1∧(1:Int)≤9223372036854775807;omega,Lx.eF _ _,?_⟩
 show -9223372036854775808≤wrap64 _∧wrap64 _≤9223372036854775807
 unfold wrap64
 omega
theorem kQ.app {a b:List Tk} (h:kQ a) (k:kQ b):kQ (a++b):=fun x hx=>(List.mem_append.1 hx).elim (h x) (k x)
theorem LP {o:List Tk} (h:kQ o):-9223372036854775808≤dW o∧dW o≤9223372036854775807:=by
 by_cases h0:o=[]
 ·subst h0;show (-9223372036854775808:Int)≤0∧(0:Int)≤9223372036854775807;omega
 ·obtain⟨x,hx,e⟩:=LN h0
  rw[← e];exact(h x hx).2.2
theorem sV:∀ (E:List Ev) (o:List Tk) (S:List Nat),(∀ x ∈ E,EvF x)→kQ o→(∀ k ∈ S,k<256)→kQ (E.foldl stepT (o,S)).1
 | [],_,_,_,h,_=>h
 | x::E,o,S,hE,h,hS=>by
  rw[List.foldl_cons]
  have hx:=hE x (List.mem_cons_self ..)
  have hE2:=fun y hy=>hE y (List.mem_cons_of_mem x hy)
  by_cases h1:x.kind=1
  ·rw[kJ h1]
   exact sV E _ _ hE2 (h.app ZA) hS
  ·by_cases h2:x.kind=2
   ·rw[rM h2]
    refine sV E _ _ hE2 (h.app fun y hy=>?_) (fun k hk=>?_)
    ·rw[List.mem_singleton]at hy;subst hy
     exact⟨by show (-9223372036854775808:Int)≤2∧(2:Int)≤9223372036854775807;omega,hx.1,hx.2⟩
    ·rcases List.mem_append.1 hk with g | g
     ·exact hS k g
     ·rw[List.mem_singleton]at g;subst g;exact hx.1
   ·unfold stepT
    rw[if_neg h1,if_neg h2]
    refine sV E _ _ hE2 (h.app fun y hy=>?_) (fun k hk=>hS k ((List.dropLast_sublist S).subset hk))
    rw[List.mem_singleton]at hy;subst hy
    refine⟨by show (-9223372036854775808:Int)≤3∧(3:Int)≤9223372036854775807;omega,?_,LP h⟩
    show S.getLastD 0<256
    rcases List.eq_nil_or_concat S with rfl | ⟨S',k,rfl⟩
    ·show 0<256;omega
    ·rw[List.concat_eq_append,List.getLastD_concat];exact hS k (by simp)
theorem vG {t:List Nd} (hc:aL t=0) (hf:Fit t):kQ (rN t)∧(rN t).length≤2 * t.length+gA t:=by
 obtain⟨L,hW,hE⟩:=gT hc
 unfold rN
 rw[hE]
 refine⟨sV (FJ t 0 L) [] [] (fun x hx=>?_) (fun x hx=>(by cases hx)) (fun k hk=>(by cases hk)),?_⟩
 ·rcases OF hW (vD t) (aU t) 0 x hx with⟨j,y,hj,⟨-,rfl⟩ | ⟨-,rfl⟩⟩ | rfl
  ·have:=hf y (List.mem_of_getElem? hj)
   refine⟨by show 0<256;omega,?_⟩
   show -9223372036854775808≤(vD t (0+j)).2∧(vD t (0+j)).2≤9223372036854775807
   rw[Nat.zero_add]
   unfold vD
   rw[hj];exact this.2.2.1
  ·have:=hf y (List.mem_of_getElem? hj)
   refine⟨this.1,?_⟩
   show -9223372036854775808≤aU t (0+j)∧aU t (0+j)≤9223372036854775807
   rw[Nat.zero_add]
   unfold aU
   rw[hj];exact this.2.2.1
  ·exact⟨by show 0<256;omega,by show (-9223372036854775808:Int)≤0∧(0:Int)≤9223372036854775807;omega⟩
 ·exact Y8 hW (vD t) (aU t) 0 (fun j y hj=>by rw[Nat.zero_add];unfold vD;rw[hj];exact Nat.le_refl _)
theorem mJ.aBX (Fd:mJ) (v:Value) (t:List Nd) (off:Nat) (ht:t.length≤9000) (hf:Fit t) (hx:∀ x ∈ t,x.text.size≤9000) (hs:gA t≤100000) (hcp:AQ v) (l:List Tk) (z:Int) (hl:LF t=l) (hz:((DM t:Nat):Int)=z) (w:World) (hL:Ka.Laid w) (hv:aS off w w.heap.size v t) :
  Calls Tryz.prog 8 #[v] w (Y9 l z w):=by
 subst hl hz
 exact Fd.of v t off ht hf hx hs hcp w hL hv
theorem mJ.ZB (Fd:mJ) (v:Value) (l:List Tk) (off:Nat) (hl:l.length≤200000) (hf:kQ l) (hs:FL l) (hcp:AQ v) (t:List Nd) (z:Int) (ht:(vF l).1=t) (hz:(((mK l).2:Nat):Int)=z) (w:World) (hL:Ka.Laid w) (hv:fE off w w.heap.size v l) :
  Calls Tryz.prog 12 #[v] w (UE t z w):=by
 subst ht hz
 exact Fd.tree v l off hl hf hs hcp w hL hv
theorem mJ.ZC (Fd:mJ) (u v:Value) (l m:List Tk) (a b:Nat) (hl:l.length≤200000) (hm:m.length≤200000) (fl:kQ l) (fm:kQ m) (z:Bool) (hz:lX l m=z) (w:World) (hu:fE a w w.heap.size u l) (hv:fE b w w.heap.size v m) :
  Calls Tryz.prog 15 #[u,v] w fun e w'=>e=.returned (.bool z)∧Below w.heap.size w w':=by
 subst hz
 exact Fd.same u v l m a b hl hm fl fm w hu hv
set_option maxHeartbeats 4000000 in
theorem IQ (v:Value) (off:Nat) (t:List Nd) (_hl:t.length≤maxLen) (B:Nat) (w:World) (hv:aS off w B v t) (z:Bool) (hz:rP t=z) :
  Calls Tryz.prog 6 #[v] w fun e w'=>e=.returned (.bool z)∧w=w':=by
 have HZ:=Lib.hid hz
 obtain⟨A,c,rfl,hA⟩:=hv
 have HA:=Lib.hid hA
 clear hA hz
 go_enter Tryz.func6,Tryz.ntmps6
 by_cases h0:150<t.length
 ·have HR:=Lib.hid (show rP t=true by unfold rP;rw[decide_eq_true h0,Bool.true_or])
  go_wp2
  go_ret
  exact⟨Ba.aC (HR.out.symm.trans HZ.out),rfl⟩
 ·go_wp2
  go_loop [3] (fun i=>∃ k:Nat,k≤t.length∧i=.int .i64 k∧∀ x ∈ t.take k,¬ 100<x.text.size) (fun i=>t.length - (intOf i).toNat)
  case atStart=>exact⟨0,by omega,rfl,by simp⟩
  case round =>
   obtain⟨k,hk,rfl,hj⟩:=hrel
   have HJ:=Lib.hid hj
   clear hj
   by_cases hlt:k<t.length
   ·obtain⟨g,rfl,-,hg⟩:=HA.out (by omega)
    obtain⟨⟨xk,xt,xp,xs⟩,hx⟩:∃ x,t[k]?=some x:=⟨_,List.getElem?_eq_getElem hlt⟩
    obtain⟨-,g2,-,-⟩:=cE hg k _ hx
    simp only[]at g2
    have HX:=Lib.hid hx
    clear hg hx
    by_cases h1:100<xt.size
    ·have HR:=Lib.hid (show rP t=true by
      unfold rP
      rw[Bool.or_eq_true];exact .inr (List.any_eq_true.2 ⟨_,List.mem_of_getElem? HX.out,decide_eq_true h1⟩))
     go_wp2
     go_ret
     exact⟨Ba.aC (HR.out.symm.trans HZ.out),rfl⟩
    ·have HN:=Lib.hid (show ∀ x ∈ t.take (k+1),¬ 100<x.text.size by
      intro x hx
      rw[List.take_add_one,HX.out]at hx
      simp only[Option.toList_some,List.mem_append,List.mem_singleton]at hx
      rcases hx with hx | hx
      ·exact HJ.out x hx
      ·subst hx;exact h1)
     go_wp2
     go_round
     case rel=>exact⟨k+1,by omega,by go_num,HN.out⟩
     case measure=>simp[intOf];omega
   ·obtain rfl:k=t.length:=by omega
    have HR:=Lib.hid (show rP t=false by
     unfold rP
     rw[decide_eq_false h0,Bool.false_or,List.any_eq_false]
     intro x hx
     have:=HJ.out x (by rw[List.take_length];exact hx)
     rw[decide_eq_true_eq];exact this)
    go_wp2
    go_ret
    exact⟨Ba.aC (HR.out.symm.trans HZ.out),rfl⟩
set_option maxHeartbeats 4000000 in
theorem IS (Fd:mJ) (s:ByteArray) (hs:s.size≤9000) (h:(mK (mL s)).2=2) (w:World) (hL:Ka.Laid w) :
  Calls Tryz.prog 19 #[.string s] w fun e w'=>e=.returned (.bool true)∧Below w.heap.size w w':=by
 have HTK:=Lib.hid (fun W=>IP s hs W)
 have htb:=IT (l:=mL s) (fun x hx=>(sU s x hx).2.1)
 have HTR:=Lib.hid (fun v W hW hv hcp=>Fd.ZB v (mL s) 0 (by unfold mL;rw[sT];omega) (sU s) (UH (sU s) (by unfold mL;rw[sT];omega)) hcp [] 2 (QM (fun e=>by rw[htb.2.2 e]at h;cases h)) (by rw[h];rfl) W hW hv)
 have HL:=Lib.hid hL
 have hLN:=hL.1
 clear h hL htb
 go_enter Tryz.func19,Tryz.ntmps19
 go_wp2_with fail
 refine(HTK.out _).mono ?_
 rintro e w1 ⟨v1,rfl,hown,hb1⟩
 have HR1:=Lib.hid (show fE 0 w1 w1.heap.size v1 (mL s) from Ba.Reads.kC wW rfl hown)
 have HC1:=Lib.hid (rJ hown)
 have HB1:=Lib.hid hb1
 have HL1:=Lib.hid (HL.out.below hb1 hLN)
 clear hown hb1
 go_wp2_with fail
 refine(HTR.out _ _ HL1.out HR1.out HC1.out).mono ?_
 rintro e w2 ⟨v2,rfl,hr2,hb2,-⟩
 have HB2:=Lib.hid (Ba.chain HB1.out HB1.out.size hb2)
 obtain⟨A2,c2,rfl,-⟩:=hr2
 clear hb2
 go_wp2
 go_ret
 exact⟨rfl,HB2.out⟩
def isD (s want:ByteArray):Bool :=
 decide (s.size≤9000) && (decide (want.size≤9000) && (decide ((bH s).2.2=0) && (decide (gA (gG (bH s).1)≤9000) && (lX (rN (gG (bH s).1)) (mL want) && decide ((rN (gG (bH s).1)).length=want.size / 2)))))
set_option maxHeartbeats 4000000 in
theorem UI (Ld:lJ) (Fd:mJ) (s want:ByteArray) (h:isD s want=true) (w:World) (hL:Ka.Laid w) :
  Calls Tryz.prog 18 #[.string s,.string want] w fun e w'=>e=.returned (.bool true)∧Below w.heap.size w w':=by
 unfold isD at h
 simp only[Bool.and_eq_true,decide_eq_true_eq]at h
 obtain⟨h1,h2,h3,h4,h5,h6⟩:=h
 have hsm:s.size≤maxLen:=Nat.le_trans h1 (by decide)
 have tc:=IG h3
 have tl:=(QL h3).2
 have tf:=QN s hsm
 have t9:∀ x ∈ (bH s).1,x.text.size≤9000:=fun x hx=>Nat.le_trans (tf.2 x hx) h1
 have nl:=AW tc
 have nf:=IU (by omega) tf.1 t9 tc
 have ni:=Y7 tc
 have nx:∀ x ∈ gG (bH s).1,x.text.size≤9000:=fun x hx=>Nat.le_trans (II hx) h4
 have nt:=vG (tX tc) nf
 have s3:(bH s).2=(0,0):=by rw[sR (sQ h3)]
 obtain⟨t,ht⟩:∃ t,(bH s).1=t:=⟨_,rfl⟩
 rw[ht]at tc tl tf t9 nl nf ni nx nt h4 h5 h6
 obtain⟨n,hn⟩:∃ n,gG t=n:=⟨_,rfl⟩
 rw[hn]at nl nf ni nx nt h4 h5 h6
 obtain⟨l,hl⟩:∃ l,rN n=l:=⟨_,rfl⟩
 rw[hl]at nt h5 h6
 have HPA:=Lib.hid (fun W hW=>Ld.at s hsm t 0 0 ht (by rw[s3];rfl) (by rw[s3];rfl) W hW)
 have HNO:=Lib.hid (fun v W hW hv=>ON Ld v t 0 (by omega) tf.1 t9 0 (by rw[tc];rfl) W hW hv)
 have HON:=Lib.hid (show GY t=n by unfold GY;rw[if_pos tc,hn])
 have HFO:=Lib.hid (fun v W hW hv hcp=>Fd.aBX v n 0 (by omega) nf nx (by omega) hcp l 0 (by unfold LF;rw[if_pos (FK ni),hl]) (by rw[FK ni];rfl) W hW hv)
 have HTK:=Lib.hid (fun W=>IP want h2 W)
 have HSM:=Lib.hid (fun(u v:Value) W hu hv=>Fd.ZC u v l (mL want) 0 0 (by omega) (by unfold mL;rw[sT];omega) nt.1 (sU want) true h5 W hu hv)
 have HL:=Lib.hid hL
 have hLN:=hL.1
 have HLEN:=Lib.hid h6
 clear ht hn hl tc tl tf t9 nl nf ni nx nt h1 h3 h4 h5 h6 s3 hL
 go_enter Tryz.func18,Tryz.ntmps18
 go_wp2_with fail
 refine(HPA.out _ HL.out).mono ?_
 rintro e w1 ⟨v1,rfl,hr1,hb1⟩
 have HR1:=Lib.hid hr1
 have HB1:=Lib.hid hb1
 have HL1:=Lib.hid (HL.out.below hb1 hLN)
 clear hr1 hb1
 go_wp2_with fail
 refine(HNO.out _ _ HL1.out HR1.out).mono ?_
 rw[HON.out]
 rintro e w2 ⟨v2,rfl,hown,hb2⟩
 have HR2:=Lib.hid (Ba.Reads.kC dX rfl hown)
 have HC2:=Lib.hid (rJ hown)
 have HB2:=Lib.hid (Ba.chain HB1.out HB1.out.size hb2)
 have HL2:=Lib.hid (HL.out.below HB2.out hLN)
 clear hown hb2
 go_wp2_with fail
 refine(HFO.out _ _ HL2.out HR2.out HC2.out).mono ?_
 rintro e w3 ⟨v3,rfl,hr3,hb3,-⟩
 obtain⟨A3,c3,rfl,hA3⟩:=hr3
 have HR3:=Lib.hid (show fE 0 w3 w3.heap.size (.slice A3 l.length c3) l from ⟨A3,c3,rfl,hA3⟩)
 have HB3:=Lib.hid (Ba.chain HB2.out HB2.out.size hb3)
 rw[HLEN.out]at HR3 ⊢
 clear hb3 hA3
 go_wp2_with fail
 refine(HTK.out _).mono ?_
 rintro e w4 ⟨v4,rfl,hown,hb4⟩
 have HR4:=Lib.hid (show fE 0 w4 w4.heap.size v4 (mL want) from Ba.Reads.kC wW rfl hown)
 have HT4:=Lib.hid ((HR3.out.below hb4).mono hb4.size)
 have HB4:=Lib.hid (Ba.chain HB3.out HB3.out.size hb4)
 clear hown hb4
 go_wp2_with fail
 refine(HSM.out _ _ _ HT4.out HR4.out).mono ?_
 rintro e w5 ⟨rfl,hb5⟩
 have HB5:=Lib.hid (Ba.chain HB4.out HB4.out.size hb5)
 clear hb5
 go_wp2
 go_ret
 exact⟨rfl,HB5.out⟩
set_option maxRecDepth 100000 in
set_option maxHeartbeats 4000000 in
theorem UJ (Ld:lJ) (Fd:mJ) (w:World) (hL:Ka.Laid w):Calls Tryz.prog 7 #[] w fun e w'=>e=.returned (.bool true)∧Below w.heap.size w w':=by
 have hL0:=hL
 go_enter Tryz.func7,Tryz.ntmps7
 go_wp2_with fail
 refine(UI Ld Fd { data:=#[123,112,32,97,123,101,32,98,125,125] } { data:=#[40,112,46,97,40,101,46,98,41,101,41,112] } (by decide +kernel) _ hL0).mono ?_
 rintro e w1 ⟨rfl,hb1⟩
 have hL1:=hL.below hb1 hL.1
 go_wp2_with fail
 refine(UI Ld Fd { data:=#[123,107,125] } { data:=#[40,107,41,107] } (by decide +kernel) _ hL1).mono ?_
 rintro e w2 ⟨rfl,hb2⟩
 have HB2:=Ba.chain hb1 hb1.size hb2
 have hL2:=hL.below HB2 hL.1
 clear hb1 hb2 hL1
 go_wp2_with fail
 refine(IS Fd { data:=#[40,112,46,32,41,112] } (by decide) (by decide +kernel) _ hL2).mono ?_
 rintro e w3 ⟨rfl,hb3⟩
 have HB3:=Ba.chain HB2 HB2.size hb3
 have hL3:=hL.below HB3 hL.1
 clear hb3 HB2 hL2
 go_wp2_with fail
 refine(IS Fd { data:=#[40,112,41,101] } (by decide) (by decide +kernel) _ hL3).mono ?_
 rintro e w4 ⟨rfl,hb4⟩
 have HB4:=Ba.chain HB3 HB3.size hb4
 clear hb4 HB3 hL3
 go_wp2
 go_ret
 exact⟨rfl,HB4⟩
end Go.Proofs.YtgpihfacmpbpaaaGreatDoor.Fl
