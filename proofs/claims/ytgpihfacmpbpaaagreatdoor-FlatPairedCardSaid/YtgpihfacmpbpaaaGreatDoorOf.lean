/-
  Put together: FlE, FlF, FlG, FlH.
-/
import Derived.Test.YtgpihfacmpbpaaaGreatDoorOe
import Derived.Test.YtgpihfacmpbpaaaGreatDoorOc
import Derived.Test.YtgpihfacmpbpaaaGreatDoorNh
import Derived.Test.YtgpihfacmpbpaaaGreatDoorTrJ
import Derived.Test.YtgpihfacmpbpaaaGreatDoorVg
import Derived.IntWalk
namespace Go.Proofs.YtgpihfacmpbpaaaGreatDoor.Fl
open Go.RowKit Tr Nu Nl Cn
abbrev fE (off:Nat) (w:World) (B:Nat) (v:Value) (l:List Tk):Prop:=Ba.Reads cT 3 off w B v l
def kQ (l:List Tk):Prop:=∀ x ∈ l,(-9223372036854775808≤x.kind∧x.kind≤9223372036854775807)∧x.ch<256∧(-9223372036854775808≤x.place∧x.place≤9223372036854775807)
def DM (t:List Nd):Nat:=if aL t≠0 then aL t else if zP t=false then 1 else 0
def LF (t:List Nd):List Tk:=if DM t=0 then rN t else []
theorem aB8 {t:List Nd} (h:DM t=0):zP t=true:=by
 unfold DM at h
 by_cases h1:aL t≠0
 ·rw[if_pos h1]at h;exact absurd h h1
 ·rw[if_neg h1]at h
  by_cases h2:zP t=false
  ·rw[if_pos h2]at h;cases h
  ·simpa using h2
theorem FK {t:List Nd} (h:zP t=true):DM t=0:=by
 unfold DM
 rw[if_neg (by rw[rI h];exact fun e=>e rfl),if_neg (by rw[h];exact fun e=>Bool.noConfusion e)]
def OM (l:List Tk) (z:Int) (w:World) (e:Ending) (w':World):Prop:=∃ v,e=.returned (.tuple #[v,.int .i64 z])∧fE 0 w' w'.heap.size v l∧Below w.heap.size w w'
def UE (t:List Nd) (z:Int) (w:World) (e:Ending) (w':World):Prop:=∃ v,e=.returned (.tuple #[v,.int .i64 z])∧aS 0 w' w'.heap.size v t∧Below w.heap.size w w'∧AQ v
def Y9 (l:List Tk) (z:Int) (w:World) (e:Ending) (w':World):Prop:=∃ v,e=.returned (.tuple #[v,.int .i64 z])∧fE 0 w' w'.heap.size v l∧Below w.heap.size w w'∧AQ v
structure mJ:Prop where
 of:∀ (v:Value) (t:List Nd) (off:Nat),t.length≤9000→Fit t→(∀ x ∈ t,x.text.size≤9000)→gA t≤100000→AQ v→∀ w:World,Ka.Laid w→aS off w w.heap.size v t→Calls Tryz.prog 8 #[v] w (Y9 (LF t) ((DM t:Nat):Int) w)
 tree:∀ (v:Value) (l:List Tk) (off:Nat),l.length≤200000→kQ l→FL l→AQ v→∀ w:World,Ka.Laid w→fE off w w.heap.size v l→Calls Tryz.prog 12 #[v] w (UE (vF l).1 (((mK l).2:Nat):Int) w)
 same:∀ (u v:Value) (l m:List Tk) (a b:Nat),l.length≤200000→m.length≤200000→kQ l→kQ m→∀ w:World,fE a w w.heap.size u l→fE b w w.heap.size v m→Calls Tryz.prog 15 #[u,v] w fun e w'=>e=.returned (.bool (lX l m))∧Below w.heap.size w w'
theorem FM:(Tryz.prog.info? 39).map (fun i=>(i.zero,i.size,i.bytes))=some (some (.agg #[.int .i64 0,.int .u8 0,.int .i64 0]),3,24):=by kernel_rfl
def DN (b:Nat):Int:=if b=40 then 2 else if b=41 then 3 else 1
def UF (s:ByteArray) (i:Nat):Tk:=⟨DN (Lx.bT s (2 * i)),Lx.bT s (2 * i+1),0⟩
def rO (s:ByteArray) (n:Nat):List Tk:=(List.range n).map (UF s)
def mL (s:ByteArray):List Tk:=rO s (s.size / 2)
theorem LO (s:ByteArray) (n:Nat):rO s (n+1)=rO s n++[UF s n]:=by unfold rO;rw[List.range_succ,List.map_append];rfl
theorem sT (s:ByteArray) (n:Nat):(rO s n).length=n:=by unfold rO;simp
theorem sU (s:ByteArray):kQ (mL s):=fun x hx=>by
 unfold mL rO at hx
 obtain⟨i,-,rfl⟩:=List.mem_map.1 hx
 refine⟨?_,Lx.eF _ _,by show (-9223372036854775808:Int)≤0∧(0:Int)≤9223372036854775807;omega⟩
 show -9223372036854775808≤DN _∧DN _≤9223372036854775807
 unfold DN
 repeat' split
 all_goals omega
def UG (l:List Tk) (w:World) (e:Ending) (w':World):Prop:=∃ v,e=.returned v∧w'.ownsRow w.heap.size 39 3 v l.length (Ba.rows cT l)∧Below w.heap.size w w'
def TkL (s:ByteArray) (w:World) (u3 u4:Value) (wr:World):Prop:=∃ k q:Nat,u4=.int .i64 (q:Int)∧q=2 * k∧k≤s.size / 2∧wr.ownsRow w.heap.size 39 3 u3 k (Ba.rows cT (rO s k))∧Below w.heap.size w wr
set_option maxRecDepth 100000 in
set_option maxHeartbeats 4000000 in
theorem IP (s:ByteArray) (hs:s.size≤9000) (w:World):Calls Tryz.prog 43 #[.string s] w (UG (mL s) w):=by
 obtain⟨i0,hi0,hz0,hz1,hz2⟩:=info_parts FM
 go_enter Tryz.func43,Tryz.ntmps43
 go_wp2
 go_loopw [3,4] (fun u3 u4 wr=>TkL s w u3 u4 wr) (fun _ u4 _=>s.size - (intOf u4).toNat)
 case atStart=>exact⟨0,0,rfl,rfl,Nat.zero_le _,World.ownsRow_nil _ _ _ _,Below.refl _ _⟩
 case round =>
  obtain⟨k,q,rfl,hq,hk,own,hB⟩:=hrel
  have hBs:=hB.size
  have HQ:=Lib.hid hq
  have q0:(0:Int)≤(q:Int):=by omega
  by_cases hlt:k<s.size / 2
  ·have q1:q<s.size:=by omega
   have q2:q+1<s.size:=by omega
   have E1:=Lx.cJ s q q1
   have E2:=Lx.cJ s (q+1) q2
   have q3:(q:Int)+1<(s.size:Int):=by omega
   obtain⟨b,hb⟩:∃ b,Lx.bT s q=b:=⟨_,rfl⟩
   obtain⟨c,hc⟩:∃ c,Lx.bT s (q+1)=c:=⟨_,rfl⟩
   have hb2:b<256:=hb▸Lx.eF s q
   have hc2:c<256:=hc▸Lx.eF s (q+1)
   rw[hb]at E1
   rw[hc]at E2
   obtain⟨kk,hkk⟩:∃ kk,DN b=kk:=⟨_,rfl⟩
   have HNX:=Lib.hid (show Ba.rows cT (rO s (k+1))=Ba.rows cT (rO s k)++[.int .i64 kk,.int .u8 (c:Int),.int .i64 0] by
    rw[LO,Ba.iH]
    show _++Ba.rows cT [UF s k]=_
    rw[show UF s k=⟨kk,c,0⟩ by unfold UF;rw[← hq,hb,hc,hkk]]
    simp[Ba.rows,cT])
   have HEND:=Lib.hid (fun(v:Value) (W:World) (h1:W.ownsRow w.heap.size 39 3 v (k+1) (Ba.rows cT (rO s k)++[.int .i64 kk,.int .u8 (c:Int),.int .i64 0])) (h2:Below w.heap.size w W)=>(show TkL s w v (.int .i64 ((q:Int)+2)) W from ⟨k+1,q+2,by go_num,by omega,by omega,by rw[HNX.out];exact h1,h2⟩))
   have HOW:=Lib.hid own
   have HB:=Lib.hid hB
   have HLT:=Lib.hid own.lt
   have k9:k≤9000:=by omega
   clear hq hb hc hk hlt own hB
   have hcases:(b=40∧kk=2)∨(b=41∧kk=3)∨(b≠40∧b≠41∧kk=1):=by
    rw[← hkk]
    unfold DN
    by_cases h1:b=40
    ·exact .inl ⟨h1,if_pos h1⟩
    ·by_cases h2:b=41
     ·exact .inr (.inl ⟨h2,by rw[if_neg h1,if_pos h2]⟩)
     ·exact .inr (.inr ⟨h1,h2,by rw[if_neg h1,if_neg h2]⟩)
   clear hkk
   rcases hcases with⟨e1,rfl⟩ | ⟨e1,rfl⟩ | ⟨e1,e2,rfl⟩
   ·have t1:((b:Int)==40)=true:=by rw[beq_iff_eq];omega
    have t2:((b:Int)==41)=false:=by rw[beq_eq_false_iff_ne];omega
    clear e1
    go_wp2_with (at_builtin;refine wpList_append_own _ rfl _ _ 25 rfl w.heap.size 39 i0 _ 3 24 Tryz.underlying25 hi0 hz0 hz1 hz2 rfl (by decide) _ _ _ rfl (HOW.out.alloc _) ⟨wr.heap.size,0,none⟩ 1 1 [.int .i64 2,.int .u8 (c:Int),.int .i64 0] rfl rfl (World.news_of_block (cs:=#[.int .i64 2,.int .u8 (c:Int),.int .i64 0]) (t:=39) (fr:=(0,0)) (heap_alloc_new wr _)) (by simp[Value.oneCell']) (by unfold maxLen;omega) (by omega) (by simp;omega) ?_;intro v' w1 hown' hgrow _;have HF:=Lib.hid (HEND.out v' w1 hown' ((HB.out.alloc hBs _).grown hgrow (by simp;omega) (fun j ej=>(HLT.out j ej).1)));clear hown' hgrow)
    go_roundw
    case rel=>exact HF.out
    case measure=>simp[intOf];omega
   ·have t1:((b:Int)==40)=false:=by rw[beq_eq_false_iff_ne];omega
    have t2:((b:Int)==41)=true:=by rw[beq_iff_eq];omega
    clear e1
    go_wp2_with (at_builtin;refine wpList_append_own _ rfl _ _ 25 rfl w.heap.size 39 i0 _ 3 24 Tryz.underlying25 hi0 hz0 hz1 hz2 rfl (by decide) _ _ _ rfl (HOW.out.alloc _) ⟨wr.heap.size,0,none⟩ 1 1 [.int .i64 3,.int .u8 (c:Int),.int .i64 0] rfl rfl (World.news_of_block (cs:=#[.int .i64 3,.int .u8 (c:Int),.int .i64 0]) (t:=39) (fr:=(0,0)) (heap_alloc_new wr _)) (by simp[Value.oneCell']) (by unfold maxLen;omega) (by omega) (by simp;omega) ?_;intro v' w1 hown' hgrow _;have HF:=Lib.hid (HEND.out v' w1 hown' ((HB.out.alloc hBs _).grown hgrow (by simp;omega) (fun j ej=>(HLT.out j ej).1)));clear hown' hgrow)
    go_roundw
    case rel=>exact HF.out
    case measure=>simp[intOf];omega
   ·have t1:((b:Int)==40)=false:=by rw[beq_eq_false_iff_ne];omega
    have t2:((b:Int)==41)=false:=by rw[beq_eq_false_iff_ne];omega
    clear e1 e2
    go_wp2_with (at_builtin;refine wpList_append_own _ rfl _ _ 25 rfl w.heap.size 39 i0 _ 3 24 Tryz.underlying25 hi0 hz0 hz1 hz2 rfl (by decide) _ _ _ rfl (HOW.out.alloc _) ⟨wr.heap.size,0,none⟩ 1 1 [.int .i64 1,.int .u8 (c:Int),.int .i64 0] rfl rfl (World.news_of_block (cs:=#[.int .i64 1,.int .u8 (c:Int),.int .i64 0]) (t:=39) (fr:=(0,0)) (heap_alloc_new wr _)) (by simp[Value.oneCell']) (by unfold maxLen;omega) (by omega) (by simp;omega) ?_;intro v' w1 hown' hgrow _;have HF:=Lib.hid (HEND.out v' w1 hown' ((HB.out.alloc hBs _).grown hgrow (by simp;omega) (fun j ej=>(HLT.out j ej).1)));clear hown' hgrow)
    go_roundw
    case rel=>exact HF.out
    case measure=>simp[intOf];omega
  ·have hk2:k=s.size / 2:=by omega
   have q9:q≤9000:=by omega
   have q3:(s.size:Int)≤(q:Int)+1:=by omega
   have HFIN:=Lib.hid (show UG (mL s) w (.returned u3) wr from ⟨u3,rfl,by unfold mL;rw[sT,← hk2];exact own,hB⟩)
   clear hk2 own hB hq hk hlt
   go_wp2
   go_ret
   exact HFIN.out
end Go.Proofs.YtgpihfacmpbpaaaGreatDoor.Fl
namespace Go.Proofs.YtgpihfacmpbpaaaGreatDoor.Fl
open Go.RowKit Tr Nu Nl Cn
theorem FN:∀ {t:List Nd} {B:Nat},(∀ x ∈ t,x.text.size≤B)→gA t≤t.length * B
 | [],_,_=>Nat.zero_le _
 | x::t,B,h=>by
  have h1:=h x (List.mem_cons_self ..)
  have h2:=FN (t:=t) (B:=B) (fun y hy=>h y (List.mem_cons_of_mem _ hy))
  show x.text.size+gA t≤(t.length+1) * B
  rw[Nat.add_mul];omega
def EvF (x:Ev):Prop:=x.name<256∧(-9223372036854775808≤x.place∧x.place≤9223372036854775807)
theorem wY {acc:List Ev} {x:Ev} (ha:∀ y ∈ acc,EvF y) (hx:EvF x):∀ y ∈ cD acc x,EvF y:=by
 intro z hz
 by_cases hk:x.kind=1
 ·by_cases h0:x.text.size=0
  ·rw[cI hk h0]at hz;exact ha z hz
  ·rcases List.eq_nil_or_concat acc with rfl | ⟨acc',y,rfl⟩
   ·rw[aI hk h0 cC]at hz
    rw[List.nil_append,List.mem_singleton]at hz;subst hz;exact hx
   ·rw[List.concat_eq_append]at hz ha
    by_cases hy:y.kind=1
    ·rw[bX hk h0 hy]at hz
     rcases List.mem_append.1 hz with h | h
     ·exact ha z (List.mem_append_left _ h)
     ·rw[List.mem_singleton]at h
      subst h
      exact ha y (by simp)
    ·rw[aI hk h0 (bK hy)]at hz
     rcases List.mem_append.1 hz with h | h
     ·exact ha z h
     ·rw[List.mem_singleton]at h;subst h;exact hx
 ·rw[bQ hk]at hz
  rcases List.mem_append.1 hz with h | h
  ·exact ha z h
  ·rw[List.mem_singleton]at h;subst h;exact hx
theorem wZ (l:List Tk):kQ l→∀ E S,aM l=some (E,S)→(∀ x ∈ E,EvF x)∧dO E≤l.length∧bI E≤l.length:=by
 refine kH (P:=fun l=>kQ l→∀ E S,aM l=some (E,S)→(∀ x ∈ E,EvF x)∧dO E≤l.length∧bI E≤l.length) ?_ ?_ l.length l rfl
 ·intro _ E S h
  cases h
  exact⟨fun x hx=>(by cases hx),Nat.zero_le _,Nat.zero_le _⟩
 ·intro l x ih hl E S h
  have hx:=hl x (by simp)
  unfold aM at h
  rw[List.foldl_append]at h
  rw[List.length_append,List.length_singleton]
  cases hp:aM l with
  | none =>
   unfold aM at hp
   rw[hp]at h
   have h:eV none x=some (E,S):=h
   cases h
  | some q =>
   obtain⟨E0,S0⟩:=q
   obtain⟨i1,i2,i3⟩:=ih (fun y hy=>hl y (by simp[hy])) E0 S0 hp
   unfold aM at hp
   rw[hp]at h
   have h:eV (some (E0,S0)) x=some (E,S):=h
   unfold eV at h
   simp only[]at h
   by_cases h1:x.kind=1
   ·rw[if_pos h1]at h
    have h:=Option.some.inj h
    obtain⟨rfl,rfl⟩:=Prod.mk.inj h
    obtain⟨j1,j2⟩:=DO E0 (jC (dS x.ch) x.place)
    have k1:zQ (jC (dS x.ch) x.place)=1:=rfl
    have k2:bI [jC (dS x.ch) x.place]=1:=rfl
    exact⟨wY i1 ⟨by show 0<256;omega,hx.2.2⟩,by omega,by omega⟩
   ·rw[if_neg h1]at h
    by_cases h2:x.kind=2
    ·rw[if_pos h2]at h
     have h:=Option.some.inj h
     obtain⟨rfl,rfl⟩:=Prod.mk.inj h
     refine⟨fun y hy=>?_,?_,?_⟩
     ·rcases List.mem_append.1 hy with g | g
      ·exact i1 y g
      ·rw[List.mem_singleton]at g;subst g;exact⟨hx.2.1,hx.2.2⟩
     ·rw[DL,show dO [mC x.ch x.place]=0 from rfl];omega
     ·rw[bC,show bI [mC x.ch x.place]=1 from rfl];omega
    ·rw[if_neg h2]at h
     by_cases h3:x.kind=3
     ·rw[if_pos h3]at h
      cases hS:S0.getLast? with
      | none=>rw[hS]at h;cases h
      | some k =>
       rw[hS]at h
       simp only[]at h
       by_cases hk:k=x.ch
       ·rw[if_pos hk]at h
        have h:=Option.some.inj h
        obtain⟨rfl,rfl⟩:=Prod.mk.inj h
        refine⟨fun y hy=>?_,?_,?_⟩
        ·rcases List.mem_append.1 hy with g | g
         ·exact i1 y g
         ·rw[List.mem_singleton]at g;subst g;exact⟨by show 0<256;omega,by show (-9223372036854775808:Int)≤0∧(0:Int)≤9223372036854775807;omega⟩
        ·rw[DL,show dO [lT]=0 from rfl];omega
        ·rw[bC,show bI [lT]=0 from rfl];omega
       ·rw[if_neg hk]at h;cases h
     ·rw[if_neg h3]at h;cases h
theorem aFM {l:List Tk} (h:kQ l) (hl:l.length≤1000000):Fit (vF l).1∧(vF l).1.length≤l.length∧∀ x ∈ (vF l).1,x.text.size≤l.length:=by
 by_cases h0:(vF l).2=0
 ·obtain⟨t,hp,ht,hi⟩:=aEX h0
  rw[ht]
  obtain⟨E,hE,rfl⟩:=yM hp
  obtain⟨i1,i2,i3⟩:=wZ l h E [] hE
  obtain⟨L,hW,-⟩:=gT (rI hi)
  have hlen:(aP E).length≤l.length:=by rw[dV];exact i3
  have hall:=OG (Q:=fun x=>x.kind<256∧(-9223372036854775808≤x.place∧x.place≤9223372036854775807)) (fun z x h=>h) E [] [] (fun x hx=>(by cases hx)) (fun e he _=>by
   have:=i1 e he
   unfold fP
   split
   ·exact⟨by show 46<256;omega,this.2⟩
   ·exact⟨this.1,this.2⟩)
  have htx:∀ x ∈ aP E,x.text.size≤l.length:=fun x hx=>by
   have:=zZ E [] [] 0 (by simp) x hx
   omega
  refine⟨fun x hx=>?_,hlen,htx⟩
  obtain⟨j,hj⟩:=List.mem_iff_getElem?.1 hx
  obtain⟨a,b,-⟩:=sL hW j x hj
  have hx2:=hall x hx
  have hx3:=htx x hx
  exact⟨hx2.1,by unfold maxLen;omega,hx2.2,by omega,by omega⟩
 ·rw[QM h0]
  exact⟨fun x hx=>(by cases hx),Nat.zero_le _,fun x hx=>(by cases hx)⟩
theorem UH {l:List Tk} (h:kQ l) (hl:l.length≤9000):FL l:=fun E hE=>by
 obtain⟨-,i2,i3⟩:=wZ l h E [] hE
 exact⟨by rw[dV];omega,fun x hx=>by have:=zZ E [] [] 0 (by simp) x hx;omega⟩
theorem ZA {pl:Int} {s:ByteArray} {n:Nat}:kQ (nZ pl s n):=fun x hx=>by
 unfold nZ at hx
 obtain⟨i,-,rfl⟩:=List.mem_map.1 hx
 refine⟨by show (-9223372036854775808:Int)≤1∧(1:Int)≤9223372036854775807;omega,Lx.eF _ _,?_⟩
 show -9223372036854775808≤wrap64 _∧wrap64 _≤9223372036854775807
 unfold wrap64
 omega
theorem kQ.app {a b:List Tk} (h:kQ a) (k:kQ b):kQ (a++b):=fun x hx=>(List.mem_append.1 hx).elim (h x) (k x)
theorem LP {o:List Tk} (h:kQ o):-9223372036854775808≤dW o∧dW o≤9223372036854775807:=by
 by_cases h0:o=[]
 ·subst h0;show (-9223372036854775808:Int)≤0∧(0:Int)≤9223372036854775807;omega
 ·obtain⟨x,hx,e⟩:=LN h0
  rw[← e];exact(h x hx).2.2
theorem sV:∀ (E:List Ev) (o:List Tk) (S:List Nat),(∀ x ∈ E,EvF x)→kQ o→(∀ k ∈ S,k<256)→kQ (E.foldl stepT (o,S)).1
 | [],_,_,_,h,_=>h
 | x::E,o,S,hE,h,hS=>by
  rw[List.foldl_cons]
  have hx:=hE x (List.mem_cons_self ..)
  have hE2:=fun y hy=>hE y (List.mem_cons_of_mem x hy)
  by_cases h1:x.kind=1
  ·rw[kJ h1]
   exact sV E _ _ hE2 (h.app ZA) hS
  ·by_cases h2:x.kind=2
   ·rw[rM h2]
    refine sV E _ _ hE2 (h.app fun y hy=>?_) (fun k hk=>?_)
    ·rw[List.mem_singleton]at hy;subst hy
     exact⟨by show (-9223372036854775808:Int)≤2∧(2:Int)≤9223372036854775807;omega,hx.1,hx.2⟩
    ·rcases List.mem_append.1 hk with g | g
     ·exact hS k g
     ·rw[List.mem_singleton]at g;subst g;exact hx.1
   ·unfold stepT
    rw[if_neg h1,if_neg h2]
    refine sV E _ _ hE2 (h.app fun y hy=>?_) (fun k hk=>hS k ((List.dropLast_sublist S).subset hk))
    rw[List.mem_singleton]at hy;subst hy
    refine⟨by show (-9223372036854775808:Int)≤3∧(3:Int)≤9223372036854775807;omega,?_,LP h⟩
    show S.getLastD 0<256
    rcases List.eq_nil_or_concat S with rfl | ⟨S',k,rfl⟩
    ·show 0<256;omega
    ·rw[List.concat_eq_append,List.getLastD_concat];exact hS k (by simp)
theorem vG {t:List Nd} (hc:aL t=0) (hf:Fit t):kQ (rN t)∧(rN t).length≤2 * t.length+gA t:=by
 obtain⟨L,hW,hE⟩:=gT hc
 unfold rN
 rw[hE]
 refine⟨sV (FJ t 0 L) [] [] (fun x hx=>?_) (fun x hx=>(by cases hx)) (fun k hk=>(by cases hk)),?_⟩
 ·rcases OF hW (vD t) (aU t) 0 x hx with⟨j,y,hj,⟨-,rfl⟩ | ⟨-,rfl⟩⟩ | rfl
  ·have:=hf y (List.mem_of_getElem? hj)
   refine⟨by show 0<256;omega,?_⟩
   show -9223372036854775808≤(vD t (0+j)).2∧(vD t (0+j)).2≤9223372036854775807
   rw[Nat.zero_add]
   unfold vD
   rw[hj];exact this.2.2.1
  ·have:=hf y (List.mem_of_getElem? hj)
   refine⟨this.1,?_⟩
   show -9223372036854775808≤aU t (0+j)∧aU t (0+j)≤9223372036854775807
   rw[Nat.zero_add]
   unfold aU
   rw[hj];exact this.2.2.1
  ·exact⟨by show 0<256;omega,by show (-9223372036854775808:Int)≤0∧(0:Int)≤9223372036854775807;omega⟩
 ·exact Y8 hW (vD t) (aU t) 0 (fun j y hj=>by rw[Nat.zero_add];unfold vD;rw[hj];exact Nat.le_refl _)
theorem mJ.aBX (Fd:mJ) (v:Value) (t:List Nd) (off:Nat) (ht:t.length≤9000) (hf:Fit t) (hx:∀ x ∈ t,x.text.size≤9000) (hs:gA t≤100000) (hcp:AQ v) (l:List Tk) (z:Int) (hl:LF t=l) (hz:((DM t:Nat):Int)=z) (w:World) (hL:Ka.Laid w) (hv:aS off w w.heap.size v t) :
  Calls Tryz.prog 8 #[v] w (Y9 l z w):=by
 subst hl hz
 exact Fd.of v t off ht hf hx hs hcp w hL hv
theorem mJ.ZB (Fd:mJ) (v:Value) (l:List Tk) (off:Nat) (hl:l.length≤200000) (hf:kQ l) (hs:FL l) (hcp:AQ v) (t:List Nd) (z:Int) (ht:(vF l).1=t) (hz:(((mK l).2:Nat):Int)=z) (w:World) (hL:Ka.Laid w) (hv:fE off w w.heap.size v l) :
  Calls Tryz.prog 12 #[v] w (UE t z w):=by
 subst ht hz
 exact Fd.tree v l off hl hf hs hcp w hL hv
theorem mJ.ZC (Fd:mJ) (u v:Value) (l m:List Tk) (a b:Nat) (hl:l.length≤200000) (hm:m.length≤200000) (fl:kQ l) (fm:kQ m) (z:Bool) (hz:lX l m=z) (w:World) (hu:fE a w w.heap.size u l) (hv:fE b w w.heap.size v m) :
  Calls Tryz.prog 15 #[u,v] w fun e w'=>e=.returned (.bool z)∧Below w.heap.size w w':=by
 subst hz
 exact Fd.same u v l m a b hl hm fl fm w hu hv
set_option maxHeartbeats 4000000 in
theorem IQ (v:Value) (off:Nat) (t:List Nd) (_hl:t.length≤maxLen) (B:Nat) (w:World) (hv:aS off w B v t) (z:Bool) (hz:rP t=z) :
  Calls Tryz.prog 6 #[v] w fun e w'=>e=.returned (.bool z)∧w=w':=by
 have HZ:=Lib.hid hz
 obtain⟨A,c,rfl,hA⟩:=hv
 have HA:=Lib.hid hA
 clear hA hz
 go_enter Tryz.func6,Tryz.ntmps6
 by_cases h0:150<t.length
 ·have HR:=Lib.hid (show rP t=true by unfold rP;rw[decide_eq_true h0,Bool.true_or])
  go_wp2
  go_ret
  exact⟨Ba.aC (HR.out.symm.trans HZ.out),rfl⟩
 ·go_wp2
  go_loop [3] (fun i=>∃ k:Nat,k≤t.length∧i=.int .i64 k∧∀ x ∈ t.take k,¬ 100<x.text.size) (fun i=>t.length - (intOf i).toNat)
  case atStart=>exact⟨0,by omega,rfl,by simp⟩
  case round =>
   obtain⟨k,hk,rfl,hj⟩:=hrel
   have HJ:=Lib.hid hj
   clear hj
   by_cases hlt:k<t.length
   ·obtain⟨g,rfl,-,hg⟩:=HA.out (by omega)
    obtain⟨⟨xk,xt,xp,xs⟩,hx⟩:∃ x,t[k]?=some x:=⟨_,List.getElem?_eq_getElem hlt⟩
    obtain⟨-,g2,-,-⟩:=cE hg k _ hx
    simp only[]at g2
    have HX:=Lib.hid hx
    clear hg hx
    by_cases h1:100<xt.size
    ·have HR:=Lib.hid (show rP t=true by
      unfold rP
      rw[Bool.or_eq_true];exact .inr (List.any_eq_true.2 ⟨_,List.mem_of_getElem? HX.out,decide_eq_true h1⟩))
     go_wp2
     go_ret
     exact⟨Ba.aC (HR.out.symm.trans HZ.out),rfl⟩
    ·have HN:=Lib.hid (show ∀ x ∈ t.take (k+1),¬ 100<x.text.size by
      intro x hx
      rw[List.take_add_one,HX.out]at hx
      simp only[Option.toList_some,List.mem_append,List.mem_singleton]at hx
      rcases hx with hx | hx
      ·exact HJ.out x hx
      ·subst hx;exact h1)
     go_wp2
     go_round
     case rel=>exact⟨k+1,by omega,by go_num,HN.out⟩
     case measure=>simp[intOf];omega
   ·obtain rfl:k=t.length:=by omega
    have HR:=Lib.hid (show rP t=false by
     unfold rP
     rw[decide_eq_false h0,Bool.false_or,List.any_eq_false]
     intro x hx
     have:=HJ.out x (by rw[List.take_length];exact hx)
     rw[decide_eq_true_eq];exact this)
    go_wp2
    go_ret
    exact⟨Ba.aC (HR.out.symm.trans HZ.out),rfl⟩
set_option maxHeartbeats 4000000 in
theorem IS (Fd:mJ) (s:ByteArray) (hs:s.size≤9000) (h:(mK (mL s)).2=2) (w:World) (hL:Ka.Laid w) :
  Calls Tryz.prog 19 #[.string s] w fun e w'=>e=.returned (.bool true)∧Below w.heap.size w w':=by
 have HTK:=Lib.hid (fun W=>IP s hs W)
 have htb:=IT (l:=mL s) (fun x hx=>(sU s x hx).2.1)
 have HTR:=Lib.hid (fun v W hW hv hcp=>Fd.ZB v (mL s) 0 (by unfold mL;rw[sT];omega) (sU s) (UH (sU s) (by unfold mL;rw[sT];omega)) hcp [] 2 (QM (fun e=>by rw[htb.2.2 e]at h;cases h)) (by rw[h];rfl) W hW hv)
 have HL:=Lib.hid hL
 have hLN:=hL.1
 clear h hL htb
 go_enter Tryz.func19,Tryz.ntmps19
 go_wp2_with fail
 refine(HTK.out _).mono ?_
 rintro e w1 ⟨v1,rfl,hown,hb1⟩
 have HR1:=Lib.hid (show fE 0 w1 w1.heap.size v1 (mL s) from Ba.Reads.kC wW rfl hown)
 have HC1:=Lib.hid (rJ hown)
 have HB1:=Lib.hid hb1
 have HL1:=Lib.hid (HL.out.below hb1 hLN)
 clear hown hb1
 go_wp2_with fail
 refine(HTR.out _ _ HL1.out HR1.out HC1.out).mono ?_
 rintro e w2 ⟨v2,rfl,hr2,hb2,-⟩
 have HB2:=Lib.hid (Ba.chain HB1.out HB1.out.size hb2)
 obtain⟨A2,c2,rfl,-⟩:=hr2
 clear hb2
 go_wp2
 go_ret
 exact⟨rfl,HB2.out⟩
def isD (s want:ByteArray):Bool :=
 decide (s.size≤9000) && (decide (want.size≤9000) && (decide ((bH s).2.2=0) && (decide (gA (gG (bH s).1)≤9000) && (lX (rN (gG (bH s).1)) (mL want) && decide ((rN (gG (bH s).1)).length=want.size / 2)))))
set_option maxHeartbeats 4000000 in
theorem UI (Ld:lJ) (Fd:mJ) (s want:ByteArray) (h:isD s want=true) (w:World) (hL:Ka.Laid w) :
  Calls Tryz.prog 18 #[.string s,.string want] w fun e w'=>e=.returned (.bool true)∧Below w.heap.size w w':=by
 unfold isD at h
 simp only[Bool.and_eq_true,decide_eq_true_eq]at h
 obtain⟨h1,h2,h3,h4,h5,h6⟩:=h
 have hsm:s.size≤maxLen:=Nat.le_trans h1 (by decide)
 have tc:=IG h3
 have tl:=(QL h3).2
 have tf:=QN s hsm
 have t9:∀ x ∈ (bH s).1,x.text.size≤9000:=fun x hx=>Nat.le_trans (tf.2 x hx) h1
 have nl:=AW tc
 have nf:=IU (by omega) tf.1 t9 tc
 have ni:=Y7 tc
 have nx:∀ x ∈ gG (bH s).1,x.text.size≤9000:=fun x hx=>Nat.le_trans (II hx) h4
 have nt:=vG (tX tc) nf
 have s3:(bH s).2=(0,0):=by rw[sR (sQ h3)]
 obtain⟨t,ht⟩:∃ t,(bH s).1=t:=⟨_,rfl⟩
 rw[ht]at tc tl tf t9 nl nf ni nx nt h4 h5 h6
 obtain⟨n,hn⟩:∃ n,gG t=n:=⟨_,rfl⟩
 rw[hn]at nl nf ni nx nt h4 h5 h6
 obtain⟨l,hl⟩:∃ l,rN n=l:=⟨_,rfl⟩
 rw[hl]at nt h5 h6
 have HPA:=Lib.hid (fun W hW=>Ld.at s hsm t 0 0 ht (by rw[s3];rfl) (by rw[s3];rfl) W hW)
 have HNO:=Lib.hid (fun v W hW hv=>ON Ld v t 0 (by omega) tf.1 t9 0 (by rw[tc];rfl) W hW hv)
 have HON:=Lib.hid (show GY t=n by unfold GY;rw[if_pos tc,hn])
 have HFO:=Lib.hid (fun v W hW hv hcp=>Fd.aBX v n 0 (by omega) nf nx (by omega) hcp l 0 (by unfold LF;rw[if_pos (FK ni),hl]) (by rw[FK ni];rfl) W hW hv)
 have HTK:=Lib.hid (fun W=>IP want h2 W)
 have HSM:=Lib.hid (fun(u v:Value) W hu hv=>Fd.ZC u v l (mL want) 0 0 (by omega) (by unfold mL;rw[sT];omega) nt.1 (sU want) true h5 W hu hv)
 have HL:=Lib.hid hL
 have hLN:=hL.1
 have HLEN:=Lib.hid h6
 clear ht hn hl tc tl tf t9 nl nf ni nx nt h1 h3 h4 h5 h6 s3 hL
 go_enter Tryz.func18,Tryz.ntmps18
 go_wp2_with fail
 refine(HPA.out _ HL.out).mono ?_
 rintro e w1 ⟨v1,rfl,hr1,hb1⟩
 have HR1:=Lib.hid hr1
 have HB1:=Lib.hid hb1
 have HL1:=Lib.hid (HL.out.below hb1 hLN)
 clear hr1 hb1
 go_wp2_with fail
 refine(HNO.out _ _ HL1.out HR1.out).mono ?_
 rw[HON.out]
 rintro e w2 ⟨v2,rfl,hown,hb2⟩
 have HR2:=Lib.hid (Ba.Reads.kC dX rfl hown)
 have HC2:=Lib.hid (rJ hown)
 have HB2:=Lib.hid (Ba.chain HB1.out HB1.out.size hb2)
 have HL2:=Lib.hid (HL.out.below HB2.out hLN)
 clear hown hb2
 go_wp2_with fail
 refine(HFO.out _ _ HL2.out HR2.out HC2.out).mono ?_
 rintro e w3 ⟨v3,rfl,hr3,hb3,-⟩
 obtain⟨A3,c3,rfl,hA3⟩:=hr3
 have HR3:=Lib.hid (show fE 0 w3 w3.heap.size (.slice A3 l.length c3) l from ⟨A3,c3,rfl,hA3⟩)
 have HB3:=Lib.hid (Ba.chain HB2.out HB2.out.size hb3)
 rw[HLEN.out]at HR3 ⊢
 clear hb3 hA3
 go_wp2_with fail
 refine(HTK.out _).mono ?_
 rintro e w4 ⟨v4,rfl,hown,hb4⟩
 have HR4:=Lib.hid (show fE 0 w4 w4.heap.size v4 (mL want) from Ba.Reads.kC wW rfl hown)
 have HT4:=Lib.hid ((HR3.out.below hb4).mono hb4.size)
 have HB4:=Lib.hid (Ba.chain HB3.out HB3.out.size hb4)
 clear hown hb4
 go_wp2_with fail
 refine(HSM.out _ _ _ HT4.out HR4.out).mono ?_
 rintro e w5 ⟨rfl,hb5⟩
 have HB5:=Lib.hid (Ba.chain HB4.out HB4.out.size hb5)
 clear hb5
 go_wp2
 go_ret
 exact⟨rfl,HB5.out⟩
set_option maxRecDepth 100000 in
set_option maxHeartbeats 4000000 in
theorem UJ (Ld:lJ) (Fd:mJ) (w:World) (hL:Ka.Laid w):Calls Tryz.prog 7 #[] w fun e w'=>e=.returned (.bool true)∧Below w.heap.size w w':=by
 have hL0:=hL
 go_enter Tryz.func7,Tryz.ntmps7
 go_wp2_with fail
 refine(UI Ld Fd { data:=#[123,112,32,97,123,101,32,98,125,125] } { data:=#[40,112,46,97,40,101,46,98,41,101,41,112] } (by decide +kernel) _ hL0).mono ?_
 rintro e w1 ⟨rfl,hb1⟩
 have hL1:=hL.below hb1 hL.1
 go_wp2_with fail
 refine(UI Ld Fd { data:=#[123,107,125] } { data:=#[40,107,41,107] } (by decide +kernel) _ hL1).mono ?_
 rintro e w2 ⟨rfl,hb2⟩
 have HB2:=Ba.chain hb1 hb1.size hb2
 have hL2:=hL.below HB2 hL.1
 clear hb1 hb2 hL1
 go_wp2_with fail
 refine(IS Fd { data:=#[40,112,46,32,41,112] } (by decide) (by decide +kernel) _ hL2).mono ?_
 rintro e w3 ⟨rfl,hb3⟩
 have HB3:=Ba.chain HB2 HB2.size hb3
 have hL3:=hL.below HB3 hL.1
 clear hb3 HB2 hL2
 go_wp2_with fail
 refine(IS Fd { data:=#[40,112,41,101] } (by decide) (by decide +kernel) _ hL3).mono ?_
 rintro e w4 ⟨rfl,hb4⟩
 have HB4:=Ba.chain HB3 HB3.size hb4
 clear hb4 HB3 hL3
 go_wp2
 go_ret
 exact⟨rfl,HB4⟩
end Go.Proofs.YtgpihfacmpbpaaaGreatDoor.Fl
namespace Go.Proofs.YtgpihfacmpbpaaaGreatDoor.Fl
open Go.RowKit Tr Nu Nl Cn
theorem texts_bare {t u:List Nd} {B:Nat} (h:u.map bare=t.map bare) (ht:∀ x ∈ t,x.text.size≤B):∀ x ∈ u,x.text.size≤B:=fun x hx=>by
 have hm:bare x ∈ u.map bare:=List.mem_map.2 ⟨x,hx,rfl⟩
 rw[h]at hm
 obtain⟨y,hy,e⟩:=List.mem_map.1 hm
 have e2:y.text=x.text:=(show (bare y).text=(bare x).text by rw[e])
 rw[← e2]
 exact ht y hy
set_option maxRecDepth 100000 in
set_option maxHeartbeats 8000000 in
theorem flat_back_row (Ld:lJ) (Fd:mJ) (t:List Nd) (l:List Tk) (A A':Option Addr) (off off' c c':Nat) (w:World) (hL:Ka.Laid w) (hcl:t.length≤c) (hcm:c≤maxLen) (hcl':l.length≤c') (hcm':c'≤maxLen) (ft:Fit t) (fl:kQ l)
  (ht:aS off w w.heap.size (.slice A t.length c) t) (hl:fE off' w w.heap.size (.slice A' l.length c') l) :
  Calls Tryz.prog 4 #[.slice A t.length c,.slice A' l.length c'] w fun e w'=>e=.returned (.bool true)∧Below w.heap.size w w':=by
 have HT:=Lib.hid ht
 have HU:=Lib.hid hl
 have HL:=Lib.hid hL
 have hLN:=hL.1
 have htm:t.length≤maxLen:=Nat.le_trans hcl hcm
 have hlm:l.length≤maxLen:=Nat.le_trans hcl' hcm'
 have HFT:=Lib.hid ft
 have HFL:=Lib.hid fl
 have HCT:=Lib.hid (OL (A:=A) hcl hcm)
 have HCL:=Lib.hid (OL (A:=A') hcl' hcm')
 clear ht hl hL ft fl hcl hcm hcl' hcm'
 go_enter Tryz.func4,Tryz.ntmps4
 by_cases z1:rP t=true
 ·have Z1:=Lib.hid z1
  clear z1
  go_wp2_with fail
  refine(IQ _ off t htm _ _ HT.out true Z1.out).mono ?_
  rintro e w' ⟨rfl,rfl⟩
  go_wp2_with fail
  refine(UJ Ld Fd _ HL.out).mono ?_
  rintro e w' ⟨rfl,hb⟩
  go_wp2
  go_ret
  exact⟨rfl,hb⟩
 have z1:rP t=false:=by simpa using z1
 have Z1:=Lib.hid z1
 obtain⟨t1,t2⟩:=UM z1
 clear z1
 by_cases hbig:300<l.length
 ·clear t1 t2
  go_wp2_with fail
  refine(IQ _ off t htm _ _ HT.out false Z1.out).mono ?_
  rintro e w' ⟨rfl,rfl⟩
  go_wp2_with fail
  refine(UJ Ld Fd _ HL.out).mono ?_
  rintro e w' ⟨rfl,hb⟩
  go_wp2
  go_ret
  exact⟨rfl,hb⟩
 have HT9:=Lib.hid (show ∀ x ∈ t,x.text.size≤9000 from fun x hx=>by have:=t2 x hx;omega)
 have HTS:=Lib.hid (show gA t≤100000 from Nat.le_trans (FN t2) (Nat.le_trans (Nat.mul_le_mul_right _ t1) (by decide)))
 have HTL:=Lib.hid (show t.length≤9000 by omega)
 have HLL:=Lib.hid (show l.length≤300 by omega)
 -- the tree of the row
 have HTF:=Lib.hid (aFM HFL.out (by omega))
 have HRB:=Lib.hid (aF5 (fun x hx=>(HFL.out x hx).2.1))
 have HTB:=Lib.hid (QM (l:=l))
 have HBI:=Lib.hid (IT (l:=l) (fun x hx=>(HFL.out x hx).2.1)).2
 have HSP:=Lib.hid (UH HFL.out (by omega))
 obtain⟨q,hq⟩:∃ q,(vF l).1=q:=⟨_,rfl⟩
 obtain⟨x,hx⟩:∃ x:Int,(((mK l).2:Nat):Int)=x:=⟨_,rfl⟩
 have HQ:=Lib.hid hq
 have HX:=Lib.hid hx
 obtain⟨y,hy⟩:∃ y:Int,((DM t:Nat):Int)=y:=⟨_,rfl⟩
 have HY:=Lib.hid hy
 obtain⟨m,hm⟩:∃ m,LF t=m:=⟨_,rfl⟩
 have HM:=Lib.hid hm
 have HTLN:=Lib.hid (show l.length≤200000 by omega)
 clear hq hx hy hm t1 t2
 go_wp2_with fail
 refine(IQ _ off t htm _ _ HT.out false Z1.out).mono ?_
 rintro e w' ⟨rfl,rfl⟩
 go_wp2_with fail
 refine(Fd.aBX _ t off HTL.out HFT.out HT9.out HTS.out HCT.out m y HM.out HY.out _ HL.out HT.out).mono ?_
 rintro e w3 ⟨v3,rfl,hr3,hb3,hc3⟩
 have HC3:=Lib.hid hc3
 have HR3:=Lib.hid hr3
 have HB3:=Lib.hid hb3
 have HT3:=Lib.hid ((HT.out.below hb3).mono hb3.size)
 have HU3:=Lib.hid ((HU.out.below hb3).mono hb3.size)
 have HL3:=Lib.hid (HL.out.below hb3 hLN)
 clear hr3 hb3 hc3
 by_cases hy0:y=0
 -- a normalised tree: its tokens' tree is it
 subst hy0
 have ho:DM t=0:=by have:=HY.out;omega
 have hi:=aB8 ho
 have hmt:m=rN t:=by rw[← HM.out];unfold LF;rw[if_pos ho]
 have hmf:=vG (rI hi) HFT.out
 have htb:=aFY hi
 have hts:=HTS.out
 have htl:=HTL.out
 rw[← hmt]at hmf htb
 have hqf:=aFM hmf.1 (by omega)
 obtain⟨u,hu⟩:∃ u,(vF m).1=u:=⟨_,rfl⟩
 rw[hu]at htb hqf
 have hul:u.length=t.length:=by have:=congrArg List.length htb.2;simpa using this
 have hsp:FL m:=fun E hE=>by
  obtain⟨t',p1,p2,-⟩:=aEX htb.1
  unfold mI at p1
  rw[hE]at p1
  have p1:aP E=t':=Option.some.inj p1
  rw[p2]at hu
  have hu:t'=u:=hu
  rw[p1,hu]
  exact⟨by omega,texts_bare htb.2 HT9.out⟩
 have hbi:=(IT (l:=m) (fun x hx=>(hmf.1 x hx).2.1)).2.2 htb.1
 have HTM:=Lib.hid (fun v W hW hv hcp=>Fd.ZB v m 0 (by omega) hmf.1 hsp hcp u 0 hu (by rw[hbi];rfl) W hW hv)
 have HSU:=Lib.hid (fun(a b:Value) W h1 h2=>Ld.same t u off 0 a b htl (by omega) HFT.out hqf.1 W h1 h2)
 have HEQ:=Lib.hid (wV t u htb.2.symm)
 have HIS:=Lib.hid (fun v W hW hv=>OY Ld v t off htl HFT.out HT9.out true hi W hW hv)
 clear ho hi hmt hmf htb hts htl hqf hu hul hsp hbi
 go_wp2_with fail
 refine(HTM.out _ _ HL3.out HR3.out HC3.out).mono ?_
 rintro e w4 ⟨v4,rfl,hr4,hb4,-⟩
 have HR4:=Lib.hid hr4
 have HB4:=Lib.hid (Ba.chain HB3.out HB3.out.size hb4)
 have HT4:=Lib.hid ((HT3.out.below hb4).mono hb4.size)
 have HU4:=Lib.hid ((HU3.out.below hb4).mono hb4.size)
 have HL4:=Lib.hid (HL.out.below HB4.out hLN)
 clear hr4 hb4
 go_wp2_with fail
 refine(HSU.out _ _ _ HT4.out HR4.out).mono ?_
 rw[HEQ.out]
 rintro e w5 ⟨rfl,hb5⟩
 have HB5:=Lib.hid (Ba.chain HB4.out HB4.out.size hb5)
 have HT5:=Lib.hid ((HT4.out.below hb5).mono hb5.size)
 have HU5:=Lib.hid ((HU4.out.below hb5).mono hb5.size)
 have HL5:=Lib.hid (HL.out.below HB5.out hLN)
 clear hb5
 go_wp2_with fail
 refine(HIS.out _ _ HL5.out HT5.out).mono ?_
 rintro e w6 ⟨rfl,hb6⟩
 have HB6:=Lib.hid (Ba.chain HB5.out HB5.out.size hb6)
 have HU6:=Lib.hid ((HU5.out.below hb6).mono hb6.size)
 have HL6:=Lib.hid (HL.out.below HB6.out hLN)
 clear hb6 HTM HSU HEQ HIS HT4 HU4 HL4 HT5 HU5 HL5 HB5 HB4 HR4
 go_wp2_with fail
 rotate_left
 -- none: straight on
 have hyf:(y==0)=false:=by simp[hy0]
 clear hy0
 have HB6:=HB3
 have HU6:=HU3
 have HL6:=HL3
 obtain⟨w6,hw6⟩:∃ w6,w3=w6:=⟨_,rfl⟩
 rw[hw6]at HB6 HU6 HL6 ⊢
 clear hw6 HR3 HB3 HT3 HU3 HL3
 go_wp2_with fail
 all_goals
  refine(Fd.ZB _ l off' HTLN.out HFL.out HSP.out HCL.out q x HQ.out HX.out _ HL6.out HU6.out).mono ?_
  rintro e w7 ⟨vz7,rfl,hr7,hb7,hc7⟩
  obtain⟨A7,c7,rfl,hA7⟩:=hr7
  have HR7:=Lib.hid (show aS 0 w7 w7.heap.size (.slice A7 q.length c7) q from ⟨A7,c7,rfl,hA7⟩)
  have HB7:=Lib.hid (Ba.chain HB6.out HB6.out.size hb7)
  have HU7:=Lib.hid ((HU6.out.below hb7).mono hb7.size)
  have HL7:=Lib.hid (HL.out.below HB7.out hLN)
  have HC7:=Lib.hid hc7
  clear hb7 hA7 hc7
  by_cases hx0:x=0
  ·subst hx0
   have h0:(vF l).2=0:=HBI.out.1 (by have:=HX.out;omega)
   obtain⟨r1,r2⟩:=HRB.out h0
   have htf:=HTF.out
   have hll:=HLL.out
   rw[HQ.out]at r1 r2 htf
   have qx:∀ z ∈ q,z.text.size≤9000:=fun z hz=>by have:=htf.2.2 z hz;omega
   have qs:gA q≤100000:=by
    refine Nat.le_trans (FN (B:=300) (fun z hz=>by have:=htf.2.2 z hz;omega)) ?_
    have:q.length≤300:=by omega
    exact Nat.le_trans (Nat.mul_le_mul_right _ this) (by decide)
   have hk:=vG (rI r1) htf.1
   have HOF:=Lib.hid (fun v W hW hv hcp=>Fd.aBX v q 0 (by omega) htf.1 qx qs hcp (rN q) 0 (by unfold LF;rw[if_pos (FK r1)]) (by rw[FK r1];rfl) W hW hv)
   have HSM:=Lib.hid (fun(a b:Value) W h1 h2=>Fd.ZC a b (rN q) l 0 off' (by omega) HTLN.out hk.1 HFL.out true r2 W h1 h2)
   clear h0 r1 r2 htf hll qx qs hk
   go_wp2_with fail
   refine(HOF.out _ _ HL7.out HR7.out HC7.out).mono ?_
   rintro e w8 ⟨vz8,rfl,hr8,hb8,-⟩
   have HR8:=Lib.hid hr8
   have HU8:=Lib.hid ((HU7.out.below hb8).mono hb8.size)
   have HB8:=Lib.hid (Ba.chain HB7.out HB7.out.size hb8)
   clear hr8 hb8
   go_wp2_with fail
   refine(HSM.out _ _ _ HR8.out HU8.out).mono ?_
   rintro e w9 ⟨rfl,hb9⟩
   have HB9:=Lib.hid (Ba.chain HB8.out HB8.out.size hb9)
   have HL9:=Lib.hid (HL.out.below HB9.out hLN)
   clear hb9
   go_wp2_with fail
   refine(UJ Ld Fd _ HL9.out).mono ?_
   rintro e wa ⟨rfl,hba⟩
   have HBA:=Lib.hid (Ba.chain HB9.out HB9.out.size hba)
   clear hba
   go_wp2
   go_ret
   exact⟨rfl,HBA.out⟩
  ·have hq0:q=[]:=by
    rw[← HQ.out]
    exact HTB.out (fun e=>hx0 (by have h9:=HBI.out.2 e;have:=HX.out;omega))
   subst hq0
   have hxt:(x != 0)=true:=by simp[hx0]
   clear hx0
   go_wp2_with fail
   refine(UJ Ld Fd _ HL7.out).mono ?_
   rintro e wa ⟨rfl,hba⟩
   have HBA:=Lib.hid (Ba.chain HB7.out HB7.out.size hba)
   clear hba
   go_wp2
   go_ret
   exact⟨rfl,HBA.out⟩
end Go.Proofs.YtgpihfacmpbpaaaGreatDoor.Fl
namespace Go.Proofs.YtgpihfacmpbpaaaGreatDoor.Fl
open Go.RowKit Tr Nu Nl Cn
def bytesW (S:List Nat):List Value:=S.map fun b=>Value.int .u8 ((b:Nat):Int)
theorem bytesW_len (S:List Nat):(bytesW S).length=S.length:=by unfold bytesW;simp
theorem bytesW_snoc (S:List Nat) (c:Nat):bytesW (S++[c])=bytesW S++[.int .u8 (c:Int)]:=by unfold bytesW;simp
theorem infoB:(Tryz.prog.info? 5).map (fun i=>(i.zero,i.size,i.bytes))=some (some (.int .u8 0),1,1):=by kernel_rfl
theorem tcells {l:List Tk} {off g:Nat} {w:World} (hcell:∀ k x,l[k]?=some x→∀ j u,(cT x)[j]?=some u→w.cell? ⟨g,off+(k * 3+j),none⟩=some u) (k:Nat) (x:Tk) (hx:l[k]?=some x) :
  w.cell? ⟨g,off+k * 3,none⟩=some (.int .i64 x.kind)∧w.cell? ⟨g,off+k * 3+1,none⟩=some (.int .u8 (x.ch:Int))∧w.cell? ⟨g,off+k * 3+2,none⟩=some (.int .i64 x.place) :=
 ⟨hcell k x hx 0 _ rfl,hcell k x hx 1 _ rfl,hcell k x hx 2 _ rfl⟩
def PrR (l:List Tk) (w3:World) (u10 u11 u12:Value) (wr:World):Prop:=∃ (k m:Nat) (S:List Nat),u12=.int .i64 (k:Int)∧k≤l.length∧runK [] (l.take k)=some S∧S.length=m∧m≤k∧u11=.int .i64 ((aC5 (l.take k):Nat):Int)∧aC5 (l.take k)≤k∧wr.ownsRow w3.heap.size 5 1 u10 m (bytesW S)∧Below w3.heap.size w3 wr
theorem runK_next {l:List Tk} (h:runK [] l=some []) {k:Nat} {x:Tk} (hx:l[k]?=some x) {S:List Nat} (hS:runK [] (l.take k)=some S) :
  l.take (k+1)=l.take k++[x]∧((x.kind=2∧runK [] (l.take (k+1))=some (S++[x.ch])∧aC5 (l.take (k+1))=aC5 (l.take k))∨(x.kind=3∧(∃ S',S=S'++[x.ch]∧runK [] (l.take (k+1))=some S')∧aC5 (l.take (k+1))=aC5 (l.take k)) ∨
   (x.kind≠2∧x.kind≠3∧runK [] (l.take (k+1))=some S∧aC5 (l.take (k+1))=aC5 (l.take k)+1)):=by
 have e:l.take (k+1)=l.take k++[x]:=by rw[List.take_add_one,hx];rfl
 refine⟨e,?_⟩
 rw[e,aBN,hS,aDZ]
 have hlast:∀ z,aC5 [x]=z→aC5 (l.take k)+aC5 [x]=aC5 (l.take k)+z:=fun z hz=>by rw[hz]
 show (_∧runK S [x]=_∧_)∨(_∧(∃ S',_∧runK S [x]=_)∧_)∨(_∧_∧runK S [x]=_∧_)
 by_cases h2:x.kind=2
 ·left
  refine⟨h2,by rw[aDL,if_pos h2];rfl,?_⟩
  exact hlast 0 (by unfold aC5;simp[h2])
 ·by_cases h3:x.kind=3
  ·right;left
   have hall:=h
   rw[← List.take_append_drop (k+1) l,aBN,e,aBN,hS]at hall
   have hone:∃ T,runK S [x]=some T:=by
    cases hT:runK S [x] with
    | none =>
     have:(Option.bind (some S) fun S'=>runK S' [x])=none:=hT
     rw[this]at hall;cases hall
    | some T=>exact⟨T,rfl⟩
   obtain⟨T,hT⟩:=hone
   have hT2:=hT
   rw[aDL,if_neg h2,if_pos h3]at hT2
   rcases List.eq_nil_or_concat S with rfl | ⟨S',c,rfl⟩
   ·cases hT2
   ·rw[List.concat_eq_append]at hT hT2 ⊢
    rw[List.getLast?_concat]at hT2
    simp only[]at hT2
    by_cases hc:c=x.ch
    ·rw[if_pos hc,List.dropLast_concat]at hT2
     have hT2:some S'=some T:=hT2
     refine⟨h3,⟨S',by rw[hc],?_⟩,hlast 0 (by unfold aC5;simp[h3])⟩
     rw[hT,← hT2]
    ·rw[if_neg hc]at hT2;cases hT2
  ·right;right
   refine⟨h2,h3,by rw[aDL,if_neg h2,if_neg h3];rfl,?_⟩
   exact hlast 1 (by unfold aC5;simp[h2,h3])
theorem sumT_take:∀ (t:List Nd) (k:Nat) (x:Nd),t[k]?=some x→gA (t.take (k+1))=gA (t.take k)+x.text.size∧gA (t.take (k+1))≤gA t
 | [],k,x,h=>by simp at h
 | y::t,0,x,h=>by
  have h:y=x:=by simpa using h
  subst h
  show y.text.size+0=0+y.text.size∧y.text.size+0≤y.text.size+gA t
  omega
 | y::t,k+1,x,h=>by
  have ih:=sumT_take t k x (by simpa using h)
  show y.text.size+gA (t.take (k+1))=y.text.size+gA (t.take k)+x.text.size∧y.text.size+gA (t.take (k+1))≤y.text.size+gA t
  omega
structure Prd (s:ByteArray) (l:List Tk) (n:List Nd):Prop where
 run:runK [] l=some []
 vH:∀ (i:Nat) (x y:Tk),l[i]?=some x→l[i+1]?=some y→x.place≤y.place
 low:∀ x ∈ l,0≤x.place∧x.place<(s.size:Int)
 cnt:aC5 l=gA n
theorem parse_err {s:ByteArray} (h:(bH s).2.2≠0):(bH s).1=[]:=by
 unfold bH at h ⊢
 by_cases h1:Lx.nD s≠0
 ·rw[if_pos h1]
 ·rw[if_neg h1]at h ⊢
  cases he:gQ ([],[root]) (Lx.gV s) with
  | some z=>rfl
  | none =>
   rw[he]at h
   simp only[]at h ⊢
   by_cases h2:1<(aV (Lx.gV s)).2.length
   ·rw[if_pos h2]
   ·rw[if_neg h2]at h;exact absurd rfl h
theorem prd_of {s:ByteArray} (hs:s.size≤9000) (h:(bH s).2.2=0):Prd s (rN (gG (bH s).1)) (gG (bH s).1):=by
 obtain⟨h1,h2,h3,-⟩:=aFD hs h
 refine⟨h1,fun i x y hx hy=>?_,h3,aFR hs h⟩
 rw[List.pairwise_iff_getElem]at h2
 obtain⟨a,hx2⟩:=List.getElem?_eq_some_iff.1 hx
 obtain⟨b,hy2⟩:=List.getElem?_eq_some_iff.1 hy
 have:=h2 i (i+1) a b (by omega)
 rw[hx2,hy2]at this
 exact this
theorem par_nil:DM []=0∧LF []=[]∧GY []=[]∧aL []=0:=by
 have h1:aL []=0:=by decide +kernel
 have h2:gG []=[]:=by
  have:=AW h1
  exact List.eq_nil_of_length_eq_zero (by simpa using this)
 have h3:zP []=true:=by unfold zP;rw[h1,h2];rfl
 have h4:DM []=0:=FK h3
 refine⟨h4,?_,?_,h1⟩
 ·unfold LF;rw[if_pos h4];rfl
 ·unfold GY;rw[if_pos h1,h2]
set_option maxRecDepth 100000 in
set_option maxHeartbeats 16000000 in
theorem paired_row (Ld:lJ) (Fd:mJ) (s:ByteArray) (hs:s.size≤maxLen) (w:World) (hL:Ka.Laid w) :
  Calls Tryz.prog 5 #[.string s] w fun e w'=>e=.returned (.bool true)∧Below w.heap.size w w':=by
 have HL:=Lib.hid hL
 have hLN:=hL.1
 have HS:=Lib.hid hs
 clear hL
 go_enter Tryz.func5,Tryz.ntmps5
 by_cases hlong:2000<s.size
 ·clear hs
  go_wp2_with fail
  refine(UJ Ld Fd _ HL.out).mono ?_
  rintro e w' ⟨rfl,hb⟩
  go_wp2
  go_ret
  exact⟨rfl,hb⟩
 clear hs
 by_cases he:(bH s).2.2=0
 ·have tc:=IG he
  have tl:=(QL he).2
  have tf:=QN s HS.out
  have t9:∀ x ∈ (bH s).1,x.text.size≤9000:=fun x hx=>by have:=tf.2 x hx;omega
  have nl:=AW tc
  have nf:=IU (by omega) tf.1 t9 tc
  have ni:=Y7 tc
  have nx:∀ x ∈ gG (bH s).1,x.text.size≤2000:=fun x hx=>by
   have:=aFI tc x hx
   have:=(QL he).1
   omega
  have prd:=prd_of (by omega) he
  have s3:(bH s).2=(0,0):=by rw[sR (sQ he)]
  have nt:=vG (tX tc) nf
  obtain⟨t,ht⟩:∃ t,(bH s).1=t:=⟨_,rfl⟩
  rw[ht]at tc tl tf t9 nl nf ni nx prd nt
  obtain⟨n,hn⟩:∃ n,gG t=n:=⟨_,rfl⟩
  rw[hn]at nl nf ni nx prd nt
  have nsum:gA n≤100000:=by
   have h1:=aD0
   have h2:=aFI tc
   have h3:=(QL he).1
   rw[ht]at h3
   rw[hn]at h2
   rw[← hn]
   obtain⟨L,hW,-⟩:=gT tc
   rw[iJ hW]
   have h4:=aFT hW (asNew t) (aU t) 0 fun j y hj=>by rw[Nat.zero_add];exact LJ (LI hW) hj
   have h5:=(vQ (iV (asNew t) (aU t) 0 L) []).1
   have h6:=aD0 (bM (iV (asNew t) (aU t) 0 L)) [] []
   have h7:gA (aP (bM (iV (asNew t) (aU t) 0 L)))=dO (bM (iV (asNew t) (aU t) 0 L)):=by
    unfold aP bJ
    rw[h6]
    show 0+_=_
    omega
   rw[h7]
   have h8:dO (bM (iV (asNew t) (aU t) 0 L))=0+dO (iV (asNew t) (aU t) 0 L):=h5
   omega
  obtain⟨l,hl⟩:∃ l,rN n=l:=⟨_,rfl⟩
  rw[hl]at prd nt
  have HPA:=Lib.hid (fun W hW=>Ld.at s HS.out t 0 0 ht (by rw[s3];rfl) (by rw[s3];rfl) W hW)
  have HNO:=Lib.hid (fun v W hW hv=>ON Ld v t 0 (by omega) tf.1 t9 0 (by rw[tc];rfl) W hW hv)
  have HON:=Lib.hid (show GY t=n by unfold GY;rw[if_pos tc,hn])
  have HFO:=Lib.hid (fun v W hW hv hcp=>Fd.aBX v n 0 (by omega) nf (fun x hx=>Nat.le_trans (nx x hx) (by decide)) nsum hcp l 0 (by unfold LF;rw[if_pos (FK ni),hl]) (by rw[FK ni];rfl) W hW hv)
  have HPR:=Lib.hid prd
  have HFT:=Lib.hid nt.1
  have hll:l.length≤200000:=by omega
  have hnl:n.length≤9000:=by omega
  have HNX:=Lib.hid nx
  have HCNT:=Lib.hid (show gA n≤100000 from nsum)
  obtain⟨i0,hi0,hz0,hz1,hz2⟩:=info_parts infoB
  clear ht hn hl tc tl tf t9 nl nf ni nx nt nsum s3 he prd
  go_wp2_with fail
  refine(HPA.out _ HL.out).mono ?_
  rintro e w1 ⟨v1,rfl,hr1,hb1⟩
  have HR1:=Lib.hid hr1
  have HB1:=Lib.hid hb1
  have HL1:=Lib.hid (HL.out.below hb1 hLN)
  clear hr1 hb1
  go_wp2_with fail
  refine(HNO.out _ _ HL1.out HR1.out).mono ?_
  rw[HON.out]
  rintro e w2 ⟨v2,rfl,hown,hb2⟩
  have HR2:=Lib.hid (Ba.Reads.kC dX rfl hown)
  have HC2:=Lib.hid (rJ hown)
  have HB2:=Lib.hid (Ba.chain HB1.out HB1.out.size hb2)
  have HL2:=Lib.hid (HL.out.below HB2.out hLN)
  clear hown hb2
  go_wp2_with fail
  refine(HFO.out _ _ HL2.out HR2.out HC2.out).mono ?_
  rintro e w3 ⟨v3,rfl,hr3,hb3,-⟩
  have hn3:=(HR2.out.below hb3).mono hb3.size
  obtain⟨A3,c3,rfl,hA3⟩:=hr3
  obtain⟨A2,c2,rfl,hA2⟩:=hn3
  have HA3:=Lib.hid hA3
  have HA2:=Lib.hid hA2
  have HB3:=Lib.hid (Ba.chain HB2.out HB2.out.size hb3)
  clear hb3 hA3 hA2
  go_wp2
  go_loopw [10,11,12] (fun u10 u11 u12 wr=>PrR l w3 u10 u11 u12 wr) (fun _ _ u12 _=>l.length - (intOf u12).toNat)
  case atStart=>exact⟨0,0,[],rfl,Nat.zero_le _,rfl,rfl,Nat.le_refl _,rfl,Nat.le_refl _,World.ownsRow_nil _ _ _ _,Below.refl _ _⟩
  case round =>
   obtain⟨k,m,S,rfl,hk,hrun,hSm,hmk,rfl,hck,own,hB⟩:=hrel
   have hBs:=hB.size
   have HB:=Lib.hid hB
   have HRUN:=Lib.hid hrun
   obtain⟨q,hq⟩:∃ q,aC5 (l.take k)=q:=⟨_,rfl⟩
   have HQ:=Lib.hid hq
   rw[hq]at hck ⊢
   have HOW:=Lib.hid own
   have HSM:=Lib.hid hSm
   have k0:(0:Int)≤(k:Int):=by omega
   clear hrun hq own hSm hB
   by_cases hlt:k<l.length
   ·obtain⟨g,rfl,hg,hcell⟩:=HA3.out (by omega)
    obtain⟨⟨xk,xc,xp⟩,hx⟩:=fV (l:=l) (i:=k) hlt
    obtain⟨d0,d1,d2⟩:=tcells hcell k _ hx
    have upr:=fun i=>World.cell?_of_block (w:=w3) (a:=⟨g,i,none⟩) (HB.out.block g hg)
    rw[← upr]at d0 d1 d2
    obtain⟨etake,hnext⟩:=runK_next HPR.out.run hx HRUN.out
    obtain⟨p0,p1⟩:=HPR.out.low _ (List.mem_of_getElem? hx)
    obtain⟨-,hc256,-⟩:=HFT.out _ (List.mem_of_getElem? hx)
    simp only[Nat.zero_add]at d0 d1 d2 p0 p1 hc256 hnext
    rw[HQ.out]at hnext
    have HX:=Lib.hid hx
    have HNEXT:=Lib.hid hnext
    have k1:(k:Int)<(l.length:Int):=by omega
    have g1:decide ((s.size:Int)≤xp)=false:=decide_eq_false (by omega)
    have g2:decide (xp<0)=false:=decide_eq_false (by omega)
    clear hx hnext etake
    have HWB:=Lib.hid (fun nq=>Lx.below_drewN HB.out nq)
    have HOB:=Lib.hid (fun nq=>Lx.cV HOW.out (Lx.below_drewN (Below.refl wr.heap.size wr) nq))
    by_cases hk0:k=0
    case' pos =>
     have g3:decide ((0:Int)<(k:Int))=false:=decide_eq_false (by omega)
     have g4:¬ 0<k:=by omega
     clear hcell upr hk0
     go_wp2
     go_big_quiet (fail)
    case' neg =>
     obtain⟨⟨yk,yc,yp⟩,hy⟩:=fV (l:=l) (i:=k - 1) (by omega)
     obtain⟨-,-,d5⟩:=tcells hcell (k - 1) _ hy
     rw[← upr]at d5
     have hrise:=HPR.out.vH (k - 1) _ ⟨xk,xc,xp⟩ hy (by rw[show k - 1+1=k by omega];exact HX.out)
     simp only[Nat.zero_add]at d5 hrise
     have g3:decide ((0:Int)<(k:Int))=true:=decide_eq_true (by omega)
     have g4:0<k:=by omega
     have g5:decide (xp<yp)=false:=decide_eq_false (by omega)
     have w1':IntKind.i64.wrap ((k:Int) - 1)=(k:Int) - 1:=IntWalk.i64_in _ (by omega)
     have w2':(0:Int)≤(k:Int) - 1:=by omega
     have w3':(1:Int)≤(k:Int):=by omega
     have w4':((k:Int) - 1).toNat=k - 1:=by omega
     have w5':(k:Int) - 1<(l.length:Int):=by omega
     clear hcell upr hk0 hy hrise
     go_wp2
     go_big_quiet (fail)
    all_goals
     have HW5:=Lib.hid (HWB.out nq)
     have HO5:=Lib.hid (HOB.out nq)
     have hs5:wr.heap.size≤(wr.drewN nq).heap.size:=(Lx.below_drewN (Below.refl wr.heap.size wr) nq).size
     have f0:(wr.drewN nq).cell? ⟨g,k * 3,none⟩=some (.int .i64 xk):=(World.cell?_of_block (w:=wr) (a:=⟨g,k * 3,none⟩) ((Lx.below_drewN (Below.refl wr.heap.size wr) nq).block g (by omega))).trans d0
     have f1:(wr.drewN nq).cell? ⟨g,k * 3+1,none⟩=some (.int .u8 (xc:Int)):=(World.cell?_of_block (w:=wr) (a:=⟨g,k * 3+1,none⟩) ((Lx.below_drewN (Below.refl wr.heap.size wr) nq).block g (by omega))).trans d1
     clear d0 d1 d2 g1 g2 g3 g4
     generalize wr.drewN nq=w5 at *
     have hlt5:=HO5.out.lt
     rcases HNEXT.out with⟨e2,r1,r2⟩ | ⟨e3,⟨S',r0,r1⟩,r2⟩ | ⟨e2,e3,r1,r2⟩
     ·have t2:(xk==2)=true:=by simp[e2]
      have HEND:=Lib.hid (fun(v:Value) (W:World) (h1:W.ownsRow w3.heap.size 5 1 v (m+1) (bytesW S++[.int .u8 (xc:Int)])) (h2:Below w3.heap.size w3 W)=>(show PrR l w3 v (.int .i64 (q:Int)) (.int .i64 ((k:Int)+1)) W from ⟨k+1,m+1,S++[xc],by go_num,by omega,r1,by rw[List.length_append,HSM.out];rfl,by omega,by rw[r2],by rw[r2];omega,by rw[bytesW_snoc];exact h1,h2⟩))
      clear e2 r1 r2
      go_wp2_with (at_builtin;refine wpList_append_own _ rfl _ _ 37 rfl w3.heap.size 5 i0 _ 1 1 Tryz.underlying37 hi0 hz0 hz1 hz2 rfl (by decide) _ _ _ rfl (HO5.out.alloc _) ⟨w5.heap.size,0,none⟩ 1 1 [.int .u8 (xc:Int)] rfl rfl (World.news_of_block (cs:=#[.int .u8 (xc:Int)]) (t:=5) (fr:=(0,0)) (heap_alloc_new w5 _)) (by simp[Value.oneCell']) (by unfold maxLen;omega) (by omega) (by simp;omega) ?_;intro v' w6 hown' hgrow _;have HF:=Lib.hid (HEND.out v' w6 hown' ((HW5.out.alloc (by omega) _).grown hgrow (by simp;omega) (fun j ej=>(hlt5 j ej).1)));clear hown' hgrow)
      go_roundw
      case rel=>exact HF.out
      case measure=>simp[intOf];omega
     ·have t2:(xk==2)=false:=by simp[e3]
      have t3:(xk==3)=true:=by simp[e3]
      obtain⟨p,hp⟩:∃ p,S'.length=p:=⟨_,rfl⟩
      obtain rfl:m=p+1:=by rw[← HSM.out,r0,List.length_append,hp];rfl
      obtain⟨Az5,c5,rfl,hc5,hpc,hA5⟩:=Nu.aW HO5.out
      obtain⟨g5,rfl,hg5,hg5b⟩:=hA5 (by omega)
      have y5:w5.cell? ⟨g5,p,none⟩=some (.int .u8 (xc:Int)):=by
       rw[HO5.out.cellAt p (by omega),r0,bytesW_snoc,← hp,← bytesW_len S',List.getElem?_concat_length]
      have HTK:=Lib.hid (show w5.ownsRow w3.heap.size 5 1 (.slice (some ⟨g5,0,none⟩) p c5) p (bytesW S') by
       have:=Ba.oD HO5.out (show p≤p+1 by omega)
       rw[r0,bytesW_snoc,List.take_append_of_le_length (by rw[bytesW_len,hp];omega),List.take_of_length_le (by rw[bytesW_len,hp];omega)]at this
       exact this)
      have HEND:=Lib.hid (fun nq=>(show PrR l w3 (.slice (some ⟨g5,0,none⟩) p c5) (.int .i64 (q:Int)) (.int .i64 ((k:Int)+1)) (w5.drewN nq) from ⟨k+1,p,S',by go_num,by omega,r1,hp,by omega,by rw[r2],by rw[r2];omega,Lx.cV HTK.out (Lx.below_drewN (Below.refl w5.heap.size w5) nq),Lx.below_drewN HW5.out nq⟩))
      have p0':(0:Int)≤(p:Int):=by omega
      have p1':(p:Int)<(p:Int)+1:=by omega
      have p2':(p:Int)≤(c5:Int):=by omega
      have p3':((p:Int)+1==0)=false:=by rw[beq_eq_false_iff_ne];omega
      have p4':IntKind.i64.wrap ((p:Int)+1 - 1)=(p:Int):=by rw[show (p:Int)+1 - 1=(p:Int) by omega];exact IntWalk.i64_in _ (by unfold maxLen at hc5;omega)
      have p5':IntKind.i64.wrap (p:Int)=(p:Int):=IntWalk.i64_in _ (by unfold maxLen at hc5;omega)
      have p6':((xc:Int) != (xc:Int))=false:=by simp
      have p7':(xc != xc)=false:=by simp
      clear e3 r0 r1 r2 hp hA5 hlt5
      go_wp2
      go_big_quiet (fail)
      go_wp2
      go_roundw
      case rel=>exact HEND.out _
      case measure=>simp[intOf];omega
     ·have t2:(xk==2)=false:=by simp[e2]
      have t3:(xk==3)=false:=by simp[e3]
      have HEND:=Lib.hid (show PrR l w3 u10 (.int .i64 ((q:Int)+1)) (.int .i64 ((k:Int)+1)) w5 from ⟨k+1,m,S,by go_num,by omega,r1,HSM.out,by omega,by rw[r2];go_num,by rw[r2];omega,HO5.out,HW5.out⟩)
      clear e2 e3 r1 r2
      go_wp2
      go_roundw
      case rel=>exact HEND.out
      case measure=>simp[intOf];omega
   ·obtain rfl:k=l.length:=by omega
    have hr:=HRUN.out
    have hqc:=HQ.out
    rw[List.take_length]at hr hqc
    rw[HPR.out.run]at hr
    obtain rfl:S=[]:=(Option.some.inj hr).symm
    obtain rfl:m=0:=HSM.out.symm
    have hqs:q=gA n:=by rw[← hqc];exact HPR.out.cnt
    obtain⟨Ao,co,rfl,-,-,-⟩:=Nu.aW HOW.out
    have HQS:=Lib.hid hqs
    have hq9:q≤200000:=by omega
    obtain⟨W0,hW0⟩:∃ W0,wr=W0:=⟨_,rfl⟩
    rw[hW0]at HB hBs ⊢
    clear hr hqc hqs hW0 hlt
    go_wp2
    go_loopw [11,13] (fun u11 u13 wi=>wi=W0∧∃ i r:Nat,u13=.int .i64 (i:Int)∧i≤n.length∧u11=.int .i64 (r:Int)∧r+gA (n.take i)=q) (fun _ u13 _=>n.length - (intOf u13).toNat)
    case atStart=>exact⟨rfl,0,q,rfl,Nat.zero_le _,rfl,rfl⟩
    case round =>
     obtain⟨rfl,i,r,rfl,hi,rfl,hri⟩:=hrel
     have HRI:=Lib.hid hri
     have hr9:r≤200000:=by omega
     have i0':(0:Int)≤(i:Int):=by omega
     clear hri
     by_cases hin:i<n.length
     ·obtain⟨g2,rfl,hg2,hcell2⟩:=HA2.out (by omega)
      obtain⟨⟨yk,yt,yp,ys⟩,hy⟩:=fV (l:=n) (i:=i) hin
      obtain⟨-,e1,-,-⟩:=cE hcell2 i _ hy
      have upr:=fun j=>World.cell?_of_block (w:=w3) (a:=⟨g2,j,none⟩) (HB.out.block g2 hg2)
      rw[← upr]at e1
      obtain⟨s1,s2⟩:=sumT_take n i _ hy
      simp only[Nat.zero_add]at e1 s1
      have hry:=HRI.out
      have hqq:=HQS.out
      have hle:yt.size≤r:=by omega
      have HNX2:=Lib.hid (show (r - yt.size)+gA (n.take (i+1))=q by omega)
      have i1':(i:Int)<(n.length:Int):=by omega
      have hrs:((r - yt.size:Nat):Int)=(r:Int) - (yt.size:Int):=by omega
      have HRS:=Lib.hid hrs
      clear hcell2 hy upr s1 s2 hry hqq hrs
      go_wp2
      go_roundw
      case rel=>exact⟨trivial,i+1,r - yt.size,by go_num,by omega,by rw[HRS.out],HNX2.out⟩
      case measure=>simp[intOf];omega
     ·obtain rfl:i=n.length:=by omega
      have hr0:r=0:=by
       have:=HRI.out
       have h2:=HQS.out
       rw[List.take_length]at this
       omega
      subst hr0
      have HLW:=Lib.hid (HL.out.below (Ba.chain HB3.out HB3.out.size HB.out) hLN)
      have HBW:=Lib.hid (Ba.chain HB3.out HB3.out.size HB.out)
      clear hin
      go_wp2_with fail
      refine(UJ Ld Fd _ HLW.out).mono ?_
      rintro e wa ⟨rfl,hba⟩
      have HBA:=Lib.hid (Ba.chain HBW.out HBW.out.size hba)
      clear hba
      go_wp2
      go_ret
      exact⟨rfl,HBA.out⟩
 ·obtain⟨z,hz⟩:∃ z:Int,(((bH s).2.2:Nat):Int)=z:=⟨_,rfl⟩
  have hzt:(z != 0)=true:=by
   rw[bne_iff_ne]
   intro e
   exact he (by omega)
  have HPA:=Lib.hid (fun W hW=>Ld.at s HS.out [] _ z (parse_err he) rfl hz W hW)
  obtain⟨p1,p2,p3,p4⟩:=par_nil
  have HNO:=Lib.hid (fun v W hW hv=>ON Ld v [] 0 (Nat.zero_le _) (fun x hx=>(by cases hx)) (fun x hx=>(by cases hx)) 0 (by rw[p4];rfl) W hW hv)
  have HFO:=Lib.hid (fun v W hW hv hcp=>Fd.aBX v [] 0 (Nat.zero_le _) (fun x hx=>(by cases hx)) (fun x hx=>(by cases hx)) (Nat.zero_le _) hcp [] 0 p2 (by rw[p1];rfl) W hW hv)
  have HON:=Lib.hid p3
  clear p1 p2 p3 p4 he hz
  go_wp2_with fail
  refine(HPA.out _ HL.out).mono ?_
  rintro e w1 ⟨v1,rfl,hr1,hb1⟩
  have HR1:=Lib.hid hr1
  have HB1:=Lib.hid hb1
  have HL1:=Lib.hid (HL.out.below hb1 hLN)
  clear hr1 hb1
  go_wp2_with fail
  refine(HNO.out _ _ HL1.out HR1.out).mono ?_
  rw[HON.out]
  rintro e w2 ⟨v2,rfl,hown,hb2⟩
  have HR2:=Lib.hid (Ba.Reads.kC dX rfl hown)
  have HC2:=Lib.hid (rJ hown)
  have HB2:=Lib.hid (Ba.chain HB1.out HB1.out.size hb2)
  have HL2:=Lib.hid (HL.out.below HB2.out hLN)
  clear hown hb2
  go_wp2_with fail
  refine(HFO.out _ _ HL2.out HR2.out HC2.out).mono ?_
  rintro e w3 ⟨v3,rfl,-,hb3,-⟩
  have HB3:=Lib.hid (Ba.chain HB2.out HB2.out.size hb3)
  have HL3:=Lib.hid (HL.out.below HB3.out hLN)
  clear hb3
  go_wp2_with fail
  refine(UJ Ld Fd _ HL3.out).mono ?_
  rintro e wa ⟨rfl,hba⟩
  have HBA:=Lib.hid (Ba.chain HB3.out HB3.out.size hba)
  clear hba
  go_wp2
  go_ret
  exact⟨rfl,HBA.out⟩
end Go.Proofs.YtgpihfacmpbpaaaGreatDoor.Fl
