/-
  Put together: CnL, CnM, CnN, CnO, CnP.
-/
import Derived.Test.YtmldpkigfhoalaaGreatDoorOb
import Derived.Test.YtmldpkigfhoalaaGreatDoorNg
import Derived.Deep.RegionHeld3
import Derived.Deep.DeepCutAuto
import Derived.IntWalk
import Derived.Test.YtmldpkigfhoalaaGreatDoorOc
import Derived.Test.YtmldpkigfhoalaaGreatDoorNb
import Derived.Test.YtmldpkigfhoalaaGreatDoorNc
import Derived.Test.YtmldpkigfhoalaaGreatDoorTuD
import Derived.Test.YtmldpkigfhoalaaGreatDoorNh
namespace Go.Proofs.YtmldpkigfhoalaaGreatDoor.Cn
open Go.RowKit Tr Nu Nl
theorem wrC_app {F:List Nd} {LA:List Lx.Lx} (h:Wf F LA):∀ (d:Nat) (M:List Lx.Lx),wrC d (LA++M)=wrC d LA++wrC d M:=by
 induction h with
 | nil=>intro d M;rfl
 | text s pl _ ih =>
  intro d M
  rw [List.append_assoc,ih,ih d [txL s],List.append_assoc]
  congr 1
  show wrC d (txL s::M)=wrC d [txL s]++wrC d M
  rw [wrC_k1 rfl,wrC_k1 rfl,show wrC d ([]:List Lx.Lx)=[] from rfl,List.append_nil]
 | @node F G L M' k pl _ _ _ ih1 ih2 =>
  intro d M
  rw [List.append_assoc,ih1,ih1 d (opL k::(M'++[clL])),List.append_assoc]
  congr 1
  show wrC d (opL k::((M'++[clL])++M))=wrC d (opL k::(M'++[clL]))++wrC d M
  rw [wrC_k2 rfl,wrC_k2 rfl,List.append_assoc,ih2 (d+1) ([clL]++M),ih2 (d+1) [clL]]
  show _=(123::(Lx.nameL k++32::(wrC (d+1) M'++wrC (d+1) [clL])))++wrC d M
  rw [show [clL]++M=clL::M from rfl,wrC_k3 (by decide) (by decide),wrC_k3 (by decide) (by decide),show wrC (d+1 - 1) ([]:List Lx.Lx)=[] from rfl,Nat.add_sub_cancel]
  simp
  rfl
theorem wrC_node {G:List Nd} {M:List Lx.Lx} (h:Wf G M) (d k:Nat):wrC d (opL k::(M++[clL]))=123::(Lx.nameL k++32::(wrC (d+1) M++(125::(if d=0 then [10] else [])))):=by
 rw [wrC_k2 rfl,wrC_app h,wrC_k3 (by decide) (by decide),show wrC (d+1 - 1) ([]:List Lx.Lx)=[] from rfl,List.append_nil]
 congr 5
 by_cases h0:d=0
 ·rw [if_pos h0,if_pos (by omega)]
 ·rw [if_neg h0,if_neg (by omega)]
theorem wr_pre:∀ (L:List Lx.Lx) (b:Bool) (d:Nat) (M:List Lx.Lx),Wr b d (L++M)→Wr b d L
 | [],_,_,_,_=>trivial
 | x::L,b,d,M,h=>by
  rw [List.cons_append] at h
  unfold Wr at h ⊢
  by_cases h1:x.kind=1
  ·rw [if_pos h1] at h ⊢
   exact ⟨h.1,h.2.1,h.2.2.1,h.2.2.2.1,h.2.2.2.2.1,wr_pre L _ _ _ h.2.2.2.2.2⟩
  ·rw [if_neg h1] at h ⊢
   by_cases h2:x.kind=2
   ·rw [if_pos h2] at h ⊢
    exact ⟨h.1,h.2.1,wr_pre L _ _ _ h.2.2⟩
   ·rw [if_neg h2] at h ⊢
    exact ⟨h.1,h.2.1,wr_pre L _ _ _ h.2.2⟩
theorem wr_suf {F:List Nd} {LA:List Lx.Lx} (h:Wf F LA):∀ (b:Bool) (d:Nat) (M:List Lx.Lx),Wr b d (LA++M)→∃ b',Wr b' d M:=by
 induction h with
 | nil=>intro b d M h;exact ⟨b,h⟩
 | text s pl _ ih =>
  intro b d M h
  rw [List.append_assoc] at h
  obtain ⟨b',h⟩:=ih b d _ h
  have h:Wr b' d (txL s::M):=h
  unfold Wr at h
  rw [if_pos (show (txL s).kind=1 from rfl)] at h
  exact ⟨true,h.2.2.2.2.2⟩
 | @node F G L M' k pl _ _ _ ih1 ih2 =>
  intro b d M h
  rw [List.append_assoc] at h
  obtain ⟨b',h⟩:=ih1 b d _ h
  have h:Wr b' d (opL k::((M'++[clL])++M)):=h
  unfold Wr at h
  rw [if_neg (show ¬ (opL k).kind=1 from (by decide:¬ (2:Nat)=1)),if_pos (show (opL k).kind=2 from rfl),List.append_assoc] at h
  obtain ⟨b'',h⟩:=ih2 _ _ _ h.2.2
  have h:Wr b'' (d+1) (clL::M):=h
  unfold Wr at h
  rw [if_neg (by decide:¬ clL.kind=1),if_neg (by decide:¬ clL.kind=2)] at h
  exact ⟨false,h.2.2⟩
theorem bytesOf_app (a b:List Nat):Lx.bytesOf (a++b)=Lx.bytesOf a++Lx.bytesOf b:=Nu.bytesOf_app a b
def TxR6 (t:List Nd) (a e d:Nat) (L:List Lx.Lx) (w:World) (u1 u9:Value) (wr:World):Prop :=
 ∃ (k:Nat) (LA LB:List Lx.Lx),u1=.int .i64 (k:Int)∧a≤k∧k≤e∧evA t a k=some LA∧evA t k e=some LB∧L=LA++LB∧u9=.string (Lx.bytesOf (wrC d LA))∧Below w.heap.size w wr
def TxTo6 (d:Nat) (L:List Lx.Lx) (w:World) (en:Ending) (w':World):Prop:=en=.returned (.string (Lx.bytesOf (wrC d L)))∧Below w.heap.size w w'
def TxB6 (w1 W:World):Prop:=Below w1.heap.size w1 W
theorem text_next {t:List Nd} (hp:∀ x ∈ t,plainNd x) {a e k d:Nat} {L LA LB:List Lx.Lx} (h1:evA t a k=some LA) (h2:evA t k e=some LB) (hL:L=LA++LB) (hak:a≤k) (hke:k<e) (hel:e≤t.length) (hw:∃ b,Wr b d L) :
  ∃ x n R,t[k]?=some x∧x.size=((n:Nat):Int)∧1≤n∧k+n≤e∧evA t (k+n) e=some R ∧
   ((x.kind=46∧n=1∧d≠0∧evA t a (k+n)=some (LA++[txL x.text])∧L=(LA++[txL x.text])++R∧wrC d (LA++[txL x.text])=wrC d LA++Lx.bytesN x.text) ∨
    (x.kind≠46∧∃ M,evA t (k+1) (k+n)=some M∧(∃ b,Wr b (d+1) M)∧evA t a (k+n)=some (LA++opL x.kind::(M++[clL]))∧L=(LA++opL x.kind::(M++[clL]))++R ∧
    wrC d (LA++opL x.kind::(M++[clL]))=wrC d LA++(123::(Lx.nameL x.kind++32::(wrC (d+1) M++(125::(if d=0 then [10] else []))))))):=by
 obtain ⟨x,n,R,hx,hs,hn,hle,hR,htx,hnd⟩:=ev_first h2 hke
 have hWA:=ev_wf t hp _ a k LA (Nat.le_refl _) hak (by omega) h1
 obtain ⟨b,hw⟩:=hw
 refine ⟨x,n,R,hx,hs,hn,hle,hR,?_⟩
 by_cases hk:x.kind=46
 ·left
  have hn1:=htx hk
  subst hn1
  rw [evA_text hke hx hk hs,hR,Option.map_some,Option.some.injEq] at h2
  subst h2
  have hev:evA t k (k+1)=some [txL x.text]:=by rw [evA_text (by omega) hx hk hs,evA_end t (k+1) (k+1) (Nat.le_refl _)];rfl
  obtain ⟨b',hb'⟩:=wr_suf hWA b d _ (by rw [← hL];exact hw)
  have hd:d≠0:=by
   unfold Wr at hb'
   rw [if_pos (show (txL x.text).kind=1 from rfl)] at hb'
   exact hb'.2.1
  refine ⟨hk,rfl,hd,evA_app t _ a k (k+1) LA _ (Nat.le_refl _) hak (by omega) h1 hev,by rw [hL];simp,?_⟩
  rw [wrC_app hWA,wrC_k1 rfl,show wrC d ([]:List Lx.Lx)=[] from rfl,List.append_nil];rfl
 ·right
  obtain ⟨M,hM⟩:=hnd hk
  have hWM:=ev_wf t hp _ (k+1) (k+n) M (Nat.le_refl _) (by omega) (by omega) hM
  rw [evA_node hx hk hs hn hle,hM,hR] at h2
  have h2:some (opL x.kind::(M++clL::R))=some LB:=h2
  cases h2
  have hev:evA t k (k+n)=some (opL x.kind::(M++[clL])):=by
   rw [evA_node hx hk hs hn (Nat.le_refl _),hM,evA_end t (k+n) (k+n) (Nat.le_refl _)];rfl
  obtain ⟨b',hb'⟩:=wr_suf hWA b d _ (by rw [← hL];exact hw)
  have hbM:∃ b,Wr b (d+1) M:=by
   unfold Wr at hb'
   rw [if_neg (show ¬ (opL x.kind).kind=1 from (by decide:¬ (2:Nat)=1)),if_pos (show (opL x.kind).kind=2 from rfl)] at hb'
   exact ⟨_,wr_pre M _ _ _ hb'.2.2⟩
  refine ⟨hk,M,hM,hbM,evA_app t _ a k (k+n) LA _ (Nat.le_refl _) hak (by omega) h1 hev,by rw [hL];simp,?_⟩
  rw [wrC_app hWA,wrC_node hWM]
theorem str_open (P W:List Nat) (k:Nat) (E:List Nat):Lx.bytesOf (P++(123::(Lx.nameL k++32::(W++(125::E)))))=(((((Lx.bytesOf P++{ data:=#[123] })++Lx.nameS k)++{ data:=#[32] })++Lx.bytesOf W)++{ data:=#[125] })++Lx.bytesOf E:=by
 have e:P++(123::(Lx.nameL k++32::(W++(125::E))))=(((((P++[123])++Lx.nameL k)++[32])++W)++[125])++E:=by simp
 rw [e]
 simp only [bytesOf_app]
 rfl
theorem app_nil (s:ByteArray):s++Lx.bytesOf []=s:=by
 apply Lx.bytes_ext
 rw [Lx.bytesN_append]
 exact List.append_nil _
theorem pre_len {t:List Nd} (hp:∀ x ∈ t,plainNd x) {a k d:Nat} {L LA R:List Lx.Lx} (h:evA t a k=some LA) (hL:L=LA++R) (hak:a≤k) (hk:k≤t.length):(wrC d LA).length≤(wrC d L).length:=by
 rw [hL,wrC_app (ev_wf t hp _ a k LA (Nat.le_refl _) hak hk h),List.length_append];omega
theorem txS_drew {w1 W:World} {B:Nat} {u v:Value} (h:W.cell? ⟨B,0,none⟩=some u∧W.cell? ⟨B,3,none⟩=some v∧TxB6 w1 W):W.drew.cell? ⟨B,0,none⟩=some u∧W.drew.cell? ⟨B,3,none⟩=some v∧TxB6 w1 W.drew:=by
 refine ⟨by simpa using h.1,by simpa using h.2.1,?_⟩
 have:=Lx.below_drewN h.2.2 1
 exact this
theorem txS_call {w1 W W':World} {B:Nat} {u v:Value} (hB:B<w1.heap.size) (h:W.cell? ⟨B,0,none⟩=some u∧W.cell? ⟨B,3,none⟩=some v∧TxB6 w1 W) (hb:Below W.heap.size W W'):W'.cell? ⟨B,0,none⟩=some u∧W'.cell? ⟨B,3,none⟩=some v∧TxB6 w1 W':=by
 obtain ⟨h1,h2,h3⟩:=h
 have hs:=h3.size
 exact ⟨(World.cell?_of_block (w:=W) (a:=⟨B,0,none⟩) (hb.block B (by omega))).trans h1,(World.cell?_of_block (w:=W) (a:=⟨B,3,none⟩) (hb.block B (by omega))).trans h2,Ba.chain h3 h3.size hb⟩
theorem reads_tx {w1 W:World} {off B:Nat} {v u u':Value} {t:List Nd} (h:ReadsN off w1 w1.heap.size v t) (hb:W.cell? ⟨B,0,none⟩=some u∧W.cell? ⟨B,3,none⟩=some u'∧TxB6 w1 W):ReadsN off W W.heap.size v t:=(h.below hb.2.2).mono hb.2.2.size
end Go.Proofs.YtmldpkigfhoalaaGreatDoor.Cn
namespace Go.Proofs.YtmldpkigfhoalaaGreatDoor.Cn
open Go.RowKit Tr Nu Nl
set_option maxRecDepth 100000 in
set_option maxHeartbeats 8000000 in
theorem rtext_at (t:List Nd) (off:Nat) (v:Value) (ht:t.length≤9000) (hf:Fit t) (hp:∀ x ∈ t,plainNd x):∀ n a e d L,e - a≤n→a≤e→e≤t.length→d+n≤30000→evA t a e=some L→(∃ b,Wr b d L)→(wrC d L).length≤1000000000→∀ w:World,ReadsN off w w.heap.size v t →
  Calls Tryz.prog 18 #[v,.int .i64 (a:Int),.int .i64 (e:Int),.int .i64 (d:Int)] w (TxTo6 d L w):=by
 intro n
 induction n using Nat.strongRecOn with
 | _ n ih =>
  intro a e d L hn hae hel hdn hL hw hsz w hv
  have IH:=Lib.hid ih
  have HF:=Lib.hid hf
  have HP:=Lib.hid hp
  have HLL:=Lib.hid hL
  have HW:=Lib.hid hw
  have HSZ:=Lib.hid hsz
  have HV:=Lib.hid hv
  obtain ⟨A,c,rfl,hA⟩:=hv
  have HA:=Lib.hid hA
  clear ih hf hp hL hw hsz hA
  go_enter Tryz.func18,Tryz.ntmps18
  go_wp2
  go_loopw [1,9] (fun u1 u9 wr=>TxR6 t a e d L w u1 u9 wr) (fun u1 _ _=>e - (intOf u1).toNat)
  case atStart=>exact ⟨a,[],L,rfl,Nat.le_refl _,hae,evA_end t a a (Nat.le_refl _),HLL.out,rfl,rfl,Below.refl _ _⟩
  case round =>
   obtain ⟨k,LA,LB,rfl,hak,hke,h1,h2,h3,rfl,hB⟩:=hrel
   have hBs:=hB.size
   have HB:=Lib.hid hB
   obtain ⟨P,hP⟩:∃ P,Lx.bytesOf (wrC d LA)=P:=⟨_,rfl⟩
   rw [hP]
   by_cases hlt:k<e
   ·obtain ⟨⟨xk,xt,xp,xs⟩,z,R,hx,hs,hz,hle,hR,hcase⟩:=text_next HP.out h1 h2 h3 hak hlt hel HW.out
    obtain ⟨g,rfl,hg,hcell⟩:=HA.out (by omega)
    have hk2:=(HF.out _ (List.mem_of_getElem? hx)).1
    obtain rfl:xs=(z:Int):=hs
    obtain ⟨d0,d1,d2,d3⟩:=cells_of hcell k _ hx
    have upr:=fun i=>World.cell?_of_block (w:=w) (a:=⟨g,i,none⟩) (hB.block g hg)
    rw [← upr] at d0 d1 d2 d3
    simp only [] at d0 d1 d2 d3 hk2 hcase
    have j0:(0:Int)≤(k:Int):=by omega
    have j1:(k:Int)<(t.length:Int):=by omega
    have j2:(k:Int)<(e:Int):=by omega
    have hbx:Below w.heap.size w (wr.alloc (.cells #[.int .u8 (xk:Int),.string xt,.int .i64 xp,.int .i64 (z:Int)] 33)):=hB.alloc hBs _
    have HBX:=Lib.hid hbx
    have HVX:=Lib.hid ((HV.out.below hbx).mono hbx.size)
    rcases hcase with ⟨k6,rfl,hd,hA',hL',hwr⟩ | ⟨k6,M,hM,hwM,hA',hL',hwr⟩
    ·have t1:((xk:Int)==46)=true:=by rw [beq_iff_eq];have:xk=46:=k6;omega
     have t2:((d:Int)==0)=false:=by rw [beq_eq_false_iff_ne];omega
     have hlen:=pre_len (d:=d) HP.out hA' hL' (by omega) (by omega)
     rw [hwr,List.length_append,Lx.bytesN_len] at hlen
     have hPs:P.size=(wrC d LA).length:=by rw [← hP,Lx.bytesOf_size]
     have hsz:=HSZ.out
     have hadd:P.size+xt.size≤1000000000:=by omega
     have hTX:=Lib.hid (show Lx.bytesOf (wrC d (LA++[txL xt]))=P++xt by rw [hwr,bytesOf_app,hP,Lx.bytesOf_bytesN])
     have HA':=Lib.hid hA'
     have HR:=Lib.hid hR
     have HL':=Lib.hid hL'
     clear hwr hlen hPs hsz hP hA' hL' hR h1 h2 h3 hx hcell upr k6 hd hbx hB
     go_wp2
     go_roundw
     case rel=>exact ⟨k+1,LA++[txL xt],R,by go_num,by omega,by omega,HA'.out,HR.out,HL'.out,by rw [hTX.out],HBX.out⟩
     case measure=>simp [intOf];omega
    ·have t1:((xk:Int)==46)=false:=by rw [beq_eq_false_iff_ne];exact fun h=>k6 (by show xk=46;omega)
     have hM1:=pre_len (d:=d) HP.out hA' hL' (by omega) (by omega)
     have hsz:=HSZ.out
     obtain ⟨nm,hnm⟩:∃ nm,Lx.nameS xk=nm:=⟨_,rfl⟩
     obtain ⟨sb,hsb⟩:∃ sb,Lx.bytesOf (wrC (d+1) M)=sb:=⟨_,rfl⟩
     have hstr:=str_open (wrC d LA) (wrC (d+1) M) xk (if d=0 then [10] else [])
     rw [← hwr,hP,hnm,hsb] at hstr
     rw [hwr] at hM1
     simp only [List.length_append,List.length_cons] at hM1
     have q1:P.size=(wrC d LA).length:=by rw [← hP,Lx.bytesOf_size]
     have q2:nm.size=(Lx.nameL xk).length:=by rw [← hnm,Lx.nameS_size]
     have q3:sb.size=(wrC (d+1) M).length:=by rw [← hsb,Lx.bytesOf_size]
     have hadd:P.size+nm.size+sb.size+10≤1000000020:=by omega
     have HNM:=Lib.hid hnm
     have HSB:=Lib.hid hsb
     have HSTR:=Lib.hid hstr
     have HA':=Lib.hid hA'
     have HR:=Lib.hid hR
     have HL':=Lib.hid hL'
     have HCALL:=Lib.hid (fun W hW=>IH.out (n - 1) (by omega) (k+1) (k+z) (d+1) M (by omega) (by omega) (by omega) (by omega) hM hwM (by omega) W hW)
     have y0:(wr.alloc (.cells #[.int .u8 (xk:Int),.string xt,.int .i64 xp,.int .i64 (z:Int)] 33)).cell? ⟨wr.heap.size,0,none⟩=some (.int .u8 (xk:Int)):=by simp
     have y3:(wr.alloc (.cells #[.int .u8 (xk:Int),.string xt,.int .i64 xp,.int .i64 (z:Int)] 33)).cell? ⟨wr.heap.size,3,none⟩=some (.int .i64 (z:Int)):=by simp
     have hs1:(wr.alloc (.cells #[.int .u8 (xk:Int),.string xt,.int .i64 xp,.int .i64 (z:Int)] 33)).heap.size=wr.heap.size+1:=by simp
     have w1:IntKind.i64.wrap ((k:Int)+1)=(k:Int)+1:=IntWalk.i64_in _ (by omega)
     have w2:IntKind.i64.wrap ((k:Int)+(z:Int))=(k:Int)+(z:Int):=IntWalk.i64_in _ (by omega)
     have w3:IntKind.i64.wrap ((d:Int)+1)=(d:Int)+1:=IntWalk.i64_in _ (by omega)
     clear hwr hM1 hsz hP hA' hL' hR h1 h2 h3 hx hcell upr k6 hbx hB hnm hsb hstr q1 q2 q3 hM hwM
     go_upto_region 6 with fail
     generalize wr.alloc (.cells #[.int .u8 (xk:Int),.string xt,.int .i64 xp,.int .i64 (z:Int)] 33)=w1' at *
     have hlb:wr.heap.size<w1'.heap.size:=by omega
     have hT0:TxB6 w1' w1':=Below.refl _ _
     have c1:¬ (9223372036854775807<P.size+1):=by omega
     have c2:¬ (9223372036854775807<P.size+1+nm.size):=by omega
     have c3:¬ (9223372036854775807<P.size+1+nm.size+1):=by omega
     have c4:¬ (9223372036854775807<P.size+1+nm.size+1+sb.size):=by omega
     have c5:¬ (9223372036854775807<P.size+1+nm.size+1+sb.size+1):=by omega
     go_region_held3 (fun W=>W.cell? ⟨wr.heap.size,0,none⟩=some (.int .u8 (xk:Int))∧W.cell? ⟨wr.heap.size,3,none⟩=some (.int .i64 (z:Int))∧TxB6 w1' W)
      (first | assumption | exact ⟨y0,y3,hT0⟩ | exact txS_drew ⟨y0,y3,hT0⟩)
      (first
       |(go_at_call 33;refine (Lx.rname_at xk hk2 nm HNM.out _ rfl _).mono ?_;rintro en w6 ⟨rfl,hb6⟩;have hS6:=txS_call (u:=.int .u8 (xk:Int)) (v:=.int .i64 (z:Int)) hlb (by assumption) hb6)
       |(go_at_call 18;refine (HCALL.out _ ?_).mono ?_;(exact reads_tx (B:=wr.heap.size) (u:=.int .u8 (xk:Int)) (u':=.int .i64 (z:Int)) HVX.out (by assumption));rintro en w7 ⟨rfl,hb7⟩;rw [HSB.out];have hS7:=txS_call (u:=.int .u8 (xk:Int)) (v:=.int .i64 (z:Int)) hlb (by assumption) hb7))
     clear c1 c2 c3 c4 c5 w1 w2 w3
     have hS:w7.cell? ⟨wr.heap.size,0,none⟩=some (.int .u8 (xk:Int))∧w7.cell? ⟨wr.heap.size,3,none⟩=some (.int .i64 (z:Int))∧TxB6 w1' w7:=by assumption
     obtain ⟨-,y73,hT7⟩:=hS
     have HB7:=Lib.hid (Ba.chain HBX.out HBX.out.size hT7)
     clear hT7 y0 y3 hT0
     by_cases h0:d=0
     ·have t2:((d:Int)==0)=true:=by rw [beq_iff_eq];omega
      have HF2:=Lib.hid (show Lx.bytesOf (wrC d (LA++opL xk::(M++[clL])))=(((((P++{ data:=#[123] })++nm)++{ data:=#[32] })++sb)++{ data:=#[125] })++{ data:=#[10] } by rw [HSTR.out,if_pos h0];rfl)
      clear h0
      go_wp2
      go_roundw
      case rel=>exact ⟨k+z,_,R,by go_num,by omega,by omega,HA'.out,HR.out,HL'.out,by rw [HF2.out],HB7.out⟩
      case measure=>simp [intOf];omega
     ·have t2:((d:Int)==0)=false:=by rw [beq_eq_false_iff_ne];omega
      have HF2:=Lib.hid (show Lx.bytesOf (wrC d (LA++opL xk::(M++[clL])))=((((P++{ data:=#[123] })++nm)++{ data:=#[32] })++sb)++{ data:=#[125] } by rw [HSTR.out,if_neg h0,app_nil])
      clear h0
      go_wp2
      go_roundw
      case rel=>exact ⟨k+z,_,R,by go_num,by omega,by omega,HA'.out,HR.out,HL'.out,by rw [HF2.out],HB7.out⟩
      case measure=>simp [intOf];omega
   ·obtain rfl:k=e:=by omega
    have hfin:L=LA:=by
     rw [evA_end t k k (Nat.le_refl _)] at h2
     have h2:([]:List Lx.Lx)=LB:=Option.some.inj h2
     rw [h3,← h2,List.append_nil]
    have HFIN:=Lib.hid (show P=Lx.bytesOf (wrC d L) by rw [hfin,hP])
    clear h1 h2 h3 hfin hP
    go_wp2
    go_ret
    refine ⟨?_,HB.out⟩
    show Ending.returned (.string P)=_
    rw [HFIN.out]
end Go.Proofs.YtmldpkigfhoalaaGreatDoor.Cn
namespace Go.Proofs.YtmldpkigfhoalaaGreatDoor.Cn
open Go.RowKit Tr Nu Nl
theorem wrC_len {F:List Nd} {L:List Lx.Lx} (h:Wf F L) {B:Nat}:(∀ x ∈ F,x.text.size≤B)→∀ d,(wrC d L).length≤F.length * (B+6):=by
 induction h with
 | nil=>intro _ d;exact Nat.zero_le _
 | @text F L s pl hF ih =>
  intro hB d
  have h1:=ih (fun x hx=>hB x (List.mem_append_left _ hx)) d
  have h2:s.size≤B:=hB ⟨46,s,pl,1⟩ (by simp)
  rw [wrC_app hF,wrC_k1 rfl,show wrC d ([]:List Lx.Lx)=[] from rfl,List.append_nil,List.length_append,show (txL s).text=s from rfl,Lx.bytesN_len,List.length_append,List.length_singleton,Nat.add_mul]
  omega
 | @node F G L M k pl hF hG hk ih1 ih2 =>
  intro hB d
  have h1:=ih1 (fun x hx=>hB x (List.mem_append_left _ hx)) d
  have h2:=ih2 (fun x hx=>hB x (List.mem_append_right _ (List.mem_cons_of_mem _ hx))) (d+1)
  have h3:=Lx.nameL_len k
  have h4:(if d=0 then [10] else []:List Nat).length≤1:=by split<;>simp
  rw [wrC_app hF,wrC_node hG,List.length_append,List.length_cons,List.length_append,List.length_cons,List.length_append,List.length_cons,List.length_append,List.length_cons,Nat.add_mul,Nat.add_mul]
  omega
def sumT:List Nd→Nat
 | []=>0
 | x::t=>x.text.size+sumT t
theorem sumT_app:∀ t u:List Nd,sumT (t++u)=sumT t+sumT u
 | [],u=>by show sumT u=0+sumT u;omega
 | x::t,u=>by show x.text.size+sumT (t++u)=x.text.size+sumT t+sumT u;rw [sumT_app t u];omega
theorem sumT_size:∀ (t:List Nd) (i:Nat) (z:Int),sumT (t.modify i (setSize z))=sumT t
 | [],i,z=>by cases i<;>rfl
 | x::t,0,z=>rfl
 | x::t,i+1,z=>by show x.text.size+sumT (t.modify i (setSize z))=x.text.size+sumT t;rw [sumT_size t i z]
theorem totE_app' (A B:List Ev):totE (A++B)=totE A+totE B:=by
 induction A with
 | nil=>show totE B=0+totE B;omega
 | cons x A ih=>show txZ x+totE (A++B)=txZ x+totE A+totE B;rw [ih];omega
theorem evE_sum {F:List Nd} {L:List Lx.Lx} (h:Wf F L) (K:Nat→ByteArray × Int) (O:Nat→Int):∀ p,(∀ j y,F[j]?=some y→(K (p+j)).1.size≤y.text.size)→totE (evE K O p L)≤sumT F:=by
 induction h with
 | nil=>intro p _;exact Nat.le_refl _
 | @text F L s pl hF ih =>
  intro p hK
  have h1:=ih p fun j y hj=>hK j y (by rw [List.getElem?_append_left (List.getElem?_eq_some_iff.1 hj).1];exact hj)
  have h2:=hK F.length _ List.getElem?_concat_length
  rw [evE_app,wf_nod hF,totE_app',sumT_app]
  show _+((K (p+F.length)).1.size+0)≤_+(s.size+0)
  have h2:(K (p+F.length)).1.size≤s.size:=h2
  omega
 | @node F G L M k pl hF hG hk ih1 ih2 =>
  intro p hK
  have h1:=ih1 p fun j y hj=>hK j y (by rw [List.getElem?_append_left (List.getElem?_eq_some_iff.1 hj).1];exact hj)
  have h2:=ih2 (p+F.length+1) fun j y hj=>by
   rw [show p+F.length+1+j=p+(F.length+(j+1)) by omega]
   exact hK (F.length+(j+1)) y (by rw [List.getElem?_append_right (by omega),show F.length+(j+1) - F.length=j+1 by omega];exact hj)
  rw [evE_app,evE_node,wf_nod hF,totE_app',sumT_app]
  show _+(0+totE (_++[clE]))≤_+(0+sumT G)
  rw [totE_app',show totE [clE]=0 from rfl]
  omega
theorem norm_sum {t:List Nd} (hc:checkV t=0):∀ x ∈ normV t,x.text.size≤sumT t:=by
 obtain ⟨L,hW,-⟩:=check_wf hc
 have h1:=evE_sum hW (asNew t) (placeAt t) 0 fun j y hj=>by rw [Nat.zero_add];exact newText_le (wf_szs hW) hj
 have h2:=(join_tot (evE (asNew t) (placeAt t) 0 L) []).1
 rw [normV_is hW]
 have hok:=rowOk_of (E:=joinE (evE (asNew t) (placeAt t) 0 L)) (N:=nod (joinE (evE (asNew t) (placeAt t) 0 L))) (B:=sumT t) (wf_bal hW _ _ 0).join (Nat.le_refl _) (by
  show totE ((evE (asNew t) (placeAt t) 0 L).foldl stepJ [])≤_
  rw [h2]
  show 0+totE _≤_
  omega)
 exact hok.2.2
def sumX:List Lx.Lx→Nat
 | []=>0
 | x::l=>x.text.size+sumX l
theorem lexF_sum (s:ByteArray):∀ n p,p≤s.size→sumX (Lx.lexF s n p).1≤s.size - p∧(Lx.lexF s n p).1.length≤s.size - p
 | 0,p,_=>⟨Nat.zero_le _,Nat.zero_le _⟩
 | n+1,p,hp=>by
  unfold Lx.lexF
  by_cases h:p<s.size
  ·rw [if_pos h]
   cases hs:Lx.stepF s p with
   | inr e=>exact ⟨Nat.zero_le _,Nat.zero_le _⟩
   | inl xq =>
    obtain ⟨x,q⟩:=xq
    have hpq:=Lx.stepF_lt h hs
    obtain ⟨hq,-⟩:=Lx.stepF_le h hs
    obtain ⟨i1,i2⟩:=lexF_sum s n q hq
    have hx:x.text.size≤q - p:=by
     rcases Lx.step_cases h hs with ⟨rfl,-⟩ | ⟨c,m,-,-,-,-,rfl,-⟩ | ⟨e,he1,he2,rfl,hqe,-⟩
     ·exact Nat.zero_le _
     ·exact Nat.zero_le _
     ·show (s.extract p e).size≤_
      rw [Lx.ext_size s p e he2];omega
    show x.text.size+sumX _≤_∧_+1≤_
    omega
  ·rw [if_neg h];exact ⟨Nat.zero_le _,Nat.zero_le _⟩
theorem read_sum:∀ (l:List Lx.Lx) (st:List Nd × List Tr.Op),sumT (l.foldl stepR st).1≤sumT st.1+sumX l∧(l.foldl stepR st).1.length≤st.1.length+l.length
 | [],st=>⟨Nat.le_refl _,Nat.le_refl _⟩
 | x::l,st=>by
  rw [List.foldl_cons]
  obtain ⟨i1,i2⟩:=read_sum l (stepR st x)
  obtain ⟨T,p⟩:=st
  have hstep:sumT (stepR (T,p) x).1≤sumT T+x.text.size∧(stepR (T,p) x).1.length≤T.length+1:=by
   unfold stepR
   by_cases h1:x.kind=1
   ·simp only [if_pos h1]
    split
    ·refine ⟨?_,by simp⟩
     show sumT (T++[⟨46,x.text,_,1⟩])≤_
     rw [sumT_app]
     show _+(x.text.size+0)≤_
     omega
    ·exact ⟨by show sumT T≤_;omega,by show T.length≤_;omega⟩
   ·by_cases h2:x.kind=2
    ·simp only [if_neg h1,if_pos h2]
     refine ⟨?_,by simp⟩
     show sumT (T++[⟨x.name,emptyS,_,1⟩])≤_
     rw [sumT_app]
     show _+(0+0)≤_
     omega
    ·simp only [if_neg h1,if_neg h2]
     exact ⟨by rw [sumT_size];omega,by simp⟩
  show _≤sumT T+(x.text.size+sumX l)∧_≤T.length+(l.length+1)
  omega
theorem parse_sum {s:ByteArray} (h:(parseA s).2.2=0):sumT (parseA s).1≤s.size∧(parseA s).1.length≤s.size:=by
 have hP:=parsed_of h
 rw [parseA_ok hP]
 have hl:=Lx.lex_all hP.1
 obtain ⟨h1,h2⟩:=lexF_sum s s.size 0 (Nat.zero_le _)
 have e:(Lx.lexF s s.size 0).1=Lx.lexV s:=congrArg Prod.fst hl
 rw [e] at h1 h2
 obtain ⟨h3,h4⟩:=read_sum (Lx.lexV s) ([],[root])
 have z1:sumT ([]:List Nd)=0:=rfl
 have z2:([]:List Nd).length=0:=rfl
 simp only [z1,z2] at h3 h4
 exact ⟨by show sumT (readL (Lx.lexV s)).1≤_;unfold readL;omega,by show (readL (Lx.lexV s)).1.length≤_;unfold readL;omega⟩
end Go.Proofs.YtmldpkigfhoalaaGreatDoor.Cn
namespace Go.Proofs.YtmldpkigfhoalaaGreatDoor.Cn
open Go.RowKit Tr Nu Nl
set_option maxRecDepth 100000 in
set_option maxHeartbeats 8000000 in
theorem rwrite_at (v:Value) (t:List Nd) (off:Nat) (ht:t.length≤700) (hf:Fit t) (hx:∀ x ∈ t,x.text.size≤700) (hcap:∀ A n c,v=.slice A n c→c≤maxLen) (a:ByteArray) (z:Int) (ha:writeS t=a) (hz:((writeE t:Nat):Int)=z) (w:World) (hv:ReadsN off w w.heap.size v t) :
  Calls Tryz.prog 8 #[v] w fun e w'=>e=.returned (.tuple #[.string a,.int .i64 z])∧Below w.heap.size w w':=by
 have HV:=Lib.hid hv
 have HF:=Lib.hid hf
 have HX:=Lib.hid hx
 have HC:=Lib.hid hcap
 have HT:=Lib.hid ht
 obtain ⟨A,c,rfl,-⟩:=hv
 by_cases hc:checkV t=0
 ·by_cases hi:isV t=true
  ·obtain ⟨L,hW,hE,hok,hwr⟩:=is_wr hi
   have hlen:=wrC_len hW hx 0
   have hl9:(wrC 0 L).length≤1000000000:=Nat.le_trans hlen (Nat.le_trans (Nat.mul_le_mul_right _ ht) (by decide))
   have hcan:canV t=Lx.bytesOf (wrC 0 L):=by unfold canV;rw [hE]
   have HTX:=Lib.hid (fun W hW2=>rtext_at t off (.slice A t.length c) (by omega) hf (check_plain hc) t.length 0 t.length 0 L (by omega) (Nat.zero_le _) (Nat.le_refl _) (by omega) hE ⟨_,hwr⟩ hl9 W hW2)
   have hwe:=writeE_is hi
   have HC0:=Lib.hid (show ((checkV t:Nat):Int)=0 by rw [hc];rfl)
   have HI0:=Lib.hid hi
   obtain ⟨P,hP⟩:∃ P,Lx.bytesOf (wrC 0 L)=P:=⟨_,rfl⟩
   have hPs:P.size≤1000000000:=by rw [← hP,Lx.bytesOf_size];exact hl9
   rw [hcan,hP] at hwe
   have HP:=Lib.hid hP
   have HCAN:=Lib.hid (hcan.trans hP)
   clear hlen hl9 hcan hE hok hwr hW hP hc hi hf hx hcap ht
   by_cases hbig:8192<P.size
   ·rw [if_pos hbig] at hwe
    obtain rfl:z=4:=by rw [← hz,hwe];rfl
    obtain rfl:a={ data:=#[] }:=by rw [← ha];unfold writeS;rw [if_neg (by rw [hwe];decide)];rfl
    clear hz ha hwe
    go_enter Tryz.func8,Tryz.ntmps8
    go_wp2_with fail
    refine (rcheck_any t off _ HT.out HF.out HX.out _ HV.out 0 HC0.out).mono ?_
    rintro e w1 ⟨rfl,hb1⟩
    have HB1:=Lib.hid hb1
    have HV1:=Lib.hid ((HV.out.below hb1).mono hb1.size)
    clear hb1
    go_wp2_with fail
    refine (ris_any _ t off HT.out HF.out HX.out HC.out true HI0.out _ HV1.out).mono ?_
    rintro e w2 ⟨rfl,hb2⟩
    have HB2:=Lib.hid (Ba.chain HB1.out HB1.out.size hb2)
    have HV2:=Lib.hid ((HV1.out.below hb2).mono hb2.size)
    clear hb2
    go_wp2_with fail
    refine (HTX.out _ HV2.out).mono ?_
    rintro e w3 ⟨rfl,hb3⟩
    rw [HP.out]
    have HB3:=Lib.hid (Ba.chain HB2.out HB2.out.size hb3)
    clear hb3
    go_wp2
    go_ret2
    exact ⟨rfl,HB3.out⟩
   ·rw [if_neg hbig] at hwe
    obtain rfl:z=0:=by rw [← hz,hwe];rfl
    obtain rfl:a=P:=by rw [← ha];unfold writeS;rw [if_pos hwe,HCAN.out]
    clear hz ha hwe
    go_enter Tryz.func8,Tryz.ntmps8
    go_wp2_with fail
    refine (rcheck_any t off _ HT.out HF.out HX.out _ HV.out 0 HC0.out).mono ?_
    rintro e w1 ⟨rfl,hb1⟩
    have HB1:=Lib.hid hb1
    have HV1:=Lib.hid ((HV.out.below hb1).mono hb1.size)
    clear hb1
    go_wp2_with fail
    refine (ris_any _ t off HT.out HF.out HX.out HC.out true HI0.out _ HV1.out).mono ?_
    rintro e w2 ⟨rfl,hb2⟩
    have HB2:=Lib.hid (Ba.chain HB1.out HB1.out.size hb2)
    have HV2:=Lib.hid ((HV1.out.below hb2).mono hb2.size)
    clear hb2
    go_wp2_with fail
    refine (HTX.out _ HV2.out).mono ?_
    rintro e w3 ⟨rfl,hb3⟩
    rw [HP.out]
    have HB3:=Lib.hid (Ba.chain HB2.out HB2.out.size hb3)
    clear hb3
    go_wp2
    go_ret2
    exact ⟨rfl,HB3.out⟩
  ·have hi:isV t=false:=by simpa using hi
   have HI0:=Lib.hid hi
   have HC0:=Lib.hid (show ((checkV t:Nat):Int)=0 by rw [hc];rfl)
   have hwe:writeE t=1:=by unfold writeE;rw [if_neg (by rw [hc];exact fun e=>e rfl),if_pos hi]
   obtain rfl:z=1:=by rw [← hz,hwe];rfl
   obtain rfl:a={ data:=#[] }:=by rw [← ha];unfold writeS;rw [if_neg (by rw [hwe];decide)];rfl
   clear hz ha hwe hi hc hf hx hcap ht
   go_enter Tryz.func8,Tryz.ntmps8
   go_wp2_with fail
   refine (rcheck_any t off _ HT.out HF.out HX.out _ HV.out 0 HC0.out).mono ?_
   rintro e w1 ⟨rfl,hb1⟩
   have HB1:=Lib.hid hb1
   have HV1:=Lib.hid ((HV.out.below hb1).mono hb1.size)
   clear hb1
   go_wp2_with fail
   refine (ris_any _ t off HT.out HF.out HX.out HC.out false HI0.out _ HV1.out).mono ?_
   rintro e w2 ⟨rfl,hb2⟩
   have HB2:=Lib.hid (Ba.chain HB1.out HB1.out.size hb2)
   clear hb2
   go_wp2
   go_ret2
   exact ⟨rfl,HB2.out⟩
 ·have hwe:writeE t=checkV t:=by unfold writeE;rw [if_pos hc]
  rw [hwe] at hz
  have HZ:=Lib.hid hz
  have hzt:(z != 0)=true:=by
   rw [bne_iff_ne]
   intro e
   exact hc (by have:=HZ.out;omega)
  obtain rfl:a={ data:=#[] }:=by rw [← ha];unfold writeS;rw [if_neg (by rw [hwe];exact hc)];rfl
  clear hz ha hwe hc hf hx hcap ht
  go_enter Tryz.func8,Tryz.ntmps8
  go_wp2_with fail
  refine (rcheck_any t off _ HT.out HF.out HX.out _ HV.out z HZ.out).mono ?_
  rintro e w1 ⟨rfl,hb1⟩
  go_wp2
  go_ret2
  exact ⟨rfl,hb1⟩
set_option maxRecDepth 100000 in
set_option maxHeartbeats 8000000 in
theorem rcanon_at (s:ByteArray) (hs:s.size≤700) (a:ByteArray) (p z:Int) (ha:(canonA s).1=a) (hp:(((canonA s).2.1:Nat):Int)=p) (hz:(((canonA s).2.2:Nat):Int)=z) (w:World) :
  Calls Tryz.prog 11 #[.string s] w fun e w'=>e=.returned (.tuple #[.string a,.int .i64 p,.int .i64 z])∧Below w.heap.size w w':=by
 have hsm:s.size≤maxLen:=Nat.le_trans hs (by decide)
 by_cases he:(parseA s).2.2=0
 ·obtain ⟨h1,h2⟩:=canonA_e he
  rw [h1] at ha hp hz
  have ha:writeS (normV (parseA s).1)=a:=ha
  have hz:((writeE (normV (parseA s).1):Nat):Int)=z:=hz
  obtain rfl:p=0:=hp.symm
  obtain ⟨t,ht⟩:∃ t,(parseA s).1=t:=⟨_,rfl⟩
  have tc:=parse_check he
  have tf:=parse_fit s hsm
  have ts:=parse_sum he
  rw [ht] at ha hz tc tf ts
  have t7:∀ x ∈ t,x.text.size≤700:=fun x hx=>by have:=tf.2 x hx;omega
  have ul:=norm_len tc
  have uf:=fit_norm (by omega) tf.1 (fun x hx=>by have:=t7 x hx;omega) tc
  have ux:∀ x ∈ normV t,x.text.size≤700:=fun x hx=>by have:=norm_sum tc x hx;omega
  have s3:(parseA s).2=(0,0):=by rw [parseA_ok (parsed_of he)]
  have HPA:=Lib.hid (fun W=>rparse_cap s hsm W)
  have HT:=Lib.hid ht
  have HS3:=Lib.hid s3
  have HOF:=Lib.hid (fun W v hcap hv=>rof_any v t 0 (by omega) tf.1 t7 hcap 0 (by rw [tc];rfl) W hv)
  have HON:=Lib.hid (show ofV t=normV t by unfold ofV;rw [if_pos tc])
  have HWR:=Lib.hid (fun W v hcap hv=>rwrite_at v (normV t) 0 (by omega) uf ux hcap a z ha hz W hv)
  clear ha hz hp he h1 h2 ht tc tf ts t7 ul uf ux s3 hs
  go_enter Tryz.func11,Tryz.ntmps11
  go_wp2_with fail
  refine (HPA.out _).mono ?_
  rintro e w1 ⟨v1,rfl,hr1,hb1,hc1⟩
  rw [HT.out] at hr1
  rw [HS3.out]
  have HR1:=Lib.hid hr1
  have HB1:=Lib.hid hb1
  have HC1:=Lib.hid hc1
  clear hr1 hb1 hc1
  go_wp2_with fail
  refine (HOF.out _ _ HC1.out HR1.out).mono ?_
  rw [HON.out]
  rintro e w2 ⟨v2,rfl,hown,hb2⟩
  have HR2:=Lib.hid (Ba.Reads.of_own cN_len rfl hown)
  have HC2:=Lib.hid (show ∀ A n c,v2=.slice A n c→c≤maxLen from fun A n c e=>by
   obtain ⟨A',c',e2,h,-,-⟩:=Nu.own_form hown
   rw [e] at e2
   injection e2 with _ _ e3;omega)
  have HB2:=Lib.hid (Ba.chain HB1.out HB1.out.size hb2)
  clear hown hb2
  go_wp2_with fail
  refine (HWR.out _ _ HC2.out HR2.out).mono ?_
  rintro e w3 ⟨rfl,hb3⟩
  have HB3:=Lib.hid (Ba.chain HB2.out HB2.out.size hb3)
  clear hb3
  go_wp2
  go_ret3
  exact ⟨rfl,HB3.out⟩
 ·have h1:canonA s=(emptyS,(parseA s).2.1,(parseA s).2.2):=by unfold canonA;rw [if_pos he]
  rw [h1] at ha hp hz
  obtain rfl:a={ data:=#[] }:=ha.symm
  have hp:(((parseA s).2.1:Nat):Int)=p:=hp
  have hz:(((parseA s).2.2:Nat):Int)=z:=hz
  have hzt:(z != 0)=true:=by
   rw [bne_iff_ne]
   intro e
   exact he (by omega)
  have HPA:=Lib.hid (fun W=>rparse_cap s hsm W)
  have HP:=Lib.hid hp
  have HZ:=Lib.hid hz
  clear ha hp hz he h1 hs
  go_enter Tryz.func11,Tryz.ntmps11
  go_wp2_with fail
  refine (HPA.out _).mono ?_
  rintro e w1 ⟨v1,rfl,-,hb1,-⟩
  rw [HP.out,HZ.out]
  have HB1:=Lib.hid hb1
  clear hb1
  go_wp2
  go_ret3
  exact ⟨rfl,HB1.out⟩
end Go.Proofs.YtmldpkigfhoalaaGreatDoor.Cn
namespace Go.Proofs.YtmldpkigfhoalaaGreatDoor.Cn
open Go.RowKit Tr Nu Nl
set_option maxHeartbeats 8000000 in
theorem writes_row (C:CLands) (t:List Nd) (A:Option Addr) (off c:Nat) (w:World) (hL:Ka.Laid w) (hcl:t.length≤c) (hcm:c≤maxLen) (ft:Fit t) (hu:ReadsN off w w.heap.size (.slice A t.length c) t) :
  Calls Tryz.prog 3 #[.slice A t.length c] w fun e w'=>e=.returned (.bool true)∧Below w.heap.size w w':=by
 have HU:=Lib.hid hu
 have HL:=Lib.hid hL
 have hLN:=hL.1
 have htm:t.length≤maxLen:=Nat.le_trans hcl hcm
 clear hu hL
 go_enter Tryz.func3,Tryz.ntmps3
 by_cases z1:vastV t=true
 ·have Z1:=Lib.hid z1
  clear z1
  go_wp2_with fail
  refine (vast6_at _ off t htm _ _ HU.out true Z1.out).mono ?_
  rintro e w' ⟨rfl,rfl⟩
  go_wp2_with fail
  refine (awake6 C _ HL.out).mono ?_
  rintro e w' ⟨rfl,hb⟩
  go_wp2
  go_ret
  exact ⟨rfl,hb⟩
 ·have z1:vastV t=false:=by simpa using z1
  have Z1:=Lib.hid z1
  obtain ⟨t1,t2⟩:=not_vast z1
  clear z1
  have HT9:=Lib.hid (show ∀ x ∈ t,x.text.size≤9000 from fun x hx=>by have:=t2 x hx;omega)
  have HT7:=Lib.hid (show ∀ x ∈ t,x.text.size≤700 from fun x hx=>by have:=t2 x hx;omega)
  have HF:=Lib.hid ft
  obtain ⟨z,hz⟩:∃ z:Int,((writeE t:Nat):Int)=z:=⟨_,rfl⟩
  have HZ:=Lib.hid hz
  obtain ⟨a,ha⟩:∃ a,writeS t=a:=⟨_,rfl⟩
  have HA:=Lib.hid ha
  obtain ⟨nt,hnt⟩:∃ nt,t.length=nt:=⟨_,rfl⟩
  have HNT:=Lib.hid hnt
  have HCAP:=Lib.hid (show ∀ A' n c',Value.slice A nt c=.slice A' n c'→c'≤maxLen from fun A' n c' e=>by injection e with _ _ e;omega)
  rw [hnt] at t1 htm HU ⊢
  clear hnt hz ha t2 ft hcl
  go_wp2_with fail
  refine (vast6_at _ off t (by rw [HNT.out];omega) _ _ HU.out false Z1.out).mono ?_
  rintro e w' ⟨rfl,rfl⟩
  go_wp2_with (at_builtin;refine wpList_append_copy _ rfl _ _ rfl (.slice (some ⟨w.heap.size,0,none⟩) 0 0) rfl w.heap.size (World.ownsRow_lit w #[] 0 (Nat.le_refl _) (by decide) rfl) (by simp) A nt c off w.heap.size t rfl HNT.out (by omega) (HU.out.below ((Below.refl _ w).alloc (Nat.le_refl _) _)) ?_;intro v4 w4 hown4 hgrow4;have hB4:Below w.heap.size w w4:=((Below.refl _ w).alloc (Nat.le_refl _) _).grown hgrow4 (by simp) (fun j ej=>by have ej:w.heap.size=j:=(by injection ej);omega);have HO4:=Lib.hid (Ba.Reads.of_own cN_len HNT.out hown4);have HC4:=Lib.hid (caps_own hown4);have HB4:=Lib.hid hB4;have HU4:=Lib.hid ((HU.out.below hB4).mono hB4.size);have HL4:=Lib.hid (HL.out.below hB4 hLN);clear hown4 hgrow4 hB4)
  obtain ⟨z2,z3⟩:(z==z)=true∧(z != z)=false:=by simp
  go_wp2_with fail
  refine (C.write_at v4 t 0 (by rw [HNT.out];omega) HF.out HT9.out HC4.out a z HA.out HZ.out _ HL4.out HO4.out).mono ?_
  rintro e w5 ⟨rfl,hb5⟩
  have HB5:=Lib.hid (Ba.chain HB4.out HB4.out.size hb5)
  have HU5:=Lib.hid ((HU4.out.below hb5).mono hb5.size)
  have HO5:=Lib.hid ((HO4.out.below hb5).mono hb5.size)
  clear hb5
  go_wp2_with fail
  refine (rwrite_at _ t off (by rw [HNT.out];omega) HF.out HT7.out HCAP.out a z HA.out HZ.out _ HU5.out).mono ?_
  rintro e w6 ⟨rfl,hb6⟩
  have HB6:=Lib.hid (Ba.chain HB5.out HB5.out.size hb6)
  have HU6:=Lib.hid ((HU5.out.below hb6).mono hb6.size)
  have HO6:=Lib.hid ((HO5.out.below hb6).mono hb6.size)
  clear hb6
  go_wp2_with fail
  refine (rlike_at 0 off _ _ t (by rw [HNT.out];omega) _ _ _ HO6.out HU6.out).mono ?_
  rintro e wb ⟨rfl,kb,rfl⟩
  have HBB:=Lib.hid (Lx.below_drewN HB6.out kb)
  have HLB:=Lib.hid (HL.out.below HBB.out hLN)
  go_wp2_with fail
  refine (awake6 C _ HLB.out).mono ?_
  rintro e w' ⟨rfl,hb⟩
  have HBE:=Lib.hid (Ba.chain HBB.out HBB.out.size hb)
  clear hb
  go_wp2
  go_ret
  exact ⟨rfl,HBE.out⟩
set_option maxHeartbeats 8000000 in
theorem of_row (C:CLands) (s:ByteArray) (hs:s.size≤maxLen) (w:World) (hL:Ka.Laid w) :
  Calls Tryz.prog 4 #[.string s] w fun e w'=>e=.returned (.bool true)∧Below w.heap.size w w':=by
 have HL:=Lib.hid hL
 have hLN:=hL.1
 have HS:=Lib.hid hs
 clear hL hs
 go_enter Tryz.func4,Tryz.ntmps4
 by_cases hlong:700<s.size
 ·go_wp2_with fail
  refine (awake6 C _ HL.out).mono ?_
  rintro e w' ⟨rfl,hb⟩
  go_wp2
  go_ret
  exact ⟨rfl,hb⟩
 ·have HS7:=Lib.hid (show s.size≤700 by omega)
  obtain ⟨a,ha⟩:∃ a,(canonA s).1=a:=⟨_,rfl⟩
  obtain ⟨p,hp⟩:∃ p:Int,(((canonA s).2.1:Nat):Int)=p:=⟨_,rfl⟩
  obtain ⟨z,hz⟩:∃ z:Int,(((canonA s).2.2:Nat):Int)=z:=⟨_,rfl⟩
  have HA:=Lib.hid ha
  have HP:=Lib.hid hp
  have HZ:=Lib.hid hz
  clear ha hp hz
  obtain ⟨z2,z3⟩:(z==z)=true∧(p==p)=true:=by simp
  go_wp2_with fail
  refine (C.of_at s HS.out a p z HA.out HP.out HZ.out _ HL.out).mono ?_
  rintro e w1 ⟨rfl,hb1⟩
  have HB1:=Lib.hid hb1
  clear hb1
  go_wp2_with fail
  refine (rcanon_at s HS7.out a p z HA.out HP.out HZ.out _).mono ?_
  rintro e w2 ⟨rfl,hb2⟩
  have HB2:=Lib.hid (Ba.chain HB1.out HB1.out.size hb2)
  have HL2:=Lib.hid (HL.out.below HB2.out hLN)
  clear hb2
  go_wp2_with fail
  refine (awake6 C _ HL2.out).mono ?_
  rintro e w3 ⟨rfl,hb3⟩
  have HB3:=Lib.hid (Ba.chain HB2.out HB2.out.size hb3)
  clear hb3
  go_wp2
  go_ret
  exact ⟨rfl,HB3.out⟩
end Go.Proofs.YtmldpkigfhoalaaGreatDoor.Cn
