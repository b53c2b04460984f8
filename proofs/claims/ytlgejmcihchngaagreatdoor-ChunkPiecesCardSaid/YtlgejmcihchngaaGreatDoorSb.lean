/-
  Put together: TiC, TjM.
-/
import Derived.Test.YtlgejmcihchngaaGreatDoorSa
import Derived.Test.YtlgejmcihchngaaGreatDoorQc
import Derived.Test.YtlgejmcihchngaaGreatDoorRuG
import Derived.WalkKit
import Derived.WalkSpells
import Derived.Lib.Hide
import Derived.Maps.OwnOps
import Derived.Maps.Views
import Derived.Maps.OwnSet
import Derived.DeepKeys4
import Derived.StringKeys
namespace Go.Proofs.YtlgejmcihchngaaGreatDoor.Ti
open Go.RowKit Ba Ru Ck
def numV (o:Option Nat):Int:=match o with | some k=>((k:Nat):Int) | none=>0
def okV (o:Option Nat):Bool:=o.isSome
theorem first_here {l:List Rl} {p:Rl→Bool} {k:Nat} {x:Rl} (hk:l[k]?=some x) (hN:∀ y ∈ l.take k,p y=false) (hp:p x=true):l.findIdx? p=some k:=by
 obtain⟨hl,rfl⟩:=List.getElem?_eq_some_iff.1 hk
 rw[List.findIdx?_eq_some_iff_getElem]
 refine⟨hl,hp,fun j hj=>?_⟩
 intro h
 rw[hN _ (List.mem_of_getElem? (i:=j) (by rw[List.getElem?_take,if_pos hj];exact List.getElem?_eq_getElem (by omega)))]at h
 cases h
theorem first_step {l:List Rl} {p:Rl→Bool} {k:Nat} {x:Rl} (hk:l[k]?=some x) (hN:∀ y ∈ l.take k,p y=false) (hp:p x=false):∀ y ∈ l.take (k+1),p y=false:=by
 intro y hy
 rw[List.take_add_one,hk,Option.toList_some]at hy
 rcases List.mem_append.1 hy with hy | hy
 ·exact hN y hy
 ·rw[List.mem_singleton.1 hy];exact hp
theorem first_end {l:List Rl} {p:Rl→Bool} (hN:∀ y ∈ l.take l.length,p y=false):l.findIdx? p=none:=by
 rw[List.take_length]at hN
 exact List.findIdx?_eq_none_iff.2 hN
set_option maxHeartbeats 4000000 in
theorem rword_any (v:Value) (l:List Rl) (off:Nat) (t:ByteArray) (hl:l.length≤1000000) (hf:∀ x ∈ l,FitR x) (o:Option Nat) (ho:wordN l (bytesN t)=o) (w:World) (B:Nat) (hv:ReadsR off w B v l) :
  Calls Tryz.prog 90 #[v,.string t] w fun e w'=>e=.returned (.tuple #[.int .i64 (numV o),.bool (okV o)])∧w'=w:=by
 obtain⟨A,c,rfl,hA⟩:=hv
 have HA:=Lib.hid hA;clear hA
 have HF:=Lib.hid hf;clear hf
 have HO:=Lib.hid ho;clear ho
 go_enter Tryz.func90,Tryz.ntmps90
 go_wp2
 go_loopw [6] (fun i wr=>∃ k:Nat,k≤l.length∧i=.int .i64 k∧(∀ y ∈ l.take k,decide (y.what=5∧y.cells=bytesN t)=false)∧wr=w) (fun i _=>l.length - (intOf i).toNat)
 case atStart=>exact⟨0,by omega,rfl,fun y hy=>by simp at hy,rfl⟩
 case round =>
  obtain⟨k,hk,rfl,hN,rfl⟩:=hrel
  by_cases hlt:k<l.length
  ·obtain⟨g,rfl,-,hg⟩:=HA.out (by omega)
   obtain⟨x,hx⟩:∃ x,l[k]?=some x:=⟨_,List.getElem?_eq_getElem hlt⟩
   obtain⟨g0,-,g2,-,-⟩:=rcell hg k x hx
   have hfx:=HF.out x (List.mem_of_getElem? hx)
   have hle:bytesOf x.cells=t↔x.cells=bytesN t:=⟨fun h=>by rw[← h,bytesN_bytesOf _ hfx.2.2.2.2.1],fun h=>by rw[h,bytesOf_bytesN]⟩
   have hyes:x.what=5∧x.cells=bytesN t→some k=o:=fun h=>by rw[← HO.out];exact(first_here (p:=fun x=>decide (x.what=5∧x.cells=bytesN t)) hx hN (decide_eq_true h)).symm
   have hno:¬ (x.what=5∧x.cells=bytesN t)→∀ y ∈ l.take (k+1),decide (y.what=5∧y.cells=bytesN t)=false:=fun h=>first_step (p:=fun x=>decide (x.what=5∧x.cells=bytesN t)) hx hN (decide_eq_false h)
   obtain⟨xw,xl,xc,xp,xn⟩:=x
   obtain⟨L,hL⟩:∃ L,bytesOf xc=L:=⟨_,rfl⟩
   simp only[]at g0 g2 hle hyes hno
   rw[hL]at g2 hle
   clear hg HA HF hfx hx hN
   by_cases hq:xw=5
   ·subst hq
    by_cases hLt:L=t
    ·have HV:=Lib.hid (hyes ⟨rfl,hle.1 hLt⟩)
     subst hLt
     clear hyes hno hle
     go_wp2
     refine bodyPost_ret (v:=.tuple #[.int .i64 ((k:Nat):Int),.bool true]) (by simp[results,Tryz.f90,go_sem]) rfl ?_
     rw[← HV.out]
     exact⟨rfl,rfl⟩
    ·have HV:=Lib.hid (hno (fun h=>hLt (hle.2 h.2)))
     have hne:=toList_ne hLt
     clear hyes hno hle hLt
     go_wp2
     go_roundw
     case rel=>exact⟨k+1,by omega,by go_num,HV.out,trivial⟩
     case measure=>simp[intOf];omega
   ·have HV:=Lib.hid (hno (fun h=>hq h.1))
    have t1:(xw==5)=false:=beq_eq_false_iff_ne.2 hq
    clear hyes hno hle hq
    go_wp2
    go_roundw
    case rel=>exact⟨k+1,by omega,by go_num,HV.out,trivial⟩
    case measure=>simp[intOf];omega
  ·obtain rfl:k=l.length:=by omega
   have HV:=Lib.hid (show none=o by rw[← HO.out];exact(first_end (p:=fun x=>decide (x.what=5∧x.cells=bytesN t)) hN).symm)
   clear hN
   go_wp2
   refine bodyPost_ret (v:=.tuple #[.int .i64 0,.bool false]) (by simp[results,Tryz.f90,go_sem]) rfl ?_
   rw[← HV.out]
   exact⟨rfl,rfl⟩
set_option maxHeartbeats 4000000 in
theorem rfind_any (v:Value) (l:List Rl) (off:Nat) (q:Int) (t:ByteArray) (hl:l.length≤1000000) (hf:∀ x ∈ l,FitR x) (o:Option Nat) (ho:findN l q (bytesN t)=o) (w:World) (B:Nat) (hv:ReadsR off w B v l) :
  Calls Tryz.prog 43 #[v,.int .i64 q,.string t] w fun e w'=>e=.returned (.tuple #[.int .i64 (numV o),.bool (okV o)])∧w'=w:=by
 obtain⟨A,c,rfl,hA⟩:=hv
 have HA:=Lib.hid hA;clear hA
 have HF:=Lib.hid hf;clear hf
 have HO:=Lib.hid ho;clear ho
 go_enter Tryz.func43,Tryz.ntmps43
 go_wp2
 go_loopw [8] (fun i wr=>∃ k:Nat,k≤l.length∧i=.int .i64 k∧(∀ y ∈ l.take k,decide (y.what=q∧y.left=bytesN t)=false)∧wr=w) (fun i _=>l.length - (intOf i).toNat)
 case atStart=>exact⟨0,by omega,rfl,fun y hy=>by simp at hy,rfl⟩
 case round =>
  obtain⟨k,hk,rfl,hN,rfl⟩:=hrel
  by_cases hlt:k<l.length
  ·obtain⟨g,rfl,-,hg⟩:=HA.out (by omega)
   obtain⟨x,hx⟩:∃ x,l[k]?=some x:=⟨_,List.getElem?_eq_getElem hlt⟩
   obtain⟨g0,g1,-,-,-⟩:=rcell hg k x hx
   have hfx:=HF.out x (List.mem_of_getElem? hx)
   have hle:bytesOf x.left=t↔x.left=bytesN t:=⟨fun h=>by rw[← h,bytesN_bytesOf _ hfx.2.2.2.1],fun h=>by rw[h,bytesOf_bytesN]⟩
   have hyes:x.what=q∧x.left=bytesN t→some k=o:=fun h=>by rw[← HO.out];exact(first_here (p:=fun x=>decide (x.what=q∧x.left=bytesN t)) hx hN (decide_eq_true h)).symm
   have hno:¬ (x.what=q∧x.left=bytesN t)→∀ y ∈ l.take (k+1),decide (y.what=q∧y.left=bytesN t)=false:=fun h=>first_step (p:=fun x=>decide (x.what=q∧x.left=bytesN t)) hx hN (decide_eq_false h)
   obtain⟨xw,xl,xc,xp,xn⟩:=x
   obtain⟨L,hL⟩:∃ L,bytesOf xl=L:=⟨_,rfl⟩
   simp only[]at g0 g1 hle hyes hno
   rw[hL]at g1 hle
   clear hg HA HF hfx hx hN
   by_cases hq:xw=q
   ·subst hq
    by_cases hLt:L=t
    ·have HV:=Lib.hid (hyes ⟨rfl,hle.1 hLt⟩)
     subst hLt
     clear hyes hno hle
     go_wp2
     refine bodyPost_ret (v:=.tuple #[.int .i64 ((k:Nat):Int),.bool true]) (by simp[results,Tryz.f43,go_sem]) rfl ?_
     rw[← HV.out]
     exact⟨rfl,rfl⟩
    ·have HV:=Lib.hid (hno (fun h=>hLt (hle.2 h.2)))
     have hne:=toList_ne hLt
     clear hyes hno hle hLt
     go_wp2
     go_roundw
     case rel=>exact⟨k+1,by omega,by go_num,HV.out,trivial⟩
     case measure=>simp[intOf];omega
   ·have HV:=Lib.hid (hno (fun h=>hq h.1))
    have t1:(xw==q)=false:=beq_eq_false_iff_ne.2 hq
    clear hyes hno hle hq
    go_wp2
    go_roundw
    case rel=>exact⟨k+1,by omega,by go_num,HV.out,trivial⟩
    case measure=>simp[intOf];omega
  ·obtain rfl:k=l.length:=by omega
   have HV:=Lib.hid (show none=o by rw[← HO.out];exact(first_end (p:=fun x=>decide (x.what=q∧x.left=bytesN t)) hN).symm)
   clear hN
   go_wp2
   refine bodyPost_ret (v:=.tuple #[.int .i64 0,.bool false]) (by simp[results,Tryz.f43,go_sem]) rfl ?_
   rw[← HV.out]
   exact⟨rfl,rfl⟩
set_option maxHeartbeats 4000000 in
theorem rsign_any (v:Value) (l:List Rl) (off:Nat) (t:ByteArray) (hl:l.length≤1000000) (hf:∀ x ∈ l,FitR x) (s:ByteArray) (hs:bytesOf (signC l (bytesN t))=s) (w:World) (B:Nat) (hv:ReadsR off w B v l) :
  Calls Tryz.prog 89 #[v,.string t] w fun e w'=>e=.returned (.string s)∧w'=w:=by
 obtain⟨o,ho⟩:∃ o,findN l 8 (bytesN t)=o:=⟨_,rfl⟩
 have HQ:=Lib.hid (rfind_any v l off 8 t hl hf o ho w B hv)
 obtain⟨A,c,rfl,hA⟩:=hv
 have HA:=Lib.hid hA;clear hA
 have HS:=Lib.hid hs;clear hs
 have HO:=Lib.hid ho;clear ho
 clear hf
 cases o with
 | none =>
  have HQ2:=Lib.hid (show Calls Tryz.prog 43 #[.slice A l.length c,.int .i64 8,.string t] w fun e w'=>e=.returned (.tuple #[.int .i64 0,.bool false])∧w'=w from HQ.out)
  have HV:=Lib.hid (show { data:=#[] }=s by rw[← HS.out];unfold signC;rw[HO.out];rfl)
  clear HQ HO HS HA
  go_enter Tryz.func89,Tryz.ntmps89
  go_wp2_with fail
  refine HQ2.out.mono ?_
  rintro e w2 ⟨rfl,rfl⟩
  go_wp2
  go_ret
  rw[← HV.out]
  exact⟨rfl,rfl⟩
 | some k =>
  have HQ2:=Lib.hid (show Calls Tryz.prog 43 #[.slice A l.length c,.int .i64 8,.string t] w fun e w'=>e=.returned (.tuple #[.int .i64 ((k:Nat):Int),.bool true])∧w'=w from HQ.out)
  obtain⟨hkl,-,-⟩:=List.findIdx?_eq_some_iff_getElem.1 HO.out
  obtain⟨g,rfl,-,hg⟩:=HA.out (by omega)
  obtain⟨x,hx⟩:∃ x,l[k]?=some x:=⟨_,List.getElem?_eq_getElem hkl⟩
  obtain⟨-,-,g2,-,-⟩:=rcell hg k x hx
  have hv:bytesOf x.cells=s:=by rw[← HS.out];unfold signC;rw[HO.out];show _=bytesOf ((l[k]?.map (·.cells)).getD []);rw[hx];rfl
  rw[hv]at g2
  clear hg HA hx hv HQ HO HS
  go_enter Tryz.func89,Tryz.ntmps89
  go_wp2_with fail
  refine HQ2.out.mono ?_
  rintro e w2 ⟨rfl,rfl⟩
  go_wp2
  go_ret
  exact⟨rfl,rfl⟩
end Go.Proofs.YtlgejmcihchngaaGreatDoor.Ti
namespace Go.Proofs.YtlgejmcihchngaaGreatDoor.Ti
open Go.RowKit Go.Maps Ba Ru Ck
def zInt:DataW Unit:=.lit (.int .i64 0)
theorem zeroInt (w:World):(zeroValue 3).run Tryz.prog w=.ok (.int .i64 0) w:=by kernel_rfl
structure KeyKind {κ:Type} (K T:TypeId) (enc:κ→Value) (dom:κ→Prop):Prop where
 law:Keyed Tryz.prog K
 under:Tryz.prog.underlying T=some (.map K 3)
 key:∀ k,dom k→∃ l,keyOf Tryz.prog K (enc k)=some l
 inj:∀ k k',dom k→dom k'→enc k=enc k'→k=k'
section
variable {κ:Type} {K T:TypeId} {enc:κ→Value} {dom:κ→Prop} {w:World} {B n:Nat} {g:κ→Option Nat}
def MapIs (K:TypeId) (enc:κ→Value) (dom:κ→Prop) (w:World) (B n:Nat) (g:κ→Option Nat):Prop :=
 ∃ D:DataW Unit,w.ownsMap Tryz.prog K (plainElem Tryz.prog 3) B n D∧Maps.size D=n∧∀ k,dom k→∀ l,keyOf Tryz.prog K (enc k)=some l→Maps.has D l=okV (g k)∧D.atKey l zInt=.lit (.int .i64 (numV (g k)))
theorem MapIs.of_block {w':World} (h:MapIs K enc dom w B n g) (hb:w'.heap[B]?=w.heap[B]?):MapIs K enc dom w' B n g:=by
 obtain⟨D,⟨es,clock,h1,h2⟩,h3⟩:=h
 exact⟨D,⟨es,clock,hb.trans h1,h2⟩,h3⟩
theorem MapIs.lt (h:MapIs K enc dom w B n g):B<w.heap.size:=by
 obtain⟨D,h1,_⟩:=h
 exact h1.lt
theorem MapIs.new (K:TypeId) (enc:κ→Value) (dom:κ→Prop) (w:World):MapIs K enc dom (w.alloc (.map #[] 0)) w.heap.size 0 fun _=>none :=
 ⟨_,World.ownsMap_made w _ _ _,rfl,fun _ _ _ _=>⟨rfl,rfl⟩⟩
theorem MapIs.alike {g':κ→Option Nat} (h:MapIs K enc dom w B n g) (hg:∀ k,dom k→g k=g' k):MapIs K enc dom w B n g':=by
 obtain⟨D,h1,h2,h3⟩:=h
 exact⟨D,h1,h2,fun k hk l hl=>by rw[← hg k hk];exact h3 k hk l hl⟩
theorem MapIs.look (h:MapIs K enc dom w B n g) (KK:KeyKind K T enc dom) {k:κ} (hk:dom k) :
  (Instr.lookup T (.map (some B)) (enc k) true).run Tryz.prog w=.ok (.tuple #[.int .i64 (numV (g k)),.bool (okV (g k))]) w:=by
 obtain⟨D,h1,-,h3⟩:=h
 obtain⟨l,hl⟩:=KK.key k hk
 obtain⟨v,ps,hr,hv⟩:=h1.look_ok KK.law KK.under (zeroInt w) (plainElem_int Tryz.underlying3 (a:=0) (by decide)) hl
 obtain⟨c,rfl,hc,_⟩:=plainElem_int_inv Tryz.underlying3 hv
 obtain⟨e1,e2⟩:=h3 k hk l hl
 have hc:=congrArg Prod.fst hc
 unfold zInt at e2
 simp only[e2,DataW.lit.injEq,Lit.int.injEq,true_and]at hc
 rw[e1]at hr
 rw[hr,← hc]
theorem MapIs.count (h:MapIs K enc dom w B n g) (KK:KeyKind K T enc dom) (ty:TypeId):(Builtin.len_ #[T] ty #[.map (some B)]).run Tryz.prog w=.ok (.int .i64 (n:Int)) w:=by
 obtain⟨D,h1,h2,-⟩:=h
 rw[h1.len KK.under ty,h2]
def setK [DecidableEq κ] (g:κ→Option Nat) (x:κ) (r:Nat):κ→Option Nat:=fun y=>if y=x then some r else g y
theorem MapIs.put [DecidableEq κ] (h:MapIs K enc dom w B n g) (KK:KeyKind K T enc dom) (hn:n<maxLen) {k:κ} (hk:dom k) (hg:g k=none) {r:Nat} (hr:r≤maxLen) :
  ∃ w',(Instr.mapUpdate T (.map (some B)) (enc k) (.int .i64 (r:Int))).run Tryz.prog w=.ok () w'∧MapIs K enc dom w' B (n+1) (setK g k r)∧w.grownBy w' (some B):=by
 obtain⟨D,h1,h2,h3⟩:=h
 obtain⟨l,hl⟩:=KK.key k hk
 unfold maxLen at hr
 obtain⟨w',e1,e2,e3⟩:=h1.update KK.law KK.under hn hl (plainElem_int Tryz.underlying3 (a:=(r:Int)) (WalkArith.wf_i64 (by omega)))
 obtain⟨f1,-⟩:=h3 k hk l hl
 refine⟨w',e1,⟨_,e2,?_,fun y hy m hm=>?_⟩,e3⟩
 ·rw[size_put (h1.tidy KK.law),f1,hg,h2];rfl
 ·unfold setK
  by_cases he:y=k
  ·subst he
   rw[hl]at hm
   cases hm
   rw[if_pos rfl]
   exact⟨Maps.has_put_same h1.isMap (KK.law.key hl) _,Maps.atKey_put_same h1.isMap (KK.law.key hl) _ _⟩
  ·rw[if_neg he]
   have hne:m≠l:=fun e=>he (KK.inj y k hy hk (KK.law.inj (e▸hm) hl))
   rw[Maps.has_put_other hne,Maps.atKey_put_other hne]
   exact h3 y hy m hm
end
theorem laidOut:laidOutB Tryz.prog=true:=by kernel_rfl
theorem typesP:∃ d,Tryz.prog.types.size+1=d+2:=⟨_,rfl⟩
theorem wf8 {a:Nat} (ha:a<256):(Lit.int .u8 (a:Int)).wf=true:=by
 have h:∀ k:Fin 256,(Lit.int .u8 ((k.val:Nat):Int)).wf=true:=by decide +kernel
 exact h ⟨a,ha⟩
def stepV (x:Nat × Nat):Value:=.agg #[.int .i64 (x.1:Int),.int .u8 (x.2:Int)]
def stepD (x:Nat × Nat):Prop:=x.1≤maxLen∧x.2<256
theorem stepRow:(135:TypeId)<Tryz.prog.types.size:=of_decide_eq_true (by kernel_rfl)
theorem stepWide:(match Tryz.prog.underlying 135 with | some (.array _ _) | some (.struct _)=>true | _=>false)=true:=by rw[Tryz.underlying135]
theorem stepKey:Tryz.prog.keyTypeAt 2 135=true:=by kernel_rfl
theorem keyTypeS:Tryz.prog.keyType 135=true:=by kernel_rfl
theorem cellsS:Tryz.prog.cellsOf 135=2:=by kernel_rfl
theorem cellsI:Tryz.prog.cellsOf 3=1:=by kernel_rfl
theorem cellsB8:Tryz.prog.cellsOf 5=1:=by kernel_rfl
theorem cellsT:Tryz.prog.cellsOf 9=1:=by kernel_rfl
set_option maxRecDepth 100000 in
theorem stepKind:KeyKind 135 66 stepV stepD where
 law:=Keyed.of_law (deep_law_laid laidOut (m:=2) (by omega) stepRow stepKey stepWide)
 under:=Tryz.underlying66
 key:=fun x hx=>by
  obtain⟨d,hd⟩:=typesP
  have h1:(Lit.int .i64 (x.1:Int)).wf=true:=WalkArith.wf_i64 (by have:=hx.1;unfold maxLen at this;omega)
  have h2:=wf8 hx.2
  unfold keyOf stepV
  rw[Tryz.underlying135]
  simp only[keyTypeS,hd]
  simp[Value.formed,Tryz.underlying135,cellsS,Program.keyLits,Tryz.underlying3,Tryz.underlying5,cellsI,cellsB8,h1,h2,Value.cells]
 inj:=fun x y _ _ e=>by
  unfold stepV at e
  simp at e
  exact Prod.ext (by omega) (by omega)
def aboutV (x:Int × List Nat):Value:=.agg #[.int .i64 x.1,.string (bytesOf x.2)]
def aboutD (x:Int × List Nat):Prop:=I64 x.1∧x.2.length≤maxLen∧∀ b ∈ x.2,b<256
theorem aboutRow:(102:TypeId)<Tryz.prog.types.size:=of_decide_eq_true (by kernel_rfl)
theorem aboutWide:(match Tryz.prog.underlying 102 with | some (.array _ _) | some (.struct _)=>true | _=>false)=true:=by rw[Tryz.underlying102]
theorem aboutKey:Tryz.prog.keyTypeAt 2 102=true:=by kernel_rfl
theorem keyTypeA:Tryz.prog.keyType 102=true:=by kernel_rfl
theorem cellsA:Tryz.prog.cellsOf 102=2:=by kernel_rfl
theorem size_bytesOf (s:List Nat):(bytesOf s).size=s.length:=by simp[bytesOf,ByteArray.size]
set_option maxRecDepth 100000 in
theorem aboutKind:KeyKind 102 65 aboutV aboutD where
 law:=Keyed.of_law (deep_law_laid laidOut (m:=2) (by omega) aboutRow aboutKey aboutWide)
 under:=Tryz.underlying65
 key:=fun x hx=>by
  obtain⟨d,hd⟩:=typesP
  have h1:(Lit.int .i64 x.1).wf=true:=WalkArith.wf_i64 (by have:=hx.1;unfold I64 at this;omega)
  have h2:(bytesOf x.2).size≤maxLen:=by rw[size_bytesOf];exact hx.2.1
  unfold keyOf aboutV
  rw[Tryz.underlying102]
  simp only[keyTypeA,hd]
  simp[Value.formed,Tryz.underlying102,cellsA,Program.keyLits,Tryz.underlying3,Tryz.underlying9,cellsI,cellsT,h1,h2,Value.cells]
 inj:=fun x y hx hy e=>by
  unfold aboutV at e
  simp only[Value.agg.injEq,Array.mk.injEq,List.cons.injEq,Value.int.injEq,Value.string.injEq,true_and,and_true]at e
  exact Prod.ext e.1 (bytesOf_inj hx.2.2 hy.2.2 e.2)
def wordV (s:List Nat):Value:=.string (bytesOf s)
def wordD (s:List Nat):Prop:=s.length≤maxLen∧∀ b ∈ s,b<256
theorem wordKind:KeyKind 9 64 wordV wordD where
 law:=string_keyed Tryz.underlying9
 under:=Tryz.underlying64
 key:=fun s hs=>⟨_,WideMaps.keyOf_string_mk Tryz.underlying9 (by rw[size_bytesOf];exact hs.1)⟩
 inj:=fun x y hx hy e=>by
  unfold wordV at e
  exact bytesOf_inj hx.2 hy.2 (by simpa using e)
def placeV (p:Nat):Value:=.int .i64 (p:Int)
def placeD (p:Nat):Prop:=p≤maxLen
theorem placeKind:KeyKind 3 67 placeV placeD where
 law:=int_keyed Tryz.underlying3
 under:=Tryz.underlying67
 key:=fun p hp=>⟨_,keyOf_int_mk Tryz.underlying3 (WalkArith.wf_i64 (by unfold placeD maxLen at hp;omega))⟩
 inj:=fun x y _ _ e=>by
  unfold placeV at e
  simp at e
  omega
end Go.Proofs.YtlgejmcihchngaaGreatDoor.Ti
