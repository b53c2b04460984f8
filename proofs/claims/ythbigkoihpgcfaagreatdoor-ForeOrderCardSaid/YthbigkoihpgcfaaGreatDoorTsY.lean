/-
  Put together.
-/
import Derived.Test.YthbigkoihpgcfaaGreatDoorVm
open Go.Lib (hid)
set_option maxRecDepth 100000
set_option maxHeartbeats 16000000
namespace Go.Proofs.YthbigkoihpgcfaaGreatDoor.Tr
open Go.RowKit
def tZ (s:ByteArray):Bool:=decide (s.size≠0) && decide (l8 mK s=s.size)
def xG (x:Nd) (e:Int) (k:Nat) (o:St):Option St :=
 if x.size<1∨e - (k:Int)<x.size then none
 else if x.kind=46 then (if x.size=1∧tZ x.text=true∧pU o.lv 46=true then some (vS o x.text.size) else none)
 else if x.text.size=0∧pU o.lv x.kind=true then some (lK o x.kind) else none
structure lL (o:St):Prop where
 nodes:o.nodes<1000000
 parts:(cH o.lv).parts<1000000
 tQ:∀ c,(cH (bG o c).lv).parts<1000000
 lists:(cH o.lv).lists<1000000
 len:o.lv.length<1000000
 bytes:∀ b ∈ o.lv,b.bytes<4611686018427387904
structure K9 (w w1:World) (N P M n L off g g5:Nat) (o:St) (v:Value) (t:List Nd) (x:Nd):Prop where
 ch:oR w1 N P M n L o v off g t
 fr:Fr P L w w1
 k0:w1.cell? ⟨g5,0,none⟩=some (.int .u8 (x.kind:Int))
 k1:w1.cell? ⟨g5,1,none⟩=some (.string x.text)
 k2:w1.cell? ⟨g5,2,none⟩=some (.int .i64 x.place)
 k3:w1.cell? ⟨g5,3,none⟩=some (.int .i64 x.size)
 gP:P<g5
 gL:L<g5
 gw:g5<w1.heap.size
theorem K9.start {w:World} {N P M n L off g:Nat} {o:St} {v:Value} {t:List Nd} (h:oR w N P M n L o v off g t) (x:Nd) (T:TypeId):K9 w (w.alloc (.cells #[.int .u8 (x.kind:Int),.string x.text,.int .i64 x.place,.int .i64 x.size] T)) N P M n L off g w.heap.size o v t x:=by
 have hB:=(Below.refl w.heap.size w).alloc (Nat.le_refl _) (.cells #[.int .u8 (x.kind:Int),.string x.text,.int .i64 x.place,.int .i64 x.size] T)
 refine⟨h.below hB,Fr.dB hB h.op.tV,?_,?_,?_,?_,h.op.tV,h.op.uB.1,?_⟩<;>simp
theorem K9.drewN {w w1:World} {N P M n L off g g5:Nat} {o:St} {v:Value} {t:List Nd} {x:Nd} (h:K9 w w1 N P M n L off g g5 o v t x) (j:Nat):K9 w (w1.drewN j) N P M n L off g g5 o v t x :=
 ⟨h.ch.of_heap rfl,h.fr.drewN j,h.k0,h.k1,h.k2,h.k3,h.gP,h.gL,h.gw⟩
theorem K9.drew {w w1:World} {N P M n L off g g5:Nat} {o:St} {v:Value} {t:List Nd} {x:Nd} (h:K9 w w1 N P M n L off g g5 o v t x):K9 w w1.drew N P M n L off g g5 o v t x:=h.drewN 1
theorem OS {w:World} {N P M n L off g c:Nat} {o:St} {A:Option Addr} {t:List Nd} (h:oR w N P M n L o (.slice A t.length c) off g t) (hA:0<t.length→A=some ⟨g,off,none⟩) (hl:t.length≤9000) (hL:Ka.Laid w)
  (hst:1<o.lv.length→∃ x,t[(cH o.lv).start]?=some x∧0≤x.size∧x.size≤9000) (e:Int) (he:gS t o=e) (he9:0≤e∧e≤20000) (k q:Nat) (tx:ByteArray) (pl sz:Int) (hx:t[k]?=some ⟨q,tx,pl,sz⟩) (_hq:q<256) (_htx:tx.size≤9000) (_hsz:-9223372036854775808≤sz∧sz≤9223372036854775807) (_hS:lL o) (hR:sz<1) :
  Calls Tryz.prog 100 #[.pointer (some ⟨P,0,none⟩),.int .i64 (k:Int)] w fun e w'=>e=.returned (.bool false)∧Below N w w':=by
 have hk:=(List.getElem?_eq_some_iff.1 hx).1
 have HB:=hid (K9.start h ⟨q,tx,pl,sz⟩ 188)
 have HE:=hid (mL HB.out.ch hA hl hst e he)
 obtain⟨d0,d1,d2,d3⟩:=h.rd k _ hx
 simp only[]at d0 d1 d2 d3
 have c5:=h.c5
 obtain rfl:=hA (by omega)
 have hP:=h.op.tV
 have j0:(0:Int)≤(k:Int):=by omega
 have j1:(k:Int)<(t.length:Int):=by omega
 have hLe:=h.op.FT
 have hLl:=h.op.uB.2
 have hNw:=h.op.ZW
 have hLa:=hL.below ((Below.refl w.heap.size w).alloc (Nat.le_refl _) (.cells #[.int .u8 (q:Int),.string tx,.int .i64 pl,.int .i64 sz] 188)) hL.1
 have HLA:=hid (fun(W:World) (hW:W.heap=(w.alloc (.cells #[.int .u8 (q:Int),.string tx,.int .i64 pl,.int .i64 sz] 188)).heap)=>(⟨by rw[hW];exact hLa.1,fun i hi=>(World.cell?_of_block (w:=w.alloc (.cells #[.int .u8 (q:Int),.string tx,.int .i64 pl,.int .i64 sz] 188)) (by rw[hW])).trans (hLa.2 i hi)⟩:Ka.Laid W))
 have z1:decide (sz<1)=true:=decide_eq_true hR
 clear h hst hx hA he hL hLa
 go_enter Tryz.func100,Tryz.ntmps100
 go_wp2_with (first
  |(go_at_call 141;refine HE.out.mono ?_;rintro e w' ⟨rfl,j,rfl⟩;have h1:=HB.out.drewN j;have hla:∀ W:World,W.heap=((w.alloc (.cells #[.int .u8 (q:Int),.string tx,.int .i64 pl,.int .i64 sz] 188)).drewN j).heap→Ka.Laid W:=HLA.out;clear HB HE HLA d0 d1 d2 d3 c5 hP;generalize (w.alloc (.cells #[.int .u8 (q:Int),.string tx,.int .i64 pl,.int .i64 sz] 188)).drewN j=w1 at h1 hla ⊢;generalize w.heap.size=g5 at h1 ⊢;have k0:=h1.k0;have k1:=h1.k1;have k2:=h1.k2;have k3:=h1.k3;have gP:=h1.gP;have gL:=h1.gL;have gw:=h1.gw;simp only[]at k0 k1 k2 k3;replace h1:=hid h1;replace hla:=hid hla))
 go_ret
 exact⟨rfl,(h1.out.fr).below hLe hLl hNw⟩
theorem OT {w:World} {N P M n L off g c:Nat} {o:St} {A:Option Addr} {t:List Nd} (h:oR w N P M n L o (.slice A t.length c) off g t) (hA:0<t.length→A=some ⟨g,off,none⟩) (hl:t.length≤9000) (hL:Ka.Laid w)
  (hst:1<o.lv.length→∃ x,t[(cH o.lv).start]?=some x∧0≤x.size∧x.size≤9000) (e:Int) (he:gS t o=e) (he9:0≤e∧e≤20000) (k q:Nat) (tx:ByteArray) (pl sz:Int) (hx:t[k]?=some ⟨q,tx,pl,sz⟩) (_hq:q<256) (_htx:tx.size≤9000) (hsz:-9223372036854775808≤sz∧sz≤9223372036854775807) (_hS:lL o) (hR:¬ sz<1) (hR2:e - (k:Int)<sz) :
  Calls Tryz.prog 100 #[.pointer (some ⟨P,0,none⟩),.int .i64 (k:Int)] w fun e w'=>e=.returned (.bool false)∧Below N w w':=by
 have hk:=(List.getElem?_eq_some_iff.1 hx).1
 have HB:=hid (K9.start h ⟨q,tx,pl,sz⟩ 188)
 have HE:=hid (mL HB.out.ch hA hl hst e he)
 obtain⟨d0,d1,d2,d3⟩:=h.rd k _ hx
 simp only[]at d0 d1 d2 d3
 have c5:=h.c5
 obtain rfl:=hA (by omega)
 have hP:=h.op.tV
 have j0:(0:Int)≤(k:Int):=by omega
 have j1:(k:Int)<(t.length:Int):=by omega
 have hLe:=h.op.FT
 have hLl:=h.op.uB.2
 have hNw:=h.op.ZW
 have hLa:=hL.below ((Below.refl w.heap.size w).alloc (Nat.le_refl _) (.cells #[.int .u8 (q:Int),.string tx,.int .i64 pl,.int .i64 sz] 188)) hL.1
 have HLA:=hid (fun(W:World) (hW:W.heap=(w.alloc (.cells #[.int .u8 (q:Int),.string tx,.int .i64 pl,.int .i64 sz] 188)).heap)=>(⟨by rw[hW];exact hLa.1,fun i hi=>(World.cell?_of_block (w:=w.alloc (.cells #[.int .u8 (q:Int),.string tx,.int .i64 pl,.int .i64 sz] 188)) (by rw[hW])).trans (hLa.2 i hi)⟩:Ka.Laid W))
 have z1:decide (sz<1)=false:=decide_eq_false hR
 have z2:decide (e - (k:Int)<sz)=true:=decide_eq_true hR2
 clear h hst hx hA he hL hLa
 go_enter Tryz.func100,Tryz.ntmps100
 go_wp2_with (first
  |(go_at_call 141;refine HE.out.mono ?_;rintro e w' ⟨rfl,j,rfl⟩;have h1:=HB.out.drewN j;have hla:∀ W:World,W.heap=((w.alloc (.cells #[.int .u8 (q:Int),.string tx,.int .i64 pl,.int .i64 sz] 188)).drewN j).heap→Ka.Laid W:=HLA.out;clear HB HE HLA d0 d1 d2 d3 c5 hP;generalize (w.alloc (.cells #[.int .u8 (q:Int),.string tx,.int .i64 pl,.int .i64 sz] 188)).drewN j=w1 at h1 hla ⊢;generalize w.heap.size=g5 at h1 ⊢;have k0:=h1.k0;have k1:=h1.k1;have k2:=h1.k2;have k3:=h1.k3;have gP:=h1.gP;have gL:=h1.gL;have gw:=h1.gw;simp only[]at k0 k1 k2 k3;replace h1:=hid h1;replace hla:=hid hla))
 go_ret
 exact⟨rfl,(h1.out.fr).below hLe hLl hNw⟩
theorem UF {w:World} {N P M n L off g c:Nat} {o:St} {A:Option Addr} {t:List Nd} (h:oR w N P M n L o (.slice A t.length c) off g t) (hA:0<t.length→A=some ⟨g,off,none⟩) (hl:t.length≤9000) (hL:Ka.Laid w)
  (hst:1<o.lv.length→∃ x,t[(cH o.lv).start]?=some x∧0≤x.size∧x.size≤9000) (e:Int) (he:gS t o=e) (he9:0≤e∧e≤20000) (k q:Nat) (tx:ByteArray) (pl sz:Int) (hx:t[k]?=some ⟨q,tx,pl,sz⟩) (_hq:q<256) (_htx:tx.size≤9000) (hsz:-9223372036854775808≤sz∧sz≤9223372036854775807) (_hS:lL o) (hR:¬ (sz<1∨e - (k:Int)<sz)) (h46:q=46) (h1s:sz≠1) :
  Calls Tryz.prog 100 #[.pointer (some ⟨P,0,none⟩),.int .i64 (k:Int)] w fun e w'=>e=.returned (.bool false)∧Below N w w':=by
 have hk:=(List.getElem?_eq_some_iff.1 hx).1
 have HB:=hid (K9.start h ⟨q,tx,pl,sz⟩ 188)
 have HE:=hid (mL HB.out.ch hA hl hst e he)
 obtain⟨d0,d1,d2,d3⟩:=h.rd k _ hx
 simp only[]at d0 d1 d2 d3
 have c5:=h.c5
 obtain rfl:=hA (by omega)
 have hP:=h.op.tV
 have j0:(0:Int)≤(k:Int):=by omega
 have j1:(k:Int)<(t.length:Int):=by omega
 have hLe:=h.op.FT
 have hLl:=h.op.uB.2
 have hNw:=h.op.ZW
 have hLa:=hL.below ((Below.refl w.heap.size w).alloc (Nat.le_refl _) (.cells #[.int .u8 (q:Int),.string tx,.int .i64 pl,.int .i64 sz] 188)) hL.1
 have HLA:=hid (fun(W:World) (hW:W.heap=(w.alloc (.cells #[.int .u8 (q:Int),.string tx,.int .i64 pl,.int .i64 sz] 188)).heap)=>(⟨by rw[hW];exact hLa.1,fun i hi=>(World.cell?_of_block (w:=w.alloc (.cells #[.int .u8 (q:Int),.string tx,.int .i64 pl,.int .i64 sz] 188)) (by rw[hW])).trans (hLa.2 i hi)⟩:Ka.Laid W))
 have s1:1≤sz:=by omega
 have s2:sz≤e - (k:Int):=by omega
 have z1:decide (sz<1)=false:=decide_eq_false (by omega)
 have z2:decide (e - (k:Int)<sz)=false:=decide_eq_false (by omega)
 clear hR
 have t1:((q:Int)==46)=true:=tU h46
 clear h46
 have z3:(sz==1)=false:=beq_eq_false_iff_ne.2 h1s
 clear h hst hx hA he hL hLa
 go_enter Tryz.func100,Tryz.ntmps100
 go_wp2_with (first
  |(go_at_call 141;refine HE.out.mono ?_;rintro e w' ⟨rfl,j,rfl⟩;have h1:=HB.out.drewN j;have hla:∀ W:World,W.heap=((w.alloc (.cells #[.int .u8 (q:Int),.string tx,.int .i64 pl,.int .i64 sz] 188)).drewN j).heap→Ka.Laid W:=HLA.out;clear HB HE HLA d0 d1 d2 d3 c5 hP;generalize (w.alloc (.cells #[.int .u8 (q:Int),.string tx,.int .i64 pl,.int .i64 sz] 188)).drewN j=w1 at h1 hla ⊢;generalize w.heap.size=g5 at h1 ⊢;have k0:=h1.k0;have k1:=h1.k1;have k2:=h1.k2;have k3:=h1.k3;have gP:=h1.gP;have gL:=h1.gL;have gw:=h1.gw;simp only[]at k0 k1 k2 k3;replace h1:=hid h1;replace hla:=hid hla))
 go_big_quiet (fail)
 go_wp2
 go_ret
 exact⟨rfl,(h1.out.fr.drewN _).below hLe hLl hNw⟩
theorem LA {w:World} {N P M n L off g c:Nat} {o:St} {A:Option Addr} {t:List Nd} (h:oR w N P M n L o (.slice A t.length c) off g t) (hA:0<t.length→A=some ⟨g,off,none⟩) (hl:t.length≤9000) (hL:Ka.Laid w)
  (hst:1<o.lv.length→∃ x,t[(cH o.lv).start]?=some x∧0≤x.size∧x.size≤9000) (e:Int) (he:gS t o=e) (he9:0≤e∧e≤20000) (k q:Nat) (tx:ByteArray) (pl:Int) (hx:t[k]?=some ⟨q,tx,pl,1⟩) (_hq:q<256) (htx:tx.size≤9000) (_hS:lL o) (hR:¬ ((1:Int)<1∨e - (k:Int)<1)) (h46:q=46) (hT:tZ tx=false) :
  Calls Tryz.prog 100 #[.pointer (some ⟨P,0,none⟩),.int .i64 (k:Int)] w fun e w'=>e=.returned (.bool false)∧Below N w w':=by
 have hk:=(List.getElem?_eq_some_iff.1 hx).1
 have HB:=hid (K9.start h ⟨q,tx,pl,1⟩ 188)
 have HE:=hid (mL HB.out.ch hA hl hst e he)
 obtain⟨d0,d1,d2,d3⟩:=h.rd k _ hx
 simp only[]at d0 d1 d2 d3
 have c5:=h.c5
 obtain rfl:=hA (by omega)
 have hP:=h.op.tV
 have j0:(0:Int)≤(k:Int):=by omega
 have j1:(k:Int)<(t.length:Int):=by omega
 have hLe:=h.op.FT
 have hLl:=h.op.uB.2
 have hNw:=h.op.ZW
 have hLa:=hL.below ((Below.refl w.heap.size w).alloc (Nat.le_refl _) (.cells #[.int .u8 (q:Int),.string tx,.int .i64 pl,.int .i64 1] 188)) hL.1
 have HLA:=hid (fun(W:World) (hW:W.heap=(w.alloc (.cells #[.int .u8 (q:Int),.string tx,.int .i64 pl,.int .i64 1] 188)).heap)=>(⟨by rw[hW];exact hLa.1,fun i hi=>(World.cell?_of_block (w:=w.alloc (.cells #[.int .u8 (q:Int),.string tx,.int .i64 pl,.int .i64 1] 188)) (by rw[hW])).trans (hLa.2 i hi)⟩:Ka.Laid W))
 have s1:(1:Int)≤1:=by omega
 have s2:1≤e - (k:Int):=by omega
 have z1:decide ((1:Int)<1)=false:=decide_eq_false (by omega)
 have z2:decide (e - (k:Int)<1)=false:=decide_eq_false (by omega)
 clear hR
 have t1:((q:Int)==46)=true:=tU h46
 clear h46
 have HT:=hid (fun(W:World) (hW:Ka.Laid W)=>vW tx (by unfold maxLen;omega) false hT W hW)
 have HV:=hid True.intro
 clear hT
 clear h hst hx hA he hL hLa
 go_enter Tryz.func100,Tryz.ntmps100
 go_wp2_with (first
  |(go_at_call 141;refine HE.out.mono ?_;rintro e w' ⟨rfl,j,rfl⟩;have h1:=HB.out.drewN j;have hla:∀ W:World,W.heap=((w.alloc (.cells #[.int .u8 (q:Int),.string tx,.int .i64 pl,.int .i64 1] 188)).drewN j).heap→Ka.Laid W:=HLA.out;clear HB HE HLA d0 d1 d2 d3 c5 hP;generalize (w.alloc (.cells #[.int .u8 (q:Int),.string tx,.int .i64 pl,.int .i64 1] 188)).drewN j=w1 at h1 hla ⊢;generalize w.heap.size=g5 at h1 ⊢;have k0:=h1.k0;have k1:=h1.k1;have k2:=h1.k2;have k3:=h1.k3;have gP:=h1.gP;have gL:=h1.gL;have gw:=h1.gw;simp only[]at k0 k1 k2 k3;replace h1:=hid h1;replace hla:=hid hla))
 go_big_quiet ((first | (go_at_call 143;exact Calls.quiet_of_same (Calls.mono (HT.out _ (hla.out _ (by rfl))) fun _ _ h=>⟨h.1,h.2.symm⟩))))
 go_wp2
 go_ret
 exact⟨rfl,(h1.out.fr.drewN _).below hLe hLl hNw⟩
theorem LB {w:World} {N P M n L off g c:Nat} {o:St} {A:Option Addr} {t:List Nd} (h:oR w N P M n L o (.slice A t.length c) off g t) (hA:0<t.length→A=some ⟨g,off,none⟩) (hl:t.length≤9000) (hL:Ka.Laid w)
  (hst:1<o.lv.length→∃ x,t[(cH o.lv).start]?=some x∧0≤x.size∧x.size≤9000) (e:Int) (he:gS t o=e) (he9:0≤e∧e≤20000) (k q:Nat) (tx:ByteArray) (pl:Int) (hx:t[k]?=some ⟨q,tx,pl,1⟩) (_hq:q<256) (htx:tx.size≤9000) (_hS:lL o) (hR:¬ ((1:Int)<1∨e - (k:Int)<1)) (h46:q=46) (hT:tZ tx=true) (hV:pU o.lv 46=false) :
  Calls Tryz.prog 100 #[.pointer (some ⟨P,0,none⟩),.int .i64 (k:Int)] w fun e w'=>e=.returned (.bool false)∧Below N w w':=by
 have hk:=(List.getElem?_eq_some_iff.1 hx).1
 have HB:=hid (K9.start h ⟨q,tx,pl,1⟩ 188)
 have HE:=hid (mL HB.out.ch hA hl hst e he)
 obtain⟨d0,d1,d2,d3⟩:=h.rd k _ hx
 simp only[]at d0 d1 d2 d3
 have c5:=h.c5
 obtain rfl:=hA (by omega)
 have hP:=h.op.tV
 have j0:(0:Int)≤(k:Int):=by omega
 have j1:(k:Int)<(t.length:Int):=by omega
 have hLe:=h.op.FT
 have hLl:=h.op.uB.2
 have hNw:=h.op.ZW
 have hLa:=hL.below ((Below.refl w.heap.size w).alloc (Nat.le_refl _) (.cells #[.int .u8 (q:Int),.string tx,.int .i64 pl,.int .i64 1] 188)) hL.1
 have HLA:=hid (fun(W:World) (hW:W.heap=(w.alloc (.cells #[.int .u8 (q:Int),.string tx,.int .i64 pl,.int .i64 1] 188)).heap)=>(⟨by rw[hW];exact hLa.1,fun i hi=>(World.cell?_of_block (w:=w.alloc (.cells #[.int .u8 (q:Int),.string tx,.int .i64 pl,.int .i64 1] 188)) (by rw[hW])).trans (hLa.2 i hi)⟩:Ka.Laid W))
 have s1:(1:Int)≤1:=by omega
 have s2:1≤e - (k:Int):=by omega
 have z1:decide ((1:Int)<1)=false:=decide_eq_false (by omega)
 have z2:decide (e - (k:Int)<1)=false:=decide_eq_false (by omega)
 clear hR
 have t1:((q:Int)==46)=true:=tU h46
 clear h46
 have HT:=hid (fun(W:World) (hW:Ka.Laid W)=>vW tx (by unfold maxLen;omega) true hT W hW)
 have HV:=hid hV
 clear hT hV
 clear h hst hx hA he hL hLa
 go_enter Tryz.func100,Tryz.ntmps100
 go_wp2_with (first
  |(go_at_call 141;refine HE.out.mono ?_;rintro e w' ⟨rfl,j,rfl⟩;have h1:=HB.out.drewN j;have hla:∀ W:World,W.heap=((w.alloc (.cells #[.int .u8 (q:Int),.string tx,.int .i64 pl,.int .i64 1] 188)).drewN j).heap→Ka.Laid W:=HLA.out;clear HB HE HLA d0 d1 d2 d3 c5 hP;generalize (w.alloc (.cells #[.int .u8 (q:Int),.string tx,.int .i64 pl,.int .i64 1] 188)).drewN j=w1 at h1 hla ⊢;generalize w.heap.size=g5 at h1 ⊢;have k0:=h1.k0;have k1:=h1.k1;have k2:=h1.k2;have k3:=h1.k3;have gP:=h1.gP;have gL:=h1.gL;have gw:=h1.gw;simp only[]at k0 k1 k2 k3;replace h1:=hid h1;replace hla:=hid hla))
 go_big_quiet ((first | (go_at_call 143;exact Calls.quiet_of_same (Calls.mono (HT.out _ (hla.out _ (by rfl))) fun _ _ h=>⟨h.1,h.2.symm⟩)) | (go_at_call 144;exact Calls.quiet_of (aEO (h1.out.ch.op.drewN _) tx.size HV.out))))
 go_wp2
 go_ret
 exact⟨rfl,(h1.out.fr.drewN _).below hLe hLl hNw⟩
theorem UG {w:World} {N P M n L off g c:Nat} {o:St} {A:Option Addr} {t:List Nd} (h:oR w N P M n L o (.slice A t.length c) off g t) (hA:0<t.length→A=some ⟨g,off,none⟩) (hl:t.length≤9000) (hL:Ka.Laid w)
  (hst:1<o.lv.length→∃ x,t[(cH o.lv).start]?=some x∧0≤x.size∧x.size≤9000) (e:Int) (he:gS t o=e) (he9:0≤e∧e≤20000) (k q:Nat) (tx:ByteArray) (pl:Int) (hx:t[k]?=some ⟨q,tx,pl,1⟩) (_hq:q<256) (htx:tx.size≤9000) (hS:lL o) (hR:¬ ((1:Int)<1∨e - (k:Int)<1)) (h46:q=46) (hT:tZ tx=true) (hV:pU o.lv 46=true) :
  Calls Tryz.prog 100 #[.pointer (some ⟨P,0,none⟩),.int .i64 (k:Int)] w fun e w'=>e=.returned (.bool true)∧∃ L',oR w' N P M n L' (vS o tx.size) (.slice A t.length c) off g t∧(L'=L∨w.heap.size≤L')∧Fr P L w w':=by
 have hk:=(List.getElem?_eq_some_iff.1 hx).1
 have HB:=hid (K9.start h ⟨q,tx,pl,1⟩ 188)
 have HE:=hid (mL HB.out.ch hA hl hst e he)
 obtain⟨d0,d1,d2,d3⟩:=h.rd k _ hx
 simp only[]at d0 d1 d2 d3
 have c5:=h.c5
 obtain rfl:=hA (by omega)
 have hP:=h.op.tV
 have j0:(0:Int)≤(k:Int):=by omega
 have j1:(k:Int)<(t.length:Int):=by omega
 have hLe:=h.op.FT
 have hLl:=h.op.uB.2
 have hNw:=h.op.ZW
 have hLa:=hL.below ((Below.refl w.heap.size w).alloc (Nat.le_refl _) (.cells #[.int .u8 (q:Int),.string tx,.int .i64 pl,.int .i64 1] 188)) hL.1
 have HLA:=hid (fun(W:World) (hW:W.heap=(w.alloc (.cells #[.int .u8 (q:Int),.string tx,.int .i64 pl,.int .i64 1] 188)).heap)=>(⟨by rw[hW];exact hLa.1,fun i hi=>(World.cell?_of_block (w:=w.alloc (.cells #[.int .u8 (q:Int),.string tx,.int .i64 pl,.int .i64 1] 188)) (by rw[hW])).trans (hLa.2 i hi)⟩:Ka.Laid W))
 have s1:(1:Int)≤1:=by omega
 have s2:1≤e - (k:Int):=by omega
 have z1:decide ((1:Int)<1)=false:=decide_eq_false (by omega)
 have z2:decide (e - (k:Int)<1)=false:=decide_eq_false (by omega)
 clear hR
 have t1:((q:Int)==46)=true:=tU h46
 clear h46
 have HT:=hid (fun(W:World) (hW:Ka.Laid W)=>vW tx (by unfold maxLen;omega) true hT W hW)
 have HV:=hid hV
 have HS:=hid hS
 have z3:((1:Int)==1)=true:=rfl
 clear hT hV hS z3
 clear h hst hx hA he hL hLa
 go_enter Tryz.func100,Tryz.ntmps100
 go_wp2_with (first
  |(go_at_call 141;refine HE.out.mono ?_;rintro e w' ⟨rfl,j,rfl⟩;have h1:=HB.out.drewN j;have hla:∀ W:World,W.heap=((w.alloc (.cells #[.int .u8 (q:Int),.string tx,.int .i64 pl,.int .i64 1] 188)).drewN j).heap→Ka.Laid W:=HLA.out;clear HB HE HLA d0 d1 d2 d3 c5 hP;generalize (w.alloc (.cells #[.int .u8 (q:Int),.string tx,.int .i64 pl,.int .i64 1] 188)).drewN j=w1 at h1 hla ⊢;generalize w.heap.size=g5 at h1 ⊢;have k0:=h1.k0;have k1:=h1.k1;have k2:=h1.k2;have k3:=h1.k3;have gP:=h1.gP;have gL:=h1.gL;have gw:=h1.gw;simp only[]at k0 k1 k2 k3;replace h1:=hid h1;replace hla:=hid hla))
 go_region_held3 (fun w'=>w'.cell? ⟨g5,1,none⟩=some (.string tx)∧w'.cell? ⟨g5,3,none⟩=some (.int .i64 1)) (first | exact⟨k1,k3⟩ | exact e7.out)
  (first
   |(go_at_call 143;refine Calls.mono (HT.out _ (hla.out _ (by rfl))) ?_;rintro e w6 ⟨rfl,rfl⟩)
   |(go_at_call 144;refine(aCL (h1.out.drew.ch.op) tx.size HV.out (by have:=HS.out.parts;omega) (by have:=HS.out.nodes;omega) ⟨by omega,HS.out.bytes⟩).mono ?_;rintro e w7 ⟨rfl,h7,hf7⟩;have e7:=hid (show w7.cell? ⟨g5,1,none⟩=some (.string tx)∧w7.cell? ⟨g5,3,none⟩=some (.int .i64 1) from ⟨(World.cell?_of_block (w:=w1.drew) (a:=⟨g5,1,none⟩) (hf7.block g5 gw (by omega) (by omega))).trans k1,(World.cell?_of_block (w:=w1.drew) (a:=⟨g5,3,none⟩) (hf7.block g5 gw (by omega) (by omega))).trans k3⟩);replace h7:=hid h7;replace hf7:=hid hf7))
 go_wp2
 go_ret
 exact⟨rfl,L,h1.out.drew.ch.next h7.out hf7.out (.inl rfl),.inl rfl,h1.out.drew.fr.trans hf7.out (.inl rfl)⟩
theorem LC {w:World} {N P M n L off g c:Nat} {o:St} {A:Option Addr} {t:List Nd} (h:oR w N P M n L o (.slice A t.length c) off g t) (hA:0<t.length→A=some ⟨g,off,none⟩) (hl:t.length≤9000) (hL:Ka.Laid w)
  (hst:1<o.lv.length→∃ x,t[(cH o.lv).start]?=some x∧0≤x.size∧x.size≤9000) (e:Int) (he:gS t o=e) (he9:0≤e∧e≤20000) (k q:Nat) (tx:ByteArray) (pl sz:Int) (hx:t[k]?=some ⟨q,tx,pl,sz⟩) (_hq:q<256) (htx:tx.size≤9000) (hsz:-9223372036854775808≤sz∧sz≤9223372036854775807) (_hS:lL o) (hR:¬ (sz<1∨e - (k:Int)<sz)) (h46:q≠46) (h0:tx.size≠0) :
  Calls Tryz.prog 100 #[.pointer (some ⟨P,0,none⟩),.int .i64 (k:Int)] w fun e w'=>e=.returned (.bool false)∧Below N w w':=by
 have hk:=(List.getElem?_eq_some_iff.1 hx).1
 have HB:=hid (K9.start h ⟨q,tx,pl,sz⟩ 188)
 have HE:=hid (mL HB.out.ch hA hl hst e he)
 obtain⟨d0,d1,d2,d3⟩:=h.rd k _ hx
 simp only[]at d0 d1 d2 d3
 have c5:=h.c5
 obtain rfl:=hA (by omega)
 have hP:=h.op.tV
 have j0:(0:Int)≤(k:Int):=by omega
 have j1:(k:Int)<(t.length:Int):=by omega
 have hLe:=h.op.FT
 have hLl:=h.op.uB.2
 have hNw:=h.op.ZW
 have hLa:=hL.below ((Below.refl w.heap.size w).alloc (Nat.le_refl _) (.cells #[.int .u8 (q:Int),.string tx,.int .i64 pl,.int .i64 sz] 188)) hL.1
 have HLA:=hid (fun(W:World) (hW:W.heap=(w.alloc (.cells #[.int .u8 (q:Int),.string tx,.int .i64 pl,.int .i64 sz] 188)).heap)=>(⟨by rw[hW];exact hLa.1,fun i hi=>(World.cell?_of_block (w:=w.alloc (.cells #[.int .u8 (q:Int),.string tx,.int .i64 pl,.int .i64 sz] 188)) (by rw[hW])).trans (hLa.2 i hi)⟩:Ka.Laid W))
 have s1:1≤sz:=by omega
 have s2:sz≤e - (k:Int):=by omega
 have z1:decide (sz<1)=false:=decide_eq_false (by omega)
 have z2:decide (e - (k:Int)<sz)=false:=decide_eq_false (by omega)
 clear hR
 have t1:((q:Int)==46)=false:=eZ h46
 obtain⟨e1,e2⟩:=Lx.aE9 tx (by omega)
 clear h hst hx hA he hL hLa
 go_enter Tryz.func100,Tryz.ntmps100
 go_wp2_with (first
  |(go_at_call 141;refine HE.out.mono ?_;rintro e w' ⟨rfl,j,rfl⟩;have h1:=HB.out.drewN j;have hla:∀ W:World,W.heap=((w.alloc (.cells #[.int .u8 (q:Int),.string tx,.int .i64 pl,.int .i64 sz] 188)).drewN j).heap→Ka.Laid W:=HLA.out;clear HB HE HLA d0 d1 d2 d3 c5 hP;generalize (w.alloc (.cells #[.int .u8 (q:Int),.string tx,.int .i64 pl,.int .i64 sz] 188)).drewN j=w1 at h1 hla ⊢;generalize w.heap.size=g5 at h1 ⊢;have k0:=h1.k0;have k1:=h1.k1;have k2:=h1.k2;have k3:=h1.k3;have gP:=h1.gP;have gL:=h1.gL;have gw:=h1.gw;simp only[]at k0 k1 k2 k3;replace h1:=hid h1;replace hla:=hid hla))
 go_big_quiet (fail)
 go_wp2
 go_ret
 exact⟨rfl,(h1.out.fr.drewN _).below hLe hLl hNw⟩
theorem LD {w:World} {N P M n L off g c:Nat} {o:St} {A:Option Addr} {t:List Nd} (h:oR w N P M n L o (.slice A t.length c) off g t) (hA:0<t.length→A=some ⟨g,off,none⟩) (hl:t.length≤9000) (hL:Ka.Laid w)
  (hst:1<o.lv.length→∃ x,t[(cH o.lv).start]?=some x∧0≤x.size∧x.size≤9000) (e:Int) (he:gS t o=e) (he9:0≤e∧e≤20000) (k q:Nat) (pl sz:Int) (hx:t[k]?=some ⟨q,({ data:=#[] }:ByteArray),pl,sz⟩) (hq:q<256) (_htx:({ data:=#[] }:ByteArray).size≤9000) (hsz:-9223372036854775808≤sz∧sz≤9223372036854775807) (_hS:lL o) (hR:¬ (sz<1∨e - (k:Int)<sz)) (h46:q≠46) (hV:pU o.lv q=false) :
  Calls Tryz.prog 100 #[.pointer (some ⟨P,0,none⟩),.int .i64 (k:Int)] w fun e w'=>e=.returned (.bool false)∧Below N w w':=by
 have hk:=(List.getElem?_eq_some_iff.1 hx).1
 have HB:=hid (K9.start h ⟨q,({ data:=#[] }:ByteArray),pl,sz⟩ 188)
 have HE:=hid (mL HB.out.ch hA hl hst e he)
 obtain⟨d0,d1,d2,d3⟩:=h.rd k _ hx
 simp only[]at d0 d1 d2 d3
 have c5:=h.c5
 obtain rfl:=hA (by omega)
 have hP:=h.op.tV
 have j0:(0:Int)≤(k:Int):=by omega
 have j1:(k:Int)<(t.length:Int):=by omega
 have hLe:=h.op.FT
 have hLl:=h.op.uB.2
 have hNw:=h.op.ZW
 have hLa:=hL.below ((Below.refl w.heap.size w).alloc (Nat.le_refl _) (.cells #[.int .u8 (q:Int),.string ({ data:=#[] }:ByteArray),.int .i64 pl,.int .i64 sz] 188)) hL.1
 have HLA:=hid (fun(W:World) (hW:W.heap=(w.alloc (.cells #[.int .u8 (q:Int),.string ({ data:=#[] }:ByteArray),.int .i64 pl,.int .i64 sz] 188)).heap)=>(⟨by rw[hW];exact hLa.1,fun i hi=>(World.cell?_of_block (w:=w.alloc (.cells #[.int .u8 (q:Int),.string ({ data:=#[] }:ByteArray),.int .i64 pl,.int .i64 sz] 188)) (by rw[hW])).trans (hLa.2 i hi)⟩:Ka.Laid W))
 have s1:1≤sz:=by omega
 have s2:sz≤e - (k:Int):=by omega
 have z1:decide (sz<1)=false:=decide_eq_false (by omega)
 have z2:decide (e - (k:Int)<sz)=false:=decide_eq_false (by omega)
 clear hR
 have t1:((q:Int)==46)=false:=eZ h46
 have HV:=hid hV
 clear hV
 clear h hst hx hA he hL hLa
 go_enter Tryz.func100,Tryz.ntmps100
 go_wp2_with (first
  |(go_at_call 141;refine HE.out.mono ?_;rintro e w' ⟨rfl,j,rfl⟩;have h1:=HB.out.drewN j;have hla:∀ W:World,W.heap=((w.alloc (.cells #[.int .u8 (q:Int),.string ({ data:=#[] }:ByteArray),.int .i64 pl,.int .i64 sz] 188)).drewN j).heap→Ka.Laid W:=HLA.out;clear HB HE HLA d0 d1 d2 d3 c5 hP;generalize (w.alloc (.cells #[.int .u8 (q:Int),.string ({ data:=#[] }:ByteArray),.int .i64 pl,.int .i64 sz] 188)).drewN j=w1 at h1 hla ⊢;generalize w.heap.size=g5 at h1 ⊢;have k0:=h1.k0;have k1:=h1.k1;have k2:=h1.k2;have k3:=h1.k3;have gP:=h1.gP;have gL:=h1.gL;have gw:=h1.gw;simp only[]at k0 k1 k2 k3;replace h1:=hid h1;replace hla:=hid hla))
 go_big_quiet ((first | (go_at_call 145;exact Calls.quiet_of (ZQ (h1.out.ch.op.drewN _) q hq HV.out))))
 go_wp2
 go_ret
 exact⟨rfl,(h1.out.fr.drewN _).below hLe hLl hNw⟩
theorem UH {w:World} {N P M n L off g c:Nat} {o:St} {A:Option Addr} {t:List Nd} (h:oR w N P M n L o (.slice A t.length c) off g t) (hA:0<t.length→A=some ⟨g,off,none⟩) (hl:t.length≤9000) (hL:Ka.Laid w)
  (hst:1<o.lv.length→∃ x,t[(cH o.lv).start]?=some x∧0≤x.size∧x.size≤9000) (e:Int) (he:gS t o=e) (he9:0≤e∧e≤20000) (k q:Nat) (pl sz:Int) (hx:t[k]?=some ⟨q,({ data:=#[] }:ByteArray),pl,sz⟩) (hq:q<256) (_htx:({ data:=#[] }:ByteArray).size≤9000) (hsz:-9223372036854775808≤sz∧sz≤9223372036854775807) (hS:lL o) (hR:¬ (sz<1∨e - (k:Int)<sz)) (h46:q≠46) (hV:pU o.lv q=true) :
  Calls Tryz.prog 100 #[.pointer (some ⟨P,0,none⟩),.int .i64 (k:Int)] w fun e w'=>e=.returned (.bool true)∧∃ L',oR w' N P M n L' (lK o q) (.slice A t.length c) off g t∧(L'=L∨w.heap.size≤L')∧Fr P L w w':=by
 have hk:=(List.getElem?_eq_some_iff.1 hx).1
 have HB:=hid (K9.start h ⟨q,({ data:=#[] }:ByteArray),pl,sz⟩ 188)
 have HE:=hid (mL HB.out.ch hA hl hst e he)
 obtain⟨d0,d1,d2,d3⟩:=h.rd k _ hx
 simp only[]at d0 d1 d2 d3
 have c5:=h.c5
 obtain rfl:=hA (by omega)
 have hP:=h.op.tV
 have j0:(0:Int)≤(k:Int):=by omega
 have j1:(k:Int)<(t.length:Int):=by omega
 have hLe:=h.op.FT
 have hLl:=h.op.uB.2
 have hNw:=h.op.ZW
 have hLa:=hL.below ((Below.refl w.heap.size w).alloc (Nat.le_refl _) (.cells #[.int .u8 (q:Int),.string ({ data:=#[] }:ByteArray),.int .i64 pl,.int .i64 sz] 188)) hL.1
 have HLA:=hid (fun(W:World) (hW:W.heap=(w.alloc (.cells #[.int .u8 (q:Int),.string ({ data:=#[] }:ByteArray),.int .i64 pl,.int .i64 sz] 188)).heap)=>(⟨by rw[hW];exact hLa.1,fun i hi=>(World.cell?_of_block (w:=w.alloc (.cells #[.int .u8 (q:Int),.string ({ data:=#[] }:ByteArray),.int .i64 pl,.int .i64 sz] 188)) (by rw[hW])).trans (hLa.2 i hi)⟩:Ka.Laid W))
 have s1:1≤sz:=by omega
 have s2:sz≤e - (k:Int):=by omega
 have z1:decide (sz<1)=false:=decide_eq_false (by omega)
 have z2:decide (e - (k:Int)<sz)=false:=decide_eq_false (by omega)
 clear hR
 have t1:((q:Int)==46)=false:=eZ h46
 have HV:=hid hV
 have HS:=hid hS
 clear hV hS
 clear h hst hx hA he hL hLa
 go_enter Tryz.func100,Tryz.ntmps100
 go_wp2_with (first
  |(go_at_call 141;refine HE.out.mono ?_;rintro e w' ⟨rfl,j,rfl⟩;have h1:=HB.out.drewN j;have hla:∀ W:World,W.heap=((w.alloc (.cells #[.int .u8 (q:Int),.string ({ data:=#[] }:ByteArray),.int .i64 pl,.int .i64 sz] 188)).drewN j).heap→Ka.Laid W:=HLA.out;clear HB HE HLA d0 d1 d2 d3 c5 hP;generalize (w.alloc (.cells #[.int .u8 (q:Int),.string ({ data:=#[] }:ByteArray),.int .i64 pl,.int .i64 sz] 188)).drewN j=w1 at h1 hla ⊢;generalize w.heap.size=g5 at h1 ⊢;have k0:=h1.k0;have k1:=h1.k1;have k2:=h1.k2;have k3:=h1.k3;have gP:=h1.gP;have gL:=h1.gL;have gw:=h1.gw;simp only[]at k0 k1 k2 k3;replace h1:=hid h1;replace hla:=hid hla))
 go_region_held3 (fun w'=>w'.cell? ⟨g5,1,none⟩=some (.string { data:=#[] })∧w'.cell? ⟨g5,0,none⟩=some (.int .u8 (q:Int))) (first | exact⟨k1,k0⟩ | exact e7.out)
  (first
   |(go_at_call 145;refine(T8 (h1.out.drew.ch.op) q hq HV.out HS.out.len (by have:=HS.out.tQ q;omega) (by have:=HS.out.nodes;omega) (by have:=HS.out.lists;omega)).mono ?_;rintro e w7 ⟨rfl,L',h7,hL7,hf7⟩;have e7:=hid (show w7.cell? ⟨g5,1,none⟩=some (.string { data:=#[] })∧w7.cell? ⟨g5,0,none⟩=some (.int .u8 (q:Int)) from ⟨(World.cell?_of_block (w:=w1.drew) (a:=⟨g5,1,none⟩) (hf7.block g5 gw (by omega) (by omega))).trans k1,(World.cell?_of_block (w:=w1.drew) (a:=⟨g5,0,none⟩) (hf7.block g5 gw (by omega) (by omega))).trans k0⟩);replace h7:=hid h7;replace hf7:=hid hf7))
 go_wp2
 go_ret
 refine⟨rfl,L',h1.out.drew.ch.next h7.out hf7.out hL7,?_,h1.out.drew.fr.trans hf7.out (.inl rfl)⟩
 rcases hL7 with e | e
 ·exact .inl e
 ·exact .inr (Nat.le_trans h1.out.drew.fr.size e)
theorem aCY {w:World} {N P M n L off g c:Nat} {o:St} {A:Option Addr} {t:List Nd} (h:oR w N P M n L o (.slice A t.length c) off g t) (hA:0<t.length→A=some ⟨g,off,none⟩) (hl:t.length≤9000) (hL:Ka.Laid w)
  (hst:1<o.lv.length→∃ x,t[(cH o.lv).start]?=some x∧0≤x.size∧x.size≤9000) (he9:0≤gS t o∧gS t o≤20000) (k:Nat) (x:Nd) (hx:t[k]?=some x) (hq:x.kind<256) (htx:x.text.size≤9000) (hsz:-9223372036854775808≤x.size∧x.size≤9223372036854775807) (hS:lL o) (r:Option St) (hr:xG x (gS t o) k o=r) :
  Calls Tryz.prog 100 #[.pointer (some ⟨P,0,none⟩),.int .i64 (k:Int)] w fun e w'=>e=.returned (.bool r.isSome)∧Below N w w'∧∀ o',r=some o'→∃ L',oR w' N P M n L' o' (.slice A t.length c) off g t∧(L'=L∨w.heap.size≤L')∧Fr P L w w':=by
 obtain⟨q,tx,pl,sz⟩:=x
 have hN:=h.op.ZW
 have hP:=h.op.FT
 have hLl:=h.op.uB.2
 have none_:r=none→(Calls Tryz.prog 100 #[.pointer (some ⟨P,0,none⟩),.int .i64 (k:Int)] w fun e w'=>e=.returned (.bool false)∧Below N w w') →
   Calls Tryz.prog 100 #[.pointer (some ⟨P,0,none⟩),.int .i64 (k:Int)] w fun e w'=>e=.returned (.bool r.isSome)∧Below N w w'∧∀ o',r=some o'→∃ L',oR w' N P M n L' o' (.slice A t.length c) off g t∧(L'=L∨w.heap.size≤L')∧Fr P L w w' :=
  fun e0 hc=>hc.mono fun e w' ⟨h1,h2⟩=>⟨by rw[h1,e0];rfl,h2,fun o' e1=>by rw[e0]at e1;cases e1⟩
 have some_:∀ o2,r=some o2→(Calls Tryz.prog 100 #[.pointer (some ⟨P,0,none⟩),.int .i64 (k:Int)] w fun e w'=>e=.returned (.bool true)∧∃ L',oR w' N P M n L' o2 (.slice A t.length c) off g t∧(L'=L∨w.heap.size≤L')∧Fr P L w w') →
   Calls Tryz.prog 100 #[.pointer (some ⟨P,0,none⟩),.int .i64 (k:Int)] w fun e w'=>e=.returned (.bool r.isSome)∧Below N w w'∧∀ o',r=some o'→∃ L',oR w' N P M n L' o' (.slice A t.length c) off g t∧(L'=L∨w.heap.size≤L')∧Fr P L w w' :=
  fun o2 e0 hc=>hc.mono fun e w' ⟨h1,L',h2,h3,h4⟩=>⟨by rw[h1,e0];rfl,h4.below hP hLl hN,fun o' e1=>by rw[e0]at e1;cases e1;exact⟨L',h2,h3,h4⟩⟩
 unfold xG at hr
 simp only[]at hr hq htx hsz
 by_cases hR:sz<1∨gS t o - (k:Int)<sz
 ·rw[if_pos hR]at hr
  by_cases h1:sz<1
  ·exact none_ hr.symm (OS h hA hl hL hst _ rfl he9 k q tx pl sz hx hq htx hsz hS h1)
  ·exact none_ hr.symm (OT h hA hl hL hst _ rfl he9 k q tx pl sz hx hq htx hsz hS h1 (hR.resolve_left h1))
 rw[if_neg hR]at hr
 by_cases h46:q=46
 ·rw[if_pos h46]at hr
  by_cases h1:sz=1
  ·subst h1
   cases hT:tZ tx
   ·rw[if_neg (by rw[hT];simp)]at hr
    exact none_ hr.symm (LA h hA hl hL hst _ rfl he9 k q tx pl hx hq htx hS hR h46 hT)
   ·cases hV:pU o.lv 46
    ·rw[if_neg (by rw[hV];simp)]at hr
     exact none_ hr.symm (LB h hA hl hL hst _ rfl he9 k q tx pl hx hq htx hS hR h46 hT hV)
    ·rw[if_pos ⟨rfl,hT,hV⟩]at hr
     exact some_ _ hr.symm (UG h hA hl hL hst _ rfl he9 k q tx pl hx hq htx hS hR h46 hT hV)
  ·rw[if_neg (fun e=>h1 e.1)]at hr
   exact none_ hr.symm (UF h hA hl hL hst _ rfl he9 k q tx pl sz hx hq htx hsz hS hR h46 h1)
 ·rw[if_neg h46]at hr
  by_cases h0:tx.size=0
  ·obtain rfl:tx={ data:=#[] }:=by
    apply ByteArray.ext
    exact Array.eq_empty_of_size_eq_zero h0
   cases hV:pU o.lv q
   ·rw[if_neg (by rw[hV];simp)]at hr
    exact none_ hr.symm (LD h hA hl hL hst _ rfl he9 k q pl sz hx hq htx hsz hS hR h46 hV)
   ·rw[if_pos ⟨h0,hV⟩]at hr
    exact some_ _ hr.symm (UH h hA hl hL hst _ rfl he9 k q pl sz hx hq htx hsz hS hR h46 hV)
  ·rw[if_neg (fun e=>h0 e.1)]at hr
   exact none_ hr.symm (LC h hA hl hL hst _ rfl he9 k q tx pl sz hx hq htx hsz hS hR h46 h0)
end Go.Proofs.YthbigkoihpgcfaaGreatDoor.Tr
