/-
  Put together.
-/
import Derived.Test.YthbigkoihpgcfaaGreatDoorNb
import Derived.Test.YthbigkoihpgcfaaGreatDoorRuF
import Derived.Test.YthbigkoihpgcfaaGreatDoorTsC
import Derived.Test.YthbigkoihpgcfaaGreatDoorTsG
import Derived.Test.YthbigkoihpgcfaaGreatDoorUh
import Derived.Test.YthbigkoihpgcfaaGreatDoorVb
import Derived.Test.YthbigkoihpgcfaaGreatDoorVd
import Derived.Deep.DeepCutAuto
import Derived.Maps.RangeWalk
import Derived.Test.YthbigkoihpgcfaaGreatDoorShelf
import Derived.WalkKit
import Derived.WalkSpells
import Derived.Lib.Hide
import Derived.Maps.OwnOps
import Derived.Maps.Views
import Derived.Maps.OwnSet
import Derived.DeepKeys4
import Derived.StringKeys
import Derived.Deep.RegionHeld3
import Derived.BigQuiet
open Go.Lib (hid)
set_option maxRecDepth 100000
set_option maxHeartbeats 16000000
namespace Go.Proofs.YthbigkoihpgcfaaGreatDoor.Nl
open Go.RowKit Tr Nu
def cY (l:List Nat):List Value:=l.map fun(b:Nat)=>.int .u8 (b:Int)
theorem JZ (l:List Nat) (b:Nat):cY (l++[b])=cY l++[.int .u8 (b:Int)]:=by simp[cY]
theorem XI:(Tryz.prog.info? 5).map (fun i=>(i.zero,i.size,i.bytes))=some (some (.int .u8 0),1,1):=by kernel_rfl
end Go.Proofs.YthbigkoihpgcfaaGreatDoor.Nl
namespace Go.Proofs.YthbigkoihpgcfaaGreatDoor.Nl
open Go.RowKit Tr Nu Go.Maps
end Go.Proofs.YthbigkoihpgcfaaGreatDoor.Nl
namespace Go.Proofs.YthbigkoihpgcfaaGreatDoor.Nl
open Go.RowKit Tr Nu
def rX:ByteArray:={ data:=#[49,50,51,112,105,99,110] }
theorem aD4:∀ k:Fin 256,decide (0≤Lib.indexByte rX.data.toList ((k.val:Nat):Int).toNat.toUInt8)=dF k.val:=by decide +kernel
theorem XR {k:Nat} (hk:k<256):decide (0≤Lib.indexByte rX.data.toList ((k:Nat):Int).toNat.toUInt8)=dF k:=aD4 ⟨k,hk⟩
theorem xW (k:Nat) (ix:Int) (h:Lib.indexByte rX.data.toList ((k:Nat):Int).toNat.toUInt8=ix) (w:World) :
  Calls Tryz.prog 97 #[.string { data:=#[49,50,51,112,105,99,110] },.int .u8 (k:Int)] w fun e w'=>e=.returned (.int .i64 ix)∧w=w' :=
 (Tryz.strings_IndexByte rX (k:Int) w).mono fun e w' he=>⟨by rw[he.1,h],he.2.symm⟩
end Go.Proofs.YthbigkoihpgcfaaGreatDoor.Nl
namespace Go.Proofs.YthbigkoihpgcfaaGreatDoor.Nl
open Go.RowKit Tr Nu Go.Maps
end Go.Proofs.YthbigkoihpgcfaaGreatDoor.Nl
namespace Go.Proofs.YthbigkoihpgcfaaGreatDoor.Nl
open Go.RowKit Tr Nu
theorem XJ (W:World) {B:Nat} {v:Value} {l:List Nat} (hl:∀ b ∈ l,b<256) (h:W.ownsRow B 5 1 v l.length (cY l)) (h0:0<l.length) :
  (convert 89 9 v).run Tryz.prog W=.ok (.string (Lx.bytesOf l)) W:=by
 obtain⟨A,c,rfl,-,-,hA⟩:=eH h
 obtain⟨g,rfl,-,-⟩:=hA h0
 have:=run_convert_bytes_back (P:=Tryz.prog) W 89 9 5 ⟨g,0,none⟩ c (l.map UInt8.ofNat) Tryz.underlying89 Tryz.underlying5 Tryz.underlying9 (fun k hk=>by
  rw[List.length_map]at hk
  have e:(⟨g,0,none⟩:Addr).add k=⟨g,k,none⟩:=by unfold Addr.add;split<;>simp_all
  rw[e,h.cellAt k (by omega)]
  unfold cY
  rw[List.getElem?_map,List.getElem?_eq_getElem hk]
  have:=hl l[k] (List.getElem_mem _)
  simp[Nat.mod_eq_of_lt this])
 rw[List.length_map]at this
 exact this
theorem JF:(Tryz.prog.info? 188).map (fun i=>(i.zero,i.size,i.bytes))=some (some (.agg #[.int .u8 0,.string { data:=#[] },.int .i64 0,.int .i64 0]),4,40):=by kernel_rfl
end Go.Proofs.YthbigkoihpgcfaaGreatDoor.Nl
namespace Go.Proofs.YthbigkoihpgcfaaGreatDoor.Ru
open Go.RowKit Ba
theorem wD {l:List Rl} {g off:Nat} {w:World} (hcell:∀ k x,l[k]?=some x→∀ j u,(cR x)[j]?=some u→w.cell? ⟨g,off+(k * 5+j),none⟩=some u) (k:Nat) (x:Rl) (hx:l[k]?=some x) :
  w.cell? ⟨g,off+k * 5,none⟩=some (.int .i64 x.aE)∧w.cell? ⟨g,off+k * 5+1,none⟩=some (.string (bytesOf x.left))∧w.cell? ⟨g,off+k * 5+2,none⟩=some (.string (bytesOf x.cells))∧w.cell? ⟨g,off+k * 5+3,none⟩=some (.int .i64 x.prio)∧w.cell? ⟨g,off+k * 5+4,none⟩=some (.int .i64 x.line):=by
 have h:=fun j u hu=>hcell k x hx j u hu
 exact⟨h 0 _ rfl,h 1 _ rfl,h 2 _ rfl,h 3 _ rfl,h 4 _ rfl⟩
theorem xB {a b:List Nat} (ha:∀ x ∈ a,x<256) (hb:∀ x ∈ b,x<256) (h:bytesOf a=bytesOf b):a=b:=by
 rw[← aB a ha,← aB b hb,h]
theorem B4:(Tryz.prog.info? 48).map (fun i=>(i.zero,i.size,i.bytes))=some (some (.agg #[.int .i64 0,.string { data:=#[] },.string { data:=#[] },.int .i64 0,.int .i64 0]),5,56):=by kernel_rfl
theorem uK (l:List Rl) (x:Rl):rows cR (l++[x])=rows cR l++[.int .i64 x.aE,.string (bytesOf x.left),.string (bytesOf x.cells),.int .i64 x.prio,.int .i64 x.line]:=by rw[kJ];rfl
end Go.Proofs.YthbigkoihpgcfaaGreatDoor.Ru
namespace Go.Proofs.YthbigkoihpgcfaaGreatDoor.Nu
open Go.RowKit Tr
def k2 (x:Lx.Lx):Nat × Nat:=(x.kind,x.name)
end Go.Proofs.YthbigkoihpgcfaaGreatDoor.Nu
namespace Go.Proofs.YthbigkoihpgcfaaGreatDoor.Ti
open Go.RowKit Ba Ru Ck
def mY (o:Option Nat):Int:=match o with | some k=>((k:Nat):Int) | none=>0
def okV (o:Option Nat):Bool:=o.isSome
end Go.Proofs.YthbigkoihpgcfaaGreatDoor.Ti
namespace Go.Proofs.YthbigkoihpgcfaaGreatDoor.Ti
open Go.RowKit Go.Maps Ba Ru Ck
def Y6:DataW Unit:=.lit (.int .i64 0)
theorem FN (w:World):(zeroValue 3).run Tryz.prog w=.ok (.int .i64 0) w:=by kernel_rfl
structure jE {κ:Type} (K T:TypeId) (enc:κ→Value) (dom:κ→Prop):Prop where
 law:Keyed Tryz.prog K
 under:Tryz.prog.underlying T=some (.map K 3)
 key:∀ k,dom k→∃ l,keyOf Tryz.prog K (enc k)=some l
 inj:∀ k k',dom k→dom k'→enc k=enc k'→k=k'
section
variable {κ:Type} {K T:TypeId} {enc:κ→Value} {dom:κ→Prop} {w:World} {B n:Nat} {g:κ→Option Nat}
def aY (K:TypeId) (enc:κ→Value) (dom:κ→Prop) (w:World) (B n:Nat) (g:κ→Option Nat):Prop :=
 ∃ D:DataW Unit,w.ownsMap Tryz.prog K (plainElem Tryz.prog 3) B n D∧Maps.size D=n∧∀ k,dom k→∀ l,keyOf Tryz.prog K (enc k)=some l→Maps.has D l=okV (g k)∧D.atKey l Y6=.lit (.int .i64 (mY (g k)))
theorem aY.of_block {w':World} (h:aY K enc dom w B n g) (hb:w'.heap[B]?=w.heap[B]?):aY K enc dom w' B n g:=by
 obtain⟨D,⟨es,clock,h1,h2⟩,h3⟩:=h
 exact⟨D,⟨es,clock,hb.trans h1,h2⟩,h3⟩
theorem aY.lt (h:aY K enc dom w B n g):B<w.heap.size:=by
 obtain⟨D,h1,_⟩:=h
 exact h1.lt
theorem aY.new (K:TypeId) (enc:κ→Value) (dom:κ→Prop) (w:World):aY K enc dom (w.alloc (.map #[] 0)) w.heap.size 0 fun _=>none :=
 ⟨_,World.ownsMap_made w _ _ _,rfl,fun _ _ _ _=>⟨rfl,rfl⟩⟩
theorem aY.alike {g':κ→Option Nat} (h:aY K enc dom w B n g) (hg:∀ k,dom k→g k=g' k):aY K enc dom w B n g':=by
 obtain⟨D,h1,h2,h3⟩:=h
 exact⟨D,h1,h2,fun k hk l hl=>by rw[← hg k hk];exact h3 k hk l hl⟩
theorem aY.look (h:aY K enc dom w B n g) (KK:jE K T enc dom) {k:κ} (hk:dom k) :
  (Instr.lookup T (.map (some B)) (enc k) true).run Tryz.prog w=.ok (.tuple #[.int .i64 (mY (g k)),.bool (okV (g k))]) w:=by
 obtain⟨D,h1,-,h3⟩:=h
 obtain⟨l,hl⟩:=KK.key k hk
 obtain⟨v,ps,hr,hv⟩:=h1.look_ok KK.law KK.under (FN w) (plainElem_int Tryz.underlying3 (a:=0) (by decide)) hl
 obtain⟨c,rfl,hc,_⟩:=plainElem_int_inv Tryz.underlying3 hv
 obtain⟨e1,e2⟩:=h3 k hk l hl
 have hc:=congrArg Prod.fst hc
 unfold Y6 at e2
 simp only[e2,DataW.lit.injEq,Lit.int.injEq,true_and]at hc
 rw[e1]at hr
 rw[hr,← hc]
theorem aY.count (h:aY K enc dom w B n g) (KK:jE K T enc dom) (ty:TypeId):(Builtin.len_ #[T] ty #[.map (some B)]).run Tryz.prog w=.ok (.int .i64 (n:Int)) w:=by
 obtain⟨D,h1,h2,-⟩:=h
 rw[h1.len KK.under ty,h2]
def TW [DecidableEq κ] (g:κ→Option Nat) (x:κ) (r:Nat):κ→Option Nat:=fun y=>if y=x then some r else g y
theorem aY.put [DecidableEq κ] (h:aY K enc dom w B n g) (KK:jE K T enc dom) (hn:n<maxLen) {k:κ} (hk:dom k) (hg:g k=none) {r:Nat} (hr:r≤maxLen) :
  ∃ w',(Instr.mapUpdate T (.map (some B)) (enc k) (.int .i64 (r:Int))).run Tryz.prog w=.ok () w'∧aY K enc dom w' B (n+1) (TW g k r)∧w.grownBy w' (some B):=by
 obtain⟨D,h1,h2,h3⟩:=h
 obtain⟨l,hl⟩:=KK.key k hk
 unfold maxLen at hr
 obtain⟨w',e1,e2,e3⟩:=h1.update KK.law KK.under hn hl (plainElem_int Tryz.underlying3 (a:=(r:Int)) (WalkArith.wf_i64 (by omega)))
 obtain⟨f1,-⟩:=h3 k hk l hl
 refine⟨w',e1,⟨_,e2,?_,fun y hy m hm=>?_⟩,e3⟩
 ·rw[size_put (h1.tidy KK.law),f1,hg,h2];rfl
 ·unfold TW
  by_cases he:y=k
  ·subst he
   rw[hl]at hm
   cases hm
   rw[if_pos rfl]
   exact⟨Maps.has_put_same h1.isMap (KK.law.key hl) _,Maps.atKey_put_same h1.isMap (KK.law.key hl) _ _⟩
  ·rw[if_neg he]
   have hne:m≠l:=fun e=>he (KK.inj y k hy hk (KK.law.inj (e▸hm) hl))
   rw[Maps.has_put_other hne,Maps.atKey_put_other hne]
   exact h3 y hy m hm
end
theorem laidOut:laidOutB Tryz.prog=true:=by kernel_rfl
theorem FO:∃ d,Tryz.prog.types.size+1=d+2:=⟨_,rfl⟩
theorem wf8 {a:Nat} (ha:a<256):(Lit.int .u8 (a:Int)).wf=true:=by
 have h:∀ k:Fin 256,(Lit.int .u8 ((k.val:Nat):Int)).wf=true:=by decide +kernel
 exact h ⟨a,ha⟩
def KR (x:Nat × Nat):Value:=.agg #[.int .i64 (x.1:Int),.int .u8 (x.2:Int)]
def KS (x:Nat × Nat):Prop:=x.1≤maxLen∧x.2<256
theorem aCE:(127:TypeId)<Tryz.prog.types.size:=of_decide_eq_true (by kernel_rfl)
theorem Y7:(match Tryz.prog.underlying 127 with | some (.array _ _) | some (.struct _)=>true | _=>false)=true:=by rw[Tryz.underlying127]
theorem aCF:Tryz.prog.keyTypeAt 2 127=true:=by kernel_rfl
theorem Y8:Tryz.prog.keyType 127=true:=by kernel_rfl
theorem aEH:Tryz.prog.cellsOf 127=2:=by kernel_rfl
theorem Y9:Tryz.prog.cellsOf 3=1:=by kernel_rfl
theorem FP:Tryz.prog.cellsOf 5=1:=by kernel_rfl
theorem pF:Tryz.prog.cellsOf 9=1:=by kernel_rfl
theorem nJ:jE 127 57 KR KS where
 law:=Keyed.of_law (deep_law_laid laidOut (m:=2) (by omega) aCE aCF Y7)
 under:=Tryz.underlying57
 key:=fun x hx=>by
  obtain⟨d,hd⟩:=FO
  have h1:(Lit.int .i64 (x.1:Int)).wf=true:=WalkArith.wf_i64 (by have:=hx.1;unfold maxLen at this;omega)
  have h2:=wf8 hx.2
  unfold keyOf KR
  rw[Tryz.underlying127]
  simp only[Y8,hd]
  simp[Value.formed,Tryz.underlying127,aEH,Program.keyLits,Tryz.underlying3,Tryz.underlying5,Y9,FP,h1,h2,Value.cells]
 inj:=fun x y _ _ e=>by
  unfold KR at e
  simp at e
  exact Prod.ext (by omega) (by omega)
def lH (x:Int × List Nat):Value:=.agg #[.int .i64 x.1,.string (bytesOf x.2)]
def pT (x:Int × List Nat):Prop:=oI x.1∧x.2.length≤maxLen∧∀ b ∈ x.2,b<256
theorem ZA:(96:TypeId)<Tryz.prog.types.size:=of_decide_eq_true (by kernel_rfl)
theorem T3:(match Tryz.prog.underlying 96 with | some (.array _ _) | some (.struct _)=>true | _=>false)=true:=by rw[Tryz.underlying96]
theorem ZB:Tryz.prog.keyTypeAt 2 96=true:=by kernel_rfl
theorem ZC:Tryz.prog.keyType 96=true:=by kernel_rfl
theorem bJ:Tryz.prog.cellsOf 96=2:=by kernel_rfl
theorem tN (s:List Nat):(bytesOf s).size=s.length:=by simp[bytesOf,ByteArray.size]
theorem DM:jE 96 56 lH pT where
 law:=Keyed.of_law (deep_law_laid laidOut (m:=2) (by omega) ZA ZB T3)
 under:=Tryz.underlying56
 key:=fun x hx=>by
  obtain⟨d,hd⟩:=FO
  have h1:(Lit.int .i64 x.1).wf=true:=WalkArith.wf_i64 (by have:=hx.1;unfold oI at this;omega)
  have h2:(bytesOf x.2).size≤maxLen:=by rw[tN];exact hx.2.1
  unfold keyOf lH
  rw[Tryz.underlying96]
  simp only[ZC,hd]
  simp[Value.formed,Tryz.underlying96,bJ,Program.keyLits,Tryz.underlying3,Tryz.underlying9,Y9,pF,h1,h2,Value.cells]
 inj:=fun x y hx hy e=>by
  unfold lH at e
  simp only[Value.agg.injEq,Array.mk.injEq,List.cons.injEq,Value.int.injEq,Value.string.injEq,true_and,and_true]at e
  exact Prod.ext e.1 (xB hx.2.2 hy.2.2 e.2)
def pS (s:List Nat):Value:=.string (bytesOf s)
def tM (s:List Nat):Prop:=s.length≤maxLen∧∀ b ∈ s,b<256
theorem KX:jE 9 55 pS tM where
 law:=string_keyed Tryz.underlying9
 under:=Tryz.underlying55
 key:=fun s hs=>⟨_,WideMaps.keyOf_string_mk Tryz.underlying9 (by rw[tN];exact hs.1)⟩
 inj:=fun x y hx hy e=>by
  unfold pS at e
  exact xB hx.2 hy.2 (by simpa using e)
def FM (p:Nat):Value:=.int .i64 (p:Int)
def sC (p:Nat):Prop:=p≤maxLen
theorem vO:jE 3 58 FM sC where
 law:=int_keyed Tryz.underlying3
 under:=Tryz.underlying58
 key:=fun p hp=>⟨_,keyOf_int_mk Tryz.underlying3 (WalkArith.wf_i64 (by unfold sC maxLen at hp;omega))⟩
 inj:=fun x y _ _ e=>by
  unfold FM at e
  simp at e
  omega
structure lG (w w':World) (T:Nat→Prop):Prop where
 os:w'.os=w.os
 tape:w'.tape=w.tape
 output:w'.output=w.output
 size:w.heap.size≤w'.heap.size
 block:∀ b,b<w.heap.size→¬ T b→w'.heap[b]?=w.heap[b]?
section
variable {w w' w'':World} {T T':Nat→Prop}
theorem lG.refl (w:World) (T:Nat→Prop):lG w w T:=⟨rfl,rfl,rfl,Nat.le_refl _,fun _ _ _=>rfl⟩
theorem lG.trans (h:lG w w' T) (k:lG w' w'' T):lG w w'' T :=
 ⟨k.os.trans h.os,k.tape.trans h.tape,k.output.trans h.output,Nat.le_trans h.size k.size,fun b hb ht=>(k.block b (Nat.lt_of_lt_of_le hb h.size) ht).trans (h.block b hb ht)⟩
theorem lG.alloc (h:lG w w' T) (o:Obj):lG w (w'.alloc o) T:=h.trans ⟨rfl,rfl,rfl,by simp,fun k hk _=>Below.heap_alloc _ _ _ hk⟩
theorem lG.grown {row:Option Nat} (h:lG w w' T) (hg:w'.grownBy w'' row) (hr:∀ b,b<w.heap.size→row=some b→T b):lG w w'' T :=
 ⟨hg.os.trans h.os,hg.tape.trans h.tape,hg.output.trans h.output,Nat.le_trans h.size hg.size,fun b hb ht=>(hg.block b (Nat.lt_of_lt_of_le hb h.size) fun e=>ht (hr b hb e.symm)).trans (h.block b hb ht)⟩
theorem lG.YX {B:Nat} (h:lG w w' T) (hB:B≤w.heap.size) (hT:∀ b,T b→B≤b):Below B w w':=⟨h.os,h.tape,h.output,h.size,fun b hb=>h.block b (by omega) fun k=>by have:=hT b k;omega⟩
end
section
variable {κ:Type} {K T:TypeId} {enc:κ→Value} {dom:κ→Prop} {B n:Nat} {g:κ→Option Nat} {ops:Array Oper} {rest:List Oper} {o:Oper} {a:Act} {Q:Exit→Act→World→Prop}
theorem xE (w:World) (hg:o.guard=none) (m x:Operand) (hop:o.op=Op.lookup T m x true) (KK:jE K T enc dom) (hm:a.eval m=.map (some B)) (h:aY K enc dom w B n g) (k:κ) (hd:dom k) (hx:a.eval x=enc k) (v:Int) (b:Bool) (hv:mY (g k)=v) (hb:okV (g k)=b)
  (hK:wpList Tryz.prog ops Q rest (a.put o.dst (.tuple #[.int .i64 v,.bool b])) w):wpList Tryz.prog ops Q (o::rest) a w:=by
 refine wpList_plain hg fun K' hK'=>?_
 have hr:=h.look KK hd
 rw[hv,hb]at hr
 unfold Oper.wp
 simp[execOp,hop,hm,hx,hr,Result.andThen]
 exact hK' _ _ hK
theorem oC [DecidableEq κ] (w:World) (hg:o.guard=none) (m x v:Operand) (hop:o.op=Op.mapUpdate T m x v) (KK:jE K T enc dom) (hm:a.eval m=.map (some B)) (h:aY K enc dom w B n g) (hn:n<maxLen) (k:κ) (hd:dom k) (hx:a.eval x=enc k) (hk:g k=none) (r:Nat) (hr:r≤maxLen) (hv:a.eval v=.int .i64 (r:Int))
  (hK:∀ w',aY K enc dom w' B (n+1) (TW g k r)→w.grownBy w' (some B)→wpList Tryz.prog ops Q rest (a.put o.dst undef) w'):wpList Tryz.prog ops Q (o::rest) a w:=by
 refine wpList_plain hg fun K' hK'=>?_
 obtain⟨w',hrun,r1,r2⟩:=h.put KK hn hd hk hr
 unfold Oper.wp
 simp[execOp,hop,hm,hx,hv,hrun,Result.andThen]
 exact hK' _ _ (hK w' r1 r2)
theorem FL (w:World) (hg:o.guard=none) (m:Operand) (hop:o.op=Op.call { callee:=Callee.builtin Builtin.len,args:=#[m],argTypes:=#[T] }) (KK:jE K T enc dom) (hm:a.eval m=.map (some B)) (h:aY K enc dom w B n g)
  (hK:wpList Tryz.prog ops Q rest (a.put o.dst (.int .i64 (n:Int))) w):wpList Tryz.prog ops Q (o::rest) a w:=by
 refine wpList_plain hg fun K' hK'=>?_
 unfold Oper.wp
 simp[execOp,hop,resolve,invoke,builtin,hm,h.count KK o.type,Result.andThen]
 exact hK' _ _ hK
end
theorem byte_at (s:ByteArray) (k:Nat) (h:k<s.size):(aA s)[k]?=some (aV s k):=by
 have hl:(aA s).length=s.size:=aD s
 unfold aV
 rw[List.getD_eq_getElem?_getD,List.getElem?_eq_getElem (by omega)];rfl
def pQ (S E:Nat):Value:=.agg #[.map (some S),.map (some E)]
abbrev eT (w:World) (B n:Nat) (f:Nat × Nat→Option Nat):Prop:=aY 127 KR KS w B n f
abbrev iJ (w:World) (B n:Nat) (e:Nat→Option Nat):Prop:=aY 3 FM sC w B n e
theorem KT (w:World):Calls Tryz.prog 22 #[] w fun e w' =>
  ∃ S E,e=.returned (pQ S E)∧w.heap.size≤S∧S<E∧E<w'.heap.size∧Below w.heap.size w w'∧eT w' S 0 (fun _=>none)∧iJ w' E 0 (fun _=>none):=by
 have hmm:=@run_makeMap Tryz.prog
 go_enter Tryz.func22,Tryz.ntmps22
 go_wp2
 have b1:Below w.heap.size w (w.alloc (.cells #[.map (some (w.heap.size+1)),.map (some (w.heap.size+1+1))] 60)):=(Below.refl _ _).alloc (Nat.le_refl _) _
 generalize hw1:w.alloc (.cells #[.map (some (w.heap.size+1)),.map (some (w.heap.size+1+1))] 60)=w1 at b1
 have s1:w1.heap.size=w.heap.size+1:=by rw[← hw1];simp
 have s2:(w1.alloc (.map #[] 0)).heap.size=w.heap.size+1+1:=by simp[s1]
 have m1:=aY.new 127 KR KS w1
 have m2:=aY.new 3 FM sC (w1.alloc (.map #[] 0))
 rw[s1]at m1
 rw[s2]at m2
 have b2:Below w.heap.size w ((w1.alloc (.map #[] 0)).alloc (.map #[] 0)):=(b1.alloc (by omega) _).alloc (by omega) _
 have s3:((w1.alloc (.map #[] 0)).alloc (.map #[] 0)).heap.size=w.heap.size+1+1+1:=by simp[s1]
 have m3:=m1.of_block (w':=(w1.alloc (.map #[] 0)).alloc (.map #[] 0)) (Below.heap_alloc _ _ _ (by omega))
 have r0:((w1.alloc (.map #[] 0)).alloc (.map #[] 0)).heap[w.heap.size]?=some (.cells #[.map (some (w.heap.size+1)),.map (some (w.heap.size+1+1))] 60):=by
  rw[Below.heap_alloc _ _ _ (by omega),Below.heap_alloc _ _ _ (by omega),← hw1]
  exact heap_alloc_new w _
 generalize (w1.alloc (.map #[] 0)).alloc (.map #[] 0)=w2 at b2 s3 m2 m3 r0 ⊢
 clear hw1 m1 s2 s1 b1 hmm
 have c0:w2.cell? ⟨w.heap.size,0,none⟩=some (.map (some (w.heap.size+1))):=by simp[World.cell?,r0]
 have c1:w2.cell? ⟨w.heap.size,1,none⟩=some (.map (some (w.heap.size+1+1))):=by simp[World.cell?,r0]
 refine bodyPost_ret (v:=pQ (w.heap.size+1) (w.heap.size+1+1)) (by simp[results,Tryz.f22,go_sem,pQ,c0,c1]) rfl ?_
 exact⟨_,_,rfl,by omega,by omega,by omega,b2,m3,m2⟩
def YY (w w':World) (S E n m:Nat) (cs:List Nat) (r:Nat) (e:Nat→Option Nat) (M:List Nat→Nat→Prop):Prop :=
 ∃ g n' p,n'≤n+cs.length∧eT w' S n' g∧iJ w' E (m+1) (TW e p r)∧qW (fun t k=>M t k∨t=cs∧k=r) g (TW e p r) n'∧lG w w' (fun b=>b=S∨b=E)
theorem aCA (S E n m:Nat) (cs:ByteArray) (r:Nat) (f:Nat × Nat→Option Nat) (e:Nat→Option Nat) (M:List Nat→Nat→Prop) (w:World) (hS:eT w S n f) (hE:iJ w E m e) (hSE:S≠E) (H:qW M f e n) (hM:∀ r,¬ M (aA cs) r)
  (hn:n+cs.size≤1000000000) (hm:m≤1000000) (hr:r≤1000000) :
  Calls Tryz.prog 48 #[pQ S E,.string cs,.int .i64 (r:Int)] w fun x w' =>
   x=.returned (.tuple #[])∧YY w w' S E n m (aA cs) r e M:=by
 have HH:=hid H
 have HM:=hid hM
 clear H hM
 have hlS:=hS.lt
 have hlE:=hE.lt
 obtain⟨bx,hbx⟩:∃ bx,w.heap.size=bx:=⟨_,rfl⟩
 have HS0:=hid (show eT (w.alloc (.cells #[.map (some S),.map (some E)] 60)) S n f from hS.of_block (Below.heap_alloc _ _ _ hlS))
 have HE0:=hid (show iJ (w.alloc (.cells #[.map (some S),.map (some E)] 60)) E m e from hE.of_block (Below.heap_alloc _ _ _ hlE))
 have HT0:=hid ((lG.refl w (fun b=>b=S∨b=E)).alloc (.cells #[.map (some S),.map (some E)] 60))
 have hb0:=heap_alloc_new w (.cells #[.map (some S),.map (some E)] 60)
 clear hS hE
 unfold pQ
 go_enter Tryz.func48,Tryz.ntmps48
 go_wp2
 rw[hbx]at hb0
 have hSb:S<bx:=by omega
 generalize (w.alloc (.cells #[.map (some S),.map (some E)] 60))=w0 at HS0 HE0 HT0 hb0 ⊢
 clear hbx
 go_loopw [6,13] (fun p i wr=>∃ (k q n2:Nat) (g:Nat × Nat→Option Nat),k≤cs.size∧i=.int .i64 (k:Int)∧p=.int .i64 (q:Int)∧eT wr S n2 g∧iJ wr E m e∧Tree g n2∧kB f g∧eJ g 0 ((aA cs).take k)=some q∧n2≤n+k∧lG w wr (fun b=>b=S∨b=E)∧wr.heap[bx]?=some (.cells #[.map (some S),.map (some E)] 60)) (fun _ i _=>cs.size - (intOf i).toNat)
 case atStart=>exact⟨0,0,n,f,Nat.zero_le _,rfl,rfl,HS0.out,HE0.out,HH.out.tree,kB.refl f,rfl,by omega,HT0.out,hb0⟩
 case round =>
  obtain⟨k,q,n2,g,hk,rfl,rfl,hS,hE,hTr,hKe,hW,hn2,hT,hB⟩:=hrel
  have x0:wr.cell? ⟨bx,0,none⟩=some (.map (some S)):=by simp[World.cell?,hB]
  have x1:wr.cell? ⟨bx,1,none⟩=some (.map (some E)):=by simp[World.cell?,hB]
  have hq:q≤n2:=hTr.le _ 0 q (Nat.zero_le _) hW
  by_cases hlt:k<cs.size
  ·have E1:=bP cs k hlt
   have l1:=dQ cs k
   have hc:(aA cs)[k]?=some (aV cs k):=byte_at cs k hlt
   obtain⟨c,hc9⟩:∃ c,aV cs k=c:=⟨_,rfl⟩
   rw[hc9]at E1 l1 hc
   clear hc9
   have hlS2:=hS.lt
   have hlE2:=hE.lt
   have HSn:=hid (show eT (wr.alloc (.cells #[.int .i64 (q:Int),.int .u8 (c:Int)] 127)) S n2 g from hS.of_block (Below.heap_alloc _ _ _ hlS2))
   have HEn:=hid (show iJ (wr.alloc (.cells #[.int .i64 (q:Int),.int .u8 (c:Int)] 127)) E m e from hE.of_block (Below.heap_alloc _ _ _ hlE2))
   have HTn:=hid (hT.alloc (.cells #[.int .i64 (q:Int),.int .u8 (c:Int)] 127))
   have hlB:=(Array.getElem?_eq_some_iff.1 hB).1
   have HBn:=hid (show (wr.alloc (.cells #[.int .i64 (q:Int),.int .u8 (c:Int)] 127)).heap[bx]?=some (.cells #[.map (some S),.map (some E)] 60) from (Below.heap_alloc _ _ _ hlB).trans hB)
   clear hS hE hT hB
   have HTR:=hid hTr
   have HKE:=hid hKe
   have HW:=hid hW
   have HC:=hid hc
   clear hTr hKe hW hc
   have hd:KS (q,c):=⟨by unfold maxLen;show q≤_;omega,l1⟩
   cases hg:g (q,c) with
   | some q2 =>
    have HG:=hid hg
    clear hg
    go_wp2_with (first | (at_lookup;refine xE _ rfl _ _ rfl nJ rfl HSn.out (q,c) hd rfl (q2:Int) true (by rw[HG.out];rfl) (by rw[HG.out];rfl) ?_) | go_in)
    exact⟨⟨k+1,q2,n2,g,hlt,by go_num,rfl,HSn.out,HEn.out,HTR.out,HKE.out,FK HW.out HC.out HG.out,by omega,HTn.out,HBn.out⟩,by simp[intOf];omega⟩
   | none =>
    have HG:=hid hg
    clear hg
    go_wp2_with (first | (at_lookup;refine xE _ rfl _ _ rfl nJ rfl HSn.out (q,c) hd rfl 0 false (by rw[HG.out];rfl) (by rw[HG.out];rfl) ?_) | (at_len;refine FL _ rfl _ rfl nJ rfl HSn.out ?_) | (at_mapUpdate;refine oC _ rfl _ _ _ rfl nJ rfl HSn.out (by unfold maxLen;omega) (q,c) hd rfl HG.out (n2+1) (by unfold maxLen;omega) rfl ?_;intro w5 hp5 hg5) | go_in)
    have hlt2:∀ b,b<wr.heap.size→b<(wr.alloc (.cells #[.int .i64 (q:Int),.int .u8 (c:Int)] 127)).heap.size:=fun b hb=>by simp;omega
    refine⟨⟨k+1,n2+1,n2+1,KQ g (q,c) (n2+1),hlt,by go_num,by go_num,hp5,HEn.out.of_block (hg5.block E (hlt2 E hlE2) (fun h=>hSE (Option.some.inj h).symm)),HTR.out.set hq,HKE.out.trans (kB.set HG.out _),?_,by omega,HTn.out.grown hg5 (fun b _ h=>.inl (Option.some.inj h).symm),(hg5.block bx (hlt2 bx hlB) (fun h=>by have:=Option.some.inj h;omega)).trans HBn.out⟩,by simp[intOf];omega⟩
    exact FK ((kB.set HG.out _).walk _ 0 q HW.out) HC.out (aEF _ _ _)
  ·obtain rfl:k=cs.size:=by omega
   have hl9:(aA cs).length=cs.size:=aD cs
   rw[List.take_of_length_le (by omega)]at hW
   have hfree:e q=none:=HH.out.free hTr hKe hW HM.out
   have hlE2:=hE.lt
   have HE:=hid hE
   have HFREE:=hid hfree
   have HRES:=hid (show n2≤n+cs.size∧eT wr S n2 g∧lG w wr (fun b=>b=S∨b=E)∧qW (fun t k=>M t k∨t=aA cs∧k=r) g (TW e q r) n2 from ⟨hn2,hS,hT,HH.out.add hTr hKe hW HM.out r⟩)
   have hlS2:=hS.lt
   clear hS hE hT hTr hKe hW hfree hl9 hB
   go_wp2_with (first | (at_mapUpdate;refine oC _ rfl _ _ _ rfl vO rfl HE.out (by unfold maxLen;omega) q (by unfold sC maxLen;omega) rfl HFREE.out r (by unfold maxLen;omega) rfl ?_;intro w5 hp5 hg5) | go_in)
   go_end0
   obtain⟨r1,r2,r3,r4⟩:=HRES.out
   exact⟨rfl,g,n2,q,by rw[aD];exact r1,r2.of_block (hg5.block S hlS2 (fun h=>hSE (Option.some.inj h))),hp5,r4,r3.grown hg5 (fun b _ h=>.inr (Option.some.inj h).symm)⟩
end Go.Proofs.YthbigkoihpgcfaaGreatDoor.Ti
