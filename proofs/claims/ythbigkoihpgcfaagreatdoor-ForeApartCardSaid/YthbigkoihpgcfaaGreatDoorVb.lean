/-
  Put together.
-/
import Derived.Test.YthbigkoihpgcfaaGreatDoorVa
import Derived.Test.YthbigkoihpgcfaaGreatDoorVg
import Derived.Test.YthbigkoihpgcfaaGreatDoorRows
import Derived.WalkKit
import Derived.WalkSpells
import Derived.Lib.Hide
import Derived.Maps.OwnOps
import Derived.Maps.Views
import Derived.Maps.OwnSet
import Derived.DeepKeys4
import Derived.OwnWalk
import Derived.Deep.QuietTactic
import Derived.BigQuiet
import Derived.BigRegion
import Derived.Deep.RegionHeld3
import Derived.Deep.AppendLies
set_option maxRecDepth 100000
set_option maxHeartbeats 16000000
namespace Go.Proofs.YthbigkoihpgcfaaGreatDoor.Tr
open Go.RowKit
structure Nd where
 kind:Nat
 text:ByteArray
 place:Int
 size:Int
structure Op where
 kind:Nat
 kids:ByteArray
 spot:Nat
 notes:Nat
 first:Nat
 text:ByteArray
abbrev cJ:ByteArray:=Lx.cJ
def root:Op:=⟨0,cJ,0,0,0,cJ⟩
def EC (k:Nat) (s:ByteArray):Bool:=(Lx.aA s).contains k
def P8:ByteArray:={ data:=#[49,50,51,112,99,110,101,115] }
def FR:ByteArray:={ data:=#[49,50,51,112,105] }
def ZF:ByteArray:={ data:=#[49,50,51,112,108,116,107] }
def ZG:ByteArray:={ data:=#[110] }
def aDQ:ByteArray:={ data:=#[101,115,110] }
def aE0:ByteArray:={ data:=#[108,116,114] }
def jZ (k:Nat):ByteArray:=Lx.bytesOf [k]
def T4 (p:List Op):Op:=p.getLastD root
def FQ (p:List Op):Bool:=EC (T4 p).kind P8 || ((T4 p).kind==105 && !EC 108 (T4 p).kids)
def aDE (p:List Op) (ks:ByteArray):Nat→Nat
 | 0=>0
 | n+1=>if n=0 then 0 else if EC (p.getD n root).kind ks then n else aDE p ks n
def DN (p:List Op) (ks:ByteArray):Nat:=aDE p ks p.length
def ZH (p:List Op) (k:Nat):Nat:=((p.drop 1).filter fun o=>o.kind==k).length
def ZI (k:Nat) (o:Op):Op:={ o with kids:=o.kids++jZ k }
def aCG (s:ByteArray) (o:Op):Op:={ o with text:=o.text++s }
def aCH (o:Op):Op:={ o with notes:=o.notes+1 }
def ZJ (n:Nat) (o:Op):Op:={ o with first:=n }
def aU (n:Int) (x:Nd):Nd:={ x with size:=n }
def ZE (st:List Nd × List Op) (x:Lx.Lx):List Nd × List Op :=
 let t:=st.1
 let p:=st.2
 let top:=p.length - 1
 if x.kind=1 then
  if FQ p then
   let p1:=p.modify top (ZI 46)
   let n:=DN p1 ZG
   (t++[⟨46,x.text,(x.place:Int),1⟩],if 0<n then p1.modify n (aCG x.text) else p1)
  else (t,p)
 else if x.kind=2 then
  let p1:=p.modify top (ZI x.name)
  let p2:=if x.name=110 then p1.modify (DN p1 FR) aCH else p1
  (t++[⟨x.name,cJ,(x.place:Int),1⟩],p2++[⟨x.name,cJ,t.length,0,0,cJ⟩])
 else
  let o:=T4 p
  let t1:=t.modify o.spot (aU ((t.length:Int) - (o.spot:Int)))
  let p1:=if o.kind=114∧(p.getD (top - 1) root).first=0 then p.modify (top - 1) (ZJ o.kids.size) else p
  (t1,p1.take top)
def aDF (l:List Lx.Lx):List Nd × List Op:=l.foldl ZE ([],[root])
def aEJ (p:List Op) (k:Nat):Bool :=
 let x:=T4 p
 if p.length=1 then EC k ZF
 else if (x.kind=105∧k=108)∨(x.kind=108∧k=105)∨(x.kind=116∧k=114) then true
 else if x.kind=114 then decide (k=99∧x.kids.size<8)
 else if FQ p=false∨EC k aDQ=false∨0<ZH p k then false
 else if k≠110 then true
 else decide (ZH p 99=0∧0<DN p FR∧(p.getD (DN p FR) root).notes=0)
def aEK (s:ByteArray):Option Nat:=(List.range s.size).find? fun i=>!Lx.aC8 (Lx.aV s i)
def tO (t:List Nd) (p:List Op) (x:Lx.Lx):Nat × Nat :=
 if x.kind=1 then
  if FQ p=false then (match aEK x.text with | some i=>(x.place+i,2) | none=>(0,0))
  else if 2000≤t.length∨(0<DN p ZG∧60<(p.getD (DN p ZG) root).text.size+x.text.size) then (x.place,4)
  else (0,0)
 else if x.kind=2 then
  if aEJ p x.name=false then (x.place,2)
  else if 32<p.length∨(x.name=108∧8≤ZH p 108) then (x.place,5)
  else if 2000≤t.length then (x.place,4)
  else (0,0)
 else
  let o:=T4 p
  if p.length=1∨(EC o.kind aE0=true∧o.kids.size=0) then (x.place,2)
  else if o.kind=114∧0<(p.getD (p.length - 2) root).first∧(p.getD (p.length - 2) root).first≠o.kids.size then (x.place,2)
  else (0,0)
def P9 (st:List Nd × List Op):List Lx.Lx→Option (Nat × Nat)
 | []=>none
 | x::l=>if (tO st.1 st.2 x).2=0 then P9 (ZE st x) l else some (tO st.1 st.2 x)
def vR (s:ByteArray):List Nd × Nat × Nat :=
 if Lx.aFF s≠0 then ([],Lx.aFE s,Lx.aFF s)
 else match P9 ([],[root]) (Lx.aD3 s) with
  | some z=>([],z.1,z.2)
  | none=>if 1<(aDF (Lx.aD3 s)).2.length then ([],s.size,2) else ((aDF (Lx.aD3 s)).1,0,0)
end Go.Proofs.YthbigkoihpgcfaaGreatDoor.Tr
namespace Go.Proofs.YthbigkoihpgcfaaGreatDoor.Tr
open Go.RowKit
def txL (s:ByteArray):Lx.Lx:=⟨1,0,s,0⟩
def opL (k:Nat):Lx.Lx:=⟨2,k,cJ,0⟩
def clL:Lx.Lx:=⟨3,0,cJ,0⟩
def evF (t:List Nd):Nat→Nat→Nat→Option (List Lx.Lx)
 | 0,a,e=>if a<e then none else some []
 | n+1,a,e=>if a<e then
   match t[a]? with
   | none=>none
   | some x =>
    if x.size<1∨(e:Int)<(a:Int)+x.size then none
    else if x.kind=46 then (if x.size=1 then (evF t n (a+1) e).map (txL x.text::·) else none)
    else (evF t n (a+1) (a+x.size.toNat)).bind fun M=>(evF t n (a+x.size.toNat) e).map fun R=>opL x.kind::(M++clL::R)
  else some []
def evA (t:List Nd) (a e:Nat):Option (List Lx.Lx):=evF t (e - a) a e
def PY (x:Nd):Prop:=x.kind≠46→x.text=cJ
end Go.Proofs.YthbigkoihpgcfaaGreatDoor.Tr
namespace Go.Proofs.YthbigkoihpgcfaaGreatDoor.Tr
open Go.RowKit
def aEI (x:Nd):Bool:=(if x.kind=46 then decide (x.text.size≠0) else decide (x.text.size=0∧(Lx.J3 x.kind).size≠0)) && (Lx.aA x.text).all Lx.okT
def aFK (st:List Nd × List Op) (d b:Bool):List Lx.Lx→Nat
 | []=>if d then 5 else if b then 4 else 0
 | x::l=>if (x.kind=1∧FQ st.2=false)∨(tO st.1 st.2 x).2=2 then 2
  else aFK (ZE st x) (d || decide ((tO st.1 st.2 x).2=5)) (b || decide ((tO st.1 st.2 x).2=4)) l
def NN (t:List Nd):Nat :=
 if t.all aEI=false then 2 else match evA t 0 t.length with | none=>2 | some l=>aFK ([],[root]) false false l
end Go.Proofs.YthbigkoihpgcfaaGreatDoor.Tr
namespace Go.Proofs.YthbigkoihpgcfaaGreatDoor.Tr
open Go.RowKit
structure Lv where
 kind:Nat
 start:Nat
 lists:Nat
 parts:Nat
 rank:Nat
 oQ:Nat
 tQ:Bool
 bytes:Nat
structure St where
 lv:List Lv
 nodes:Nat
 deep:Bool
 tR:Bool
def sD:Lv:=⟨95,0,0,0,0,0,false,0⟩
def st0:St:=⟨[sD],0,false,false⟩
def ZK:ByteArray:={ data:=#[46,101,115,110] }
def rk (a b:Nat):Nat :=
 if a=95 then (if EC b ZF then 1 else 0)
 else if EC a P8 then (if EC b ZK then 1 else 0)
 else if a=108 then (if b=105 then 1 else 0)
 else if a=105 then (if EC b ZK then 1 else if b=108 then 2 else 0)
 else if a=116 then (if b=114 then 1 else 0)
 else if a=114 then (if b=99 then 1 else 0)
 else 0
def cH (l:List Lv):Lv:=l.getD (l.length - 1) sD
def inT (k:Nat):Bool:=k==101 || k==115 || k==110
def gJ (l:List Lv) (k:Nat):Nat→Option Nat
 | 0=>none
 | n+1=>if inT (l.getD n sD).kind then (if (l.getD n sD).kind=k then some n else gJ l k n) else none
def eC (l:List Lv) (k:Nat):Option Nat:=gJ l k l.length
def oD (l:List Lv):Nat→Nat
 | 0=>0
 | n+1=>if inT (l.getD n sD).kind then oD l n else n
def lJ (l:List Lv):Nat:=oD l l.length
def pU (l:List Lv) (k:Nat):Bool :=
 if rk (cH l).kind k=0∨rk (cH l).kind k<(cH l).rank then false
 else if k=99 then decide ((cH l).parts<8)
 else if k=101∨k=115 then (eC l k).isNone
 else if k=110 then decide ((l.getD (lJ l) sD).kind≠99) && !(l.getD (lJ l) sD).tQ
 else true
def l5 (k:Nat) (b:Lv):Lv:={ b with parts:=b.parts+1,rank:=rk b.kind k }
def K3 (b:Lv):Lv:={ b with tQ:=true }
def nL (n:Nat) (b:Lv):Lv:={ b with bytes:=b.bytes+n }
def tS (n:Nat) (b:Lv):Lv:={ b with oQ:=n }
def bE (o:St) (k:Nat):St:={ o with lv:=o.lv.modify (o.lv.length - 1) (l5 k),nodes:=o.nodes+1,tR:=o.tR || decide (2000<o.nodes+1) }
def kG (o:St) (k:Nat):Lv:=⟨k,o.nodes,(cH o.lv).lists+(if k=108 then 1 else 0),0,0,0,false,0⟩
def bG (o:St) (k:Nat):St:=if k=110 then { o with lv:=o.lv.modify (lJ o.lv) K3 } else o
def lK (o:St) (k:Nat):St :=
 let o2:=bE (bG o k) k
 { o2 with lv:=o2.lv++[kG o k],deep:=o.deep || decide (32<o.lv.length) || decide (8<(kG o k).lists) }
def vS (o:St) (n:Nat):St :=
 match eC o.lv 110 with
 | none=>bE o 46
 | some i=>{ bE o 46 with lv:=(bE o 46).lv.modify i (nL n),tR:=(bE o 46).tR || decide (60<(o.lv.getD i sD).bytes+n) }
def jA (o:St):Bool :=
 if o.lv.length≤1 then false
 else if (cH o.lv).kind=108∨(cH o.lv).kind=116 then decide (0<(cH o.lv).parts)
 else if (cH o.lv).kind=114 then decide (0<(cH o.lv).parts) && ((o.lv.getD (o.lv.length - 2) sD).oQ==0 || (o.lv.getD (o.lv.length - 2) sD).oQ==(cH o.lv).parts)
 else true
def gC (o:St):St :=
 { o with lv:=if (cH o.lv).kind=114∧(o.lv.getD (o.lv.length - 2) sD).oQ=0 then (o.lv.take (o.lv.length - 1)).modify (o.lv.length - 2) (tS (cH o.lv).parts) else o.lv.take (o.lv.length - 1) }
def tT (o:St):Nat:=if o.deep then 5 else if o.tR then 4 else 0
theorem getD_modify {α:Type} (l:List α) (j:Nat) (f:α→α) (i:Nat) (d:α):(l.modify j f).getD i d=if j=i∧i<l.length then f (l.getD i d) else l.getD i d:=by
 rw[List.getD_eq_getElem?_getD,List.getElem?_modify,List.getD_eq_getElem?_getD]
 by_cases h:i<l.length
 ·rw[List.getElem?_eq_getElem h]
  by_cases hj:j=i
  ·simp[hj,h]
  ·simp[hj]
 ·rw[List.getElem?_eq_none (by omega)]
  simp[h]
theorem getD_take {α:Type} (l:List α) (n i:Nat) (d:α) (h:i<n):(l.take n).getD i d=l.getD i d:=by
 rw[List.getD_eq_getElem?_getD,List.getElem?_take,if_pos h,List.getD_eq_getElem?_getD]
theorem T5 {α:Type} (l:List α) (x:α) (i:Nat) (d:α):(l++[x]).getD i d=if i<l.length then l.getD i d else if i=l.length then x else d:=by
 rw[List.getD_eq_getElem?_getD,List.getElem?_append]
 by_cases h:i<l.length
 ·rw[if_pos h,if_pos h,List.getD_eq_getElem?_getD]
 ·rw[if_neg h,if_neg h]
  by_cases h1:i=l.length
  ·subst h1;simp
  ·rw[if_neg h1,List.getElem?_eq_none (by simp;omega)];rfl
end Go.Proofs.YthbigkoihpgcfaaGreatDoor.Tr
namespace Go.Proofs.YthbigkoihpgcfaaGreatDoor.Ts
open Go.RowKit Go.Maps
def ZX (a b:Nat):Value:=.agg #[.int .u8 (a:Int),.int .u8 (b:Int)]
theorem laidOut:laidOutB Tryz.prog=true:=by kernel_rfl
theorem aCV:(209:TypeId)<Tryz.prog.types.size:=of_decide_eq_true (by kernel_rfl)
theorem ZY:(match Tryz.prog.underlying 209 with | some (.array _ _) | some (.struct _)=>true | _=>false)=true:=by rw[Tryz.underlying209]
theorem aCW:Tryz.prog.keyTypeAt 2 209=true:=by kernel_rfl
theorem law:Keyed Tryz.prog 209:=Keyed.of_law (deep_law_laid laidOut (m:=2) (by omega) aCV aCW ZY)
theorem ZZ:Tryz.prog.keyType 209=true:=by kernel_rfl
theorem cC:Tryz.prog.cellsOf 209=2:=by kernel_rfl
theorem FP:Tryz.prog.cellsOf 5=1:=by kernel_rfl
theorem FO:∃ d,Tryz.prog.types.size+1=d+2:=⟨_,rfl⟩
theorem wf8 {a:Nat} (ha:a<256):(Lit.int .u8 (a:Int)).wf=true:=by
 have h:∀ k:Fin 256,(Lit.int .u8 ((k.val:Nat):Int)).wf=true:=by decide +kernel
 exact h ⟨a,ha⟩
def kl (a b:Nat):Lit:=.string (keyBytes [.int .u8 (a:Int),.int .u8 (b:Int)])
theorem AV {a b:Nat} (ha:a<256) (hb:b<256):keyOf Tryz.prog 209 (ZX a b)=some (kl a b):=by
 obtain⟨d,hd⟩:=FO
 have h1:=wf8 ha
 have h2:=wf8 hb
 unfold keyOf ZX kl
 rw[Tryz.underlying209]
 simp only[ZZ,hd]
 simp[Value.formed,Tryz.underlying209,cC,Program.keyLits,Tryz.underlying5,FP,h1,h2,Value.cells]
theorem aFQ {a b a' b':Nat} (ha:a<256) (hb:b<256) (ha':a'<256) (hb':b'<256) (h:¬ (a=a'∧b=b')):kl a b≠kl a' b':=fun e=>by
 have:=law.inj (AV ha hb) (e▸AV ha' hb')
 unfold ZX at this
 simp at this
 exact h ⟨by omega,by omega⟩
def Y6:DataW Unit:=.lit (.int .i64 0)
def aY (w:World) (B n:Nat) (f:Nat→Nat→Nat):Prop :=
 ∃ D:DataW Unit,w.ownsMap Tryz.prog 209 (plainElem Tryz.prog 3) B n D∧∀ a b,a<256→b<256→D.atKey (kl a b) Y6=.lit (.int .i64 (f a b:Int))
theorem aY.of_block {w w':World} {B n:Nat} {f:Nat→Nat→Nat} (h:aY w B n f) (hb:w'.heap[B]?=w.heap[B]?):aY w' B n f:=by
 obtain⟨D,⟨es,clock,h1,h2⟩,h3⟩:=h
 exact⟨D,⟨es,clock,hb.trans h1,h2⟩,h3⟩
theorem aY.lt {w:World} {B n:Nat} {f:Nat→Nat→Nat} (h:aY w B n f):B<w.heap.size:=by
 obtain⟨D,h1,_⟩:=h
 exact h1.lt
theorem aY.new (w:World):aY (w.alloc (.map #[] 0)) w.heap.size 0 fun _ _=>0 :=
 ⟨_,World.ownsMap_made w _ _ _,fun _ _ _ _=>rfl⟩
theorem FN (w:World):(zeroValue 3).run Tryz.prog w=.ok (.int .i64 0) w:=by kernel_rfl
theorem aY.look {w:World} {B n:Nat} {f:Nat→Nat→Nat} (h:aY w B n f) {a b:Nat} (ha:a<256) (hb:b<256) :
  (Instr.lookup 148 (.map (some B)) (.agg #[.int .u8 (a:Int),.int .u8 (b:Int)]) false).run Tryz.prog w=.ok (.int .i64 (f a b:Int)) w:=by
 obtain⟨D,h1,h2⟩:=h
 obtain⟨c,hr,hat,_⟩:=h1.lookup_int law Tryz.underlying148 Tryz.underlying3 (FN w) (AV ha hb)
 have:=h2 a b ha hb
 unfold Y6 at this
 rw[hat]at this
 simp only[DataW.lit.injEq,Lit.int.injEq,true_and]at this
 rw[← this]
 exact hr
def upd (f:Nat→Nat→Nat) (a b r:Nat):Nat→Nat→Nat:=fun x y=>if x=a∧y=b then r else f x y
theorem aY.put {w:World} {B n:Nat} {f:Nat→Nat→Nat} (h:aY w B n f) (hn:n<100000) {a b r:Nat} (ha:a<256) (hb:b<256) (hr:r<1000) :
  ∃ w',(Instr.mapUpdate 148 (.map (some B)) (.agg #[.int .u8 (a:Int),.int .u8 (b:Int)]) (.int .i64 (r:Int))).run Tryz.prog w=.ok () w'∧aY w' B (n+1) (upd f a b r)∧w.grownBy w' (some B):=by
 obtain⟨D,h1,h2⟩:=h
 obtain⟨w',e1,e2,e3⟩:=h1.update law Tryz.underlying148 (by unfold maxLen;omega) (AV ha hb) (plainElem_int Tryz.underlying3 (a:=(r:Int)) (WalkArith.wf_i64 (by omega)))
 refine⟨w',e1,⟨_,e2,fun x y hx hy=>?_⟩,e3⟩
 unfold upd
 by_cases he:x=a∧y=b
 ·rw[if_pos he,he.1,he.2]
  exact Maps.atKey_put_same h1.isMap (law.key (AV ha hb)) _ _
 ·rw[if_neg he,Maps.atKey_put_other (aFQ hx hy ha hb he)]
  exact h2 x y hx hy
end Go.Proofs.YthbigkoihpgcfaaGreatDoor.Ts
namespace Go.Proofs.YthbigkoihpgcfaaGreatDoor.Tr
open Go.RowKit
def cL (b:Lv):List Value:=[.int .u8 (b.kind:Int),.int .i64 (b.start:Int),.int .i64 (b.lists:Int),.int .i64 (b.parts:Int),.int .i64 (b.rank:Int),.int .i64 (b.oQ:Int),.bool b.tQ,.int .i64 (b.bytes:Int)]
theorem OI (b:Lv):(cL b).length=8:=rfl
structure cU (w:World) (N P M n L:Nat) (o:St):Prop where
 c0:w.cell? ⟨P,0,none⟩=some (.map (some M))
 row:∃ cap,w.cell? ⟨P,1,none⟩=some (.slice (some ⟨L,0,none⟩) o.lv.length cap)∧w.ownsRow N 184 8 (.slice (some ⟨L,0,none⟩) o.lv.length cap) o.lv.length (Ba.rows cL o.lv)
 c2:w.cell? ⟨P,2,none⟩=some (.int .i64 (o.nodes:Int))
 c3:w.cell? ⟨P,3,none⟩=some (.bool o.deep)
 c4:w.cell? ⟨P,4,none⟩=some (.bool o.tR)
 fz:∀ i,w.frozen? ⟨P,i,none⟩=false
 map:Ts.aY w M n rk
 pos:0<o.lv.length
 head:(o.lv.getD 0 sD).kind=95
 small:∀ b ∈ o.lv,b.kind<256
 FT:N≤P
 qY:L≠P
 BP:L≠M
 AP:M≠P
theorem cU.of_heap {w w':World} {N P M n L:Nat} {o:St} (h:cU w N P M n L o) (hh:w'.heap=w.heap):cU w' N P M n L o:=by
 have hc:∀ a,w'.cell? a=w.cell? a:=fun a=>World.cell?_of_block (by rw[hh])
 have hf:∀ a,w'.frozen? a=w.frozen? a:=fun a=>World.frozen?_of_block (by rw[hh])
 obtain⟨cap,r1,r2,r3⟩:=h.row
 refine⟨(hc _).trans h.c0,⟨cap,(hc _).trans r1,r2,?_⟩,(hc _).trans h.c2,(hc _).trans h.c3,(hc _).trans h.c4,fun i=>(hf _).trans (h.fz i),h.map.of_block (by rw[hh]),h.pos,h.head,h.small,h.FT,h.qY,h.BP,h.AP⟩
 rcases r3 with⟨hv,_⟩ | ⟨g,cp,cur,hv,hb,hg,rest⟩
 ·cases hv
 ·exact .inr ⟨g,cp,cur,hv,hb,by rw[hh];exact hg,rest⟩
theorem cU.drewN {w:World} {N P M n L:Nat} {o:St} (h:cU w N P M n L o) (k:Nat):cU (w.drewN k) N P M n L o:=h.of_heap rfl
theorem cU.len {w:World} {N P M n L:Nat} {o:St} (h:cU w N P M n L o):∃ m,o.lv.length=m+1:=⟨o.lv.length - 1,by have:=h.pos;omega⟩
theorem cU.bound {w:World} {N P M n L:Nat} {o:St} (h:cU w N P M n L o):o.lv.length≤maxLen:=by
 obtain⟨cap,_,_,r3⟩:=h.row
 rcases r3 with⟨hv,_⟩ | ⟨g,cp,cur,hv,hb,hg,h1,h2,_⟩
 ·cases hv
 ·omega
theorem cU.at {w:World} {N P M n L:Nat} {o:St} (h:cU w N P M n L o) {i:Nat} {b:Lv} (hb:o.lv[i]?=some b) :
  w.cell? ⟨L,i * 8,none⟩=some (.int .u8 (b.kind:Int))∧w.cell? ⟨L,i * 8+1,none⟩=some (.int .i64 (b.start:Int))∧w.cell? ⟨L,i * 8+2,none⟩=some (.int .i64 (b.lists:Int)) ∧
  w.cell? ⟨L,i * 8+3,none⟩=some (.int .i64 (b.parts:Int))∧w.cell? ⟨L,i * 8+4,none⟩=some (.int .i64 (b.rank:Int))∧w.cell? ⟨L,i * 8+5,none⟩=some (.int .i64 (b.oQ:Int)) ∧
  w.cell? ⟨L,i * 8+6,none⟩=some (.bool b.tQ)∧w.cell? ⟨L,i * 8+7,none⟩=some (.int .i64 (b.bytes:Int)):=by
 obtain⟨cap,_,own⟩:=h.row
 have hi:i<o.lv.length:=(List.getElem?_eq_some_iff.1 hb).1
 have key:∀ j,j<8→w.cell? ⟨L,i * 8+j,none⟩=(cL b)[j]?:=fun j hj=>by
  have hlt:i * 8+j<o.lv.length * 8:=by omega
  rw[own.cellAt _ hlt,Ba.fE cL OI _ _ _ hb j hj]
 exact⟨key 0 (by omega),key 1 (by omega),key 2 (by omega),key 3 (by omega),key 4 (by omega),key 5 (by omega),key 6 (by omega),key 7 (by omega)⟩
theorem eU {α:Type} {l:List α} {i:Nat} {b d:α} (hb:l[i]?=some b):l.getD i d=b:=by
 rw[List.getD_eq_getElem?_getD,hb];rfl
theorem fI {α:Type} {l:List α} {i:Nat} (hi:i<l.length):∃ b,l[i]?=some b:=⟨_,List.getElem?_eq_getElem hi⟩
theorem fU {w:World} {N P M n L:Nat} {o:St} (h:cU w N P M n L o) (m:Nat) (hm:o.lv.length=m+1) :
  Calls Tryz.prog 175 #[.pointer (some ⟨P,0,none⟩)] w fun e w'=>e=.returned (.int .i64 (m:Int))∧w=w':=by
 obtain⟨cap,c1,-⟩:=h.row
 have hb:=h.bound
 unfold maxLen at hb
 rw[hm]at c1 hb
 clear h hm
 go_enter Tryz.func175,Tryz.ntmps175
 go_wp2
 go_ret
 exact⟨Ba.aI (by omega),rfl⟩
theorem gX {w:World} {N P M n L:Nat} {o:St} (h:cU w N P M n L o) (v:Bool) (hv:decide (1<o.lv.length)=v) :
  Calls Tryz.prog 140 #[.pointer (some ⟨P,0,none⟩)] w fun e w'=>e=.returned (.bool v)∧w=w':=by
 obtain⟨m,hm⟩:=h.len
 have hv':=Lib.hid (show decide (0<m)=v by rw[← hv,hm];simp)
 clear hv
 go_enter Tryz.func140,Tryz.ntmps140
 go_wp2_with (go_at_call 175;refine(fU h m hm).mono ?_;rintro e w' ⟨rfl,rfl⟩)
 go_ret
 exact⟨Ba.aC hv'.out,rfl⟩
theorem jB {w:World} {N P M n L:Nat} {o:St} (h:cU w N P M n L o) (m:Nat) (hm:o.lv.length=m+1) :
  Calls Tryz.prog 176 #[.pointer (some ⟨P,0,none⟩)] w fun e w'=>e=.returned (.pointer (some ⟨L,m * 8,none⟩))∧∃ k,w'=w.drewN k:=by
 obtain⟨cap,c1,own⟩:=id h.row
 have hb:=h.bound
 unfold maxLen at hb
 rw[hm]at c1 hb
 have H:=Lib.hid h
 have HM:=Lib.hid hm
 clear h own hm
 go_enter Tryz.func176,Tryz.ntmps176
 go_wp2
 go_quiet ((go_at_call 175;exact Calls.quiet_of_same ((fU (H.out.drewN _) m HM.out).mono fun _ _ h=>⟨h.1,h.2.symm⟩)))
 go_wp2
 go_ret
 exact⟨rfl,_,rfl⟩
theorem AQ (k:Nat) (v:Bool) (hv:inT k=v) (w:World) :
  Calls Tryz.prog 219 #[.int .u8 (k:Int)] w fun e w'=>e=.returned (.bool v)∧w=w':=by
 have e:∀ j:Nat,((k:Int)==(j:Int))=(k==j):=fun j=>by
  by_cases h:k=j
  ·subst h;simp
  ·rw[show (k==j)=false from beq_eq_false_iff_ne.2 h];exact beq_eq_false_iff_ne.2 (by omega)
 unfold inT at hv
 cases h1:(k==101)
 ·cases h2:(k==115)
  ·cases h3:(k==110)
   all_goals
    have t1:((k:Int)==101)=false:=(e 101).trans h1
    have t2:((k:Int)==115)=false:=(e 115).trans h2
    have t3:=Lib.hid ((e 110).trans h3)
    have HV:=Lib.hid (show ((k:Int)==((110:Nat):Int))=v by rw[← hv,h1,h2,e 110];rfl)
    clear h1 h2 h3 e hv
    go_enter Tryz.func219,Tryz.ntmps219
    go_wp2
    go_ret
    exact⟨Ba.aC HV.out,rfl⟩
  ·have t1:((k:Int)==101)=false:=(e 101).trans h1
   have t2:((k:Int)==115)=true:=(e 115).trans h2
   have HV:=Lib.hid (show true=v by rw[← hv,h1,h2];rfl)
   clear h1 h2 e hv
   go_enter Tryz.func219,Tryz.ntmps219
   go_wp2
   go_ret
   exact⟨Ba.aC HV.out,rfl⟩
 ·have t1:((k:Int)==101)=true:=(e 101).trans h1
  have HV:=Lib.hid (show true=v by rw[← hv,h1];rfl)
  clear h1 e hv
  go_enter Tryz.func219,Tryz.ntmps219
  go_wp2
  go_ret
  exact⟨Ba.aC HV.out,rfl⟩
def OJ (L:Nat):Option Nat→Value
 | none=>.pointer none
 | some i=>.pointer (some ⟨L,i * 8,none⟩)
theorem qR {w:World} {N P M n L:Nat} {o:St} (h:cU w N P M n L o) (k:Nat) (v:Option Nat) (hv:eC o.lv k=v) :
  Calls Tryz.prog 184 #[.pointer (some ⟨P,0,none⟩),.int .u8 (k:Int)] w fun e w'=>e=.returned (OJ L v)∧w=w':=by
 obtain⟨m,hm⟩:=h.len
 obtain⟨cap,c1,own⟩:=id h.row
 have hb:=h.bound
 unfold maxLen at hb
 rw[hm]at c1 hb
 have H:=Lib.hid h
 have HM:=Lib.hid hm
 have HV:=Lib.hid hv
 clear h own hm hv
 go_enter Tryz.func184,Tryz.ntmps184
 go_wp2_with (go_at_call 175;refine(fU H.out m HM.out).mono ?_;rintro e w' ⟨rfl,rfl⟩)
 go_loop [5] (fun i=>∃ n:Nat,n≤m∧i=.int .i64 n∧gJ o.lv k (n+1)=eC o.lv k) (fun i=>(intOf i).toNat)
 case atStart=>exact⟨m,by omega,rfl,by unfold eC;rw[HM.out]⟩
 case round =>
  obtain⟨n,hn,rfl,hF⟩:=hrel
  have HF:=Lib.hid hF
  clear hF
  have j0:(0:Int)≤(n:Int):=by omega
  have j1:(n:Int)<(m:Int)+1:=by omega
  obtain⟨b,hb'⟩:=fI (l:=o.lv) (i:=n) (by have:=HM.out;omega)
  obtain⟨b0,-⟩:=H.out.at hb'
  have hD:o.lv.getD n sD=b:=eU hb'
  have hz:n=0→b.kind=95:=fun e=>by
   subst e
   rw[← hD];exact H.out.head
  obtain⟨q,hq⟩:∃ q,b.kind=q:=⟨_,rfl⟩
  rw[hq]at b0 hz
  cases ht:inT q
  ·have HT:=Lib.hid ht
   have HR:=Lib.hid (show none=v by rw[← HV.out,← HF.out];unfold gJ;rw[hD,hq,if_neg (by rw[ht];simp)])
   clear ht hb' hD hz hq
   go_wp2_with (go_at_call 219;refine(AQ q false HT.out _).mono ?_;rintro e w' ⟨rfl,rfl⟩)
   go_ret
   exact⟨by rw[← HR.out];rfl,rfl⟩
  ·have HT:=Lib.hid ht
   have hn0:0<n:=by
    rcases Nat.eq_zero_or_pos n with e | e
    ·rw[hz e]at ht;cases ht
    ·exact e
   by_cases he:q=k
   ·have HR:=Lib.hid (show some n=v by rw[← HV.out,← HF.out];unfold gJ;rw[hD,hq,if_pos ht,if_pos he])
    have t1:((q:Int)==(k:Int))=true:=beq_iff_eq.2 (by omega)
    clear ht hb' hD hz hq he
    go_wp2_with (go_at_call 219;refine(AQ q true HT.out _).mono ?_;rintro e w' ⟨rfl,rfl⟩)
    go_ret
    exact⟨by rw[← HR.out];rfl,rfl⟩
   ·have HR:=Lib.hid (show gJ o.lv k (n - 1+1)=eC o.lv k by
     rw[← HF.out];conv=>rhs;unfold gJ
     rw[hD,hq,if_pos ht,if_neg he,show n - 1+1=n from by omega])
    have t1:((q:Int)==(k:Int))=false:=beq_eq_false_iff_ne.2 (by omega)
    clear ht hb' hD hz hq he
    go_wp2_with (go_at_call 219;refine(AQ q true HT.out _).mono ?_;rintro e w' ⟨rfl,rfl⟩)
    go_round
    case rel=>exact⟨n - 1,by omega,by simp only[Value.int.injEq,true_and];omega,HR.out⟩
    case measure=>simp[intOf];omega
theorem AR {w:World} {N P M n L:Nat} {o:St} (h:cU w N P M n L o) (v:Nat) (hv:lJ o.lv=v) :
  Calls Tryz.prog 185 #[.pointer (some ⟨P,0,none⟩)] w fun e w'=>e=.returned (.pointer (some ⟨L,v * 8,none⟩))∧w=w':=by
 obtain⟨m,hm⟩:=h.len
 obtain⟨cap,c1,own⟩:=id h.row
 have hb:=h.bound
 unfold maxLen at hb
 rw[hm]at c1 hb
 have H:=Lib.hid h
 have HM:=Lib.hid hm
 have HV:=Lib.hid hv
 clear h own hm hv
 go_enter Tryz.func185,Tryz.ntmps185
 go_wp2_with (go_at_call 175;refine(fU H.out m HM.out).mono ?_;rintro e w' ⟨rfl,rfl⟩)
 go_loop [3] (fun i=>∃ n:Nat,n≤m∧i=.int .i64 n∧oD o.lv (n+1)=lJ o.lv) (fun i=>(intOf i).toNat)
 case atStart=>exact⟨m,by omega,rfl,by unfold lJ;rw[HM.out]⟩
 case round =>
  obtain⟨n,hn,rfl,hF⟩:=hrel
  have HF:=Lib.hid hF
  clear hF
  have j0:(0:Int)≤(n:Int):=by omega
  have j1:(n:Int)<(m:Int)+1:=by omega
  obtain⟨b,hb'⟩:=fI (l:=o.lv) (i:=n) (by have:=HM.out;omega)
  obtain⟨b0,-⟩:=H.out.at hb'
  have hD:o.lv.getD n sD=b:=eU hb'
  have hz:n=0→b.kind=95:=fun e=>by
   subst e
   rw[← hD];exact H.out.head
  obtain⟨q,hq⟩:∃ q,b.kind=q:=⟨_,rfl⟩
  rw[hq]at b0 hz
  cases ht:inT q
  ·have HT:=Lib.hid ht
   have HR:=Lib.hid (show n=v by rw[← HV.out,← HF.out];unfold oD;rw[hD,hq,if_neg (by rw[ht];simp)])
   clear ht hb' hD hz hq
   go_wp2_with (go_at_call 219;refine(AQ q false HT.out _).mono ?_;rintro e w' ⟨rfl,rfl⟩)
   go_ret
   exact⟨by rw[← HR.out];rfl,rfl⟩
  ·have HT:=Lib.hid ht
   have hn0:0<n:=by
    rcases Nat.eq_zero_or_pos n with e | e
    ·rw[hz e]at ht;cases ht
    ·exact e
   have HR:=Lib.hid (show oD o.lv (n - 1+1)=lJ o.lv by
    rw[← HF.out];conv=>rhs;unfold oD
    rw[hD,hq,if_pos ht,show n - 1+1=n from by omega])
   clear ht hb' hD hz hq
   go_wp2_with (go_at_call 219;refine(AQ q true HT.out _).mono ?_;rintro e w' ⟨rfl,rfl⟩)
   go_round
   case rel=>exact⟨n - 1,by omega,by simp only[Value.int.injEq,true_and];omega,HR.out⟩
   case measure=>simp[intOf];omega
theorem T6 {w:World} {N P M n L:Nat} {o:St} (h:cU w N P M n L o) (v:Nat) (hv:tT o=v) :
  Calls Tryz.prog 101 #[.pointer (some ⟨P,0,none⟩)] w fun e w'=>e=.returned (.int .i64 (v:Int))∧w=w':=by
 have c3:=h.c3
 have c4:=h.c4
 unfold tT at hv
 cases hd:o.deep
 ·cases hmu:o.tR
  all_goals
   rw[hd]at c3 hv
   rw[hmu]at c4 hv
   have HV:=Lib.hid hv
   clear h hv hd hmu
   go_enter Tryz.func101,Tryz.ntmps101
   go_wp2
   go_ret
   exact⟨Ba.aI (by rw[← HV.out];rfl),rfl⟩
 ·rw[hd]at c3 hv
  have HV:=Lib.hid hv
  clear h hv hd c4
  go_enter Tryz.func101,Tryz.ntmps101
  go_wp2
  go_ret
  exact⟨Ba.aI (by rw[← HV.out];rfl),rfl⟩
end Go.Proofs.YthbigkoihpgcfaaGreatDoor.Tr
