/-
  Put together.
-/
import Derived.Test.YthbigkoihpgcfaaGreatDoorVb
import Derived.Test.YthbigkoihpgcfaaGreatDoorRows
import Derived.WalkKit
import Derived.WalkSpells
import Derived.WalkLawsBesides
import Derived.Lib.Hide
import Derived.Lib.IndexLaws
import Derived.OwnWalk
import Derived.RangeFuncBox
import Derived.Maps.AppendAt
import Derived.Laws.OwnMore
import Derived.RangeFuncNested
import Derived.RangeFuncBound
import Derived.RangeFuncCalls
import Derived.RangeFuncLeaves
import Derived.Deep.QuietTactic
import Derived.BigQuiet
import Derived.BigRegion
import Derived.Deep.RegionHeld3
import Derived.Deep.AppendLies
open Go.Lib (hid)
set_option maxRecDepth 100000
set_option maxHeartbeats 16000000
namespace Go.Proofs.YthbigkoihpgcfaaGreatDoor.Ba
open Go.RowKit
theorem aI {k:IntKind} {a b:Int} (h:a=b):Ending.returned (.int k a)=.returned (.int k b):=by rw[h]
theorem aC {a b:Bool} (h:a=b):Ending.returned (.bool a)=.returned (.bool b):=by rw[h]
theorem OW {a b:ByteArray} (h:a=b):Ending.returned (.string a)=.returned (.string b):=by rw[h]
theorem chain {B:Nat} {a b c:World} (h:Below B a b) (hB:B≤b.heap.size) (k:Below b.heap.size b c):Below B a c:=h.trans (k.mono hB)
theorem below_drewN {B:Nat} {a w:World} (h:Below B a w) (n:Nat):Below B a (w.drewN n):=h.trans ⟨rfl,rfl,rfl,Nat.le_refl _,fun _ _=>rfl⟩
theorem a6 {W W':World} {B e size n:Nat} {v:Value} {xs:List Value} (h:W.ownsRow B e size v n xs) (hb:Below W.heap.size W W'):W'.ownsRow B e size v n xs:=by
 refine⟨h.1,?_⟩
 rcases h.2 with hn | ⟨g,cap,cur,hv,hbg,hg,rest⟩
 ·exact .inl hn
 ·exact .inr ⟨g,cap,cur,hv,hbg,(hb.block g (Array.getElem?_eq_some_iff.1 hg).1).trans hg,rest⟩
def bytesOf (l:List Nat):ByteArray:=⟨(l.map UInt8.ofNat).toArray⟩
theorem aF (l:List Nat):(bytesOf l).size=l.length:=by
 show ((l.map UInt8.ofNat).toArray).size=_
 simp
def aA (s:ByteArray):List Nat:=s.data.toList.map UInt8.toNat
theorem aD (s:ByteArray):(aA s).length=s.size:=by unfold aA;rw[List.length_map,Array.length_toList];rfl
def aV (s:ByteArray) (i:Nat):Nat:=(aA s).getD i 0
theorem dQ (s:ByteArray) (i:Nat):aV s i<256:=by
 unfold aV aA
 rw[List.getD_eq_getElem?_getD,List.getElem?_map]
 cases h:s.data.toList[i]? with
 | none=>simp
 | some x=>simpa using UInt8.toNat_lt x
theorem bP (s:ByteArray) (k:Nat) (h:k<s.size):s[k].toNat=aV s k:=by
 unfold aV aA
 have hl:k<s.data.toList.length:=by simpa using h
 rw[List.getD_eq_getElem?_getD,List.getElem?_map,List.getElem?_eq_getElem hl]
 rfl
theorem aB (l:List Nat) (h:∀ x ∈ l,x<256):aA (bytesOf l)=l:=by
 unfold aA bytesOf
 rw[List.toList_toArray,List.map_map]
 conv=>rhs;rw[← List.map_id l]
 apply List.map_congr_left
 intro x hx
 have:=h x hx
 simp[Nat.mod_eq_of_lt this]
theorem aP (s:ByteArray):bytesOf (aA s)=s:=by
 unfold aA bytesOf
 rw[List.map_map]
 have:(UInt8.ofNat ∘ UInt8.toNat)=id:=by funext x;simp
 rw[this,List.map_id,Array.toArray_toList]
theorem BQ {s t:ByteArray} (h:aA s=aA t):s=t:=by rw[← aP s,h,aP]
theorem dX (s:ByteArray) (f e:Nat):aA (s.extract f e)=((aA s).drop f).take (e - f):=by
 unfold aA
 rw[ByteArray.data_extract,Array.toList_extract,List.extract_eq_take_drop,List.map_take,List.map_drop]
theorem kI {d d':ByteArray} (h:d≠d'):(d.toList==d'.toList)=false:=by
 rw[beq_eq_false_iff_ne]
 intro e
 rw[ByteArray.toList_eq,ByteArray.toList_eq]at e
 exact h (ByteArray.ext (Array.toList_inj.1 e))
theorem oS (s:ByteArray) (a b:Nat) (hb:b≤s.size):(s.extract a b).size=b - a:=by
 rw[ByteArray.size_extract];omega
section
variable {α:Type} (f:α→List Value)
def rows (l:List α):List Value:=l.flatMap f
theorem kJ (l:List α) (x:α):rows f (l++[x])=rows f l++f x:=by simp[rows]
theorem fV (x:α) (l:List α):rows f (x::l)=f x++rows f l:=by simp[rows]
theorem lN (l m:List α):rows f (l++m)=rows f l++rows f m:=by simp[rows]
variable {n:Nat} (hn:∀ x,(f x).length=n)
include hn
theorem dA:∀ l:List α,(rows f l).length=l.length * n
 | []=>by simp[rows]
 | x::l=>by rw[fV,List.length_append,hn,dA l,List.length_cons,Nat.succ_mul];omega
theorem fE:∀ (l:List α) (k:Nat) (x:α),l[k]?=some x→∀ j,j<n→(rows f l)[k * n+j]?=(f x)[j]?
 | [],k,x,h=>by simp at h
 | y::l,0,x,h=>fun j hj=>by
  simp at h;subst h
  rw[fV,Nat.zero_mul,Nat.zero_add,List.getElem?_append_left (by rw[hn];exact hj)]
 | y::l,k+1,x,h=>fun j hj=>by
  rw[fV,List.getElem?_append_right (by rw[hn,Nat.succ_mul];omega),hn,show (k+1) * n+j - n=k * n+j from by rw[Nat.succ_mul];omega]
  exact fE l k x (by simpa using h) j hj
theorem xZ:∀ (l:List α) (k:Nat) (x x':α),l[k]?=some x→∀ (j:Nat) (v:Value),j<n→(f x).set j v=f x'→(rows f l).set (k * n+j) v=rows f (l.set k x')
 | [],k,x,x',h=>by simp at h
 | y::l,0,x,x',h=>fun j v hj hf=>by
  simp at h;subst h
  rw[fV,Nat.zero_mul,Nat.zero_add,List.set_append_left _ _ (by rw[hn];exact hj),hf,List.set_cons_zero,fV]
 | y::l,k+1,x,x',h=>fun j v hj hf=>by
  rw[fV,List.set_append_right _ _ (by rw[hn,Nat.succ_mul];omega),hn,show (k+1) * n+j - n=k * n+j from by rw[Nat.succ_mul];omega,xZ l k x x' (by simpa using h) j v hj hf,List.set_cons_succ,fV]
theorem QC (l:List α) (k:Nat) (h:k≤l.length):(rows f l).take (k * n)=rows f (l.take k):=by
 conv=>lhs;rw[← List.take_append_drop k l,lN]
 rw[List.take_append_of_le_length (by rw[dA f hn,List.length_take,Nat.min_eq_left h];exact Nat.le_refl _),List.take_of_length_le (by rw[dA f hn,List.length_take,Nat.min_eq_left h];exact Nat.le_refl _)]
end
def Reads {α:Type} (f:α→List Value) (n off:Nat) (w:World) (B:Nat) (v:Value) (l:List α):Prop :=
 ∃ A c,v=.slice A l.length c∧(0<l.length→∃ g,A=some ⟨g,off,none⟩∧g<B∧∀ k x,l[k]?=some x→∀ j u,(f x)[j]?=some u→w.cell? ⟨g,off+(k * n+j),none⟩=some u)
section
variable {α:Type} {f:α→List Value} {n off:Nat}
theorem Reads.nil (w:World) (B c:Nat):Reads f n off w B (.slice none 0 c) []:=⟨none,c,rfl,fun h=>absurd h (by simp)⟩
theorem Reads.below {w w':World} {B:Nat} {v:Value} {l:List α} (h:Reads f n off w B v l) (hb:Below B w w'):Reads f n off w' B v l:=by
 obtain⟨A,c,rfl,hA⟩:=h
 refine⟨A,c,rfl,fun h0=>?_⟩
 obtain⟨g,rfl,hg,hk⟩:=hA h0
 exact⟨g,rfl,hg,fun k x hx j u hu=>(hb.cell (p:=⟨g,off+(k * n+j),none⟩) hg).trans (hk k x hx j u hu)⟩
theorem Reads.mono {w:World} {B B':Nat} {v:Value} {l:List α} (h:Reads f n off w B v l) (hB:B≤B'):Reads f n off w B' v l:=by
 obtain⟨A,c,rfl,hA⟩:=h
 refine⟨A,c,rfl,fun h0=>?_⟩
 obtain⟨g,rfl,hg,hk⟩:=hA h0
 exact⟨g,rfl,by omega,hk⟩
theorem Reads.at {w:World} {B:Nat} {v:Value} {l:List α} (h:Reads f n off w B v l) (h0:0<l.length) :
  ∃ g c,v=.slice (some ⟨g,off,none⟩) l.length c∧g<B∧∀ k x,l[k]?=some x→∀ j u,(f x)[j]?=some u→w.cell? ⟨g,off+(k * n+j),none⟩=some u:=by
 obtain⟨A,c,rfl,hA⟩:=h
 obtain⟨g,rfl,hg,hk⟩:=hA h0
 exact⟨g,c,rfl,hg,hk⟩
theorem Reads.hO {w:World} {base m:Nat} {e:TypeId} {v:Value} {l:List α} (hn:∀ x,(f x).length=n) (hm:l.length=m) (h:w.ownsRow base e n v m (rows f l)):Reads f n 0 w w.heap.size v l:=by
 subst hm
 rcases h.2 with⟨rfl,h0⟩ | ⟨g,cap,cur,rfl,hbg,hg,hrest⟩
 ·exact⟨none,0,by rw[h0],fun h=>by omega⟩
 ·refine⟨some ⟨g,0,none⟩,cap,rfl,fun h0=>⟨g,rfl,(Array.getElem?_eq_some_iff.1 hg).1,fun k x hx j u hu=>?_⟩⟩
  have hj:j<n:=by have:=(List.getElem?_eq_some_iff.1 hu).1;rwa [hn]at this
  have hk:k<l.length:=(List.getElem?_eq_some_iff.1 hx).1
  have hlt:k * n+j<l.length * n:=by
   have:(k+1) * n≤l.length * n:=Nat.mul_le_mul_right n hk
   rw[Nat.succ_mul]at this;omega
  have:=h.cellAt (k * n+j) hlt
  rw[Nat.zero_add,this,fE f hn l k x hx j hj,hu]
end
theorem xY {W:World} {base e n m k cap g:Nat} {xs:List Value} (h:W.ownsRow base e n (.slice (some ⟨g,0,none⟩) k cap) k xs) (hm:m≤k):W.ownsRow base e n (.slice (some ⟨g,0,none⟩) m cap) m (xs.take (m * n)):=by
 have hmk:m * n≤k * n:=Nat.mul_le_mul_right n hm
 refine⟨by rw[List.length_take,h.1];omega,?_⟩
 rcases h.2 with⟨hv,_⟩ | ⟨g',cap',cur,hv,hb,hg,h1,h2,h3,h4⟩
 ·cases hv
 ·injection hv with e1 e2 e3
  injection e1 with e1
  injection e1 with e1
  subst e1;subst e3
  exact .inr ⟨g,cap,cur,rfl,hb,hg,by omega,h2,h3,by rw[← h4,List.take_take,Nat.min_eq_left hmk]⟩
theorem dS {W:World} {base e n k:Nat} {v:Value} {xs:List Value} (h:W.ownsRow base e n v k xs) (hk:0<k):∃ g cap,v=.slice (some ⟨g,0,none⟩) k cap∧g<W.heap.size∧base≤g∧k≤cap:=by
 rcases h.2 with⟨_,h0⟩ | ⟨g,cap,cur,rfl,hb,hg,h1,_⟩
 ·omega
 ·exact⟨g,cap,rfl,(Array.getElem?_eq_some_iff.1 hg).1,hb,h1⟩
theorem fD {W:World} {base e n k:Nat} {v:Value} {xs:List Value} (h:W.ownsRow base e n v k xs) {a:Addr} (u:Value) (hne:v.ownBlock≠some a.block):(W.setCell a u).ownsRow base e n v k xs:=by
 refine⟨h.1,?_⟩
 rcases h.2 with hn | ⟨g,cap,cur,rfl,hb,hg,rest⟩
 ·exact .inl hn
 ·refine .inr ⟨g,cap,cur,rfl,hb,?_,rest⟩
  rw[Below.heap_setCell _ _ _ _ (fun e=>hne (by rw[← e];rfl))]
  exact hg
end Go.Proofs.YthbigkoihpgcfaaGreatDoor.Ba
namespace Go.Proofs.YthbigkoihpgcfaaGreatDoor.Ra
open Go.RowKit
def leftAs {α:Type} (B:Nat) (Kp:World→World→Prop) (I Ix:List α→World→Prop) (xs:List α) (W:World):Exit→Act→World→Prop
 | .normal,_,W'=>KeepsFrom B W W'∧Kp W W'∧I xs W'
 | .ret,_,W'=>KeepsFrom B W W'∧Ix xs W'
 | _,_,_=>False
def aC5 {α:Type} (P:Program) (n gf:Nat) (fa lb:Array Value) (own:Addr→Prop) (encs:α→Array Value) (Kp:World→World→Prop) (ws:List α) (E:World→Prop) (w:World):Prop :=
 ∀ (l:Nat) (J Jx:List α→World→Prop) (W:World),Below w.heap.size w W→(∀ pre V a v,own a→J pre V→J pre (V.setCell a v))→(∀ pre V V',Below V.heap.size V V'→J pre V→J pre V') →
  (∀ pre x V,J pre V→pre++[x] <+: ws→YieldAt Fence.wide (n - 1) P l (encs x) V fun e V' =>
   (e=.returned (.bool true)∧J (pre++[x]) V'∧Kp V V')∨(e=.returned (.bool false)∧Jx (pre++[x]) V')) →
  J [] W →
  CallsIn Fence.wide n P gf (fa++#[.func (.yield l) #[] #[]]++lb) W fun e W'=>(∃ v,e=.returned v)∧((J ws W'∧E W')∨(∃ pre,pre <+: ws∧Jx pre W'))
theorem xL {α:Type} {P:Program} {n gf:Nat} {fa lb:Array Value} {own:Addr→Prop} {g:Operand} {ps:Array Tmp} {assign body:Code} {Q:Exit→Act→World→Prop} {a:Act} {w:World}
  (_h1:1≤n) (hg:a.eval g=.func (.func gf) fa lb) (eg:∀ args w,(callFunc gf args).run P w=.ok (.enter gf args) w) (hown:∀ a,own a→a.block<w.heap.size)
  {encs:α→Array Value} {Kp:World→World→Prop} {ws:List α} {E:World→Prop} (hseq:aC5 P (n - 1) gf fa lb own encs Kp ws E w)
  (hKt:∀ {A B C:World},Kp A B→Kp B C→Kp A C) (hKb:∀ (W:World) (l:Nat) (o o':Obj),w.heap.size≤l→W.heap[l]?=some o→o.isCells=false→o.isWalk=false→Kp W (W.putObj l o'))
  (hE:∀ (W:World) (l:Nat) (o':Obj),w.heap.size≤l→E W→E (W.putObj l o'))
  (hps:∀ x,(encs x).size=ps.size)
  (I Ix:List α→World→Prop) (hI:OwnFrom w.heap.size I) (hIx:OwnFrom w.heap.size Ix) (hIo:∀ pre V a v,own a→I pre V→I pre (V.setCell a v)) (hIb:∀ pre V V',Below V.heap.size V V'→I pre V→I pre V') (h0:I [] w) (a₁:α→Act)
  (hassign:∀ (l:Nat) (x:α) (W:World) (K:Act→World→Prop),K (a₁ x) W →
   assign.wpIn (Fence.wide.inRound l) (n - 1 - 1) P (Exit.then K (fun _ _ _=>False)) { tmps:=(ps.zip (encs x)).foldl (fun t (p,v)=>t.setIfInBounds p v) a.tmps,defers:=[] } W)
  (hbody:∀ (l:Nat) (pre:List α) (x:α) (W:World),I pre W→pre++[x] <+: ws→body.wpIn (Fence.wide.inRound l) (n - 1 - 1) P (leftAs w.heap.size Kp I Ix (pre++[x]) W) (a₁ x) W)
  (hdone:∀ (D:Nat) (W:World),w.heap.size≤D→I ws W→E W→W.heap[D]?=some (.deferred (some []))→Q .normal { a with defers:={ target:=.collected D,args:=#[] }::a.defers } W)
  (hstop:∀ (D:Nat) (pre:List α) (W:World),w.heap.size≤D→pre <+: ws→Ix pre W→W.heap[D]?=some (.deferred (some []))→Code.ret.wpIn Fence.wide n P Q { a with defers:={ target:=.collected D,args:=#[] }::a.defers } W) :
  (Code.rangeFunc g ps assign body).wpIn Fence.wide n P Q a w:=by
 refine wpIn_rangeFunc fun fn hfn=>?_
 -- the loop's record, in its states
 let r:LoopState→Option Code→Loop:=fun st pe=>{ state:=st,pending:=pe,fn,tmps:=a.tmps,params:=ps,assign,body,defers:=w.heap.size }
 let Marks:LoopState→Option Code→World→Prop:=fun st pe W=>W.heap[w.heap.size+1]?=some (.loop (r st pe))∧W.heap[w.heap.size]?=some (.deferred (some []))
 let W1:World:=(w.alloc (.deferred (some []))).alloc (.loop (r .ready none))
 have m1:Marks .ready none W1:=by
  refine⟨?_,(Below.heap_alloc _ _ _ (by simp)).trans (World.alloc_heap_new w _)⟩
  have:=World.alloc_heap_new (w.alloc (.deferred (some []))) (.loop (r .ready none))
  rwa [World.size_alloc]at this
 have b1:Below w.heap.size w W1:=((Below.refl _ w).alloc (Nat.le_refl _) _).alloc (by simp) _
 have i1:I [] W1:=hI.alloc _ (hI.alloc _ h0)
 -- what turns the record alone
 have EX:∀ (st:LoopState) (pe:Option Code) (st':LoopState) (pe':Option Code) (W:World),Marks st pe W→Marks st' pe' (W.putObj (w.heap.size+1) (.loop (r st' pe'))):=fun st pe st' pe' W hm =>
  ⟨World.putObj_heap_same (Array.getElem?_eq_some_iff.1 hm.1).1,(World.putObj_heap_other (by omega)).trans hm.2⟩
 refine⟨w.heap.size+1,[{ target:=.collected w.heap.size,args:=#[] }],W1,{ target:=.fn (.func gf) lb,args:=fa++#[.func (.yield (w.heap.size+1)) #[] #[]] },W1,gf,
  fa++#[.func (.yield (w.heap.size+1)) #[] #[]]++lb,W1,run_enterLoop_outer _ _ _ _ _,?_,fun _ _=>trivial,?_,fun h=>Bool.noConfusion h,?_⟩
 ·simp only[resolve,hg];simp[go_sem]
 ·simp[invoke,go_sem,eg]
 refine(hseq (w.heap.size+1) (fun pre W=>I pre W∧Marks .ready none W) (fun pre W=>Ix pre W∧Marks .done (some .ret) W) W1 b1
  (fun pre V a v ha h=>⟨hIo pre V a v ha h.1,(Below.heap_setCell V a v (w.heap.size+1) (by have:=hown a ha;omega)).trans h.2.1,(Below.heap_setCell V a v w.heap.size (by have:=hown a ha;omega)).trans h.2.2⟩)
  (fun pre V V' hb h=>⟨hIb pre V V' hb h.1,(hb.block _ (Array.getElem?_eq_some_iff.1 h.2.1).1).trans h.2.1,(hb.block _ (Array.getElem?_eq_some_iff.1 h.2.2).1).trans h.2.2⟩)
  ?_ ⟨i1,m1⟩).mono ?_
 ·-- a round
  rintro pre x V ⟨hi,hm⟩ hpre
  have hlt:w.heap.size+1<V.heap.size:=(Array.getElem?_eq_some_iff.1 hm.1).1
  let V2:World:=V.putObj (w.heap.size+1) (.loop (r .busy none))
  have m2:Marks .busy none V2:=EX .ready none .busy none V hm
  have k2:Kp V V2:=hKb _ _ _ _ (by omega) hm.1 rfl rfl
  refine⟨fn,_,assign,body,run_yield (P:=P) (args:=encs x) hm.1 (hps x),roundIn_of_wpIn hfn (hassign _ x V _ ⟨V2,run_beginRound hm.1 rfl,?_⟩)⟩
  refine wpIn_mono (hbody _ pre x V2 (hI.putObj _ hi (by omega) hm.1 rfl) hpre) ?_
  intro e a3 V3 hp
  match e,hp with
  | .normal,⟨hk3,hkp,hi3⟩ =>
   have m3:Marks .busy none V3:=⟨hk3.same _ _ (by omega) m2.1 rfl,hk3.same _ _ (Nat.le_refl _) m2.2 rfl⟩
   exact⟨_,_,run_endRound (P:=P) none m3.1,.inl ⟨rfl,⟨hI.putObj _ hi3 (by omega) m3.1 rfl,EX .busy none .ready none V3 m3⟩,hKt (hKt k2 hkp) (hKb _ _ _ _ (by omega) m3.1 rfl rfl)⟩⟩
  | .ret,⟨hk3,hi3⟩ =>
   have m3:Marks .busy none V3:=⟨hk3.same _ _ (by omega) m2.1 rfl,hk3.same _ _ (Nat.le_refl _) m2.2 rfl⟩
   exact⟨_,_,run_endRound (P:=P) (some .ret) m3.1,.inr ⟨rfl,hIx.putObj _ hi3 (by omega) m3.1 rfl,EX .busy none .done (some .ret) V3 m3⟩⟩
 ·-- behind the iterator
  rintro e W2 ⟨⟨v,rfl⟩,(⟨⟨hi,hm⟩,hE2⟩ | ⟨pre,hSp,hi,hm⟩)⟩
  ·exact⟨none,_,run_endLoop (P:=P) hm.1 (by simp[r]),hdone _ _ (Nat.le_refl _) (hI.putObj _ hi (by omega) hm.1 rfl) (hE _ _ _ (by omega) hE2) ((World.putObj_heap_other (by omega)).trans hm.2)⟩
  ·exact⟨some .ret,_,run_endLoop (P:=P) hm.1 (by simp[r]),hstop _ pre _ (Nat.le_refl _) hSp (hIx.putObj _ hi (by omega) hm.1 rfl) ((World.putObj_heap_other (by omega)).trans hm.2)⟩
end Go.Proofs.YthbigkoihpgcfaaGreatDoor.Ra
namespace Go.Proofs.YthbigkoihpgcfaaGreatDoor.Tr
open Go.RowKit
def cL (b:Lv):List Value:=[.int .u8 (b.kind:Int),.int .i64 (b.start:Int),.int .i64 (b.lists:Int),.int .i64 (b.parts:Int),.int .i64 (b.rank:Int),.int .i64 (b.oQ:Int),.bool b.tQ,.int .i64 (b.bytes:Int)]
theorem OI (b:Lv):(cL b).length=8:=rfl
structure cU (w:World) (N P M n L:Nat) (o:St):Prop where
 c0:w.cell? ⟨P,0,none⟩=some (.map (some M))
 row:∃ cap,w.cell? ⟨P,1,none⟩=some (.slice (some ⟨L,0,none⟩) o.lv.length cap)∧w.ownsRow N 184 8 (.slice (some ⟨L,0,none⟩) o.lv.length cap) o.lv.length (Ba.rows cL o.lv)
 c2:w.cell? ⟨P,2,none⟩=some (.int .i64 (o.nodes:Int))
 c3:w.cell? ⟨P,3,none⟩=some (.bool o.deep)
 c4:w.cell? ⟨P,4,none⟩=some (.bool o.tR)
 fz:∀ i,w.frozen? ⟨P,i,none⟩=false
 map:Ts.aY w M n rk
 pos:0<o.lv.length
 head:(o.lv.getD 0 sD).kind=95
 small:∀ b ∈ o.lv,b.kind<256
 FT:N≤P
 qY:L≠P
 BP:L≠M
 AP:M≠P
theorem cU.of_heap {w w':World} {N P M n L:Nat} {o:St} (h:cU w N P M n L o) (hh:w'.heap=w.heap):cU w' N P M n L o:=by
 have hc:∀ a,w'.cell? a=w.cell? a:=fun a=>World.cell?_of_block (by rw[hh])
 have hf:∀ a,w'.frozen? a=w.frozen? a:=fun a=>World.frozen?_of_block (by rw[hh])
 obtain⟨cap,r1,r2,r3⟩:=h.row
 refine⟨(hc _).trans h.c0,⟨cap,(hc _).trans r1,r2,?_⟩,(hc _).trans h.c2,(hc _).trans h.c3,(hc _).trans h.c4,fun i=>(hf _).trans (h.fz i),h.map.of_block (by rw[hh]),h.pos,h.head,h.small,h.FT,h.qY,h.BP,h.AP⟩
 rcases r3 with⟨hv,_⟩ | ⟨g,cp,cur,hv,hb,hg,rest⟩
 ·cases hv
 ·exact .inr ⟨g,cp,cur,hv,hb,by rw[hh];exact hg,rest⟩
theorem cU.drewN {w:World} {N P M n L:Nat} {o:St} (h:cU w N P M n L o) (k:Nat):cU (w.drewN k) N P M n L o:=h.of_heap rfl
theorem cU.len {w:World} {N P M n L:Nat} {o:St} (h:cU w N P M n L o):∃ m,o.lv.length=m+1:=⟨o.lv.length - 1,by have:=h.pos;omega⟩
theorem cU.bound {w:World} {N P M n L:Nat} {o:St} (h:cU w N P M n L o):o.lv.length≤maxLen:=by
 obtain⟨cap,_,_,r3⟩:=h.row
 rcases r3 with⟨hv,_⟩ | ⟨g,cp,cur,hv,hb,hg,h1,h2,_⟩
 ·cases hv
 ·omega
theorem cU.at {w:World} {N P M n L:Nat} {o:St} (h:cU w N P M n L o) {i:Nat} {b:Lv} (hb:o.lv[i]?=some b) :
  w.cell? ⟨L,i * 8,none⟩=some (.int .u8 (b.kind:Int))∧w.cell? ⟨L,i * 8+1,none⟩=some (.int .i64 (b.start:Int))∧w.cell? ⟨L,i * 8+2,none⟩=some (.int .i64 (b.lists:Int)) ∧
  w.cell? ⟨L,i * 8+3,none⟩=some (.int .i64 (b.parts:Int))∧w.cell? ⟨L,i * 8+4,none⟩=some (.int .i64 (b.rank:Int))∧w.cell? ⟨L,i * 8+5,none⟩=some (.int .i64 (b.oQ:Int)) ∧
  w.cell? ⟨L,i * 8+6,none⟩=some (.bool b.tQ)∧w.cell? ⟨L,i * 8+7,none⟩=some (.int .i64 (b.bytes:Int)):=by
 obtain⟨cap,_,own⟩:=h.row
 have hi:i<o.lv.length:=(List.getElem?_eq_some_iff.1 hb).1
 have key:∀ j,j<8→w.cell? ⟨L,i * 8+j,none⟩=(cL b)[j]?:=fun j hj=>by
  have hlt:i * 8+j<o.lv.length * 8:=by omega
  rw[own.cellAt _ hlt,Ba.fE cL OI _ _ _ hb j hj]
 exact⟨key 0 (by omega),key 1 (by omega),key 2 (by omega),key 3 (by omega),key 4 (by omega),key 5 (by omega),key 6 (by omega),key 7 (by omega)⟩
theorem eU {α:Type} {l:List α} {i:Nat} {b d:α} (hb:l[i]?=some b):l.getD i d=b:=by
 rw[List.getD_eq_getElem?_getD,hb];rfl
theorem fI {α:Type} {l:List α} {i:Nat} (hi:i<l.length):∃ b,l[i]?=some b:=⟨_,List.getElem?_eq_getElem hi⟩
theorem fU {w:World} {N P M n L:Nat} {o:St} (h:cU w N P M n L o) (m:Nat) (hm:o.lv.length=m+1) :
  Calls Tryz.prog 175 #[.pointer (some ⟨P,0,none⟩)] w fun e w'=>e=.returned (.int .i64 (m:Int))∧w=w':=by
 obtain⟨cap,c1,-⟩:=h.row
 have hb:=h.bound
 unfold maxLen at hb
 rw[hm]at c1 hb
 clear h hm
 go_enter Tryz.func175,Tryz.ntmps175
 go_wp2
 go_ret
 exact⟨Ba.aI (by omega),rfl⟩
theorem gX {w:World} {N P M n L:Nat} {o:St} (h:cU w N P M n L o) (v:Bool) (hv:decide (1<o.lv.length)=v) :
  Calls Tryz.prog 140 #[.pointer (some ⟨P,0,none⟩)] w fun e w'=>e=.returned (.bool v)∧w=w':=by
 obtain⟨m,hm⟩:=h.len
 have hv':=hid (show decide (0<m)=v by rw[← hv,hm];simp)
 clear hv
 go_enter Tryz.func140,Tryz.ntmps140
 go_wp2_with (go_at_call 175;refine(fU h m hm).mono ?_;rintro e w' ⟨rfl,rfl⟩)
 go_ret
 exact⟨Ba.aC hv'.out,rfl⟩
theorem jB {w:World} {N P M n L:Nat} {o:St} (h:cU w N P M n L o) (m:Nat) (hm:o.lv.length=m+1) :
  Calls Tryz.prog 176 #[.pointer (some ⟨P,0,none⟩)] w fun e w'=>e=.returned (.pointer (some ⟨L,m * 8,none⟩))∧∃ k,w'=w.drewN k:=by
 obtain⟨cap,c1,own⟩:=id h.row
 have hb:=h.bound
 unfold maxLen at hb
 rw[hm]at c1 hb
 have H:=hid h
 have HM:=hid hm
 clear h own hm
 go_enter Tryz.func176,Tryz.ntmps176
 go_wp2
 go_quiet ((go_at_call 175;exact Calls.quiet_of_same ((fU (H.out.drewN _) m HM.out).mono fun _ _ h=>⟨h.1,h.2.symm⟩)))
 go_wp2
 go_ret
 exact⟨rfl,_,rfl⟩
theorem AQ (k:Nat) (v:Bool) (hv:inT k=v) (w:World) :
  Calls Tryz.prog 219 #[.int .u8 (k:Int)] w fun e w'=>e=.returned (.bool v)∧w=w':=by
 have e:∀ j:Nat,((k:Int)==(j:Int))=(k==j):=fun j=>by
  by_cases h:k=j
  ·subst h;simp
  ·rw[show (k==j)=false from beq_eq_false_iff_ne.2 h];exact beq_eq_false_iff_ne.2 (by omega)
 unfold inT at hv
 cases h1:(k==101)
 ·cases h2:(k==115)
  ·cases h3:(k==110)
   all_goals
    have t1:((k:Int)==101)=false:=(e 101).trans h1
    have t2:((k:Int)==115)=false:=(e 115).trans h2
    have t3:=hid ((e 110).trans h3)
    have HV:=hid (show ((k:Int)==((110:Nat):Int))=v by rw[← hv,h1,h2,e 110];rfl)
    clear h1 h2 h3 e hv
    go_enter Tryz.func219,Tryz.ntmps219
    go_wp2
    go_ret
    exact⟨Ba.aC HV.out,rfl⟩
  ·have t1:((k:Int)==101)=false:=(e 101).trans h1
   have t2:((k:Int)==115)=true:=(e 115).trans h2
   have HV:=hid (show true=v by rw[← hv,h1,h2];rfl)
   clear h1 h2 e hv
   go_enter Tryz.func219,Tryz.ntmps219
   go_wp2
   go_ret
   exact⟨Ba.aC HV.out,rfl⟩
 ·have t1:((k:Int)==101)=true:=(e 101).trans h1
  have HV:=hid (show true=v by rw[← hv,h1];rfl)
  clear h1 e hv
  go_enter Tryz.func219,Tryz.ntmps219
  go_wp2
  go_ret
  exact⟨Ba.aC HV.out,rfl⟩
def OJ (L:Nat):Option Nat→Value
 | none=>.pointer none
 | some i=>.pointer (some ⟨L,i * 8,none⟩)
theorem qR {w:World} {N P M n L:Nat} {o:St} (h:cU w N P M n L o) (k:Nat) (v:Option Nat) (hv:eC o.lv k=v) :
  Calls Tryz.prog 184 #[.pointer (some ⟨P,0,none⟩),.int .u8 (k:Int)] w fun e w'=>e=.returned (OJ L v)∧w=w':=by
 obtain⟨m,hm⟩:=h.len
 obtain⟨cap,c1,own⟩:=id h.row
 have hb:=h.bound
 unfold maxLen at hb
 rw[hm]at c1 hb
 have H:=hid h
 have HM:=hid hm
 have HV:=hid hv
 clear h own hm hv
 go_enter Tryz.func184,Tryz.ntmps184
 go_wp2_with (go_at_call 175;refine(fU H.out m HM.out).mono ?_;rintro e w' ⟨rfl,rfl⟩)
 go_loop [5] (fun i=>∃ n:Nat,n≤m∧i=.int .i64 n∧gJ o.lv k (n+1)=eC o.lv k) (fun i=>(intOf i).toNat)
 case atStart=>exact⟨m,by omega,rfl,by unfold eC;rw[HM.out]⟩
 case round =>
  obtain⟨n,hn,rfl,hF⟩:=hrel
  have HF:=hid hF
  clear hF
  have j0:(0:Int)≤(n:Int):=by omega
  have j1:(n:Int)<(m:Int)+1:=by omega
  obtain⟨b,hb'⟩:=fI (l:=o.lv) (i:=n) (by have:=HM.out;omega)
  obtain⟨b0,-⟩:=H.out.at hb'
  have hD:o.lv.getD n sD=b:=eU hb'
  have hz:n=0→b.kind=95:=fun e=>by
   subst e
   rw[← hD];exact H.out.head
  obtain⟨q,hq⟩:∃ q,b.kind=q:=⟨_,rfl⟩
  rw[hq]at b0 hz
  cases ht:inT q
  ·have HT:=hid ht
   have HR:=hid (show none=v by rw[← HV.out,← HF.out];unfold gJ;rw[hD,hq,if_neg (by rw[ht];simp)])
   clear ht hb' hD hz hq
   go_wp2_with (go_at_call 219;refine(AQ q false HT.out _).mono ?_;rintro e w' ⟨rfl,rfl⟩)
   go_ret
   exact⟨by rw[← HR.out];rfl,rfl⟩
  ·have HT:=hid ht
   have hn0:0<n:=by
    rcases Nat.eq_zero_or_pos n with e | e
    ·rw[hz e]at ht;cases ht
    ·exact e
   by_cases he:q=k
   ·have HR:=hid (show some n=v by rw[← HV.out,← HF.out];unfold gJ;rw[hD,hq,if_pos ht,if_pos he])
    have t1:((q:Int)==(k:Int))=true:=beq_iff_eq.2 (by omega)
    clear ht hb' hD hz hq he
    go_wp2_with (go_at_call 219;refine(AQ q true HT.out _).mono ?_;rintro e w' ⟨rfl,rfl⟩)
    go_ret
    exact⟨by rw[← HR.out];rfl,rfl⟩
   ·have HR:=hid (show gJ o.lv k (n - 1+1)=eC o.lv k by
     rw[← HF.out];conv=>rhs;unfold gJ
     rw[hD,hq,if_pos ht,if_neg he,show n - 1+1=n from by omega])
    have t1:((q:Int)==(k:Int))=false:=beq_eq_false_iff_ne.2 (by omega)
    clear ht hb' hD hz hq he
    go_wp2_with (go_at_call 219;refine(AQ q true HT.out _).mono ?_;rintro e w' ⟨rfl,rfl⟩)
    go_round
    case rel=>exact⟨n - 1,by omega,by simp only[Value.int.injEq,true_and];omega,HR.out⟩
    case measure=>simp[intOf];omega
theorem AR {w:World} {N P M n L:Nat} {o:St} (h:cU w N P M n L o) (v:Nat) (hv:lJ o.lv=v) :
  Calls Tryz.prog 185 #[.pointer (some ⟨P,0,none⟩)] w fun e w'=>e=.returned (.pointer (some ⟨L,v * 8,none⟩))∧w=w':=by
 obtain⟨m,hm⟩:=h.len
 obtain⟨cap,c1,own⟩:=id h.row
 have hb:=h.bound
 unfold maxLen at hb
 rw[hm]at c1 hb
 have H:=hid h
 have HM:=hid hm
 have HV:=hid hv
 clear h own hm hv
 go_enter Tryz.func185,Tryz.ntmps185
 go_wp2_with (go_at_call 175;refine(fU H.out m HM.out).mono ?_;rintro e w' ⟨rfl,rfl⟩)
 go_loop [3] (fun i=>∃ n:Nat,n≤m∧i=.int .i64 n∧oD o.lv (n+1)=lJ o.lv) (fun i=>(intOf i).toNat)
 case atStart=>exact⟨m,by omega,rfl,by unfold lJ;rw[HM.out]⟩
 case round =>
  obtain⟨n,hn,rfl,hF⟩:=hrel
  have HF:=hid hF
  clear hF
  have j0:(0:Int)≤(n:Int):=by omega
  have j1:(n:Int)<(m:Int)+1:=by omega
  obtain⟨b,hb'⟩:=fI (l:=o.lv) (i:=n) (by have:=HM.out;omega)
  obtain⟨b0,-⟩:=H.out.at hb'
  have hD:o.lv.getD n sD=b:=eU hb'
  have hz:n=0→b.kind=95:=fun e=>by
   subst e
   rw[← hD];exact H.out.head
  obtain⟨q,hq⟩:∃ q,b.kind=q:=⟨_,rfl⟩
  rw[hq]at b0 hz
  cases ht:inT q
  ·have HT:=hid ht
   have HR:=hid (show n=v by rw[← HV.out,← HF.out];unfold oD;rw[hD,hq,if_neg (by rw[ht];simp)])
   clear ht hb' hD hz hq
   go_wp2_with (go_at_call 219;refine(AQ q false HT.out _).mono ?_;rintro e w' ⟨rfl,rfl⟩)
   go_ret
   exact⟨by rw[← HR.out];rfl,rfl⟩
  ·have HT:=hid ht
   have hn0:0<n:=by
    rcases Nat.eq_zero_or_pos n with e | e
    ·rw[hz e]at ht;cases ht
    ·exact e
   have HR:=hid (show oD o.lv (n - 1+1)=lJ o.lv by
    rw[← HF.out];conv=>rhs;unfold oD
    rw[hD,hq,if_pos ht,show n - 1+1=n from by omega])
   clear ht hb' hD hz hq
   go_wp2_with (go_at_call 219;refine(AQ q true HT.out _).mono ?_;rintro e w' ⟨rfl,rfl⟩)
   go_round
   case rel=>exact⟨n - 1,by omega,by simp only[Value.int.injEq,true_and];omega,HR.out⟩
   case measure=>simp[intOf];omega
theorem T6 {w:World} {N P M n L:Nat} {o:St} (h:cU w N P M n L o) (v:Nat) (hv:tT o=v) :
  Calls Tryz.prog 101 #[.pointer (some ⟨P,0,none⟩)] w fun e w'=>e=.returned (.int .i64 (v:Int))∧w=w':=by
 have c3:=h.c3
 have c4:=h.c4
 unfold tT at hv
 cases hd:o.deep
 ·cases hmu:o.tR
  all_goals
   rw[hd]at c3 hv
   rw[hmu]at c4 hv
   have HV:=hid hv
   clear h hv hd hmu
   go_enter Tryz.func101,Tryz.ntmps101
   go_wp2
   go_ret
   exact⟨Ba.aI (by rw[← HV.out];rfl),rfl⟩
 ·rw[hd]at c3 hv
  have HV:=hid hv
  clear h hv hd c4
  go_enter Tryz.func101,Tryz.ntmps101
  go_wp2
  go_ret
  exact⟨Ba.aI (by rw[← HV.out];rfl),rfl⟩
end Go.Proofs.YthbigkoihpgcfaaGreatDoor.Tr
