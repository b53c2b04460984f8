/-
  Put together.
-/
import Derived.Test.YthbigkoihpgcfaaGreatDoorRows
import Derived.WalkKit
import Derived.WalkSpells
import Derived.WalkLawsBesides
import Derived.Lib.Hide
import Derived.Lib.IndexLaws
import Derived.OwnWalk
import Derived.RangeFuncBox
import Derived.Maps.AppendAt
import Derived.Laws.OwnMore
import Derived.RangeFuncNested
import Derived.RangeFuncBound
import Derived.RangeFuncCalls
import Derived.RangeFuncLeaves
namespace Go.Proofs.YthbigkoihpgcfaaGreatDoor.Ba
open Go.RowKit
theorem aI {k:IntKind} {a b:Int} (h:a=b):Ending.returned (.int k a)=.returned (.int k b):=by rw[h]
theorem aC {a b:Bool} (h:a=b):Ending.returned (.bool a)=.returned (.bool b):=by rw[h]
theorem OW {a b:ByteArray} (h:a=b):Ending.returned (.string a)=.returned (.string b):=by rw[h]
theorem chain {B:Nat} {a b c:World} (h:Below B a b) (hB:B≤b.heap.size) (k:Below b.heap.size b c):Below B a c:=h.trans (k.mono hB)
theorem below_drewN {B:Nat} {a w:World} (h:Below B a w) (n:Nat):Below B a (w.drewN n):=h.trans ⟨rfl,rfl,rfl,Nat.le_refl _,fun _ _=>rfl⟩
theorem a6 {W W':World} {B e size n:Nat} {v:Value} {xs:List Value} (h:W.ownsRow B e size v n xs) (hb:Below W.heap.size W W'):W'.ownsRow B e size v n xs:=by
 refine⟨h.1,?_⟩
 rcases h.2 with hn | ⟨g,cap,cur,hv,hbg,hg,rest⟩
 ·exact .inl hn
 ·exact .inr ⟨g,cap,cur,hv,hbg,(hb.block g (Array.getElem?_eq_some_iff.1 hg).1).trans hg,rest⟩
def bytesOf (l:List Nat):ByteArray:=⟨(l.map UInt8.ofNat).toArray⟩
theorem aF (l:List Nat):(bytesOf l).size=l.length:=by
 show ((l.map UInt8.ofNat).toArray).size=_
 simp
def aA (s:ByteArray):List Nat:=s.data.toList.map UInt8.toNat
theorem aD (s:ByteArray):(aA s).length=s.size:=by unfold aA;rw[List.length_map,Array.length_toList];rfl
def aV (s:ByteArray) (i:Nat):Nat:=(aA s).getD i 0
theorem dQ (s:ByteArray) (i:Nat):aV s i<256:=by
 unfold aV aA
 rw[List.getD_eq_getElem?_getD,List.getElem?_map]
 cases h:s.data.toList[i]? with
 | none=>simp
 | some x=>simpa using UInt8.toNat_lt x
theorem bP (s:ByteArray) (k:Nat) (h:k<s.size):s[k].toNat=aV s k:=by
 unfold aV aA
 have hl:k<s.data.toList.length:=by simpa using h
 rw[List.getD_eq_getElem?_getD,List.getElem?_map,List.getElem?_eq_getElem hl]
 rfl
theorem aB (l:List Nat) (h:∀ x ∈ l,x<256):aA (bytesOf l)=l:=by
 unfold aA bytesOf
 rw[List.toList_toArray,List.map_map]
 conv=>rhs;rw[← List.map_id l]
 apply List.map_congr_left
 intro x hx
 have:=h x hx
 simp[Nat.mod_eq_of_lt this]
theorem aP (s:ByteArray):bytesOf (aA s)=s:=by
 unfold aA bytesOf
 rw[List.map_map]
 have:(UInt8.ofNat ∘ UInt8.toNat)=id:=by funext x;simp
 rw[this,List.map_id,Array.toArray_toList]
theorem BQ {s t:ByteArray} (h:aA s=aA t):s=t:=by rw[← aP s,h,aP]
theorem dX (s:ByteArray) (f e:Nat):aA (s.extract f e)=((aA s).drop f).take (e - f):=by
 unfold aA
 rw[ByteArray.data_extract,Array.toList_extract,List.extract_eq_take_drop,List.map_take,List.map_drop]
theorem kI {d d':ByteArray} (h:d≠d'):(d.toList==d'.toList)=false:=by
 rw[beq_eq_false_iff_ne]
 intro e
 rw[ByteArray.toList_eq,ByteArray.toList_eq]at e
 exact h (ByteArray.ext (Array.toList_inj.1 e))
theorem oS (s:ByteArray) (a b:Nat) (hb:b≤s.size):(s.extract a b).size=b - a:=by
 rw[ByteArray.size_extract];omega
end Go.Proofs.YthbigkoihpgcfaaGreatDoor.Ba
namespace Go.Proofs.YthbigkoihpgcfaaGreatDoor.Ba
open Go.RowKit
section
variable {α:Type} (f:α→List Value)
def rows (l:List α):List Value:=l.flatMap f
theorem kJ (l:List α) (x:α):rows f (l++[x])=rows f l++f x:=by simp[rows]
theorem fV (x:α) (l:List α):rows f (x::l)=f x++rows f l:=by simp[rows]
theorem lN (l m:List α):rows f (l++m)=rows f l++rows f m:=by simp[rows]
variable {n:Nat} (hn:∀ x,(f x).length=n)
include hn
theorem dA:∀ l:List α,(rows f l).length=l.length * n
 | []=>by simp[rows]
 | x::l=>by rw[fV,List.length_append,hn,dA l,List.length_cons,Nat.succ_mul];omega
theorem fE:∀ (l:List α) (k:Nat) (x:α),l[k]?=some x→∀ j,j<n→(rows f l)[k * n+j]?=(f x)[j]?
 | [],k,x,h=>by simp at h
 | y::l,0,x,h=>fun j hj=>by
  simp at h;subst h
  rw[fV,Nat.zero_mul,Nat.zero_add,List.getElem?_append_left (by rw[hn];exact hj)]
 | y::l,k+1,x,h=>fun j hj=>by
  rw[fV,List.getElem?_append_right (by rw[hn,Nat.succ_mul];omega),hn,show (k+1) * n+j - n=k * n+j from by rw[Nat.succ_mul];omega]
  exact fE l k x (by simpa using h) j hj
theorem xZ:∀ (l:List α) (k:Nat) (x x':α),l[k]?=some x→∀ (j:Nat) (v:Value),j<n→(f x).set j v=f x'→(rows f l).set (k * n+j) v=rows f (l.set k x')
 | [],k,x,x',h=>by simp at h
 | y::l,0,x,x',h=>fun j v hj hf=>by
  simp at h;subst h
  rw[fV,Nat.zero_mul,Nat.zero_add,List.set_append_left _ _ (by rw[hn];exact hj),hf,List.set_cons_zero,fV]
 | y::l,k+1,x,x',h=>fun j v hj hf=>by
  rw[fV,List.set_append_right _ _ (by rw[hn,Nat.succ_mul];omega),hn,show (k+1) * n+j - n=k * n+j from by rw[Nat.succ_mul];omega,xZ l k x x' (by simpa using h) j v hj hf,List.set_cons_succ,fV]
theorem QC (l:List α) (k:Nat) (h:k≤l.length):(rows f l).take (k * n)=rows f (l.take k):=by
 conv=>lhs;rw[← List.take_append_drop k l,lN]
 rw[List.take_append_of_le_length (by rw[dA f hn,List.length_take,Nat.min_eq_left h];exact Nat.le_refl _),List.take_of_length_le (by rw[dA f hn,List.length_take,Nat.min_eq_left h];exact Nat.le_refl _)]
end
def Reads {α:Type} (f:α→List Value) (n off:Nat) (w:World) (B:Nat) (v:Value) (l:List α):Prop :=
 ∃ A c,v=.slice A l.length c∧(0<l.length→∃ g,A=some ⟨g,off,none⟩∧g<B∧∀ k x,l[k]?=some x→∀ j u,(f x)[j]?=some u→w.cell? ⟨g,off+(k * n+j),none⟩=some u)
section
variable {α:Type} {f:α→List Value} {n off:Nat}
theorem Reads.nil (w:World) (B c:Nat):Reads f n off w B (.slice none 0 c) []:=⟨none,c,rfl,fun h=>absurd h (by simp)⟩
theorem Reads.below {w w':World} {B:Nat} {v:Value} {l:List α} (h:Reads f n off w B v l) (hb:Below B w w'):Reads f n off w' B v l:=by
 obtain⟨A,c,rfl,hA⟩:=h
 refine⟨A,c,rfl,fun h0=>?_⟩
 obtain⟨g,rfl,hg,hk⟩:=hA h0
 exact⟨g,rfl,hg,fun k x hx j u hu=>(hb.cell (p:=⟨g,off+(k * n+j),none⟩) hg).trans (hk k x hx j u hu)⟩
theorem Reads.mono {w:World} {B B':Nat} {v:Value} {l:List α} (h:Reads f n off w B v l) (hB:B≤B'):Reads f n off w B' v l:=by
 obtain⟨A,c,rfl,hA⟩:=h
 refine⟨A,c,rfl,fun h0=>?_⟩
 obtain⟨g,rfl,hg,hk⟩:=hA h0
 exact⟨g,rfl,by omega,hk⟩
theorem Reads.at {w:World} {B:Nat} {v:Value} {l:List α} (h:Reads f n off w B v l) (h0:0<l.length) :
  ∃ g c,v=.slice (some ⟨g,off,none⟩) l.length c∧g<B∧∀ k x,l[k]?=some x→∀ j u,(f x)[j]?=some u→w.cell? ⟨g,off+(k * n+j),none⟩=some u:=by
 obtain⟨A,c,rfl,hA⟩:=h
 obtain⟨g,rfl,hg,hk⟩:=hA h0
 exact⟨g,c,rfl,hg,hk⟩
theorem Reads.hO {w:World} {base m:Nat} {e:TypeId} {v:Value} {l:List α} (hn:∀ x,(f x).length=n) (hm:l.length=m) (h:w.ownsRow base e n v m (rows f l)):Reads f n 0 w w.heap.size v l:=by
 subst hm
 rcases h.2 with⟨rfl,h0⟩ | ⟨g,cap,cur,rfl,hbg,hg,hrest⟩
 ·exact⟨none,0,by rw[h0],fun h=>by omega⟩
 ·refine⟨some ⟨g,0,none⟩,cap,rfl,fun h0=>⟨g,rfl,(Array.getElem?_eq_some_iff.1 hg).1,fun k x hx j u hu=>?_⟩⟩
  have hj:j<n:=by have:=(List.getElem?_eq_some_iff.1 hu).1;rwa [hn]at this
  have hk:k<l.length:=(List.getElem?_eq_some_iff.1 hx).1
  have hlt:k * n+j<l.length * n:=by
   have:(k+1) * n≤l.length * n:=Nat.mul_le_mul_right n hk
   rw[Nat.succ_mul]at this;omega
  have:=h.cellAt (k * n+j) hlt
  rw[Nat.zero_add,this,fE f hn l k x hx j hj,hu]
end
end Go.Proofs.YthbigkoihpgcfaaGreatDoor.Ba
namespace Go.Proofs.YthbigkoihpgcfaaGreatDoor.Ba
open Go.RowKit
theorem xY {W:World} {base e n m k cap g:Nat} {xs:List Value} (h:W.ownsRow base e n (.slice (some ⟨g,0,none⟩) k cap) k xs) (hm:m≤k):W.ownsRow base e n (.slice (some ⟨g,0,none⟩) m cap) m (xs.take (m * n)):=by
 have hmk:m * n≤k * n:=Nat.mul_le_mul_right n hm
 refine⟨by rw[List.length_take,h.1];omega,?_⟩
 rcases h.2 with⟨hv,_⟩ | ⟨g',cap',cur,hv,hb,hg,h1,h2,h3,h4⟩
 ·cases hv
 ·injection hv with e1 e2 e3
  injection e1 with e1
  injection e1 with e1
  subst e1;subst e3
  exact .inr ⟨g,cap,cur,rfl,hb,hg,by omega,h2,h3,by rw[← h4,List.take_take,Nat.min_eq_left hmk]⟩
theorem dS {W:World} {base e n k:Nat} {v:Value} {xs:List Value} (h:W.ownsRow base e n v k xs) (hk:0<k):∃ g cap,v=.slice (some ⟨g,0,none⟩) k cap∧g<W.heap.size∧base≤g∧k≤cap:=by
 rcases h.2 with⟨_,h0⟩ | ⟨g,cap,cur,rfl,hb,hg,h1,_⟩
 ·omega
 ·exact⟨g,cap,rfl,(Array.getElem?_eq_some_iff.1 hg).1,hb,h1⟩
theorem fD {W:World} {base e n k:Nat} {v:Value} {xs:List Value} (h:W.ownsRow base e n v k xs) {a:Addr} (u:Value) (hne:v.ownBlock≠some a.block):(W.setCell a u).ownsRow base e n v k xs:=by
 refine⟨h.1,?_⟩
 rcases h.2 with hn | ⟨g,cap,cur,rfl,hb,hg,rest⟩
 ·exact .inl hn
 ·refine .inr ⟨g,cap,cur,rfl,hb,?_,rest⟩
  rw[Below.heap_setCell _ _ _ _ (fun e=>hne (by rw[← e];rfl))]
  exact hg
end Go.Proofs.YthbigkoihpgcfaaGreatDoor.Ba
namespace Go.Proofs.YthbigkoihpgcfaaGreatDoor.Ra
open Go.RowKit
def leftAs {α:Type} (B:Nat) (Kp:World→World→Prop) (I Ix:List α→World→Prop) (xs:List α) (W:World):Exit→Act→World→Prop
 | .normal,_,W'=>KeepsFrom B W W'∧Kp W W'∧I xs W'
 | .ret,_,W'=>KeepsFrom B W W'∧Ix xs W'
 | _,_,_=>False
def aC5 {α:Type} (P:Program) (n gf:Nat) (fa lb:Array Value) (own:Addr→Prop) (encs:α→Array Value) (Kp:World→World→Prop) (ws:List α) (E:World→Prop) (w:World):Prop :=
 ∀ (l:Nat) (J Jx:List α→World→Prop) (W:World),Below w.heap.size w W→(∀ pre V a v,own a→J pre V→J pre (V.setCell a v))→(∀ pre V V',Below V.heap.size V V'→J pre V→J pre V') →
  (∀ pre x V,J pre V→pre++[x] <+: ws→YieldAt Fence.wide (n - 1) P l (encs x) V fun e V' =>
   (e=.returned (.bool true)∧J (pre++[x]) V'∧Kp V V')∨(e=.returned (.bool false)∧Jx (pre++[x]) V')) →
  J [] W →
  CallsIn Fence.wide n P gf (fa++#[.func (.yield l) #[] #[]]++lb) W fun e W'=>(∃ v,e=.returned v)∧((J ws W'∧E W')∨(∃ pre,pre <+: ws∧Jx pre W'))
theorem xL {α:Type} {P:Program} {n gf:Nat} {fa lb:Array Value} {own:Addr→Prop} {g:Operand} {ps:Array Tmp} {assign body:Code} {Q:Exit→Act→World→Prop} {a:Act} {w:World}
  (_h1:1≤n) (hg:a.eval g=.func (.func gf) fa lb) (eg:∀ args w,(callFunc gf args).run P w=.ok (.enter gf args) w) (hown:∀ a,own a→a.block<w.heap.size)
  {encs:α→Array Value} {Kp:World→World→Prop} {ws:List α} {E:World→Prop} (hseq:aC5 P (n - 1) gf fa lb own encs Kp ws E w)
  (hKt:∀ {A B C:World},Kp A B→Kp B C→Kp A C) (hKb:∀ (W:World) (l:Nat) (o o':Obj),w.heap.size≤l→W.heap[l]?=some o→o.isCells=false→o.isWalk=false→Kp W (W.putObj l o'))
  (hE:∀ (W:World) (l:Nat) (o':Obj),w.heap.size≤l→E W→E (W.putObj l o'))
  (hps:∀ x,(encs x).size=ps.size)
  (I Ix:List α→World→Prop) (hI:OwnFrom w.heap.size I) (hIx:OwnFrom w.heap.size Ix) (hIo:∀ pre V a v,own a→I pre V→I pre (V.setCell a v)) (hIb:∀ pre V V',Below V.heap.size V V'→I pre V→I pre V') (h0:I [] w) (a₁:α→Act)
  (hassign:∀ (l:Nat) (x:α) (W:World) (K:Act→World→Prop),K (a₁ x) W →
   assign.wpIn (Fence.wide.inRound l) (n - 1 - 1) P (Exit.then K (fun _ _ _=>False)) { tmps:=(ps.zip (encs x)).foldl (fun t (p,v)=>t.setIfInBounds p v) a.tmps,defers:=[] } W)
  (hbody:∀ (l:Nat) (pre:List α) (x:α) (W:World),I pre W→pre++[x] <+: ws→body.wpIn (Fence.wide.inRound l) (n - 1 - 1) P (leftAs w.heap.size Kp I Ix (pre++[x]) W) (a₁ x) W)
  (hdone:∀ (D:Nat) (W:World),w.heap.size≤D→I ws W→E W→W.heap[D]?=some (.deferred (some []))→Q .normal { a with defers:={ target:=.collected D,args:=#[] }::a.defers } W)
  (hstop:∀ (D:Nat) (pre:List α) (W:World),w.heap.size≤D→pre <+: ws→Ix pre W→W.heap[D]?=some (.deferred (some []))→Code.ret.wpIn Fence.wide n P Q { a with defers:={ target:=.collected D,args:=#[] }::a.defers } W) :
  (Code.rangeFunc g ps assign body).wpIn Fence.wide n P Q a w:=by
 refine wpIn_rangeFunc fun fn hfn=>?_
 -- the loop's record, in its states
 let r:LoopState→Option Code→Loop:=fun st pe=>{ state:=st,pending:=pe,fn,tmps:=a.tmps,params:=ps,assign,body,defers:=w.heap.size }
 let Marks:LoopState→Option Code→World→Prop:=fun st pe W=>W.heap[w.heap.size+1]?=some (.loop (r st pe))∧W.heap[w.heap.size]?=some (.deferred (some []))
 let W1:World:=(w.alloc (.deferred (some []))).alloc (.loop (r .ready none))
 have m1:Marks .ready none W1:=by
  refine⟨?_,(Below.heap_alloc _ _ _ (by simp)).trans (World.alloc_heap_new w _)⟩
  have:=World.alloc_heap_new (w.alloc (.deferred (some []))) (.loop (r .ready none))
  rwa [World.size_alloc]at this
 have b1:Below w.heap.size w W1:=((Below.refl _ w).alloc (Nat.le_refl _) _).alloc (by simp) _
 have i1:I [] W1:=hI.alloc _ (hI.alloc _ h0)
 -- what turns the record alone
 have EX:∀ (st:LoopState) (pe:Option Code) (st':LoopState) (pe':Option Code) (W:World),Marks st pe W→Marks st' pe' (W.putObj (w.heap.size+1) (.loop (r st' pe'))):=fun st pe st' pe' W hm =>
  ⟨World.putObj_heap_same (Array.getElem?_eq_some_iff.1 hm.1).1,(World.putObj_heap_other (by omega)).trans hm.2⟩
 refine⟨w.heap.size+1,[{ target:=.collected w.heap.size,args:=#[] }],W1,{ target:=.fn (.func gf) lb,args:=fa++#[.func (.yield (w.heap.size+1)) #[] #[]] },W1,gf,
  fa++#[.func (.yield (w.heap.size+1)) #[] #[]]++lb,W1,run_enterLoop_outer _ _ _ _ _,?_,fun _ _=>trivial,?_,fun h=>Bool.noConfusion h,?_⟩
 ·simp only[resolve,hg];simp[go_sem]
 ·simp[invoke,go_sem,eg]
 refine(hseq (w.heap.size+1) (fun pre W=>I pre W∧Marks .ready none W) (fun pre W=>Ix pre W∧Marks .done (some .ret) W) W1 b1
  (fun pre V a v ha h=>⟨hIo pre V a v ha h.1,(Below.heap_setCell V a v (w.heap.size+1) (by have:=hown a ha;omega)).trans h.2.1,(Below.heap_setCell V a v w.heap.size (by have:=hown a ha;omega)).trans h.2.2⟩)
  (fun pre V V' hb h=>⟨hIb pre V V' hb h.1,(hb.block _ (Array.getElem?_eq_some_iff.1 h.2.1).1).trans h.2.1,(hb.block _ (Array.getElem?_eq_some_iff.1 h.2.2).1).trans h.2.2⟩)
  ?_ ⟨i1,m1⟩).mono ?_
 ·-- a round
  rintro pre x V ⟨hi,hm⟩ hpre
  have hlt:w.heap.size+1<V.heap.size:=(Array.getElem?_eq_some_iff.1 hm.1).1
  let V2:World:=V.putObj (w.heap.size+1) (.loop (r .busy none))
  have m2:Marks .busy none V2:=EX .ready none .busy none V hm
  have k2:Kp V V2:=hKb _ _ _ _ (by omega) hm.1 rfl rfl
  refine⟨fn,_,assign,body,run_yield (P:=P) (args:=encs x) hm.1 (hps x),roundIn_of_wpIn hfn (hassign _ x V _ ⟨V2,run_beginRound hm.1 rfl,?_⟩)⟩
  refine wpIn_mono (hbody _ pre x V2 (hI.putObj _ hi (by omega) hm.1 rfl) hpre) ?_
  intro e a3 V3 hp
  match e,hp with
  | .normal,⟨hk3,hkp,hi3⟩ =>
   have m3:Marks .busy none V3:=⟨hk3.same _ _ (by omega) m2.1 rfl,hk3.same _ _ (Nat.le_refl _) m2.2 rfl⟩
   exact⟨_,_,run_endRound (P:=P) none m3.1,.inl ⟨rfl,⟨hI.putObj _ hi3 (by omega) m3.1 rfl,EX .busy none .ready none V3 m3⟩,hKt (hKt k2 hkp) (hKb _ _ _ _ (by omega) m3.1 rfl rfl)⟩⟩
  | .ret,⟨hk3,hi3⟩ =>
   have m3:Marks .busy none V3:=⟨hk3.same _ _ (by omega) m2.1 rfl,hk3.same _ _ (Nat.le_refl _) m2.2 rfl⟩
   exact⟨_,_,run_endRound (P:=P) (some .ret) m3.1,.inr ⟨rfl,hIx.putObj _ hi3 (by omega) m3.1 rfl,EX .busy none .done (some .ret) V3 m3⟩⟩
 ·-- behind the iterator
  rintro e W2 ⟨⟨v,rfl⟩,(⟨⟨hi,hm⟩,hE2⟩ | ⟨pre,hSp,hi,hm⟩)⟩
  ·exact⟨none,_,run_endLoop (P:=P) hm.1 (by simp[r]),hdone _ _ (Nat.le_refl _) (hI.putObj _ hi (by omega) hm.1 rfl) (hE _ _ _ (by omega) hE2) ((World.putObj_heap_other (by omega)).trans hm.2)⟩
  ·exact⟨some .ret,_,run_endLoop (P:=P) hm.1 (by simp[r]),hstop _ pre _ (Nat.le_refl _) hSp (hIx.putObj _ hi (by omega) hm.1 rfl) ((World.putObj_heap_other (by omega)).trans hm.2)⟩
end Go.Proofs.YthbigkoihpgcfaaGreatDoor.Ra
namespace Go.Proofs.YthbigkoihpgcfaaGreatDoor.Ra
open Go.RowKit
end Go.Proofs.YthbigkoihpgcfaaGreatDoor.Ra
