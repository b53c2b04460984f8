/-
  Put together.
-/
import Derived.Test.YthbigkoihpgcfaaGreatDoorSj
import Derived.Test.YthbigkoihpgcfaaGreatDoorUb
import Derived.Test.YthbigkoihpgcfaaGreatDoorUl
import Derived.Deep.Slices
import Derived.Deep.Strs
import Derived.Lib.SmallJoins
import Derived.ProofKit
import Derived.OpenShut
import Derived.WideKeyArgs
import Derived.Test.YthbigkoihpgcfaaGreatDoorTie
import Derived.LaidMore
import Derived.Lay
import Derived.SevenTiedAt
import Derived.Stop.Joined
import Derived.Stop.LaidErr
import Derived.Lib.LaidTab
import Derived.HandedShaped
import Derived.Carry
set_option maxRecDepth 100000
set_option maxHeartbeats 16000000
namespace Go.Proofs.YthbigkoihpgcfaaGreatDoor.Ru
open Go.ChangeShapes Go.WideShapes Go.ChangeAt Go.RowKit Go.Deep Go.Joins Ba
theorem tL (s:ByteArray):∀ b ∈ aA s,b<256:=fun b hb=>by
 unfold aA at hb
 obtain⟨x,_,rfl⟩:=List.mem_map.1 hb
 exact UInt8.toNat_lt x
section
variable {H:Type} {enc:TypeId × Value→H} {W:World} {base:Nat} {spare:Nat→Bool} {held:Bool}
theorem FJ {P:Program} {t:TypeId} {f0 f1 f2 f3 f4:Field} {fuel:Nat} {cs:List Value} {x:DataW H × List MemPlace} (ht:P.underlying t=some (.struct #[f0,f1,f2,f3,f4])) (h:DataW.trod enc P W base spare held fuel t cs=some x) :
  ∃ y0 y1 y2 y3 y4 n,cs.length=P.cellsOf t∧DataW.trod enc P W base spare held n f0.type ((cs.drop f0.offset).take (P.cellsOf f0.type))=some y0 ∧
   DataW.trod enc P W base spare held n f1.type ((cs.drop f1.offset).take (P.cellsOf f1.type))=some y1∧DataW.trod enc P W base spare held n f2.type ((cs.drop f2.offset).take (P.cellsOf f2.type))=some y2 ∧
   DataW.trod enc P W base spare held n f3.type ((cs.drop f3.offset).take (P.cellsOf f3.type))=some y3∧DataW.trod enc P W base spare held n f4.type ((cs.drop f4.offset).take (P.cellsOf f4.type))=some y4:=by
 obtain⟨xs,n,_,rfl,hl,hlen,hf⟩:=DataW.trod_struct ht h
 match xs,hlen with
 | [y0,y1,y2,y3,y4],_=>exact⟨y0,y1,y2,y3,y4,n,hl,by simpa using hf 0 f0 rfl,by simpa using hf 1 f1 rfl,by simpa using hf 2 f2 rfl,by simpa using hf 3 f3 rfl,by simpa using hf 4 f4 rfl⟩
theorem TQ {fuel:Nat} {cs:List Value} {x:DataW H × List MemPlace} (h:DataW.trod enc Tryz.prog W base spare held fuel 48 cs=some x) :
  ∃ y:Rl,eN y∧cs=cR y:=by
 obtain⟨y0,y1,y2,y3,y4,n,hl,h0,h1,h2,h3,h4⟩:=FJ Tryz.underlying48 h
 have hc:Tryz.prog.cellsOf 48=5:=by kernel_rfl
 rw[hc]at hl
 match cs,hl with
 | [c0,c1,c2,c3,c4],_ =>
  obtain⟨k,e0,-,w0⟩:=DataW.trod_int Tryz.underlying3 h0
  obtain⟨s,e1,-,w1⟩:=DataW.trod_string Tryz.underlying9 h1
  obtain⟨t,e2,-,w2⟩:=DataW.trod_string Tryz.underlying9 h2
  obtain⟨p,e3,-,w3⟩:=DataW.trod_int Tryz.underlying3 h3
  obtain⟨z,e4,-,w4⟩:=DataW.trod_int Tryz.underlying3 h4
  have hs1:Tryz.prog.cellsOf 9=1:=by kernel_rfl
  have hi1:Tryz.prog.cellsOf 3=1:=by kernel_rfl
  simp[hi1]at e0 e3 e4
  simp[hs1]at e1 e2
  subst e0;subst e1;subst e2;subst e3;subst e4
  refine⟨⟨k,aA s,aA t,p,z⟩,⟨bounds_i64 w0,bounds_i64 w3,bounds_i64 w4,tL s,tL t,by rw[aD];exact w1,by rw[aD];exact w2⟩,?_⟩
  show _=[Value.int .i64 k,.string (bytesOf (aA s)),.string (bytesOf (aA t)),.int .i64 p,.int .i64 z]
  rw[aP,aP]
theorem NY {r:Reach} {b0:Nat} {v:Value} {d:DataW H} {p:List MemPlace} (hval:Value.okWide Tryz.prog W r b0 22 v) (h:DataW.Trod enc Tryz.prog W base spare held 22 v d p) :
  ∃ (t:List Rl) (A:Option Addr) (off c:Nat),v=.slice A t.length c∧t.length≤c∧c≤maxLen∧(∀ x ∈ t,eN x)∧dZ off W W.heap.size (.slice A t.length c) t:=by
 obtain⟨a0,len,cap,rfl⟩:=okWide_slice Tryz.underlying22 hval
 obtain⟨fuel,hf⟩:=h
 rcases open_slice Tryz.underlying22 hf with⟨hcs,-⟩ | ⟨a,l,c,m,n,D,Pl,hcs,-,hl,hc,hm,-,hi⟩
 ·cases hcs
  exact⟨[],none,0,0,rfl,Nat.le_refl _,Nat.zero_le _,(fun x hx=>by cases hx),Ba.Reads.nil _ _ _⟩
 ·cases hcs
  have hle:len≤m:=by rw[hm];split<;>omega
  have h4:Tryz.prog.cellsOf 48=5:=by kernel_rfl
  have one:∀ i,i<len→∃ y:Rl,eN y∧∀ j u,(cR y)[j]?=some u→W.cell? (a.add (i * 5+j))=some u:=by
   intro i hil
   obtain⟨cs',hcs',ht'⟩:=hi i (by omega)
   obtain⟨y,hy,rfl⟩:=TQ ht'
   refine⟨y,hy,fun j u hu=>?_⟩
   rw[h4]at hcs'
   obtain⟨-,hlen,hat⟩:=World.cells?_some hcs'
   have hj:j<5:=by rw[← hlen];exact(List.getElem?_eq_some_iff.1 hu).1
   rw[← Go.Deep.add_add,hat j hj]
   exact hu
  obtain⟨f,hfx⟩:∃ f:Nat→Rl,∀ i,i<len→eN (f i)∧∀ j u,(cR (f i))[j]?=some u→W.cell? (a.add (i * 5+j))=some u :=
   ⟨fun i=>if h:i<len then Classical.choose (one i h) else ⟨0,[],[],0,0⟩,fun i h=>by
    have:=Classical.choose_spec (one i h)
    simpa only[h,dite_true] using this⟩
  have hlen:((List.range len).map f).length=len:=by simp
  obtain⟨g,off,spot⟩:=a
  refine⟨(List.range len).map f,some ⟨g,off,spot⟩,off,cap,by rw[hlen],by rw[hlen];exact hl,hc,fun x hx=>?_,⟨some ⟨g,off,spot⟩,cap,rfl,fun h0=>?_⟩⟩
  ·obtain⟨i,hi',rfl⟩:=List.mem_map.1 hx
   exact(hfx i (List.mem_range.1 hi')).1
  ·rw[hlen]at h0
   have hc0:=(hfx 0 h0).2 0 _ rfl
   have hs:spot=none:=by simpa[Addr.add] using World.cell?_spot hc0
   subst hs
   refine⟨g,rfl,?_,fun k x hx j u hu=>?_⟩
   ·exact World.block_lt_of_cell? _ _ hc0
   ·rw[List.getElem?_map]at hx
    obtain⟨i,hi',rfl⟩:=Option.map_eq_some_iff.1 hx
    have hkl:k<len:=by
     have:=(List.getElem?_eq_some_iff.1 hi').1
     simpa using this
    have:i=k:=by rw[List.getElem?_range hkl]at hi';exact(Option.some.inj hi').symm
    subst this
    have e:∀ n,(⟨g,off,none⟩:Addr).add n=⟨g,off+n,none⟩:=fun n=>by unfold Addr.add;split<;>simp_all
    have:=(hfx i hkl).2 j u hu
    rw[e]at this
    exact this
end
theorem NZ {H:Type} {enc:TypeId × Value→H} {t:TypeId} (hr:Tryz.prog.readableRec t=true) (hrow:t<Tryz.prog.types.size) {W W':World} {base:Nat} {sp':Nat→Bool} {v:Value} {d:DataW H} {ps:List MemPlace}
  (h:DataW.Trod enc Tryz.prog W base (fun _=>true) true t v d ps) (hb:Below W.heap.size W W') (hlt:∀ p ∈ ps,p.block<W.heap.size) (hs:∀ p ∈ ps,sp' p.block=true):DataW.Trod enc Tryz.prog W' base sp' true t v d ps :=
 WideElems.Trod_stays (by kernel_rfl) hr hrow h (fun p hp=>by
  have:=hlt p hp
  cases p with
  | cell b off=>exact World.cell?_of_block (w:=W) (a:=⟨b,off,none⟩) (hb.block b this)
  | map b=>exact hb.block b this) hs
end Go.Proofs.YthbigkoihpgcfaaGreatDoor.Ru
namespace Go.Proofs.YthbigkoihpgcfaaGreatDoor.Ck
open Go.ChangeShapes Go.WideShapes Go.ChangeAt Go.RowKit Go.Deep Go.Joins Ba Ru
theorem own:ownKnob Tryz.prog.godebug=none:=by kernel_rfl
theorem aEY:Tryz.prog.globalNamed "stylus/chars.classes"=some 2:=by kernel_rfl
theorem aFY:(Tryz.prog.globals[2]?).map (·.type)=some 242:=by kernel_rfl
theorem aDH:(Tryz.prog.globals[0]?).map (·.type)=some 230:=by kernel_rfl
def qZ:List (String × DataW Unit):=[("unicode/utf8.acceptRanges",Rows.laid_unicode_utf8_acceptRanges),("stylus/chars.classes",Rows.laid_stylus_chars_classes),("unicode.White_Space",Rows.laid_unicode_White_Space),("strings.asciiSpace",Rows.laid_strings_asciiSpace),("unicode/utf8.first",Rows.laid_unicode_utf8_first)]
def aEZ:List Int:=[6597069766656,0,4919056986126943301,4611761005120402227,2459565876494606880,2345624805922,1229782938247303440,1172812402961,0,0,0,0,0,0,0,0]
theorem aDI:(qZ.all fun x=>x.2.handleName?.isNone)=true:=by kernel_rfl
theorem U4 {W:World} (h:laidMetH Tryz.prog qZ W) :
  laidMet Tryz.prog (("stylus/chars.classes",Lib.tabData .u64 aEZ)::qZ.drop 2) W∧laidMet Tryz.prog (("strings.asciiSpace",Lib.tabData .u8 Lib.asciiSpaceTab)::qZ.drop 4) W:=by
 rw[MakeChecks.laidMetH_plain _ _ _ aDI]at h
 have h1:laidMet Tryz.prog (qZ.drop 1) W:=laidMet.tail h
 exact⟨h1,laidMet.tail (laidMet.tail h1)⟩
theorem rG {W:World} {g i:Nat} {v:Value} (h:W.cell? ⟨g,i,none⟩=some v):g<W.heap.size:=by
 rcases Nat.lt_or_ge g W.heap.size with hz | hz
 ·exact hz
 ·rw[World.cell?,Array.getElem?_eq_none (by exact hz)]at h
  simp at h
theorem aAG {W:World} (h:laidMetH Tryz.prog qZ W) (hs:W.ShapedOpen Tryz.prog):bH W:=by
 obtain⟨hC,hA⟩:=U4 h
 have hT:=Lib.tabIs_of_head aEY aFY Tryz.underlying242 Tryz.underlying241 (by kernel_rfl) (by kernel_rfl) hC
 have hc:∀ i:Nat,i<16→W.cell? ⟨2,i,none⟩=some (.int .u64 (Ka.yJ i:Int)):=fun i hi=>by
  have:=hT.cell aEY i hi
  rw[this]
  have e:∀ i:Fin 16,aEZ.getD i.val 0=((Ka.yJ i.val:Nat):Int):=by decide +kernel
  exact congrArg (fun z=>some (Value.int .u64 z)) (e ⟨i,hi⟩)
 have hP:=Lib.tabIs_of_head D8 aDH Tryz.underlying230 Tryz.underlying5 (by kernel_rfl) (by kernel_rfl) hA
 have l0:=rG (hc 0 (by decide))
 have l4:=rG (hP.cell D8 0 (by decide))
 obtain⟨m,hm⟩:∃ m,W.cell? ⟨1,0,none⟩=some (.int .i64 m):=Tryz.laysM144.s1_3 W hs
 exact⟨⟨by unfold GJ;omega,⟨l0,hc⟩,hP⟩,rG hm,m,hm⟩
theorem rH {H:Type} {enc:TypeId × Value→H} {a:Assume} {C:Checked} {os:Os} {f:FuncId} {fn:Func} {s:ChangeSpec} {conds:List PathCond} {apart fresh handsOn again:Bool} {X:World→Array Value→Prop}
  (hX:∀ (w w':World) (args:Array Value),w.heap=w'.heap→X w args→X w' args)
  (own:ownKnob C.prog.godebug=none) (started:os.Started) (noInit:C.prog.inits.idxOf? f=none) (hfn:C.prog.funcs[f]?=some fn)
  (witness:∃ (w:World) (tape:Tape) (i:Input),w.os=os∧(w.forCall tape i).Shaped C.prog∧i.vars=[]∧Input.okWide C.prog (w.forCall tape i) .any w.heap.size f i ∧
   ((s.pre enc C.prog fn conds apart (w.forCall tape i).memory i.args∧X (w.forCall tape i).memory i.args)∧sizedMet enc C.prog fn (OpenSpec.ofChange s) apart (w.forCall tape i).memory i.args)∧a.holds C.prog (lone (Frame.enter C.prog f i.args .normal) [] (w.forCall tape i)))
  (contract:∀ (W:World) (base:Nat) (args:Array Value) (ds gs:List (DataW H)) (before:List MemPlace),
   (∀ (j:Nat) t v,fn.params[j]?=some t→args[j]?=some v→Value.okWide C.prog W .any base t v) →
   DataW.Whole enc C.prog fn.params.toList s.vars apart W args.toList ds gs before →
   conds.all (PathCond.test C.prog ⟨fn.params.toList,ds,s.plain.varTypes C.prog,gs⟩)=true →
   (DataW.weightsEach C.prog (fn.params.toList++s.plain.varTypes C.prog) (ds++gs)).all (·≤reachBytes)=true→X W args→W.ShapedOpen C.prog →
   a.holds C.prog (lone (Frame.enter C.prog f args .normal) [] W) →
   Calls C.prog f args W fun e W'=>∃ v,e=.returned v∧s.post enc C.prog fn apart fresh handsOn again W args v W') :
  ReturnsInHanded a C os f .any (fun w args=>(s.pre enc C.prog fn conds apart w args∧X w args)∧sizedMet enc C.prog fn (OpenSpec.ofChange s) apart w args) (s.post enc C.prog fn apart fresh handsOn again):=by
 refine returnsInHanded_of_calls own started noInit witness ?_
 intro w tape i _ hsh _ hok hpre hholds
 obtain⟨_,_,_,fn',hfn',_,_,_,_,hval⟩:=hok
 have e:fn'=fn:=Option.some.inj (hfn'.symm.trans hfn)
 subst e
 obtain⟨⟨⟨ds,gs,before,hw,hc⟩,hx⟩,hz⟩:=hpre
 have hw':=DataW.Whole.of_heap (w':=w.forCall tape i) (by rfl) hw
 refine(contract (w.forCall tape i) w.heap.size i.args ds gs before hval hw' hc (hz.weights hw) (hX _ _ _ (by rfl) hx) hsh hholds).mono fun e W' ⟨v,he,hp⟩=>?_
 subst he
 exact ChangeSpec.post_blind hp
section
variable {H:Type} {enc:TypeId × Value→H} {W:World} {base:Nat} {spare:Nat→Bool} {held:Bool}
end
def cB (b:Nat):List Value:=[.int .u8 (b:Int)]
end Go.Proofs.YthbigkoihpgcfaaGreatDoor.Ck
namespace Go.Proofs.YthbigkoihpgcfaaGreatDoor.Cu
open Go.ChangeShapes Go.WideShapes Go.ChangeAt Go.RowKit Go.Deep Go.Joins Ba Ru Ck Ti Pa Fl
def PG (y:Tk):Prop:=(-9223372036854775808≤y.kind∧y.kind≤9223372036854775807)∧y.ch<256∧(-9223372036854775808≤y.place∧y.place≤9223372036854775807)
section
variable {H:Type} {enc:TypeId × Value→H} {W:World} {base:Nat} {spare:Nat→Bool} {held:Bool}
theorem MG {P:Program} {t:TypeId} {f0 f1 f2:Field} {fuel:Nat} {cs:List Value} {x:DataW H × List MemPlace} (ht:P.underlying t=some (.struct #[f0,f1,f2])) (h:DataW.trod enc P W base spare held fuel t cs=some x) :
  ∃ y0 y1 y2 n,cs.length=P.cellsOf t∧DataW.trod enc P W base spare held n f0.type ((cs.drop f0.offset).take (P.cellsOf f0.type))=some y0 ∧
   DataW.trod enc P W base spare held n f1.type ((cs.drop f1.offset).take (P.cellsOf f1.type))=some y1∧DataW.trod enc P W base spare held n f2.type ((cs.drop f2.offset).take (P.cellsOf f2.type))=some y2:=by
 obtain⟨xs,n,_,rfl,hl,hlen,hf⟩:=DataW.trod_struct ht h
 match xs,hlen with
 | [y0,y1,y2],_=>exact⟨y0,y1,y2,n,hl,by simpa using hf 0 f0 rfl,by simpa using hf 1 f1 rfl,by simpa using hf 2 f2 rfl⟩
theorem VV {fuel:Nat} {cs:List Value} {x:DataW H × List MemPlace} (h:DataW.trod enc Tryz.prog W base spare held fuel 37 cs=some x) :
  ∃ y:Tk,PG y∧cs=cT y:=by
 obtain⟨y0,y1,y2,n,hl,h0,h1,h2⟩:=MG Tryz.underlying37 h
 have hc:Tryz.prog.cellsOf 37=3:=by kernel_rfl
 rw[hc]at hl
 match cs,hl with
 | [c0,c1,c2],_ =>
  obtain⟨k,e0,-,w0⟩:=DataW.trod_int Tryz.underlying3 h0
  obtain⟨b,e1,-,w1⟩:=DataW.trod_int Tryz.underlying5 h1
  obtain⟨p,e2,-,w2⟩:=DataW.trod_int Tryz.underlying3 h2
  have hk:=bounds_u8 w1
  obtain⟨b',rfl⟩:=Int.eq_ofNat_of_zero_le hk.1
  have hk1:Tryz.prog.cellsOf 5=1:=by kernel_rfl
  have hi1:Tryz.prog.cellsOf 3=1:=by kernel_rfl
  simp[hi1]at e0
  simp[hk1]at e1
  simp[hi1]at e2
  subst e0;subst e1;subst e2
  exact⟨⟨k,b',p⟩,⟨bounds_i64 w0,by show b'<256;omega,bounds_i64 w2⟩,rfl⟩
theorem CF {r:Reach} {b0:Nat} {v:Value} {d:DataW H} {p:List MemPlace} (hval:Value.okWide Tryz.prog W r b0 23 v) (h:DataW.Trod enc Tryz.prog W base spare held 23 v d p) :
  ∃ (t:List Tk) (A:Option Addr) (off c:Nat),v=.slice A t.length c∧t.length≤c∧c≤maxLen∧(∀ x ∈ t,PG x)∧bW off W W.heap.size (.slice A t.length c) t:=by
 obtain⟨a0,len,cap,rfl⟩:=okWide_slice Tryz.underlying23 hval
 obtain⟨fuel,hf⟩:=h
 rcases open_slice Tryz.underlying23 hf with⟨hcs,-⟩ | ⟨a,l,c,m,n,D,Pl,hcs,-,hl,hc,hm,-,hi⟩
 ·cases hcs
  exact⟨[],none,0,0,rfl,Nat.le_refl _,Nat.zero_le _,(fun x hx=>by cases hx),Ba.Reads.nil _ _ _⟩
 ·cases hcs
  have hle:len≤m:=by rw[hm];split<;>omega
  have h4:Tryz.prog.cellsOf 37=3:=by kernel_rfl
  have one:∀ i,i<len→∃ y:Tk,PG y∧∀ j u,(cT y)[j]?=some u→W.cell? (a.add (i * 3+j))=some u:=by
   intro i hil
   obtain⟨cs',hcs',ht'⟩:=hi i (by omega)
   obtain⟨y,hy,rfl⟩:=VV ht'
   refine⟨y,hy,fun j u hu=>?_⟩
   rw[h4]at hcs'
   obtain⟨-,hlen,hat⟩:=World.cells?_some hcs'
   have hj:j<3:=by rw[← hlen];exact(List.getElem?_eq_some_iff.1 hu).1
   rw[← Go.Deep.add_add,hat j hj]
   exact hu
  obtain⟨f,hfx⟩:∃ f:Nat→Tk,∀ i,i<len→PG (f i)∧∀ j u,(cT (f i))[j]?=some u→W.cell? (a.add (i * 3+j))=some u :=
   ⟨fun i=>if h:i<len then Classical.choose (one i h) else ⟨0,0,0⟩,fun i h=>by
    have:=Classical.choose_spec (one i h)
    simpa only[h,dite_true] using this⟩
  have hlen:((List.range len).map f).length=len:=by simp
  obtain⟨g,off,spot⟩:=a
  refine⟨(List.range len).map f,some ⟨g,off,spot⟩,off,cap,by rw[hlen],by rw[hlen];exact hl,hc,fun x hx=>?_,⟨some ⟨g,off,spot⟩,cap,rfl,fun h0=>?_⟩⟩
  ·obtain⟨i,hi',rfl⟩:=List.mem_map.1 hx
   exact(hfx i (List.mem_range.1 hi')).1
  ·rw[hlen]at h0
   have hc0:=(hfx 0 h0).2 0 _ rfl
   have hs:spot=none:=by simpa[Addr.add] using World.cell?_spot hc0
   subst hs
   refine⟨g,rfl,?_,fun k x hx j u hu=>?_⟩
   ·exact World.block_lt_of_cell? _ _ hc0
   ·rw[List.getElem?_map]at hx
    obtain⟨i,hi',rfl⟩:=Option.map_eq_some_iff.1 hx
    have hkl:k<len:=by
     have:=(List.getElem?_eq_some_iff.1 hi').1
     simpa using this
    have:i=k:=by rw[List.getElem?_range hkl]at hi';exact(Option.some.inj hi').symm
    subst this
    have e:∀ n,(⟨g,off,none⟩:Addr).add n=⟨g,off+n,none⟩:=fun n=>by unfold Addr.add;split<;>simp_all
    have:=(hfx i hkl).2 j u hu
    rw[e]at this
    exact this
end
end Go.Proofs.YthbigkoihpgcfaaGreatDoor.Cu
