/-
  Put together: TtD, TrClose.
-/
import Derived.Test.YtgpihfacmpbpaaaGreatDoorTrV
import Derived.Deep.Slices
import Derived.Lib.SmallJoins
import Derived.ProofKit
import Derived.OpenShut
import Derived.WideKeyArgs
import Derived.Test.YtgpihfacmpbpaaaGreatDoorVo
import Derived.Test.YtgpihfacmpbpaaaGreatDoorTie
import Derived.LaidMore
import Derived.Lay
import Derived.SevenTiedAt
import Derived.Stop.Joined
import Derived.Stop.LaidErr
import Derived.Lib.LaidTab
namespace Go.Proofs.YtgpihfacmpbpaaaGreatDoor.Tr
open Go.ChangeShapes Go.WideShapes Go.ChangeAt Go.RowKit Go.Deep Go.Joins
section
variable {H:Type} {enc:TypeId × Value→H} {W:World} {base:Nat} {spare:Nat→Bool} {held:Bool}
set_option maxRecDepth 100000 in
theorem TO {fuel:Nat} {cs:List Value} {x:DataW H × List MemPlace} (h:DataW.trod enc Tryz.prog W base spare held fuel 41 cs=some x) :
  ∃ y:Nd,(y.kind<256∧y.text.size≤maxLen∧(-9223372036854775808≤y.place∧y.place≤9223372036854775807)∧(-9223372036854775808≤y.size∧y.size≤9223372036854775807))∧cs=cN y:=by
 obtain⟨y0,y1,y2,y3,n,-,hl,h0,h1,h2,h3⟩:=trod_struct4 Tryz.underlying41 h
 have hc:Tryz.prog.cellsOf 41=4:=by kernel_rfl
 rw[hc]at hl
 match cs,hl with
 | [c0,c1,c2,c3],_ =>
  obtain⟨k,e0,-,w0⟩:=DataW.trod_int Tryz.underlying5 h0
  obtain⟨s,e1,-,w1⟩:=DataW.trod_string Tryz.underlying9 h1
  obtain⟨p,e2,-,w2⟩:=DataW.trod_int Tryz.underlying3 h2
  obtain⟨z,e3,-,w3⟩:=DataW.trod_int Tryz.underlying3 h3
  have hk:=bounds_u8 w0
  obtain⟨k',rfl⟩:=Int.eq_ofNat_of_zero_le hk.1
  have hk1:Tryz.prog.cellsOf 5=1:=by kernel_rfl
  have hs1:Tryz.prog.cellsOf 9=1:=by kernel_rfl
  have hi1:Tryz.prog.cellsOf 3=1:=by kernel_rfl
  simp[hk1]at e0
  simp[hs1]at e1
  simp[hi1]at e2 e3
  subst e0;subst e1;subst e2;subst e3
  exact⟨⟨k',s,p,z⟩,⟨by show k'<256;omega,w1,bounds_i64 w2,bounds_i64 w3⟩,rfl⟩
set_option maxRecDepth 100000 in
theorem L3 {r:Reach} {b0:Nat} {v:Value} {d:DataW H} {p:List MemPlace} (hval:Value.okWide Tryz.prog W r b0 22 v) (h:DataW.Trod enc Tryz.prog W base spare held 22 v d p) :
  ∃ (t:List Nd) (A:Option Addr) (off c:Nat),v=.slice A t.length c∧t.length≤c∧c≤maxLen∧Fit t∧aS off W W.heap.size (.slice A t.length c) t:=by
 obtain⟨a0,len,cap,rfl⟩:=okWide_slice Tryz.underlying22 hval
 obtain⟨fuel,hf⟩:=h
 rcases open_slice Tryz.underlying22 hf with⟨hcs,-⟩ | ⟨a,l,c,m,n,D,Pl,hcs,-,hl,hc,hm,-,hi⟩
 ·cases hcs
  exact⟨[],none,0,0,rfl,Nat.le_refl _,Nat.zero_le _,(fun x hx=>by cases hx),Ba.Reads.nil _ _ _⟩
 ·cases hcs
  have hle:len≤m:=by rw[hm];split<;>omega
  have h4:Tryz.prog.cellsOf 41=4:=by kernel_rfl
  have one:∀ i,i<len→∃ y:Nd,(y.kind<256∧y.text.size≤maxLen∧(-9223372036854775808≤y.place∧y.place≤9223372036854775807)∧(-9223372036854775808≤y.size∧y.size≤9223372036854775807))∧∀ j u,(cN y)[j]?=some u→W.cell? (a.add (i * 4+j))=some u:=by
   intro i hil
   obtain⟨cs',hcs',ht'⟩:=hi i (by omega)
   obtain⟨y,hy,rfl⟩:=TO ht'
   refine⟨y,hy,fun j u hu=>?_⟩
   rw[h4]at hcs'
   obtain⟨-,hlen,hat⟩:=World.cells?_some hcs'
   have hj:j<4:=by rw[← hlen];exact(List.getElem?_eq_some_iff.1 hu).1
   rw[← Go.Deep.add_add,hat j hj]
   exact hu
  obtain⟨f,hfx⟩:∃ f:Nat→Nd,∀ i,i<len→((f i).kind<256∧(f i).text.size≤maxLen∧(-9223372036854775808≤(f i).place∧(f i).place≤9223372036854775807)∧(-9223372036854775808≤(f i).size∧(f i).size≤9223372036854775807))∧∀ j u,(cN (f i))[j]?=some u→W.cell? (a.add (i * 4+j))=some u :=
   ⟨fun i=>if h:i<len then Classical.choose (one i h) else ⟨0,aA,0,0⟩,fun i h=>by
    have:=Classical.choose_spec (one i h)
    simpa only[h,dite_true] using this⟩
  have hlen:((List.range len).map f).length=len:=by simp
  obtain⟨g,off,spot⟩:=a
  refine⟨(List.range len).map f,some ⟨g,off,spot⟩,off,cap,by rw[hlen],by rw[hlen];exact hl,hc,fun x hx=>?_,⟨some ⟨g,off,spot⟩,cap,rfl,fun h0=>?_⟩⟩
  ·obtain⟨i,hi',rfl⟩:=List.mem_map.1 hx
   exact(hfx i (List.mem_range.1 hi')).1
  ·rw[hlen]at h0
   have hc0:=(hfx 0 h0).2 0 _ rfl
   have hs:spot=none:=by simpa[Addr.add] using World.cell?_spot hc0
   subst hs
   refine⟨g,rfl,?_,fun k x hx j u hu=>?_⟩
   ·exact World.block_lt_of_cell? _ _ hc0
   ·rw[List.getElem?_map]at hx
    obtain⟨i,hi',rfl⟩:=Option.map_eq_some_iff.1 hx
    have hkl:k<len:=by
     have:=(List.getElem?_eq_some_iff.1 hi').1
     simpa using this
    have:i=k:=by rw[List.getElem?_range hkl]at hi';exact(Option.some.inj hi').symm
    subst this
    have e:∀ n,(⟨g,off,none⟩:Addr).add n=⟨g,off+n,none⟩:=fun n=>by unfold Addr.add;split<;>simp_all
    have:=(hfx i hkl).2 j u hu
    rw[e]at this
    exact this
end
theorem stays {H:Type} {enc:TypeId × Value→H} {t:TypeId} (hr:Tryz.prog.readableRec t=true) (hrow:t<Tryz.prog.types.size) {W W':World} {base:Nat} {sp':Nat→Bool} {v:Value} {d:DataW H} {ps:List MemPlace}
  (h:DataW.Trod enc Tryz.prog W base (fun _=>true) true t v d ps) (hb:Below W.heap.size W W') (hlt:∀ p ∈ ps,p.block<W.heap.size) (hs:∀ p ∈ ps,sp' p.block=true):DataW.Trod enc Tryz.prog W' base sp' true t v d ps :=
 WideElems.Trod_stays (by kernel_rfl) hr hrow h (fun p hp=>by
  have:=hlt p hp
  cases p with
  | cell b off=>exact World.cell?_of_block (w:=W) (a:=⟨b,off,none⟩) (hb.block b this)
  | map b=>exact hb.block b this) hs
end Go.Proofs.YtgpihfacmpbpaaaGreatDoor.Tr
namespace Go.Proofs.YtgpihfacmpbpaaaGreatDoor.Tr
open Go.ChangeShapes Go.WideShapes Go.ChangeAt Go.RowKit
theorem own:ownKnob Tryz.prog.godebug=none:=by kernel_rfl
theorem aEF:Tryz.prog.globalNamed "stylus/chars.classes"=some 0:=by kernel_rfl
theorem aE7:(Tryz.prog.globals[0]?).map (·.type)=some 172:=by kernel_rfl
def I5:List (String × DataW Unit):=[("unicode/utf8.acceptRanges",Rows.laid_unicode_utf8_acceptRanges),("stylus/chars.classes",Rows.laid_stylus_chars_classes),("unicode/utf8.first",Rows.laid_unicode_utf8_first)]
def aEG:List Int:=[6597069766656,0,4919056986126943301,4611761005120402227,2459565876494606880,2345624805922,1229782938247303440,1172812402961,0,0,0,0,0,0,0,0]
theorem ZK {W:World} (h:laidMetH Tryz.prog I5 W):Ka.Laid W:=by
 rw[MakeChecks.laidMetH_plain _ _ _ (by kernel_rfl)]at h
 have h':laidMet Tryz.prog (("stylus/chars.classes",Lib.tabData .u64 aEG)::[("unicode/utf8.first",Rows.laid_unicode_utf8_first)]) W:=laidMet.tail h
 have hT:=Lib.tabIs_of_head aEF aE7 Tryz.underlying172 Tryz.underlying171 (by kernel_rfl) (by kernel_rfl) h'
 have hc:∀ i:Nat,i<16→W.cell? ⟨0,i,none⟩=some (.int .u64 (Ka.RG i:Int)):=fun i hi=>by
  have:=hT.cell aEF i hi
  rw[this]
  have e:∀ i:Fin 16,aEG.getD i.val 0=((Ka.RG i.val:Nat):Int):=by decide +kernel
  exact congrArg (fun z=>some (Value.int .u64 z)) (e ⟨i,hi⟩)
 refine⟨?_,hc⟩
 have h0:=hc 0 (by omega)
 rcases Nat.lt_or_ge 0 W.heap.size with hz | hz
 ·exact hz
 ·rw[World.cell?,Array.getElem?_eq_none (by exact hz)]at h0
  simp at h0
end Go.Proofs.YtgpihfacmpbpaaaGreatDoor.Tr
