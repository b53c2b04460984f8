/-
  A row of tokens that comes in, opened; FlatBack in the row's order.
-/
import Derived.Test.YtgpihfacmpbpaaaGreatDoorOf
import Derived.Test.YtgpihfacmpbpaaaGreatDoorVl
import Derived.Deep.Strs
namespace Go.Proofs.YtgpihfacmpbpaaaGreatDoor.Fl
open Go.ChangeShapes Go.WideShapes Go.ChangeAt Go.RowKit Go.Deep Go.Joins Tr Nu Nl Cn
section
variable {H:Type} {enc:TypeId × Value→H} {W:World} {base:Nat} {spare:Nat→Bool} {held:Bool}
set_option maxRecDepth 100000 in
theorem open_tok {fuel:Nat} {cs:List Value} {x:DataW H × List MemPlace} (h:DataW.trod enc Tryz.prog W base spare held fuel 39 cs=some x) :
  ∃ y:Tk,((-9223372036854775808≤y.kind∧y.kind≤9223372036854775807)∧y.ch<256∧(-9223372036854775808≤y.place∧y.place≤9223372036854775807))∧cs=cT y:=by
 obtain⟨y0,y1,y2,n,-,hl,h0,h1,h2⟩:=trod_struct3 Tryz.underlying39 h
 have hc:Tryz.prog.cellsOf 39=3:=by kernel_rfl
 rw[hc]at hl
 match cs,hl with
 | [c0,c1,c2],_ =>
  obtain⟨k,e0,-,w0⟩:=DataW.trod_int Tryz.underlying3 h0
  obtain⟨b,e1,-,w1⟩:=DataW.trod_int Tryz.underlying5 h1
  obtain⟨p,e2,-,w2⟩:=DataW.trod_int Tryz.underlying3 h2
  have hk:=bounds_u8 w1
  obtain⟨b',rfl⟩:=Int.eq_ofNat_of_zero_le hk.1
  have hk1:Tryz.prog.cellsOf 5=1:=by kernel_rfl
  have hi1:Tryz.prog.cellsOf 3=1:=by kernel_rfl
  simp[hi1]at e0
  simp[hk1]at e1
  simp[hi1]at e2
  subst e0;subst e1;subst e2
  exact⟨⟨k,b',p⟩,⟨bounds_i64 w0,by show b'<256;omega,bounds_i64 w2⟩,rfl⟩
set_option maxRecDepth 100000 in
theorem open_toks {r:Reach} {b0:Nat} {v:Value} {d:DataW H} {p:List MemPlace} (hval:Value.okWide Tryz.prog W r b0 25 v) (h:DataW.Trod enc Tryz.prog W base spare held 25 v d p) :
  ∃ (t:List Tk) (A:Option Addr) (off c:Nat),v=.slice A t.length c∧t.length≤c∧c≤maxLen∧kQ t∧fE off W W.heap.size (.slice A t.length c) t:=by
 obtain⟨a0,len,cap,rfl⟩:=okWide_slice Tryz.underlying25 hval
 obtain⟨fuel,hf⟩:=h
 rcases open_slice Tryz.underlying25 hf with⟨hcs,-⟩ | ⟨a,l,c,m,n,D,Pl,hcs,-,hl,hc,hm,-,hi⟩
 ·cases hcs
  exact⟨[],none,0,0,rfl,Nat.le_refl _,Nat.zero_le _,(fun x hx=>by cases hx),Ba.Reads.nil _ _ _⟩
 ·cases hcs
  have hle:len≤m:=by rw[hm];split<;>omega
  have h4:Tryz.prog.cellsOf 39=3:=by kernel_rfl
  have one:∀ i,i<len→∃ y:Tk,((-9223372036854775808≤y.kind∧y.kind≤9223372036854775807)∧y.ch<256∧(-9223372036854775808≤y.place∧y.place≤9223372036854775807))∧∀ j u,(cT y)[j]?=some u→W.cell? (a.add (i * 3+j))=some u:=by
   intro i hil
   obtain⟨cs',hcs',ht'⟩:=hi i (by omega)
   obtain⟨y,hy,rfl⟩:=open_tok ht'
   refine⟨y,hy,fun j u hu=>?_⟩
   rw[h4]at hcs'
   obtain⟨-,hlen,hat⟩:=World.cells?_some hcs'
   have hj:j<3:=by rw[← hlen];exact(List.getElem?_eq_some_iff.1 hu).1
   rw[← Go.Deep.add_add,hat j hj]
   exact hu
  obtain⟨f,hfx⟩:∃ f:Nat→Tk,∀ i,i<len→((-9223372036854775808≤(f i).kind∧(f i).kind≤9223372036854775807)∧(f i).ch<256∧(-9223372036854775808≤(f i).place∧(f i).place≤9223372036854775807))∧∀ j u,(cT (f i))[j]?=some u→W.cell? (a.add (i * 3+j))=some u :=
   ⟨fun i=>if h:i<len then Classical.choose (one i h) else ⟨0,0,0⟩,fun i h=>by
    have:=Classical.choose_spec (one i h)
    simpa only[h,dite_true] using this⟩
  have hlen:((List.range len).map f).length=len:=by simp
  obtain⟨g,off,spot⟩:=a
  refine⟨(List.range len).map f,some ⟨g,off,spot⟩,off,cap,by rw[hlen],by rw[hlen];exact hl,hc,fun x hx=>?_,⟨some ⟨g,off,spot⟩,cap,rfl,fun h0=>?_⟩⟩
  ·obtain⟨i,hi',rfl⟩:=List.mem_map.1 hx
   exact(hfx i (List.mem_range.1 hi')).1
  ·rw[hlen]at h0
   have hc0:=(hfx 0 h0).2 0 _ rfl
   have hs:spot=none:=by simpa[Addr.add] using World.cell?_spot hc0
   subst hs
   refine⟨g,rfl,?_,fun k x hx j u hu=>?_⟩
   ·exact World.block_lt_of_cell? _ _ hc0
   ·rw[List.getElem?_map]at hx
    obtain⟨i,hi',rfl⟩:=Option.map_eq_some_iff.1 hx
    have hkl:k<len:=by
     have:=(List.getElem?_eq_some_iff.1 hi').1
     simpa using this
    have:i=k:=by rw[List.getElem?_range hkl]at hi';exact(Option.some.inj hi').symm
    subst this
    have e:∀ n,(⟨g,off,none⟩:Addr).add n=⟨g,off+n,none⟩:=fun n=>by unfold Addr.add;split<;>simp_all
    have:=(hfx i hkl).2 j u hu
    rw[e]at this
    exact this
end
theorem back_row7 (Ld:lJ) (Fd:mJ) (t:List Nd) (A:Option Addr) (off c:Nat) (l:List Tk) (A':Option Addr) (off' c':Nat) (w:World) (hL:Ka.Laid w) (hcl:t.length≤c) (hcm:c≤maxLen) (ft:Fit t) (ht:aS off w w.heap.size (.slice A t.length c) t)
  (hcl':l.length≤c') (hcm':c'≤maxLen) (fl:kQ l) (hl:fE off' w w.heap.size (.slice A' l.length c') l) :
  Calls Tryz.prog 4 #[.slice A t.length c,.slice A' l.length c'] w fun e w'=>e=.returned (.bool true)∧Below w.heap.size w w' :=
 flat_back_row Ld Fd t l A A' off off' c c' w hL hcl hcm hcl' hcm' ft fl ht hl
end Go.Proofs.YtgpihfacmpbpaaaGreatDoor.Fl
