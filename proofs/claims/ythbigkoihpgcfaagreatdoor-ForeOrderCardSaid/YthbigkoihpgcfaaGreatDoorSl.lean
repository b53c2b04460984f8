/-
  Put together.
-/
import Derived.Test.YthbigkoihpgcfaaGreatDoorQj
import Derived.Test.YthbigkoihpgcfaaGreatDoorRuF
import Derived.Test.YthbigkoihpgcfaaGreatDoorSk
import Derived.Deep.Onto
open Go.Lib (hid)
set_option maxRecDepth 100000
set_option maxHeartbeats 16000000
namespace Go.Proofs.YthbigkoihpgcfaaGreatDoor.Pa
open Go.RowKit Ba Ru Ck Ti
structure LJ (w:World) (b:Nat) (a:Option Addr) (n:Int):Prop where
 lt:b<w.heap.size
 c0:w.cell? ⟨b,0,none⟩=some (.pointer a)
 c1:w.cell? ⟨b,1,none⟩=some (.int .i64 n)
 f:∀ j,w.frozen? ⟨b,j,none⟩=false
section
variable {w w':World} {b:Nat} {a:Option Addr} {n:Int}
theorem LJ.below (h:LJ w b a n) {B:Nat} (hb:Below B w w') (hg:b<B):LJ w' b a n :=
 ⟨Nat.lt_of_lt_of_le h.lt hb.size,(hb.cell (p:=⟨b,0,none⟩) hg).trans h.c0,(hb.cell (p:=⟨b,1,none⟩) hg).trans h.c1,fun j=>(hb.frozen (p:=⟨b,j,none⟩) hg).trans (h.f j)⟩
theorem LJ.kept (h:LJ w b a n) (hb:Below w.heap.size w w'):LJ w' b a n:=h.below hb h.lt
def TC (w:World) (b:Nat) (a:Option Addr) (n:Int):World:=(w.setCell ⟨b,0,none⟩ (.pointer a)).setCell ⟨b,1,none⟩ (.int .i64 n)
theorem LJ.put (h:LJ w b a n) (a':Option Addr) (n':Int):LJ (TC w b a' n') b a' n' :=
 have e0:(w.setCell ⟨b,0,none⟩ (.pointer a')).cell? ⟨b,0,none⟩=some (.pointer a'):=World.cell?_setCell_same _ _ _ h.c0
 have e1:(w.setCell ⟨b,0,none⟩ (.pointer a')).cell? ⟨b,1,none⟩=some (.int .i64 n):=(World.cell?_setCell_other _ _ _ _ (dR (by decide))).trans h.c1
 ⟨by unfold TC;rw[World.size_setCell,World.size_setCell];exact h.lt,(World.cell?_setCell_other _ _ _ _ (dR (by decide))).trans e0,World.cell?_setCell_same _ _ _ e1,
  fun j=>by unfold TC;rw[World.frozen?_setCell,World.frozen?_setCell];exact h.f j⟩
theorem r7 {B:Nat} {w0:World} (h:Below B w0 w) (hg:B≤b) (a':Option Addr) (n':Int):Below B w0 (TC w b a' n') :=
 (h.setCell (p:=⟨b,0,none⟩) hg _).setCell (p:=⟨b,1,none⟩) hg _
theorem LJ.new (w:World) (a:Option Addr) (n:Int):LJ (w.alloc (.cells #[.pointer a,.int .i64 n] 255)) w.heap.size a n :=
 ⟨by simp,by simp,by simp,fun j=>by simp⟩
end
def bA (g off:Nat):Option (Nat × Rl)→Option Addr
 | none=>none
 | some (k,_)=>some ⟨g,off+k * 5,none⟩
def bK:Option (Nat × Rl)→Int
 | none=>0
 | some (k,_)=>(k:Int)
def bO:Option (Nat × Rl)→Bool
 | none=>false
 | some _=>true
theorem wZ {l:List Rl} {s:List Nat} {p most:Int} {o:Option (Nat × Rl)} (h:aEX l s p most l.length o):dC l s p most=o.map (·.1):=by
 match o,h with
 | none,h =>
  cases hb:dC l s p most with
  | none=>rfl
  | some k =>
   obtain⟨x,g⟩:=mT hb
   have:=h k x (List.getElem?_eq_some_iff.1 g.at').1 g.at'
   rw[g.mQ]at this
   cases this
 | some (k,x),⟨h1,h2,h3,h4⟩=>exact sX (x:=x) ⟨h2,h3,fun i y hi=>h4 i y (List.getElem?_eq_some_iff.1 hi).1 hi⟩
theorem KB {s:List Nat} {p most:Int} {k j:Nat} {x z:Rl} (he:dH x s p most=true):oJ s p most (some (k,z)) j x=if eI x z=true then some (j,x) else some (k,z):=by
 unfold oJ
 rw[if_pos he]
theorem DG (g off nl c:Nat) (l:List Rl) (hnl:l.length=nl) (hlm:nl≤100000) (hf:∀ x ∈ l,eN x) (h9:∀ x ∈ l,x.left.length≤9000) (S:ByteArray) (p:Nat) (most:Int) (hS:S.size≤2000) (hpS:p<S.size) (hmost:oI most) (hrun:jJ (aA S)=true) (w:World) (hg:g<w.heap.size)
  (hv:∀ k x,l[k]?=some x→bZ w g (off+k * 5) x.aE (bytesOf x.left) (bytesOf x.cells) x.prio x.line) :
  Calls Tryz.prog 233 #[.slice (some ⟨g,off,none⟩) nl c,.string S,.int .i64 (p:Int),.int .i64 most] w fun e w'=>∃ o,aEX l (aA S) (p:Int) most nl o∧e=.returned (.tuple #[.agg #[.pointer (bA g off o),.int .i64 (bK o)],.bool (bO o)])∧Below w.heap.size w w':=by
 have HNL:=hid hnl
 have HFX:=hid (fun(x:Rl) (hx:x ∈ l) (k:Nat) (n:Int) (W:World) (hc:bZ W g (off+k * 5) x.aE (bytesOf x.left) (bytesOf x.cells) x.prio x.line) (hgW:g<W.heap.size)=>KA x (hf x hx) (h9 x hx) g (off+k * 5) n S p most hS hpS hmost hrun _ rfl W hc hgW)
 have HCE:=hid (show ∀ W:World,Below w.heap.size w W→∀ k x,l[k]?=some x→bZ W g (off+k * 5) x.aE (bytesOf x.left) (bytesOf x.cells) x.prio x.line∧g<W.heap.size from fun W hW k x hx=>⟨(hv k x hx).below hW hg,Nat.lt_of_lt_of_le hg hW.size⟩)
 have H9:=hid h9
 clear hnl hf h9 hmost hrun hv hg
 go_enter Tryz.func233,Tryz.ntmps233
 go_upto_region 1 with fail
 have hR:=LJ.new w none 0
 have hw:=(Below.refl w.heap.size w).alloc (Nat.le_refl _) (.cells #[.pointer none,.int .i64 0] 255)
 generalize w.alloc _=w1 at hR hw ⊢
 obtain⟨b,hb⟩:∃ b,w.heap.size=b:=⟨_,rfl⟩
 have HBB:=hid hb
 rw[hb]at hR hw HCE ⊢
 clear hb
 go_wp2
 go_loopw [9,14] (fun ok i wr=>∃ (j:Nat) (o':Option (Nat × Rl)),ok=.bool (bO o')∧i=.int .i64 (j:Int)∧j≤nl∧aEX l (aA S) (p:Int) most j o'∧LJ wr b (bA g off o') (bK o')∧Below b w wr) (fun _ i _=>nl - (intOf i).toNat)
 case atStart=>exact⟨0,none,rfl,rfl,Nat.zero_le _,fun j y hj=>absurd hj (Nat.not_lt_zero _),hR,hw⟩
 case round =>
  obtain⟨j,o',rfl,rfl,hj,hso,hst,hBr⟩:=hrel
  have HBR:=hid hBr
  have HSO:=hid hso
  have HST:=hid hst
  clear hBr hso hst hR hw
  by_cases hlt:j<nl
  ·obtain⟨x,hx⟩:∃ x,l[j]?=some x:=⟨_,List.getElem?_eq_getElem (by rw[HNL.out];exact hlt)⟩
   have HNS:=hid (HSO.out.step hx)
   have HX:=hid hx
   have HXM:=hid (List.mem_of_getElem? hx)
   obtain⟨eb,heb⟩:∃ eb,dH x (aA S) (p:Int) most=eb:=⟨_,rfl⟩
   have HEB:=hid heb
   clear hx heb
   have j0:(0:Int)≤(j:Int):=by omega
   have j1:(j:Int)<(nl:Int):=by omega
   have t3:decide ((j:Int)<(nl:Int))=true:=decide_eq_true j1
   go_upto_region 5 with fail
   have hC:=LJ.new wr (some ⟨g,off+j * 5,none⟩) (j:Int)
   have hw3:=(Below.refl wr.heap.size wr).alloc (Nat.le_refl _) (.cells #[.pointer (some ⟨g,off+j * 5,none⟩),.int .i64 (j:Int)] 255)
   have HRS:=hid HST.out.lt
   obtain⟨d,hd⟩:∃ d,wr.heap.size=d:=⟨_,rfl⟩
   rw[hd]at hC HRS
   generalize wr.alloc _=w3 at hC hw3 ⊢
   try rw[hd]
   have HB3:=hid (chain HBR.out (Nat.le_of_lt HST.out.lt) hw3)
   have HS3:=hid (HST.out.kept hw3)
   have HC3:=hid hC
   have HF3:=hid (HFX.out x HXM.out j (j:Int) w3 (HCE.out w3 HB3.out j x HX.out).1 (HCE.out w3 HB3.out j x HX.out).2)
   have y0:=hC.c0
   have y1:=hC.c1
   clear hC hw3 hd
   rw[HEB.out]at HF3
   cases eb
   case false =>
    have HN:=hid (show aEX l (aA S) (p:Int) most (j+1) o' from by
     have h:=HNS.out
     unfold oJ at h
     rw[HEB.out,if_neg Bool.false_ne_true]at h
     exact h)
    go_wp2_with fail
    refine HF3.out.mono ?_
    rintro e w4 ⟨rfl,hb4⟩
    have HB4:=hid (chain HB3.out (Nat.le_of_lt HS3.out.lt) hb4)
    have HS4:=hid (HS3.out.kept hb4)
    clear hb4
    go_wp2
    go_roundw
    case rel=>exact⟨j+1,o',rfl,by go_num,by omega,HN.out,HS4.out,HB4.out⟩
    case measure=>simp[intOf];omega
   case true =>
    go_wp2_with fail
    refine HF3.out.mono ?_
    rintro e w4 ⟨rfl,hb4⟩
    have HB4:=hid (chain HB3.out (Nat.le_of_lt HS3.out.lt) hb4)
    have HS4:=hid (HS3.out.kept hb4)
    have HC4:=hid (HC3.out.kept hb4)
    have y0:=HC4.out.c0
    have y1:=HC4.out.c1
    have s0:=HS4.out.c0
    have s1:=HS4.out.c1
    have f0:=HS4.out.f 0
    have f1:=HS4.out.f 1
    clear hb4
    cases o' with
    | none =>
     have HN:=hid (show aEX l (aA S) (p:Int) most (j+1) (some (j,x)) from by
      have h:=HNS.out
      unfold oJ at h
      rw[if_pos HEB.out]at h
      exact h)
     have HP:=hid (HS4.out.put (some ⟨g,off+j * 5,none⟩) (j:Int))
     have HPB:=hid (r7 HB4.out (Nat.le_refl b) (some ⟨g,off+j * 5,none⟩) (j:Int))
     simp only[bO,bA,bK]at s0 s1 ⊢
     go_wp2
     go_roundw
     case rel=>exact⟨j+1,some (j,x),rfl,by go_num,by omega,HN.out,HP.out,HPB.out⟩
     case measure=>simp[intOf];omega
    | some kz =>
     obtain⟨k,z⟩:=kz
     simp only[bO,bA,bK]at s0 s1 ⊢
     obtain⟨-,hz,-,-⟩:=HSO.out
     have HZ:=hid hz
     have HZM:=hid (List.mem_of_getElem? hz)
     clear hz
     obtain⟨ab,hab⟩:∃ ab,eI x z=ab:=⟨_,rfl⟩
     have HAB:=hid hab
     have HBT:=hid (S9 g (off+j * 5) g (off+k * 5) x.aE (j:Int) x.prio x.line z.aE (k:Int) z.prio z.line (bytesOf x.left) (bytesOf x.cells) (bytesOf z.left) (bytesOf z.cells) (by rw[aF];exact H9.out x HXM.out) (by rw[aF];exact H9.out z HZM.out) ab
      (by rw[← hab,aF,aF];rfl) w4 (HCE.out w4 HB4.out j x HX.out).1 (HCE.out w4 HB4.out j x HX.out).2 (HCE.out w4 HB4.out k z HZ.out).1 (HCE.out w4 HB4.out k z HZ.out).2)
     clear hab
     cases ab
     case false =>
      have HN:=hid (show aEX l (aA S) (p:Int) most (j+1) (some (k,z)) from by
       have h:=HNS.out
       rw[KB HEB.out,HAB.out,if_neg Bool.false_ne_true]at h
       exact h)
      go_wp2_with fail
      refine HBT.out.mono ?_
      rintro e w5 ⟨rfl,hb5⟩
      have HB5:=hid (chain HB4.out (Nat.le_of_lt HS4.out.lt) hb5)
      have HS5:=hid (HS4.out.kept hb5)
      clear hb5
      go_wp2
      go_roundw
      case rel=>exact⟨j+1,some (k,z),rfl,by go_num,by omega,HN.out,HS5.out,HB5.out⟩
      case measure=>simp[intOf];omega
     case true =>
      have HN:=hid (show aEX l (aA S) (p:Int) most (j+1) (some (j,x)) from by
       have h:=HNS.out
       rw[KB HEB.out,HAB.out,if_pos rfl]at h
       exact h)
      go_wp2_with fail
      refine HBT.out.mono ?_
      rintro e w5 ⟨rfl,hb5⟩
      have HB5:=hid (chain HB4.out (Nat.le_of_lt HS4.out.lt) hb5)
      have HS5:=hid (HS4.out.kept hb5)
      have HC5:=hid (HC4.out.kept hb5)
      have HP:=hid (HS5.out.put (some ⟨g,off+j * 5,none⟩) (j:Int))
      have HPB:=hid (r7 HB5.out (Nat.le_refl b) (some ⟨g,off+j * 5,none⟩) (j:Int))
      have y0:=HC5.out.c0
      have y1:=HC5.out.c1
      have s0:=HS5.out.c0
      have s1:=HS5.out.c1
      have f0:=HS5.out.f 0
      have f1:=HS5.out.f 1
      clear hb5
      go_wp2
      go_roundw
      case rel=>exact⟨j+1,some (j,x),rfl,by go_num,by omega,HN.out,HP.out,HPB.out⟩
      case measure=>simp[intOf];omega
  ·obtain rfl:j=nl:=by omega
   have t3:decide ((j:Int)<(j:Int))=false:=decide_eq_false (by omega)
   have s0:=HST.out.c0
   have s1:=HST.out.c1
   have f0:=HST.out.f 0
   have f1:=HST.out.f 1
   have HP:=hid (HST.out.put (bA g off o') (bK o'))
   have HPB:=hid (r7 HBR.out (Nat.le_refl b) (bA g off o') (bK o'))
   go_wp2
   show bodyPost _ _ _ _ _ (TC wr b (bA g off o') (bK o'))
   have hS:=HP.out
   have hbb:=HPB.out
   generalize TC _ _ _ _=w9 at hS hbb ⊢
   have k0:=hS.c0
   have k1:=hS.c1
   refine bodyPost_ret (v:=.tuple #[.agg #[.pointer (bA g off o'),.int .i64 (bK o')],.bool (bO o')]) (by simp[results,Tryz.f233,go_sem,k0,k1]) rfl ?_
   exact⟨o',HSO.out,rfl,HBB.out▸hbb⟩
theorem lV {l:List Rl} (hne:l≠[]) {w:World} {B:Nat} {u:Value} (h:w.ownsRow B 48 5 u l.length (rows cR l)) :
  ∃ g c,u=.slice (some ⟨g,0,none⟩) l.length c∧g<w.heap.size∧∀ k x,l[k]?=some x→bZ w g (0+k * 5) x.aE (bytesOf x.left) (bytesOf x.cells) x.prio x.line:=by
 have hR:=Reads.hO (f:=cR) iA rfl h
 obtain⟨A,c,rfl,-,-,-⟩:=aN h
 obtain⟨x0,hx0⟩:∃ x,l[0]?=some x:=by
  cases l with
  | nil=>exact absurd rfl hne
  | cons y m=>exact⟨y,rfl⟩
 obtain⟨g,rfl,hg,-⟩:=DF hR hx0
 refine⟨g,c,rfl,hg,fun k x hx=>?_⟩
 obtain⟨g',e,-,hc⟩:=DF hR hx
 injection e with e
 injection e with e
 subst e
 exact hc
theorem YI (T:bT) {t:Value} {l:List Rl} {lo hi:Nat} (S:ByteArray) (p most:Int) (hS:S.size≤2000) (hp:oI p) (hmost:oI most) (hl:l.length≤1000) (hA:Acc dM l) (hfl:kD l) (w:World) (hL:bH w) (H:T.Is w t l lo hi) :
  Calls Tryz.prog 231 #[t,.string S,.int .i64 p,.int .i64 most] w fun e w'=>e=.returned (.tuple #[.int .i64 (mY (dC l (aA S) p most)),.bool (okV (dC l (aA S) p most))])∧Below w.heap.size w w':=by
 obtain⟨pb,hpb⟩:∃ pb,r6 (aA S) p=pb:=⟨_,rfl⟩
 have HPL:=hid (vI S hS p hp pb hpb w hL)
 have HPB:=hid hpb
 obtain⟨o,ho⟩:∃ o,dC l (aA S) p most=o:=⟨_,rfl⟩
 have HO:=hid ho
 rw[ho]
 have HRU:=hid (show ∀ W:World,Below w.heap.size w W→Calls Tryz.prog 49 #[t] W fun e w'=>∃ u,e=.returned u∧w'.ownsRow W.heap.size 48 5 u l.length (rows cR l)∧Below W.heap.size W w' from fun W hW=>T.rules hl hA hfl W (hL.kept hW) (T.xJ H (Kept.dB hW (T.ptr H).2)))
 have HBS:=hid (fun(hh:pb=true) (g c:Nat) (W:World) (hg:g<W.heap.size) (hv:∀ k x,l[k]?=some x→bZ W g (0+k * 5) x.aE (bytesOf x.left) (bytesOf x.cells) x.prio x.line)=>show Calls Tryz.prog 233 #[.slice (some ⟨g,0,none⟩) l.length c,.string S,.int .i64 p,.int .i64 most] W fun e w'=>∃ o',o=o'.map (·.1)∧e=.returned (.tuple #[.agg #[.pointer (bA g 0 o'),.int .i64 (bK o')],.bool (bO o')])∧Below W.heap.size W w' from by
  obtain⟨k1,k2,k3⟩:=fT.1 (hpb.trans hh)
  rw[aD]at k3
  obtain⟨p,rfl⟩:∃ n:Nat,p=(n:Int):=⟨p.toNat,by omega⟩
  refine(DG g 0 l.length c l rfl (by omega) (fun x hx=>(hfl x hx).1) (fun x hx=>(hfl x hx).2.1) S p most hS (by omega) hmost k1 W hg hv).mono fun e w' h=>?_
  obtain⟨o',h1,h2,h3⟩:=h
  exact⟨o',by rw[← ho];exact wZ h1,h2,h3⟩)
 have HNE:=hid (show l≠[] from by
  obtain⟨k,x,hk,-,-⟩:=jO hA (c:=97) (by omega) (by omega)
  intro e
  rw[e]at hk
  cases hk)
 clear hpb ho hL H hA hfl hp hmost
 go_enter Tryz.func231,Tryz.ntmps231
 cases pb
 case false =>
  have HV:=hid (show o=none from by
   rw[← HO.out]
   refine YG fun h=>?_
   have:=HPB.out
   rw[fT.2 ⟨h.1,h.2.1,h.2.2.1⟩]at this
   cases this)
  go_wp2_with fail
  refine HPL.out.mono ?_
  rintro e w2 ⟨rfl,hb2⟩
  have HB2:=hid hb2
  clear hb2
  go_wp2
  go_ret2
  rw[HV.out]
  exact⟨rfl,HB2.out⟩
 case true =>
 go_wp2_with fail
 refine HPL.out.mono ?_
 rintro e w2 ⟨rfl,hb2⟩
 have HB2:=hid hb2
 have HR2:=hid (HRU.out w2 hb2)
 clear hb2
 go_wp2_with fail
 refine HR2.out.mono ?_
 rintro e w3 ⟨u,rfl,hu,hb3⟩
 have HB3:=hid (chain HB2.out HB2.out.size hb3)
 obtain⟨g,c,rfl,hg,hv⟩:=lV HNE.out hu
 have HQ3:=hid (HBS.out trivial g c w3 hg hv)
 clear hb3 hu hg hv
 go_wp2_with fail
 refine HQ3.out.mono ?_
 rintro e w4 ⟨o',ho',rfl,hb4⟩
 have HO':=hid ho'
 have HB4:=hid (chain HB3.out HB3.out.size hb4)
 have hs4:=HB4.out.size
 clear hb4 ho'
 have hC:=LJ.new w4 (bA g 0 o') (bK o')
 go_upto_region 4 with fail
 have hw5:=HB4.out.alloc hs4 (.cells #[.pointer (bA g 0 o'),.int .i64 (bK o')] 255)
 generalize w4.alloc _=w5 at hC hw5 ⊢
 have HB5:=hid hw5
 have y1:=hC.c1
 clear hC hw5
 go_wp2
 go_ret2
 rw[HO'.out]
 cases o' with
 | none=>exact⟨rfl,HB5.out⟩
 | some kx=>exact⟨rfl,HB5.out⟩
theorem Best.less {l:List Rl} {s:List Nat} {p:Nat} {k:Nat} {x:Rl} (h:Best l s p s.length k x):Best l s p ((s.length:Int) - p) k x:=by
 have h1:=jK h.mQ
 refine⟨h.at',DD h.mQ (by omega),fun j y hj hy=>h.least j y hj ?_⟩
 have h2:=jK hy
 exact DD hy (by omega)
theorem aB0 (T:bT) {t:Value} {l:List Rl} {lo hi:Nat} (S:ByteArray) (p:Int) (hS:S.size≤2000) (hp:oI p) (hl:l.length≤1000) (hA:Acc dM l) (hfl:kD l) (w:World) (hL:bH w) (H:T.Is w t l lo hi) :
  Calls Tryz.prog 212 #[t,.string S,.int .i64 p] w fun e w'=>∃ v,e=.returned v∧w'.ownsRow w.heap.size 3 1 v (gZ l (aA S) p).length (iV (gZ l (aA S) p))∧Below w.heap.size w w':=by
 obtain⟨i0,hi0,hz0,hz1,hz2⟩:=info_parts JF
 obtain⟨pb,hpb⟩:∃ pb,r6 (aA S) p=pb:=⟨_,rfl⟩
 have HPL:=hid (vI S hS p hp pb hpb w hL)
 have HPB:=hid hpb
 have hsl:=aD S
 have HSL:=hid hsl
 obtain⟨ks,hks⟩:∃ ks,gZ l (aA S) p=ks:=⟨_,rfl⟩
 have HKS:=hid hks
 rw[hks]
 have HACC:=hid hA
 have HRU:=hid (show ∀ W:World,Below w.heap.size w W→Calls Tryz.prog 49 #[t] W fun e w'=>∃ u,e=.returned u∧w'.ownsRow W.heap.size 48 5 u l.length (rows cR l)∧Below W.heap.size W w' from fun W hW=>T.rules hl hA hfl W (hL.kept hW) (T.xJ H (Kept.dB hW (T.ptr H).2)))
 have HNE:=hid (show l≠[] from by
  obtain⟨k,x,hk,-,-⟩:=jO hA (c:=97) (by omega) (by omega)
  intro e
  rw[e]at hk
  cases hk)
 have HBS:=hid (fun(hrun:jJ (aA S)=true) (g c q:Nat) (hq:q<S.size) (W:World) (hg:g<W.heap.size) (hv:∀ k x,l[k]?=some x→bZ W g (0+k * 5) x.aE (bytesOf x.left) (bytesOf x.cells) x.prio x.line) (k:Nat) (x:Rl) (hB:Best l (aA S) q (aA S).length k x)=>show Calls Tryz.prog 233 #[.slice (some ⟨g,0,none⟩) l.length c,.string S,.int .i64 (q:Int),.int .i64 ((S.size:Int) - (q:Int))] W fun e w'=>e=.returned (.tuple #[.agg #[.pointer (some ⟨g,k * 5,none⟩),.int .i64 (k:Int)],.bool true])∧Below W.heap.size W w' from by
  have hbest:=sX hB.less
  rw[hsl]at hbest
  refine(DG g 0 l.length c l rfl (by omega) (fun x hx=>(hfl x hx).1) (fun x hx=>(hfl x hx).2.1) S q ((S.size:Int) - (q:Int)) hS hq (by unfold oI;omega) hrun W hg hv).mono fun e w' h=>?_
  obtain⟨o',h1,h2,h3⟩:=h
  have h4:=wZ h1
  rw[hbest]at h4
  cases o' with
  | none=>cases h4
  | some kx =>
   obtain⟨k',x'⟩:=kx
   obtain rfl:k=k':=Option.some.inj h4
   rw[show (⟨g,k * 5,none⟩:Addr)=⟨g,0+k * 5,none⟩ from by rw[Nat.zero_add]]
   exact⟨h2,h3⟩)
 clear hpb hks hL H hA hfl hp hsl
 go_enter Tryz.func212,Tryz.ntmps212
 cases pb
 case false =>
  have HV:=hid (show ks=[] from by
   rw[← HKS.out]
   refine lT fun h=>?_
   have:=HPB.out
   rw[fT.2 h]at this
   cases this)
  go_wp2_with fail
  refine HPL.out.mono ?_
  rintro e w2 ⟨rfl,hb2⟩
  have HB2:=hid hb2
  clear hb2
  go_wp2
  go_ret
  rw[HV.out]
  exact⟨_,rfl,World.ownsRow_nil _ _ _ _,HB2.out⟩
 case true =>
 obtain⟨hrun,hp0,hpS⟩:=fT.1 HPB.out
 rw[HSL.out]at hpS
 obtain⟨p,rfl⟩:∃ n:Nat,p=(n:Int):=⟨p.toNat,by omega⟩
 have hpS:p<S.size:=by omega
 have HRN:=hid hrun
 clear hrun hp0
 go_wp2_with fail
 refine HPL.out.mono ?_
 rintro e w2 ⟨rfl,hb2⟩
 have HB2:=hid hb2
 have HR2:=hid (HRU.out w2 hb2)
 clear hb2
 go_wp2_with fail
 refine HR2.out.mono ?_
 rintro e w3 ⟨u,rfl,hu,hb3⟩
 have HB3:=hid (chain HB2.out HB2.out.size hb3)
 obtain⟨g,c,rfl,hg,hv⟩:=lV HNE.out hu
 obtain⟨nl,hnl⟩:∃ nl,l.length=nl:=⟨_,rfl⟩
 have HNL:=hid hnl
 have HCE:=hid (show ∀ W:World,Below w3.heap.size w3 W→∀ k x,l[k]?=some x→bZ W g (0+k * 5) x.aE (bytesOf x.left) (bytesOf x.cells) x.prio x.line from fun W hW k x hx=>(hv k x hx).below hW hg)
 have HGW:=hid (show ∀ W:World,Below w3.heap.size w3 W→g<W.heap.size from fun W hW=>Nat.lt_of_lt_of_le hg hW.size)
 have HG3:=hid hg
 rw[hnl]at HBS ⊢
 clear hb3 hu hg hv hnl
 go_wp2_with fail
 go_loopw [8,9] (fun v a wr=>∃ (q:Nat) (us:List Nat),a=.int .i64 (q:Int)∧q≤S.size∧us.length≤q∧ks=us++gZ l (aA S) (q:Int)∧wr.ownsRow w3.heap.size 3 1 v us.length (iV us)∧Below w3.heap.size w3 wr) (fun _ a _=>S.size - (intOf a).toNat)
 case atStart=>exact⟨p,[],rfl,by omega,Nat.zero_le _,HKS.out.symm,World.ownsRow_nil _ _ _ _,Below.refl _ _⟩
 case round =>
  obtain⟨q,us,rfl,hq,hul,hcat,how,hBr⟩:=hrel
  have HCAT:=hid hcat
  have HBR:=hid hBr
  clear hcat hBr
  by_cases hlt:q<S.size
  ·obtain⟨k,x,hB,-,hstep,hx0,hxq⟩:=kW HACC.out HRN.out (p:=q) (by rw[HSL.out];exact hlt)
   rw[HSL.out]at hxq
   have hx:=hB.at'
   have HX:=hid hx
   have HBQ:=hid (HBS.out HRN.out g c q hlt wr (HGW.out wr HBR.out) (HCE.out wr HBR.out) k x hB)
   obtain⟨X,hX⟩:∃ X,bytesOf x.left=X:=⟨_,rfl⟩
   have hxs:X.size=x.left.length:=by rw[← hX];exact aF _
   rw[← hxs]at hstep hx0 hxq
   have HCX:=hid (show ∀ W:World,Below w3.heap.size w3 W→W.cell? ⟨g,k * 5+1,none⟩=some (.string X) from fun W hW=>by
    have h1:=(HCE.out W hW k x HX.out).c1
    rw[Nat.zero_add,hX]at h1
    exact h1)
   have HNX:=hid (show ks=(us++[k])++gZ l (aA S) ((q+X.size:Nat):Int) from by rw[HCAT.out,hstep,List.append_assoc];rfl)
   obtain⟨m,hm⟩:∃ m,us.length=m:=⟨_,rfl⟩
   rw[hm]at how hul
   have HMM:=hid hm
   have HOW:=hid how
   obtain⟨A8,c8,rfl,-,-,-⟩:=aN how
   clear hB hstep hx hX hxs hm how
   have t3:decide ((q:Int)<(S.size:Int))=true:=decide_eq_true (by omega)
   have t4:IntKind.i64.wrap ((S.size:Int) - (q:Int))=(S.size:Int) - (q:Int):=IntWalk.i64_in _ ⟨by omega,by omega⟩
   have t5:IntKind.i64.wrap ((q:Int)+(X.size:Int))=((q+X.size:Nat):Int):=by rw[IntWalk.i64_in _ ⟨by omega,by omega⟩];omega
   go_wp2_with fail
   refine HBQ.out.mono ?_
   rintro e w4 ⟨rfl,hb4⟩
   have HB4:=hid (chain HBR.out HBR.out.size hb4)
   have HOW4:=hid (a6 HOW.out hb4)
   have HLT4:=hid HOW4.out.lt
   have hsz4:=HB4.out.size
   clear hb4
   have hC:=LJ.new w4 (some ⟨g,k * 5,none⟩) (k:Int)
   go_upto_region 8 with fail
   have hw5:=HB4.out.alloc hsz4 (.cells #[.pointer (some ⟨g,k * 5,none⟩),.int .i64 (k:Int)] 255)
   have HOW5:=hid (HOW4.out.alloc (.cells #[.pointer (some ⟨g,k * 5,none⟩),.int .i64 (k:Int)] 255))
   obtain⟨d,hd⟩:∃ d,w4.heap.size=d:=⟨_,rfl⟩
   have HLD:=hid (show ∀ j,(Value.slice A8 m c8).ownBlock=some j→w3.heap.size≤j∧j<d from fun j ej=>hd▸HLT4.out j ej)
   rw[hd]at hC
   generalize w4.alloc _=w5 at hC hw5 HOW5 ⊢
   try rw[hd]
   have HB5:=hid hw5
   have hsz5:=hw5.size
   have HC5:=hid hC
   have y0:=hC.c0
   have y1:=hC.c1
   have hdl:=hC.lt
   clear hC hw5 hd
   go_wp2_with (at_builtin;refine wpList_append_own _ rfl _ _ 32 rfl w3.heap.size 3 i0 _ 1 8 Tryz.underlying32 hi0 hz0 hz1 hz2 rfl (by decide) _ _ _ rfl (HOW5.out.alloc _) ⟨w5.heap.size,0,none⟩ 1 1 [.int .i64 (k:Int)] rfl rfl (World.news_of_block (cs:=#[.int .i64 (k:Int)]) (t:=3) (fr:=(0,0)) (heap_alloc_new w5 _)) (by simp[Value.oneCell']) (by unfold maxLen;omega) (by omega) (by simp;omega) ?_;intro v' w8 hown' hgrow _;have HFF:=hid (show w8.ownsRow w3.heap.size 3 1 v' (us++[k]).length (iV (us++[k]))∧Below w3.heap.size w3 w8 from ⟨by rw[PL,List.length_append,HMM.out];exact hown',(HB5.out.alloc hsz5 _).grown hgrow (by simp;omega) (fun j ej=>(HLD.out j ej).1)⟩);have x1:=HCX.out w8 HFF.out.2;have hdb:w8.heap[d]?=w5.heap[d]?:=(hgrow.block d (by simp;omega) (fun e=>Nat.lt_irrefl d (HLD.out d e.symm).2)).trans ((Below.refl w5.heap.size w5).alloc (Nat.le_refl _) _ |>.block d hdl);have y0':w8.cell? ⟨d,0,none⟩=some (.pointer (some ⟨g,k * 5,none⟩)):=(World.cell?_of_block (a:=⟨d,0,none⟩) hdb).trans y0;clear hown' hgrow hdb y0)
   go_roundw
   case rel=>exact⟨q+X.size,us++[k],by go_num,by omega,by rw[List.length_append,HMM.out,List.length_singleton];omega,HNX.out,HFF.out.1,HFF.out.2⟩
   case measure=>simp[intOf];omega
  ·have HE:=hid (show ks=us from by
    rw[HCAT.out,lT fun h=>by have:=h.2.2;rw[HSL.out]at this;omega,List.append_nil])
   have t3:decide ((q:Int)<(S.size:Int))=false:=decide_eq_false (by omega)
   have t3':decide (q<S.size)=false:=decide_eq_false hlt
   have HOW:=hid how
   clear how
   go_wp2
   go_ret
   rw[HE.out]
   exact⟨_,rfl,HOW.out.mono HB3.out.size,chain HB3.out HB3.out.size HBR.out⟩
theorem VZ (T:bT):aD5 T where
 best:=fun S p most hS hp hm hl hA hfl w hL H=>YI T S p most hS hp hm hl hA hfl w hL H
 all:=fun S p hS hp hl hA hfl w hL H=>aB0 T S p hS hp hl hA hfl w hL H
end Go.Proofs.YthbigkoihpgcfaaGreatDoor.Pa
