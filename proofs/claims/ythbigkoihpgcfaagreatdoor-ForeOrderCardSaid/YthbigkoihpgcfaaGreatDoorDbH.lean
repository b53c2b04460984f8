/-
  Put together.
-/
import Derived.Test.YthbigkoihpgcfaaGreatDoorSe
import Derived.Test.YthbigkoihpgcfaaGreatDoorUm
import Derived.Test.YthbigkoihpgcfaaGreatDoorWd
import Derived.Deep.CutRange
open Go.Lib (hid)
open Go.Proofs.YthbigkoihpgcfaaGreatDoor.Rg (zP zN zA zB zC tk)
set_option maxRecDepth 100000
set_option maxHeartbeats 16000000
namespace Go.Proofs.YthbigkoihpgcfaaGreatDoor.Da
open Go.RowKit Ba Ru Ck Ti Pa Fl Cu
theorem aDU:(Tryz.prog.info? 44).map (fun i=>(i.zero,i.size,i.bytes))=some (some (.agg #[.int .i64 0,.int .i64 0,.string { data:=#[] },.slice none 0 0,.int .i64 0,.int .i64 0]),6,72):=by kernel_rfl
theorem zQ {w:World} {g k:Nat} (h:k≠g) (u0 u1 u2 u3 u4 u5:Value):(mZ w g u0 u1 u2 u3 u4 u5).heap[k]?=w.heap[k]? :=
 (Below.heap_setCell _ ⟨g,5,none⟩ _ _ h).trans ((Below.heap_setCell _ ⟨g,4,none⟩ _ _ h).trans ((Below.heap_setCell _ ⟨g,3,none⟩ _ _ h).trans ((Below.heap_setCell _ ⟨g,2,none⟩ _ _ h).trans ((Below.heap_setCell _ ⟨g,1,none⟩ _ _ h).trans (Below.heap_setCell _ ⟨g,0,none⟩ _ _ h)))))
theorem fD {W W':World} {B e size n g:Nat} {v:Value} {xs:List Value} {cs:Array Value} {ty:TypeId} (h:W.ownsRow B e size v n xs) (hg:W.heap[g]?=some (.cells cs ty (0,0))) (hne:e≠ty) (hf:∀ k,k≠g→W'.heap[k]?=W.heap[k]?):W'.ownsRow B e size v n xs :=
 eR h fun k hk=>hf k fun e1=>by
  obtain⟨-,-,cs2,h3⟩:=qJ h hk
  rw[e1,hg]at h3
  injection h3 with h3
  injection h3 with _ h3 _
  exact hne h3.symm
def jX (t:List Tk) (k:Nat):List Fw:=(List.range k).filterMap (nV t)
theorem wS (t:List Tk) (k:Nat):jX t (k+1)=jX t k++(nV t k).toList:=by
 unfold jX
 rw[List.range_succ,List.filterMap_append]
 cases h:nV t k<;>simp[h]
theorem NG (t:List Tk) (k:Nat):(jX t k).length≤k:=by
 have:=List.length_filterMap_le (nV t) (List.range k)
 rw[List.length_range]at this
 exact this
theorem wT (l:List Rl) (t:List Tk) (f:Fw) (a:Value):∀ (fs:List Fw) (vs:List Value),vs.length=fs.length→mF l t (fs++[f]) (vs++[a])=mF l t fs vs++fH l t f a
 | [],[],_=>by
  show fH l t f a++[]=[]++fH l t f a
  rw[List.append_nil,List.nil_append]
 | [],_::_,h=>by cases h
 | _::_,[],h=>by cases h
 | g::fs,b::vs,h=>by
  show fH l t g b++mF l t (fs++[f]) (vs++[a])=(fH l t g b++mF l t fs vs)++fH l t f a
  rw[wT l t f a fs vs (by simpa using h),List.append_assoc]
theorem zS {t:List Tk} {k:Nat} {x:Tk} (hx:t[k]?=some x):iF t (k+1)=iF t k+wO x:=by
 unfold iF
 rw[List.take_add_one,hx,Option.toList_some,List.map_append,List.sum_append]
 simp
theorem JK (t:List Tk):∀ k,k≤t.length → -(k:Int)≤iF t k∧iF t k≤(k:Int)
 | 0,_=>by unfold iF;simp
 | k+1,h=>by
  obtain⟨h1,h2⟩:=JK t k (by omega)
  obtain⟨x,hx⟩:∃ x,t[k]?=some x:=⟨_,List.getElem?_eq_getElem (by omega)⟩
  rw[zS hx]
  have h3:-1≤wO x∧wO x≤1:=by
   unfold wO
   split
   ·omega
   ·split<;>omega
  omega
theorem NH {x:Tk} (h:zH x=true):nB x=false:=by
 unfold zH at h
 unfold nB
 simp only[Bool.or_eq_true,Bool.and_eq_true,decide_eq_true_eq,Tr.aBI]at h
 rcases h with h | ⟨-,h | h | h⟩<;>simp[h]
theorem WY {k:Nat} (hk:k=49∨k=50∨k=51∨k=112∨k=105∨k=99∨k=107) {x:Tk} (h:SE k x=true):nB x=true:=by
 unfold SE at h
 unfold nB
 simp only[Bool.or_eq_true,Bool.and_eq_true,decide_eq_true_eq,beq_iff_eq]at h
 simp only[Bool.and_eq_true,Bool.not_eq_true',decide_eq_false_iff_not]
 rcases h with⟨h1,h2⟩ | ⟨h1,h2⟩<;>omega
theorem SM (l:List Rl) {t:List Tk} (G:aHD t) {f:Fw} (hf:f ∈ fR t):j8 l t f.aR f.til=iW l t f∧aX t f.aR f.til=true:=by
 have e:(t.take f.til).drop f.aR=I3 t f:=by unfold I3;rw[List.drop_take]
 have hb:=G.body f hf
 unfold j8 aX
 rw[e,I5]
 refine⟨?_,hb⟩
 unfold iW iE
 rw[if_pos hb]
def EP (B:Nat) (w:World) (v:Value) (l:List Rl) (t:List Tk) (fs:List Fw) (avs:List Value):Prop :=
 avs.length=fs.length∧w.ownsRow B 44 6 v fs.length (mF l t fs avs)∧∀ (k:Nat) (f:Fw) (a:Value),fs[k]?=some f→avs[k]?=some a→w.ownsRow B 3 1 a (iW l t f).length (iV ((iW l t f).map (·.2)))
theorem EP.below {B:Nat} {w w':World} {v:Value} {l:List Rl} {t:List Tk} {fs:List Fw} {avs:List Value} (h:EP B w v l t fs avs) (hb:Below w.heap.size w w'):EP B w' v l t fs avs :=
 ⟨h.1,a6 h.2.1 hb,fun k f a h1 h2=>a6 (h.2.2 k f a h1 h2) hb⟩
theorem EP.more {B:Nat} {w w6:World} {o:Obj} {v v6:Value} {l:List Rl} {t:List Tk} {fs:List Fw} {avs:List Value} {f:Fw} {a:Value} (h:EP B w v l t fs avs) (ha:w.ownsRow B 3 1 a (iW l t f).length (iV ((iW l t f).map (·.2)))) (hg:(w.alloc o).grownBy w6 v.ownBlock) (own6:w6.ownsRow B 44 6 v6 (fs.length+1) (mF l t fs avs++fH l t f a)):EP B w6 v6 l t (fs++[f]) (avs++[a]):=by
 have hal:=(Below.refl w.heap.size w).alloc (Nat.le_refl _) o
 refine⟨by simp[h.1],by rw[wT l t f a fs avs h.1,List.length_append];exact own6,fun k g b hg1 hb1=>?_⟩
 rcases Nat.lt_or_ge k fs.length with hk | hk
 ·rw[List.getElem?_append_left hk]at hg1
  rw[List.getElem?_append_left (by rw[h.1];exact hk)]at hb1
  exact qN (h.2.2 k g b hg1 hb1) h.2.1 (by decide) hal hg
 ·rw[List.getElem?_append_right hk]at hg1
  rw[List.getElem?_append_right (by rw[h.1];exact hk),h.1]at hb1
  have hk0:k - fs.length=0:=by
   have:=(List.getElem?_eq_some_iff.1 hg1).1
   simp at this
   omega
  rw[hk0]at hg1 hb1
  cases hg1
  cases hb1
  exact qN ha h.2.1 (by decide) hal hg
theorem WZ {T:bT} {W:World} {a:Addr} {l:List Rl} {lo hi:Nat} {t:List Tk} {off g rc:Nat} {A:Option Addr} {n c:Nat} (E:oN T W a l lo hi t off g rc A n c) (G:aHD t) :
  Calls Tryz.prog 30 #[uA a l.length g rc A n c] W fun e W'=>Below W.heap.size W W'∧∃ v' avs,e=.returned (.tuple #[v',.int .i64 0])∧EP W.heap.size W' v' l t (fR t) avs:=by
 obtain⟨i0,hi0,hz0,hz1,hz2⟩:=info_parts aDU
 have hmax:=E.qT
 have htl:=E.EL
 have HE:=hid E
 have HTL:=hid htl
 have HG:=hid G
 have HFF:=hid (show fR t=jX t n from by unfold fR jX;rw[htl])
 obtain⟨nl,hnl⟩:∃ m,l.length=m:=⟨_,rfl⟩
 have HNL:=hid hnl
 unfold uA
 rw[hnl]
 clear E G hnl htl
 go_enter Tryz.func30,Tryz.ntmps30
 go_upto_region 1 with fail
 have hx:=heap_alloc_new W (.cells #[.pointer (some a),.slice (some ⟨g,0,none⟩) nl rc,.slice A n c] 67)
 have hw:=(Below.refl W.heap.size W).alloc (Nat.le_refl _) (.cells #[.pointer (some a),.slice (some ⟨g,0,none⟩) nl rc,.slice A n c] 67)
 generalize W.alloc _=w1 at hx hw ⊢
 obtain⟨B0,hB0⟩:∃ B0,W.heap.size=B0:=⟨_,rfl⟩
 have HB0:=hid hB0
 have HW:=hid hw
 have HE1:=hid (HE.out.later hw)
 rw[hB0]at hx ⊢
 have HX:=hid hx
 obtain⟨e0,e1,e2⟩:=iG hx
 obtain⟨b1,hb1⟩:∃ b1,w1.heap.size=b1:=⟨_,rfl⟩
 have HBB:=hid (show B0<b1∧B0≤b1 from ⟨by have:=(Array.getElem?_eq_some_iff.1 hx).1;omega,by have:=(Array.getElem?_eq_some_iff.1 hx).1;omega⟩)
 have HB1:=hid hb1
 clear hx hw hB0 hb1
 go_wp2
 clear e0 e1 e2
 go_loopw [4,5,14] (fun u4 u5 u14 wr=>∃ (k:Nat) (avs:List Value),u14=.int .i64 (k:Int)∧k≤n∧u5=.int .i64 (iF t k)∧EP b1 wr u4 l t (jX t k) avs∧Below b1 w1 wr) (fun _ _ u14 _=>n - (intOf u14).toNat)
 case atStart=>exact⟨0,[],rfl,Nat.zero_le _,rfl,⟨rfl,World.ownsRow_nil _ _ _ _,fun k f a h=>by cases h⟩,Below.refl _ _⟩
 case round =>
  obtain⟨i,avs,rfl,hi,rfl,hfw,hB⟩:=hrel
  obtain⟨Au,cu,rfl,-,-,-⟩:=aN hfw.2.1
  obtain⟨nu,hnu⟩:∃ m,(jX t i).length=m:=⟨_,rfl⟩
  have hnul:nu≤i:=by rw[← hnu];exact NG t i
  rw[hnu]at hfw ⊢
  have HNU:=hid hnu
  have HFW:=hid hfw
  have HB:=hid hB
  have i0':(0:Int)≤(i:Int):=by omega
  have htl:=HTL.out
  obtain⟨hd1,hd2⟩:=JK t i (by omega)
  clear hnu
  by_cases hlt:i<n
  ·obtain⟨x,hx⟩:∃ x,t[i]?=some x:=⟨_,List.getElem?_eq_getElem (by omega)⟩
   have HEW:=hid (HE1.out.later (by rw[HB1.out];exact hB))
   obtain⟨g0,rfl,hg0,c1,c2,c3⟩:=HEW.out.tok hlt hx
   obtain⟨e0,e1,e2⟩:=iG ((hB.block B0 HBB.out.1).trans HX.out)
   have i1:(i:Int)<(n:Int):=by omega
   have HXX:=hid hx
   have hds:=zS hx
   obtain⟨cv,hcv⟩:∃ cv,codeF t i x=cv:=⟨_,rfl⟩
   have HCO:=hid (fun(V:World) (hV:Below wr.heap.size wr V)=>aBH (HEW.out.later hV) HG.out i x hx cv hcv)
   unfold uA at HCO
   rw[HNL.out]at HCO
   have HCV:=hid hcv
   obtain⟨ls,hls⟩:∃ ls,wO x=ls:=⟨_,rfl⟩
   rw[hls]at hds
   have HLS:=hid hls
   obtain⟨d0,hd0⟩:∃ d,iF t i=d:=⟨_,rfl⟩
   rw[hd0]at hds hd1 hd2 ⊢
   have HD0:=hid hd0
   have HDS:=hid hds
   have HFA:=hid (fun(h0:cv=0)=>show jX t (i+1)=jX t i from by
    rw[wS]
    have:nV t i=none:=by unfold nV;rw[hx];simp only[];rw[if_pos (by rw[hcv];exact h0)]
    rw[this]
    exact List.append_nil _)
   obtain⟨xk,xc,xp⟩:=x
   simp only[]at c1 c2 c3
   clear hx hg0 hfw hcv hls hd0 hds
   go_upto_region 6 with fail
   have hx7:=heap_alloc_new wr (.cells #[.int .i64 xk,.int .u8 (xc:Int),.int .i64 xp] 37)
   have hw5:=(Below.refl wr.heap.size wr).alloc (Nat.le_refl _) (.cells #[.int .i64 xk,.int .u8 (xc:Int),.int .i64 xp] 37)
   generalize wr.alloc _=w5 at hx7 hw5 ⊢
   obtain⟨B7,hB7⟩:∃ B7,wr.heap.size=B7:=⟨_,rfl⟩
   have HW5:=hid hw5
   have HCO5:=hid (HCO.out w5 hw5)
   have HFW5:=hid (HFW.out.below hw5)
   have hbr:b1≤wr.heap.size:=by have:=hB.size;rw[HB1.out]at this;exact this
   have HB5:=hid (HB.out.trans (hw5.mono hbr))
   rw[hB7]at hx7 ⊢
   obtain⟨z0,z1,z2⟩:=uZ hx7
   have hB5:b1≤w5.heap.size:=Nat.le_trans hbr hw5.size
   clear c1 c2 c3 e0 e1 e2 hx7 hw5 hB7 hB HCO
   obtain⟨e0,e1,e2⟩:=iG ((HB5.out.block B0 HBB.out.1).trans HX.out)
   by_cases h108:xc=108
   ·have hls2:(if xk=2 then (1:Int) else if xk=3 then -1 else 0)=ls:=by
     rw[← HLS.out]
     unfold wO
     simp only[h108,true_and]
    have HST:=hid (aBG xk ls hls2 w5)
    have hcv0:cv=0:=by
     rw[← HCV.out]
     unfold codeF
     simp only[]
     split
     ·rfl
     ·rw[if_neg (by omega),if_neg (by omega),if_neg (by omega),if_neg (by omega),if_pos (by omega)]
    have hls3:-1≤ls∧ls≤1:=by rw[← hls2];split<;>(try split)<;>omega
    have tw:IntKind.i64.wrap (d0+ls)=iF t (i+1):=by rw[HDS.out];exact IntWalk.i64_in _ ⟨by omega,by omega⟩
    have HFN:=hid (HFA.out hcv0)
    subst h108
    subst hcv0
    clear hls2 hls3
    go_wp2_with fail
    refine HST.out.mono ?_
    rintro e w6 ⟨rfl,hw6⟩
    have hw6:=hw6.symm
    subst hw6
    go_wp2_with fail
    refine HCO5.out.mono ?_
    rintro e w7 ⟨rfl,hb7⟩
    have HFW7:=hid (HFN.out▸HFW5.out.below hb7)
    have HB7':=hid (HB5.out.trans (hb7.mono hB5))
    clear hb7 e0 e1 e2 z0 z1 z2
    go_wp2
    go_roundw
    case rel=>exact⟨i+1,avs,by go_num,by omega,rfl,HFW7.out,HB7'.out⟩
    case measure=>simp[intOf];omega
   have t108:((xc:Int)==108)=false:=beq_eq_false_iff_ne.2 (by omega)
   have hls0:ls=0:=by
    rw[← HLS.out]
    unfold wO
    simp only[]
    rw[if_neg (by omega),if_neg (by omega)]
   have HD1:=hid (show iF t (i+1)=d0 from by rw[HDS.out,hls0,Int.add_zero])
   clear hls0
   by_cases hcv0:cv=0
   ·have HFN:=hid (HFA.out hcv0)
    subst hcv0
    clear h108
    go_wp2_with fail
    refine HCO5.out.mono ?_
    rintro e w7 ⟨rfl,hb7⟩
    have HFW7:=hid (HFN.out▸HFW5.out.below hb7)
    have HB7':=hid (HB5.out.trans (hb7.mono hB5))
    clear hb7 e0 e1 e2 z0 z1 z2
    go_wp2
    go_roundw
    case rel=>exact⟨i+1,avs,by go_num,by omega,by rw[HD1.out],HFW7.out,HB7'.out⟩
    case measure=>simp[intOf];omega
   have hcd:mD ⟨xk,xc,xp⟩=true:=(M3 t i ⟨xk,xc,xp⟩).1 (by rw[HCV.out];exact hcv0)
   have hcn:((cv:Int)==0)=false:=beq_eq_false_iff_ne.2 (by omega)
   obtain⟨hJ1,⟨y,hy,hye⟩,hJq⟩:=HG.out.ends i _ HXX.out hcd
   have hfa:nV t i=some ⟨cv,d0,i+1,SF t i xc⟩:=by
    unfold nV
    rw[HXX.out]
    simp only[]
    rw[HCV.out,if_neg hcv0]
    by_cases h5:xc=105
    ·rw[if_pos h5,HD0.out]
    ·rw[if_neg h5,← HD0.out,HG.out.flat i _ HXX.out hcd h5]
   obtain⟨J,hJ⟩:∃ J,SF t i xc=J:=⟨_,rfl⟩
   simp only[]at hJ1 hy hJq
   rw[hJ]at hJ1 hy hJq hfa
   obtain⟨f,hf⟩:∃ f:Fw,(⟨cv,d0,i+1,J⟩:Fw)=f:=⟨_,rfl⟩
   have hmem:f ∈ fR t:=by
    unfold fR
    rw[← hf]
    exact List.mem_filterMap.2 ⟨i,List.mem_range.2 (by omega),hfa⟩
   have hleft:=SM l HG.out hmem
   obtain⟨qs,hqs⟩:∃ qs,iW l t f=qs:=⟨_,rfl⟩
   obtain⟨S,hS'⟩:∃ S,bytesOf (qs.map (·.1))=S:=⟨_,rfl⟩
   obtain⟨m,hm⟩:∃ m,qs.length=m:=⟨_,rfl⟩
   obtain⟨zs,hzs⟩:∃ zs,iV (qs.map (·.2))=zs:=⟨_,rfl⟩
   have hJn:J<n:=by rw[← htl];exact M1 hy
   have HTE0:=hid (fun(V:World) (hV:Below w5.heap.size w5 V)=>show Calls Tryz.prog 68 #[.agg #[.pointer (some a),.slice (some ⟨g,0,none⟩) nl rc,.slice (some ⟨g0,off,none⟩) n c],.int .i64 ((i:Int)+1)] V fun e W'=>e=.returned (.int .i64 (J:Int))∧Below V.heap.size V W' from by
    have h:=NF (HEW.out.later (HW5.out.trans (hV.mono HW5.out.size))) (i+1) J hJ1 hJn (fun j z h1 h2 hz=>NH (hJq j z h1 h2 hz)) (fun z hz=>by rw[hy]at hz;cases hz;exact WY (I1 hcd).2 hye)
    unfold uA at h
    rw[HNL.out]at h
    rw[show ((i+1:Nat):Int)=(i:Int)+1 from by push_cast;rfl]at h
    exact h)
   have HFL0:=hid (fun(V:World) (hV:Below w5.heap.size w5 V)=>show Calls Tryz.prog 25 #[.agg #[.pointer (some a),.slice (some ⟨g,0,none⟩) nl rc,.slice (some ⟨g0,off,none⟩) n c],.agg #[.int .i64 (cv:Int),.int .i64 d0,.string { data:=#[] },.slice none 0 0,.int .i64 ((i:Int)+1),.int .i64 (J:Int)]] V fun e W'=>∃ av,e=.returned (.tuple #[.agg #[.int .i64 (cv:Int),.int .i64 d0,.string S,av,.int .i64 ((i:Int)+1),.int .i64 (J:Int)],.int .i64 0])∧W'.ownsRow V.heap.size 3 1 av m zs∧Below V.heap.size V W' from by
    rw[← hf]at hleft
    have h:=PM (HEW.out.later (HW5.out.trans (hV.mono HW5.out.size))) (cv:Int) d0 (i+1) J hJ1 (by omega) _ hleft.1 _ hleft.2
    unfold uA at h
    rw[HNL.out]at h
    rw[show ((i+1:Nat):Int)=(i:Int)+1 from by push_cast;rfl]at h
    refine h.mono fun e w' hh=>?_
    obtain⟨hb,⟨-,av,he,hown⟩ | ⟨hno,-⟩⟩:=hh
    ·rw[hf,hqs]at he hown
     rw[hS',show ((i+1:Nat):Int)=(i:Int)+1 from by push_cast;rfl]at he
     rw[hm,hzs]at hown
     exact⟨av,he,hown,hb⟩
    ·cases hno)
   have HFN:=hid (show jX t (i+1)=jX t i++[f] from by rw[wS,hfa,hf];rfl)
   have HCL:=hid (fun(av:Value)=>show fH l t f av=[.int .i64 (cv:Int),.int .i64 d0,.string S,av,.int .i64 ((i:Int)+1),.int .i64 (J:Int)] from by
    unfold fH
    rw[hqs,hS',← hf]
    simp only[]
    rw[show ((i+1:Nat):Int)=(i:Int)+1 from by push_cast;rfl])
   have HQM:=hid (show (iW l t f).length=m∧iV ((iW l t f).map (·.2))=zs from ⟨by rw[hqs];exact hm,by rw[hqs];exact hzs⟩)
   have J9:J≤1000:=by omega
   clear hcd hy hye hJq hfa hJ hf hmem hleft hqs hS' hm hzs hcv0 h108
   go_wp2_with fail
   refine HCO5.out.mono ?_
   rintro e w6 ⟨rfl,hb6⟩
   have HFW6:=hid (HFW5.out.below hb6)
   have HB6:=hid (HB5.out.trans (hb6.mono hB5))
   have hB6:b1≤w6.heap.size:=Nat.le_trans hB5 hb6.size
   have HTE:=hid (fun(V:World) (hV:Below w6.heap.size w6 V)=>HTE0.out V (chain hb6 hb6.size hV))
   have HFL:=hid (fun(V:World) (hV:Below w6.heap.size w6 V)=>HFL0.out V (chain hb6 hb6.size hV))
   have HSS:=hid (fun(V:World) (hV:Below w6.heap.size w6 V)=>show (V.cell? ⟨B0,0,none⟩=some (.pointer (some a))∧V.cell? ⟨B0,1,none⟩=some (.slice (some ⟨g,0,none⟩) nl rc)∧V.cell? ⟨B0,2,none⟩=some (.slice (some ⟨g0,off,none⟩) n c))∧Below w6.heap.size w6 V from ⟨iG (((HB6.out.trans (hV.mono hB6)).block B0 HBB.out.1).trans HX.out),hV⟩)
   have twi:IntKind.i64.wrap ((i:Int)+1)=(i:Int)+1:=IntWalk.i64_in _ ⟨by omega,by omega⟩
   clear hb6 HTE0 HFL0 e0 e1 e2 z0 z1 z2 HCO5
   go_upto_region 10 with fail
   go_cut [9,10,14] from 14 to 53 (fun u9 u10 u14 wx=>∃ (B9:Nat) (av:Value),u9=.pointer (some ⟨B9,0,none⟩)∧u10=.int .i64 0∧u14=.int .i64 (i:Int)∧wx.heap[B9]?=some (.cells #[.int .i64 (cv:Int),.int .i64 d0,.string S,av,.int .i64 ((i:Int)+1),.int .i64 (J:Int)] 44 (0,0))∧wx.ownsRow b1 3 1 av m zs∧Below w6.heap.size w6 wx)
   case first =>
    have hS:=HSS.out _ (Below.refl w6.heap.size w6).drew
    refine wp_region_held_drew (S:=(fun V:World=>(V.cell? ⟨B0,0,none⟩=some (.pointer (some a))∧V.cell? ⟨B0,1,none⟩=some (.slice (some ⟨g,0,none⟩) nl rc)∧V.cell? ⟨B0,2,none⟩=some (.slice (some ⟨g0,off,none⟩) n c))∧Below w6.heap.size w6 V)) (by kernel_rfl) hS (fun hHeld=>?_)
    refine tk 0 (v:=?_) ?_ ?_
    rotate_left
    ·rintro W ⟨⟨x0,x1,x2⟩,-⟩;go_simp;all_goals (with_reducible rfl)
    try simp only[zP,zA,zB,zC]
    refine tk 1 (v:=?_) ?_ ?_
    rotate_left
    ·rintro W ⟨⟨x0,x1,x2⟩,-⟩;go_simp;all_goals (with_reducible rfl)
    try simp only[zP,zA,zB,zC]
    refine tk 2 (v:=?_) ?_ ?_
    rotate_left
    ·rintro W ⟨⟨x0,x1,x2⟩,-⟩;go_simp;all_goals (with_reducible rfl)
    try simp only[zP,zA,zB,zC]
    refine tk 3 (v:=?_) ?_ ?_
    rotate_left
    ·rintro W ⟨⟨x0,x1,x2⟩,-⟩;go_simp;all_goals (with_reducible rfl)
    try simp only[zP,zA,zB,zC]
    refine tk 4 (v:=?_) ?_ ?_
    rotate_left
    ·rintro W ⟨⟨x0,x1,x2⟩,-⟩;go_simp;all_goals (with_reducible rfl)
    try simp only[zP,zA,zB,zC]
    refine tk 5 (v:=?_) ?_ ?_
    rotate_left
    ·rintro W ⟨⟨x0,x1,x2⟩,-⟩;go_simp;all_goals (with_reducible rfl)
    try simp only[zP,zA,zB,zC]
    refine tk 6 (v:=?_) ?_ ?_
    rotate_left
    ·rintro W ⟨⟨x0,x1,x2⟩,-⟩;go_simp;all_goals (with_reducible rfl)
    try simp only[zP,zA,zB,zC]
    refine tk 7 (v:=?_) ?_ ?_
    rotate_left
    ·rintro W ⟨⟨x0,x1,x2⟩,-⟩;go_simp;all_goals (with_reducible rfl)
    try simp only[zP,zA,zB,zC]
    refine wpAnyH_ready (rs:=[8,14]) (by kernel_rfl) (by simp) ?_
    refine AllReadyH.cons (by simp only[List.getElem?_toArray,List.getElem?_cons_succ,List.getElem?_cons_zero];rfl) (fun K hK=>?_) ?_
    ·skip
     go_simp
     go_at_call 68
     refine(HTE.out _ hS.2).mono ?_
     rintro en Wn1 ⟨rfl,hb_1⟩
     have hS1:=HSS.out _ (chain hS.2 hS.2.size hb_1)
     go_wp2_with fail
     refine hK.out _ _ hS1 (fun _=>?_)
     clear hK K hb_1 hS
     try simp only[zP,zA,zB,zC]
     try simp only[zN]
     refine tk 9 (v:=?_) ?_ ?_
     rotate_left
     ·rintro W ⟨⟨x0,x1,x2⟩,-⟩;go_simp;all_goals (with_reducible rfl)
     try simp only[zP,zA,zB,zC]
     refine wpAnyH_ready (rs:=[10,14]) (by kernel_rfl) (by simp) ?_
     refine AllReadyH.cons (by simp only[List.getElem?_toArray,List.getElem?_cons_succ,List.getElem?_cons_zero];rfl) (fun K hK=>?_) ?_
     ·skip
      go_simp
      go_at_call 25
      refine(HFL.out _ hS1.2).mono ?_
      rintro en Wn2 ⟨av,rfl,hOw,hb_2⟩
      have hS2:=HSS.out _ (chain hS1.2 hS1.2.size hb_2)
      have hOw:=gH hOw (Nat.le_trans hB6 hS1.2.size)
      obtain⟨Aa,ca,rfl,-,-,-⟩:=aN hOw
      go_wp2_with fail
      refine hK.out _ _ hS2 (fun _=>?_)
      clear hK K hb_2 hS1
      try simp only[zP,zA,zB,zC]
      try simp only[zN]
      refine tk 11 (v:=?_) ?_ ?_
      rotate_left
      ·rintro W ⟨⟨x0,x1,x2⟩,-⟩;go_simp;all_goals (with_reducible rfl)
      try simp only[zP,zA,zB,zC]
      refine tk 12 (v:=?_) ?_ ?_
      rotate_left
      ·rintro W ⟨⟨x0,x1,x2⟩,-⟩;go_simp;all_goals (with_reducible rfl)
      try simp only[zP,zA,zB,zC]
      refine tk 13 (v:=?_) ?_ ?_
      rotate_left
      ·rintro W ⟨⟨x0,x1,x2⟩,-⟩;go_simp;all_goals (with_reducible rfl)
      try simp only[zP,zA,zB,zC]
      refine Rg.take_one 14 (by simp only[List.getElem?_toArray,List.getElem?_cons_succ,List.getElem?_cons_zero];rfl) (by kernel_rfl) (fun K hK=>?_)
      go_simp
      have hal:=(Below.refl Wn2.heap.size Wn2).alloc (Nat.le_refl _) (.cells #[.int .i64 0,.int .i64 0,.string { data:=#[] },.slice none 0 0,.int .i64 0,.int .i64 0] 44)
      have hN:(Wn2.alloc (.cells #[.int .i64 0,.int .i64 0,.string { data:=#[] },.slice none 0 0,.int .i64 0,.int .i64 0] 44)).heap[Wn2.heap.size]?=some (.cells #[.int .i64 0,.int .i64 0,.string { data:=#[] },.slice none 0 0,.int .i64 0,.int .i64 0] 44 (0,0)):=heap_alloc_new Wn2 (.cells #[.int .i64 0,.int .i64 0,.string { data:=#[] },.slice none 0 0,.int .i64 0,.int .i64 0] 44)
      have hS3:=HSS.out (Wn2.alloc (.cells #[.int .i64 0,.int .i64 0,.string { data:=#[] },.slice none 0 0,.int .i64 0,.int .i64 0] 44)) (chain hS2.2 hS2.2.size hal)
      have hsz:w6.heap.size≤Wn2.heap.size:=hS2.2.size
      have hOn:=a6 hOw hal
      clear hOw
      refine hK.out _ _ hS3 (fun _=>?_)
      clear hK K hS2 hal
      try simp only[zP,zA,zB,zC]
      try simp only[zN]
      obtain⟨B9,hge⟩:∃ n,Wn2.heap.size=n:=⟨_,rfl⟩
      have hBn:w6.heap.size≤B9:=by omega
      generalize Wn2.alloc (.cells #[.int .i64 0,.int .i64 0,.string { data:=#[] },.slice none 0 0,.int .i64 0,.int .i64 0] 44)=Wn3 at hN hS3 hOn ⊢
      rw[hge]at hN ⊢
      clear hge hsz
      have hOw:=hOn
      refine Rg.take_one 15 (by simp only[List.getElem?_toArray,List.getElem?_cons_succ,List.getElem?_cons_zero];rfl) (by kernel_rfl) (fun K hK=>?_)
      have hcl:=jV hN
      obtain⟨z0,z1,z2,z3,z4,z5⟩:=hcl
      have hfz:=CT hN
      obtain⟨y0,y1,y2,y3,y4,y5⟩:=hfz
      go_simp
      clear z0 z1 z2 z3 z4 z5 y0 y1 y2 y3 y4 y5
      have hfar:∀ k,k≠B9→(mZ Wn3 B9 (.int .i64 (cv:Int)) (.int .i64 d0) (.string S) (.slice Aa m ca) (.int .i64 ((i:Int)+1)) (.int .i64 (J:Int))).heap[k]?=Wn3.heap[k]?:=fun k hk=>zQ hk _ _ _ _ _ _
      have hN2:=kM hN (.int .i64 (cv:Int)) (.int .i64 d0) (.string S) (.slice Aa m ca) (.int .i64 ((i:Int)+1)) (.int .i64 (J:Int))
      have hS4:=HSS.out _ (iX hS3.2 hBn (.int .i64 (cv:Int)) (.int .i64 d0) (.string S) (.slice Aa m ca) (.int .i64 ((i:Int)+1)) (.int .i64 (J:Int)))
      have hO2:=fD hOw hN (by decide) hfar
      clear hfar
      change K _ (mZ Wn3 B9 (.int .i64 (cv:Int)) (.int .i64 d0) (.string S) (.slice Aa m ca) (.int .i64 ((i:Int)+1)) (.int .i64 (J:Int)))
      generalize mZ Wn3 B9 (.int .i64 (cv:Int)) (.int .i64 d0) (.string S) (.slice Aa m ca) (.int .i64 ((i:Int)+1)) (.int .i64 (J:Int))=Wn4 at hS4 hN2 hO2 ⊢
      refine hK.out _ _ hS4 (fun _=>?_)
      clear hK K hS3 hOw hN
      try simp only[zP,zA,zB,zC]
      try simp only[zN]
      have hN:=hN2
      have hOw:=hO2
      refine tk 16 (v:=?_) ?_ ?_
      rotate_left
      ·rintro W ⟨⟨x0,x1,x2⟩,-⟩;go_simp;all_goals (with_reducible rfl)
      try simp only[zP,zA,zB,zC]
      refine wpAnyH_done (by kernel_rfl) ?_ _
      have HZ:=hid (And.intro hN (And.intro hOw hS4.2))
      clear hN hOw hS4
      go_wp2
      go_meet
      exact⟨_,_,rfl,rfl,rfl,HZ.out.1,HZ.out.2.1,HZ.out.2.2⟩
     refine AllReadyH.cons (by simp only[List.getElem?_toArray,List.getElem?_cons_succ,List.getElem?_cons_zero];rfl) (fun K hK=>?_) ?_
     ·skip
      go_simp
      have hal:=(Below.refl Wn1.heap.size Wn1).alloc (Nat.le_refl _) (.cells #[.int .i64 0,.int .i64 0,.string { data:=#[] },.slice none 0 0,.int .i64 0,.int .i64 0] 44)
      have hN:(Wn1.alloc (.cells #[.int .i64 0,.int .i64 0,.string { data:=#[] },.slice none 0 0,.int .i64 0,.int .i64 0] 44)).heap[Wn1.heap.size]?=some (.cells #[.int .i64 0,.int .i64 0,.string { data:=#[] },.slice none 0 0,.int .i64 0,.int .i64 0] 44 (0,0)):=heap_alloc_new Wn1 (.cells #[.int .i64 0,.int .i64 0,.string { data:=#[] },.slice none 0 0,.int .i64 0,.int .i64 0] 44)
      have hS5:=HSS.out (Wn1.alloc (.cells #[.int .i64 0,.int .i64 0,.string { data:=#[] },.slice none 0 0,.int .i64 0,.int .i64 0] 44)) (chain hS1.2 hS1.2.size hal)
      have hsz:w6.heap.size≤Wn1.heap.size:=hS1.2.size
      refine hK.out _ _ hS5 (fun _=>?_)
      clear hK K hS1 hal
      try simp only[zP,zA,zB,zC]
      try simp only[zN]
      obtain⟨B9,hge⟩:∃ n,Wn1.heap.size=n:=⟨_,rfl⟩
      have hBn:w6.heap.size≤B9:=by omega
      generalize Wn1.alloc (.cells #[.int .i64 0,.int .i64 0,.string { data:=#[] },.slice none 0 0,.int .i64 0,.int .i64 0] 44)=Wn5 at hN hS5 ⊢
      rw[hge]at hN ⊢
      clear hge hsz
      refine Rg.take_one 10 (by simp only[List.getElem?_toArray,List.getElem?_cons_succ,List.getElem?_cons_zero];rfl) (by kernel_rfl) (fun K hK=>?_)
      go_simp
      go_at_call 25
      refine(HFL.out _ hS5.2).mono ?_
      rintro en Wn6 ⟨av,rfl,hOw,hb_6⟩
      have hS6:=HSS.out _ (chain hS5.2 hS5.2.size hb_6)
      have hN:=(hb_6.block _ (Array.getElem?_eq_some_iff.1 hN).1).trans hN
      have hOw:=gH hOw (Nat.le_trans hB6 hS5.2.size)
      obtain⟨Aa,ca,rfl,-,-,-⟩:=aN hOw
      go_wp2_with fail
      refine hK.out _ _ hS6 (fun _=>?_)
      clear hK K hb_6 hS5
      try simp only[zP,zA,zB,zC]
      try simp only[zN]
      refine tk 11 (v:=?_) ?_ ?_
      rotate_left
      ·rintro W ⟨⟨x0,x1,x2⟩,-⟩;go_simp;all_goals (with_reducible rfl)
      try simp only[zP,zA,zB,zC]
      refine tk 12 (v:=?_) ?_ ?_
      rotate_left
      ·rintro W ⟨⟨x0,x1,x2⟩,-⟩;go_simp;all_goals (with_reducible rfl)
      try simp only[zP,zA,zB,zC]
      refine tk 13 (v:=?_) ?_ ?_
      rotate_left
      ·rintro W ⟨⟨x0,x1,x2⟩,-⟩;go_simp;all_goals (with_reducible rfl)
      try simp only[zP,zA,zB,zC]
      refine Rg.take_one 15 (by simp only[List.getElem?_toArray,List.getElem?_cons_succ,List.getElem?_cons_zero];rfl) (by kernel_rfl) (fun K hK=>?_)
      have hcl:=jV hN
      obtain⟨z0,z1,z2,z3,z4,z5⟩:=hcl
      have hfz:=CT hN
      obtain⟨y0,y1,y2,y3,y4,y5⟩:=hfz
      go_simp
      clear z0 z1 z2 z3 z4 z5 y0 y1 y2 y3 y4 y5
      have hfar:∀ k,k≠B9→(mZ Wn6 B9 (.int .i64 (cv:Int)) (.int .i64 d0) (.string S) (.slice Aa m ca) (.int .i64 ((i:Int)+1)) (.int .i64 (J:Int))).heap[k]?=Wn6.heap[k]?:=fun k hk=>zQ hk _ _ _ _ _ _
      have hN2:=kM hN (.int .i64 (cv:Int)) (.int .i64 d0) (.string S) (.slice Aa m ca) (.int .i64 ((i:Int)+1)) (.int .i64 (J:Int))
      have hS7:=HSS.out _ (iX hS6.2 hBn (.int .i64 (cv:Int)) (.int .i64 d0) (.string S) (.slice Aa m ca) (.int .i64 ((i:Int)+1)) (.int .i64 (J:Int)))
      have hO2:=fD hOw hN (by decide) hfar
      clear hfar
      change K _ (mZ Wn6 B9 (.int .i64 (cv:Int)) (.int .i64 d0) (.string S) (.slice Aa m ca) (.int .i64 ((i:Int)+1)) (.int .i64 (J:Int)))
      generalize mZ Wn6 B9 (.int .i64 (cv:Int)) (.int .i64 d0) (.string S) (.slice Aa m ca) (.int .i64 ((i:Int)+1)) (.int .i64 (J:Int))=Wn7 at hS7 hN2 hO2 ⊢
      refine hK.out _ _ hS7 (fun _=>?_)
      clear hK K hS6 hOw hN
      try simp only[zP,zA,zB,zC]
      try simp only[zN]
      have hN:=hN2
      have hOw:=hO2
      refine tk 16 (v:=?_) ?_ ?_
      rotate_left
      ·rintro W ⟨⟨x0,x1,x2⟩,-⟩;go_simp;all_goals (with_reducible rfl)
      try simp only[zP,zA,zB,zC]
      refine wpAnyH_done (by kernel_rfl) ?_ _
      have HZ:=hid (And.intro hN (And.intro hOw hS7.2))
      clear hN hOw hS7
      go_wp2
      go_meet
      exact⟨_,_,rfl,rfl,rfl,HZ.out.1,HZ.out.2.1,HZ.out.2.2⟩
     exact AllReadyH.nil
    refine AllReadyH.cons (by simp only[List.getElem?_toArray,List.getElem?_cons_succ,List.getElem?_cons_zero];rfl) (fun K hK=>?_) ?_
    ·skip
     go_simp
     have hal:=(Below.refl w6.heap.size w6).alloc (Nat.le_refl _) (.cells #[.int .i64 0,.int .i64 0,.string { data:=#[] },.slice none 0 0,.int .i64 0,.int .i64 0] 44)
     have hN:((w6.alloc (.cells #[.int .i64 0,.int .i64 0,.string { data:=#[] },.slice none 0 0,.int .i64 0,.int .i64 0] 44)).drew).heap[w6.heap.size]?=some (.cells #[.int .i64 0,.int .i64 0,.string { data:=#[] },.slice none 0 0,.int .i64 0,.int .i64 0] 44 (0,0)):=heap_alloc_new w6 (.cells #[.int .i64 0,.int .i64 0,.string { data:=#[] },.slice none 0 0,.int .i64 0,.int .i64 0] 44)
     have hS8:=HSS.out ((w6.alloc (.cells #[.int .i64 0,.int .i64 0,.string { data:=#[] },.slice none 0 0,.int .i64 0,.int .i64 0] 44)).drew) hal.drew
     have hsz:w6.heap.size≤w6.heap.size:=Nat.le_refl _
     refine hK.out _ _ hS8 (fun _=>?_)
     clear hK K hS hal
     try simp only[zP,zA,zB,zC]
     try simp only[zN]
     have hBn:w6.heap.size≤w6.heap.size:=by omega
     generalize (w6.alloc (.cells #[.int .i64 0,.int .i64 0,.string { data:=#[] },.slice none 0 0,.int .i64 0,.int .i64 0] 44)).drew=Wn8 at hN hS8 ⊢
     clear hsz
     refine Rg.take_one 8 (by simp only[List.getElem?_toArray,List.getElem?_cons_succ,List.getElem?_cons_zero];rfl) (by kernel_rfl) (fun K hK=>?_)
     go_simp
     go_at_call 68
     refine(HTE.out _ hS8.2).mono ?_
     rintro en Wn9 ⟨rfl,hb_9⟩
     have hS9:=HSS.out _ (chain hS8.2 hS8.2.size hb_9)
     have hN:=(hb_9.block _ (Array.getElem?_eq_some_iff.1 hN).1).trans hN
     go_wp2_with fail
     refine hK.out _ _ hS9 (fun _=>?_)
     clear hK K hb_9 hS8
     try simp only[zP,zA,zB,zC]
     try simp only[zN]
     refine tk 9 (v:=?_) ?_ ?_
     rotate_left
     ·rintro W ⟨⟨x0,x1,x2⟩,-⟩;go_simp;all_goals (with_reducible rfl)
     try simp only[zP,zA,zB,zC]
     refine Rg.take_one 10 (by simp only[List.getElem?_toArray,List.getElem?_cons_succ,List.getElem?_cons_zero];rfl) (by kernel_rfl) (fun K hK=>?_)
     go_simp
     go_at_call 25
     refine(HFL.out _ hS9.2).mono ?_
     rintro en Wn10 ⟨av,rfl,hOw,hb_10⟩
     have hS10:=HSS.out _ (chain hS9.2 hS9.2.size hb_10)
     have hN:=(hb_10.block _ (Array.getElem?_eq_some_iff.1 hN).1).trans hN
     have hOw:=gH hOw (Nat.le_trans hB6 hS9.2.size)
     obtain⟨Aa,ca,rfl,-,-,-⟩:=aN hOw
     go_wp2_with fail
     refine hK.out _ _ hS10 (fun _=>?_)
     clear hK K hb_10 hS9
     try simp only[zP,zA,zB,zC]
     try simp only[zN]
     refine tk 11 (v:=?_) ?_ ?_
     rotate_left
     ·rintro W ⟨⟨x0,x1,x2⟩,-⟩;go_simp;all_goals (with_reducible rfl)
     try simp only[zP,zA,zB,zC]
     refine tk 12 (v:=?_) ?_ ?_
     rotate_left
     ·rintro W ⟨⟨x0,x1,x2⟩,-⟩;go_simp;all_goals (with_reducible rfl)
     try simp only[zP,zA,zB,zC]
     refine tk 13 (v:=?_) ?_ ?_
     rotate_left
     ·rintro W ⟨⟨x0,x1,x2⟩,-⟩;go_simp;all_goals (with_reducible rfl)
     try simp only[zP,zA,zB,zC]
     refine Rg.take_one 15 (by simp only[List.getElem?_toArray,List.getElem?_cons_succ,List.getElem?_cons_zero];rfl) (by kernel_rfl) (fun K hK=>?_)
     have hcl:=jV hN
     obtain⟨z0,z1,z2,z3,z4,z5⟩:=hcl
     have hfz:=CT hN
     obtain⟨y0,y1,y2,y3,y4,y5⟩:=hfz
     go_simp
     clear z0 z1 z2 z3 z4 z5 y0 y1 y2 y3 y4 y5
     have hfar:∀ k,k≠w6.heap.size→(mZ Wn10 w6.heap.size (.int .i64 (cv:Int)) (.int .i64 d0) (.string S) (.slice Aa m ca) (.int .i64 ((i:Int)+1)) (.int .i64 (J:Int))).heap[k]?=Wn10.heap[k]?:=fun k hk=>zQ hk _ _ _ _ _ _
     have hN2:=kM hN (.int .i64 (cv:Int)) (.int .i64 d0) (.string S) (.slice Aa m ca) (.int .i64 ((i:Int)+1)) (.int .i64 (J:Int))
     have hS11:=HSS.out _ (iX hS10.2 hBn (.int .i64 (cv:Int)) (.int .i64 d0) (.string S) (.slice Aa m ca) (.int .i64 ((i:Int)+1)) (.int .i64 (J:Int)))
     have hO2:=fD hOw hN (by decide) hfar
     clear hfar
     change K _ (mZ Wn10 w6.heap.size (.int .i64 (cv:Int)) (.int .i64 d0) (.string S) (.slice Aa m ca) (.int .i64 ((i:Int)+1)) (.int .i64 (J:Int)))
     generalize mZ Wn10 w6.heap.size (.int .i64 (cv:Int)) (.int .i64 d0) (.string S) (.slice Aa m ca) (.int .i64 ((i:Int)+1)) (.int .i64 (J:Int))=Wn11 at hS11 hN2 hO2 ⊢
     refine hK.out _ _ hS11 (fun _=>?_)
     clear hK K hS10 hOw hN
     try simp only[zP,zA,zB,zC]
     try simp only[zN]
     have hN:=hN2
     have hOw:=hO2
     refine tk 16 (v:=?_) ?_ ?_
     rotate_left
     ·rintro W ⟨⟨x0,x1,x2⟩,-⟩;go_simp;all_goals (with_reducible rfl)
     try simp only[zP,zA,zB,zC]
     refine wpAnyH_done (by kernel_rfl) ?_ _
     have HZ:=hid (And.intro hN (And.intro hOw hS11.2))
     clear hN hOw hS11
     go_wp2
     go_meet
     exact⟨_,_,rfl,rfl,rfl,HZ.out.1,HZ.out.2.1,HZ.out.2.2⟩
    exact AllReadyH.nil
   case rest =>
   obtain⟨B9,av,rfl,rfl,rfl,hN,hOw,hb9⟩:=hcut
   obtain⟨Aa,ca,rfl,-,-,-⟩:=aN hOw
   obtain⟨z0,z1,z2,z3,z4,z5⟩:=jV hN
   have HFW9:=hid (HFW6.out.below hb9)
   have HOW9:=hid hOw
   have HB9:=hid (HB6.out.trans (hb9.mono hB6))
   have hB9:b1≤wc.heap.size:=Nat.le_trans hB6 hb9.size
   have HOF:=hid (HFW9.out.2.1)
   rw[HNU.out]at HOF
   clear hN hOw hb9
   go_wp2_with (at_builtin;refine wpList_append_own _ rfl _ _ 40 rfl b1 44 i0 _ 6 72 Tryz.underlying40 hi0 hz0 hz1 hz2 rfl (by decide) _ _ _ rfl (HOF.out.alloc _) ⟨wc.heap.size,0,none⟩ 1 1 [.int .i64 (cv:Int),.int .i64 d0,.string S,.slice Aa m ca,.int .i64 ((i:Int)+1),.int .i64 (J:Int)] rfl rfl (World.news_of_block (cs:=#[.int .i64 (cv:Int),.int .i64 d0,.string S,.slice Aa m ca,.int .i64 ((i:Int)+1),.int .i64 (J:Int)]) (t:=44) (fr:=(0,0)) (heap_alloc_new wc _)) (by simp[Value.oneCell']) (by unfold maxLen;omega) (by omega) (by simp;omega) ?_;intro v6 w7 hown6 hgrow6 _;have HF7:=hid (HFW9.out.more (f:=f) (by rw[HQM.out.1,HQM.out.2];exact HOW9.out) hgrow6 (by rw[HNU.out,HCL.out];exact hown6));have HB7:=hid ((HB9.out.alloc hB9 (.cells #[.int .i64 (cv:Int),.int .i64 d0,.string S,.slice Aa m ca,.int .i64 ((i:Int)+1),.int .i64 (J:Int)] 44)).grown hgrow6 (by simp;omega) (fun j ej=>(HOF.out.lt j ej).1));clear hown6 hgrow6)
   go_roundw
   case rel=>exact⟨i+1,avs++[.slice Aa m ca],by go_num,by omega,by rw[HD1.out],by rw[HFN.out];exact HF7.out,HB7.out⟩
   case measure=>simp[intOf];omega
  ·obtain rfl:i=n:=by omega
   have HFE:=hid (show EP W.heap.size wr (.slice Au nu cu) l t (fR t) avs from by
    rw[HFF.out]
    exact⟨HFW.out.1,gH HFW.out.2.1 (by rw[HB0.out];exact HBB.out.2),fun k f b h1 h2=>gH (HFW.out.2.2 k f b h1 h2) (by rw[HB0.out];exact HBB.out.2)⟩)
   have HBE:=hid (chain HW.out HW.out.size (by rw[HB1.out];exact hB))
   clear hfw hB
   go_wp2
   go_ret2
   exact⟨HBE.out,_,avs,rfl,HFE.out⟩
end Go.Proofs.YthbigkoihpgcfaaGreatDoor.Da
