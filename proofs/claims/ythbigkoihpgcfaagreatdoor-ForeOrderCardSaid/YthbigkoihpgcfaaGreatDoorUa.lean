/-
  Put together.
-/
import Derived.Test.YthbigkoihpgcfaaGreatDoorSj
import Derived.Test.YthbigkoihpgcfaaGreatDoorVg
namespace Go.Proofs.YthbigkoihpgcfaaGreatDoor.Fl
open Go.RowKit
structure Tk where
 kind:Int
 ch:Nat
 place:Int
def cT (x:Tk):List Value:=[.int .i64 x.kind,.int .u8 (x.ch:Int),.int .i64 x.place]
abbrev bW (off:Nat) (w:World) (B:Nat) (v:Value) (l:List Tk):Prop:=Ba.Reads cT 3 off w B v l
def iC (l:List Tk):Prop:=∀ x ∈ l,(-9223372036854775808≤x.kind∧x.kind≤9223372036854775807)∧x.ch<256∧(-9223372036854775808≤x.place∧x.place≤9223372036854775807)
end Go.Proofs.YthbigkoihpgcfaaGreatDoor.Fl
namespace Go.Proofs.YthbigkoihpgcfaaGreatDoor.Cu
open Go.RowKit Ba Ru Ck Ti Pa Fl
def mA (x:Tk):Bool:=decide (x.kind=1) && aW x.ch
def aQ (c:Nat):Bool:=decide (65≤c∧c≤90)
def BG (x:Tk):Bool:=decide (x.kind=1) && aQ x.ch
def aJ (x:Tk):Bool:=mA x || BG x
def eO (x:Tk):Bool:=decide (x.kind=1) && decide (48≤x.ch∧x.ch≤57)
def gD (x:Tk):Bool:=decide (x.kind=1) && Ka.fZ.contains x.ch
def cM (x:Tk):List Nat:=if x.ch=101∨x.ch=115∨x.ch=110 then (if x.kind=2 then [x.ch,43] else if x.kind=3 then [x.ch,45] else []) else []
def jG (x:Tk):Bool:=aJ x || eO x || gD x || !(cM x).isEmpty
def bB (t:List Tk):Bool:=t.all jG
def fA (t:List Tk):List Nat:=t.map (·.ch)
def bare (x:Tk):Int × Nat:=(x.kind,x.ch)
def iP (c:Nat):Nat:=if 65≤c∧c≤90 then c+32 else c
def bL (s:List Nat):List Nat:=s.map iP
def upN (c:Nat):Nat:=c - 32
def aO (s:List Nat):Nat :=
 if s.isEmpty || !(s.all fun c=>aW c || aQ c) then 0
 else if s.all aW then 1
 else if aQ (s.headD 0) && s.tail.all aW then 2
 else if s.all aQ then 3
 else 4
structure Pc where
 rule:Nat
 aR:Nat
 len:Nat
deriving DecidableEq
def eW:List Nat:=[99,97,112]
def cV:List Nat:=[99,97,112,115]
def jH:List Nat:=[110,117,109]
def eX:List Nat:=[108,101,116]
def aG (l:List Rl) (aE:Int) (left:List Nat):Nat:=(cI l aE left).getD 0
def a8 (l:List Rl) (aR:Nat):List Nat→Nat→List Pc
 | [],_=>[]
 | k::r,p=>⟨k,aR+p,aK l k⟩::a8 l aR r (p+aK l k)
def eB (s:List Nat) (p:Nat):Nat:=match s.drop p with
 | []=>0
 | c::r=>(if aQ c=true then 1+(r.takeWhile fun c=>!aQ c).length else ((c::r).takeWhile fun c=>!aQ c).length)
def fL (l:List Rl) (s:List Nat) (aR:Nat):Nat→Nat→List Pc
 | 0,_=>[]
 | n+1,p=>if p<s.length then
   if aO (s.drop p)=3 then ⟨aG l 8 cV,aR+p,0⟩::a8 l aR (gZ l (bL s) (p:Int)) p
   else match dC l (bL s) (p:Int) (eB s p:Int) with
    | none=>[]
    | some k=>(if aQ (s.getD p 0)=true then [⟨aG l 8 eW,aR+p,0⟩] else [])++⟨k,aR+p,aK l k⟩::fL l s aR n (p+aK l k)
  else []
def runN (l:List Rl) (s:List Nat) (aR:Nat):List Pc:=fL l s aR s.length 0
def bM (l:List Rl):Nat→Nat→Bool→List Tk→List Pc
 | 0,_,_,_=>[]
 | _+1,_,_,[]=>[]
 | n+1,i,behind,x::r =>
  if aJ x=true then (if behind=true then [⟨aG l 8 eX,i,0⟩] else [])++runN l (fA ((x::r).takeWhile aJ)) i++bM l n (i+((x::r).takeWhile aJ).length) false ((x::r).dropWhile aJ)
  else if eO x=true then (if behind=true then [] else [⟨aG l 8 jH,i,0⟩])++⟨aG l 7 [x.ch],i,1⟩::bM l n (i+1) true r
  else if gD x=true then ⟨aG l 6 [x.ch],i,1⟩::bM l n (i+1) false r
  else ⟨aG l 8 (cM x),i,1⟩::bM l n (i+1) false r
def bI (l:List Rl) (t:List Tk):List Pc:=bM l t.length 0 false t
def dD (l:List Rl) (t:List Tk):Option (List Pc) :=
 if t.all aJ=true then match cI l 5 (bL (fA t)) with
  | none=>none
  | some k=>match aO (fA t) with
   | 1=>some [⟨k,0,t.length⟩]
   | 2=>some [⟨aG l 8 eW,0,0⟩,⟨k,0,t.length⟩]
   | 3=>some [⟨aG l 8 cV,0,0⟩,⟨k,0,t.length⟩]
   | _=>none
 else none
def cC (l:List Rl) (p:List Pc):List Nat:=if p.all (fun x=>decide (x.rule<l.length))=true then p.flatMap fun x=>(l[x.rule]?.map (·.cells)).getD [] else []
def jU (l:List Rl) (c:List Nat):Bool :=
 let cap:=fN l eW
 let caps:=fN l cV
 let d:=if cap.isPrefixOf c=true then c.drop cap.length else if caps.isPrefixOf c=true then c.drop caps.length else c
 (cZ l d).isSome
def j6 (l:List Rl) (t:List Tk):List Pc:=match dD l t with
 | some p=>p
 | none=>if jU l (cC l (bI l t))=true then ⟨aG l 8 eX,0,0⟩::bI l t else bI l t
def jI (row:Int) (x:Rl):Int :=
 if x.aE≤4 then 2 else if x.aE=7 then 3 else if x.aE=8 then (if x.left=eW∨x.left=cV then row else if x.left=jH then 3 else 1) else 1
def gQ:Int→List Rl→Prop
 | _,[]=>True
 | row,x::r=>iL x row=true∧gQ (jI row x) r
def rN (c:Nat) (s:List Nat):List Nat:=match c,s with
 | 0,s=>s
 | 1,[]=>[]
 | 1,a::s=>upN a::s
 | _,s=>s.map upN
def gB:Nat→List Rl→List (Int × Nat)
 | _,[]=>[]
 | c,x::r =>
  if x.aE≤4 then (rN c x.left).map (fun a=>(1,a))++gB (if c=2 then 2 else 0) r
  else if x.aE=8 then
   if x.left=eW then gB 1 r else if x.left=cV then gB 2 r
   else if x.left=jH∨x.left=eX then gB 0 r
   else (if x.left.tail=[43] then 2 else 3,x.left.headD 0)::gB 0 r
  else (1,x.left.headD 0)::gB 0 r
theorem fW (c:Nat) (x:Rl) (r:List Rl):gB c (x::r)=if x.aE≤4 then (rN c x.left).map (fun a=>((1:Int),a))++gB (if c=2 then 2 else 0) r
  else if x.aE=8 then
   (if x.left=eW then gB 1 r else if x.left=cV then gB 2 r
   else if x.left=jH∨x.left=eX then gB 0 r
   else (if x.left.tail=[43] then 2 else 3,x.left.headD 0)::gB 0 r)
  else (1,x.left.headD 0)::gB 0 r:=rfl
def bD (l:List Rl) (p:List Pc):List Rl:=p.filterMap fun x=>l[x.rule]?
theorem aL {l:List Rl} {x:Pc} {y:Rl} (h:l[x.rule]?=some y) (q:List Pc):bD l (x::q)=y::bD l q:=List.filterMap_cons_some (f:=fun x:Pc=>l[x.rule]?) h
theorem eA {l:List Rl} {p:List Pc}:∀ x ∈ bD l p,x ∈ l:=fun x hx=>by
 unfold bD at hx
 obtain⟨y,-,h⟩:=List.mem_filterMap.1 hx
 exact List.mem_of_getElem? h
def VI (R:List Rl):Prop:=∀ x r,R=x::r→(x.aE=6∨x.aE=8)∧x.left≠eW∧x.left≠cV
theorem VJ {pr:List Nat→Option (List Nat)} {l:List Rl} (A:Acc pr l) {w:Int × List Nat} (hw:w ∈ fM):∃ k x,cI l w.1 w.2=some k∧l[k]?=some x∧x.aE=w.1∧x.left=w.2:=by
 have hm:=A.all
 unfold lP at hm
 have hh:hasB l w=true:=by
  cases hb:hasB l w with
  | true=>rfl
  | false =>
   cases hf:fM.find? fun w=>!hasB l w with
   | none =>
    have:=List.find?_eq_none.1 hf _ hw
    rw[hb]at this
    exact absurd rfl this
   | some v =>
    rw[hf]at hm
    have hwm:=List.mem_of_find?_eq_some hf
    have ne:∀ w ∈ fM,w.2≠[]:=by decide +kernel
    exact absurd hm (ne v hwm)
 unfold hasB at hh
 obtain⟨x,hx,hd⟩:=List.any_eq_true.1 hh
 obtain⟨d1,d2⟩:=of_decide_eq_true hd
 obtain⟨k,hk,e⟩:=List.getElem_of_mem hx
 have hk2:l[k]?=some x:=by rw[← e];exact List.getElem?_eq_getElem hk
 refine⟨k,x,?_,hk2,d1,d2⟩
 rw[← d1,← d2]
 exact O8 A.apart hk2
theorem cF:∀ s ∈ bX,((8:Int),s) ∈ fM:=by decide +kernel
theorem qA:∀ c ∈ Ka.fZ,((6:Int),[c]) ∈ fM:=by decide +kernel
theorem yO:∀ i:Fin 10,((7:Int),[48+i.val]) ∈ fM:=by decide +kernel
theorem bS {pr:List Nat→Option (List Nat)} {l:List Rl} (A:Acc pr l) {w:Int × List Nat} (hw:w ∈ fM):∃ x,l[aG l w.1 w.2]?=some x∧x.aE=w.1∧x.left=w.2:=by
 obtain⟨k,x,h1,h2,h3,h4⟩:=VJ A hw
 refine⟨x,?_,h3,h4⟩
 unfold aG
 rw[h1]
 exact h2
theorem sQ {x:Tk} (h:jG x=true) (h1:aJ x=false) (h2:eO x=false) (h3:gD x=false):cM x ∈ bX∧cM x≠eW∧cM x≠cV∧cM x≠jH∧cM x≠eX∧(if (cM x).tail=[43] then (2:Int) else 3,(cM x).headD 0)=bare x:=by
 unfold jG at h
 rw[h1,h2,h3]at h
 obtain⟨kd,ch,pl⟩:=x
 unfold cM bare at *
 simp only[]at h ⊢
 by_cases hc:ch=101∨ch=115∨ch=110
 ·rw[if_pos hc]at h ⊢
  by_cases hk:kd=2
  ·subst hk
   rw[if_pos rfl]at h ⊢
   rcases hc with rfl | rfl | rfl<;>decide
  ·rw[if_neg hk]at h ⊢
   by_cases hk3:kd=3
   ·subst hk3
    rw[if_pos rfl]at h ⊢
    rcases hc with rfl | rfl | rfl<;>decide
   ·rw[if_neg hk3]at h
    exact absurd h (by decide)
 ·rw[if_neg hc]at h
  exact absurd h (by decide)
def gE (s:List Nat):Prop:=∀ c ∈ s,aW c=true∨aQ c=true
theorem iQ {c:Nat} (h:aW c=true):aQ c=false:=by
 have:=of_decide_eq_true h
 exact decide_eq_false (by omega)
theorem B6 {c:Nat} (h:aQ c=false):iP c=c:=by
 have:=of_decide_eq_false h
 unfold iP
 rw[if_neg this]
theorem MA {c:Nat} (h:aQ c=true):upN (iP c)=c:=by
 have:=of_decide_eq_true h
 unfold iP upN
 rw[if_pos this]
 omega
theorem jC {s:List Nat} (h:gE s) (hne:s≠[]):jJ (bL s)=true:=by
 unfold jJ bL
 rw[Bool.and_eq_true,List.all_eq_true]
 refine⟨by cases s with
  | nil=>exact absurd rfl hne
  | cons a b=>rfl,fun c hc=>?_⟩
 obtain⟨d,hd,rfl⟩:=List.mem_map.1 hc
 rcases h d hd with hs | hs
 ·rw[B6 (iQ hs)];exact hs
 ·have:=of_decide_eq_true hs
  unfold iP
  rw[if_pos this]
  exact decide_eq_true (by omega)
theorem aT (s:List Nat):(bL s).length=s.length:=List.length_map ..
theorem Q8 (s:List Nat) (p n:Nat):((bL s).drop p).take n=bL ((s.drop p).take n):=by unfold bL;rw[List.map_take,List.map_drop]
theorem O9 {s:List Nat} (h:∀ c ∈ s,aQ c=true):(bL s).map upN=s:=by
 unfold bL
 rw[List.map_map]
 conv=>rhs;rw[← List.map_id s]
 exact List.map_congr_left fun c hc=>MA (h c hc)
def rowAt (p:Nat):Int:=if p=0 then 1 else 2
theorem yP {l:List Rl} {s:List Nat} {p:Nat} {most:Int} {k:Nat} {x:Rl} (h:Best l s (p:Int) most k x):iL x (rowAt p)=true∧1≤x.aE∧x.aE≤4:=by
 obtain⟨-,-,-,-,-,-,hw⟩:=eP h.mQ
 have hw:=of_decide_eq_true hw
 refine⟨?_,by omega⟩
 unfold iL rowAt
 by_cases hp:p=0
 ·rw[if_pos hp,decide_eq_true (p:=(1:Int)≤1∧(1:Int)≤3) (by omega),if_pos rfl,decide_eq_true (p:=x.aE=1∨x.aE=2) (by omega)]
  simp
 ·rw[if_neg hp,decide_eq_true (p:=(1:Int)≤2∧(2:Int)≤3) (by omega),if_neg (by decide),if_pos rfl,decide_eq_true (p:=x.aE=1∨x.aE=3∨x.aE=4) (by omega)]
  simp
theorem kK {p:Nat} (h:0<p):rowAt p=2:=if_neg (by omega)
theorem nQ {x:Rl} (h:x.aE≤4) (row:Int):jI row x=2:=if_pos h
theorem nR {x:Rl} (h:x.aE≤4) (c:Nat) (R:List Rl):gB c (x::R)=(rN c x.left).map (fun a=>((1:Int),a))++gB (if c=2 then 2 else 0) R:=by
 rw[fW,if_pos h]
theorem CA {s:List Nat} {l:List Rl} {p:Nat} {most:Int} {k:Nat} {x:Rl} (h:Best l (bL s) (p:Int) most k x):x.left=bL ((s.drop p).take x.left.length):=by
 rw[← Q8]
 exact(aAR h.mQ).symm
section
variable {pr:List Nat→Option (List Nat)} {l:List Rl} (A:Acc pr l) {s:List Nat} (hs:gE s) (aR:Nat)
include A hs
omit A hs in
theorem sR {p:Nat} (hp:p<s.length):0<eB s p:=by
 unfold eB
 rw[List.drop_eq_getElem_cons hp]
 show 0<if _ then _ else _
 by_cases h:aQ s[p]=true
 ·rw[if_pos h];omega
 ·rw[if_neg h,List.takeWhile_cons_of_pos (by simpa using h)]
  simp
omit A hs in
theorem yQ {p:Nat} (h:aO (s.drop p)=3):∀ c ∈ s.drop p,aQ c=true:=by
 unfold aO at h
 split at h
 ·cases h
 ·split at h
  ·cases h
  ·split at h
   ·cases h
   ·split at h
    ·rename_i hk
     exact List.all_eq_true.1 hk
    ·cases h
end
theorem mR {t:List Tk} (h:t.all aJ=true):gE (fA t):=fun c hc=>by
 obtain⟨x,hx,rfl⟩:=List.mem_map.1 hc
 have:=List.all_eq_true.1 h x hx
 unfold aJ mA BG at this
 rw[Bool.or_eq_true,Bool.and_eq_true,Bool.and_eq_true]at this
 rcases this with⟨-,h⟩ | ⟨-,h⟩
 ·exact .inl h
 ·exact .inr h
theorem gF (p:Tk→Bool) (t:List Tk):(t.takeWhile p).all p=true:=List.all_takeWhile
section
variable {pr:List Nat→Option (List Nat)} {l:List Rl} (A:Acc pr l)
include A
omit A in
theorem mS {i:Nat} {behind:Bool} {x:Tk} {r:List Tk} {n:Nat}:bM l (n+1) i behind (x::r) =
  if aJ x=true then (if behind=true then [⟨aG l 8 eX,i,0⟩] else [])++runN l (fA ((x::r).takeWhile aJ)) i++bM l n (i+((x::r).takeWhile aJ).length) false ((x::r).dropWhile aJ)
  else if eO x=true then (if behind=true then [] else [⟨aG l 8 jH,i,0⟩])++⟨aG l 7 [x.ch],i,1⟩::bM l n (i+1) true r
  else if gD x=true then ⟨aG l 6 [x.ch],i,1⟩::bM l n (i+1) false r
  else ⟨aG l 8 (cM x),i,1⟩::bM l n (i+1) false r:=rfl
end
theorem yR (l:List Rl):∀ p:List Pc,(p.flatMap fun x=>(l[x.rule]?.map (·.cells)).getD [])=bV (bD l p)
 | []=>rfl
 | x::p=>by
  rw[List.flatMap_cons,yR l p]
  cases h:l[x.rule]? with
  | none =>
   have:bD l (x::p)=bD l p:=List.filterMap_cons_none (f:=fun x:Pc=>l[x.rule]?) h
   rw[this];rfl
  | some y =>
   rw[aL h]
   rfl
def Valid (l:List Rl) (p:List Pc):Prop:=∀ x ∈ p,x.rule<l.length
theorem jL {l:List Rl} {p:List Pc} (h:Valid l p):cC l p=bV (bD l p):=by
 unfold cC
 rw[if_pos (List.all_eq_true.2 fun x hx=>decide_eq_true (h x hx)),yR]
theorem Valid.nil (l:List Rl):Valid l []:=fun x hx=>by cases hx
theorem Valid.cons {l:List Rl} {x:Pc} {p:List Pc} {y:Rl} (hx:l[x.rule]?=some y) (hp:Valid l p):Valid l (x::p):=fun z hz=>by
 rcases List.mem_cons.1 hz with rfl | hz
 ·exact(List.getElem?_eq_some_iff.1 hx).1
 ·exact hp z hz
theorem Valid.append {l:List Rl} {p q:List Pc} (hp:Valid l p) (hq:Valid l q):Valid l (p++q):=fun z hz=>(List.mem_append.1 hz).elim (hp z) (hq z)
section
variable {pr:List Nat→Option (List Nat)} {l:List Rl} (A:Acc pr l)
include A
theorem wG {s:List Nat} (hs:gE s) (aR:Nat):∀ (n p:Nat),s.length - p≤n→Valid l (a8 l aR (gZ l (bL s) (p:Int)) p)
 | n,p,hn=>by
  by_cases hlt:p<s.length
  ·obtain⟨n,rfl⟩:∃ m,n=m+1:=⟨n - 1,by omega⟩
   have hne:s≠[]:=fun e=>by rw[e]at hlt;exact absurd hlt (by simp)
   obtain⟨k,x,h,-,ha,h0,-⟩:=kW A (jC hs hne) (p:=p) (by rw[aT];exact hlt)
   have hl:aK l k=x.left.length:=by unfold aK;rw[h.at'];rfl
   rw[ha]
   show Valid l (⟨k,aR+p,aK l k⟩::a8 l aR _ (p+aK l k))
   rw[hl]
   exact .cons (x:=⟨k,aR+p,x.left.length⟩) h.at' (wG hs aR n (p+x.left.length) (by omega))
  ·rw[lT (by rw[aT];omega)]
   exact .nil l
theorem CC {s:List Nat} (hs:gE s) (aR:Nat):∀ (n p:Nat),Valid l (fL l s aR n p)
 | 0,_=>.nil l
 | n+1,p=>by
  show Valid l (if p<s.length then _ else _)
  by_cases hlt:p<s.length
  ·rw[if_pos hlt]
   by_cases hcs:aO (s.drop p)=3
   ·rw[if_pos hcs]
    obtain⟨y,y1,-,-⟩:=bS A (cF cV (by decide))
    exact .cons (x:=⟨aG l 8 cV,aR+p,0⟩) y1 (wG A hs aR s.length p (by omega))
   ·rw[if_neg hcs]
    cases hb:dC l (bL s) (p:Int) (eB s p:Int) with
    | none=>exact .nil l
    | some k =>
     obtain⟨x,h⟩:=mT hb
     refine .append ?_ (.cons (x:=⟨k,aR+p,aK l k⟩) h.at' (CC hs aR n _))
     by_cases hcap:aQ (s.getD p 0)=true
     ·rw[if_pos hcap]
      obtain⟨y,y1,-,-⟩:=bS A (cF eW (by decide))
      exact .cons (x:=⟨aG l 8 eW,aR+p,0⟩) y1 (.nil l)
     ·rw[if_neg hcap];exact .nil l
  ·rw[if_neg hlt];exact .nil l
theorem fP:∀ (n i:Nat) (behind:Bool) (t:List Tk),bB t=true→Valid l (bM l n i behind t)
 | 0,_,_,_,_=>.nil l
 | n+1,_,_,[],_=>.nil l
 | n+1,i,behind,x::t,hc=>by
  have hcx:jG x=true:=List.all_eq_true.1 hc x (List.mem_cons_self ..)
  have hct:bB t=true:=List.all_eq_true.2 fun y hy=>List.all_eq_true.1 hc y (List.mem_cons_of_mem _ hy)
  rw[mS]
  by_cases hx:aJ x=true
  ·rw[if_pos hx]
   have hdc:bB ((x::t).dropWhile aJ)=true:=List.all_eq_true.2 fun y hy=>List.all_eq_true.1 hc y ((List.dropWhile_sublist _).subset hy)
   refine .append (.append ?_ (CC A (mR (gF aJ (x::t))) i _ _)) (fP n _ false _ hdc)
   cases behind with
   | false=>rw[if_neg (by decide)];exact .nil l
   | true =>
    rw[if_pos rfl]
    obtain⟨y,y1,-,-⟩:=bS A (cF eX (by decide))
    exact .cons (x:=⟨aG l 8 eX,i,0⟩) y1 (.nil l)
  ·rw[if_neg hx]
   have hx:aJ x=false:=by simpa using hx
   by_cases hd:eO x=true
   ·have hdd:48≤x.ch∧x.ch≤57:=by
     unfold eO at hd
     rw[Bool.and_eq_true]at hd
     exact of_decide_eq_true hd.2
    have hw:=yO ⟨x.ch - 48,by omega⟩
    simp only[]at hw
    rw[show 48+(x.ch - 48)=x.ch by omega]at hw
    obtain⟨y,y1,-,-⟩:=bS A hw
    rw[if_pos hd]
    refine .append ?_ (.cons (x:=⟨aG l 7 [x.ch],i,1⟩) y1 (fP n _ true t hct))
    cases behind with
    | true=>rw[if_pos rfl];exact .nil l
    | false =>
     rw[if_neg (by decide)]
     obtain⟨z,z1,-,-⟩:=bS A (cF jH (by decide))
     exact .cons (x:=⟨aG l 8 jH,i,0⟩) z1 (.nil l)
   ·rw[if_neg hd]
    by_cases hm:gD x=true
    ·have hmm:x.ch ∈ Ka.fZ:=by
      unfold gD at hm
      rw[Bool.and_eq_true]at hm
      exact List.contains_iff_mem.1 hm.2
     obtain⟨y,y1,-,-⟩:=bS A (qA x.ch hmm)
     rw[if_pos hm]
     exact .cons (x:=⟨aG l 6 [x.ch],i,1⟩) y1 (fP n _ false t hct)
    ·obtain⟨n1,-⟩:=sQ hcx hx (by simpa using hd) (by simpa using hm)
     obtain⟨y,y1,-,-⟩:=bS A (cF (cM x) n1)
     rw[if_neg hm]
     exact .cons (x:=⟨aG l 8 (cM x),i,1⟩) y1 (fP n _ false t hct)
theorem qD {s:List Nat} (hs:s ∈ bX):∃ y,l[aG l 8 s]?=some y∧y ∈ l∧y.aE=8∧y.left=s∧fN l s=y.cells:=by
 obtain⟨y,y1,y2,y3⟩:=bS A (cF s hs)
 refine⟨y,y1,List.mem_of_getElem? y1,y2,y3,?_⟩
 have:=aAS A.apart y1 y2
 have y3:y.left=s:=y3
 rw[y3]at this
 exact this
theorem mU {t:List Tk} {p:List Pc} (h:dD l t=some p):t.all aJ=true∧Valid l p∧∃ x,x ∈ l∧x.aE=5∧x.left=bL (fA t) ∧
  (aO (fA t)=1∧bD l p=[x]∨(∃ y,y ∈ l∧y.aE=8∧y.left=eW∧aO (fA t)=2∧bD l p=[y,x])∨(∃ y,y ∈ l∧y.aE=8∧y.left=cV∧aO (fA t)=3∧bD l p=[y,x])):=by
 unfold dD at h
 by_cases ha:t.all aJ=true
 ·rw[if_pos ha]at h
  cases hf:cI l 5 (bL (fA t)) with
  | none=>rw[hf]at h;cases h
  | some k =>
   rw[hf]at h
   simp only[]at h
   obtain⟨hk,hd,-⟩:=List.findIdx?_eq_some_iff_getElem.1 hf
   have hx:l[k]?=some l[k]:=List.getElem?_eq_getElem hk
   obtain⟨d1,d2⟩:=of_decide_eq_true hd
   have hmem:=List.mem_of_getElem? hx
   split at h
   ·rename_i hc
    cases h
    exact⟨ha,.cons (x:=⟨k,0,t.length⟩) hx (.nil l),l[k],hmem,d1,d2,.inl ⟨hc,by rw[aL (x:=⟨k,0,t.length⟩) hx];rfl⟩⟩
   ·rename_i hc
    cases h
    obtain⟨y,y1,y2,y3,y4,-⟩:=qD A (s:=eW) (by decide)
    exact⟨ha,.cons (x:=⟨aG l 8 eW,0,0⟩) y1 (.cons (x:=⟨k,0,t.length⟩) hx (.nil l)),l[k],hmem,d1,d2,.inr (.inl ⟨y,y2,y3,y4,hc,by rw[aL (x:=⟨aG l 8 eW,0,0⟩) y1,aL (x:=⟨k,0,t.length⟩) hx];rfl⟩)⟩
   ·rename_i hc
    cases h
    obtain⟨y,y1,y2,y3,y4,-⟩:=qD A (s:=cV) (by decide)
    exact⟨ha,.cons (x:=⟨aG l 8 cV,0,0⟩) y1 (.cons (x:=⟨k,0,t.length⟩) hx (.nil l)),l[k],hmem,d1,d2,.inr (.inr ⟨y,y2,y3,y4,hc,by rw[aL (x:=⟨aG l 8 cV,0,0⟩) y1,aL (x:=⟨k,0,t.length⟩) hx];rfl⟩)⟩
   ·cases h
 ·rw[if_neg ha]at h;cases h
theorem pB {t:List Tk} (h:bB t=true):Valid l (j6 l t):=by
 unfold j6
 cases hw:dD l t with
 | some p=>exact(mU A hw).2.1
 | none =>
  have hs:=fP A t.length 0 false t h
  show Valid l (if jU l (cC l (bI l t))=true then ⟨aG l 8 eX,0,0⟩::bI l t else bI l t)
  split
  ·obtain⟨y,y1,-⟩:=qD A (s:=eX) (by decide)
   exact .cons (x:=⟨aG l 8 eX,0,0⟩) y1 hs
  ·exact hs
end
def UK (y:Rl) (n:Nat) (u:List Tk):Prop:=if n=0 then y.aE=8∧(y.left=eW∨y.left=cV∨y.left=jH∨y.left=eX)
 else (∀ x ∈ u,(x.kind=1↔y.aE≠8))∧(y.aE≠8→bL (fA u)=y.left)∧(y.aE=8→n=1∧y.left.length=2∧bL (fA u)=y.left.take 1)
def y7 (l:List Rl) (T:List Tk):Nat→List Pc→Nat→Prop
 | i,[],j=>i=j
 | i,x::p,j=>∃ y,l[x.rule]?=some y∧x.aR=i∧i+x.len≤T.length∧UK y x.len ((T.drop i).take x.len)∧y7 l T (i+x.len) p j
theorem y7.append {l:List Rl} {T:List Tk} {q:List Pc} {k:Nat}:∀ {p:List Pc} {i j:Nat},y7 l T i p j→y7 l T j q k→y7 l T i (p++q) k
 | [],i,j,h,g=>by
  obtain rfl:i=j:=h
  exact g
 | x::p,i,j,⟨y,h1,h2,h3,h4,h5⟩,g=>⟨y,h1,h2,h3,h4,y7.append h5 g⟩
theorem y7.sign {l:List Rl} {T:List Tk} {i:Nat} {p:List Pc} {j:Nat} {r:Nat} {y:Rl} (hi:i≤T.length) (h1:l[r]?=some y) (h2:y.aE=8) (h3:y.left=eW∨y.left=cV∨y.left=jH∨y.left=eX) (h:y7 l T i p j):y7 l T i (⟨r,i,0⟩::p) j :=
 ⟨y,h1,rfl,hi,by unfold UK;rw[if_pos rfl];exact⟨h2,h3⟩,h⟩
section
variable {pr:List Nat→Option (List Nat)} {l:List Rl} (A:Acc pr l)
include A
theorem aC9 {s:List Nat} (hs:s ∈ bX):∃ y,l[aG l 8 s]?=some y∧y.aE=8∧y.left=s:=bS A (w:=(8,s)) (cF s hs)
section
variable {T:List Tk} {i:Nat} {s:List Nat} (hT:((T.drop i).take s.length).all aJ=true) (hs:fA ((T.drop i).take s.length)=s) (hl:i+s.length≤T.length)
include hT hs hl
omit A hl in
theorem aII {p n:Nat} (h:p+n≤s.length):((T.drop (i+p)).take n).all aJ=true∧fA ((T.drop (i+p)).take n)=(s.drop p).take n:=by
 have e:(T.drop (i+p)).take n=(((T.drop i).take s.length).drop p).take n:=by
  rw[List.drop_take,List.drop_drop,List.take_take,Nat.min_eq_left (by omega)]
 rw[e]
 refine⟨List.all_eq_true.2 fun x hx=>List.all_eq_true.1 hT x (List.mem_of_mem_drop (List.mem_of_mem_take hx)),?_⟩
 have e2:fA ((((T.drop i).take s.length).drop p).take n)=((fA ((T.drop i).take s.length)).drop p).take n:=by
  unfold fA
  rw[List.map_take,List.map_drop]
 rw[e2,hs]
omit A hl in
theorem aHM {p:Nat} {x:Rl} (h1:1≤x.aE∧x.aE≤4) (h0:0<x.left.length) (hx:x.left=bL ((s.drop p).take x.left.length)) (h:p+x.left.length≤s.length):UK x x.left.length ((T.drop (i+p)).take x.left.length):=by
 obtain⟨a,b⟩:=aII hT hs h
 unfold UK
 rw[if_neg (by omega)]
 refine⟨fun z hz=>?_,fun _=>by rw[b];exact hx.symm,fun e=>by omega⟩
 have:=List.all_eq_true.1 a z hz
 unfold aJ mA BG at this
 rw[Bool.or_eq_true,Bool.and_eq_true,Bool.and_eq_true]at this
 have hk:z.kind=1:=by rcases this with⟨h,-⟩ | ⟨h,-⟩<;>exact of_decide_eq_true h
 exact⟨fun _=>by omega,fun _=>hk⟩
theorem aHN (hL:gE s):∀ (n p:Nat),s.length - p≤n→p≤s.length→y7 l T (i+p) (a8 l i (gZ l (bL s) (p:Int)) p) (i+s.length)
 | n,p,hn,hp=>by
  by_cases hlt:p<s.length
  ·obtain⟨n,rfl⟩:∃ m,n=m+1:=⟨n - 1,by omega⟩
   have hne:s≠[]:=fun e=>by rw[e]at hlt;exact absurd hlt (by simp)
   obtain⟨k,x,h,-,ha,h0,hle⟩:=kW A (jC hL hne) (p:=p) (by rw[aT];exact hlt)
   rw[aT]at hle
   obtain⟨-,r2,r3⟩:=yP h
   have hl2:aK l k=x.left.length:=by unfold aK;rw[h.at'];rfl
   have ih:=aHN hL n (p+x.left.length) (by omega) hle
   rw[ha]
   show y7 l T (i+p) (⟨k,i+p,aK l k⟩::a8 l i _ (p+aK l k)) _
   rw[hl2]
   exact⟨x,h.at',rfl,by show i+p+x.left.length≤_;omega,aHM hT hs ⟨r2,r3⟩ h0 (CA h) hle,by rw[show i+p+x.left.length=i+(p+x.left.length) by omega];exact ih⟩
  ·obtain rfl:p=s.length:=by omega
   have ha:gZ l (bL s) (s.length:Int)=[]:=lT (by rw[aT];omega)
   rw[ha]
   exact rfl
theorem aIU (hL:gE s):∀ (n p:Nat),s.length - p≤n→p≤s.length→y7 l T (i+p) (fL l s i n p) (i+s.length)
 | 0,p,hn,hp=>by
  obtain rfl:p=s.length:=by omega
  exact rfl
 | n+1,p,hn,hp=>by
  by_cases hlt:p<s.length
  ·have hne:s≠[]:=fun e=>by rw[e]at hlt;exact absurd hlt (by simp)
   unfold fL
   rw[if_pos hlt]
   by_cases h3:aO (s.drop p)=3
   ·rw[if_pos h3]
    obtain⟨y,y1,y2,y3⟩:=aC9 A (s:=cV) (by decide)
    exact y7.sign (by omega) y1 y2 (.inr (.inl y3)) (aHN A hT hs hl hL (n+1) p hn hp)
   ·rw[if_neg h3]
    obtain⟨k,x,hb,h⟩:=iR A (jC hL hne) (p:=p) (by rw[aT];exact hlt) (most:=(eB s p:Int)) (by have:=sR hlt;omega)
    rw[hb]
    have h2:=jK h.mQ
    rw[aT]at h2
    have hl2:aK l k=x.left.length:=by unfold aK;rw[h.at'];rfl
    obtain⟨-,r2,r3⟩:=yP h
    have ih:=aIU hL n (p+x.left.length) (by omega) (by omega)
    have tail:y7 l T (i+p) (⟨k,i+p,aK l k⟩::fL l s i n (p+aK l k)) (i+s.length):=by
     rw[hl2]
     exact⟨x,h.at',rfl,by show i+p+x.left.length≤_;omega,aHM hT hs ⟨r2,r3⟩ h2.2 (CA h) (by omega),by rw[show i+p+x.left.length=i+(p+x.left.length) by omega];exact ih⟩
    by_cases hc:aQ (s.getD p 0)=true
    ·simp only[if_pos hc]
     obtain⟨y,y1,y2,y3⟩:=aC9 A (s:=eW) (by decide)
     exact y7.sign (by omega) y1 y2 (.inl y3) tail
    ·simp only[if_neg hc]
     exact tail
  ·obtain rfl:p=s.length:=by omega
   unfold fL
   rw[if_neg hlt]
   exact rfl
end
omit A in
theorem aKQ {T:List Tk} {i:Nat} {x:Tk} {r:List Tk} (h:T.drop i=x::r):i<T.length∧(T.drop i).take 1=[x]∧T.drop (i+1)=r:=by
 have hlt:i<T.length:=by
  rcases Nat.lt_or_ge i T.length with h' | h'
  ·exact h'
  ·rw[List.drop_of_length_le h']at h;cases h
 refine⟨hlt,by rw[h];rfl,?_⟩
 rw[← List.drop_drop,h]
 rfl
theorem aGR {T:List Tk} (hT:bB T=true):∀ (n i:Nat) (b:Bool),T.length - i≤n→i≤T.length→y7 l T i (bM l n i b (T.drop i)) T.length
 | 0,i,b,hn,hi=>by
  obtain rfl:i=T.length:=by omega
  exact rfl
 | n+1,i,b,hn,hi=>by
  cases hd:T.drop i with
  | nil =>
   have:T.length≤i:=List.drop_eq_nil_iff.1 hd
   obtain rfl:i=T.length:=by omega
   exact rfl
  | cons x r =>
   obtain⟨hlt,ht,hr⟩:=aKQ hd
   have hx:jG x=true:=List.all_eq_true.1 hT x (List.mem_of_mem_drop (i:=i) (by rw[hd];exact List.mem_cons_self))
   have ih:=aGR hT n (i+1)
   rw[hr]at ih
   have one:∀ {k:Nat} {y:Rl} {b':Bool},l[k]?=some y→UK y 1 [x]→y7 l T i (⟨k,i,1⟩::bM l n (i+1) b' r) T.length:=fun {k y b'} h1 h2 =>
    ⟨y,h1,rfl,by show i+1≤_;omega,by show UK y 1 ((T.drop i).take 1);rw[ht];exact h2,ih b' (by omega) (by omega)⟩
   have okM:∀ {y:Rl} {q:Int},x.kind=1→y.aE=q→q≠8→aQ x.ch=false→y.left=[x.ch]→UK y 1 [x]:=fun {y q} hk hq h8 hc hy=>by
    unfold UK
    rw[if_neg (by omega)]
    refine⟨fun z hz=>?_,fun _=>?_,fun e=>absurd (hq.symm.trans e) h8⟩
    ·rw[List.mem_singleton.1 hz]
     exact⟨fun _=>by rw[hq];exact h8,fun _=>hk⟩
    ·rw[hy]
     show [iP x.ch]=_
     rw[B6 hc]
   rw[mS]
   by_cases hl1:aJ x=true
   ·rw[if_pos hl1]
    obtain⟨L,hL⟩:∃ L,(x::r).takeWhile aJ=L:=⟨_,rfl⟩
    have hLa:L.all aJ=true:=by rw[← hL];exact gF _ _
    have hpre:L=(T.drop i).take L.length:=by
     rw[hd,← hL]
     exact List.prefix_iff_eq_take.1 (List.takeWhile_prefix _)
    have hdrop:(x::r).dropWhile aJ=T.drop (i+L.length):=by
     rw[← List.drop_drop,hd]
     have:=List.takeWhile_append_dropWhile (p:=aJ) (l:=x::r)
     rw[hL]at this
     conv=>rhs;rw[← this]
     rw[List.drop_left]
    have hLl:i+L.length≤T.length:=by
     have:=congrArg List.length hpre
     rw[List.length_take,List.length_drop]at this
     omega
    have h1L:0<L.length:=by
     rw[← hL,List.takeWhile_cons,if_pos hl1]
     simp
    rw[hL,hdrop]
    have hcl:(fA L).length=L.length:=by unfold fA;rw[List.length_map]
    have hrun:y7 l T i (runN l (fA L) i) (i+L.length):=by
     have:=aIU A (T:=T) (i:=i) (s:=fA L) (by rw[hcl,← hpre];exact hLa) (by rw[hcl,← hpre]) (by rw[hcl];exact hLl) (mR hLa) (fA L).length 0 (by omega) (by omega)
     rw[hcl]at this
     unfold runN
     rw[hcl]
     exact this
    have hrest:=aGR hT n (i+L.length) false (by omega) hLl
    have hbody:=hrun.append hrest
    cases b with
    | true =>
     obtain⟨y,y1,y2,y3⟩:=aC9 A (s:=eX) (by decide)
     simp only[if_true,List.append_assoc]
     exact y7.sign hi y1 y2 (.inr (.inr (.inr y3))) hbody
    | false =>
     simp only[Bool.false_eq_true,if_false,List.nil_append]
     exact hbody
   ·rw[if_neg hl1]
    by_cases hd1:eO x=true
    ·rw[if_pos hd1]
     unfold eO at hd1
     rw[Bool.and_eq_true,decide_eq_true_eq,decide_eq_true_eq]at hd1
     obtain⟨y,y1,y2,y3⟩:=bS A (w:=(7,[x.ch])) (by have:=yO ⟨x.ch - 48,by omega⟩;rw[show 48+(x.ch - 48)=x.ch by omega]at this;exact this)
     have hbody:=one (b':=true) y1 (okM (q:=7) hd1.1 y2 (by decide) (by unfold aQ;exact decide_eq_false (by omega)) y3)
     cases b with
     | true=>exact hbody
     | false =>
      obtain⟨z,z1,z2,z3⟩:=aC9 A (s:=jH) (by decide)
      exact y7.sign hi z1 z2 (.inr (.inr (.inl z3))) hbody
    ·rw[if_neg hd1]
     by_cases hm1:gD x=true
     ·rw[if_pos hm1]
      unfold gD at hm1
      rw[Bool.and_eq_true,decide_eq_true_eq,List.contains_iff_mem]at hm1
      obtain⟨y,y1,y2,y3⟩:=bS A (w:=(6,[x.ch])) (qA _ hm1.2)
      have hc:aQ x.ch=false:=by
       have:∀ c ∈ Ka.fZ,aQ c=false:=by decide
       exact this _ hm1.2
      exact one y1 (okM (q:=6) hm1.1 y2 (by decide) hc y3)
     ·rw[if_neg hm1]
      have hl1:aJ x=false:=by simpa using hl1
      have hd1:eO x=false:=by simpa using hd1
      have hm1:gD x=false:=by simpa using hm1
      obtain⟨n1,-⟩:=sQ hx hl1 hd1 hm1
      obtain⟨y,y1,y2,y3⟩:=aC9 A n1
      refine one y1 ?_
      have hne:cM x≠[]:=fun e=>by
       unfold jG at hx
       rw[hl1,hd1,hm1,e]at hx
       exact absurd hx (by decide)
      unfold cM at hne y3
      by_cases hc:x.ch=101∨x.ch=115∨x.ch=110
      ·rw[if_pos hc]at hne y3
       have hcap:iP x.ch=x.ch:=B6 (by unfold aQ;exact decide_eq_false (by omega))
       by_cases h2:x.kind=2
       ·rw[if_pos h2]at y3
        unfold UK
        rw[if_neg (by omega),y2,y3]
        exact⟨fun z hz=>by rw[List.mem_singleton.1 hz,h2];exact⟨fun h=>absurd h (by decide),fun h=>absurd rfl h⟩,fun h=>absurd rfl h,fun _=>⟨rfl,rfl,by show [iP x.ch]=[x.ch];rw[hcap]⟩⟩
       ·rw[if_neg h2]at y3 hne
        by_cases h3:x.kind=3
        ·rw[if_pos h3]at y3
         unfold UK
         rw[if_neg (by omega),y2,y3]
         exact⟨fun z hz=>by rw[List.mem_singleton.1 hz,h3];exact⟨fun h=>absurd h (by decide),fun h=>absurd rfl h⟩,fun h=>absurd rfl h,fun _=>⟨rfl,rfl,by show [iP x.ch]=[x.ch];rw[hcap]⟩⟩
        ·rw[if_neg h3]at hne
         exact absurd rfl hne
      ·rw[if_neg hc]at hne
       exact absurd rfl hne
theorem aJR {T:List Tk} (hT:bB T=true):y7 l T 0 (j6 l T) T.length:=by
 have hsp:y7 l T 0 (bI l T) T.length:=aGR A hT T.length 0 false (by omega) (by omega)
 unfold j6
 cases hw:dD l T with
 | some p =>
  unfold dD at hw
  by_cases hall:T.all aJ=true
  ·rw[if_pos hall]at hw
   cases hf:cI l 5 (bL (fA T)) with
   | none=>rw[hf]at hw;cases hw
   | some k =>
    rw[hf]at hw
    obtain⟨x,x1,x2,x3⟩:∃ x,l[k]?=some x∧x.aE=5∧x.left=bL (fA T):=by
     obtain⟨hk,hp,-⟩:=List.findIdx?_eq_some_iff_getElem.1 hf
     refine⟨l[k],List.getElem?_eq_getElem hk,?_⟩
     exact of_decide_eq_true hp
    have hT0:T≠[]:=fun e=>by
     rw[e]at hw
     exact absurd hw (by simp[aO,fA])
    have hword:y7 l T 0 [⟨k,0,T.length⟩] T.length:=by
     refine⟨x,x1,rfl,by show 0+T.length≤_;omega,?_,by show 0+T.length=_;omega⟩
     show UK x T.length ((T.drop 0).take T.length)
     rw[List.drop_zero,List.take_length]
     unfold UK
     rw[if_neg (by have:=List.length_pos_iff.2 hT0;omega)]
     refine⟨fun z hz=>?_,fun _=>x3.symm,fun e=>absurd (x2.symm.trans e) (by decide)⟩
     have:=List.all_eq_true.1 hall z hz
     unfold aJ mA BG at this
     rw[Bool.or_eq_true,Bool.and_eq_true,Bool.and_eq_true]at this
     have hk:z.kind=1:=by rcases this with⟨h,-⟩ | ⟨h,-⟩<;>exact of_decide_eq_true h
     exact⟨fun _=>by rw[x2];decide,fun _=>hk⟩
    dsimp only at hw
    split at hw
    ·injection hw with hw
     rw[← hw]
     exact hword
    ·injection hw with hw
     rw[← hw]
     obtain⟨y,y1,y2,y3⟩:=aC9 A (s:=eW) (by decide)
     exact y7.sign (by omega) y1 y2 (.inl y3) hword
    ·injection hw with hw
     rw[← hw]
     obtain⟨y,y1,y2,y3⟩:=aC9 A (s:=cV) (by decide)
     exact y7.sign (by omega) y1 y2 (.inr (.inl y3)) hword
    ·cases hw
  ·rw[if_neg hall]at hw
   cases hw
 | none =>
  dsimp only
  split
  ·obtain⟨y,y1,y2,y3⟩:=aC9 A (s:=eX) (by decide)
   exact y7.sign (by omega) y1 y2 (.inr (.inr (.inr y3))) hsp
  ·exact hsp
end
end Go.Proofs.YthbigkoihpgcfaaGreatDoor.Cu
