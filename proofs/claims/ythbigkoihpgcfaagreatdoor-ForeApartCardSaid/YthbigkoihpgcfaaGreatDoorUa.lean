/-
  Put together.
-/
import Derived.Test.YthbigkoihpgcfaaGreatDoorSj
import Derived.Test.YthbigkoihpgcfaaGreatDoorVg
namespace Go.Proofs.YthbigkoihpgcfaaGreatDoor.Fl
open Go.RowKit
structure Tk where
 kind:Int
 ch:Nat
 place:Int
def cT (x:Tk):List Value:=[.int .i64 x.kind,.int .u8 (x.ch:Int),.int .i64 x.place]
abbrev bW (off:Nat) (w:World) (B:Nat) (v:Value) (l:List Tk):Prop:=Ba.Reads cT 3 off w B v l
def iC (l:List Tk):Prop:=∀ x ∈ l,(-9223372036854775808≤x.kind∧x.kind≤9223372036854775807)∧x.ch<256∧(-9223372036854775808≤x.place∧x.place≤9223372036854775807)
end Go.Proofs.YthbigkoihpgcfaaGreatDoor.Fl
namespace Go.Proofs.YthbigkoihpgcfaaGreatDoor.Cu
open Go.RowKit Ba Ru Ck Ti Pa Fl
def mA (x:Tk):Bool:=decide (x.kind=1) && aW x.ch
def aQ (c:Nat):Bool:=decide (65≤c∧c≤90)
def BG (x:Tk):Bool:=decide (x.kind=1) && aQ x.ch
def aJ (x:Tk):Bool:=mA x || BG x
def eO (x:Tk):Bool:=decide (x.kind=1) && decide (48≤x.ch∧x.ch≤57)
def gD (x:Tk):Bool:=decide (x.kind=1) && Ka.fZ.contains x.ch
def cM (x:Tk):List Nat:=if x.ch=101∨x.ch=115∨x.ch=110 then (if x.kind=2 then [x.ch,43] else if x.kind=3 then [x.ch,45] else []) else []
def jG (x:Tk):Bool:=aJ x || eO x || gD x || !(cM x).isEmpty
def bB (t:List Tk):Bool:=t.all jG
def fA (t:List Tk):List Nat:=t.map (·.ch)
def bare (x:Tk):Int × Nat:=(x.kind,x.ch)
def iP (c:Nat):Nat:=if 65≤c∧c≤90 then c+32 else c
def bL (s:List Nat):List Nat:=s.map iP
def upN (c:Nat):Nat:=c - 32
def aO (s:List Nat):Nat :=
 if s.isEmpty || !(s.all fun c=>aW c || aQ c) then 0
 else if s.all aW then 1
 else if aQ (s.headD 0) && s.tail.all aW then 2
 else if s.all aQ then 3
 else 4
structure Pc where
 rule:Nat
 aR:Nat
 len:Nat
deriving DecidableEq
def eW:List Nat:=[99,97,112]
def cV:List Nat:=[99,97,112,115]
def jH:List Nat:=[110,117,109]
def eX:List Nat:=[108,101,116]
def aG (l:List Rl) (aE:Int) (left:List Nat):Nat:=(cI l aE left).getD 0
def a8 (l:List Rl) (aR:Nat):List Nat→Nat→List Pc
 | [],_=>[]
 | k::r,p=>⟨k,aR+p,aK l k⟩::a8 l aR r (p+aK l k)
def eB (s:List Nat) (p:Nat):Nat:=match s.drop p with
 | []=>0
 | c::r=>(if aQ c=true then 1+(r.takeWhile fun c=>!aQ c).length else ((c::r).takeWhile fun c=>!aQ c).length)
def fL (l:List Rl) (s:List Nat) (aR:Nat):Nat→Nat→List Pc
 | 0,_=>[]
 | n+1,p=>if p<s.length then
   if aO (s.drop p)=3 then ⟨aG l 8 cV,aR+p,0⟩::a8 l aR (gZ l (bL s) (p:Int)) p
   else match dC l (bL s) (p:Int) (eB s p:Int) with
    | none=>[]
    | some k=>(if aQ (s.getD p 0)=true then [⟨aG l 8 eW,aR+p,0⟩] else [])++⟨k,aR+p,aK l k⟩::fL l s aR n (p+aK l k)
  else []
def runN (l:List Rl) (s:List Nat) (aR:Nat):List Pc:=fL l s aR s.length 0
def bM (l:List Rl):Nat→Nat→Bool→List Tk→List Pc
 | 0,_,_,_=>[]
 | _+1,_,_,[]=>[]
 | n+1,i,behind,x::r =>
  if aJ x=true then (if behind=true then [⟨aG l 8 eX,i,0⟩] else [])++runN l (fA ((x::r).takeWhile aJ)) i++bM l n (i+((x::r).takeWhile aJ).length) false ((x::r).dropWhile aJ)
  else if eO x=true then (if behind=true then [] else [⟨aG l 8 jH,i,0⟩])++⟨aG l 7 [x.ch],i,1⟩::bM l n (i+1) true r
  else if gD x=true then ⟨aG l 6 [x.ch],i,1⟩::bM l n (i+1) false r
  else ⟨aG l 8 (cM x),i,1⟩::bM l n (i+1) false r
def bI (l:List Rl) (t:List Tk):List Pc:=bM l t.length 0 false t
def dD (l:List Rl) (t:List Tk):Option (List Pc) :=
 if t.all aJ=true then match cI l 5 (bL (fA t)) with
  | none=>none
  | some k=>match aO (fA t) with
   | 1=>some [⟨k,0,t.length⟩]
   | 2=>some [⟨aG l 8 eW,0,0⟩,⟨k,0,t.length⟩]
   | 3=>some [⟨aG l 8 cV,0,0⟩,⟨k,0,t.length⟩]
   | _=>none
 else none
def cC (l:List Rl) (p:List Pc):List Nat:=if p.all (fun x=>decide (x.rule<l.length))=true then p.flatMap fun x=>(l[x.rule]?.map (·.cells)).getD [] else []
def jU (l:List Rl) (c:List Nat):Bool :=
 let cap:=fN l eW
 let caps:=fN l cV
 let d:=if cap.isPrefixOf c=true then c.drop cap.length else if caps.isPrefixOf c=true then c.drop caps.length else c
 (cZ l d).isSome
def j6 (l:List Rl) (t:List Tk):List Pc:=match dD l t with
 | some p=>p
 | none=>if jU l (cC l (bI l t))=true then ⟨aG l 8 eX,0,0⟩::bI l t else bI l t
def jI (row:Int) (x:Rl):Int :=
 if x.aE≤4 then 2 else if x.aE=7 then 3 else if x.aE=8 then (if x.left=eW∨x.left=cV then row else if x.left=jH then 3 else 1) else 1
def gQ:Int→List Rl→Prop
 | _,[]=>True
 | row,x::r=>iL x row=true∧gQ (jI row x) r
theorem G7 {l:List Rl} (A:j5 l) (hc:∀ x ∈ l,x.cells≠[]):∀ (xs ys:List Rl) (row:Int),(∀ x ∈ xs,x ∈ l)→(∀ y ∈ ys,y ∈ l)→gQ row xs→gQ row ys→bV xs=bV ys→xs=ys
 | [],[],_,_,_,_,_,_=>rfl
 | [],y::ys,_,_,hy,_,_,h=>by
  have:y.cells=[]:=by
   unfold bV at h
   rw[List.flatMap_nil,List.flatMap_cons]at h
   exact(List.append_eq_nil_iff.1 h.symm).1
  exact absurd this (hc y (hy y (List.mem_cons_self ..)))
 | x::xs,[],_,hx,_,_,_,h=>by
  have:x.cells=[]:=by
   unfold bV at h
   rw[List.flatMap_nil,List.flatMap_cons]at h
   exact(List.append_eq_nil_iff.1 h).1
  exact absurd this (hc x (hx x (List.mem_cons_self ..)))
 | x::xs,y::ys,row,hx,hy,rx,ry,h=>by
  have h:x.cells++bV xs=y.cells++bV ys:=h
  have e:x=y:=D7 A (hx x (List.mem_cons_self ..)) (hy y (List.mem_cons_self ..)) rx.1 ry.1 (xO (b:=bV xs) (d:=bV ys) (by rw[h];exact List.prefix_rfl))
  subst e
  rw[G7 A hc xs ys _ (fun z hz=>hx z (List.mem_cons_of_mem _ hz)) (fun z hz=>hy z (List.mem_cons_of_mem _ hz)) rx.2 ry.2 (List.append_cancel_left h)]
def rN (c:Nat) (s:List Nat):List Nat:=match c,s with
 | 0,s=>s
 | 1,[]=>[]
 | 1,a::s=>upN a::s
 | _,s=>s.map upN
def gB:Nat→List Rl→List (Int × Nat)
 | _,[]=>[]
 | c,x::r =>
  if x.aE≤4 then (rN c x.left).map (fun a=>(1,a))++gB (if c=2 then 2 else 0) r
  else if x.aE=8 then
   if x.left=eW then gB 1 r else if x.left=cV then gB 2 r
   else if x.left=jH∨x.left=eX then gB 0 r
   else (if x.left.tail=[43] then 2 else 3,x.left.headD 0)::gB 0 r
  else (1,x.left.headD 0)::gB 0 r
theorem fW (c:Nat) (x:Rl) (r:List Rl):gB c (x::r)=if x.aE≤4 then (rN c x.left).map (fun a=>((1:Int),a))++gB (if c=2 then 2 else 0) r
  else if x.aE=8 then
   (if x.left=eW then gB 1 r else if x.left=cV then gB 2 r
   else if x.left=jH∨x.left=eX then gB 0 r
   else (if x.left.tail=[43] then 2 else 3,x.left.headD 0)::gB 0 r)
  else (1,x.left.headD 0)::gB 0 r:=rfl
def bD (l:List Rl) (p:List Pc):List Rl:=p.filterMap fun x=>l[x.rule]?
theorem mB (l:List Rl) (p q:List Pc):bD l (p++q)=bD l p++bD l q:=by unfold bD;rw[List.filterMap_append]
theorem aL {l:List Rl} {x:Pc} {y:Rl} (h:l[x.rule]?=some y) (q:List Pc):bD l (x::q)=y::bD l q:=List.filterMap_cons_some (f:=fun x:Pc=>l[x.rule]?) h
theorem eA {l:List Rl} {p:List Pc}:∀ x ∈ bD l p,x ∈ l:=fun x hx=>by
 unfold bD at hx
 obtain⟨y,-,h⟩:=List.mem_filterMap.1 hx
 exact List.mem_of_getElem? h
def VI (R:List Rl):Prop:=∀ x r,R=x::r→(x.aE=6∨x.aE=8)∧x.left≠eW∧x.left≠cV
theorem VI.gB {R:List Rl} (h:VI R) (c:Nat):gB c R=gB 0 R:=by
 cases R with
 | nil=>rfl
 | cons x r =>
  obtain⟨h1,-,-⟩:=h x r rfl
  have n4:¬ x.aE≤4:=by omega
  rw[fW c,fW 0,if_neg n4,if_neg n4]
theorem VJ {pr:List Nat→Option (List Nat)} {l:List Rl} (A:Acc pr l) {w:Int × List Nat} (hw:w ∈ fM):∃ k x,cI l w.1 w.2=some k∧l[k]?=some x∧x.aE=w.1∧x.left=w.2:=by
 have hm:=A.all
 unfold lP at hm
 have hh:hasB l w=true:=by
  cases hb:hasB l w with
  | true=>rfl
  | false =>
   cases hf:fM.find? fun w=>!hasB l w with
   | none =>
    have:=List.find?_eq_none.1 hf _ hw
    rw[hb]at this
    exact absurd rfl this
   | some v =>
    rw[hf]at hm
    have hwm:=List.mem_of_find?_eq_some hf
    have ne:∀ w ∈ fM,w.2≠[]:=by decide +kernel
    exact absurd hm (ne v hwm)
 unfold hasB at hh
 obtain⟨x,hx,hd⟩:=List.any_eq_true.1 hh
 obtain⟨d1,d2⟩:=of_decide_eq_true hd
 obtain⟨k,hk,e⟩:=List.getElem_of_mem hx
 have hk2:l[k]?=some x:=by rw[← e];exact List.getElem?_eq_getElem hk
 refine⟨k,x,?_,hk2,d1,d2⟩
 rw[← d1,← d2]
 exact O8 A.apart hk2
theorem cF:∀ s ∈ bX,((8:Int),s) ∈ fM:=by decide +kernel
theorem qA:∀ c ∈ Ka.fZ,((6:Int),[c]) ∈ fM:=by decide +kernel
theorem yO:∀ i:Fin 10,((7:Int),[48+i.val]) ∈ fM:=by decide +kernel
theorem bS {pr:List Nat→Option (List Nat)} {l:List Rl} (A:Acc pr l) {w:Int × List Nat} (hw:w ∈ fM):∃ x,l[aG l w.1 w.2]?=some x∧x.aE=w.1∧x.left=w.2:=by
 obtain⟨k,x,h1,h2,h3,h4⟩:=VJ A hw
 refine⟨x,?_,h3,h4⟩
 unfold aG
 rw[h1]
 exact h2
theorem sQ {x:Tk} (h:jG x=true) (h1:aJ x=false) (h2:eO x=false) (h3:gD x=false):cM x ∈ bX∧cM x≠eW∧cM x≠cV∧cM x≠jH∧cM x≠eX∧(if (cM x).tail=[43] then (2:Int) else 3,(cM x).headD 0)=bare x:=by
 unfold jG at h
 rw[h1,h2,h3]at h
 obtain⟨kd,ch,pl⟩:=x
 unfold cM bare at *
 simp only[]at h ⊢
 by_cases hc:ch=101∨ch=115∨ch=110
 ·rw[if_pos hc]at h ⊢
  by_cases hk:kd=2
  ·subst hk
   rw[if_pos rfl]at h ⊢
   rcases hc with rfl | rfl | rfl<;>decide
  ·rw[if_neg hk]at h ⊢
   by_cases hk3:kd=3
   ·subst hk3
    rw[if_pos rfl]at h ⊢
    rcases hc with rfl | rfl | rfl<;>decide
   ·rw[if_neg hk3]at h
    exact absurd h (by decide)
 ·rw[if_neg hc]at h
  exact absurd h (by decide)
end Go.Proofs.YthbigkoihpgcfaaGreatDoor.Cu
namespace Go.Proofs.YthbigkoihpgcfaaGreatDoor.Cu
open Go.RowKit Ba Ru Ck Ti Pa Fl
def gE (s:List Nat):Prop:=∀ c ∈ s,aW c=true∨aQ c=true
theorem iQ {c:Nat} (h:aW c=true):aQ c=false:=by
 have:=of_decide_eq_true h
 exact decide_eq_false (by omega)
theorem B6 {c:Nat} (h:aQ c=false):iP c=c:=by
 have:=of_decide_eq_false h
 unfold iP
 rw[if_neg this]
theorem MA {c:Nat} (h:aQ c=true):upN (iP c)=c:=by
 have:=of_decide_eq_true h
 unfold iP upN
 rw[if_pos this]
 omega
theorem jC {s:List Nat} (h:gE s) (hne:s≠[]):jJ (bL s)=true:=by
 unfold jJ bL
 rw[Bool.and_eq_true,List.all_eq_true]
 refine⟨by cases s with
  | nil=>exact absurd rfl hne
  | cons a b=>rfl,fun c hc=>?_⟩
 obtain⟨d,hd,rfl⟩:=List.mem_map.1 hc
 rcases h d hd with hs | hs
 ·rw[B6 (iQ hs)];exact hs
 ·have:=of_decide_eq_true hs
  unfold iP
  rw[if_pos this]
  exact decide_eq_true (by omega)
theorem aT (s:List Nat):(bL s).length=s.length:=List.length_map ..
theorem Q8 (s:List Nat) (p n:Nat):((bL s).drop p).take n=bL ((s.drop p).take n):=by unfold bL;rw[List.map_take,List.map_drop]
theorem qB {s:List Nat} (h:∀ c ∈ s,aQ c=false):bL s=s:=by
 unfold bL
 conv=>rhs;rw[← List.map_id s]
 exact List.map_congr_left fun c hc=>B6 (h c hc)
theorem O9 {s:List Nat} (h:∀ c ∈ s,aQ c=true):(bL s).map upN=s:=by
 unfold bL
 rw[List.map_map]
 conv=>rhs;rw[← List.map_id s]
 exact List.map_congr_left fun c hc=>MA (h c hc)
def rowAt (p:Nat):Int:=if p=0 then 1 else 2
theorem yP {l:List Rl} {s:List Nat} {p:Nat} {most:Int} {k:Nat} {x:Rl} (h:Best l s (p:Int) most k x):iL x (rowAt p)=true∧1≤x.aE∧x.aE≤4:=by
 obtain⟨-,-,-,-,-,-,hw⟩:=eP h.mQ
 have hw:=of_decide_eq_true hw
 refine⟨?_,by omega⟩
 unfold iL rowAt
 by_cases hp:p=0
 ·rw[if_pos hp,decide_eq_true (p:=(1:Int)≤1∧(1:Int)≤3) (by omega),if_pos rfl,decide_eq_true (p:=x.aE=1∨x.aE=2) (by omega)]
  simp
 ·rw[if_neg hp,decide_eq_true (p:=(1:Int)≤2∧(2:Int)≤3) (by omega),if_neg (by decide),if_pos rfl,decide_eq_true (p:=x.aE=1∨x.aE=3∨x.aE=4) (by omega)]
  simp
theorem kK {p:Nat} (h:0<p):rowAt p=2:=if_neg (by omega)
theorem nQ {x:Rl} (h:x.aE≤4) (row:Int):jI row x=2:=if_pos h
theorem nR {x:Rl} (h:x.aE≤4) (c:Nat) (R:List Rl):gB c (x::R)=(rN c x.left).map (fun a=>((1:Int),a))++gB (if c=2 then 2 else 0) R:=by
 rw[fW,if_pos h]
theorem VK {x:Rl} (h:x.aE=8) (hl:x.left=eW) (c:Nat) (R:List Rl):gB c (x::R)=gB 1 R:=by
 rw[fW,if_neg (show ¬ x.aE≤4 by omega),if_pos h,if_pos hl]
theorem Q9 {x:Rl} (h:x.aE=8) (hl:x.left=cV) (c:Nat) (R:List Rl):gB c (x::R)=gB 2 R:=by
 rw[fW,if_neg (show ¬ x.aE≤4 by omega),if_pos h,if_neg (by rw[hl];decide),if_pos hl]
theorem B8 {x:Rl} (h:x.aE=8) (hl:x.left=jH∨x.left=eX) (c:Nat) (R:List Rl):gB c (x::R)=gB 0 R:=by
 have h1:x.left≠eW:=by rcases hl with hl | hl<;>rw[hl]<;>decide
 have h2:x.left≠cV:=by rcases hl with hl | hl<;>rw[hl]<;>decide
 rw[fW,if_neg (show ¬ x.aE≤4 by omega),if_pos h,if_neg h1,if_neg h2,if_pos hl]
theorem CA {s:List Nat} {l:List Rl} {p:Nat} {most:Int} {k:Nat} {x:Rl} (h:Best l (bL s) (p:Int) most k x):x.left=bL ((s.drop p).take x.left.length):=by
 rw[← Q8]
 exact(aAR h.mQ).symm
section
variable {pr:List Nat→Option (List Nat)} {l:List Rl} (A:Acc pr l) {s:List Nat} (hs:gE s) (aR:Nat)
include A hs
theorem CB:∀ (n p:Nat),s.length - p≤n→p≤s.length→(∀ c ∈ s.drop p,aQ c=true)→∀ R,VI R →
  gB 2 (bD l (a8 l aR (gZ l (bL s) (p:Int)) p)++R)=(s.drop p).map (fun a=>((1:Int),a))++gB 0 R∧(gQ 2 R→(p=s.length→0<p)→gQ (rowAt p) (bD l (a8 l aR (gZ l (bL s) (p:Int)) p)++R))
 | n,p,hn,hp,hc,R,hR=>by
  by_cases hlt:p<s.length
  ·obtain⟨n,rfl⟩:∃ m,n=m+1:=⟨n - 1,by omega⟩
   have hne:s≠[]:=fun e=>by rw[e]at hlt;exact absurd hlt (by simp)
   obtain⟨k,x,h,-,ha,h0,hle⟩:=kW A (jC hs hne) (p:=p) (by rw[aT];exact hlt)
   rw[aT]at hle
   obtain⟨r1,r2,r3⟩:=yP h
   have hl:aK l k=x.left.length:=by unfold aK;rw[h.at'];rfl
   have ih:=CB n (p+x.left.length) (by omega) hle (fun c hc2=>hc c (by
    rw[show s.drop (p+x.left.length)=(s.drop p).drop x.left.length by rw[List.drop_drop]]at hc2
    exact List.mem_of_mem_drop hc2)) R hR
   rw[ha]
   show gB 2 (bD l (⟨k,aR+p,aK l k⟩::a8 l aR _ (p+aK l k))++R)=_∧(_→_→gQ (rowAt p) (bD l (⟨k,aR+p,aK l k⟩::a8 l aR _ (p+aK l k))++R))
   rw[aL (x:=⟨k,aR+p,aK l k⟩) h.at',hl,List.cons_append,nR r3,if_pos rfl,ih.1]
   refine⟨?_,fun hr _=>⟨r1,?_⟩⟩
   ·have e:rN 2 x.left=(s.drop p).take x.left.length:=by
     have:=CA h
     show x.left.map upN=_
     rw[this,O9 fun c hc2=>hc c (List.mem_of_mem_take hc2)]
     rw[← this]
    rw[e,← List.append_assoc,← List.map_append]
    congr 2
    rw[show s.drop (p+x.left.length)=(s.drop p).drop x.left.length by rw[List.drop_drop],List.take_append_drop]
   ·rw[nQ r3]
    have:=ih.2 hr (fun _=>by omega)
    rw[kK (by omega)]at this
    exact this
  ·obtain rfl:p=s.length:=by omega
   have ha:gZ l (bL s) (s.length:Int)=[]:=lT (by rw[aT];omega)
   rw[ha,List.drop_length]
   refine⟨hR.gB 2,fun hr h0=>?_⟩
   rw[kK (h0 rfl)]
   exact hr
omit A hs in
theorem sR {p:Nat} (hp:p<s.length):0<eB s p:=by
 unfold eB
 rw[List.drop_eq_getElem_cons hp]
 show 0<if _ then _ else _
 by_cases h:aQ s[p]=true
 ·rw[if_pos h];omega
 ·rw[if_neg h,List.takeWhile_cons_of_pos (by simpa using h)]
  simp
omit A hs in
theorem yQ {p:Nat} (h:aO (s.drop p)=3):∀ c ∈ s.drop p,aQ c=true:=by
 unfold aO at h
 split at h
 ·cases h
 ·split at h
  ·cases h
  ·split at h
   ·cases h
   ·split at h
    ·rename_i hk
     exact List.all_eq_true.1 hk
    ·cases h
omit A hs in
theorem RA {p:Nat} (hp:p<s.length) {k:Nat} {x:Rl} (h:Best l (bL s) (p:Int) (eB s p:Int) k x):rN (if aQ (s.getD p 0)=true then 1 else 0) x.left=(s.drop p).take x.left.length:=by
 have hl:=CA h
 obtain⟨-,-,-,-,hm,-,-⟩:=eP h.mQ
 have h0:=(jK h.mQ).2
 have hd:=List.drop_eq_getElem_cons hp
 have hg:s.getD p 0=s[p]:=by rw[List.getD_eq_getElem?_getD,List.getElem?_eq_getElem hp];rfl
 rw[hg]
 unfold eB at hm
 rw[hd]at hm
 simp only[]at hm
 obtain⟨m,hxm⟩:∃ m,x.left.length=m+1:=⟨x.left.length - 1,by omega⟩
 by_cases hcap:aQ s[p]=true
 ·rw[if_pos hcap]at hm ⊢
  rw[hxm]at hm ⊢
  rw[hxm,hd,List.take_succ_cons]at hl
  rw[hd,List.take_succ_cons]
  have hm:m≤((s.drop (p+1)).takeWhile fun c=>!aQ c).length:=by omega
  have hsm:∀ c ∈ (s.drop (p+1)).take m,aQ c=false:=fun c hc=>by
   have hpre:(s.drop (p+1)).take m <+: (s.drop (p+1)).takeWhile fun c=>!aQ c:=List.prefix_of_prefix_length_le (List.take_prefix _ _) (List.takeWhile_prefix _) (by rw[List.length_take];omega)
   have:=List.all_eq_true.1 List.all_takeWhile c (hpre.subset hc)
   simpa using this
  rw[hl]
  show rN 1 (iP s[p]::bL ((s.drop (p+1)).take m))=_
  show upN (iP s[p])::bL ((s.drop (p+1)).take m)=_
  rw[MA hcap,qB hsm]
 ·rw[if_neg hcap]at hm ⊢
  have hsm:∀ c ∈ (s.drop p).take x.left.length,aQ c=false:=fun c hc=>by
   have hpre:(s.drop p).take x.left.length <+: (s.drop p).takeWhile fun c=>!aQ c:=List.prefix_of_prefix_length_le (List.take_prefix _ _) (List.takeWhile_prefix _) (by rw[List.length_take,hd];omega)
   have:=List.all_eq_true.1 List.all_takeWhile c (hpre.subset hc)
   simpa using this
  rw[qB hsm]at hl
  exact hl
theorem xR:∀ (n p:Nat),s.length - p≤n→p≤s.length→∀ R,VI R →
  gB 0 (bD l (fL l s aR n p)++R)=(s.drop p).map (fun a=>((1:Int),a))++gB 0 R∧(gQ 2 R→(p=s.length→0<p)→gQ (rowAt p) (bD l (fL l s aR n p)++R))
 | 0,p,hn,hp,R,hR=>by
  obtain rfl:p=s.length:=by omega
  rw[List.drop_length]
  exact⟨rfl,fun hr h0=>by rw[kK (h0 rfl)];exact hr⟩
 | n+1,p,hn,hp,R,hR=>by
  by_cases hlt:p<s.length
  ·have hne:s≠[]:=fun e=>by rw[e]at hlt;exact absurd hlt (by simp)
   by_cases hcs:aO (s.drop p)=3
   ·obtain⟨y,y1,y2,y3⟩:=bS A (cF cV (by decide))
    have e:fL l s aR (n+1) p=⟨aG l 8 cV,aR+p,0⟩::a8 l aR (gZ l (bL s) (p:Int)) p:=by
     show (if p<s.length then _ else _)=_
     rw[if_pos hlt,if_pos hcs]
    have hP:=CB A hs aR s.length p (by omega) hp (yQ hcs) R hR
    rw[e,aL (x:=⟨aG l 8 cV,aR+p,0⟩) y1,List.cons_append,Q9 y2 y3]
    refine⟨hP.1,fun hr h0=>⟨?_,?_⟩⟩
    ·unfold iL rowAt
     rw[decide_eq_true (p:=y.aE=6∨y.aE=8) (.inr y2)]
     by_cases h:p=0
     ·rw[if_pos h];rfl
     ·rw[if_neg h];rfl
    ·have e2:jI (rowAt p) y=rowAt p:=by
      unfold jI
      rw[if_neg (show ¬ y.aE≤4 by have:y.aE=8:=y2;omega),if_neg (show ¬ y.aE=7 by have:y.aE=8:=y2;omega),if_pos y2,if_pos (.inr y3)]
     rw[e2]
     exact hP.2 hr h0
   ·obtain⟨k,x,hb,h⟩:=iR A (jC hs hne) (p:=p) (by rw[aT];exact hlt) (most:=(eB s p:Int)) (by have:=sR hlt;omega)
    have hl:aK l k=x.left.length:=by unfold aK;rw[h.at'];rfl
    have hlen:=jK h.mQ
    rw[aT]at hlen
    obtain⟨r1,r2,r3⟩:=yP h
    have ih:=xR n (p+x.left.length) (by omega) (by omega) R hR
    have hsay:=RA hlt h
    have htd:(s.drop p).take x.left.length++s.drop (p+x.left.length)=s.drop p:=by
     rw[show s.drop (p+x.left.length)=(s.drop p).drop x.left.length by rw[List.drop_drop],List.take_append_drop]
    have e:fL l s aR (n+1) p=(if aQ (s.getD p 0)=true then [⟨aG l 8 eW,aR+p,0⟩] else [])++⟨k,aR+p,aK l k⟩::fL l s aR n (p+aK l k):=by
     show (if p<s.length then _ else _)=_
     rw[if_pos hlt,if_neg hcs,hb]
    rw[e,hl]
    by_cases hcap:aQ (s.getD p 0)=true
    ·rw[if_pos hcap]at hsay ⊢
     obtain⟨y,y1,y2,y3⟩:=bS A (cF eW (by decide))
     rw[List.cons_append,List.nil_append,aL (x:=⟨aG l 8 eW,aR+p,0⟩) y1,aL (x:=⟨k,aR+p,x.left.length⟩) h.at',List.cons_append,List.cons_append,VK y2 y3,nR r3,if_neg (by decide),hsay,ih.1]
     refine⟨by rw[← List.append_assoc,← List.map_append,htd],fun hr _=>⟨?_,?_⟩⟩
     ·unfold iL rowAt
      rw[decide_eq_true (p:=y.aE=6∨y.aE=8) (.inr y2)]
      by_cases h:p=0
      ·rw[if_pos h];rfl
      ·rw[if_neg h];rfl
     ·have e2:jI (rowAt p) y=rowAt p:=by
       unfold jI
       rw[if_neg (show ¬ y.aE≤4 by have:y.aE=8:=y2;omega),if_neg (show ¬ y.aE=7 by have:y.aE=8:=y2;omega),if_pos y2,if_pos (.inl y3)]
      rw[e2]
      refine⟨r1,?_⟩
      rw[nQ r3]
      have:=ih.2 hr (fun _=>by omega)
      rw[kK (by omega)]at this
      exact this
    ·rw[if_neg hcap]at hsay ⊢
     rw[List.nil_append,aL (x:=⟨k,aR+p,x.left.length⟩) h.at',List.cons_append,nR r3,if_neg (by decide),hsay,ih.1]
     refine⟨by rw[← List.append_assoc,← List.map_append,htd],fun hr _=>⟨r1,?_⟩⟩
     rw[nQ r3]
     have:=ih.2 hr (fun _=>by omega)
     rw[kK (by omega)]at this
     exact this
  ·obtain rfl:p=s.length:=by omega
   have e:fL l s aR (n+1) s.length=[]:=by
    show (if s.length<s.length then _ else _)=_
    rw[if_neg (Nat.lt_irrefl _)]
   rw[e,List.drop_length]
   exact⟨rfl,fun hr h0=>by rw[kK (h0 rfl)];exact hr⟩
end
end Go.Proofs.YthbigkoihpgcfaaGreatDoor.Cu
namespace Go.Proofs.YthbigkoihpgcfaaGreatDoor.Cu
open Go.RowKit Ba Ru Ck Ti Pa Fl
theorem mR {t:List Tk} (h:t.all aJ=true):gE (fA t):=fun c hc=>by
 obtain⟨x,hx,rfl⟩:=List.mem_map.1 hc
 have:=List.all_eq_true.1 h x hx
 unfold aJ mA BG at this
 rw[Bool.or_eq_true,Bool.and_eq_true,Bool.and_eq_true]at this
 rcases this with⟨-,h⟩ | ⟨-,h⟩
 ·exact .inl h
 ·exact .inr h
theorem uO {t:List Tk} (h:t.all aJ=true):(fA t).map (fun a=>((1:Int),a))=t.map bare:=by
 unfold fA
 rw[List.map_map]
 refine List.map_congr_left fun x hx=>?_
 have:=List.all_eq_true.1 h x hx
 unfold aJ mA BG at this
 rw[Bool.or_eq_true,Bool.and_eq_true,Bool.and_eq_true]at this
 have hk:x.kind=1:=by rcases this with⟨h,-⟩ | ⟨h,-⟩<;>exact of_decide_eq_true h
 unfold bare
 show ((1:Int),x.ch)=_
 rw[hk]
theorem gF (p:Tk→Bool) (t:List Tk):(t.takeWhile p).all p=true:=List.all_takeWhile
section
variable {pr:List Nat→Option (List Nat)} {l:List Rl} (A:Acc pr l)
include A
omit A in
theorem mS {i:Nat} {behind:Bool} {x:Tk} {r:List Tk} {n:Nat}:bM l (n+1) i behind (x::r) =
  if aJ x=true then (if behind=true then [⟨aG l 8 eX,i,0⟩] else [])++runN l (fA ((x::r).takeWhile aJ)) i++bM l n (i+((x::r).takeWhile aJ).length) false ((x::r).dropWhile aJ)
  else if eO x=true then (if behind=true then [] else [⟨aG l 8 jH,i,0⟩])++⟨aG l 7 [x.ch],i,1⟩::bM l n (i+1) true r
  else if gD x=true then ⟨aG l 6 [x.ch],i,1⟩::bM l n (i+1) false r
  else ⟨aG l 8 (cM x),i,1⟩::bM l n (i+1) false r:=rfl
theorem MB:∀ (n i:Nat) (t:List Tk),bB t=true→(∀ x r,t=x::r→aJ x=false)→VI (bD l (bM l n i false t))
 | 0,_,_,_,_=>fun x r h=>by cases h
 | n+1,_,[],_,_=>fun x r h=>by cases h
 | n+1,i,x::t,hc,hl=>by
  have hx:=hl x t rfl
  have hcx:jG x=true:=List.all_eq_true.1 hc x (List.mem_cons_self ..)
  rw[mS,if_neg (by rw[hx];decide)]
  by_cases hd:eO x=true
  ·obtain⟨y,y1,y2,y3⟩:=bS A (cF jH (by decide))
   rw[if_pos hd,if_neg (by decide),List.cons_append,aL (x:=⟨aG l 8 jH,i,0⟩) y1]
   intro z r h
   injection h with h _
   subst h
   exact⟨.inr y2,by rw[y3];decide,by rw[y3];decide⟩
  ·rw[if_neg hd]
   by_cases hm:gD x=true
   ·have hmm:x.ch ∈ Ka.fZ:=by
     unfold gD at hm
     rw[Bool.and_eq_true]at hm
     exact List.contains_iff_mem.1 hm.2
    obtain⟨y,y1,y2,y3⟩:=bS A (qA x.ch hmm)
    rw[if_pos hm,aL (x:=⟨aG l 6 [x.ch],i,1⟩) y1]
    intro z r h
    injection h with h _
    subst h
    exact⟨.inl y2,by rw[y3];simp[eW],by rw[y3];simp[cV]⟩
   ·rw[if_neg hm]
    obtain⟨n1,n2,n3,-⟩:=sQ hcx hx (by simpa using hd) (by simpa using hm)
    obtain⟨y,y1,y2,y3⟩:=bS A (cF (cM x) n1)
    rw[aL (x:=⟨aG l 8 (cM x),i,1⟩) y1]
    intro z r h
    injection h with h _
    subst h
    exact⟨.inr y2,by rw[y3];exact n2,by rw[y3];exact n3⟩
omit A in
theorem kC {y:Rl} (h:y.aE=6∨y.aE=8) {row:Int} (hr:1≤row∧row≤3):iL y row=true:=by
 unfold iL
 rw[decide_eq_true hr,decide_eq_true h]
 rfl
theorem qC:∀ (n i:Nat) (behind:Bool) (t:List Tk),t.length≤n→bB t=true →
  gB 0 (bD l (bM l n i behind t))=t.map bare∧∀ row:Int,(behind=true→row=3)→(behind=false→row=1∨row=2∧∀ x r,t=x::r→aJ x=false)→gQ row (bD l (bM l n i behind t))
 | 0,i,behind,t,hn,_=>by
  have:t=[]:=List.length_eq_zero_iff.1 (by omega)
  subst this
  exact⟨rfl,fun _ _ _=>trivial⟩
 | n+1,i,behind,[],_,_=>⟨rfl,fun _ _ _=>trivial⟩
 | n+1,i,behind,x::t,hn,hc=>by
  have hcx:jG x=true:=List.all_eq_true.1 hc x (List.mem_cons_self ..)
  have hct:bB t=true:=List.all_eq_true.2 fun y hy=>List.all_eq_true.1 hc y (List.mem_cons_of_mem _ hy)
  have hn:t.length≤n:=by simpa using hn
  rw[mS]
  by_cases hx:aJ x=true
  ·rw[if_pos hx]
   have hsplit:(x::t).takeWhile aJ++(x::t).dropWhile aJ=x::t:=List.takeWhile_append_dropWhile
   have htw:(x::t).takeWhile aJ=x::t.takeWhile aJ:=List.takeWhile_cons_of_pos hx
   have hdw:(x::t).dropWhile aJ=t.dropWhile aJ:=List.dropWhile_cons_of_pos hx
   have hall:=gF aJ (x::t)
   have hls:=mR hall
   have hdl:((x::t).dropWhile aJ).length≤n:=by
    rw[hdw]
    exact Nat.le_trans (List.dropWhile_sublist _).length_le hn
   have hdc:bB ((x::t).dropWhile aJ)=true:=List.all_eq_true.2 fun y hy=>List.all_eq_true.1 hc y ((List.dropWhile_sublist _).subset hy)
   have hhead:∀ y r,(x::t).dropWhile aJ=y::r→aJ y=false:=fun y r h=>by
    have:=List.head?_dropWhile_not aJ (x::t)
    rw[h]at this
    simpa using this
   have hfree:=MB A n (i+((x::t).takeWhile aJ).length) ((x::t).dropWhile aJ) hdc hhead
   obtain⟨ih1,ih2⟩:=qC n (i+((x::t).takeWhile aJ).length) false ((x::t).dropWhile aJ) hdl hdc
   have hlen:0<(fA ((x::t).takeWhile aJ)).length:=by rw[htw];unfold fA;simp
   obtain⟨q1,q2⟩:=xR A hls i (fA ((x::t).takeWhile aJ)).length 0 (by omega) (Nat.zero_le _) _ hfree
   rw[List.drop_zero,uO hall,ih1,← List.map_append,hsplit]at q1
   have q2:=q2 (ih2 2 (fun h=>by cases h) (fun _=>.inr ⟨rfl,hhead⟩)) (fun h=>by omega)
   cases behind with
   | false =>
    rw[if_neg (by decide),List.nil_append,mB]
    refine⟨q1,fun row _ hr=>?_⟩
    rcases hr rfl with rfl | ⟨-,h⟩
    ·exact q2
    ·rw[h x t rfl]at hx;cases hx
   | true =>
    obtain⟨y,y1,y2,y3⟩:=bS A (cF eX (by decide))
    rw[if_pos rfl,List.append_assoc,List.cons_append,List.nil_append,aL (x:=⟨aG l 8 eX,i,0⟩) y1,mB,B8 y2 (.inr y3)]
    refine⟨q1,fun row hr _=>?_⟩
    have hr:=hr rfl
    refine⟨kC (.inr y2) (by omega),?_⟩
    have e2:jI row y=1:=by
     unfold jI
     have y8:y.aE=8:=y2
     rw[if_neg (by omega),if_neg (by omega),if_pos y8,if_neg (by rw[show y.left=eX from y3];decide),if_neg (by rw[show y.left=eX from y3];decide)]
    rw[e2]
    exact q2
  ·have hx:aJ x=false:=by simpa using hx
   rw[if_neg (by rw[hx];decide)]
   by_cases hd:eO x=true
   ·have hdd:x.kind=1∧48≤x.ch∧x.ch≤57:=by
     unfold eO at hd
     rw[Bool.and_eq_true]at hd
     exact⟨of_decide_eq_true hd.1,of_decide_eq_true hd.2⟩
    have hw:=yO ⟨x.ch - 48,by omega⟩
    simp only[]at hw
    rw[show 48+(x.ch - 48)=x.ch by omega]at hw
    obtain⟨y,y1,y2,y3⟩:=bS A hw
    have y7:y.aE=7:=y2
    have yl:y.left=[x.ch]:=y3
    obtain⟨ih1,ih2⟩:=qC n (i+1) true t hn hct
    have hb:bare x=(1,x.ch):=by unfold bare;rw[hdd.1]
    have hdy:∀ c,gB c (y::bD l (bM l n (i+1) true t))=(x::t).map bare:=fun c=>by
     rw[fW,if_neg (show ¬ y.aE≤4 by omega),if_neg (show ¬ y.aE=8 by omega),yl,ih1,List.map_cons,hb]
     rfl
    have hry:∀ row:Int,row=3→gQ row (y::bD l (bM l n (i+1) true t)):=fun row hr=>by
     subst hr
     refine⟨?_,?_⟩
     ·unfold iL
      rw[y7];decide
     ·have e2:jI 3 y=3:=by unfold jI;rw[if_neg (by omega),if_pos y7]
      rw[e2]
      exact ih2 3 (fun _=>rfl) (fun h=>by cases h)
    rw[if_pos hd]
    cases behind with
    | true =>
     rw[if_pos rfl,List.nil_append,aL (x:=⟨aG l 7 [x.ch],i,1⟩) y1]
     exact⟨hdy 0,fun row hr _=>hry row (hr rfl)⟩
    | false =>
     obtain⟨z,z1,z2,z3⟩:=bS A (cF jH (by decide))
     have z8:z.aE=8:=z2
     rw[if_neg (by decide),List.cons_append,List.nil_append,aL (x:=⟨aG l 8 jH,i,0⟩) z1,aL (x:=⟨aG l 7 [x.ch],i,1⟩) y1,B8 z2 (.inl z3)]
     refine⟨hdy 0,fun row _ hr=>?_⟩
     have hr3:1≤row∧row≤3:=by rcases hr rfl with rfl | ⟨rfl,-⟩<;>omega
     refine⟨kC (.inr z2) hr3,hry _ ?_⟩
     unfold jI
     rw[if_neg (by omega),if_neg (by omega),if_pos z8,if_neg (by rw[show z.left=jH from z3];decide),if_pos z3]
   ·rw[if_neg hd]
    obtain⟨ih1,ih2⟩:=qC n (i+1) false t hn hct
    have ihr:=ih2 1 (fun h=>by cases h) (fun _=>.inl rfl)
    have hr3:∀ row:Int,(behind=true→row=3)→(behind=false→row=1∨row=2∧∀ z r,x::t=z::r→aJ z=false)→1≤row∧row≤3:=fun row h1 h2=>by
     cases behind with
     | true=>have:=h1 rfl;omega
     | false=>rcases h2 rfl with h | ⟨h,-⟩<;>omega
    by_cases hm:gD x=true
    ·have hmm:x.kind=1∧x.ch ∈ Ka.fZ:=by
      unfold gD at hm
      rw[Bool.and_eq_true]at hm
      exact⟨of_decide_eq_true hm.1,List.contains_iff_mem.1 hm.2⟩
     obtain⟨y,y1,y2,y3⟩:=bS A (qA x.ch hmm.2)
     have y6:y.aE=6:=y2
     have yl:y.left=[x.ch]:=y3
     rw[if_pos hm,aL (x:=⟨aG l 6 [x.ch],i,1⟩) y1]
     refine⟨?_,fun row h1 h2=>⟨kC (.inl y2) (hr3 row h1 h2),?_⟩⟩
     ·rw[fW,if_neg (show ¬ y.aE≤4 by omega),if_neg (show ¬ y.aE=8 by omega),yl,ih1,List.map_cons]
      have hb:bare x=(1,x.ch):=by unfold bare;rw[hmm.1]
      rw[hb]
      rfl
     ·have e2:jI row y=1:=by unfold jI;rw[if_neg (by omega),if_neg (by omega),if_neg (by omega)]
      rw[e2]
      exact ihr
    ·rw[if_neg hm]
     obtain⟨n1,n2,n3,n4,n5,n6⟩:=sQ hcx hx (by simpa using hd) (by simpa using hm)
     obtain⟨y,y1,y2,y3⟩:=bS A (cF (cM x) n1)
     have y8:y.aE=8:=y2
     have yl:y.left=cM x:=y3
     rw[aL (x:=⟨aG l 8 (cM x),i,1⟩) y1]
     refine⟨?_,fun row h1 h2=>⟨kC (.inr y2) (hr3 row h1 h2),?_⟩⟩
     ·rw[fW,if_neg (show ¬ y.aE≤4 by omega),if_pos y8,yl,if_neg n2,if_neg n3,if_neg (by rintro(h | h);exact n4 h;exact n5 h),n6,ih1,List.map_cons]
     ·have e2:jI row y=1:=by
       unfold jI
       rw[if_neg (by omega),if_neg (by omega),if_pos y8,yl,if_neg (by rintro(h | h);exact n2 h;exact n3 h),if_neg n4]
      rw[e2]
      exact ihr
theorem wF {t:List Tk} (h:bB t=true):gB 0 (bD l (bI l t))=t.map bare∧gQ 1 (bD l (bI l t)):=by
 obtain⟨h1,h2⟩:=qC A t.length 0 false t (Nat.le_refl _) h
 exact⟨h1,h2 1 (fun h=>by cases h) (fun _=>.inl rfl)⟩
end
end Go.Proofs.YthbigkoihpgcfaaGreatDoor.Cu
namespace Go.Proofs.YthbigkoihpgcfaaGreatDoor.Cu
open Go.RowKit Ba Ru Ck Ti Pa Fl
theorem yR (l:List Rl):∀ p:List Pc,(p.flatMap fun x=>(l[x.rule]?.map (·.cells)).getD [])=bV (bD l p)
 | []=>rfl
 | x::p=>by
  rw[List.flatMap_cons,yR l p]
  cases h:l[x.rule]? with
  | none =>
   have:bD l (x::p)=bD l p:=List.filterMap_cons_none (f:=fun x:Pc=>l[x.rule]?) h
   rw[this];rfl
  | some y =>
   rw[aL h]
   rfl
def Valid (l:List Rl) (p:List Pc):Prop:=∀ x ∈ p,x.rule<l.length
theorem jL {l:List Rl} {p:List Pc} (h:Valid l p):cC l p=bV (bD l p):=by
 unfold cC
 rw[if_pos (List.all_eq_true.2 fun x hx=>decide_eq_true (h x hx)),yR]
theorem Valid.nil (l:List Rl):Valid l []:=fun x hx=>by cases hx
theorem Valid.cons {l:List Rl} {x:Pc} {p:List Pc} {y:Rl} (hx:l[x.rule]?=some y) (hp:Valid l p):Valid l (x::p):=fun z hz=>by
 rcases List.mem_cons.1 hz with rfl | hz
 ·exact(List.getElem?_eq_some_iff.1 hx).1
 ·exact hp z hz
theorem Valid.append {l:List Rl} {p q:List Pc} (hp:Valid l p) (hq:Valid l q):Valid l (p++q):=fun z hz=>(List.mem_append.1 hz).elim (hp z) (hq z)
section
variable {pr:List Nat→Option (List Nat)} {l:List Rl} (A:Acc pr l)
include A
theorem wG {s:List Nat} (hs:gE s) (aR:Nat):∀ (n p:Nat),s.length - p≤n→Valid l (a8 l aR (gZ l (bL s) (p:Int)) p)
 | n,p,hn=>by
  by_cases hlt:p<s.length
  ·obtain⟨n,rfl⟩:∃ m,n=m+1:=⟨n - 1,by omega⟩
   have hne:s≠[]:=fun e=>by rw[e]at hlt;exact absurd hlt (by simp)
   obtain⟨k,x,h,-,ha,h0,-⟩:=kW A (jC hs hne) (p:=p) (by rw[aT];exact hlt)
   have hl:aK l k=x.left.length:=by unfold aK;rw[h.at'];rfl
   rw[ha]
   show Valid l (⟨k,aR+p,aK l k⟩::a8 l aR _ (p+aK l k))
   rw[hl]
   exact .cons (x:=⟨k,aR+p,x.left.length⟩) h.at' (wG hs aR n (p+x.left.length) (by omega))
  ·rw[lT (by rw[aT];omega)]
   exact .nil l
theorem CC {s:List Nat} (hs:gE s) (aR:Nat):∀ (n p:Nat),Valid l (fL l s aR n p)
 | 0,_=>.nil l
 | n+1,p=>by
  show Valid l (if p<s.length then _ else _)
  by_cases hlt:p<s.length
  ·rw[if_pos hlt]
   by_cases hcs:aO (s.drop p)=3
   ·rw[if_pos hcs]
    obtain⟨y,y1,-,-⟩:=bS A (cF cV (by decide))
    exact .cons (x:=⟨aG l 8 cV,aR+p,0⟩) y1 (wG A hs aR s.length p (by omega))
   ·rw[if_neg hcs]
    cases hb:dC l (bL s) (p:Int) (eB s p:Int) with
    | none=>exact .nil l
    | some k =>
     obtain⟨x,h⟩:=mT hb
     refine .append ?_ (.cons (x:=⟨k,aR+p,aK l k⟩) h.at' (CC hs aR n _))
     by_cases hcap:aQ (s.getD p 0)=true
     ·rw[if_pos hcap]
      obtain⟨y,y1,-,-⟩:=bS A (cF eW (by decide))
      exact .cons (x:=⟨aG l 8 eW,aR+p,0⟩) y1 (.nil l)
     ·rw[if_neg hcap];exact .nil l
  ·rw[if_neg hlt];exact .nil l
theorem fP:∀ (n i:Nat) (behind:Bool) (t:List Tk),bB t=true→Valid l (bM l n i behind t)
 | 0,_,_,_,_=>.nil l
 | n+1,_,_,[],_=>.nil l
 | n+1,i,behind,x::t,hc=>by
  have hcx:jG x=true:=List.all_eq_true.1 hc x (List.mem_cons_self ..)
  have hct:bB t=true:=List.all_eq_true.2 fun y hy=>List.all_eq_true.1 hc y (List.mem_cons_of_mem _ hy)
  rw[mS]
  by_cases hx:aJ x=true
  ·rw[if_pos hx]
   have hdc:bB ((x::t).dropWhile aJ)=true:=List.all_eq_true.2 fun y hy=>List.all_eq_true.1 hc y ((List.dropWhile_sublist _).subset hy)
   refine .append (.append ?_ (CC A (mR (gF aJ (x::t))) i _ _)) (fP n _ false _ hdc)
   cases behind with
   | false=>rw[if_neg (by decide)];exact .nil l
   | true =>
    rw[if_pos rfl]
    obtain⟨y,y1,-,-⟩:=bS A (cF eX (by decide))
    exact .cons (x:=⟨aG l 8 eX,i,0⟩) y1 (.nil l)
  ·rw[if_neg hx]
   have hx:aJ x=false:=by simpa using hx
   by_cases hd:eO x=true
   ·have hdd:48≤x.ch∧x.ch≤57:=by
     unfold eO at hd
     rw[Bool.and_eq_true]at hd
     exact of_decide_eq_true hd.2
    have hw:=yO ⟨x.ch - 48,by omega⟩
    simp only[]at hw
    rw[show 48+(x.ch - 48)=x.ch by omega]at hw
    obtain⟨y,y1,-,-⟩:=bS A hw
    rw[if_pos hd]
    refine .append ?_ (.cons (x:=⟨aG l 7 [x.ch],i,1⟩) y1 (fP n _ true t hct))
    cases behind with
    | true=>rw[if_pos rfl];exact .nil l
    | false =>
     rw[if_neg (by decide)]
     obtain⟨z,z1,-,-⟩:=bS A (cF jH (by decide))
     exact .cons (x:=⟨aG l 8 jH,i,0⟩) z1 (.nil l)
   ·rw[if_neg hd]
    by_cases hm:gD x=true
    ·have hmm:x.ch ∈ Ka.fZ:=by
      unfold gD at hm
      rw[Bool.and_eq_true]at hm
      exact List.contains_iff_mem.1 hm.2
     obtain⟨y,y1,-,-⟩:=bS A (qA x.ch hmm)
     rw[if_pos hm]
     exact .cons (x:=⟨aG l 6 [x.ch],i,1⟩) y1 (fP n _ false t hct)
    ·obtain⟨n1,-⟩:=sQ hcx hx (by simpa using hd) (by simpa using hm)
     obtain⟨y,y1,-,-⟩:=bS A (cF (cM x) n1)
     rw[if_neg hm]
     exact .cons (x:=⟨aG l 8 (cM x),i,1⟩) y1 (fP n _ false t hct)
theorem iS {y x:Rl} (hy:y ∈ l) (hx:x ∈ l) (h8:y.aE=8) (h5:x.aE=5):¬ y.cells <+: x.cells:=fun h=>by
 have hne:y≠x:=fun e=>by rw[e]at h8;omega
 have:=oY A.apart y hy x hx hne
 unfold bQ at this
 rw[decide_eq_true (p:=y.aE=8∧x.aE=5) ⟨h8,h5⟩,List.isPrefixOf_iff_prefix.2 h]at this
 simp at this
theorem sign_sign {y z:Rl} (hy:y ∈ l) (hz:z ∈ l) (hy8:y.aE=8) (hz8:z.aE=8) (hne:y.left≠z.left) (b d:List Nat):¬ (y.cells++b <+: z.cells++d):=fun h=>by
 have:=D7 A.apart (row:=1) hy hz (kC (.inr hy8) (by omega)) (kC (.inr hz8) (by omega)) (xO h)
 exact hne (by rw[this])
theorem qD {s:List Nat} (hs:s ∈ bX):∃ y,l[aG l 8 s]?=some y∧y ∈ l∧y.aE=8∧y.left=s∧fN l s=y.cells:=by
 obtain⟨y,y1,y2,y3⟩:=bS A (cF s hs)
 refine⟨y,y1,List.mem_of_getElem? y1,y2,y3,?_⟩
 have:=aAS A.apart y1 y2
 have y3:y.left=s:=y3
 rw[y3]at this
 exact this
theorem mU {t:List Tk} {p:List Pc} (h:dD l t=some p):t.all aJ=true∧Valid l p∧∃ x,x ∈ l∧x.aE=5∧x.left=bL (fA t) ∧
  (aO (fA t)=1∧bD l p=[x]∨(∃ y,y ∈ l∧y.aE=8∧y.left=eW∧aO (fA t)=2∧bD l p=[y,x])∨(∃ y,y ∈ l∧y.aE=8∧y.left=cV∧aO (fA t)=3∧bD l p=[y,x])):=by
 unfold dD at h
 by_cases ha:t.all aJ=true
 ·rw[if_pos ha]at h
  cases hf:cI l 5 (bL (fA t)) with
  | none=>rw[hf]at h;cases h
  | some k =>
   rw[hf]at h
   simp only[]at h
   obtain⟨hk,hd,-⟩:=List.findIdx?_eq_some_iff_getElem.1 hf
   have hx:l[k]?=some l[k]:=List.getElem?_eq_getElem hk
   obtain⟨d1,d2⟩:=of_decide_eq_true hd
   have hmem:=List.mem_of_getElem? hx
   split at h
   ·rename_i hc
    cases h
    exact⟨ha,.cons (x:=⟨k,0,t.length⟩) hx (.nil l),l[k],hmem,d1,d2,.inl ⟨hc,by rw[aL (x:=⟨k,0,t.length⟩) hx];rfl⟩⟩
   ·rename_i hc
    cases h
    obtain⟨y,y1,y2,y3,y4,-⟩:=qD A (s:=eW) (by decide)
    exact⟨ha,.cons (x:=⟨aG l 8 eW,0,0⟩) y1 (.cons (x:=⟨k,0,t.length⟩) hx (.nil l)),l[k],hmem,d1,d2,.inr (.inl ⟨y,y2,y3,y4,hc,by rw[aL (x:=⟨aG l 8 eW,0,0⟩) y1,aL (x:=⟨k,0,t.length⟩) hx];rfl⟩)⟩
   ·rename_i hc
    cases h
    obtain⟨y,y1,y2,y3,y4,-⟩:=qD A (s:=cV) (by decide)
    exact⟨ha,.cons (x:=⟨aG l 8 cV,0,0⟩) y1 (.cons (x:=⟨k,0,t.length⟩) hx (.nil l)),l[k],hmem,d1,d2,.inr (.inr ⟨y,y2,y3,y4,hc,by rw[aL (x:=⟨aG l 8 cV,0,0⟩) y1,aL (x:=⟨k,0,t.length⟩) hx];rfl⟩)⟩
   ·cases h
 ·rw[if_neg ha]at h;cases h
theorem uP {x:Rl} (hx:x ∈ l) (h5:x.aE=5):(cZ l x.cells).isSome=true:=by
 obtain⟨k,hk,e⟩:=List.getElem_of_mem hx
 have hk2:l[k]?=some x:=by rw[← e];exact List.getElem?_eq_getElem hk
 rw[aAT A.apart hk2 h5]
 rfl
theorem yS {t:List Tk} {p:List Pc} (h:dD l t=some p):jU l (bV (bD l p))=true:=by
 obtain⟨-,-,x,x1,x2,-,hx⟩:=mU A h
 obtain⟨c,-,c2,c3,c4,c5⟩:=qD A (s:=eW) (by decide)
 obtain⟨d,-,d2,d3,d4,d5⟩:=qD A (s:=cV) (by decide)
 have single:∀ y:Rl,bV [y,x]=y.cells++x.cells:=fun y=>by unfold bV;simp
 unfold jU
 simp only[c5,d5]
 rcases hx with⟨-,hr⟩ | ⟨y,y1,y2,y3,-,hr⟩ | ⟨y,y1,y2,y3,-,hr⟩
 ·have e:bV [x]=x.cells:=by unfold bV;simp
  rw[hr,e,if_neg (fun hk=>iS A c2 x1 c3 x2 (List.isPrefixOf_iff_prefix.1 hk)),if_neg (fun hk=>iS A d2 x1 d3 x2 (List.isPrefixOf_iff_prefix.1 hk))]
  exact uP A x1 x2
 ·have e:y=c:=Classical.byContradiction fun hn=>by
   have:=oY A.apart y y1 c c2 hn
   unfold bQ at this
   rw[decide_eq_true (p:=y.aE=c.aE∧y.left=c.left) ⟨by omega,by rw[y3,c4]⟩]at this
   simp at this
  rw[hr,single,e,if_pos (List.isPrefixOf_iff_prefix.2 (List.prefix_append _ _)),List.drop_left]
  exact uP A x1 x2
 ·have e:y=d:=Classical.byContradiction fun hn=>by
   have:=oY A.apart y y1 d d2 hn
   unfold bQ at this
   rw[decide_eq_true (p:=y.aE=d.aE∧y.left=d.left) ⟨by omega,by rw[y3,d4]⟩]at this
   simp at this
  rw[hr,single,e,if_neg (fun hk=>by
   have:=sign_sign A c2 d2 c3 d3 (by rw[c4,d4];decide) [] x.cells
   rw[List.append_nil]at this
   exact this (List.isPrefixOf_iff_prefix.1 hk)),if_pos (List.isPrefixOf_iff_prefix.2 (List.prefix_append _ _)),List.drop_left]
  exact uP A x1 x2
omit A in
theorem MC {s s':List Nat} {c:Nat} (h:aO s=c) (h':aO s'=c) (h1:1≤c) (h3:c≤3) (hl:bL s=bL s'):s=s':=by
 have one:∀ {s:List Nat},aO s=1→bL s=s:=fun {s} h=>by
  unfold aO at h
  split at h
  ·cases h
  ·split at h
   ·rename_i hk
    exact qB fun c hc=>iQ (List.all_eq_true.1 hk c hc)
   ·split at h
    ·cases h
    ·split at h<;>cases h
 have three:∀ {s:List Nat},aO s=3→(bL s).map upN=s:=fun {s} h=>by
  unfold aO at h
  split at h
  ·cases h
  ·split at h
   ·cases h
   ·split at h
    ·cases h
    ·split at h
     ·rename_i hk
      exact O9 fun c hc=>List.all_eq_true.1 hk c hc
     ·cases h
 have two:∀ {s:List Nat},aO s=2→rN 1 (bL s)=s:=fun {s} h=>by
  unfold aO at h
  split at h
  ·cases h
  ·split at h
   ·cases h
   ·split at h
    ·rename_i hk
     rw[Bool.and_eq_true]at hk
     cases s with
     | nil=>exact absurd hk.1 (by decide)
     | cons a r =>
      show upN (iP a)::bL r=_
      rw[MA (c:=a) hk.1,qB (s:=r) fun c hc=>iQ (List.all_eq_true.1 hk.2 c hc)]
    ·split at h<;>cases h
 obtain rfl | rfl | rfl:c=1∨c=2∨c=3:=by omega
 ·rw[← one h,← one h',hl]
 ·rw[← two h,← two h',hl]
 ·rw[← three h,← three h',hl]
def uQ (l:List Rl) (t:List Tk):List Rl:=bD l (j6 l t)
theorem pB {t:List Tk} (h:bB t=true):Valid l (j6 l t):=by
 unfold j6
 cases hw:dD l t with
 | some p=>exact(mU A hw).2.1
 | none =>
  have hs:=fP A t.length 0 false t h
  show Valid l (if jU l (cC l (bI l t))=true then ⟨aG l 8 eX,0,0⟩::bI l t else bI l t)
  split
  ·obtain⟨y,y1,-⟩:=qD A (s:=eX) (by decide)
   exact .cons (x:=⟨aG l 8 eX,0,0⟩) y1 hs
  ·exact hs
theorem G8 {t:List Tk} (h:bB t=true):(∃ p,dD l t=some p∧uQ l t=bD l p)∨(jU l (bV (bD l (bI l t)))=false∧uQ l t=bD l (bI l t))∨(∃ y,y ∈ l∧y.aE=8∧y.left=eX∧uQ l t=y::bD l (bI l t)):=by
 have hs:=fP A t.length 0 false t h
 unfold uQ j6
 cases hw:dD l t with
 | some p=>exact .inl ⟨p,rfl,rfl⟩
 | none =>
  refine .inr ?_
  show (_∧bD l (if jU l (cC l (bI l t))=true then ⟨aG l 8 eX,0,0⟩::bI l t else bI l t)=_)∨∃ y,_∧_∧_∧bD l (if jU l (cC l (bI l t))=true then ⟨aG l 8 eX,0,0⟩::bI l t else bI l t)=_
  rw[jL (p:=bI l t) hs]
  by_cases hk:jU l (bV (bD l (bI l t)))=true
  ·rw[if_pos hk]
   obtain⟨y,y1,y2,y3,y4,-⟩:=qD A (s:=eX) (by decide)
   exact .inr ⟨y,y2,y3,y4,by rw[aL (x:=⟨aG l 8 eX,0,0⟩) y1]⟩
  ·rw[if_neg hk]
   exact .inl ⟨by simpa using hk,rfl⟩
theorem wH {t:List Tk} (h:bB t=true) {y:Rl} {r:List Rl} (he:bD l (bI l t)=y::r) (h8:y.aE=8):y.left≠eX:=by
 unfold bI at he
 cases t with
 | nil=>cases he
 | cons x t =>
  have hcx:jG x=true:=List.all_eq_true.1 h x (List.mem_cons_self ..)
  rw[List.length_cons,mS]at he
  by_cases hx:aJ x=true
  ·rw[if_pos hx,if_neg (by decide),List.nil_append,mB]at he
   have htw:(x::t).takeWhile aJ=x::t.takeWhile aJ:=List.takeWhile_cons_of_pos hx
   have hls:=mR (gF aJ (x::t))
   generalize hse:fA ((x::t).takeWhile aJ)=s at he hls
   have h0:0<s.length:=by rw[← hse,htw];unfold fA;simp
   have hne:s≠[]:=List.length_pos_iff.1 h0
   unfold runN at he
   obtain⟨m,hm⟩:∃ m,s.length=m+1:=⟨s.length - 1,by omega⟩
   rw[hm]at he
   have e:fL l s 0 (m+1) 0=if 0<s.length then (if aO (s.drop 0)=3 then ⟨aG l 8 cV,0+0,0⟩::a8 l 0 (gZ l (bL s) ((0:Nat):Int)) 0 else match dC l (bL s) ((0:Nat):Int) (eB s 0:Int) with
    | none=>[]
    | some k=>(if aQ (s.getD 0 0)=true then [⟨aG l 8 eW,0+0,0⟩] else [])++⟨k,0+0,aK l k⟩::fL l s 0 m (0+aK l k)) else []:=rfl
   rw[e,if_pos h0]at he
   by_cases hcs:aO (s.drop 0)=3
   ·obtain⟨z,z1,z2,z3⟩:=bS A (cF cV (by decide))
    rw[if_pos hcs,aL (x:=⟨aG l 8 cV,0+0,0⟩) z1,List.cons_append]at he
    injection he with he _
    rw[← he,show z.left=cV from z3]
    decide
   ·rw[if_neg hcs]at he
    obtain⟨k,z,hb,hz⟩:=iR A (jC hls hne) (p:=0) (by rw[aT];exact h0) (most:=(eB s 0:Int)) (by have:=sR h0;omega)
    rw[hb]at he
    simp only[]at he
    by_cases hcap:aQ (s.getD 0 0)=true
    ·obtain⟨v,v1,v2,v3⟩:=bS A (cF eW (by decide))
     rw[if_pos hcap,List.cons_append,aL (x:=⟨aG l 8 eW,0+0,0⟩) v1,List.cons_append]at he
     injection he with he _
     rw[← he,show v.left=eW from v3]
     decide
    ·rw[if_neg hcap,List.nil_append,aL (x:=⟨k,0+0,aK l k⟩) hz.at',List.cons_append]at he
     injection he with he _
     have:=(yP hz).2.2
     rw[he]at this
     omega
  ·have hx:aJ x=false:=by simpa using hx
   rw[if_neg (by rw[hx];decide)]at he
   by_cases hd:eO x=true
   ·obtain⟨z,z1,z2,z3⟩:=bS A (cF jH (by decide))
    rw[if_pos hd,if_neg (by decide),List.cons_append,aL (x:=⟨aG l 8 jH,0,0⟩) z1]at he
    injection he with he _
    rw[← he,show z.left=jH from z3]
    decide
   ·rw[if_neg hd]at he
    by_cases hm:gD x=true
    ·have hmm:x.ch ∈ Ka.fZ:=by
      unfold gD at hm
      rw[Bool.and_eq_true]at hm
      exact List.contains_iff_mem.1 hm.2
     obtain⟨z,z1,z2,z3⟩:=bS A (qA x.ch hmm)
     rw[if_pos hm,aL (x:=⟨aG l 6 [x.ch],0,1⟩) z1]at he
     injection he with he _
     have:z.aE=6:=z2
     rw[he]at this
     omega
    ·rw[if_neg hm]at he
     obtain⟨n1,n2,n3,n4,n5,n6⟩:=sQ hcx hx (by simpa using hd) (by simpa using hm)
     obtain⟨z,z1,z2,z3⟩:=bS A (cF (cM x) n1)
     rw[aL (x:=⟨aG l 8 (cM x),0,1⟩) z1]at he
     injection he with he _
     rw[← he,show z.left=cM x from z3]
     exact n5
theorem VL (hc:∀ x ∈ l,x.cells≠[]) {a b:List Tk} (ha:bB a=true) (hb:bB b=true) (h:bV (uQ l a)=bV (uQ l b)):a.map bare=b.map bare:=by
 obtain⟨sa,ra⟩:=wF A ha
 obtain⟨sb,rb⟩:=wF A hb
 have one:∀ xs ys:List Rl,(∀ x ∈ xs,x ∈ l)→(∀ y ∈ ys,y ∈ l)→gQ 1 xs→gQ 1 ys→bV xs=bV ys→xs=ys:=fun xs ys=>G7 A.apart hc xs ys 1
 have letR:∀ {y:Rl} {R:List Rl},y.aE=8→y.left=eX→gQ 1 R→gQ 1 (y::R):=fun {y R} h8 hl hR=>by
  refine⟨kC (.inr h8) (by omega),?_⟩
  have e2:jI 1 y=1:=by
   unfold jI
   rw[if_neg (by omega),if_neg (by omega),if_pos h8,hl,if_neg (by decide),if_neg (by decide)]
  rw[e2]
  exact hR
 have memC:∀ {y:Rl} {R:List Rl},y ∈ l→(∀ x ∈ R,x ∈ l)→∀ x ∈ y::R,x ∈ l:=fun {y R} hy hR x hx=>(List.mem_cons.1 hx).elim (fun e=>e▸hy) (hR x)
 have cons:∀ (y:Rl) (R:List Rl),bV (y::R)=y.cells++bV R:=fun y R=>by unfold bV;rw[List.flatMap_cons]
 have nil:bV []=[]:=rfl
 -- a word and what is none
 have wordNot:∀ {t:List Tk} {p:List Pc} {y:Rl} {R:List Rl},dD l t=some p→y ∈ l→y.aE=8→y.left=eX→bV (bD l p)≠bV (y::R):=fun {t p y R} hw hy h8 hl he=>by
  obtain⟨-,-,x,x1,x2,-,hx⟩:=mU A hw
  rw[cons]at he
  rcases hx with⟨-,hr⟩ | ⟨z,z1,z2,z3,-,hr⟩ | ⟨z,z1,z2,z3,-,hr⟩
  ·rw[hr,cons,nil,List.append_nil]at he
   exact iS A hy x1 h8 x2 (by rw[he];exact List.prefix_append _ _)
  ·rw[hr,cons]at he
   exact sign_sign A z1 hy z2 h8 (by rw[z3,hl];decide) _ _ (by rw[he];exact List.prefix_rfl)
  ·rw[hr,cons]at he
   exact sign_sign A z1 hy z2 h8 (by rw[z3,hl];decide) _ _ (by rw[he];exact List.prefix_rfl)
 have wordWord:∀ {t u:List Tk} {p q:List Pc},dD l t=some p→dD l u=some q→bV (bD l p)=bV (bD l q)→t.map bare=u.map bare:=fun {t u p q} hp hq he=>by
  obtain⟨t1,-,x,x1,x2,x3,hx⟩:=mU A hp
  obtain⟨u1,-,y,y1,y2,y3,hy⟩:=mU A hq
  have fin:∀ c,1≤c→c≤3→aO (fA t)=c→aO (fA u)=c→x.cells=y.cells→t.map bare=u.map bare:=fun c h1 h3 e1 e2 ec=>by
   have e:x=y:=Classical.byContradiction fun hn=>by
    have:=oY A.apart x x1 y y1 hn
    unfold bQ at this
    rw[decide_eq_true (p:=x.aE=5∧y.aE=5∧x.cells=y.cells) ⟨x2,y2,ec⟩]at this
    simp at this
   rw[← uO t1,← uO u1,MC e1 e2 h1 h3 (by rw[← x3,← y3,e])]
  have one1:∀ x:Rl,bV [x]=x.cells:=fun x=>by rw[cons,nil,List.append_nil]
  have two1:∀ y x:Rl,bV [y,x]=y.cells++x.cells:=fun y x=>by rw[cons,one1]
  have sames:∀ {z v:Rl} (c:Nat),1≤c→c≤3→z ∈ l→v ∈ l→z.aE=8→v.aE=8→z.left=v.left→aO (fA t)=c→aO (fA u)=c→z.cells++x.cells=v.cells++y.cells→t.map bare=u.map bare:=fun {z v} c h1 h3 hz hv z8 v8 hl cx cy he=>by
   have e:z=v:=D7 A.apart (row:=1) hz hv (kC (.inr z8) (by omega)) (kC (.inr v8) (by omega)) (xO (b:=x.cells) (d:=y.cells) (by rw[he];exact List.prefix_rfl))
   rw[e]at he
   exact fin c h1 h3 cx cy (List.append_cancel_left he)
  rcases hx with⟨cx,rx⟩ | ⟨z,z1,z2,z3,cx,rx⟩ | ⟨z,z1,z2,z3,cx,rx⟩<;>rcases hy with⟨cy,ry⟩ | ⟨v,v1,v2,v3,cy,ry⟩ | ⟨v,v1,v2,v3,cy,ry⟩
  ·rw[rx,ry,one1,one1]at he
   exact fin 1 (by omega) (by omega) cx cy he
  ·rw[rx,ry,one1,two1]at he
   exact absurd (by rw[he];exact List.prefix_append _ _) (iS A v1 x1 v2 x2)
  ·rw[rx,ry,one1,two1]at he
   exact absurd (by rw[he];exact List.prefix_append _ _) (iS A v1 x1 v2 x2)
  ·rw[rx,ry,two1,one1]at he
   exact absurd (by rw[← he];exact List.prefix_append _ _) (iS A z1 y1 z2 y2)
  ·rw[rx,ry,two1,two1]at he
   exact sames 2 (by omega) (by omega) z1 v1 z2 v2 (by rw[z3,v3]) cx cy he
  ·rw[rx,ry,two1,two1]at he
   exact absurd (by rw[he];exact List.prefix_rfl) (sign_sign A z1 v1 z2 v2 (by rw[z3,v3];decide) x.cells y.cells)
  ·rw[rx,ry,two1,one1]at he
   exact absurd (by rw[← he];exact List.prefix_append _ _) (iS A z1 y1 z2 y2)
  ·rw[rx,ry,two1,two1]at he
   exact absurd (by rw[he];exact List.prefix_rfl) (sign_sign A z1 v1 z2 v2 (by rw[z3,v3];decide) x.cells y.cells)
  ·rw[rx,ry,two1,two1]at he
   exact sames 3 (by omega) (by omega) z1 v1 z2 v2 (by rw[z3,v3]) cx cy he
 rcases G8 A ha with⟨p,hp,ea⟩ | ⟨ka,ea⟩ | ⟨y,y1,y2,y3,ea⟩<;>rcases G8 A hb with⟨q,hq,eb⟩ | ⟨kb,eb⟩ | ⟨z,z1,z2,z3,eb⟩
 ·rw[ea,eb]at h
  exact wordWord hp hq h
 ·rw[ea,eb]at h
  rw[← h,yS A hp]at kb
  cases kb
 ·rw[ea,eb]at h
  exact absurd h (wordNot hp z1 z2 z3)
 ·rw[ea,eb]at h
  rw[h,yS A hq]at ka
  cases ka
 ·rw[ea,eb]at h
  rw[← sa,← sb,one _ _ eA eA ra rb h]
 ·rw[ea,eb]at h
  have:=one _ _ eA (memC z1 eA) ra (letR z2 z3 rb) h
  exact absurd z3 (wH A ha this z2)
 ·rw[ea,eb]at h
  exact absurd h.symm (wordNot hq y1 y2 y3)
 ·rw[ea,eb]at h
  have:=one _ _ eA (memC y1 eA) rb (letR y2 y3 ra) h.symm
  exact absurd y3 (wH A hb this y2)
 ·rw[ea,eb]at h
  have:=one _ _ (memC y1 eA) (memC z1 eA) (letR y2 y3 ra) (letR z2 z3 rb) h
  injection this with _ e
  rw[← sa,← sb,e]
end
end Go.Proofs.YthbigkoihpgcfaaGreatDoor.Cu
namespace Go.Proofs.YthbigkoihpgcfaaGreatDoor.Cu
open Go.RowKit Ba Ru Ck Ti Pa Fl
theorem rO {x y:Tk} (h:bare x=bare y):x.kind=y.kind∧x.ch=y.ch:=by
 unfold bare at h
 injection h with h1 h2
 exact⟨h1,h2⟩
theorem rP {x y:Tk} (h:bare x=bare y):aJ x=aJ y∧eO x=eO y∧gD x=gD y∧cM x=cM y∧jG x=jG y:=by
 obtain⟨h1,h2⟩:=rO h
 have a:aJ x=aJ y:=by unfold aJ mA BG;rw[h1,h2]
 have b:eO x=eO y:=by unfold eO;rw[h1,h2]
 have c:gD x=gD y:=by unfold gD;rw[h1,h2]
 have d:cM x=cM y:=by unfold cM;rw[h1,h2]
 exact⟨a,b,c,d,by unfold jG;rw[a,b,c,d]⟩
theorem yY {s t:List Tk} (h:s.map bare=t.map bare):s.length=t.length:=by
 have:=congrArg List.length h
 rwa [List.length_map,List.length_map]at this
theorem ID {s t:List Tk} (h:s.map bare=t.map bare):fA s=fA t:=by
 have:=congrArg (List.map (fun p:Int × Nat=>p.2)) h
 rwa [List.map_map,List.map_map]at this
theorem VS {s t:List Tk} (h:s.map bare=t.map bare):s.all aJ=t.all aJ:=by
 induction s generalizing t with
 | nil=>cases t with
  | nil=>rfl
  | cons y t=>cases h
 | cons x s ih=>cases t with
  | nil=>cases h
  | cons y t =>
   injection h with h1 h2
   rw[List.all_cons,List.all_cons,(rP h1).1,ih h2]
theorem ME {s t:List Tk} (h:s.map bare=t.map bare):(s.takeWhile aJ).map bare=(t.takeWhile aJ).map bare∧(s.dropWhile aJ).map bare=(t.dropWhile aJ).map bare:=by
 induction s generalizing t with
 | nil=>cases t with
  | nil=>exact⟨rfl,rfl⟩
  | cons y t=>cases h
 | cons x s ih=>cases t with
  | nil=>cases h
  | cons y t =>
   have h':=h
   injection h with h1 h2
   obtain⟨i1,i2⟩:=ih h2
   rw[List.takeWhile_cons,List.takeWhile_cons,List.dropWhile_cons,List.dropWhile_cons,(rP h1).1]
   cases aJ y with
   | true=>exact⟨by simp only[if_true,List.map_cons,h1,i1],by simpa using i2⟩
   | false=>exact⟨rfl,by simpa using h'⟩
theorem nT (l:List Rl):∀ (n i:Nat) (b:Bool) {s t:List Tk},s.map bare=t.map bare→bM l n i b s=bM l n i b t
 | 0,_,_,_,_,_=>rfl
 | n+1,i,b,[],[],_=>rfl
 | n+1,i,b,[],y::t,h=>by cases h
 | n+1,i,b,x::s,[],h=>by cases h
 | n+1,i,b,x::s,y::t,h=>by
  obtain⟨w1,w2⟩:=ME h
  have h':=h
  injection h' with h1 h2
  obtain⟨a1,a2,a3,a4,-⟩:=rP h1
  obtain⟨-,c⟩:=rO h1
  unfold bM
  rw[a1,a2,a3,a4,c,ID w1,yY w1,nT l n _ _ w2,nT l n _ _ h2,nT l n _ _ h2]
theorem aAU (l:List Rl) {s t:List Tk} (h:s.map bare=t.map bare):j6 l s=j6 l t:=by
 have hw:dD l s=dD l t:=by unfold dD;rw[VS h,ID h,yY h]
 have hs:bI l s=bI l t:=by unfold bI;rw[yY h,nT l _ _ _ h]
 unfold j6
 rw[hw,hs]
section
variable {pr:List Nat→Option (List Nat)} {l:List Rl} (A:Acc pr l)
include A
section
variable {T:List Tk} {i:Nat} {s:List Nat} (hT:((T.drop i).take s.length).all aJ=true) (hs:fA ((T.drop i).take s.length)=s) (hl:i+s.length≤T.length)
include hT hs hl
end
end
end Go.Proofs.YthbigkoihpgcfaaGreatDoor.Cu
