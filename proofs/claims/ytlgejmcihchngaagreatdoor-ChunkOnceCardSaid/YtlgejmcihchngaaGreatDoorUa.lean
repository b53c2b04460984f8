/-
  Put together: FlZ, CuA, CuB, CuC, CuD, CuN.
-/
import Derived.Test.YtlgejmcihchngaaGreatDoorVg
import Derived.Test.YtlgejmcihchngaaGreatDoorSj
namespace Go.Proofs.YtlgejmcihchngaaGreatDoor.Fl
open Go.RowKit
structure Tk where
 kind:Int
 ch:Nat
 place:Int
def cT (x:Tk):List Value:=[.int .i64 x.kind,.int .u8 (x.ch:Int),.int .i64 x.place]
theorem cT_len (x:Tk):(cT x).length=3:=rfl
abbrev ReadsT (off:Nat) (w:World) (B:Nat) (v:Value) (l:List Tk):Prop:=Ba.Reads cT 3 off w B v l
def FitT (l:List Tk):Prop:=∀ x ∈ l,(-9223372036854775808≤x.kind∧x.kind≤9223372036854775807)∧x.ch<256∧(-9223372036854775808≤x.place∧x.place≤9223372036854775807)
end Go.Proofs.YtlgejmcihchngaaGreatDoor.Fl
namespace Go.Proofs.YtlgejmcihchngaaGreatDoor.Cu
open Go.RowKit Ba Ru Ck Ti Pa Fl
def smallT (x:Tk):Bool:=decide (x.kind=1) && smallB x.ch
def capB (c:Nat):Bool:=decide (65≤c∧c≤90)
def capT (x:Tk):Bool:=decide (x.kind=1) && capB x.ch
def letT (x:Tk):Bool:=smallT x || capT x
def digT (x:Tk):Bool:=decide (x.kind=1) && decide (48≤x.ch∧x.ch≤57)
def mrkT (x:Tk):Bool:=decide (x.kind=1) && Ka.markL.contains x.ch
def nameT (x:Tk):List Nat:=if x.ch=101∨x.ch=115∨x.ch=110 then (if x.kind=2 then [x.ch,43] else if x.kind=3 then [x.ch,45] else []) else []
def tokT (x:Tk):Bool:=letT x || digT x || mrkT x || !(nameT x).isEmpty
def chunkB (t:List Tk):Bool:=t.all tokT
def chs (t:List Tk):List Nat:=t.map (·.ch)
def bare (x:Tk):Int × Nat:=(x.kind,x.ch)
def smallN (c:Nat):Nat:=if 65≤c∧c≤90 then c+32 else c
def lowN (s:List Nat):List Nat:=s.map smallN
def upN (c:Nat):Nat:=c - 32
def caseN (s:List Nat):Nat :=
 if s.isEmpty || !(s.all fun c=>smallB c || capB c) then 0
 else if s.all smallB then 1
 else if capB (s.headD 0) && s.tail.all smallB then 2
 else if s.all capB then 3
 else 4
structure Pc where
 rule:Nat
 frm:Nat
 len:Nat
deriving DecidableEq
def capS:List Nat:=[99,97,112]
def capsS:List Nat:=[99,97,112,115]
def numS:List Nat:=[110,117,109]
def letS:List Nat:=[108,101,116]
def ruleN (l:List Rl) (what:Int) (left:List Nat):Nat:=(findN l what left).getD 0
def partsF (l:List Rl) (frm:Nat):List Nat→Nat→List Pc
 | [],_=>[]
 | k::r,p=>⟨k,frm+p,leftLen l k⟩::partsF l frm r (p+leftLen l k)
def mostN (s:List Nat) (p:Nat):Nat:=match s.drop p with
 | []=>0
 | c::r=>(if capB c=true then 1+(r.takeWhile fun c=>!capB c).length else ((c::r).takeWhile fun c=>!capB c).length)
def runF (l:List Rl) (s:List Nat) (frm:Nat):Nat→Nat→List Pc
 | 0,_=>[]
 | n+1,p=>if p<s.length then
   if caseN (s.drop p)=3 then ⟨ruleN l 8 capsS,frm+p,0⟩::partsF l frm (allN l (lowN s) (p:Int)) p
   else match bestN l (lowN s) (p:Int) (mostN s p:Int) with
    | none=>[]
    | some k=>(if capB (s.getD p 0)=true then [⟨ruleN l 8 capS,frm+p,0⟩] else [])++⟨k,frm+p,leftLen l k⟩::runF l s frm n (p+leftLen l k)
  else []
def runN (l:List Rl) (s:List Nat) (frm:Nat):List Pc:=runF l s frm s.length 0
def spellF (l:List Rl):Nat→Nat→Bool→List Tk→List Pc
 | 0,_,_,_=>[]
 | _+1,_,_,[]=>[]
 | n+1,i,behind,x::r =>
  if letT x=true then (if behind=true then [⟨ruleN l 8 letS,i,0⟩] else [])++runN l (chs ((x::r).takeWhile letT)) i++spellF l n (i+((x::r).takeWhile letT).length) false ((x::r).dropWhile letT)
  else if digT x=true then (if behind=true then [] else [⟨ruleN l 8 numS,i,0⟩])++⟨ruleN l 7 [x.ch],i,1⟩::spellF l n (i+1) true r
  else if mrkT x=true then ⟨ruleN l 6 [x.ch],i,1⟩::spellF l n (i+1) false r
  else ⟨ruleN l 8 (nameT x),i,1⟩::spellF l n (i+1) false r
def spellN (l:List Rl) (t:List Tk):List Pc:=spellF l t.length 0 false t
def wordP (l:List Rl) (t:List Tk):Option (List Pc) :=
 if t.all letT=true then match findN l 5 (lowN (chs t)) with
  | none=>none
  | some k=>match caseN (chs t) with
   | 1=>some [⟨k,0,t.length⟩]
   | 2=>some [⟨ruleN l 8 capS,0,0⟩,⟨k,0,t.length⟩]
   | 3=>some [⟨ruleN l 8 capsS,0,0⟩,⟨k,0,t.length⟩]
   | _=>none
 else none
def cellsP (l:List Rl) (p:List Pc):List Nat:=if p.all (fun x=>decide (x.rule<l.length))=true then p.flatMap fun x=>(l[x.rule]?.map (·.cells)).getD [] else []
def looksB (l:List Rl) (c:List Nat):Bool :=
 let cap:=signC l capS
 let caps:=signC l capsS
 let d:=if cap.isPrefixOf c=true then c.drop cap.length else if caps.isPrefixOf c=true then c.drop caps.length else c
 (wordN l d).isSome
def ofP (l:List Rl) (t:List Tk):List Pc:=match wordP l t with
 | some p=>p
 | none=>if looksB l (cellsP l (spellN l t))=true then ⟨ruleN l 8 letS,0,0⟩::spellN l t else spellN l t
def nextR (row:Int) (x:Rl):Int :=
 if x.what≤4 then 2 else if x.what=7 then 3 else if x.what=8 then (if x.left=capS∨x.left=capsS then row else if x.left=numS then 3 else 1) else 1
def InRows:Int→List Rl→Prop
 | _,[]=>True
 | row,x::r=>inB x row=true∧InRows (nextR row x) r
theorem rows_one {l:List Rl} (A:Apart l) (hc:∀ x ∈ l,x.cells≠[]):∀ (xs ys:List Rl) (row:Int),(∀ x ∈ xs,x ∈ l)→(∀ y ∈ ys,y ∈ l)→InRows row xs→InRows row ys→cellsR xs=cellsR ys→xs=ys
 | [],[],_,_,_,_,_,_=>rfl
 | [],y::ys,_,_,hy,_,_,h=>by
  have:y.cells=[]:=by
   unfold cellsR at h
   rw[List.flatMap_nil,List.flatMap_cons]at h
   exact(List.append_eq_nil_iff.1 h.symm).1
  exact absurd this (hc y (hy y (List.mem_cons_self ..)))
 | x::xs,[],_,hx,_,_,_,h=>by
  have:x.cells=[]:=by
   unfold cellsR at h
   rw[List.flatMap_nil,List.flatMap_cons]at h
   exact(List.append_eq_nil_iff.1 h).1
  exact absurd this (hc x (hx x (List.mem_cons_self ..)))
 | x::xs,y::ys,row,hx,hy,rx,ry,h=>by
  have h:x.cells++cellsR xs=y.cells++cellsR ys:=h
  have e:x=y:=same_of A (hx x (List.mem_cons_self ..)) (hy y (List.mem_cons_self ..)) rx.1 ry.1 (over_of (b:=cellsR xs) (d:=cellsR ys) (by rw[h];exact List.prefix_rfl))
  subst e
  rw[rows_one A hc xs ys _ (fun z hz=>hx z (List.mem_cons_of_mem _ hz)) (fun z hz=>hy z (List.mem_cons_of_mem _ hz)) rx.2 ry.2 (List.append_cancel_left h)]
def casedL (c:Nat) (s:List Nat):List Nat:=match c,s with
 | 0,s=>s
 | 1,[]=>[]
 | 1,a::s=>upN a::s
 | _,s=>s.map upN
def deco:Nat→List Rl→List (Int × Nat)
 | _,[]=>[]
 | c,x::r =>
  if x.what≤4 then (casedL c x.left).map (fun a=>(1,a))++deco (if c=2 then 2 else 0) r
  else if x.what=8 then
   if x.left=capS then deco 1 r else if x.left=capsS then deco 2 r
   else if x.left=numS∨x.left=letS then deco 0 r
   else (if x.left.tail=[43] then 2 else 3,x.left.headD 0)::deco 0 r
  else (1,x.left.headD 0)::deco 0 r
theorem deco_cons (c:Nat) (x:Rl) (r:List Rl):deco c (x::r)=if x.what≤4 then (casedL c x.left).map (fun a=>((1:Int),a))++deco (if c=2 then 2 else 0) r
  else if x.what=8 then
   (if x.left=capS then deco 1 r else if x.left=capsS then deco 2 r
   else if x.left=numS∨x.left=letS then deco 0 r
   else (if x.left.tail=[43] then 2 else 3,x.left.headD 0)::deco 0 r)
  else (1,x.left.headD 0)::deco 0 r:=rfl
def rulesP (l:List Rl) (p:List Pc):List Rl:=p.filterMap fun x=>l[x.rule]?
theorem rulesP_append (l:List Rl) (p q:List Pc):rulesP l (p++q)=rulesP l p++rulesP l q:=by unfold rulesP;rw[List.filterMap_append]
theorem rulesP_cons {l:List Rl} {x:Pc} {y:Rl} (h:l[x.rule]?=some y) (q:List Pc):rulesP l (x::q)=y::rulesP l q:=List.filterMap_cons_some (f:=fun x:Pc=>l[x.rule]?) h
theorem rulesP_mem {l:List Rl} {p:List Pc}:∀ x ∈ rulesP l p,x ∈ l:=fun x hx=>by
 unfold rulesP at hx
 obtain⟨y,-,h⟩:=List.mem_filterMap.1 hx
 exact List.mem_of_getElem? h
def Free (R:List Rl):Prop:=∀ x r,R=x::r→(x.what=6∨x.what=8)∧x.left≠capS∧x.left≠capsS
theorem Free.deco {R:List Rl} (h:Free R) (c:Nat):deco c R=deco 0 R:=by
 cases R with
 | nil=>rfl
 | cons x r =>
  obtain⟨h1,-,-⟩:=h x r rfl
  have n4:¬ x.what≤4:=by omega
  rw[deco_cons c,deco_cons 0,if_neg n4,if_neg n4]
theorem Free.rows {R:List Rl} (h:Free R) {row row':Int} (h1:1≤row'∧row'≤3) (hr:InRows row R):InRows row' R:=by
 cases R with
 | nil=>trivial
 | cons x r =>
  obtain⟨k1,k2,k3⟩:=h x r rfl
  refine⟨?_,?_⟩
  ·unfold inB
   rw[decide_eq_true h1,decide_eq_true k1]
   rfl
  ·have e:nextR row' x=nextR row x:=by
    unfold nextR
    rw[if_neg (show ¬ (x.left=capS∨x.left=capsS) by rintro(h | h);exact k2 h;exact k3 h),if_neg (show ¬ (x.left=capS∨x.left=capsS) by rintro(h | h);exact k2 h;exact k3 h)]
   rw[e]
   exact hr.2
theorem want_has {pr:List Nat→Option (List Nat)} {l:List Rl} (A:Acc pr l) {w:Int × List Nat} (hw:w ∈ wantL):∃ k x,findN l w.1 w.2=some k∧l[k]?=some x∧x.what=w.1∧x.left=w.2:=by
 have hm:=A.all
 unfold missR at hm
 have hh:hasB l w=true:=by
  cases hb:hasB l w with
  | true=>rfl
  | false =>
   cases hf:wantL.find? fun w=>!hasB l w with
   | none =>
    have:=List.find?_eq_none.1 hf _ hw
    rw[hb]at this
    exact absurd rfl this
   | some v =>
    rw[hf]at hm
    have hwm:=List.mem_of_find?_eq_some hf
    have ne:∀ w ∈ wantL,w.2≠[]:=by decide +kernel
    exact absurd hm (ne v hwm)
 unfold hasB at hh
 obtain⟨x,hx,hd⟩:=List.any_eq_true.1 hh
 obtain⟨d1,d2⟩:=of_decide_eq_true hd
 obtain⟨k,hk,e⟩:=List.getElem_of_mem hx
 have hk2:l[k]?=some x:=by rw[← e];exact List.getElem?_eq_getElem hk
 refine⟨k,x,?_,hk2,d1,d2⟩
 rw[← d1,← d2]
 exact find_of A.apart hk2
theorem sign_want:∀ s ∈ namesL,((8:Int),s) ∈ wantL:=by decide +kernel
theorem mark_want:∀ c ∈ Ka.markL,((6:Int),[c]) ∈ wantL:=by decide +kernel
theorem digit_want:∀ i:Fin 10,((7:Int),[48+i.val]) ∈ wantL:=by decide +kernel
theorem rule_has {pr:List Nat→Option (List Nat)} {l:List Rl} (A:Acc pr l) {w:Int × List Nat} (hw:w ∈ wantL):∃ x,l[ruleN l w.1 w.2]?=some x∧x.what=w.1∧x.left=w.2:=by
 obtain⟨k,x,h1,h2,h3,h4⟩:=want_has A hw
 refine⟨x,?_,h3,h4⟩
 unfold ruleN
 rw[h1]
 exact h2
theorem name_has {x:Tk} (h:tokT x=true) (h1:letT x=false) (h2:digT x=false) (h3:mrkT x=false):nameT x ∈ namesL∧nameT x≠capS∧nameT x≠capsS∧nameT x≠numS∧nameT x≠letS∧(if (nameT x).tail=[43] then (2:Int) else 3,(nameT x).headD 0)=bare x:=by
 unfold tokT at h
 rw[h1,h2,h3]at h
 obtain⟨kd,ch,pl⟩:=x
 unfold nameT bare at *
 simp only[]at h ⊢
 by_cases hc:ch=101∨ch=115∨ch=110
 ·rw[if_pos hc]at h ⊢
  by_cases hk:kd=2
  ·subst hk
   rw[if_pos rfl]at h ⊢
   rcases hc with rfl | rfl | rfl<;>decide
  ·rw[if_neg hk]at h ⊢
   by_cases hk3:kd=3
   ·subst hk3
    rw[if_pos rfl]at h ⊢
    rcases hc with rfl | rfl | rfl<;>decide
   ·rw[if_neg hk3]at h
    exact absurd h (by decide)
 ·rw[if_neg hc]at h
  exact absurd h (by decide)
end Go.Proofs.YtlgejmcihchngaaGreatDoor.Cu
namespace Go.Proofs.YtlgejmcihchngaaGreatDoor.Cu
open Go.RowKit Ba Ru Ck Ti Pa Fl
def LetS (s:List Nat):Prop:=∀ c ∈ s,smallB c=true∨capB c=true
theorem small_not {c:Nat} (h:smallB c=true):capB c=false:=by
 have:=of_decide_eq_true h
 exact decide_eq_false (by omega)
theorem low_small {c:Nat} (h:capB c=false):smallN c=c:=by
 have:=of_decide_eq_false h
 unfold smallN
 rw[if_neg this]
theorem up_low {c:Nat} (h:capB c=true):upN (smallN c)=c:=by
 have:=of_decide_eq_true h
 unfold smallN upN
 rw[if_pos this]
 omega
theorem low_run {s:List Nat} (h:LetS s) (hne:s≠[]):runB (lowN s)=true:=by
 unfold runB lowN
 rw[Bool.and_eq_true,List.all_eq_true]
 refine⟨by cases s with
  | nil=>exact absurd rfl hne
  | cons a b=>rfl,fun c hc=>?_⟩
 obtain⟨d,hd,rfl⟩:=List.mem_map.1 hc
 rcases h d hd with hs | hs
 ·rw[low_small (small_not hs)];exact hs
 ·have:=of_decide_eq_true hs
  unfold smallN
  rw[if_pos this]
  exact decide_eq_true (by omega)
theorem lowN_len (s:List Nat):(lowN s).length=s.length:=List.length_map ..
theorem lowN_take (s:List Nat) (p n:Nat):((lowN s).drop p).take n=lowN ((s.drop p).take n):=by unfold lowN;rw[List.map_take,List.map_drop]
theorem lowN_same {s:List Nat} (h:∀ c ∈ s,capB c=false):lowN s=s:=by
 unfold lowN
 conv=>rhs;rw[← List.map_id s]
 exact List.map_congr_left fun c hc=>low_small (h c hc)
theorem lowN_up {s:List Nat} (h:∀ c ∈ s,capB c=true):(lowN s).map upN=s:=by
 unfold lowN
 rw[List.map_map]
 conv=>rhs;rw[← List.map_id s]
 exact List.map_congr_left fun c hc=>up_low (h c hc)
def rowAt (p:Nat):Int:=if p=0 then 1 else 2
theorem best_row {l:List Rl} {s:List Nat} {p:Nat} {most:Int} {k:Nat} {x:Rl} (h:Best l s (p:Int) most k x):inB x (rowAt p)=true∧1≤x.what∧x.what≤4:=by
 obtain⟨-,-,-,-,-,-,hw⟩:=elig_parts h.elig
 have hw:=of_decide_eq_true hw
 refine⟨?_,by omega⟩
 unfold inB rowAt
 by_cases hp:p=0
 ·rw[if_pos hp,decide_eq_true (p:=(1:Int)≤1∧(1:Int)≤3) (by omega),if_pos rfl,decide_eq_true (p:=x.what=1∨x.what=2) (by omega)]
  simp
 ·rw[if_neg hp,decide_eq_true (p:=(1:Int)≤2∧(2:Int)≤3) (by omega),if_neg (by decide),if_pos rfl,decide_eq_true (p:=x.what=1∨x.what=3∨x.what=4) (by omega)]
  simp
theorem rowAt_pos {p:Nat} (h:0<p):rowAt p=2:=if_neg (by omega)
theorem next_letters {x:Rl} (h:x.what≤4) (row:Int):nextR row x=2:=if_pos h
theorem deco_letters {x:Rl} (h:x.what≤4) (c:Nat) (R:List Rl):deco c (x::R)=(casedL c x.left).map (fun a=>((1:Int),a))++deco (if c=2 then 2 else 0) R:=by
 rw[deco_cons,if_pos h]
theorem deco_cap {x:Rl} (h:x.what=8) (hl:x.left=capS) (c:Nat) (R:List Rl):deco c (x::R)=deco 1 R:=by
 rw[deco_cons,if_neg (show ¬ x.what≤4 by omega),if_pos h,if_pos hl]
theorem deco_caps {x:Rl} (h:x.what=8) (hl:x.left=capsS) (c:Nat) (R:List Rl):deco c (x::R)=deco 2 R:=by
 rw[deco_cons,if_neg (show ¬ x.what≤4 by omega),if_pos h,if_neg (by rw[hl];decide),if_pos hl]
theorem deco_skip {x:Rl} (h:x.what=8) (hl:x.left=numS∨x.left=letS) (c:Nat) (R:List Rl):deco c (x::R)=deco 0 R:=by
 have h1:x.left≠capS:=by rcases hl with hl | hl<;>rw[hl]<;>decide
 have h2:x.left≠capsS:=by rcases hl with hl | hl<;>rw[hl]<;>decide
 rw[deco_cons,if_neg (show ¬ x.what≤4 by omega),if_pos h,if_neg h1,if_neg h2,if_pos hl]
theorem left_take {s:List Nat} {l:List Rl} {p:Nat} {most:Int} {k:Nat} {x:Rl} (h:Best l (lowN s) (p:Int) most k x):x.left=lowN ((s.drop p).take x.left.length):=by
 rw[← lowN_take]
 exact(elig_at h.elig).symm
section
variable {pr:List Nat→Option (List Nat)} {l:List Rl} (A:Acc pr l) {s:List Nat} (hs:LetS s) (frm:Nat)
include A hs
theorem parts_say:∀ (n p:Nat),s.length - p≤n→p≤s.length→(∀ c ∈ s.drop p,capB c=true)→∀ R,Free R →
  deco 2 (rulesP l (partsF l frm (allN l (lowN s) (p:Int)) p)++R)=(s.drop p).map (fun a=>((1:Int),a))++deco 0 R∧(InRows 2 R→(p=s.length→0<p)→InRows (rowAt p) (rulesP l (partsF l frm (allN l (lowN s) (p:Int)) p)++R))
 | n,p,hn,hp,hc,R,hR=>by
  by_cases hlt:p<s.length
  ·obtain⟨n,rfl⟩:∃ m,n=m+1:=⟨n - 1,by omega⟩
   have hne:s≠[]:=fun e=>by rw[e]at hlt;exact absurd hlt (by simp)
   obtain⟨k,x,h,-,ha,h0,hle⟩:=all_step A (low_run hs hne) (p:=p) (by rw[lowN_len];exact hlt)
   rw[lowN_len]at hle
   obtain⟨r1,r2,r3⟩:=best_row h
   have hl:leftLen l k=x.left.length:=by unfold leftLen;rw[h.at'];rfl
   have ih:=parts_say n (p+x.left.length) (by omega) hle (fun c hc2=>hc c (by
    rw[show s.drop (p+x.left.length)=(s.drop p).drop x.left.length by rw[List.drop_drop]]at hc2
    exact List.mem_of_mem_drop hc2)) R hR
   rw[ha]
   show deco 2 (rulesP l (⟨k,frm+p,leftLen l k⟩::partsF l frm _ (p+leftLen l k))++R)=_∧(_→_→InRows (rowAt p) (rulesP l (⟨k,frm+p,leftLen l k⟩::partsF l frm _ (p+leftLen l k))++R))
   rw[rulesP_cons (x:=⟨k,frm+p,leftLen l k⟩) h.at',hl,List.cons_append,deco_letters r3,if_pos rfl,ih.1]
   refine⟨?_,fun hr _=>⟨r1,?_⟩⟩
   ·have e:casedL 2 x.left=(s.drop p).take x.left.length:=by
     have:=left_take h
     show x.left.map upN=_
     rw[this,lowN_up fun c hc2=>hc c (List.mem_of_mem_take hc2)]
     rw[← this]
    rw[e,← List.append_assoc,← List.map_append]
    congr 2
    rw[show s.drop (p+x.left.length)=(s.drop p).drop x.left.length by rw[List.drop_drop],List.take_append_drop]
   ·rw[next_letters r3]
    have:=ih.2 hr (fun _=>by omega)
    rw[rowAt_pos (by omega)]at this
    exact this
  ·obtain rfl:p=s.length:=by omega
   have ha:allN l (lowN s) (s.length:Int)=[]:=all_end (by rw[lowN_len];omega)
   rw[ha,List.drop_length]
   refine⟨hR.deco 2,fun hr h0=>?_⟩
   rw[rowAt_pos (h0 rfl)]
   exact hr
omit A hs in
theorem most_pos {p:Nat} (hp:p<s.length):0<mostN s p:=by
 unfold mostN
 rw[List.drop_eq_getElem_cons hp]
 show 0<if _ then _ else _
 by_cases h:capB s[p]=true
 ·rw[if_pos h];omega
 ·rw[if_neg h,List.takeWhile_cons_of_pos (by simpa using h)]
  simp
omit A hs in
theorem case_all {p:Nat} (h:caseN (s.drop p)=3):∀ c ∈ s.drop p,capB c=true:=by
 unfold caseN at h
 split at h
 ·cases h
 ·split at h
  ·cases h
  ·split at h
   ·cases h
   ·split at h
    ·rename_i hk
     exact List.all_eq_true.1 hk
    ·cases h
omit A hs in
theorem most_says {p:Nat} (hp:p<s.length) {k:Nat} {x:Rl} (h:Best l (lowN s) (p:Int) (mostN s p:Int) k x):casedL (if capB (s.getD p 0)=true then 1 else 0) x.left=(s.drop p).take x.left.length:=by
 have hl:=left_take h
 obtain⟨-,-,-,-,hm,-,-⟩:=elig_parts h.elig
 have h0:=(elig_len h.elig).2
 have hd:=List.drop_eq_getElem_cons hp
 have hg:s.getD p 0=s[p]:=by rw[List.getD_eq_getElem?_getD,List.getElem?_eq_getElem hp];rfl
 rw[hg]
 unfold mostN at hm
 rw[hd]at hm
 simp only[]at hm
 obtain⟨m,hxm⟩:∃ m,x.left.length=m+1:=⟨x.left.length - 1,by omega⟩
 by_cases hcap:capB s[p]=true
 ·rw[if_pos hcap]at hm ⊢
  rw[hxm]at hm ⊢
  rw[hxm,hd,List.take_succ_cons]at hl
  rw[hd,List.take_succ_cons]
  have hm:m≤((s.drop (p+1)).takeWhile fun c=>!capB c).length:=by omega
  have hsm:∀ c ∈ (s.drop (p+1)).take m,capB c=false:=fun c hc=>by
   have hpre:(s.drop (p+1)).take m <+: (s.drop (p+1)).takeWhile fun c=>!capB c:=List.prefix_of_prefix_length_le (List.take_prefix _ _) (List.takeWhile_prefix _) (by rw[List.length_take];omega)
   have:=List.all_eq_true.1 List.all_takeWhile c (hpre.subset hc)
   simpa using this
  rw[hl]
  show casedL 1 (smallN s[p]::lowN ((s.drop (p+1)).take m))=_
  show upN (smallN s[p])::lowN ((s.drop (p+1)).take m)=_
  rw[up_low hcap,lowN_same hsm]
 ·rw[if_neg hcap]at hm ⊢
  have hsm:∀ c ∈ (s.drop p).take x.left.length,capB c=false:=fun c hc=>by
   have hpre:(s.drop p).take x.left.length <+: (s.drop p).takeWhile fun c=>!capB c:=List.prefix_of_prefix_length_le (List.take_prefix _ _) (List.takeWhile_prefix _) (by rw[List.length_take,hd];omega)
   have:=List.all_eq_true.1 List.all_takeWhile c (hpre.subset hc)
   simpa using this
  rw[lowN_same hsm]at hl
  exact hl
theorem run_say:∀ (n p:Nat),s.length - p≤n→p≤s.length→∀ R,Free R →
  deco 0 (rulesP l (runF l s frm n p)++R)=(s.drop p).map (fun a=>((1:Int),a))++deco 0 R∧(InRows 2 R→(p=s.length→0<p)→InRows (rowAt p) (rulesP l (runF l s frm n p)++R))
 | 0,p,hn,hp,R,hR=>by
  obtain rfl:p=s.length:=by omega
  rw[List.drop_length]
  exact⟨rfl,fun hr h0=>by rw[rowAt_pos (h0 rfl)];exact hr⟩
 | n+1,p,hn,hp,R,hR=>by
  by_cases hlt:p<s.length
  ·have hne:s≠[]:=fun e=>by rw[e]at hlt;exact absurd hlt (by simp)
   by_cases hcs:caseN (s.drop p)=3
   ·obtain⟨y,y1,y2,y3⟩:=rule_has A (sign_want capsS (by decide))
    have e:runF l s frm (n+1) p=⟨ruleN l 8 capsS,frm+p,0⟩::partsF l frm (allN l (lowN s) (p:Int)) p:=by
     show (if p<s.length then _ else _)=_
     rw[if_pos hlt,if_pos hcs]
    have hP:=parts_say A hs frm s.length p (by omega) hp (case_all hcs) R hR
    rw[e,rulesP_cons (x:=⟨ruleN l 8 capsS,frm+p,0⟩) y1,List.cons_append,deco_caps y2 y3]
    refine⟨hP.1,fun hr h0=>⟨?_,?_⟩⟩
    ·unfold inB rowAt
     rw[decide_eq_true (p:=y.what=6∨y.what=8) (.inr y2)]
     by_cases h:p=0
     ·rw[if_pos h];rfl
     ·rw[if_neg h];rfl
    ·have e2:nextR (rowAt p) y=rowAt p:=by
      unfold nextR
      rw[if_neg (show ¬ y.what≤4 by have:y.what=8:=y2;omega),if_neg (show ¬ y.what=7 by have:y.what=8:=y2;omega),if_pos y2,if_pos (.inr y3)]
     rw[e2]
     exact hP.2 hr h0
   ·obtain⟨k,x,hb,h⟩:=best_there A (low_run hs hne) (p:=p) (by rw[lowN_len];exact hlt) (most:=(mostN s p:Int)) (by have:=most_pos hlt;omega)
    have hl:leftLen l k=x.left.length:=by unfold leftLen;rw[h.at'];rfl
    have hlen:=elig_len h.elig
    rw[lowN_len]at hlen
    obtain⟨r1,r2,r3⟩:=best_row h
    have ih:=run_say n (p+x.left.length) (by omega) (by omega) R hR
    have hsay:=most_says hlt h
    have htd:(s.drop p).take x.left.length++s.drop (p+x.left.length)=s.drop p:=by
     rw[show s.drop (p+x.left.length)=(s.drop p).drop x.left.length by rw[List.drop_drop],List.take_append_drop]
    have e:runF l s frm (n+1) p=(if capB (s.getD p 0)=true then [⟨ruleN l 8 capS,frm+p,0⟩] else [])++⟨k,frm+p,leftLen l k⟩::runF l s frm n (p+leftLen l k):=by
     show (if p<s.length then _ else _)=_
     rw[if_pos hlt,if_neg hcs,hb]
    rw[e,hl]
    by_cases hcap:capB (s.getD p 0)=true
    ·rw[if_pos hcap]at hsay ⊢
     obtain⟨y,y1,y2,y3⟩:=rule_has A (sign_want capS (by decide))
     rw[List.cons_append,List.nil_append,rulesP_cons (x:=⟨ruleN l 8 capS,frm+p,0⟩) y1,rulesP_cons (x:=⟨k,frm+p,x.left.length⟩) h.at',List.cons_append,List.cons_append,deco_cap y2 y3,deco_letters r3,if_neg (by decide),hsay,ih.1]
     refine⟨by rw[← List.append_assoc,← List.map_append,htd],fun hr _=>⟨?_,?_⟩⟩
     ·unfold inB rowAt
      rw[decide_eq_true (p:=y.what=6∨y.what=8) (.inr y2)]
      by_cases h:p=0
      ·rw[if_pos h];rfl
      ·rw[if_neg h];rfl
     ·have e2:nextR (rowAt p) y=rowAt p:=by
       unfold nextR
       rw[if_neg (show ¬ y.what≤4 by have:y.what=8:=y2;omega),if_neg (show ¬ y.what=7 by have:y.what=8:=y2;omega),if_pos y2,if_pos (.inl y3)]
      rw[e2]
      refine⟨r1,?_⟩
      rw[next_letters r3]
      have:=ih.2 hr (fun _=>by omega)
      rw[rowAt_pos (by omega)]at this
      exact this
    ·rw[if_neg hcap]at hsay ⊢
     rw[List.nil_append,rulesP_cons (x:=⟨k,frm+p,x.left.length⟩) h.at',List.cons_append,deco_letters r3,if_neg (by decide),hsay,ih.1]
     refine⟨by rw[← List.append_assoc,← List.map_append,htd],fun hr _=>⟨r1,?_⟩⟩
     rw[next_letters r3]
     have:=ih.2 hr (fun _=>by omega)
     rw[rowAt_pos (by omega)]at this
     exact this
  ·obtain rfl:p=s.length:=by omega
   have e:runF l s frm (n+1) s.length=[]:=by
    show (if s.length<s.length then _ else _)=_
    rw[if_neg (Nat.lt_irrefl _)]
   rw[e,List.drop_length]
   exact⟨rfl,fun hr h0=>by rw[rowAt_pos (h0 rfl)];exact hr⟩
end
end Go.Proofs.YtlgejmcihchngaaGreatDoor.Cu
namespace Go.Proofs.YtlgejmcihchngaaGreatDoor.Cu
open Go.RowKit Ba Ru Ck Ti Pa Fl
theorem letT_let {t:List Tk} (h:t.all letT=true):LetS (chs t):=fun c hc=>by
 obtain⟨x,hx,rfl⟩:=List.mem_map.1 hc
 have:=List.all_eq_true.1 h x hx
 unfold letT smallT capT at this
 rw[Bool.or_eq_true,Bool.and_eq_true,Bool.and_eq_true]at this
 rcases this with⟨-,h⟩ | ⟨-,h⟩
 ·exact .inl h
 ·exact .inr h
theorem letT_bare {t:List Tk} (h:t.all letT=true):(chs t).map (fun a=>((1:Int),a))=t.map bare:=by
 unfold chs
 rw[List.map_map]
 refine List.map_congr_left fun x hx=>?_
 have:=List.all_eq_true.1 h x hx
 unfold letT smallT capT at this
 rw[Bool.or_eq_true,Bool.and_eq_true,Bool.and_eq_true]at this
 have hk:x.kind=1:=by rcases this with⟨h,-⟩ | ⟨h,-⟩<;>exact of_decide_eq_true h
 unfold bare
 show ((1:Int),x.ch)=_
 rw[hk]
theorem takeWhile_all (p:Tk→Bool) (t:List Tk):(t.takeWhile p).all p=true:=List.all_takeWhile
section
variable {pr:List Nat→Option (List Nat)} {l:List Rl} (A:Acc pr l)
include A
omit A in
theorem spell_sub {i:Nat} {behind:Bool} {x:Tk} {r:List Tk} {n:Nat}:spellF l (n+1) i behind (x::r) =
  if letT x=true then (if behind=true then [⟨ruleN l 8 letS,i,0⟩] else [])++runN l (chs ((x::r).takeWhile letT)) i++spellF l n (i+((x::r).takeWhile letT).length) false ((x::r).dropWhile letT)
  else if digT x=true then (if behind=true then [] else [⟨ruleN l 8 numS,i,0⟩])++⟨ruleN l 7 [x.ch],i,1⟩::spellF l n (i+1) true r
  else if mrkT x=true then ⟨ruleN l 6 [x.ch],i,1⟩::spellF l n (i+1) false r
  else ⟨ruleN l 8 (nameT x),i,1⟩::spellF l n (i+1) false r:=rfl
theorem spell_free:∀ (n i:Nat) (t:List Tk),chunkB t=true→(∀ x r,t=x::r→letT x=false)→Free (rulesP l (spellF l n i false t))
 | 0,_,_,_,_=>fun x r h=>by cases h
 | n+1,_,[],_,_=>fun x r h=>by cases h
 | n+1,i,x::t,hc,hl=>by
  have hx:=hl x t rfl
  have hcx:tokT x=true:=List.all_eq_true.1 hc x (List.mem_cons_self ..)
  rw[spell_sub,if_neg (by rw[hx];decide)]
  by_cases hd:digT x=true
  ·obtain⟨y,y1,y2,y3⟩:=rule_has A (sign_want numS (by decide))
   rw[if_pos hd,if_neg (by decide),List.cons_append,rulesP_cons (x:=⟨ruleN l 8 numS,i,0⟩) y1]
   intro z r h
   injection h with h _
   subst h
   exact⟨.inr y2,by rw[y3];decide,by rw[y3];decide⟩
  ·rw[if_neg hd]
   by_cases hm:mrkT x=true
   ·have hmm:x.ch ∈ Ka.markL:=by
     unfold mrkT at hm
     rw[Bool.and_eq_true]at hm
     exact List.contains_iff_mem.1 hm.2
    obtain⟨y,y1,y2,y3⟩:=rule_has A (mark_want x.ch hmm)
    rw[if_pos hm,rulesP_cons (x:=⟨ruleN l 6 [x.ch],i,1⟩) y1]
    intro z r h
    injection h with h _
    subst h
    exact⟨.inl y2,by rw[y3];simp[capS],by rw[y3];simp[capsS]⟩
   ·rw[if_neg hm]
    obtain⟨n1,n2,n3,-⟩:=name_has hcx hx (by simpa using hd) (by simpa using hm)
    obtain⟨y,y1,y2,y3⟩:=rule_has A (sign_want (nameT x) n1)
    rw[rulesP_cons (x:=⟨ruleN l 8 (nameT x),i,1⟩) y1]
    intro z r h
    injection h with h _
    subst h
    exact⟨.inr y2,by rw[y3];exact n2,by rw[y3];exact n3⟩
omit A in
theorem in_sign {y:Rl} (h:y.what=6∨y.what=8) {row:Int} (hr:1≤row∧row≤3):inB y row=true:=by
 unfold inB
 rw[decide_eq_true hr,decide_eq_true h]
 rfl
theorem spell_say:∀ (n i:Nat) (behind:Bool) (t:List Tk),t.length≤n→chunkB t=true →
  deco 0 (rulesP l (spellF l n i behind t))=t.map bare∧∀ row:Int,(behind=true→row=3)→(behind=false→row=1∨row=2∧∀ x r,t=x::r→letT x=false)→InRows row (rulesP l (spellF l n i behind t))
 | 0,i,behind,t,hn,_=>by
  have:t=[]:=List.length_eq_zero_iff.1 (by omega)
  subst this
  exact⟨rfl,fun _ _ _=>trivial⟩
 | n+1,i,behind,[],_,_=>⟨rfl,fun _ _ _=>trivial⟩
 | n+1,i,behind,x::t,hn,hc=>by
  have hcx:tokT x=true:=List.all_eq_true.1 hc x (List.mem_cons_self ..)
  have hct:chunkB t=true:=List.all_eq_true.2 fun y hy=>List.all_eq_true.1 hc y (List.mem_cons_of_mem _ hy)
  have hn:t.length≤n:=by simpa using hn
  rw[spell_sub]
  by_cases hx:letT x=true
  ·rw[if_pos hx]
   have hsplit:(x::t).takeWhile letT++(x::t).dropWhile letT=x::t:=List.takeWhile_append_dropWhile
   have htw:(x::t).takeWhile letT=x::t.takeWhile letT:=List.takeWhile_cons_of_pos hx
   have hdw:(x::t).dropWhile letT=t.dropWhile letT:=List.dropWhile_cons_of_pos hx
   have hall:=takeWhile_all letT (x::t)
   have hls:=letT_let hall
   have hdl:((x::t).dropWhile letT).length≤n:=by
    rw[hdw]
    exact Nat.le_trans (List.dropWhile_sublist _).length_le hn
   have hdc:chunkB ((x::t).dropWhile letT)=true:=List.all_eq_true.2 fun y hy=>List.all_eq_true.1 hc y ((List.dropWhile_sublist _).subset hy)
   have hhead:∀ y r,(x::t).dropWhile letT=y::r→letT y=false:=fun y r h=>by
    have:=List.head?_dropWhile_not letT (x::t)
    rw[h]at this
    simpa using this
   have hfree:=spell_free A n (i+((x::t).takeWhile letT).length) ((x::t).dropWhile letT) hdc hhead
   obtain⟨ih1,ih2⟩:=spell_say n (i+((x::t).takeWhile letT).length) false ((x::t).dropWhile letT) hdl hdc
   have hlen:0<(chs ((x::t).takeWhile letT)).length:=by rw[htw];unfold chs;simp
   obtain⟨q1,q2⟩:=run_say A hls i (chs ((x::t).takeWhile letT)).length 0 (by omega) (Nat.zero_le _) _ hfree
   rw[List.drop_zero,letT_bare hall,ih1,← List.map_append,hsplit]at q1
   have q2:=q2 (ih2 2 (fun h=>by cases h) (fun _=>.inr ⟨rfl,hhead⟩)) (fun h=>by omega)
   cases behind with
   | false =>
    rw[if_neg (by decide),List.nil_append,rulesP_append]
    refine⟨q1,fun row _ hr=>?_⟩
    rcases hr rfl with rfl | ⟨-,h⟩
    ·exact q2
    ·rw[h x t rfl]at hx;cases hx
   | true =>
    obtain⟨y,y1,y2,y3⟩:=rule_has A (sign_want letS (by decide))
    rw[if_pos rfl,List.append_assoc,List.cons_append,List.nil_append,rulesP_cons (x:=⟨ruleN l 8 letS,i,0⟩) y1,rulesP_append,deco_skip y2 (.inr y3)]
    refine⟨q1,fun row hr _=>?_⟩
    have hr:=hr rfl
    refine⟨in_sign (.inr y2) (by omega),?_⟩
    have e2:nextR row y=1:=by
     unfold nextR
     have y8:y.what=8:=y2
     rw[if_neg (by omega),if_neg (by omega),if_pos y8,if_neg (by rw[show y.left=letS from y3];decide),if_neg (by rw[show y.left=letS from y3];decide)]
    rw[e2]
    exact q2
  ·have hx:letT x=false:=by simpa using hx
   rw[if_neg (by rw[hx];decide)]
   by_cases hd:digT x=true
   ·have hdd:x.kind=1∧48≤x.ch∧x.ch≤57:=by
     unfold digT at hd
     rw[Bool.and_eq_true]at hd
     exact⟨of_decide_eq_true hd.1,of_decide_eq_true hd.2⟩
    have hw:=digit_want ⟨x.ch - 48,by omega⟩
    simp only[]at hw
    rw[show 48+(x.ch - 48)=x.ch by omega]at hw
    obtain⟨y,y1,y2,y3⟩:=rule_has A hw
    have y7:y.what=7:=y2
    have yl:y.left=[x.ch]:=y3
    obtain⟨ih1,ih2⟩:=spell_say n (i+1) true t hn hct
    have hb:bare x=(1,x.ch):=by unfold bare;rw[hdd.1]
    have hdy:∀ c,deco c (y::rulesP l (spellF l n (i+1) true t))=(x::t).map bare:=fun c=>by
     rw[deco_cons,if_neg (show ¬ y.what≤4 by omega),if_neg (show ¬ y.what=8 by omega),yl,ih1,List.map_cons,hb]
     rfl
    have hry:∀ row:Int,row=3→InRows row (y::rulesP l (spellF l n (i+1) true t)):=fun row hr=>by
     subst hr
     refine⟨?_,?_⟩
     ·unfold inB
      rw[y7];decide
     ·have e2:nextR 3 y=3:=by unfold nextR;rw[if_neg (by omega),if_pos y7]
      rw[e2]
      exact ih2 3 (fun _=>rfl) (fun h=>by cases h)
    rw[if_pos hd]
    cases behind with
    | true =>
     rw[if_pos rfl,List.nil_append,rulesP_cons (x:=⟨ruleN l 7 [x.ch],i,1⟩) y1]
     exact⟨hdy 0,fun row hr _=>hry row (hr rfl)⟩
    | false =>
     obtain⟨z,z1,z2,z3⟩:=rule_has A (sign_want numS (by decide))
     have z8:z.what=8:=z2
     rw[if_neg (by decide),List.cons_append,List.nil_append,rulesP_cons (x:=⟨ruleN l 8 numS,i,0⟩) z1,rulesP_cons (x:=⟨ruleN l 7 [x.ch],i,1⟩) y1,deco_skip z2 (.inl z3)]
     refine⟨hdy 0,fun row _ hr=>?_⟩
     have hr3:1≤row∧row≤3:=by rcases hr rfl with rfl | ⟨rfl,-⟩<;>omega
     refine⟨in_sign (.inr z2) hr3,hry _ ?_⟩
     unfold nextR
     rw[if_neg (by omega),if_neg (by omega),if_pos z8,if_neg (by rw[show z.left=numS from z3];decide),if_pos z3]
   ·rw[if_neg hd]
    obtain⟨ih1,ih2⟩:=spell_say n (i+1) false t hn hct
    have ihr:=ih2 1 (fun h=>by cases h) (fun _=>.inl rfl)
    have hr3:∀ row:Int,(behind=true→row=3)→(behind=false→row=1∨row=2∧∀ z r,x::t=z::r→letT z=false)→1≤row∧row≤3:=fun row h1 h2=>by
     cases behind with
     | true=>have:=h1 rfl;omega
     | false=>rcases h2 rfl with h | ⟨h,-⟩<;>omega
    by_cases hm:mrkT x=true
    ·have hmm:x.kind=1∧x.ch ∈ Ka.markL:=by
      unfold mrkT at hm
      rw[Bool.and_eq_true]at hm
      exact⟨of_decide_eq_true hm.1,List.contains_iff_mem.1 hm.2⟩
     obtain⟨y,y1,y2,y3⟩:=rule_has A (mark_want x.ch hmm.2)
     have y6:y.what=6:=y2
     have yl:y.left=[x.ch]:=y3
     rw[if_pos hm,rulesP_cons (x:=⟨ruleN l 6 [x.ch],i,1⟩) y1]
     refine⟨?_,fun row h1 h2=>⟨in_sign (.inl y2) (hr3 row h1 h2),?_⟩⟩
     ·rw[deco_cons,if_neg (show ¬ y.what≤4 by omega),if_neg (show ¬ y.what=8 by omega),yl,ih1,List.map_cons]
      have hb:bare x=(1,x.ch):=by unfold bare;rw[hmm.1]
      rw[hb]
      rfl
     ·have e2:nextR row y=1:=by unfold nextR;rw[if_neg (by omega),if_neg (by omega),if_neg (by omega)]
      rw[e2]
      exact ihr
    ·rw[if_neg hm]
     obtain⟨n1,n2,n3,n4,n5,n6⟩:=name_has hcx hx (by simpa using hd) (by simpa using hm)
     obtain⟨y,y1,y2,y3⟩:=rule_has A (sign_want (nameT x) n1)
     have y8:y.what=8:=y2
     have yl:y.left=nameT x:=y3
     rw[rulesP_cons (x:=⟨ruleN l 8 (nameT x),i,1⟩) y1]
     refine⟨?_,fun row h1 h2=>⟨in_sign (.inr y2) (hr3 row h1 h2),?_⟩⟩
     ·rw[deco_cons,if_neg (show ¬ y.what≤4 by omega),if_pos y8,yl,if_neg n2,if_neg n3,if_neg (by rintro(h | h);exact n4 h;exact n5 h),n6,ih1,List.map_cons]
     ·have e2:nextR row y=1:=by
       unfold nextR
       rw[if_neg (by omega),if_neg (by omega),if_pos y8,yl,if_neg (by rintro(h | h);exact n2 h;exact n3 h),if_neg n4]
      rw[e2]
      exact ihr
theorem spelled_say {t:List Tk} (h:chunkB t=true):deco 0 (rulesP l (spellN l t))=t.map bare∧InRows 1 (rulesP l (spellN l t)):=by
 obtain⟨h1,h2⟩:=spell_say A t.length 0 false t (Nat.le_refl _) h
 exact⟨h1,h2 1 (fun h=>by cases h) (fun _=>.inl rfl)⟩
end
end Go.Proofs.YtlgejmcihchngaaGreatDoor.Cu
namespace Go.Proofs.YtlgejmcihchngaaGreatDoor.Cu
open Go.RowKit Ba Ru Ck Ti Pa Fl
theorem flat_rules (l:List Rl):∀ p:List Pc,(p.flatMap fun x=>(l[x.rule]?.map (·.cells)).getD [])=cellsR (rulesP l p)
 | []=>rfl
 | x::p=>by
  rw[List.flatMap_cons,flat_rules l p]
  cases h:l[x.rule]? with
  | none =>
   have:rulesP l (x::p)=rulesP l p:=List.filterMap_cons_none (f:=fun x:Pc=>l[x.rule]?) h
   rw[this];rfl
  | some y =>
   rw[rulesP_cons h]
   rfl
def Valid (l:List Rl) (p:List Pc):Prop:=∀ x ∈ p,x.rule<l.length
theorem cells_valid {l:List Rl} {p:List Pc} (h:Valid l p):cellsP l p=cellsR (rulesP l p):=by
 unfold cellsP
 rw[if_pos (List.all_eq_true.2 fun x hx=>decide_eq_true (h x hx)),flat_rules]
theorem Valid.nil (l:List Rl):Valid l []:=fun x hx=>by cases hx
theorem Valid.cons {l:List Rl} {x:Pc} {p:List Pc} {y:Rl} (hx:l[x.rule]?=some y) (hp:Valid l p):Valid l (x::p):=fun z hz=>by
 rcases List.mem_cons.1 hz with rfl | hz
 ·exact(List.getElem?_eq_some_iff.1 hx).1
 ·exact hp z hz
theorem Valid.append {l:List Rl} {p q:List Pc} (hp:Valid l p) (hq:Valid l q):Valid l (p++q):=fun z hz=>(List.mem_append.1 hz).elim (hp z) (hq z)
section
variable {pr:List Nat→Option (List Nat)} {l:List Rl} (A:Acc pr l)
include A
theorem parts_valid {s:List Nat} (hs:LetS s) (frm:Nat):∀ (n p:Nat),s.length - p≤n→Valid l (partsF l frm (allN l (lowN s) (p:Int)) p)
 | n,p,hn=>by
  by_cases hlt:p<s.length
  ·obtain⟨n,rfl⟩:∃ m,n=m+1:=⟨n - 1,by omega⟩
   have hne:s≠[]:=fun e=>by rw[e]at hlt;exact absurd hlt (by simp)
   obtain⟨k,x,h,-,ha,h0,-⟩:=all_step A (low_run hs hne) (p:=p) (by rw[lowN_len];exact hlt)
   have hl:leftLen l k=x.left.length:=by unfold leftLen;rw[h.at'];rfl
   rw[ha]
   show Valid l (⟨k,frm+p,leftLen l k⟩::partsF l frm _ (p+leftLen l k))
   rw[hl]
   exact .cons (x:=⟨k,frm+p,x.left.length⟩) h.at' (parts_valid hs frm n (p+x.left.length) (by omega))
  ·rw[all_end (by rw[lowN_len];omega)]
   exact .nil l
theorem run_valid {s:List Nat} (hs:LetS s) (frm:Nat):∀ (n p:Nat),Valid l (runF l s frm n p)
 | 0,_=>.nil l
 | n+1,p=>by
  show Valid l (if p<s.length then _ else _)
  by_cases hlt:p<s.length
  ·rw[if_pos hlt]
   by_cases hcs:caseN (s.drop p)=3
   ·rw[if_pos hcs]
    obtain⟨y,y1,-,-⟩:=rule_has A (sign_want capsS (by decide))
    exact .cons (x:=⟨ruleN l 8 capsS,frm+p,0⟩) y1 (parts_valid A hs frm s.length p (by omega))
   ·rw[if_neg hcs]
    cases hb:bestN l (lowN s) (p:Int) (mostN s p:Int) with
    | none=>exact .nil l
    | some k =>
     obtain⟨x,h⟩:=best_some hb
     refine .append ?_ (.cons (x:=⟨k,frm+p,leftLen l k⟩) h.at' (run_valid hs frm n _))
     by_cases hcap:capB (s.getD p 0)=true
     ·rw[if_pos hcap]
      obtain⟨y,y1,-,-⟩:=rule_has A (sign_want capS (by decide))
      exact .cons (x:=⟨ruleN l 8 capS,frm+p,0⟩) y1 (.nil l)
     ·rw[if_neg hcap];exact .nil l
  ·rw[if_neg hlt];exact .nil l
theorem spell_valid:∀ (n i:Nat) (behind:Bool) (t:List Tk),chunkB t=true→Valid l (spellF l n i behind t)
 | 0,_,_,_,_=>.nil l
 | n+1,_,_,[],_=>.nil l
 | n+1,i,behind,x::t,hc=>by
  have hcx:tokT x=true:=List.all_eq_true.1 hc x (List.mem_cons_self ..)
  have hct:chunkB t=true:=List.all_eq_true.2 fun y hy=>List.all_eq_true.1 hc y (List.mem_cons_of_mem _ hy)
  rw[spell_sub]
  by_cases hx:letT x=true
  ·rw[if_pos hx]
   have hdc:chunkB ((x::t).dropWhile letT)=true:=List.all_eq_true.2 fun y hy=>List.all_eq_true.1 hc y ((List.dropWhile_sublist _).subset hy)
   refine .append (.append ?_ (run_valid A (letT_let (takeWhile_all letT (x::t))) i _ _)) (spell_valid n _ false _ hdc)
   cases behind with
   | false=>rw[if_neg (by decide)];exact .nil l
   | true =>
    rw[if_pos rfl]
    obtain⟨y,y1,-,-⟩:=rule_has A (sign_want letS (by decide))
    exact .cons (x:=⟨ruleN l 8 letS,i,0⟩) y1 (.nil l)
  ·rw[if_neg hx]
   have hx:letT x=false:=by simpa using hx
   by_cases hd:digT x=true
   ·have hdd:48≤x.ch∧x.ch≤57:=by
     unfold digT at hd
     rw[Bool.and_eq_true]at hd
     exact of_decide_eq_true hd.2
    have hw:=digit_want ⟨x.ch - 48,by omega⟩
    simp only[]at hw
    rw[show 48+(x.ch - 48)=x.ch by omega]at hw
    obtain⟨y,y1,-,-⟩:=rule_has A hw
    rw[if_pos hd]
    refine .append ?_ (.cons (x:=⟨ruleN l 7 [x.ch],i,1⟩) y1 (spell_valid n _ true t hct))
    cases behind with
    | true=>rw[if_pos rfl];exact .nil l
    | false =>
     rw[if_neg (by decide)]
     obtain⟨z,z1,-,-⟩:=rule_has A (sign_want numS (by decide))
     exact .cons (x:=⟨ruleN l 8 numS,i,0⟩) z1 (.nil l)
   ·rw[if_neg hd]
    by_cases hm:mrkT x=true
    ·have hmm:x.ch ∈ Ka.markL:=by
      unfold mrkT at hm
      rw[Bool.and_eq_true]at hm
      exact List.contains_iff_mem.1 hm.2
     obtain⟨y,y1,-,-⟩:=rule_has A (mark_want x.ch hmm)
     rw[if_pos hm]
     exact .cons (x:=⟨ruleN l 6 [x.ch],i,1⟩) y1 (spell_valid n _ false t hct)
    ·obtain⟨n1,-⟩:=name_has hcx hx (by simpa using hd) (by simpa using hm)
     obtain⟨y,y1,-,-⟩:=rule_has A (sign_want (nameT x) n1)
     rw[if_neg hm]
     exact .cons (x:=⟨ruleN l 8 (nameT x),i,1⟩) y1 (spell_valid n _ false t hct)
theorem sign_word {y x:Rl} (hy:y ∈ l) (hx:x ∈ l) (h8:y.what=8) (h5:x.what=5):¬ y.cells <+: x.cells:=fun h=>by
 have hne:y≠x:=fun e=>by rw[e]at h8;omega
 have:=apart_ne A.apart y hy x hx hne
 unfold clashB at this
 rw[decide_eq_true (p:=y.what=8∧x.what=5) ⟨h8,h5⟩,List.isPrefixOf_iff_prefix.2 h]at this
 simp at this
theorem sign_sign {y z:Rl} (hy:y ∈ l) (hz:z ∈ l) (hy8:y.what=8) (hz8:z.what=8) (hne:y.left≠z.left) (b d:List Nat):¬ (y.cells++b <+: z.cells++d):=fun h=>by
 have:=same_of A.apart (row:=1) hy hz (in_sign (.inr hy8) (by omega)) (in_sign (.inr hz8) (by omega)) (over_of h)
 exact hne (by rw[this])
theorem sign_is {s:List Nat} (hs:s ∈ namesL):∃ y,l[ruleN l 8 s]?=some y∧y ∈ l∧y.what=8∧y.left=s∧signC l s=y.cells:=by
 obtain⟨y,y1,y2,y3⟩:=rule_has A (sign_want s hs)
 refine⟨y,y1,List.mem_of_getElem? y1,y2,y3,?_⟩
 have:=sign_of A.apart y1 y2
 have y3:y.left=s:=y3
 rw[y3]at this
 exact this
theorem word_form {t:List Tk} {p:List Pc} (h:wordP l t=some p):t.all letT=true∧Valid l p∧∃ x,x ∈ l∧x.what=5∧x.left=lowN (chs t) ∧
  (caseN (chs t)=1∧rulesP l p=[x]∨(∃ y,y ∈ l∧y.what=8∧y.left=capS∧caseN (chs t)=2∧rulesP l p=[y,x])∨(∃ y,y ∈ l∧y.what=8∧y.left=capsS∧caseN (chs t)=3∧rulesP l p=[y,x])):=by
 unfold wordP at h
 by_cases ha:t.all letT=true
 ·rw[if_pos ha]at h
  cases hf:findN l 5 (lowN (chs t)) with
  | none=>rw[hf]at h;cases h
  | some k =>
   rw[hf]at h
   simp only[]at h
   obtain⟨hk,hd,-⟩:=List.findIdx?_eq_some_iff_getElem.1 hf
   have hx:l[k]?=some l[k]:=List.getElem?_eq_getElem hk
   obtain⟨d1,d2⟩:=of_decide_eq_true hd
   have hmem:=List.mem_of_getElem? hx
   split at h
   ·rename_i hc
    cases h
    exact⟨ha,.cons (x:=⟨k,0,t.length⟩) hx (.nil l),l[k],hmem,d1,d2,.inl ⟨hc,by rw[rulesP_cons (x:=⟨k,0,t.length⟩) hx];rfl⟩⟩
   ·rename_i hc
    cases h
    obtain⟨y,y1,y2,y3,y4,-⟩:=sign_is A (s:=capS) (by decide)
    exact⟨ha,.cons (x:=⟨ruleN l 8 capS,0,0⟩) y1 (.cons (x:=⟨k,0,t.length⟩) hx (.nil l)),l[k],hmem,d1,d2,.inr (.inl ⟨y,y2,y3,y4,hc,by rw[rulesP_cons (x:=⟨ruleN l 8 capS,0,0⟩) y1,rulesP_cons (x:=⟨k,0,t.length⟩) hx];rfl⟩)⟩
   ·rename_i hc
    cases h
    obtain⟨y,y1,y2,y3,y4,-⟩:=sign_is A (s:=capsS) (by decide)
    exact⟨ha,.cons (x:=⟨ruleN l 8 capsS,0,0⟩) y1 (.cons (x:=⟨k,0,t.length⟩) hx (.nil l)),l[k],hmem,d1,d2,.inr (.inr ⟨y,y2,y3,y4,hc,by rw[rulesP_cons (x:=⟨ruleN l 8 capsS,0,0⟩) y1,rulesP_cons (x:=⟨k,0,t.length⟩) hx];rfl⟩)⟩
   ·cases h
 ·rw[if_neg ha]at h;cases h
theorem wordN_has {x:Rl} (hx:x ∈ l) (h5:x.what=5):(wordN l x.cells).isSome=true:=by
 obtain⟨k,hk,e⟩:=List.getElem_of_mem hx
 have hk2:l[k]?=some x:=by rw[← e];exact List.getElem?_eq_getElem hk
 rw[word_of A.apart hk2 h5]
 rfl
theorem looks_word {t:List Tk} {p:List Pc} (h:wordP l t=some p):looksB l (cellsR (rulesP l p))=true:=by
 obtain⟨-,-,x,x1,x2,-,hx⟩:=word_form A h
 obtain⟨c,-,c2,c3,c4,c5⟩:=sign_is A (s:=capS) (by decide)
 obtain⟨d,-,d2,d3,d4,d5⟩:=sign_is A (s:=capsS) (by decide)
 have single:∀ y:Rl,cellsR [y,x]=y.cells++x.cells:=fun y=>by unfold cellsR;simp
 unfold looksB
 simp only[c5,d5]
 rcases hx with⟨-,hr⟩ | ⟨y,y1,y2,y3,-,hr⟩ | ⟨y,y1,y2,y3,-,hr⟩
 ·have e:cellsR [x]=x.cells:=by unfold cellsR;simp
  rw[hr,e,if_neg (fun hk=>sign_word A c2 x1 c3 x2 (List.isPrefixOf_iff_prefix.1 hk)),if_neg (fun hk=>sign_word A d2 x1 d3 x2 (List.isPrefixOf_iff_prefix.1 hk))]
  exact wordN_has A x1 x2
 ·have e:y=c:=Classical.byContradiction fun hn=>by
   have:=apart_ne A.apart y y1 c c2 hn
   unfold clashB at this
   rw[decide_eq_true (p:=y.what=c.what∧y.left=c.left) ⟨by omega,by rw[y3,c4]⟩]at this
   simp at this
  rw[hr,single,e,if_pos (List.isPrefixOf_iff_prefix.2 (List.prefix_append _ _)),List.drop_left]
  exact wordN_has A x1 x2
 ·have e:y=d:=Classical.byContradiction fun hn=>by
   have:=apart_ne A.apart y y1 d d2 hn
   unfold clashB at this
   rw[decide_eq_true (p:=y.what=d.what∧y.left=d.left) ⟨by omega,by rw[y3,d4]⟩]at this
   simp at this
  rw[hr,single,e,if_neg (fun hk=>by
   have:=sign_sign A c2 d2 c3 d3 (by rw[c4,d4];decide) [] x.cells
   rw[List.append_nil]at this
   exact this (List.isPrefixOf_iff_prefix.1 hk)),if_pos (List.isPrefixOf_iff_prefix.2 (List.prefix_append _ _)),List.drop_left]
  exact wordN_has A x1 x2
omit A in
theorem cased_same {s s':List Nat} {c:Nat} (h:caseN s=c) (h':caseN s'=c) (h1:1≤c) (h3:c≤3) (hl:lowN s=lowN s'):s=s':=by
 have one:∀ {s:List Nat},caseN s=1→lowN s=s:=fun {s} h=>by
  unfold caseN at h
  split at h
  ·cases h
  ·split at h
   ·rename_i hk
    exact lowN_same fun c hc=>small_not (List.all_eq_true.1 hk c hc)
   ·split at h
    ·cases h
    ·split at h<;>cases h
 have three:∀ {s:List Nat},caseN s=3→(lowN s).map upN=s:=fun {s} h=>by
  unfold caseN at h
  split at h
  ·cases h
  ·split at h
   ·cases h
   ·split at h
    ·cases h
    ·split at h
     ·rename_i hk
      exact lowN_up fun c hc=>List.all_eq_true.1 hk c hc
     ·cases h
 have two:∀ {s:List Nat},caseN s=2→casedL 1 (lowN s)=s:=fun {s} h=>by
  unfold caseN at h
  split at h
  ·cases h
  ·split at h
   ·cases h
   ·split at h
    ·rename_i hk
     rw[Bool.and_eq_true]at hk
     cases s with
     | nil=>exact absurd hk.1 (by decide)
     | cons a r =>
      show upN (smallN a)::lowN r=_
      rw[up_low (c:=a) hk.1,lowN_same (s:=r) fun c hc=>small_not (List.all_eq_true.1 hk.2 c hc)]
    ·split at h<;>cases h
 obtain rfl | rfl | rfl:c=1∨c=2∨c=3:=by omega
 ·rw[← one h,← one h',hl]
 ·rw[← two h,← two h',hl]
 ·rw[← three h,← three h',hl]
def rulesO (l:List Rl) (t:List Tk):List Rl:=rulesP l (ofP l t)
theorem of_valid {t:List Tk} (h:chunkB t=true):Valid l (ofP l t):=by
 unfold ofP
 cases hw:wordP l t with
 | some p=>exact(word_form A hw).2.1
 | none =>
  have hs:=spell_valid A t.length 0 false t h
  show Valid l (if looksB l (cellsP l (spellN l t))=true then ⟨ruleN l 8 letS,0,0⟩::spellN l t else spellN l t)
  split
  ·obtain⟨y,y1,-⟩:=sign_is A (s:=letS) (by decide)
   exact .cons (x:=⟨ruleN l 8 letS,0,0⟩) y1 hs
  ·exact hs
theorem of_cases {t:List Tk} (h:chunkB t=true):(∃ p,wordP l t=some p∧rulesO l t=rulesP l p)∨(looksB l (cellsR (rulesP l (spellN l t)))=false∧rulesO l t=rulesP l (spellN l t))∨(∃ y,y ∈ l∧y.what=8∧y.left=letS∧rulesO l t=y::rulesP l (spellN l t)):=by
 have hs:=spell_valid A t.length 0 false t h
 unfold rulesO ofP
 cases hw:wordP l t with
 | some p=>exact .inl ⟨p,rfl,rfl⟩
 | none =>
  refine .inr ?_
  show (_∧rulesP l (if looksB l (cellsP l (spellN l t))=true then ⟨ruleN l 8 letS,0,0⟩::spellN l t else spellN l t)=_)∨∃ y,_∧_∧_∧rulesP l (if looksB l (cellsP l (spellN l t))=true then ⟨ruleN l 8 letS,0,0⟩::spellN l t else spellN l t)=_
  rw[cells_valid (p:=spellN l t) hs]
  by_cases hk:looksB l (cellsR (rulesP l (spellN l t)))=true
  ·rw[if_pos hk]
   obtain⟨y,y1,y2,y3,y4,-⟩:=sign_is A (s:=letS) (by decide)
   exact .inr ⟨y,y2,y3,y4,by rw[rulesP_cons (x:=⟨ruleN l 8 letS,0,0⟩) y1]⟩
  ·rw[if_neg hk]
   exact .inl ⟨by simpa using hk,rfl⟩
theorem spell_first {t:List Tk} (h:chunkB t=true) {y:Rl} {r:List Rl} (he:rulesP l (spellN l t)=y::r) (h8:y.what=8):y.left≠letS:=by
 unfold spellN at he
 cases t with
 | nil=>cases he
 | cons x t =>
  have hcx:tokT x=true:=List.all_eq_true.1 h x (List.mem_cons_self ..)
  rw[List.length_cons,spell_sub]at he
  by_cases hx:letT x=true
  ·rw[if_pos hx,if_neg (by decide),List.nil_append,rulesP_append]at he
   have htw:(x::t).takeWhile letT=x::t.takeWhile letT:=List.takeWhile_cons_of_pos hx
   have hls:=letT_let (takeWhile_all letT (x::t))
   generalize hse:chs ((x::t).takeWhile letT)=s at he hls
   have h0:0<s.length:=by rw[← hse,htw];unfold chs;simp
   have hne:s≠[]:=List.length_pos_iff.1 h0
   unfold runN at he
   obtain⟨m,hm⟩:∃ m,s.length=m+1:=⟨s.length - 1,by omega⟩
   rw[hm]at he
   have e:runF l s 0 (m+1) 0=if 0<s.length then (if caseN (s.drop 0)=3 then ⟨ruleN l 8 capsS,0+0,0⟩::partsF l 0 (allN l (lowN s) ((0:Nat):Int)) 0 else match bestN l (lowN s) ((0:Nat):Int) (mostN s 0:Int) with
    | none=>[]
    | some k=>(if capB (s.getD 0 0)=true then [⟨ruleN l 8 capS,0+0,0⟩] else [])++⟨k,0+0,leftLen l k⟩::runF l s 0 m (0+leftLen l k)) else []:=rfl
   rw[e,if_pos h0]at he
   by_cases hcs:caseN (s.drop 0)=3
   ·obtain⟨z,z1,z2,z3⟩:=rule_has A (sign_want capsS (by decide))
    rw[if_pos hcs,rulesP_cons (x:=⟨ruleN l 8 capsS,0+0,0⟩) z1,List.cons_append]at he
    injection he with he _
    rw[← he,show z.left=capsS from z3]
    decide
   ·rw[if_neg hcs]at he
    obtain⟨k,z,hb,hz⟩:=best_there A (low_run hls hne) (p:=0) (by rw[lowN_len];exact h0) (most:=(mostN s 0:Int)) (by have:=most_pos h0;omega)
    rw[hb]at he
    simp only[]at he
    by_cases hcap:capB (s.getD 0 0)=true
    ·obtain⟨v,v1,v2,v3⟩:=rule_has A (sign_want capS (by decide))
     rw[if_pos hcap,List.cons_append,rulesP_cons (x:=⟨ruleN l 8 capS,0+0,0⟩) v1,List.cons_append]at he
     injection he with he _
     rw[← he,show v.left=capS from v3]
     decide
    ·rw[if_neg hcap,List.nil_append,rulesP_cons (x:=⟨k,0+0,leftLen l k⟩) hz.at',List.cons_append]at he
     injection he with he _
     have:=(best_row hz).2.2
     rw[he]at this
     omega
  ·have hx:letT x=false:=by simpa using hx
   rw[if_neg (by rw[hx];decide)]at he
   by_cases hd:digT x=true
   ·obtain⟨z,z1,z2,z3⟩:=rule_has A (sign_want numS (by decide))
    rw[if_pos hd,if_neg (by decide),List.cons_append,rulesP_cons (x:=⟨ruleN l 8 numS,0,0⟩) z1]at he
    injection he with he _
    rw[← he,show z.left=numS from z3]
    decide
   ·rw[if_neg hd]at he
    by_cases hm:mrkT x=true
    ·have hmm:x.ch ∈ Ka.markL:=by
      unfold mrkT at hm
      rw[Bool.and_eq_true]at hm
      exact List.contains_iff_mem.1 hm.2
     obtain⟨z,z1,z2,z3⟩:=rule_has A (mark_want x.ch hmm)
     rw[if_pos hm,rulesP_cons (x:=⟨ruleN l 6 [x.ch],0,1⟩) z1]at he
     injection he with he _
     have:z.what=6:=z2
     rw[he]at this
     omega
    ·rw[if_neg hm]at he
     obtain⟨n1,n2,n3,n4,n5,n6⟩:=name_has hcx hx (by simpa using hd) (by simpa using hm)
     obtain⟨z,z1,z2,z3⟩:=rule_has A (sign_want (nameT x) n1)
     rw[rulesP_cons (x:=⟨ruleN l 8 (nameT x),0,1⟩) z1]at he
     injection he with he _
     rw[← he,show z.left=nameT x from z3]
     exact n5
theorem of_apart (hc:∀ x ∈ l,x.cells≠[]) {a b:List Tk} (ha:chunkB a=true) (hb:chunkB b=true) (h:cellsR (rulesO l a)=cellsR (rulesO l b)):a.map bare=b.map bare:=by
 obtain⟨sa,ra⟩:=spelled_say A ha
 obtain⟨sb,rb⟩:=spelled_say A hb
 have one:∀ xs ys:List Rl,(∀ x ∈ xs,x ∈ l)→(∀ y ∈ ys,y ∈ l)→InRows 1 xs→InRows 1 ys→cellsR xs=cellsR ys→xs=ys:=fun xs ys=>rows_one A.apart hc xs ys 1
 have letR:∀ {y:Rl} {R:List Rl},y.what=8→y.left=letS→InRows 1 R→InRows 1 (y::R):=fun {y R} h8 hl hR=>by
  refine⟨in_sign (.inr h8) (by omega),?_⟩
  have e2:nextR 1 y=1:=by
   unfold nextR
   rw[if_neg (by omega),if_neg (by omega),if_pos h8,hl,if_neg (by decide),if_neg (by decide)]
  rw[e2]
  exact hR
 have memC:∀ {y:Rl} {R:List Rl},y ∈ l→(∀ x ∈ R,x ∈ l)→∀ x ∈ y::R,x ∈ l:=fun {y R} hy hR x hx=>(List.mem_cons.1 hx).elim (fun e=>e▸hy) (hR x)
 have cons:∀ (y:Rl) (R:List Rl),cellsR (y::R)=y.cells++cellsR R:=fun y R=>by unfold cellsR;rw[List.flatMap_cons]
 have nil:cellsR []=[]:=rfl
 -- a word and what is none
 have wordNot:∀ {t:List Tk} {p:List Pc} {y:Rl} {R:List Rl},wordP l t=some p→y ∈ l→y.what=8→y.left=letS→cellsR (rulesP l p)≠cellsR (y::R):=fun {t p y R} hw hy h8 hl he=>by
  obtain⟨-,-,x,x1,x2,-,hx⟩:=word_form A hw
  rw[cons]at he
  rcases hx with⟨-,hr⟩ | ⟨z,z1,z2,z3,-,hr⟩ | ⟨z,z1,z2,z3,-,hr⟩
  ·rw[hr,cons,nil,List.append_nil]at he
   exact sign_word A hy x1 h8 x2 (by rw[he];exact List.prefix_append _ _)
  ·rw[hr,cons]at he
   exact sign_sign A z1 hy z2 h8 (by rw[z3,hl];decide) _ _ (by rw[he];exact List.prefix_rfl)
  ·rw[hr,cons]at he
   exact sign_sign A z1 hy z2 h8 (by rw[z3,hl];decide) _ _ (by rw[he];exact List.prefix_rfl)
 have wordWord:∀ {t u:List Tk} {p q:List Pc},wordP l t=some p→wordP l u=some q→cellsR (rulesP l p)=cellsR (rulesP l q)→t.map bare=u.map bare:=fun {t u p q} hp hq he=>by
  obtain⟨t1,-,x,x1,x2,x3,hx⟩:=word_form A hp
  obtain⟨u1,-,y,y1,y2,y3,hy⟩:=word_form A hq
  have fin:∀ c,1≤c→c≤3→caseN (chs t)=c→caseN (chs u)=c→x.cells=y.cells→t.map bare=u.map bare:=fun c h1 h3 e1 e2 ec=>by
   have e:x=y:=Classical.byContradiction fun hn=>by
    have:=apart_ne A.apart x x1 y y1 hn
    unfold clashB at this
    rw[decide_eq_true (p:=x.what=5∧y.what=5∧x.cells=y.cells) ⟨x2,y2,ec⟩]at this
    simp at this
   rw[← letT_bare t1,← letT_bare u1,cased_same e1 e2 h1 h3 (by rw[← x3,← y3,e])]
  have one1:∀ x:Rl,cellsR [x]=x.cells:=fun x=>by rw[cons,nil,List.append_nil]
  have two1:∀ y x:Rl,cellsR [y,x]=y.cells++x.cells:=fun y x=>by rw[cons,one1]
  have sames:∀ {z v:Rl} (c:Nat),1≤c→c≤3→z ∈ l→v ∈ l→z.what=8→v.what=8→z.left=v.left→caseN (chs t)=c→caseN (chs u)=c→z.cells++x.cells=v.cells++y.cells→t.map bare=u.map bare:=fun {z v} c h1 h3 hz hv z8 v8 hl cx cy he=>by
   have e:z=v:=same_of A.apart (row:=1) hz hv (in_sign (.inr z8) (by omega)) (in_sign (.inr v8) (by omega)) (over_of (b:=x.cells) (d:=y.cells) (by rw[he];exact List.prefix_rfl))
   rw[e]at he
   exact fin c h1 h3 cx cy (List.append_cancel_left he)
  rcases hx with⟨cx,rx⟩ | ⟨z,z1,z2,z3,cx,rx⟩ | ⟨z,z1,z2,z3,cx,rx⟩<;>rcases hy with⟨cy,ry⟩ | ⟨v,v1,v2,v3,cy,ry⟩ | ⟨v,v1,v2,v3,cy,ry⟩
  ·rw[rx,ry,one1,one1]at he
   exact fin 1 (by omega) (by omega) cx cy he
  ·rw[rx,ry,one1,two1]at he
   exact absurd (by rw[he];exact List.prefix_append _ _) (sign_word A v1 x1 v2 x2)
  ·rw[rx,ry,one1,two1]at he
   exact absurd (by rw[he];exact List.prefix_append _ _) (sign_word A v1 x1 v2 x2)
  ·rw[rx,ry,two1,one1]at he
   exact absurd (by rw[← he];exact List.prefix_append _ _) (sign_word A z1 y1 z2 y2)
  ·rw[rx,ry,two1,two1]at he
   exact sames 2 (by omega) (by omega) z1 v1 z2 v2 (by rw[z3,v3]) cx cy he
  ·rw[rx,ry,two1,two1]at he
   exact absurd (by rw[he];exact List.prefix_rfl) (sign_sign A z1 v1 z2 v2 (by rw[z3,v3];decide) x.cells y.cells)
  ·rw[rx,ry,two1,one1]at he
   exact absurd (by rw[← he];exact List.prefix_append _ _) (sign_word A z1 y1 z2 y2)
  ·rw[rx,ry,two1,two1]at he
   exact absurd (by rw[he];exact List.prefix_rfl) (sign_sign A z1 v1 z2 v2 (by rw[z3,v3];decide) x.cells y.cells)
  ·rw[rx,ry,two1,two1]at he
   exact sames 3 (by omega) (by omega) z1 v1 z2 v2 (by rw[z3,v3]) cx cy he
 rcases of_cases A ha with⟨p,hp,ea⟩ | ⟨ka,ea⟩ | ⟨y,y1,y2,y3,ea⟩<;>rcases of_cases A hb with⟨q,hq,eb⟩ | ⟨kb,eb⟩ | ⟨z,z1,z2,z3,eb⟩
 ·rw[ea,eb]at h
  exact wordWord hp hq h
 ·rw[ea,eb]at h
  rw[← h,looks_word A hp]at kb
  cases kb
 ·rw[ea,eb]at h
  exact absurd h (wordNot hp z1 z2 z3)
 ·rw[ea,eb]at h
  rw[h,looks_word A hq]at ka
  cases ka
 ·rw[ea,eb]at h
  rw[← sa,← sb,one _ _ rulesP_mem rulesP_mem ra rb h]
 ·rw[ea,eb]at h
  have:=one _ _ rulesP_mem (memC z1 rulesP_mem) ra (letR z2 z3 rb) h
  exact absurd z3 (spell_first A ha this z2)
 ·rw[ea,eb]at h
  exact absurd h.symm (wordNot hq y1 y2 y3)
 ·rw[ea,eb]at h
  have:=one _ _ rulesP_mem (memC y1 rulesP_mem) rb (letR y2 y3 ra) h.symm
  exact absurd y3 (spell_first A hb this y2)
 ·rw[ea,eb]at h
  have:=one _ _ (memC y1 rulesP_mem) (memC z1 rulesP_mem) (letR y2 y3 ra) (letR z2 z3 rb) h
  injection this with _ e
  rw[← sa,← sb,e]
end
end Go.Proofs.YtlgejmcihchngaaGreatDoor.Cu
namespace Go.Proofs.YtlgejmcihchngaaGreatDoor.Cu
open Go.RowKit Ba Ru Ck Ti Pa Fl
theorem bare_parts {x y:Tk} (h:bare x=bare y):x.kind=y.kind∧x.ch=y.ch:=by
 unfold bare at h
 injection h with h1 h2
 exact⟨h1,h2⟩
theorem bare_sorts {x y:Tk} (h:bare x=bare y):letT x=letT y∧digT x=digT y∧mrkT x=mrkT y∧nameT x=nameT y∧tokT x=tokT y:=by
 obtain⟨h1,h2⟩:=bare_parts h
 have a:letT x=letT y:=by unfold letT smallT capT;rw[h1,h2]
 have b:digT x=digT y:=by unfold digT;rw[h1,h2]
 have c:mrkT x=mrkT y:=by unfold mrkT;rw[h1,h2]
 have d:nameT x=nameT y:=by unfold nameT;rw[h1,h2]
 exact⟨a,b,c,d,by unfold tokT;rw[a,b,c,d]⟩
theorem bare_len {s t:List Tk} (h:s.map bare=t.map bare):s.length=t.length:=by
 have:=congrArg List.length h
 rwa [List.length_map,List.length_map]at this
theorem bare_chs {s t:List Tk} (h:s.map bare=t.map bare):chs s=chs t:=by
 have:=congrArg (List.map (fun p:Int × Nat=>p.2)) h
 rwa [List.map_map,List.map_map]at this
theorem bare_all {s t:List Tk} (h:s.map bare=t.map bare):s.all letT=t.all letT:=by
 induction s generalizing t with
 | nil=>cases t with
  | nil=>rfl
  | cons y t=>cases h
 | cons x s ih=>cases t with
  | nil=>cases h
  | cons y t =>
   injection h with h1 h2
   rw[List.all_cons,List.all_cons,(bare_sorts h1).1,ih h2]
theorem bare_while {s t:List Tk} (h:s.map bare=t.map bare):(s.takeWhile letT).map bare=(t.takeWhile letT).map bare∧(s.dropWhile letT).map bare=(t.dropWhile letT).map bare:=by
 induction s generalizing t with
 | nil=>cases t with
  | nil=>exact⟨rfl,rfl⟩
  | cons y t=>cases h
 | cons x s ih=>cases t with
  | nil=>cases h
  | cons y t =>
   have h':=h
   injection h with h1 h2
   obtain⟨i1,i2⟩:=ih h2
   rw[List.takeWhile_cons,List.takeWhile_cons,List.dropWhile_cons,List.dropWhile_cons,(bare_sorts h1).1]
   cases letT y with
   | true=>exact⟨by simp only[if_true,List.map_cons,h1,i1],by simpa using i2⟩
   | false=>exact⟨rfl,by simpa using h'⟩
theorem bare_spell (l:List Rl):∀ (n i:Nat) (b:Bool) {s t:List Tk},s.map bare=t.map bare→spellF l n i b s=spellF l n i b t
 | 0,_,_,_,_,_=>rfl
 | n+1,i,b,[],[],_=>rfl
 | n+1,i,b,[],y::t,h=>by cases h
 | n+1,i,b,x::s,[],h=>by cases h
 | n+1,i,b,x::s,y::t,h=>by
  obtain⟨w1,w2⟩:=bare_while h
  have h':=h
  injection h' with h1 h2
  obtain⟨a1,a2,a3,a4,-⟩:=bare_sorts h1
  obtain⟨-,c⟩:=bare_parts h1
  unfold spellF
  rw[a1,a2,a3,a4,c,bare_chs w1,bare_len w1,bare_spell l n _ _ w2,bare_spell l n _ _ h2,bare_spell l n _ _ h2]
theorem bare_of (l:List Rl) {s t:List Tk} (h:s.map bare=t.map bare):ofP l s=ofP l t:=by
 have hw:wordP l s=wordP l t:=by unfold wordP;rw[bare_all h,bare_chs h,bare_len h]
 have hs:spellN l s=spellN l t:=by unfold spellN;rw[bare_len h,bare_spell l _ _ _ h]
 unfold ofP
 rw[hw,hs]
def okP (y:Rl) (n:Nat) (u:List Tk):Prop:=if n=0 then y.what=8∧(y.left=capS∨y.left=capsS∨y.left=numS∨y.left=letS)
 else (∀ x ∈ u,(x.kind=1↔y.what≠8))∧(y.what≠8→lowN (chs u)=y.left)∧(y.what=8→n=1∧y.left.length=2∧lowN (chs u)=y.left.take 1)
def TakeP (l:List Rl) (T:List Tk):Nat→List Pc→Nat→Prop
 | i,[],j=>i=j
 | i,x::p,j=>∃ y,l[x.rule]?=some y∧x.frm=i∧i+x.len≤T.length∧okP y x.len ((T.drop i).take x.len)∧TakeP l T (i+x.len) p j
theorem TakeP.append {l:List Rl} {T:List Tk} {q:List Pc} {k:Nat}:∀ {p:List Pc} {i j:Nat},TakeP l T i p j→TakeP l T j q k→TakeP l T i (p++q) k
 | [],i,j,h,g=>by
  obtain rfl:i=j:=h
  exact g
 | x::p,i,j,⟨y,h1,h2,h3,h4,h5⟩,g=>⟨y,h1,h2,h3,h4,TakeP.append h5 g⟩
theorem TakeP.sign {l:List Rl} {T:List Tk} {i:Nat} {p:List Pc} {j:Nat} {r:Nat} {y:Rl} (hi:i≤T.length) (h1:l[r]?=some y) (h2:y.what=8) (h3:y.left=capS∨y.left=capsS∨y.left=numS∨y.left=letS) (h:TakeP l T i p j):TakeP l T i (⟨r,i,0⟩::p) j :=
 ⟨y,h1,rfl,hi,by unfold okP;rw[if_pos rfl];exact⟨h2,h3⟩,h⟩
section
variable {pr:List Nat→Option (List Nat)} {l:List Rl} (A:Acc pr l)
include A
theorem sign_rule {s:List Nat} (hs:s ∈ namesL):∃ y,l[ruleN l 8 s]?=some y∧y.what=8∧y.left=s:=rule_has A (w:=(8,s)) (sign_want s hs)
section
variable {T:List Tk} {i:Nat} {s:List Nat} (hT:((T.drop i).take s.length).all letT=true) (hs:chs ((T.drop i).take s.length)=s) (hl:i+s.length≤T.length)
include hT hs hl
omit A hl in
theorem letters_take {p n:Nat} (h:p+n≤s.length):((T.drop (i+p)).take n).all letT=true∧chs ((T.drop (i+p)).take n)=(s.drop p).take n:=by
 have e:(T.drop (i+p)).take n=(((T.drop i).take s.length).drop p).take n:=by
  rw[List.drop_take,List.drop_drop,List.take_take,Nat.min_eq_left (by omega)]
 rw[e]
 refine⟨List.all_eq_true.2 fun x hx=>List.all_eq_true.1 hT x (List.mem_of_mem_drop (List.mem_of_mem_take hx)),?_⟩
 have e2:chs ((((T.drop i).take s.length).drop p).take n)=((chs ((T.drop i).take s.length)).drop p).take n:=by
  unfold chs
  rw[List.map_take,List.map_drop]
 rw[e2,hs]
omit A hl in
theorem letters_ok {p:Nat} {x:Rl} (h1:1≤x.what∧x.what≤4) (h0:0<x.left.length) (hx:x.left=lowN ((s.drop p).take x.left.length)) (h:p+x.left.length≤s.length):okP x x.left.length ((T.drop (i+p)).take x.left.length):=by
 obtain⟨a,b⟩:=letters_take hT hs h
 unfold okP
 rw[if_neg (by omega)]
 refine⟨fun z hz=>?_,fun _=>by rw[b];exact hx.symm,fun e=>by omega⟩
 have:=List.all_eq_true.1 a z hz
 unfold letT smallT capT at this
 rw[Bool.or_eq_true,Bool.and_eq_true,Bool.and_eq_true]at this
 have hk:z.kind=1:=by rcases this with⟨h,-⟩ | ⟨h,-⟩<;>exact of_decide_eq_true h
 exact⟨fun _=>by omega,fun _=>hk⟩
theorem parts_take (hL:LetS s):∀ (n p:Nat),s.length - p≤n→p≤s.length→TakeP l T (i+p) (partsF l i (allN l (lowN s) (p:Int)) p) (i+s.length)
 | n,p,hn,hp=>by
  by_cases hlt:p<s.length
  ·obtain⟨n,rfl⟩:∃ m,n=m+1:=⟨n - 1,by omega⟩
   have hne:s≠[]:=fun e=>by rw[e]at hlt;exact absurd hlt (by simp)
   obtain⟨k,x,h,-,ha,h0,hle⟩:=all_step A (low_run hL hne) (p:=p) (by rw[lowN_len];exact hlt)
   rw[lowN_len]at hle
   obtain⟨-,r2,r3⟩:=best_row h
   have hl2:leftLen l k=x.left.length:=by unfold leftLen;rw[h.at'];rfl
   have ih:=parts_take hL n (p+x.left.length) (by omega) hle
   rw[ha]
   show TakeP l T (i+p) (⟨k,i+p,leftLen l k⟩::partsF l i _ (p+leftLen l k)) _
   rw[hl2]
   exact⟨x,h.at',rfl,by show i+p+x.left.length≤_;omega,letters_ok hT hs ⟨r2,r3⟩ h0 (left_take h) hle,by rw[show i+p+x.left.length=i+(p+x.left.length) by omega];exact ih⟩
  ·obtain rfl:p=s.length:=by omega
   have ha:allN l (lowN s) (s.length:Int)=[]:=all_end (by rw[lowN_len];omega)
   rw[ha]
   exact rfl
theorem run_take (hL:LetS s):∀ (n p:Nat),s.length - p≤n→p≤s.length→TakeP l T (i+p) (runF l s i n p) (i+s.length)
 | 0,p,hn,hp=>by
  obtain rfl:p=s.length:=by omega
  exact rfl
 | n+1,p,hn,hp=>by
  by_cases hlt:p<s.length
  ·have hne:s≠[]:=fun e=>by rw[e]at hlt;exact absurd hlt (by simp)
   unfold runF
   rw[if_pos hlt]
   by_cases h3:caseN (s.drop p)=3
   ·rw[if_pos h3]
    obtain⟨y,y1,y2,y3⟩:=sign_rule A (s:=capsS) (by decide)
    exact TakeP.sign (by omega) y1 y2 (.inr (.inl y3)) (parts_take A hT hs hl hL (n+1) p hn hp)
   ·rw[if_neg h3]
    obtain⟨k,x,hb,h⟩:=best_there A (low_run hL hne) (p:=p) (by rw[lowN_len];exact hlt) (most:=(mostN s p:Int)) (by have:=most_pos hlt;omega)
    rw[hb]
    have h2:=elig_len h.elig
    rw[lowN_len]at h2
    have hl2:leftLen l k=x.left.length:=by unfold leftLen;rw[h.at'];rfl
    obtain⟨-,r2,r3⟩:=best_row h
    have ih:=run_take hL n (p+x.left.length) (by omega) (by omega)
    have tail:TakeP l T (i+p) (⟨k,i+p,leftLen l k⟩::runF l s i n (p+leftLen l k)) (i+s.length):=by
     rw[hl2]
     exact⟨x,h.at',rfl,by show i+p+x.left.length≤_;omega,letters_ok hT hs ⟨r2,r3⟩ h2.2 (left_take h) (by omega),by rw[show i+p+x.left.length=i+(p+x.left.length) by omega];exact ih⟩
    by_cases hc:capB (s.getD p 0)=true
    ·simp only[if_pos hc]
     obtain⟨y,y1,y2,y3⟩:=sign_rule A (s:=capS) (by decide)
     exact TakeP.sign (by omega) y1 y2 (.inl y3) tail
    ·simp only[if_neg hc]
     exact tail
  ·obtain rfl:p=s.length:=by omega
   unfold runF
   rw[if_neg hlt]
   exact rfl
end
omit A in
theorem one_take {T:List Tk} {i:Nat} {x:Tk} {r:List Tk} (h:T.drop i=x::r):i<T.length∧(T.drop i).take 1=[x]∧T.drop (i+1)=r:=by
 have hlt:i<T.length:=by
  rcases Nat.lt_or_ge i T.length with h' | h'
  ·exact h'
  ·rw[List.drop_of_length_le h']at h;cases h
 refine⟨hlt,by rw[h];rfl,?_⟩
 rw[← List.drop_drop,h]
 rfl
theorem spell_take {T:List Tk} (hT:chunkB T=true):∀ (n i:Nat) (b:Bool),T.length - i≤n→i≤T.length→TakeP l T i (spellF l n i b (T.drop i)) T.length
 | 0,i,b,hn,hi=>by
  obtain rfl:i=T.length:=by omega
  exact rfl
 | n+1,i,b,hn,hi=>by
  cases hd:T.drop i with
  | nil =>
   have:T.length≤i:=List.drop_eq_nil_iff.1 hd
   obtain rfl:i=T.length:=by omega
   exact rfl
  | cons x r =>
   obtain⟨hlt,ht,hr⟩:=one_take hd
   have hx:tokT x=true:=List.all_eq_true.1 hT x (List.mem_of_mem_drop (i:=i) (by rw[hd];exact List.mem_cons_self))
   have ih:=spell_take hT n (i+1)
   rw[hr]at ih
   have one:∀ {k:Nat} {y:Rl} {b':Bool},l[k]?=some y→okP y 1 [x]→TakeP l T i (⟨k,i,1⟩::spellF l n (i+1) b' r) T.length:=fun {k y b'} h1 h2 =>
    ⟨y,h1,rfl,by show i+1≤_;omega,by show okP y 1 ((T.drop i).take 1);rw[ht];exact h2,ih b' (by omega) (by omega)⟩
   have okM:∀ {y:Rl} {q:Int},x.kind=1→y.what=q→q≠8→capB x.ch=false→y.left=[x.ch]→okP y 1 [x]:=fun {y q} hk hq h8 hc hy=>by
    unfold okP
    rw[if_neg (by omega)]
    refine⟨fun z hz=>?_,fun _=>?_,fun e=>absurd (hq.symm.trans e) h8⟩
    ·rw[List.mem_singleton.1 hz]
     exact⟨fun _=>by rw[hq];exact h8,fun _=>hk⟩
    ·rw[hy]
     show [smallN x.ch]=_
     rw[low_small hc]
   rw[spell_sub]
   by_cases hl1:letT x=true
   ·rw[if_pos hl1]
    obtain⟨L,hL⟩:∃ L,(x::r).takeWhile letT=L:=⟨_,rfl⟩
    have hLa:L.all letT=true:=by rw[← hL];exact takeWhile_all _ _
    have hpre:L=(T.drop i).take L.length:=by
     rw[hd,← hL]
     exact List.prefix_iff_eq_take.1 (List.takeWhile_prefix _)
    have hdrop:(x::r).dropWhile letT=T.drop (i+L.length):=by
     rw[← List.drop_drop,hd]
     have:=List.takeWhile_append_dropWhile (p:=letT) (l:=x::r)
     rw[hL]at this
     conv=>rhs;rw[← this]
     rw[List.drop_left]
    have hLl:i+L.length≤T.length:=by
     have:=congrArg List.length hpre
     rw[List.length_take,List.length_drop]at this
     omega
    have h1L:0<L.length:=by
     rw[← hL,List.takeWhile_cons,if_pos hl1]
     simp
    rw[hL,hdrop]
    have hcl:(chs L).length=L.length:=by unfold chs;rw[List.length_map]
    have hrun:TakeP l T i (runN l (chs L) i) (i+L.length):=by
     have:=run_take A (T:=T) (i:=i) (s:=chs L) (by rw[hcl,← hpre];exact hLa) (by rw[hcl,← hpre]) (by rw[hcl];exact hLl) (letT_let hLa) (chs L).length 0 (by omega) (by omega)
     rw[hcl]at this
     unfold runN
     rw[hcl]
     exact this
    have hrest:=spell_take hT n (i+L.length) false (by omega) hLl
    have hbody:=hrun.append hrest
    cases b with
    | true =>
     obtain⟨y,y1,y2,y3⟩:=sign_rule A (s:=letS) (by decide)
     simp only[if_true,List.append_assoc]
     exact TakeP.sign hi y1 y2 (.inr (.inr (.inr y3))) hbody
    | false =>
     simp only[Bool.false_eq_true,if_false,List.nil_append]
     exact hbody
   ·rw[if_neg hl1]
    by_cases hd1:digT x=true
    ·rw[if_pos hd1]
     unfold digT at hd1
     rw[Bool.and_eq_true,decide_eq_true_eq,decide_eq_true_eq]at hd1
     obtain⟨y,y1,y2,y3⟩:=rule_has A (w:=(7,[x.ch])) (by have:=digit_want ⟨x.ch - 48,by omega⟩;rw[show 48+(x.ch - 48)=x.ch by omega]at this;exact this)
     have hbody:=one (b':=true) y1 (okM (q:=7) hd1.1 y2 (by decide) (by unfold capB;exact decide_eq_false (by omega)) y3)
     cases b with
     | true=>exact hbody
     | false =>
      obtain⟨z,z1,z2,z3⟩:=sign_rule A (s:=numS) (by decide)
      exact TakeP.sign hi z1 z2 (.inr (.inr (.inl z3))) hbody
    ·rw[if_neg hd1]
     by_cases hm1:mrkT x=true
     ·rw[if_pos hm1]
      unfold mrkT at hm1
      rw[Bool.and_eq_true,decide_eq_true_eq,List.contains_iff_mem]at hm1
      obtain⟨y,y1,y2,y3⟩:=rule_has A (w:=(6,[x.ch])) (mark_want _ hm1.2)
      have hc:capB x.ch=false:=by
       have:∀ c ∈ Ka.markL,capB c=false:=by decide
       exact this _ hm1.2
      exact one y1 (okM (q:=6) hm1.1 y2 (by decide) hc y3)
     ·rw[if_neg hm1]
      have hl1:letT x=false:=by simpa using hl1
      have hd1:digT x=false:=by simpa using hd1
      have hm1:mrkT x=false:=by simpa using hm1
      obtain⟨n1,-⟩:=name_has hx hl1 hd1 hm1
      obtain⟨y,y1,y2,y3⟩:=sign_rule A n1
      refine one y1 ?_
      have hne:nameT x≠[]:=fun e=>by
       unfold tokT at hx
       rw[hl1,hd1,hm1,e]at hx
       exact absurd hx (by decide)
      unfold nameT at hne y3
      by_cases hc:x.ch=101∨x.ch=115∨x.ch=110
      ·rw[if_pos hc]at hne y3
       have hcap:smallN x.ch=x.ch:=low_small (by unfold capB;exact decide_eq_false (by omega))
       by_cases h2:x.kind=2
       ·rw[if_pos h2]at y3
        unfold okP
        rw[if_neg (by omega),y2,y3]
        exact⟨fun z hz=>by rw[List.mem_singleton.1 hz,h2];exact⟨fun h=>absurd h (by decide),fun h=>absurd rfl h⟩,fun h=>absurd rfl h,fun _=>⟨rfl,rfl,by show [smallN x.ch]=[x.ch];rw[hcap]⟩⟩
       ·rw[if_neg h2]at y3 hne
        by_cases h3:x.kind=3
        ·rw[if_pos h3]at y3
         unfold okP
         rw[if_neg (by omega),y2,y3]
         exact⟨fun z hz=>by rw[List.mem_singleton.1 hz,h3];exact⟨fun h=>absurd h (by decide),fun h=>absurd rfl h⟩,fun h=>absurd rfl h,fun _=>⟨rfl,rfl,by show [smallN x.ch]=[x.ch];rw[hcap]⟩⟩
        ·rw[if_neg h3]at hne
         exact absurd rfl hne
      ·rw[if_neg hc]at hne
       exact absurd rfl hne
theorem of_take {T:List Tk} (hT:chunkB T=true):TakeP l T 0 (ofP l T) T.length:=by
 have hsp:TakeP l T 0 (spellN l T) T.length:=spell_take A hT T.length 0 false (by omega) (by omega)
 unfold ofP
 cases hw:wordP l T with
 | some p =>
  unfold wordP at hw
  by_cases hall:T.all letT=true
  ·rw[if_pos hall]at hw
   cases hf:findN l 5 (lowN (chs T)) with
   | none=>rw[hf]at hw;cases hw
   | some k =>
    rw[hf]at hw
    obtain⟨x,x1,x2,x3⟩:∃ x,l[k]?=some x∧x.what=5∧x.left=lowN (chs T):=by
     obtain⟨hk,hp,-⟩:=List.findIdx?_eq_some_iff_getElem.1 hf
     refine⟨l[k],List.getElem?_eq_getElem hk,?_⟩
     exact of_decide_eq_true hp
    have hT0:T≠[]:=fun e=>by
     rw[e]at hw
     exact absurd hw (by simp[caseN,chs])
    have hword:TakeP l T 0 [⟨k,0,T.length⟩] T.length:=by
     refine⟨x,x1,rfl,by show 0+T.length≤_;omega,?_,by show 0+T.length=_;omega⟩
     show okP x T.length ((T.drop 0).take T.length)
     rw[List.drop_zero,List.take_length]
     unfold okP
     rw[if_neg (by have:=List.length_pos_iff.2 hT0;omega)]
     refine⟨fun z hz=>?_,fun _=>x3.symm,fun e=>absurd (x2.symm.trans e) (by decide)⟩
     have:=List.all_eq_true.1 hall z hz
     unfold letT smallT capT at this
     rw[Bool.or_eq_true,Bool.and_eq_true,Bool.and_eq_true]at this
     have hk:z.kind=1:=by rcases this with⟨h,-⟩ | ⟨h,-⟩<;>exact of_decide_eq_true h
     exact⟨fun _=>by rw[x2];decide,fun _=>hk⟩
    dsimp only at hw
    split at hw
    ·injection hw with hw
     rw[← hw]
     exact hword
    ·injection hw with hw
     rw[← hw]
     obtain⟨y,y1,y2,y3⟩:=sign_rule A (s:=capS) (by decide)
     exact TakeP.sign (by omega) y1 y2 (.inl y3) hword
    ·injection hw with hw
     rw[← hw]
     obtain⟨y,y1,y2,y3⟩:=sign_rule A (s:=capsS) (by decide)
     exact TakeP.sign (by omega) y1 y2 (.inr (.inl y3)) hword
    ·cases hw
  ·rw[if_neg hall]at hw
   cases hw
 | none =>
  dsimp only
  split
  ·obtain⟨y,y1,y2,y3⟩:=sign_rule A (s:=letS) (by decide)
   exact TakeP.sign (by omega) y1 y2 (.inr (.inr (.inr y3))) hsp
  ·exact hsp
end
end Go.Proofs.YtlgejmcihchngaaGreatDoor.Cu
