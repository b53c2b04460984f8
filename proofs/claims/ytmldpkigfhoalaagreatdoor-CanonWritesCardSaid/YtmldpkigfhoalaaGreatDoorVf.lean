/-
  Put together: TsZ, TtA.
-/
import Derived.Test.YtmldpkigfhoalaaGreatDoorTsY
import Derived.Test.YtmldpkigfhoalaaGreatDoorVd
namespace Go.Proofs.YtmldpkigfhoalaaGreatDoor.Tr
open Go.RowKit
def runF (t:List Nd):Nat→Nat→St→Option St
 | 0,a,o=>leaveF t (a:Int) o.lv.length o
 | f+1,a,o=>(leaveF t (a:Int) o.lv.length o).bind fun o1=>match t[a]? with
  | none=>none
  | some x=>(nodeF x (endS t o1) a o1).bind fun o2=>runF t f (a+1) o2
def runA (t:List Nd) (a:Nat) (o:St):Option St:=runF t (t.length - a) a o
def checkL (t:List Nd):Nat:=match runA t 0 st0 with | none=>2 | some o=>beyondS o
def restA (t:List Nd) (a:Nat) (o1:St):Option St:=match t[a]? with | none=>some o1 | some x=>(nodeF x (endS t o1) a o1).bind fun o2=>runA t (a+1) o2
theorem runA_eq {t:List Nd} {a:Nat} (h:a≤t.length) (o:St):runA t a o=(leaveF t (a:Int) o.lv.length o).bind (restA t a):=by
 unfold runA
 rcases Nat.lt_or_ge a t.length with h1 | h1
 ·obtain ⟨f,hf⟩:∃ f,t.length - a=f+1:=⟨t.length - a - 1,by omega⟩
  rw [hf]
  unfold runF
  congr 1
  funext o1
  unfold restA
  rw [List.getElem?_eq_getElem h1]
  simp only []
  congr 1
  funext o2
  unfold runA
  rw [show t.length - (a+1)=f from by omega]
 ·obtain rfl:a=t.length:=by omega
  rw [Nat.sub_self]
  unfold runF
  cases leaveF t (t.length:Int) o.lv.length o with
  | none=>rfl
  | some o1 =>
   show some o1=restA t t.length o1
   unfold restA
   rw [List.getElem?_eq_none (Nat.le_refl _)]
def sts (o:St):List Nat:=o.lv.map (·.start)
theorem sts_len (o:St):(sts o).length=o.lv.length:=List.length_map _
theorem sts_top (o:St) (h:0<o.lv.length):(topL o.lv).start=(sts o).getD (o.lv.length - 1) 0:=by
 unfold topL sts
 rw [List.getD_eq_getElem?_getD,List.getD_eq_getElem?_getD,List.getElem?_map,List.getElem?_eq_getElem (by omega)]
 rfl
theorem endS_congr {t:List Nd} {o o':St} (h:sts o'=sts o):endS t o'=endS t o:=by
 have hl:o'.lv.length=o.lv.length:=by rw [← sts_len,h,sts_len]
 unfold endS
 by_cases h1:o.lv.length≤1
 ·rw [if_pos h1,if_pos (by omega)]
 ·rw [if_neg h1,if_neg (by omega),sts_top o (by omega),sts_top o' (by omega),h,hl]
theorem start_modify (l:List Lv) (j:Nat) (f:Lv→Lv) (hf:∀ b,(f b).start=b.start):(l.modify j f).map (·.start)=l.map (·.start):=by
 apply List.ext_getElem?
 intro i
 rw [List.getElem?_map,List.getElem?_map,List.getElem?_modify]
 cases l[i]? with
 | none=>rfl
 | some x=>by_cases h:j=i<;>simp [h,hf]
theorem sts_count (o:St) (k:Nat):sts (countS o k)=sts o:=start_modify _ _ _ fun _=>rfl
theorem sts_say (o:St) (n:Nat):sts (sayS o n)=sts o:=by
 unfold sayS
 cases withinL o.lv 110 with
 | none=>exact sts_count o 46
 | some i =>
  show ((countS o 46).lv.modify i (moreBytes n)).map (·.start)=_
  exact (start_modify _ i (moreBytes n) fun _=>rfl).trans (sts_count o 46)
theorem sts_noted (o:St) (k:Nat):sts (notedS o k)=sts o:=by
 unfold notedS
 split
 ·exact start_modify _ _ _ fun _=>rfl
 ·rfl
theorem nodes_noted (o:St) (k:Nat):(notedS o k).nodes=o.nodes:=by unfold notedS;split<;>rfl
theorem nodes_say (o:St) (n:Nat):(sayS o n).nodes=o.nodes+1:=by
 unfold sayS
 cases withinL o.lv 110<;>rfl
theorem nodes_enter (o:St) (k:Nat):(enterS o k).nodes=o.nodes+1:=by
 show (notedS o k).nodes+1=_
 rw [nodes_noted]
theorem sts_enter (o:St) (k:Nat):sts (enterS o k)=sts o++[o.nodes]:=by
 have e:sts (enterS o k)=sts (countS (notedS o k) k)++[o.nodes]:=by
  unfold sts enterS
  simp only [List.map_append,List.map_cons,List.map_nil]
  rfl
 rw [e,sts_count,sts_noted]
theorem sts_leave (o:St):sts (leaveS o)=(sts o).take (o.lv.length - 1):=by
 unfold sts leaveS
 simp only []
 split
 ·rw [start_modify _ _ (withCols _) (fun _=>rfl),List.map_take]
 ·rw [List.map_take]
theorem len_of_sts {o o':St} {l:List Nat} (h:sts o'=sts o++l):o'.lv.length=o.lv.length+l.length:=by rw [← sts_len,h,List.length_append,sts_len]
theorem endS_enter {t:List Nd} {o:St} {k a:Nat} {x:Nd} (h0:0<o.lv.length) (hn:o.nodes=a) (hx:t[a]?=some x):endS t (enterS o k)=(a:Int)+x.size:=by
 have hs:=sts_enter o k
 have hl:=len_of_sts hs
 have:(topL (enterS o k).lv).start=a:=by
  rw [sts_top _ (by omega),hs,hl,List.getD_eq_getElem?_getD,List.getElem?_append_right (by rw [sts_len];simp),sts_len]
  simp [hn]
 unfold endS
 simp only [List.length_singleton] at hl
 rw [if_neg (by omega),this,List.getD_eq_getElem?_getD,hx]
 rfl
theorem run_leave {t:List Nd} {a:Nat} (h:a≤t.length) {o:St} (h1:1<o.lv.length) (he:endS t o=(a:Int)):runA t a o=if leaveB o=true then runA t a (leaveS o) else none:=by
 rw [runA_eq h,leaveF_go h1 he]
 by_cases hb:leaveB o=true
 ·rw [if_pos hb,if_pos hb,runA_eq h]
 ·rw [if_neg hb,if_neg hb];rfl
def segF (t:List Nd):Nat→Nat→Nat→St→Option St
 | 0,_,_,o=>some o
 | n+1,a,e,o=>if a<e then
   match t[a]? with
   | none=>none
   | some x =>
    if x.size<1∨(e:Int) - (a:Int)<x.size then none
    else if x.kind=46 then (if x.size=1∧isTextB x.text=true∧mayL o.lv 46=true then segF t n (a+1) e (sayS o x.text.size) else none)
    else if x.text.size=0∧mayL o.lv x.kind=true then (segF t n (a+1) (a+x.size.toNat) (enterS o x.kind)).bind fun o2=>if leaveB o2=true then segF t n (a+x.size.toNat) e (leaveS o2) else none
    else none
  else some o
theorem run_seg (t:List Nd):∀ n a e o,e - a≤n→a≤e→e≤t.length→0<o.lv.length→endS t o=(e:Int)→o.nodes=a →
  runA t a o=(segF t n a e o).bind (runA t e)∧∀ o',segF t n a e o=some o'→sts o'=sts o∧o'.nodes=e:=by
 intro n
 induction n with
 | zero =>
  intro a e o hn hae _ _ _ hno
  obtain rfl:a=e:=by omega
  exact ⟨rfl,fun o' h=>by cases h;exact ⟨rfl,hno⟩⟩
 | succ n ih =>
  intro a e o hn hae het h0 he hno
  rcases Nat.lt_or_ge a e with hlt | hge
  ·have hat:a<t.length:=by omega
   obtain ⟨x,hx⟩:∃ x,t[a]?=some x:=⟨_,List.getElem?_eq_getElem hat⟩
   have hstep:runA t a o=(nodeF x (e:Int) a o).bind fun o2=>runA t (a+1) o2:=by
    rw [runA_eq (by omega),leaveF_stop h0 (fun h=>by rw [he] at h;omega)]
    show restA t a o=_
    unfold restA
    rw [hx,he]
   rw [hstep]
   unfold segF nodeF
   rw [if_pos hlt,hx]
   simp only []
   by_cases h1:x.size<1∨(e:Int) - (a:Int)<x.size
   ·rw [if_pos h1,if_pos h1]
    exact ⟨rfl,fun o' h=>by cases h⟩
   rw [if_neg h1,if_neg h1]
   by_cases h46:x.kind=46
   ·rw [if_pos h46,if_pos h46]
    by_cases hc:x.size=1∧isTextB x.text=true∧mayL o.lv 46=true
    ·rw [if_pos hc,if_pos hc]
     have hl:(sayS o x.text.size).lv.length=o.lv.length:=by rw [← sts_len,sts_say,sts_len]
     obtain ⟨i1,i2⟩:=ih (a+1) e (sayS o x.text.size) (by omega) (by omega) het (by omega) ((endS_congr (sts_say _ _)).trans he) (by rw [nodes_say];omega)
     refine ⟨i1,fun o' h=>?_⟩
     obtain ⟨j1,j2⟩:=i2 o' h
     exact ⟨j1.trans (sts_say _ _),j2⟩
    ·rw [if_neg hc,if_neg hc]
     exact ⟨rfl,fun o' h=>by cases h⟩
   ·rw [if_neg h46,if_neg h46]
    by_cases hc:x.text.size=0∧mayL o.lv x.kind=true
    ·rw [if_pos hc,if_pos hc]
     obtain ⟨m,hm⟩:∃ m:Nat,x.size=(m:Int):=⟨x.size.toNat,by omega⟩
     have hmt:x.size.toNat=m:=by omega
     rw [hmt]
     have hse:=sts_enter o x.kind
     have hle:=len_of_sts hse
     have hee:=endS_enter (k:=x.kind) h0 hno hx
     obtain ⟨i1,i2⟩:=ih (a+1) (a+m) (enterS o x.kind) (by omega) (by omega) (by omega) (by omega) (by rw [hee,hm];omega) (by rw [nodes_enter];omega)
     show runA t (a+1) (enterS o x.kind)=_∧_
     rw [i1]
     cases hs2:segF t n (a+1) (a+m) (enterS o x.kind) with
     | none=>exact ⟨rfl,fun o' h=>by cases h⟩
     | some o2 =>
      obtain ⟨j1,j2⟩:=i2 o2 hs2
      have hl2:=len_of_sts (j1.trans hse)
      simp only [List.length_singleton] at hl2
      have he2:endS t o2=((a+m:Nat):Int):=by rw [endS_congr j1,hee,hm];omega
      show runA t (a+m) o2=_∧_
      rw [run_leave (by omega) (by omega) he2]
      simp only [Option.bind_some]
      by_cases hb:leaveB o2=true
      ·rw [if_pos hb,if_pos hb]
       have hs3:sts (leaveS o2)=sts o:=by rw [sts_leave,j1,hse,hl2,Nat.add_sub_cancel,List.take_append_of_le_length (by rw [sts_len];omega),List.take_of_length_le (by rw [sts_len];omega)]
       have hl3:(leaveS o2).lv.length=o.lv.length:=by rw [← sts_len,hs3,sts_len]
       obtain ⟨k1,k2⟩:=ih (a+m) e (leaveS o2) (by omega) (by omega) het (by omega) ((endS_congr hs3).trans he) j2
       refine ⟨k1,fun o' h=>?_⟩
       obtain ⟨l1,l2⟩:=k2 o' h
       exact ⟨l1.trans hs3,l2⟩
      ·rw [if_neg hb,if_neg hb]
       exact ⟨rfl,fun o' h=>by cases h⟩
    ·rw [if_neg hc,if_neg hc]
     exact ⟨rfl,fun o' h=>by cases h⟩
  ·obtain rfl:a=e:=by omega
   unfold segF
   rw [if_neg (by omega)]
   exact ⟨rfl,fun o' h=>by cases h;exact ⟨rfl,hno⟩⟩
def runO (st:List Nd × List Op) (d b:Bool):List Lx.Lx→Option ((List Nd × List Op) × Bool × Bool)
 | []=>some (st,d,b)
 | x::l=>if (x.kind=1∧textsP st.2=false)∨(errStep st.1 st.2 x).2=2 then none
  else runO (stepR st x) (d || decide ((errStep st.1 st.2 x).2=5)) (b || decide ((errStep st.1 st.2 x).2=4)) l
theorem runC_runO:∀ l st d b,runC st d b l=match runO st d b l with | none=>2 | some r=>if r.2.1 then 5 else if r.2.2 then 4 else 0
 | [],st,d,b=>rfl
 | x::l,st,d,b=>by
  unfold runC runO
  by_cases h:(x.kind=1∧textsP st.2=false)∨(errStep st.1 st.2 x).2=2
  ·rw [if_pos h,if_pos h]
  ·rw [if_neg h,if_neg h]
   exact runC_runO l _ _ _
theorem runO_cons (x:Lx.Lx) (l:List Lx.Lx) (st:List Nd × List Op) (d b:Bool):runO st d b (x::l)=if (x.kind=1∧textsP st.2=false)∨(errStep st.1 st.2 x).2=2 then none
  else runO (stepR st x) (d || decide ((errStep st.1 st.2 x).2=5)) (b || decide ((errStep st.1 st.2 x).2=4)) l:=rfl
theorem runO_app:∀ l m st d b,runO st d b (l++m)=(runO st d b l).bind fun r=>runO r.1 r.2.1 r.2.2 m
 | [],m,st,d,b=>rfl
 | x::l,m,st,d,b=>by
  rw [List.cons_append,runO_cons,runO_cons]
  by_cases h:(x.kind=1∧textsP st.2=false)∨(errStep st.1 st.2 x).2=2
  ·rw [if_pos h,if_pos h];rfl
  ·rw [if_neg h,if_neg h]
   exact runO_app l m _ _ _
structure SimC (a:Nat) (o:St) (r:(List Nd × List Op) × Bool × Bool):Prop where
 sim:SimS r.1.1 r.1.2 o
 at_:o.nodes=a
 deep:o.deep=r.2.1
 much:o.deep=false→o.much=r.2.2
def okSeg (t:List Nd) (a e:Nat):Prop:=∀ i x,a≤i→i<e→t[i]?=some x→nodeOk x=true
theorem rk_kind {a b:Nat} (h:rk a b≠0):b ∈ [49,50,51,112,108,116,107,46,101,115,110,105,114,99]:=by
 unfold rk at h
 split at h
 ·have:inK b blockS=true:=by
   cases hb:inK b blockS
   ·rw [hb] at h;simp at h
   ·rfl
  rcases block_mem.1 this with e | e | e | e | e | e | e<;>subst e<;>decide
 ·have flow:inK b flowIn=true→b ∈ [49,50,51,112,108,116,107,46,101,115,110,105,114,99]:=fun hb=>by
   rcases flowIn_mem.1 hb with e | e | e | e<;>subst e<;>decide
  by_cases hb:inK b flowIn=true
  ·exact flow hb
  ·rw [if_neg hb,if_neg hb] at h
   repeat' split at h
   all_goals first | (exact absurd rfl h) | (subst_vars;decide)
theorem name_may {l:List Lv} {k:Nat} (h:mayL l k=true) (h46:k≠46):(Lx.nameS k).size≠0:=by
 have hk:=rk_kind (mayL_rk h).1
 have:∀ b ∈ [49,50,51,112,108,116,107,46,101,115,110,105,114,99],b≠46→(Lx.nameS b).size≠0:=by decide +kernel
 exact this k hk h46
theorem isTextB_eq (s:ByteArray):isTextB s=(decide (s.size≠0) && (Lx.bytesN s).all Lx.okT):=by
 unfold isTextB
 congr 1
 have key:(Lx.bytesN s).all Lx.okT=true↔∀ i,i<s.size→Lx.okT (Lx.bAt s i)=true:=by
  rw [List.all_eq_true]
  constructor
  ·intro h i hi
   refine h _ ?_
   unfold Lx.bAt
   rw [List.getD_eq_getElem?_getD,List.getElem?_eq_getElem (by rw [Lx.bytesN_len];exact hi)]
   exact List.getElem_mem _
  ·intro h b hb
   obtain ⟨i,hi,rfl⟩:=List.mem_iff_getElem.1 hb
   have:=h i (by rw [Lx.bytesN_len] at hi;exact hi)
   unfold Lx.bAt at this
   rw [List.getD_eq_getElem?_getD,List.getElem?_eq_getElem hi] at this
   exact this
 by_cases hb:∀ i,i<s.size→Lx.okT (Lx.bAt s i)=true
 ·rw [key.2 hb,badF_none (f:=alienB) (fun j hj=>by unfold alienB;rw [hb j hj];rfl)]
  simp
 ·have h1:(Lx.bytesN s).all Lx.okT=false:=by
   cases h:(Lx.bytesN s).all Lx.okT
   ·rfl
   ·exact absurd (key.1 h) hb
  rw [h1]
  have hlt:badF alienB s<s.size:=by
   unfold badF
   cases hf:(List.range s.size).find? fun i=>alienB (Lx.bAt s i) with
   | none =>
    exfalso
    apply hb
    intro i hi
    have:=List.find?_eq_none.1 hf i (List.mem_range.2 hi)
    unfold alienB at this
    simpa using this
   | some j=>exact List.mem_range.1 (List.mem_of_find?_eq_some hf)
  simp
  omega
theorem nodeOk_text {x:Nd} (h:x.kind=46):nodeOk x=isTextB x.text:=by
 rw [isTextB_eq]
 unfold nodeOk
 rw [if_pos h]
theorem nodeOk_node {x:Nd} (h:x.kind≠46) (hx:nodeOk x=true):x.text.size=0:=by
 unfold nodeOk at hx
 rw [if_neg h] at hx
 simp at hx
 rw [hx.1.1];rfl
theorem nodeOk_may {x:Nd} {l:List Lv} (h:x.kind≠46) (h0:x.text.size=0) (hm:mayL l x.kind=true):nodeOk x=true:=by
 unfold nodeOk
 rw [if_neg h]
 have e1:Lx.bytesN x.text=[]:=List.eq_nil_of_length_eq_zero (by rw [Lx.bytesN_len];exact h0)
 rw [e1]
 simp [h0,name_may hm h]
end Go.Proofs.YtmldpkigfhoalaaGreatDoor.Tr
namespace Go.Proofs.YtmldpkigfhoalaaGreatDoor.Tr
open Go.RowKit
theorem okSeg.sub {t:List Nd} {a e a' e':Nat} (h:okSeg t a e) (h1:a≤a') (h2:e'≤e):okSeg t a' e':=fun i x hi hj hx=>h i x (by omega) (by omega) hx
theorem seg_doc (t:List Nd) (hk:∀ x ∈ t,x.kind<256):∀ n a e o r,e - a≤n→a≤e→e≤t.length→SimC a o r →
  (∀ o',segF t n a e o=some o'→okSeg t a e∧∃ l r',evF t n a e=some l∧runO r.1 r.2.1 r.2.2 l=some r'∧SimC e o' r') ∧
  (segF t n a e o=none→okSeg t a e→∀ l,evF t n a e=some l→runO r.1 r.2.1 r.2.2 l=none):=by
 intro n
 induction n with
 | zero =>
  intro a e o r hn hae _ hs
  obtain rfl:a=e:=by omega
  refine ⟨fun o' h=>?_,fun h=>by cases h⟩
  cases h
  refine ⟨fun i x hi hj=>by omega,[],r,?_,rfl,hs⟩
  unfold evF;rw [if_neg (by omega)]
 | succ n ih =>
  intro a e o r hn hae het hs
  rcases Nat.lt_or_ge a e with hlt | hge
  ·have hat:a<t.length:=by omega
   obtain ⟨x,hx⟩:∃ x,t[a]?=some x:=⟨_,List.getElem?_eq_getElem hat⟩
   have hx256:x.kind<256:=hk x (List.mem_of_getElem? hx)
   have hse:segF t (n+1) a e o=(if x.size<1∨(e:Int) - (a:Int)<x.size then none
     else if x.kind=46 then (if x.size=1∧isTextB x.text=true∧mayL o.lv 46=true then segF t n (a+1) e (sayS o x.text.size) else none)
     else if x.text.size=0∧mayL o.lv x.kind=true then (segF t n (a+1) (a+x.size.toNat) (enterS o x.kind)).bind fun o2=>if leaveB o2=true then segF t n (a+x.size.toNat) e (leaveS o2) else none
     else none):=by
    conv=>lhs;unfold segF
    rw [if_pos hlt,hx]
   have hev:evF t (n+1) a e=(if x.size<1∨(e:Int)<(a:Int)+x.size then none
     else if x.kind=46 then (if x.size=1 then (evF t n (a+1) e).map (txL x.text::·) else none)
     else (evF t n (a+1) (a+x.size.toNat)).bind fun M=>(evF t n (a+x.size.toNat) e).map fun R=>opL x.kind::(M++clL::R)):=by
    conv=>lhs;unfold evF
    rw [if_pos hlt,hx]
   rw [hse,hev]
   by_cases h1:x.size<1∨(e:Int) - (a:Int)<x.size
   ·have h1':x.size<1∨(e:Int)<(a:Int)+x.size:=by omega
    rw [if_pos h1,if_pos h1']
    exact ⟨fun o' h=>(by cases h),fun _ _ l h=>(by cases h)⟩
   have h1':¬ (x.size<1∨(e:Int)<(a:Int)+x.size):=by omega
   rw [if_neg h1,if_neg h1']
   by_cases h46:x.kind=46
   ·rw [if_pos h46,if_pos h46]
    by_cases hz:x.size=1
    ·rw [if_pos hz]
     by_cases hT:isTextB x.text=true
     ·have hm:mayL o.lv 46=textsP r.1.2:=hs.sim.rel.texts
      cases ht:textsP r.1.2
      ·rw [if_neg (by rw [hm,ht];simp)]
       refine ⟨fun o' h=>(by cases h),fun _ _ l hl=>?_⟩
       cases hev2:evF t n (a+1) e with
       | none=>rw [hev2] at hl;cases hl
       | some l2 =>
        rw [hev2] at hl;cases hl
        rw [runO_cons,if_pos (.inl ⟨rfl,ht⟩)]
      ·rw [if_pos ⟨hz,hT,by rw [hm,ht]⟩]
       obtain ⟨s1,s2,s3,s4⟩:=hs.sim.text 0 x.text 0 ht
       have hbad:¬ (((txL x.text).kind=1∧textsP r.1.2=false)∨(errStep r.1.1 r.1.2 (txL x.text)).2=2):=by
        rintro (⟨_,h⟩ | h)
        ·rw [ht] at h;cases h
        ·have h':(errStep r.1.1 r.1.2 ⟨1,0,x.text,0⟩).2=2:=h
         omega
       have hrun:∀ l,runO r.1 r.2.1 r.2.2 (txL x.text::l)=runO (stepR r.1 (txL x.text)) (r.2.1 || decide ((errStep r.1.1 r.1.2 (txL x.text)).2=5)) (r.2.2 || decide ((errStep r.1.1 r.1.2 (txL x.text)).2=4)) l:=fun l=>by rw [runO_cons,if_neg hbad]
       obtain ⟨i1,i2⟩:=ih (a+1) e (sayS o x.text.size) (stepR r.1 (txL x.text),r.2.1 || decide ((errStep r.1.1 r.1.2 (txL x.text)).2=5),r.2.2 || decide ((errStep r.1.1 r.1.2 (txL x.text)).2=4)) (by omega) (by omega) het
        ⟨s1,by rw [nodes_say,hs.at_],by
         show (sayS o x.text.size).deep=(r.2.1 || decide ((errStep r.1.1 r.1.2 ⟨1,0,x.text,0⟩).2=5))
         rw [s2,hs.deep,decide_eq_false (by omega),Bool.or_false],fun hd=>by
         show (sayS o x.text.size).much=(r.2.2 || decide ((errStep r.1.1 r.1.2 ⟨1,0,x.text,0⟩).2=4))
         rw [s3,hs.much (by rw [← s2];exact hd)]⟩
       refine ⟨fun o' h=>?_,fun h hok l hl=>?_⟩
       ·obtain ⟨j1,l,r',j2,j3,j4⟩:=i1 o' h
        refine ⟨fun i y hi hj hy=>?_,txL x.text::l,r',by rw [j2];rfl,by rw [hrun];exact j3,j4⟩
        rcases Nat.eq_or_lt_of_le hi with e1 | e1
        ·subst e1;rw [hx] at hy;cases hy
         rw [nodeOk_text h46];exact hT
        ·exact j1 i y (by omega) hj hy
       ·cases hev2:evF t n (a+1) e with
        | none=>rw [hev2] at hl;cases hl
        | some l2 =>
         rw [hev2] at hl;cases hl
         rw [hrun]
         exact i2 h (hok.sub (by omega) (Nat.le_refl _)) l2 hev2
     ·rw [if_neg (fun e=>hT e.2.1)]
      refine ⟨fun o' h=>(by cases h),fun _ hok=>?_⟩
      have:=hok a x (Nat.le_refl _) hlt hx
      rw [nodeOk_text h46] at this
      exact absurd this hT
    ·rw [if_neg hz,if_neg (fun e=>hz e.1)]
     exact ⟨fun o' h=>(by cases h),fun _ _ l h=>(by cases h)⟩
   ·rw [if_neg h46,if_neg h46]
    by_cases h0:x.text.size=0
    ·have hm:mayL o.lv x.kind=opensP r.1.2 x.kind:=hs.sim.rel.opens h46
     cases ho:opensP r.1.2 x.kind
     ·rw [if_neg (by rw [hm,ho];simp)]
      refine ⟨fun o' h=>(by cases h),fun _ _ l hl=>?_⟩
      have hb:(errStep r.1.1 r.1.2 (opL x.kind)).2=2:=by
       unfold errStep opL
       simp only []
       rw [if_neg (by decide),if_pos True.intro,if_pos ho]
      cases hev2:evF t n (a+1) (a+x.size.toNat) with
      | none=>rw [hev2] at hl;cases hl
      | some M =>
       rw [hev2] at hl
       cases hev3:evF t n (a+x.size.toNat) e with
       | none=>rw [hev3] at hl;cases hl
       | some R =>
        rw [hev3] at hl;cases hl
        rw [runO_cons,if_pos (.inr hb)]
     ·have hmt:mayL o.lv x.kind=true:=by rw [hm,ho]
      rw [if_pos ⟨h0,hmt⟩]
      obtain ⟨m,hmm⟩:∃ m:Nat,x.size=(m:Int):=⟨x.size.toNat,by omega⟩
      rw [show x.size.toNat=m from by omega]
      obtain ⟨s1,s2,s3,s4⟩:=hs.sim.open emptyS 0 hx256 h46 ho
      have hbad:¬ (((opL x.kind).kind=1∧textsP r.1.2=false)∨(errStep r.1.1 r.1.2 (opL x.kind)).2=2):=by
       rintro (⟨h,_⟩ | h)
       ·cases h
       ·have h':(errStep r.1.1 r.1.2 ⟨2,x.kind,emptyS,0⟩).2=2:=h
        omega
      have hrun:∀ l,runO r.1 r.2.1 r.2.2 (opL x.kind::l)=runO (stepR r.1 (opL x.kind)) (r.2.1 || decide ((errStep r.1.1 r.1.2 (opL x.kind)).2=5)) (r.2.2 || decide ((errStep r.1.1 r.1.2 (opL x.kind)).2=4)) l:=fun l=>by rw [runO_cons,if_neg hbad]
      obtain ⟨i1,i2⟩:=ih (a+1) (a+m) (enterS o x.kind) (stepR r.1 (opL x.kind),r.2.1 || decide ((errStep r.1.1 r.1.2 (opL x.kind)).2=5),r.2.2 || decide ((errStep r.1.1 r.1.2 (opL x.kind)).2=4)) (by omega) (by omega) (by omega)
       ⟨s1,by rw [nodes_enter,hs.at_],by
        show (enterS o x.kind).deep=(r.2.1 || decide ((errStep r.1.1 r.1.2 ⟨2,x.kind,emptyS,0⟩).2=5))
        rw [s2,hs.deep],fun hd=>by
        show (enterS o x.kind).much=(r.2.2 || decide ((errStep r.1.1 r.1.2 ⟨2,x.kind,emptyS,0⟩).2=4))
        have hd':=hd
        rw [s2] at hd'
        rw [s3 hd,hs.much (by cases h:o.deep<;>simp_all)]⟩
      cases hg:segF t n (a+1) (a+m) (enterS o x.kind) with
      | none =>
       refine ⟨fun o' h=>(by cases h),fun _ hok l hl=>?_⟩
       cases hev2:evF t n (a+1) (a+m) with
       | none=>rw [hev2] at hl;cases hl
       | some M =>
        rw [hev2] at hl
        cases hev3:evF t n (a+m) e with
        | none=>rw [hev3] at hl;cases hl
        | some R =>
         rw [hev3] at hl;cases hl
         rw [hrun,runO_app,i2 hg (hok.sub (by omega) (by omega)) M hev2]
         rfl
      | some o2 =>
       obtain ⟨j1,M,r3,j2,j3,j4⟩:=i1 o2 hg
       simp only [Option.bind_some]
       obtain ⟨c1,c2,c3⟩:=j4.sim.close 0 emptyS 0
       have hM:∀ R,runO r.1 r.2.1 r.2.2 (opL x.kind::(M++clL::R))=runO r3.1 r3.2.1 r3.2.2 (clL::R):=fun R=>by rw [hrun,runO_app,j3];rfl
       by_cases hb:leaveB o2=true
       ·rw [if_pos hb]
        have he0:(errStep r3.1.1 r3.1.2 clL).2=0:=c1.1 hb
        have hbad3:¬ ((clL.kind=1∧textsP r3.1.2=false)∨(errStep r3.1.1 r3.1.2 clL).2=2):=by
         rintro (⟨h,_⟩ | h)
         ·cases h
         ·omega
        have hrun3:∀ R,runO r3.1 r3.2.1 r3.2.2 (clL::R)=runO (stepR r3.1 clL) r3.2.1 r3.2.2 R:=fun R=>by
         rw [runO_cons,if_neg hbad3,he0]
         simp
        obtain ⟨k1,k2⟩:=ih (a+m) e (leaveS o2) (stepR r3.1 clL,r3.2.1,r3.2.2) (by omega) (by omega) het ⟨c3 hb,j4.at_,j4.deep,j4.much⟩
        refine ⟨fun o' h=>?_,fun h hok l hl=>?_⟩
        ·obtain ⟨l1,R,r',l2,l3,l4⟩:=k1 o' h
         refine ⟨fun i y hi hj hy=>?_,opL x.kind::(M++clL::R),r',by rw [j2,l2];rfl,by rw [hM,hrun3];exact l3,l4⟩
         rcases Nat.eq_or_lt_of_le hi with e1 | e1
         ·subst e1;rw [hx] at hy;cases hy
          exact nodeOk_may h46 h0 hmt
         ·rcases Nat.lt_or_ge i (a+m) with e2 | e2
          ·exact j1 i y (by omega) e2 hy
          ·exact l1 i y e2 hj hy
        ·rw [j2] at hl
         cases hev3:evF t n (a+m) e with
         | none=>rw [hev3] at hl;cases hl
         | some R =>
          rw [hev3] at hl;cases hl
          rw [hM,hrun3]
          exact k2 h (hok.sub (by omega) (Nat.le_refl _)) R hev3
       ·rw [if_neg hb]
        refine ⟨fun o' h=>(by cases h),fun _ hok l hl=>?_⟩
        have he2:(errStep r3.1.1 r3.1.2 clL).2=2:=by
         rcases c2 with c2 | c2
         ·exact absurd (c1.2 c2) hb
         ·show (errStep r3.1.1 r3.1.2 ⟨3,0,emptyS,0⟩).2=2
          rw [c2]
        rw [j2] at hl
        cases hev3:evF t n (a+m) e with
        | none=>rw [hev3] at hl;cases hl
        | some R =>
         rw [hev3] at hl;cases hl
         rw [hM,runO_cons,if_pos (.inr he2)]
    ·rw [if_neg (fun e=>h0 e.1)]
     refine ⟨fun o' h=>(by cases h),fun _ hok=>?_⟩
     exact absurd (nodeOk_node h46 (hok a x (Nat.le_refl _) hlt hx)) h0
  ·obtain rfl:a=e:=by omega
   have h1:segF t (n+1) a a o=some o:=by unfold segF;rw [if_neg (by omega)]
   have h2:evF t (n+1) a a=some []:=by unfold evF;rw [if_neg (by omega)]
   rw [h1,h2]
   refine ⟨fun o' h=>?_,fun h=>by cases h⟩
   cases h
   exact ⟨fun i x hi hj=>by omega,[],r,rfl,rfl,hs⟩
theorem okSeg_all (t:List Nd):okSeg t 0 t.length↔t.all nodeOk=true:=by
 rw [List.all_eq_true]
 constructor
 ·intro h x hx
  obtain ⟨i,hi,rfl⟩:=List.mem_iff_getElem.1 hx
  exact h i _ (by omega) hi (List.getElem?_eq_getElem hi)
 ·intro h i x _ _ hx
  exact h x (List.mem_of_getElem? hx)
theorem checkL_eq (t:List Nd) (hk:∀ x ∈ t,x.kind<256):checkL t=checkV t:=by
 have he0:endS t st0=(t.length:Int):=rfl
 obtain ⟨a1,a2⟩:=run_seg t t.length 0 t.length st0 (by omega) (by omega) (Nat.le_refl _) (by decide) he0 rfl
 obtain ⟨b1,b2⟩:=seg_doc t hk t.length 0 t.length st0 (([],[root]),false,false) (by omega) (by omega) (Nat.le_refl _) ⟨SimS.start,rfl,rfl,fun _=>rfl⟩
 unfold checkL checkV evA
 rw [a1,Nat.sub_zero]
 cases hg:segF t t.length 0 t.length st0 with
 | none =>
  show 2=_
  by_cases hok:t.all nodeOk=false
  ·rw [if_pos hok]
  ·rw [if_neg hok]
   have hok':=(okSeg_all t).2 (by simpa using hok)
   cases hev:evF t t.length 0 t.length with
   | none=>rfl
   | some l =>
    show 2=runC ([],[root]) false false l
    rw [runC_runO,b2 hg hok' l hev]
 | some o =>
  obtain ⟨c1,l,r,c2,c3,c4⟩:=b1 o hg
  obtain ⟨d1,d2⟩:=a2 o hg
  have hl:o.lv.length=1:=by rw [← sts_len,d1];rfl
  simp only [Option.bind_some]
  rw [runA_eq (Nat.le_refl _),leaveF_stop (by omega) (fun h=>by omega)]
  simp only [Option.bind_some]
  have hr:restA t t.length o=some o:=by unfold restA;rw [List.getElem?_eq_none (Nat.le_refl _)]
  rw [hr,if_neg (by rw [(okSeg_all t).1 c1];simp),c2]
  show beyondS o=runC ([],[root]) false false l
  rw [runC_runO,c3]
  unfold beyondS
  show _=if r.2.1=true then 5 else if r.2.2=true then 4 else 0
  rw [← c4.deep]
  cases hd:o.deep
  ·rw [← c4.much hd]
  ·rfl
end Go.Proofs.YtmldpkigfhoalaaGreatDoor.Tr
