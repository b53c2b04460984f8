/-
  Put together: CuE, CuF, CuG, CuH, CuJ.
-/
import Derived.Test.YtlgejmcihchngaaGreatDoorUa
import Derived.Test.YtlgejmcihchngaaGreatDoorUe
import Derived.Test.YtlgejmcihchngaaGreatDoorSb
import Derived.BigQuiet
import Derived.Test.YtlgejmcihchngaaGreatDoorSj
import Derived.Test.YtlgejmcihchngaaGreatDoorQf
import Derived.Test.YtlgejmcihchngaaGreatDoorUn
import Derived.Test.YtlgejmcihchngaaGreatDoorQc
namespace Go.Proofs.YtlgejmcihchngaaGreatDoor.Cu
open Go.RowKit Ba Ru Ck Ti Pa Fl
def aggK (x:Tk):Value:=.agg #[.int .i64 x.kind,.int .u8 (x.ch:Int),.int .i64 x.place]
def BoxT (w:World) (b:Nat) (q:Int) (c:Nat) (p:Int):Prop :=
 w.cell? ⟨b,0,none⟩=some (.int .i64 q)∧w.cell? ⟨b,1,none⟩=some (.int .u8 (c:Int))∧w.cell? ⟨b,2,none⟩=some (.int .i64 p)∧b<w.heap.size
theorem BoxT.kept {w w':World} {b:Nat} {q:Int} {c:Nat} {p:Int} (h:BoxT w b q c p) (hb:Below w.heap.size w w'):BoxT w' b q c p :=
 ⟨(hb.cell (p:=⟨b,0,none⟩) h.2.2.2).trans h.1,(hb.cell (p:=⟨b,1,none⟩) h.2.2.2).trans h.2.1,(hb.cell (p:=⟨b,2,none⟩) h.2.2.2).trans h.2.2.1,Nat.lt_of_lt_of_le h.2.2.2 hb.size⟩
theorem BoxT.new (w:World) (q:Int) (c:Nat) (p:Int) (t:TypeId):BoxT (w.alloc (.cells #[.int .i64 q,.int .u8 (c:Int),.int .i64 p] t)) w.heap.size q c p:=by
 refine⟨?_,?_,?_,?_⟩<;>simp
theorem tcell {l:List Tk} {g off:Nat} {w:World} (hcell:∀ k x,l[k]?=some x→∀ j u,(cT x)[j]?=some u→w.cell? ⟨g,off+(k * 3+j),none⟩=some u) (k:Nat) (x:Tk) (hx:l[k]?=some x) :
  w.cell? ⟨g,off+k * 3,none⟩=some (.int .i64 x.kind)∧w.cell? ⟨g,off+k * 3+1,none⟩=some (.int .u8 (x.ch:Int))∧w.cell? ⟨g,off+k * 3+2,none⟩=some (.int .i64 x.place):=by
 have h:=fun j u hu=>hcell k x hx j u hu
 exact⟨h 0 _ rfl,h 1 _ rfl,h 2 _ rfl⟩
theorem back_one (W:World) (g:Nat) (x:Nat) (hx:x<256) (h:W.cell? ⟨g,0,none⟩=some (.int .u8 (x:Int))) :
  (convert 52 9 (.slice (some ⟨g,0,none⟩) 1 1)).run Tryz.prog W=.ok (.string (bytesOf [x])) W:=by
 exact run_convert_bytes_back (P:=Tryz.prog) W 52 9 5 ⟨g,0,none⟩ 1 [UInt8.ofNat x] Tryz.underlying52 Tryz.underlying5 Tryz.underlying9 (fun j hj=>by
  obtain rfl:j=0:=by simp at hj;omega
  have e:(⟨g,0,none⟩:Addr).add 0=⟨g,0,none⟩:=by unfold Addr.add;split<;>simp_all
  have e3:(UInt8.ofNat x).toNat=x:=by simp[Nat.mod_eq_of_lt hx]
  rw[e]
  simp only[List.getElem_cons_zero,e3,h])
theorem back_two (W:World) (g:Nat) (x y:Nat) (hx:x<256) (hy:y<256) (h:W.cell? ⟨g,0,none⟩=some (.int .u8 (x:Int))) (h':W.cell? ⟨g,1,none⟩=some (.int .u8 (y:Int))) :
  (convert 52 9 (.slice (some ⟨g,0,none⟩) 2 2)).run Tryz.prog W=.ok (.string (bytesOf [x,y])) W:=by
 exact run_convert_bytes_back (P:=Tryz.prog) W 52 9 5 ⟨g,0,none⟩ 2 [UInt8.ofNat x,UInt8.ofNat y] Tryz.underlying52 Tryz.underlying5 Tryz.underlying9 (fun j hj=>by
  have e:∀ i,(⟨g,0,none⟩:Addr).add i=⟨g,i,none⟩:=fun i=>by unfold Addr.add;split<;>simp_all
  have e3:(UInt8.ofNat x).toNat=x:=by simp[Nat.mod_eq_of_lt hx]
  have e4:(UInt8.ofNat y).toNat=y:=by simp[Nat.mod_eq_of_lt hy]
  have hj':j=0∨j=1:=by simp at hj;omega
  rcases hj' with rfl | rfl
  ·rw[e];simp only[List.getElem_cons_zero,e3,h]
  ·rw[e];simp only[List.getElem_cons_succ,List.getElem_cons_zero,e4,h'])
set_option maxRecDepth 100000 in
set_option maxHeartbeats 4000000 in
theorem rmark_any (x:Tk) (hc:x.ch<256) (L:List Nat) (hL:nameT x=L) (w:World) :
  Calls Tryz.prog 31 #[aggK x] w fun e w'=>e=.returned (.string (bytesOf L))∧Below w.heap.size w w':=by
 obtain⟨q,c,p⟩:=x
 simp only[aggK,nameT]at hL hc ⊢
 have HL:=Lib.hid hL
 clear hL
 go_enter Tryz.func31,Tryz.ntmps31
 go_upto_region 1 with fail
 have hx:=BoxT.new w q c p 42
 have hw:=(Below.refl w.heap.size w).alloc (Nat.le_refl _) (.cells #[.int .i64 q,.int .u8 (c:Int),.int .i64 p] 42)
 generalize w.alloc _=w1 at hx hw ⊢
 have HE:=Lib.hid hw
 have hsz:=hw.size
 obtain⟨b,hb⟩:∃ n,w.heap.size=n:=⟨_,rfl⟩
 rw[hb]at hx ⊢
 obtain⟨x0,x1,x2,x3⟩:=hx
 clear hw hb
 by_cases f1:c=101∨c=115∨c=110
 rotate_left
 ·have e1:((c:Int)==101)=false:=beq_eq_false_iff_ne.2 (by omega)
  have e2:((c:Int)==115)=false:=beq_eq_false_iff_ne.2 (by omega)
  have e3:((c:Int)==110)=false:=beq_eq_false_iff_ne.2 (by omega)
  have e4:((c:Int) != 101)=true:=bne_iff_ne.2 (by omega)
  have e5:((c:Int) != 115)=true:=bne_iff_ne.2 (by omega)
  have e6:((c:Int) != 110)=true:=bne_iff_ne.2 (by omega)
  have HV:=Lib.hid (show L=[] from by rw[← HL.out,if_neg f1])
  clear f1
  go_wp2
  go_ret
  rw[HV.out]
  exact⟨rfl,HE.out⟩
 have HV:=Lib.hid (show L=(if q=2 then [c,43] else if q=3 then [c,45] else []) from by rw[← HL.out,if_pos f1])
 have hc2:=fun(W:World) (g y:Nat) (hy:y<256) (h:W.cell? ⟨g,0,none⟩=some (.int .u8 (c:Int))) (h':W.cell? ⟨g,1,none⟩=some (.int .u8 (y:Int)))=>back_two W g c y hc hy h h'
 have HB2:=Lib.hid (show ∀ (t:TypeId),(convert 52 9 (.slice (some ⟨w1.heap.size,0,none⟩) 2 2)).run Tryz.prog (w1.alloc (.cells #[.int .u8 (c:Int),.int .u8 43] t))=.ok (.string (bytesOf [c,43])) (w1.alloc (.cells #[.int .u8 (c:Int),.int .u8 43] t)) from fun t=>hc2 _ _ 43 (by decide) (by simp) (by simp))
 have HB3:=Lib.hid (show ∀ (t:TypeId),(convert 52 9 (.slice (some ⟨w1.heap.size,0,none⟩) 2 2)).run Tryz.prog (w1.alloc (.cells #[.int .u8 (c:Int),.int .u8 45] t))=.ok (.string (bytesOf [c,45])) (w1.alloc (.cells #[.int .u8 (c:Int),.int .u8 45] t)) from fun t=>hc2 _ _ 45 (by decide) (by simp) (by simp))
 have HE2:=Lib.hid (fun(o:Obj)=>HE.out.alloc hsz o)
 clear hc2
 have HF:=Lib.hid (show (((c:Int) != 101)=false∧((c:Int)==101)=true)∨(((c:Int) != 101)=true∧((c:Int)==101)=false)∧(((c:Int) != 115)=false∧((c:Int)==115)=true)∨(((c:Int) != 101)=true∧((c:Int)==101)=false)∧(((c:Int) != 115)=true∧((c:Int)==115)=false)∧(((c:Int) != 110)=false∧((c:Int)==110)=true) from by
  rcases f1 with rfl | rfl | rfl<;>decide)
 clear f1
 rcases HF.out with⟨e1,e2⟩ | ⟨⟨e1,e2⟩,e3,e4⟩ | ⟨⟨e1,e2⟩,⟨e3,e4⟩,e5,e6⟩
 all_goals
  by_cases k2:q=2
  ·subst k2
   have hb2:=HB2.out 5
   rw[if_pos rfl]at HV
   go_wp2
   go_ret
   rw[HV.out]
   exact⟨rfl,HE2.out _⟩
  ·rw[if_neg k2]at HV
   have q2:(q==2)=false:=beq_eq_false_iff_ne.2 k2
   by_cases k3:q=3
   ·subst k3
    have hb3:=HB3.out 5
    rw[if_pos rfl]at HV
    go_wp2
    go_ret
    rw[HV.out]
    exact⟨rfl,HE2.out _⟩
   ·rw[if_neg k3]at HV
    have q3:(q==3)=false:=beq_eq_false_iff_ne.2 k3
    clear k2 k3
    go_wp2
    go_ret
    rw[HV.out]
    exact⟨rfl,HE.out⟩
def isV (x:Tk) (k:Int):Bool:=decide (x.kind=1) && decide (Hc.cls (x.ch:Int)=k)
theorem cls_spec:∀ n:Fin 256,(Hc.cls (n.val:Int)=1↔smallB n.val=true)∧(Hc.cls (n.val:Int)=2↔capB n.val=true)∧(Hc.cls (n.val:Int)=3↔48≤n.val∧n.val≤57)∧(Hc.cls (n.val:Int)=4↔Ka.markL.contains n.val=true):=by decide +kernel
theorem isV_1 (x:Tk) (h:x.ch<256):isV x 1=smallT x:=by
 have:=(cls_spec ⟨x.ch,h⟩).1
 unfold isV smallT
 congr 1
 rw[Bool.eq_iff_iff,decide_eq_true_iff];exact this
theorem isV_2 (x:Tk) (h:x.ch<256):isV x 2=capT x:=by
 have:=(cls_spec ⟨x.ch,h⟩).2.1
 unfold isV capT
 congr 1
 rw[Bool.eq_iff_iff,decide_eq_true_iff];exact this
theorem isV_3 (x:Tk) (h:x.ch<256):isV x 3=digT x:=by
 have:=(cls_spec ⟨x.ch,h⟩).2.2.1
 unfold isV digT
 congr 1
 rw[Bool.eq_iff_iff,decide_eq_true_iff,decide_eq_true_iff];exact this
theorem isV_4 (x:Tk) (h:x.ch<256):isV x 4=mrkT x:=by
 have:=(cls_spec ⟨x.ch,h⟩).2.2.2
 unfold isV mrkT
 congr 1
 rw[Bool.eq_iff_iff,decide_eq_true_iff];exact this
set_option maxRecDepth 100000 in
set_option maxHeartbeats 1000000 in
theorem ris_any (x:Tk) (hc:x.ch<256) (k:Int) (v:Bool) (hv:isV x k=v) (w:World) :
  Calls Tryz.prog 30 #[aggK x,.int .i64 k] w fun e w'=>e=.returned (.bool v)∧Below w.heap.size w w':=by
 obtain⟨q,c,p⟩:=x
 simp only[aggK,isV]at hv hc ⊢
 have HV:=Lib.hid hv
 clear hv
 obtain⟨z,hz⟩:∃ z,Hc.cls (c:Int)=z:=⟨_,rfl⟩
 have HC:=Lib.hid (fun(W:World)=>Cl.rclass_at (c:Int) z (by omega) (by omega) hz W)
 rw[hz]at HV
 clear hz
 go_enter Tryz.func30,Tryz.ntmps30
 go_upto_region 1 with fail
 have hx:=BoxT.new w q c p 42
 have hw:=(Below.refl w.heap.size w).alloc (Nat.le_refl _) (.cells #[.int .i64 q,.int .u8 (c:Int),.int .i64 p] 42)
 generalize w.alloc _=w1 at hx hw ⊢
 have HE:=Lib.hid hw
 have hsz:=hw.size
 obtain⟨b,hb⟩:∃ n,w.heap.size=n:=⟨_,rfl⟩
 rw[hb]at hx ⊢
 obtain⟨x0,x1,x2,x3⟩:=hx
 clear hw hb hsz
 by_cases f1:q=1
 ·subst f1
  by_cases f2:z=k
  ·subst f2
   have e2:(z==z)=true:=by simp
   have HR:=Lib.hid (show v=true from by rw[← HV.out,decide_eq_true rfl,decide_eq_true rfl];rfl)
   go_wp2_with fail
   refine(HC.out _).mono ?_
   rintro e w' ⟨rfl,rfl⟩
   go_wp2
   go_ret
   rw[HR.out]
   exact⟨rfl,HE.out⟩
  ·have e2:(z==k)=false:=beq_eq_false_iff_ne.2 f2
   have HR:=Lib.hid (show v=false from by rw[← HV.out,decide_eq_false f2,Bool.and_false])
   go_wp2_with fail
   refine(HC.out _).mono ?_
   rintro e w' ⟨rfl,rfl⟩
   go_wp2
   go_ret
   rw[HR.out]
   exact⟨rfl,HE.out⟩
 ·have e1:(q==1)=false:=beq_eq_false_iff_ne.2 f1
  have HR:=Lib.hid (show v=false from by rw[← HV.out,decide_eq_false f1,Bool.false_and])
  go_wp2
  go_ret
  rw[HR.out]
  exact⟨rfl,HE.out⟩
set_option maxRecDepth 100000 in
set_option maxHeartbeats 1000000 in
theorem rletter_tok (x:Tk) (hc:x.ch<256) (v:Bool) (hv:letT x=v) (w:World) :
  Calls Tryz.prog 29 #[aggK x] w fun e w'=>e=.returned (.bool v)∧Below w.heap.size w w':=by
 obtain⟨a,ha⟩:∃ a,smallT x=a:=⟨_,rfl⟩
 obtain⟨b2,hb2⟩:∃ a,capT x=a:=⟨_,rfl⟩
 have HA:=Lib.hid (fun(W:World)=>ris_any x hc 1 a (by rw[isV_1 x hc,ha]) W)
 have HB:=Lib.hid (fun(W:World)=>ris_any x hc 2 b2 (by rw[isV_2 x hc,hb2]) W)
 have HV:=Lib.hid (show (a || b2)=v from by rw[← hv,← ha,← hb2];rfl)
 clear ha hb2 hv hc
 obtain⟨q,c,p⟩:=x
 simp only[aggK]at HA HB ⊢
 go_enter Tryz.func29,Tryz.ntmps29
 go_upto_region 1 with fail
 have hx:=BoxT.new w q c p 42
 have hw:=(Below.refl w.heap.size w).alloc (Nat.le_refl _) (.cells #[.int .i64 q,.int .u8 (c:Int),.int .i64 p] 42)
 generalize w.alloc _=w1 at hx hw ⊢
 have HE:=Lib.hid hw
 have hsz:=hw.size
 obtain⟨b,hb⟩:∃ n,w.heap.size=n:=⟨_,rfl⟩
 rw[hb]at hx ⊢
 have HX:=Lib.hid hx
 obtain⟨x0,x1,x2,x3⟩:=hx
 clear hw hb hsz
 cases a
 case true =>
  go_wp2_with fail
  refine(HA.out _).mono ?_
  rintro e w2 ⟨rfl,hb2⟩
  have HE2:=Lib.hid (chain HE.out HE.out.size hb2)
  clear hb2
  have HR:=Lib.hid (show v=true from HV.out.symm)
  go_wp2
  go_ret
  rw[HR.out]
  exact⟨rfl,HE2.out⟩
 case false =>
  go_wp2_with fail
  refine(HA.out _).mono ?_
  rintro e w2 ⟨rfl,hb2⟩
  have HE2:=Lib.hid (chain HE.out HE.out.size hb2)
  have HX2:=HX.out.kept hb2
  clear hb2 x0 x1 x2 x3
  obtain⟨x0,x1,x2,x3⟩:=HX2
  have HR:=Lib.hid (show v=b2 from by rw[← HV.out];rfl)
  go_wp2_with fail
  refine(HB.out _).mono ?_
  rintro e w3 ⟨rfl,hb3⟩
  have HE3:=Lib.hid (chain HE2.out HE2.out.size hb3)
  clear hb3
  go_wp2
  go_ret
  rw[HR.out]
  exact⟨rfl,HE3.out⟩
theorem rrule_any (v:Value) (l:List Rl) (off:Nat) (q:Int) (L:List Nat) (hl:l.length≤1000000) (hf:∀ x ∈ l,FitR x) (hL:∀ c ∈ L,c<256) (w:World) (B:Nat) (hv:ReadsR off w B v l) :
  Calls Tryz.prog 46 #[v,.int .i64 q,.string (bytesOf L)] w fun e w'=>e=.returned (.int .i64 ((ruleN l q L:Nat):Int))∧w'=w:=by
 have HF:=Lib.hid (rfind_any v l off q (bytesOf L) hl hf (findN l q L) (by rw[bytesN_bytesOf _ hL]) w B hv)
 obtain⟨A,c,rfl,-⟩:=hv
 have HN:=Lib.hid (show numV (findN l q L)=((ruleN l q L:Nat):Int) from by
  unfold ruleN
  cases findN l q L<;>rfl)
 obtain⟨o,ho⟩:∃ o,findN l q L=o:=⟨_,rfl⟩
 rw[ho]at HF HN
 obtain⟨T,hT⟩:∃ T,bytesOf L=T:=⟨_,rfl⟩
 rw[hT]at HF ⊢
 clear ho hT hL
 go_enter Tryz.func46,Tryz.ntmps46
 go_wp2_with fail
 refine HF.out.mono ?_
 rintro e w' ⟨rfl,rfl⟩
 go_wp2
 go_ret
 rw[HN.out]
 exact⟨rfl,rfl⟩
end Go.Proofs.YtlgejmcihchngaaGreatDoor.Cu
namespace Go.Proofs.YtlgejmcihchngaaGreatDoor.Cu
open Go.RowKit Ba Ru Ck Ti Pa Fl
structure Pq where
 rule:Int
 frm:Int
 len:Int
def Pc.q (x:Pc):Pq:=⟨(x.rule:Int),(x.frm:Int),(x.len:Int)⟩
def cQ (x:Pq):List Value:=[.int .i64 x.rule,.int .i64 x.frm,.int .i64 x.len]
theorem cQ_len (x:Pq):(cQ x).length=3:=rfl
abbrev ReadsQ (off:Nat) (w:World) (B:Nat) (v:Value) (l:List Pq):Prop:=Ba.Reads cQ 3 off w B v l
def rowsP (p:List Pc):List Value:=Ba.rows cQ (p.map Pc.q)
theorem rowsP_snoc (p:List Pc) (x:Pc):rowsP (p++[x])=rowsP p++[.int .i64 (x.rule:Int),.int .i64 (x.frm:Int),.int .i64 (x.len:Int)]:=by
 unfold rowsP Ba.rows
 rw[List.map_append,List.flatMap_append]
 rfl
theorem readsQ_own {w:World} {B m:Nat} {v:Value} {p:List Pc} (hm:p.length=m) (h:w.ownsRow B 48 3 v m (rowsP p)):ReadsQ 0 w w.heap.size v (p.map Pc.q):=by
 unfold rowsP at h
 exact Ba.Reads.of_own cQ_len (by rw[List.length_map,hm]) h
theorem qcell {l:List Pq} {g off:Nat} {w:World} (hcell:∀ k x,l[k]?=some x→∀ j u,(cQ x)[j]?=some u→w.cell? ⟨g,off+(k * 3+j),none⟩=some u) (k:Nat) (x:Pq) (hx:l[k]?=some x) :
  w.cell? ⟨g,off+k * 3,none⟩=some (.int .i64 x.rule)∧w.cell? ⟨g,off+k * 3+1,none⟩=some (.int .i64 x.frm)∧w.cell? ⟨g,off+k * 3+2,none⟩=some (.int .i64 x.len):=by
 have h:=fun j u hu=>hcell k x hx j u hu
 exact⟨h 0 _ rfl,h 1 _ rfl,h 2 _ rfl⟩
def cellsQ (l:List Rl) (p:List Pq):List Nat:=if p.all (fun x=>decide (0≤x.rule∧x.rule<l.length))=true then p.flatMap fun x=>(l[x.rule.toNat]?.map (·.cells)).getD [] else []
theorem cellsQ_q (l:List Rl) (p:List Pc):cellsQ l (p.map Pc.q)=cellsP l p:=by
 unfold cellsQ cellsP
 rw[List.all_map,List.flatMap_map]
 have e:((fun x:Pq=>decide (0≤x.rule∧x.rule<(l.length:Int))) ∘ Pc.q)=fun x:Pc=>decide (x.rule<l.length):=by
  funext x
  show decide (0≤((x.rule:Nat):Int)∧((x.rule:Nat):Int)<(l.length:Int))=decide (x.rule<l.length)
  rw[Bool.eq_iff_iff,decide_eq_true_iff,decide_eq_true_iff];omega
 rw[e]
 rfl
set_option maxRecDepth 100000 in
set_option maxHeartbeats 4000000 in
theorem rcheck_any (v:Value) (l:List Tk) (off:Nat) (hl:l.length≤100000) (hf:FitT l) (r:Int) (hr:(if chunkB l=true then (0:Int) else 1)=r) (w:World) (hv:ReadsT off w w.heap.size v l) :
  Calls Tryz.prog 10 #[v] w fun e w'=>e=.returned (.int .i64 r)∧Below w.heap.size w w':=by
 have HR:=Lib.hid hr
 clear hr
 obtain⟨A,c,rfl,hA⟩:=hv
 have HA:=Lib.hid hA
 have HF:=Lib.hid hf
 obtain⟨n,hn⟩:∃ n,l.length=n:=⟨_,rfl⟩
 rw[hn]at HA hl ⊢
 have HN:=Lib.hid hn
 clear hA hn hf
 go_enter Tryz.func10,Tryz.ntmps10
 go_wp2
 go_loopw [3] (fun i wr=>∃ k:Nat,i=.int .i64 (k:Int)∧k≤n∧(∀ x ∈ l.take k,tokT x=true)∧Below w.heap.size w wr) (fun i _=>n - (intOf i).toNat)
 case atStart=>exact⟨0,rfl,Nat.zero_le _,fun x hx=>by simp at hx,Below.refl _ _⟩
 case round =>
  obtain⟨k,rfl,hk,hall,hBr⟩:=hrel
  have HBR:=Lib.hid hBr
  have HALL:=Lib.hid hall
  clear hBr hall
  by_cases hlt:k<n
  ·obtain⟨x,hx⟩:∃ x,l[k]?=some x:=⟨_,List.getElem?_eq_getElem (by rw[HN.out];exact hlt)⟩
   have hxm:=List.mem_of_getElem? hx
   have hc:=(HF.out x hxm).2.1
   obtain⟨g,rfl,hgw,hg⟩:=HA.out (by omega)
   obtain⟨y0,y1,y2⟩:=tcell hg k x hx
   obtain⟨a1,h1⟩:∃ a,letT x=a:=⟨_,rfl⟩
   obtain⟨a2,h2⟩:∃ a,digT x=a:=⟨_,rfl⟩
   obtain⟨a3,h3⟩:∃ a,mrkT x=a:=⟨_,rfl⟩
   obtain⟨L,h4⟩:∃ a,nameT x=a:=⟨_,rfl⟩
   have HC1:=Lib.hid (fun(W:World)=>rletter_tok x hc a1 h1 W)
   have HC2:=Lib.hid (fun(W:World)=>ris_any x hc 3 a2 (by rw[isV_3 x hc,h2]) W)
   have HC3:=Lib.hid (fun(W:World)=>ris_any x hc 4 a3 (by rw[isV_4 x hc,h3]) W)
   have HC4:=Lib.hid (fun(W:World)=>rmark_any x hc L h4 W)
   have HT:=Lib.hid (show tokT x=(a1 || a2 || a3 || !L.isEmpty) from by unfold tokT;rw[h1,h2,h3,h4])
   have HYES:=Lib.hid (show tokT x=true→∀ y ∈ l.take (k+1),tokT y=true from fun h y hy=>by
    rw[List.take_add_one,hx,List.mem_append]at hy
    rcases hy with hy | hy
    ·exact HALL.out y hy
    ·rw[Option.toList_some,List.mem_singleton]at hy
     rw[hy];exact h)
   have HNO:=Lib.hid (show tokT x=false→(1:Int)=r from fun h=>by
    rw[← HR.out,if_neg]
    intro hall
    unfold chunkB at hall
    rw[List.all_eq_true]at hall
    rw[hall x hxm]at h
    cases h)
   have HCC:=Lib.hid (show ∀ W:World,Below w.heap.size w W→W.cell? ⟨g,off+k * 3,none⟩=some (.int .i64 x.kind)∧W.cell? ⟨g,off+k * 3+1,none⟩=some (.int .u8 (x.ch:Int))∧W.cell? ⟨g,off+k * 3+2,none⟩=some (.int .i64 x.place) from fun W hW=>⟨(hW.cell (p:=⟨g,off+k * 3,none⟩) hgw).trans y0,(hW.cell (p:=⟨g,off+k * 3+1,none⟩) hgw).trans y1,(hW.cell (p:=⟨g,off+k * 3+2,none⟩) hgw).trans y2⟩)
   clear hx hxm hg y0 y1 y2 h1 h2 h3 h4 hc
   obtain⟨xk,xc,xp⟩:=x
   simp only[aggK]at HC1 HC2 HC3 HC4
   simp only[]at HCC
   obtain⟨y0,y1,y2⟩:=HCC.out wr HBR.out
   have j0:(0:Int)≤(k:Int):=by omega
   have j1:(k:Int)<(n:Int):=by omega
   have t1:decide ((k:Int)<(n:Int))=true:=decide_eq_true j1
   cases a1
   case true =>
    have HY:=Lib.hid (HYES.out (by rw[HT.out];rfl))
    go_wp2_with fail
    refine(HC1.out _).mono ?_
    rintro e w2 ⟨rfl,hb2⟩
    have HE:=Lib.hid (chain HBR.out HBR.out.size hb2)
    clear hb2
    go_wp2
    go_roundw
    case rel=>exact⟨k+1,by go_num,by omega,HY.out,HE.out⟩
    case measure=>simp[intOf];omega
   case false =>
   go_wp2_with fail
   refine(HC1.out _).mono ?_
   rintro e w2 ⟨rfl,hb2⟩
   have HB2:=Lib.hid (chain HBR.out HBR.out.size hb2)
   clear hb2 y0 y1 y2
   obtain⟨y0,y1,y2⟩:=HCC.out w2 HB2.out
   cases a2
   case true =>
    have HY:=Lib.hid (HYES.out (by rw[HT.out];rfl))
    go_wp2_with fail
    refine(HC2.out _).mono ?_
    rintro e w3 ⟨rfl,hb3⟩
    have HE:=Lib.hid (chain HB2.out HB2.out.size hb3)
    clear hb3
    go_wp2
    go_roundw
    case rel=>exact⟨k+1,by go_num,by omega,HY.out,HE.out⟩
    case measure=>simp[intOf];omega
   case false =>
   go_wp2_with fail
   refine(HC2.out _).mono ?_
   rintro e w3 ⟨rfl,hb3⟩
   have HB3:=Lib.hid (chain HB2.out HB2.out.size hb3)
   clear hb3 y0 y1 y2
   obtain⟨y0,y1,y2⟩:=HCC.out w3 HB3.out
   cases a3
   case true =>
    have HY:=Lib.hid (HYES.out (by rw[HT.out];rfl))
    go_wp2_with fail
    refine(HC3.out _).mono ?_
    rintro e w4 ⟨rfl,hb4⟩
    have HE:=Lib.hid (chain HB3.out HB3.out.size hb4)
    clear hb4
    go_wp2
    go_roundw
    case rel=>exact⟨k+1,by go_num,by omega,HY.out,HE.out⟩
    case measure=>simp[intOf];omega
   case false =>
   go_wp2_with fail
   refine(HC3.out _).mono ?_
   rintro e w4 ⟨rfl,hb4⟩
   have HB4:=Lib.hid (chain HB3.out HB3.out.size hb4)
   clear hb4 y0 y1 y2
   obtain⟨y0,y1,y2⟩:=HCC.out w4 HB4.out
   obtain⟨M,hM⟩:∃ M,bytesOf L=M:=⟨_,rfl⟩
   rw[hM]at HC4
   by_cases hm0:L=[]
   ·have HE1:=Lib.hid (HNO.out (by rw[HT.out,hm0];rfl))
    obtain rfl:M={ data:=#[] }:=by rw[← hM,hm0];rfl
    clear hm0 hM
    go_wp2_with fail
    refine(HC4.out _).mono ?_
    rintro e w5 ⟨rfl,hb5⟩
    have HE:=Lib.hid (chain HB4.out HB4.out.size hb5)
    clear hb5
    go_wp2
    go_ret
    rw[← HE1.out]
    exact⟨rfl,HE.out⟩
   ·have HY:=Lib.hid (HYES.out (by
     rw[HT.out]
     cases L with
     | nil=>exact absurd rfl hm0
     | cons a b=>rfl))
    have hne:M.toList.isEmpty=false:=not_empty (fun e=>hm0 (by
     have h:=congrArg List.length (congrArg bytesN e)
     rw[← hM,bytesN_len,bytesOf_size]at h
     exact List.length_eq_zero_iff.1 h))
    clear hm0 hM
    go_wp2_with fail
    refine(HC4.out _).mono ?_
    rintro e w5 ⟨rfl,hb5⟩
    have HE:=Lib.hid (chain HB4.out HB4.out.size hb5)
    clear hb5
    go_wp2
    go_roundw
    case rel=>exact⟨k+1,by go_num,by omega,HY.out,HE.out⟩
    case measure=>simp[intOf];omega
  ·obtain rfl:k=n:=by omega
   have HE1:=Lib.hid (show (0:Int)=r from by
    rw[← HR.out,if_pos]
    unfold chunkB
    rw[List.all_eq_true]
    intro x hx
    exact HALL.out x (by rw[List.take_of_length_le (by rw[HN.out];exact Nat.le_refl _)];exact hx))
   have t1:decide ((k:Int)<(k:Int))=false:=decide_eq_false (by omega)
   go_wp2
   go_ret
   rw[← HE1.out]
   exact⟨rfl,HBR.out⟩
set_option maxRecDepth 100000 in
set_option maxHeartbeats 4000000 in
theorem rtext_any (v:Value) (l:List Tk) (off:Nat) (hl:l.length≤100000) (hf:∀ x ∈ l,x.ch<256) (w:World) (B:Nat) (hB:B≤w.heap.size) (hv:ReadsT off w B v l) :
  Calls Tryz.prog 42 #[v] w fun e w'=>e=.returned (.string (bytesOf (chs l)))∧Below w.heap.size w w':=by
 obtain⟨A,c,rfl,hA⟩:=hv
 have HA:=Lib.hid hA
 have HF:=Lib.hid hf
 obtain⟨n,hn⟩:∃ n,l.length=n:=⟨_,rfl⟩
 rw[hn]at HA hl ⊢
 have HN:=Lib.hid hn
 clear hA hn hf
 go_enter Tryz.func42,Tryz.ntmps42
 go_wp2
 go_loopw [3,4] (fun s i wr=>∃ k:Nat,i=.int .i64 (k:Int)∧k≤n∧s=.string (bytesOf (chs (l.take k)))∧Below w.heap.size w wr) (fun _ i _=>n - (intOf i).toNat)
 case atStart=>exact⟨0,rfl,Nat.zero_le _,rfl,Below.refl _ _⟩
 case round =>
  obtain⟨k,rfl,hk,rfl,hBr⟩:=hrel
  have HBR:=Lib.hid hBr
  have hsz:=hBr.size
  by_cases hlt:k<n
  ·obtain⟨x,hx⟩:∃ x,l[k]?=some x:=⟨_,List.getElem?_eq_getElem (by rw[HN.out];exact hlt)⟩
   have hc:=HF.out x (List.mem_of_getElem? hx)
   obtain⟨g,rfl,hgw,hg⟩:=HA.out (by omega)
   obtain⟨-,y1,-⟩:=tcell hg k x hx
   have y1:=(hBr.cell (p:=⟨g,off+k * 3+1,none⟩) (Nat.lt_of_lt_of_le hgw hB)).trans y1
   have HNX:=Lib.hid (show bytesOf (chs (l.take (k+1)))=bytesOf (chs (l.take k))++bytesOf [x.ch] from by
    rw[List.take_add_one,hx,← bytesOf_app]
    unfold chs
    rw[List.map_append]
    rfl)
   have hks:(bytesOf (chs (l.take k))).size=k:=by
    rw[bytesOf_size]
    unfold chs
    rw[List.length_map,List.length_take,HN.out];omega
   obtain⟨T,hT⟩:∃ T,bytesOf (chs (l.take k))=T:=⟨_,rfl⟩
   rw[hT]at HNX hks ⊢
   obtain⟨xc,hxc⟩:∃ c,x.ch=c:=⟨_,rfl⟩
   rw[hxc]at hc y1 HNX
   have hone:(bytesOf [xc]).size=1:=bytesOf_size _
   have hcv:=back_one (wr.alloc (.cells #[.int .u8 (xc:Int)] 5)) wr.heap.size xc hc (by simp)
   have HE:=Lib.hid (HBR.out.alloc hsz (.cells #[.int .u8 (xc:Int)] 5))
   obtain⟨O,hO⟩:∃ O,bytesOf [xc]=O:=⟨_,rfl⟩
   rw[hO]at HNX hone hcv
   have j0:(0:Int)≤(k:Int):=by omega
   have j1:(k:Int)<(n:Int):=by omega
   clear hx hg hgw hBr hT hxc hO
   go_wp2
   go_roundw
   case rel=>exact⟨k+1,by go_num,by omega,by rw[HNX.out],HE.out⟩
   case measure=>simp[intOf];omega
  ·obtain rfl:k=n:=by omega
   have HE:=Lib.hid (show l.take k=l from List.take_of_length_le (by rw[HN.out];exact Nat.le_refl _))
   rw[HE.out]
   obtain⟨T,hT⟩:∃ T,bytesOf (chs l)=T:=⟨_,rfl⟩
   have HTT:=Lib.hid hT
   rw[hT]
   have t1:decide ((k:Int)<(k:Int))=false:=decide_eq_false (by omega)
   clear hT hBr
   go_wp2
   go_ret
   rw[HTT.out]
   exact⟨rfl,HBR.out⟩
end Go.Proofs.YtlgejmcihchngaaGreatDoor.Cu
namespace Go.Proofs.YtlgejmcihchngaaGreatDoor.Cu
open Go.RowKit Ba Ru Ck Ti Pa Fl
def catQ (l:List Rl) (p:List Pq):List Nat:=p.flatMap fun x=>(l[x.rule.toNat]?.map (·.cells)).getD []
theorem catQ_snoc {l:List Rl} {p:List Pq} {x:Pq} {y:Rl} (h:l[x.rule.toNat]?=some y):catQ l (p++[x])=catQ l p++y.cells:=by
 unfold catQ
 rw[List.flatMap_append,List.flatMap_singleton,h]
 rfl
theorem catQ_len {l:List Rl} {M:Nat} (h:∀ x ∈ l,x.cells.length≤M):∀ p:List Pq,(catQ l p).length≤p.length * M
 | []=>Nat.zero_le _
 | x::p=>by
  have ih:=catQ_len h p
  have e:catQ l (x::p)=(l[x.rule.toNat]?.map (·.cells)).getD []++catQ l p:=rfl
  rw[e,List.length_append,List.length_cons,Nat.succ_mul]
  have:((l[x.rule.toNat]?.map (·.cells)).getD []).length≤M:=by
   cases hx:l[x.rule.toNat]? with
   | none=>exact Nat.zero_le _
   | some y=>exact h y (List.mem_of_getElem? hx)
  omega
set_option maxRecDepth 100000 in
set_option maxHeartbeats 4000000 in
theorem rcells_any (v u:Value) (l:List Rl) (p:List Pq) (o1 o2:Nat) (hl:l.length≤100000) (hp:p.length≤10000) (hx9:∀ x ∈ l,x.cells.length≤9000) (hfp:∀ x ∈ p,I64 x.rule) (T:ByteArray) (hT:bytesOf (cellsQ l p)=T) (w:World) (B1 B2:Nat) (hv:ReadsR o1 w B1 v l) (hu:ReadsQ o2 w B2 u p) :
  Calls Tryz.prog 21 #[v,u] w fun e w'=>e=.returned (.string T)∧w'=w:=by
 obtain⟨A,c,rfl,hA⟩:=hv
 obtain⟨A2,c2,rfl,hA2⟩:=hu
 have HA:=Lib.hid hA
 have HA2:=Lib.hid hA2
 have HT:=Lib.hid hT
 have H9:=Lib.hid hx9
 have HFP:=Lib.hid hfp
 obtain⟨nl,hnl⟩:∃ n,l.length=n:=⟨_,rfl⟩
 obtain⟨np,hnp⟩:∃ n,p.length=n:=⟨_,rfl⟩
 rw[hnl]at HA hl ⊢
 rw[hnp]at HA2 hp ⊢
 have HNL:=Lib.hid hnl
 have HNP:=Lib.hid hnp
 clear hA hA2 hT hx9 hfp hnl hnp
 go_enter Tryz.func21,Tryz.ntmps21
 go_wp2
 go_loopw [5,6] (fun s i wr=>∃ k:Nat,i=.int .i64 (k:Int)∧k≤np∧(∀ x ∈ p.take k,0≤x.rule∧x.rule<nl)∧s=.string (bytesOf (catQ l (p.take k)))∧wr=w) (fun _ i _=>np - (intOf i).toNat)
 case atStart=>exact⟨0,rfl,Nat.zero_le _,fun x hx=>by simp at hx,rfl,rfl⟩
 case round =>
  obtain⟨k,rfl,hk,hall,rfl,rfl⟩:=hrel
  have HALL:=Lib.hid hall
  clear hall
  by_cases hlt:k<np
  ·obtain⟨x,hx⟩:∃ x,p[k]?=some x:=⟨_,List.getElem?_eq_getElem (by rw[HNP.out];exact hlt)⟩
   obtain⟨g2,rfl,-,hg2⟩:=HA2.out (by omega)
   obtain⟨y0,-,-⟩:=qcell hg2 k x hx
   have hxm:=List.mem_of_getElem? hx
   have hi:=HFP.out x hxm
   have HXM:=Lib.hid hxm
   have HTK:=Lib.hid (show p.take (k+1)=p.take k++[x] from by rw[List.take_add_one,hx];rfl)
   have j0:(0:Int)≤(k:Int):=by omega
   have j1:(k:Int)<(np:Int):=by omega
   obtain⟨r,hr⟩:∃ r,x.rule=r:=⟨_,rfl⟩
   have HRR:=Lib.hid hr
   rw[hr]at y0 hi
   have hcl:(catQ l (p.take k)).length≤10000 * 9000:=Nat.le_trans (catQ_len H9.out _) (Nat.mul_le_mul (by rw[List.length_take,HNP.out];omega) (Nat.le_refl _))
   obtain⟨C,hC⟩:∃ C,bytesOf (catQ l (p.take k))=C:=⟨_,rfl⟩
   have hcs:C.size≤10000 * 9000:=by rw[← hC,bytesOf_size];exact hcl
   by_cases hin:0≤r∧r<nl
   ·obtain⟨h0,h1⟩:=hin
    obtain⟨y,hy⟩:∃ y,l[r.toNat]?=some y:=⟨_,List.getElem?_eq_getElem (by rw[HNL.out];omega)⟩
    obtain⟨g,rfl,-,hg⟩:=HA.out (by omega)
    obtain⟨-,-,z2,-,-⟩:=rcell hg r.toNat y hy
    have hys:=H9.out y (List.mem_of_getElem? hy)
    have HNX:=Lib.hid (show bytesOf (catQ l (p.take (k+1)))=C++bytesOf y.cells from by rw[HTK.out,catQ_snoc (by rw[hr];exact hy),bytesOf_app,hC])
    have HOK:=Lib.hid (show ∀ z ∈ p.take (k+1),0≤z.rule∧z.rule<nl from fun z hz=>by
     rw[HTK.out,List.mem_append]at hz
     rcases hz with hz | hz
     ·exact HALL.out z hz
     ·rw[List.mem_singleton]at hz
      rw[hz,hr];exact⟨h0,h1⟩)
    have hyc:(bytesOf y.cells).size≤9000:=by rw[bytesOf_size];exact hys
    obtain⟨Y,hY⟩:∃ Y,bytesOf y.cells=Y:=⟨_,rfl⟩
    rw[hY]at z2 HNX hyc
    rw[hC]
    obtain⟨rn,rfl⟩:∃ n:Nat,r=(n:Int):=⟨r.toNat,by omega⟩
    rw[Int.toNat_natCast]at z2
    have d1:decide ((rn:Int)<0)=false:=decide_eq_false (by omega)
    have d2:decide ((nl:Int)≤(rn:Int))=false:=decide_eq_false (by omega)
    have d3:decide (nl≤rn)=false:=decide_eq_false (by omega)
    clear hx hg hg2 hxm hr hy hys hC hY hcl
    go_wp2
    go_roundw
    case rel=>exact⟨k+1,by go_num,by omega,HOK.out,by rw[HNX.out],trivial⟩
    case measure=>simp[intOf];omega
   ·have HE:=Lib.hid (show T=bytesOf [] from by
     rw[← HT.out]
     unfold cellsQ
     rw[if_neg]
     intro h
     rw[List.all_eq_true]at h
     have:=of_decide_eq_true (h x HXM.out)
     rw[HNL.out,HRR.out]at this
     exact hin this)
    clear hx hg2 hxm hr
    by_cases h0:r<0
    ·have d1:decide (r<0)=true:=decide_eq_true h0
     go_wp2
     go_ret
     rw[HE.out]
     exact⟨rfl,rfl⟩
    ·have d1:decide (r<0)=false:=decide_eq_false h0
     have d2:decide ((nl:Int)≤r)=true:=decide_eq_true (by omega)
     go_wp2
     go_ret
     rw[HE.out]
     exact⟨rfl,rfl⟩
  ·obtain rfl:k=np:=by omega
   have HTK:=Lib.hid (show p.take k=p from List.take_of_length_le (by rw[HNP.out];exact Nat.le_refl _))
   have HE:=Lib.hid (show T=bytesOf (catQ l (p.take k)) from by
    rw[← HT.out,HTK.out]
    unfold cellsQ
    rw[if_pos]
    ·rfl
    ·rw[List.all_eq_true]
     intro x hx
     have:=HALL.out x (by rw[HTK.out];exact hx)
     rw[HNL.out]
     exact decide_eq_true this)
   obtain⟨C,hC⟩:∃ C,bytesOf (catQ l (p.take k))=C:=⟨_,rfl⟩
   rw[hC]at HE ⊢
   have t1:decide ((k:Int)<(k:Int))=false:=decide_eq_false (by omega)
   clear hC
   go_wp2
   go_ret
   rw[HE.out]
   exact⟨rfl,rfl⟩
set_option maxRecDepth 100000 in
set_option maxHeartbeats 4000000 in
theorem rsame12_yes (u v:Value) (ks:List Pq) (o1 o2:Nat) (hl:ks.length≤1000000) (w:World) (B1 B2:Nat) (hu:ReadsQ o1 w B1 u ks) (hv:ReadsQ o2 w B2 v ks) :
  Calls Tryz.prog 17 #[u,v] w fun e w'=>e=.returned (.bool true)∧∃ n,w'=w.drewN n:=by
 obtain⟨A,c,rfl,hA⟩:=hu
 obtain⟨B,d,rfl,hB⟩:=hv
 have HA:=Lib.hid hA;clear hA
 have HB:=Lib.hid hB;clear hB
 obtain⟨nk,hnk⟩:∃ n,ks.length=n:=⟨_,rfl⟩
 rw[hnk]at HA HB hl ⊢
 have HNK:=Lib.hid hnk;clear hnk
 go_enter Tryz.func17,Tryz.ntmps17
 go_wp2
 go_loopw [5] (fun i wr=>∃ (k n:Nat),k≤nk∧i=.int .i64 k∧wr=w.drewN n) (fun i _=>nk - (intOf i).toNat)
 case atStart=>exact⟨0,0,by omega,rfl,rfl⟩
 case round =>
  obtain⟨k,n,hk,rfl,rfl⟩:=hrel
  by_cases hlt:k<nk
  ·obtain⟨g,rfl,-,hg⟩:=HA.out (by omega)
   obtain⟨h,rfl,-,hh⟩:=HB.out (by omega)
   obtain⟨x,hs⟩:∃ s,ks[k]?=some s:=⟨_,List.getElem?_eq_getElem (by rw[HNK.out];exact hlt)⟩
   obtain⟨g0,g1,g2⟩:=qcell hg k x hs
   obtain⟨h0,h1,h2⟩:=qcell hh k x hs
   clear hg hh HA HB hs
   obtain⟨xr,xf,xl⟩:=x
   simp only[]at g0 g1 g2 h0 h1 h2
   go_wp2
   go_quiet (fail)
   go_wp2
   go_roundw
   case rel=>exact⟨k+1,n+nq,by omega,by go_num,rfl⟩
   case measure=>simp[intOf];omega
  ·go_wp2
   go_ret
   exact⟨rfl,n,rfl⟩
end Go.Proofs.YtlgejmcihchngaaGreatDoor.Cu
namespace Go.Proofs.YtlgejmcihchngaaGreatDoor.Cu
open Go.RowKit Ba Ru Ck Ti Pa Fl
theorem sign_len {l:List Rl} {M:Nat} (h:∀ x ∈ l,x.cells.length≤M) (s:List Nat):(signC l s).length≤M:=by
 unfold signC
 cases findN l 8 s with
 | none=>exact Nat.zero_le _
 | some k =>
  show ((l[k]?.map (·.cells)).getD []).length≤M
  cases hx:l[k]? with
  | none=>exact Nat.zero_le _
  | some y=>exact h y (List.mem_of_getElem? hx)
theorem sign_lt {l:List Rl} (h:∀ x ∈ l,FitR x) (s:List Nat):∀ c ∈ signC l s,c<256:=by
 unfold signC
 cases findN l 8 s with
 | none=>intro c hc;cases hc
 | some k =>
  show ∀ c ∈ (l[k]?.map (·.cells)).getD [],c<256
  cases hx:l[k]? with
  | none=>intro c hc;cases hc
  | some y=>exact(h y (List.mem_of_getElem? hx)).2.2.2.2.1
theorem bares_not {a b:List Tk} {k:Nat} {x y:Tk} (hx:a[k]?=some x) (hy:b[k]?=some y) (h:bare x≠bare y):a.map bare≠b.map bare:=fun e=>by
 have:=congrArg (fun L=>L[k]?) e
 simp only[List.getElem?_map,hx,hy,Option.map_some]at this
 exact h (Option.some.inj this)
set_option maxRecDepth 100000 in
set_option maxHeartbeats 4000000 in
theorem rtoks_any (u v:Value) (a b:List Tk) (o1 o2:Nat) (ha:a.length≤1000000) (hb:b.length≤1000000) (w:World) (B1 B2:Nat) (hu:ReadsT o1 w B1 u a) (hv:ReadsT o2 w B2 v b) (r:Bool) (hr:decide (a.map bare=b.map bare)=r) :
  Calls Tryz.prog 23 #[u,v] w fun e w'=>e=.returned (.bool r)∧∃ n,w'=w.drewN n:=by
 obtain⟨A,c,rfl,hA⟩:=hu
 obtain⟨B,d,rfl,hB⟩:=hv
 have HA:=Lib.hid hA;clear hA
 have HB:=Lib.hid hB;clear hB
 have HR:=Lib.hid hr;clear hr
 obtain⟨na,hna⟩:∃ n,a.length=n:=⟨_,rfl⟩
 obtain⟨nb,hnb⟩:∃ n,b.length=n:=⟨_,rfl⟩
 rw[hna]at HA ha ⊢
 rw[hnb]at HB hb ⊢
 have HNA:=Lib.hid hna
 have HNB:=Lib.hid hnb
 clear hna hnb
 go_enter Tryz.func23,Tryz.ntmps23
 by_cases hl:na=nb
 rotate_left
 ·have e1:((na:Int)==(nb:Int))=false:=beq_eq_false_iff_ne.2 (by omega)
  have e2:((na:Int) != (nb:Int))=true:=bne_iff_ne.2 (by omega)
  have HV:=Lib.hid (show r=false from by
   rw[← HR.out]
   exact decide_eq_false fun h=>hl (by
    have:=congrArg List.length h
    rw[List.length_map,List.length_map,HNA.out,HNB.out]at this
    exact this))
  clear hl
  go_wp2
  go_ret
  rw[HV.out]
  exact⟨rfl,0,rfl⟩
 subst hl
 have e1:((na:Int)==(na:Int))=true:=by simp
 go_wp2
 go_loopw [5] (fun i wr=>∃ (k n:Nat),k≤na∧i=.int .i64 k∧(∀ (j:Nat) (x y:Tk),j<k→a[j]?=some x→b[j]?=some y→bare x=bare y)∧wr=w.drewN n) (fun i _=>na - (intOf i).toNat)
 case atStart=>exact⟨0,0,by omega,rfl,fun j x y h=>absurd h (Nat.not_lt_zero _),rfl⟩
 case round =>
  obtain⟨k,n,hk,rfl,hall,rfl⟩:=hrel
  have HALL:=Lib.hid hall
  clear hall
  by_cases hlt:k<na
  ·obtain⟨g,rfl,-,hg⟩:=HA.out (by omega)
   obtain⟨h,rfl,-,hh⟩:=HB.out (by omega)
   obtain⟨x,hx⟩:∃ s,a[k]?=some s:=⟨_,List.getElem?_eq_getElem (by rw[HNA.out];exact hlt)⟩
   obtain⟨y,hy⟩:∃ s,b[k]?=some s:=⟨_,List.getElem?_eq_getElem (by rw[HNB.out];exact hlt)⟩
   obtain⟨g0,g1,-⟩:=tcell hg k x hx
   obtain⟨h0,h1,-⟩:=tcell hh k y hy
   have HNO:=Lib.hid (show bare x≠bare y→r=false from fun q=>by
    rw[← HR.out]
    exact decide_eq_false (bares_not hx hy q))
   have HYS:=Lib.hid (show bare x=bare y→∀ (j:Nat) (x y:Tk),j<k+1→a[j]?=some x→b[j]?=some y→bare x=bare y from fun q j x' y' hj hx' hy'=>by
    by_cases hjk:j=k
    ·subst hjk
     rw[hx]at hx';rw[hy]at hy'
     rw[← Option.some.inj hx',← Option.some.inj hy']
     exact q
    ·exact HALL.out j x' y' (by omega) hx' hy')
   clear hg hh HA HB hx hy
   obtain⟨xk,xc,xp⟩:=x
   obtain⟨yk,yc,yp⟩:=y
   simp only[]at g0 g1 h0 h1
   by_cases q1:xk=yk
   ·by_cases q2:xc=yc
    ·subst q1;subst q2
     have HY:=Lib.hid (HYS.out rfl)
     have v1:(xk==xk)=true:=by simp
     have v2:((xc:Int)==(xc:Int))=true:=by simp
     go_wp2
     go_quiet (fail)
     go_wp2
     go_roundw
     case rel=>exact⟨k+1,n+nq,by omega,by go_num,HY.out,rfl⟩
     case measure=>simp[intOf];omega
    ·subst q1
     have HV:=Lib.hid (HNO.out fun e=>q2 (congrArg Prod.snd e))
     have v1:(xk==xk)=true:=by simp
     have v2:((xc:Int)==(yc:Int))=false:=beq_eq_false_iff_ne.2 (by omega)
     clear q2
     go_wp2
     go_quiet (fail)
     go_wp2
     go_ret
     rw[HV.out]
     exact⟨rfl,n+nq,World.drewN_drewN ..⟩
   ·have HV:=Lib.hid (HNO.out fun e=>q1 (congrArg Prod.fst e))
    have v1:(xk==yk)=false:=beq_eq_false_iff_ne.2 q1
    have v1':decide (xk=yk)=false:=decide_eq_false q1
    have v1'':(xk != yk)=true:=bne_iff_ne.2 q1
    clear q1
    go_wp2
    go_quiet (fail)
    go_wp2
    go_ret
    rw[HV.out]
    exact⟨rfl,n+nq,World.drewN_drewN ..⟩
  ·obtain rfl:k=na:=by omega
   have HV:=Lib.hid (show r=true from by
    rw[← HR.out]
    refine decide_eq_true (List.ext_getElem? fun j=>?_)
    rw[List.getElem?_map,List.getElem?_map]
    rcases Nat.lt_or_ge j k with h | h
    ·obtain⟨x,hx⟩:∃ s,a[j]?=some s:=⟨_,List.getElem?_eq_getElem (by rw[HNA.out];exact h)⟩
     obtain⟨y,hy⟩:∃ s,b[j]?=some s:=⟨_,List.getElem?_eq_getElem (by rw[HNB.out];exact h)⟩
     rw[hx,hy]
     exact congrArg some (HALL.out j x y h hx hy)
    ·rw[List.getElem?_eq_none (by rw[HNA.out];exact h),List.getElem?_eq_none (by rw[HNB.out];exact h)])
   have t1:decide ((k:Int)<(k:Int))=false:=decide_eq_false (by omega)
   go_wp2
   go_ret
   rw[HV.out]
   exact⟨rfl,n,rfl⟩
set_option maxRecDepth 100000 in
set_option maxHeartbeats 1000000 in
theorem rcapital_any (S:ByteArray) (_hS:S.size≤2000) (p:Nat) (hp:p≤4000) (r:Bool) (hr:(decide (p<S.size) && capB ((bytesN S).getD p 0))=r) (w:World) :
  Calls Tryz.prog 87 #[.string S,.int .i64 (p:Int)] w fun e w'=>e=.returned (.bool r)∧w=w':=by
 have HR:=Lib.hid hr
 clear hr
 go_enter Tryz.func87,Tryz.ntmps87
 by_cases h:p<S.size
 ·obtain⟨z,hz⟩:∃ z,Hc.kc S p=z:=⟨_,rfl⟩
  have HC:=Lib.hid (fun(W:World)=>Cl.rclass_byte S p h z hz W)
  have HZ:=Lib.hid (show (z==2)=r from by
   rw[← HR.out,decide_eq_true h,Bool.true_and,← hz,kc_of S p h]
   have hlt:(bytesN S).getD p 0<256:=by
    rw[List.getD_eq_getElem?_getD,List.getElem?_eq_getElem (by rw[bytesN_len];exact h)]
    exact bytesN_lt S _ (List.getElem_mem _)
   have:=(cls_spec ⟨_,hlt⟩).2.1
   rw[Bool.eq_iff_iff,beq_iff_eq];exact this)
  have e1:=HZ.out
  have p0:(0:Int)≤(p:Int):=by omega
  have p1:(p:Int)<(S.size:Int):=by omega
  clear hz
  go_wp2_with fail
  refine(HC.out _).mono ?_
  rintro e w' ⟨rfl,rfl⟩
  go_wp2
  go_ret
  exact⟨rfl,rfl⟩
 ·have HV:=Lib.hid (show r=false from by rw[← HR.out,decide_eq_false h,Bool.false_and])
  have t1:decide ((p:Int)<(S.size:Int))=false:=decide_eq_false (by omega)
  have t2:decide (p<S.size)=false:=decide_eq_false h
  go_wp2
  go_ret
  rw[HV.out]
  exact⟨rfl,rfl⟩
set_option maxRecDepth 100000 in
set_option maxHeartbeats 4000000 in
theorem rlooks_any (v:Value) (l:List Rl) (off:Nat) (C:ByteArray) (hl:l.length≤100000) (hf:∀ x ∈ l,FitR x) (hx9:∀ x ∈ l,x.cells.length≤9000) (hC:C.size≤1000000) (r:Bool) (hr:looksB l (bytesN C)=r) (w:World) (B:Nat) (hv:ReadsR off w B v l) :
  Calls Tryz.prog 48 #[v,.string C] w fun e w'=>e=.returned (.bool r)∧w'=w:=by
 have hcap:(bytesOf (signC l capS)).size≤9000:=by
  rw[bytesOf_size];exact sign_len hx9 _
 have hcaps:(bytesOf (signC l capsS)).size≤9000:=by
  rw[bytesOf_size];exact sign_len hx9 _
 have h256:∀ s,bytesN (bytesOf (signC l s))=signC l s:=fun s=>bytesN_bytesOf _ (sign_lt hf s)
 have HS1:=Lib.hid (rsign_any v l off { data:=#[99,97,112] } (by omega) hf _ rfl w B hv)
 have HS2:=Lib.hid (rsign_any v l off { data:=#[99,97,112,115] } (by omega) hf _ rfl w B hv)
 rw[show bytesN { data:=#[99,97,112] }=capS from by decide]at HS1
 rw[show bytesN { data:=#[99,97,112,115] }=capsS from by decide]at HS2
 have HW:=Lib.hid (fun(t:ByteArray) (o:Option Nat) (ho:wordN l (bytesN t)=o)=>rword_any v l off t (by omega) hf o ho w B hv)
 obtain⟨A,c,rfl,-⟩:=hv
 unfold looksB at hr
 have e1:=h256 capS
 have e2:=h256 capsS
 obtain⟨P,hP⟩:∃ P,bytesOf (signC l capS)=P:=⟨_,rfl⟩
 obtain⟨Q,hQ⟩:∃ P,bytesOf (signC l capsS)=P:=⟨_,rfl⟩
 rw[hP]at e1 hcap HS1
 rw[hQ]at e2 hcaps HS2
 rw[← e1,← e2]at hr
 have HBP:=Lib.hid (fun(W:World)=>rbegins_any P C (by omega) hC W)
 have HBQ:=Lib.hid (fun(W:World)=>rbegins_any Q C (by omega) hC W)
 have HR:=Lib.hid hr
 clear hr hP hQ e1 e2 h256
 have hexP:P.size≤C.size→bytesN (C.extract P.size C.size)=(bytesN C).drop (bytesN P).length:=fun h=>by
  rw[bytesN_ext,bytesN_len P,List.take_of_length_le (by rw[List.length_drop,bytesN_len];exact Nat.le_refl _)]
 have hexQ:Q.size≤C.size→bytesN (C.extract Q.size C.size)=(bytesN C).drop (bytesN Q).length:=fun h=>by
  rw[bytesN_ext,bytesN_len Q,List.take_of_length_le (by rw[List.length_drop,bytesN_len];exact Nat.le_refl _)]
 have HEP:=Lib.hid hexP
 have HEQ:=Lib.hid hexQ
 have hpl:(bytesN P).isPrefixOf (bytesN C)=true→P.size≤C.size:=fun h=>by
  have:=(List.isPrefixOf_iff_prefix.1 h).length_le
  rwa [bytesN_len,bytesN_len]at this
 have hql:(bytesN Q).isPrefixOf (bytesN C)=true→Q.size≤C.size:=fun h=>by
  have:=(List.isPrefixOf_iff_prefix.1 h).length_le
  rwa [bytesN_len,bytesN_len]at this
 clear hexP hexQ
 obtain⟨bp,hbp⟩:∃ b,(bytesN P).isPrefixOf (bytesN C)=b:=⟨_,rfl⟩
 obtain⟨bq,hbq⟩:∃ b,(bytesN Q).isPrefixOf (bytesN C)=b:=⟨_,rfl⟩
 rw[hbp]at HBP hpl
 rw[hbq]at HBQ hql
 simp only[hbp,hbq]at HR
 clear hbp hbq
 go_enter Tryz.func48,Tryz.ntmps48
 go_wp2_with fail
 refine HS1.out.mono ?_
 rintro e w' ⟨rfl,rfl⟩
 go_wp2_with fail
 refine HS2.out.mono ?_
 rintro e w' ⟨rfl,rfl⟩
 go_wp2_with fail
 refine(HBP.out _).mono ?_
 rintro e w' ⟨rfl,rfl⟩
 cases bp
 case true =>
  have hz:=hpl rfl
  have z1:(0:Int)≤(P.size:Int):=by omega
  have z2:(P.size:Int)≤(C.size:Int):=by omega
  obtain⟨o,ho⟩:∃ o,wordN l (bytesN (C.extract P.size C.size))=o:=⟨_,rfl⟩
  have HWO:=Lib.hid (HW.out _ o ho)
  have HV:=Lib.hid (show okV o=r from by
   rw[← HR.out,if_pos rfl,← HEP.out hz,ho];rfl)
  clear ho hpl hql
  go_wp2_with fail
  refine HWO.out.mono ?_
  rintro e w' ⟨rfl,rfl⟩
  go_wp2
  go_ret
  rw[← HV.out]
  exact⟨rfl,rfl⟩
 case false =>
  go_wp2_with fail
  refine(HBQ.out _).mono ?_
  rintro e w' ⟨rfl,rfl⟩
  cases bq
  case true =>
   have hz:=hql rfl
   have z1:(0:Int)≤(Q.size:Int):=by omega
   have z2:(Q.size:Int)≤(C.size:Int):=by omega
   obtain⟨o,ho⟩:∃ o,wordN l (bytesN (C.extract Q.size C.size))=o:=⟨_,rfl⟩
   have HWO:=Lib.hid (HW.out _ o ho)
   have HV:=Lib.hid (show okV o=r from by
    rw[← HR.out,if_neg Bool.false_ne_true,if_pos rfl,← HEQ.out hz,ho];rfl)
   clear ho hpl hql
   go_wp2_with fail
   refine HWO.out.mono ?_
   rintro e w' ⟨rfl,rfl⟩
   go_wp2
   go_ret
   rw[← HV.out]
   exact⟨rfl,rfl⟩
  case false =>
   obtain⟨o,ho⟩:∃ o,wordN l (bytesN C)=o:=⟨_,rfl⟩
   have HWO:=Lib.hid (HW.out _ o ho)
   have HV:=Lib.hid (show okV o=r from by
    rw[← HR.out,if_neg Bool.false_ne_true,if_neg Bool.false_ne_true,ho];rfl)
   clear ho hpl hql
   go_wp2_with fail
   refine HWO.out.mono ?_
   rintro e w' ⟨rfl,rfl⟩
   go_wp2
   go_ret
   rw[← HV.out]
   exact⟨rfl,rfl⟩
end Go.Proofs.YtlgejmcihchngaaGreatDoor.Cu
namespace Go.Proofs.YtlgejmcihchngaaGreatDoor.Cu
open Go.RowKit Ba Ru Ck Ti Pa Fl
theorem byte_lt (S:ByteArray) (j:Nat) (hj:j<S.size):(bytesN S).getD j 0<256:=by
 rw[List.getD_eq_getElem?_getD,List.getElem?_eq_getElem (by rw[bytesN_len];exact hj)]
 exact bytesN_lt S _ (List.getElem_mem _)
theorem kc_cap (S:ByteArray) (j:Nat) (hj:j<S.size):Hc.kc S j=2↔capB ((bytesN S).getD j 0)=true:=by
 rw[kc_of S j hj]
 exact(cls_spec ⟨_,byte_lt S j hj⟩).2.1
theorem kc_small (S:ByteArray) (j:Nat) (hj:j<S.size):Hc.kc S j=1↔smallB ((bytesN S).getD j 0)=true:=by
 rw[kc_of S j hj]
 exact(cls_spec ⟨_,byte_lt S j hj⟩).1
theorem up_count (S:ByteArray):∀ n,n≤S.size→Hc.up S n=((bytesN S).take n).countP capB
 | 0,_=>rfl
 | n+1,h=>by
  have ih:=up_count S n (by omega)
  have e:Hc.up S (n+1)=Hc.up S n+if Hc.kc S n=2 then 1 else 0:=rfl
  have hn:n<(bytesN S).length:=by rw[bytesN_len];omega
  have hk:=kc_cap S n (by omega)
  rw[List.getD_eq_getElem?_getD,List.getElem?_eq_getElem hn,Option.getD_some]at hk
  rw[e,ih,List.take_add_one,List.getElem?_eq_getElem hn,Option.toList_some,List.countP_append,List.countP_singleton]
  congr 1
  by_cases hc:capB (bytesN S)[n]=true
  ·rw[if_pos hc,if_pos (hk.2 hc)]
  ·rw[if_neg hc,if_neg fun q=>hc (hk.1 q)]
theorem allL_all (S:ByteArray):Hc.allL S S.size↔((bytesN S).all fun c=>smallB c || capB c)=true:=by
 have hlen:=bytesN_len S
 rw[List.all_eq_true]
 constructor
 ·intro h c hc
  obtain⟨j,hj,e⟩:=List.getElem_of_mem hc
  have hj':j<S.size:=by omega
  have e2:(bytesN S).getD j 0=c:=by rw[List.getD_eq_getElem?_getD,List.getElem?_eq_getElem hj,e];rfl
  rw[Bool.or_eq_true]
  rcases h j hj' with k | k
  ·exact .inl (by rw[← e2];exact(kc_small S j hj').1 k)
  ·exact .inr (by rw[← e2];exact(kc_cap S j hj').1 k)
 ·intro h j hj
  have e2:(bytesN S).getD j 0=(bytesN S)[j]'(by omega):=by rw[List.getD_eq_getElem?_getD,List.getElem?_eq_getElem (by omega)];rfl
  have:=h _ (List.getElem_mem (by omega:j<(bytesN S).length))
  rw[Bool.or_eq_true]at this
  rcases this with k | k
  ·exact .inl ((kc_small S j hj).2 (by rw[e2];exact k))
  ·exact .inr ((kc_cap S j hj).2 (by rw[e2];exact k))
theorem small_cap {c:Nat} (h:Pa.smallB c=true∨capB c=true):smallB c=true↔¬ capB c=true:=by
 unfold Pa.smallB capB at h ⊢
 simp only[decide_eq_true_eq]at h ⊢
 omega
theorem caseI_caseN (S:ByteArray):Hc.caseI S=((caseN (bytesN S):Nat):Int):=by
 have hlen:=bytesN_len S
 have hup:=up_count S S.size (Nat.le_refl _)
 rw[List.take_of_length_le (by omega)]at hup
 have hk0:0<S.size→(Hc.kc S 0=2↔capB ((bytesN S).headD 0)=true):=fun h=>by
  have:=kc_cap S 0 h
  cases hL:bytesN S with
  | nil=>rw[hL]at hlen;simp at hlen;omega
  | cons a b=>rw[hL]at this;exact this
 have hA:=allL_all S
 obtain⟨L,hL⟩:∃ L,bytesN S=L:=⟨_,rfl⟩
 rw[hL]at hlen hup hk0 hA ⊢
 unfold caseN
 by_cases h0:S.size=0
 ·have:L=[]:=List.length_eq_zero_iff.1 (by omega)
  rw[this]
  unfold Hc.caseI
  rw[if_pos h0]
  rfl
 obtain⟨a,b,rfl⟩:∃ a b,L=a::b:=by
  cases L with
  | nil=>exact absurd hlen.symm h0
  | cons a b=>exact⟨a,b,rfl⟩
 by_cases hall:Hc.allL S S.size
 ·rw[Hc.caseI_yes S hall]
  have hall2:=hA.1 hall
  have hm:∀ c ∈ a::b,(smallB c=true↔¬ capB c=true):=fun c hc=>by
   have:=List.all_eq_true.1 hall2 c hc
   rw[Bool.or_eq_true]at this
   exact small_cap this
  rw[hall2]
  have hsm:∀ M:List Nat,(∀ c ∈ M,c ∈ a::b)→(M.countP capB=0↔M.all smallB=true):=fun M hM=>by
   rw[List.countP_eq_zero,List.all_eq_true]
   exact⟨fun h c hc=>(hm c (hM c hc)).2 (h c hc),fun h c hc=>(hm c (hM c hc)).1 (h c hc)⟩
  have h1:=hsm (a::b) fun c hc=>hc
  have h2:=hsm b fun c hc=>List.mem_cons_of_mem _ hc
  have h3:(a::b).countP capB=(a::b).length↔(a::b).all capB=true:=by
   rw[List.countP_eq_length,List.all_eq_true]
  unfold Hc.caseV
  rw[if_neg h0,hup]
  have hk:=hk0 (by omega)
  have e:(a::b).headD 0=a:=rfl
  rw[e]at hk
  have e2:(a::b).tail=b:=rfl
  have e3:((a::b).isEmpty || !true)=false:=rfl
  rw[e,e2,e3,if_neg Bool.false_ne_true]
  by_cases k0:(a::b).countP capB=0
  ·rw[if_pos k0,if_pos (h1.1 k0)];rfl
  ·rw[if_neg k0,if_neg fun q=>k0 (h1.2 q)]
   have hc1:(a::b).countP capB=b.countP capB+if capB a=true then 1 else 0:=List.countP_cons
   by_cases k1:(a::b).countP capB=1∧Hc.kc S 0=2
   ·obtain⟨q1,q2⟩:=k1
    have q3:=hk.1 q2
    rw[if_pos ⟨q1,q2⟩]
    rw[hc1,if_pos q3]at q1
    rw[q3,h2.1 (by omega)]
    rfl
   ·rw[if_neg k1]
    have:(capB a && b.all smallB)=false:=by
     cases hx:(capB a && b.all smallB) with
     | false=>rfl
     | true =>
      rw[Bool.and_eq_true]at hx
      refine absurd ⟨?_,hk.2 hx.1⟩ k1
      rw[hc1,if_pos hx.1,h2.2 hx.2]
    rw[this,if_neg Bool.false_ne_true]
    by_cases k3:(a::b).countP capB=S.size
    ·rw[if_pos k3,if_pos (h3.1 (by rw[k3,hlen]))];rfl
    ·rw[if_neg k3,if_neg fun q=>k3 (by rw[h3.2 q,hlen])];rfl
 ·rw[Hc.caseI_no S hall]
  have:((a::b).all fun c=>smallB c || capB c)=false:=by
   cases hx:((a::b).all fun c=>smallB c || capB c) with
   | false=>rfl
   | true=>exact absurd (hA.2 hx) hall
  rw[this]
  rfl
theorem lowB_smallN:∀ n:Fin 256,(Cl.lowB (UInt8.ofNat n.val)).toNat=smallN n.val:=by decide +kernel
theorem lowS_lowN (S:ByteArray):Cl.lowS S=bytesOf (lowN (bytesN S)):=by
 unfold Cl.lowS Cl.lowL bytesOf lowN bytesN
 congr 2
 rw[List.map_map,List.map_map]
 refine List.map_congr_left fun b _=>?_
 have h:=lowB_smallN ⟨b.toNat,UInt8.toNat_lt b⟩
 simp only[UInt8.ofNat_toNat]at h
 show Cl.lowB b=UInt8.ofNat (smallN b.toNat)
 rw[← h,UInt8.ofNat_toNat]
theorem rlow_is (s:List Nat) (hs:s.length≤2000) (h256:∀ c ∈ s,c<256) (w:World) :
  Calls Tryz.prog 44 #[.string (bytesOf s)] w fun e w'=>e=.returned (.string (bytesOf (lowN s)))∧Below w.heap.size w w':=by
 have h:=Cl.rlow_any (bytesOf s) (by rw[bytesOf_size];exact hs) w
 rw[lowS_lowN,bytesN_bytesOf _ h256]at h
 exact h
theorem rcase_is (s:List Nat) (hs:s.length≤2000) (h256:∀ c ∈ s,c<256) (w:World) :
  Calls Tryz.prog 45 #[.string (bytesOf s)] w fun e w'=>e=.returned (.int .i64 ((caseN s:Nat):Int))∧w=w':=by
 have h:=Cl.rcase_any (bytesOf s) (by rw[bytesOf_size];exact hs) w
 rw[caseI_caseN,bytesN_bytesOf _ h256]at h
 exact h
end Go.Proofs.YtlgejmcihchngaaGreatDoor.Cu
