/-
  tree.Parse: at its start.
-/
import Derived.Test.YtgpihfacmpbpaaaGreatDoorVn
import Derived.Test.YtgpihfacmpbpaaaGreatDoorTrD
import Derived.Laws.EntriesVeiled
import Derived.Maps.RangeWalk
namespace Go.Proofs.YtgpihfacmpbpaaaGreatDoor.Tr
open Go.RowKit
set_option maxHeartbeats 4000000 in
theorem PZ (s:ByteArray) (hm:s.size≤maxLen) (w:World) (hL:Ka.Laid w) :
  Calls Tryz.prog 34 #[.string s] w fun e w'=>Lx.BI s e w' w.heap.size∧Below w.heap.size w w':=by
 by_cases hlong:8192<s.size
 ·have HG:=Lib.hid (Lx.BI.nil (w':=w) (B:=w.heap.size) (Lx.vN hlong))
  unfold maxLen at hm
  go_enter Tryz.func34,Tryz.ntmps34
  go_wp2
  go_ret3
  exact⟨HG.out,Below.refl _ _⟩
 ·exact Lx.Z2 s (by omega) w hL
theorem K2 {s:ByteArray} (h:Lx.nD s=0):s.size≤8192:=by
 by_cases hl:8192<s.size
 ·have:=(Lx.vN hl).2.2;omega
 ·omega
theorem EY {s:ByteArray} {l:List Lx.Lx} (h:Lx.iG s 0=(l,none)):∀ k,k≤l.length→∃ p,Lx.At s l k p
 | 0,_=>⟨0,Lx.At.zero h⟩
 | k+1,hk=>by
  obtain⟨p,hp⟩:=EY h k (by omega)
  obtain⟨x,q,_,_,hq⟩:=hp.step (by omega)
  exact⟨q,hq⟩
theorem X8 {s:ByteArray} (h:Lx.nD s=0) {k:Nat} {x:Lx.Lx} (hx:(Lx.gV s)[k]?=some x):x.place<8192∧x.text.size≤8192∧x.name<256∧(x.kind=1∨(x.kind=2∧x.name≠46∧x.text=aA)∨(x.kind=3∧x.text=aA)):=by
 have hs:=K2 h
 have hlt:=(List.getElem?_eq_some_iff.1 hx).1
 obtain⟨p,hp⟩:=EY (Lx.zY h) k (by omega)
 obtain⟨y,q,hy,hst,_⟩:=hp.step hlt
 rw[hx]at hy
 cases hy
 have hps:=hp.lt hlt
 rcases Lx.pG hps hst with⟨rfl,_⟩ | ⟨c,n,hc256,hcn,hn0,hn2,rfl,_⟩ | ⟨e,he1,he2,rfl,_⟩
 ·exact⟨by show p<_;omega,Nat.zero_le _,by show 0<256;omega,.inr (.inr ⟨rfl,rfl⟩)⟩
 ·refine⟨by show p<_;omega,Nat.zero_le _,hc256,.inr (.inl ⟨rfl,fun e=>?_,rfl⟩)⟩
  have e':c=46:=e
  subst e'
  have:(Lx.bE 46).size=0:=by decide +kernel
  rw[← hcn]at hn0;omega
 ·refine⟨by show p<_;omega,?_,by show 0<256;omega,.inl rfl⟩
  show (s.extract p e).size≤_
  rw[Lx.fH _ _ _ he2];omega
theorem pD.make {w1 w2:World} {M n L:Nat} {T:TypeId} (hmap:Ts.iE w2 M n rk) (hown:w2.ownsRow w1.heap.size 110 8 (.slice (some ⟨L,0,none⟩) 1 1) 1 (Ba.rows cL [fN])) (hLM:L≠M) (hs:w1.heap.size≤w2.heap.size) (so:Obj) :
  pD ((w2.alloc (.cells #[.map (some M),.slice (some ⟨L,0,none⟩) 1 1,.int .i64 0,.bool false,.bool false,.slice none 0 0,.int .i64 0] T)).alloc so) w1.heap.size w2.heap.size M n L KI [] 0:=by
 have hMl:=hmap.lt
 have hLl:=(hown.lt L rfl).2
 have hb:=((Below.refl w2.heap.size w2).alloc (Nat.le_refl _) (.cells #[.map (some M),.slice (some ⟨L,0,none⟩) 1 1,.int .i64 0,.bool false,.bool false,.slice none 0 0,.int .i64 0] T)).alloc (by simp) so
 refine⟨⟨by simp[],⟨1,by simp;rfl,?_⟩,by simp;rfl,by simp;rfl,by simp;rfl,fun i=>by simp,hmap.aX (hb.block M hMl),by decide,rfl,fun b hb'=>?_,hs,by omega,hLM,by omega⟩,⟨.slice none 0 0,by simp,World.ownsRow_nil _ _ _ _,by simp[Value.ownBlock],by simp[Value.ownBlock],by simp[Value.ownBlock]⟩,by simp⟩
 ·exact(hown.alloc _).alloc _
 ·have:b=fN:=by simpa[KI] using hb'
  subst this;decide
theorem CV {l:List Lx.Lx} {k:Nat} {x:Lx.Lx} (hx:l[k]?=some x):aV (l.take (k+1))=aE (aV (l.take k)) x:=by
 rw[List.take_add_one,hx]
 exact k8 _ _
theorem GN {l:List Lx.Lx} {k:Nat} {x:Lx.Lx} (hx:l[k]?=some x) (st:List Nd × List Op):gQ st (l.drop k)=if (aD st.1 st.2 x).2=0 then gQ (aE st x) (l.drop (k+1)) else some (aD st.1 st.2 x):=by
 obtain⟨hlt,he⟩:=List.getElem?_eq_some_iff.1 hx
 rw[List.drop_eq_getElem_cons hlt,he]
 rfl
def Steps (w:World) (S P:Nat):Prop:=w.heap[S]?=some (.cells #[.nilFunc,.func (.func 36) #[.pointer (some ⟨P,0,none⟩)] #[],.func (.func 37) #[.pointer (some ⟨P,0,none⟩)] #[],.func (.func 38) #[.pointer (some ⟨P,0,none⟩)] #[]] 69 (0,0))
structure X9 (w4 wr:World) (N P M n S:Nat) (l:List Lx.Lx) (k:Nat):Prop where
 ready:∃ L o tl z,EX wr N P M n L o tl z (aV (l.take k)).1 (aV (l.take k)).2 k (k * 9000)∧XT S wr P L
 steps:Steps wr S P
 below:Below N w4 wr
 err:gQ ([],[root]) l=gQ (aV (l.take k)) (l.drop k)
structure Rnd (W:World) (N P M n L S g:Nat) (o:St) (tl t:List Nd) (p:List Op) (k Mb:Nat) (x:Lx.Lx):Prop where
 ready:EX W N P M n L o tl (x.place:Int) t p k Mb
 zV:XT S W P L
 steps:Steps W S P
 box:GI W g x
 gw:g<W.heap.size
 fz:∀ i,W.frozen? ⟨P,i,none⟩=false
theorem K3 {wr:World} {N P M n L S:Nat} {o:St} {tl t:List Nd} {p:List Op} {z:Int} {k Mb:Nat} (h:EX wr N P M n L o tl z t p k Mb) (ha:XT S wr P L) (hs:Steps wr S P) (x:Lx.Lx) (T:TypeId) :
  Rnd ((wr.setCell ⟨P,6,none⟩ (.int .i64 ((x.place:Nat):Int))).alloc (.cells #[.int .i64 ((x.kind:Nat):Int),.int .u8 ((x.name:Nat):Int),.string x.text,.int .i64 ((x.place:Nat):Int)] T)) N P M n L S wr.heap.size o tl t p k Mb x ∧
   Below N wr ((wr.setCell ⟨P,6,none⟩ (.int .i64 ((x.place:Nat):Int))).alloc (.cells #[.int .i64 ((x.kind:Nat):Int),.int .u8 ((x.name:Nat):Int),.string x.text,.int .i64 ((x.place:Nat):Int)] T)):=by
 obtain⟨q1,q2⟩:=h.pa.vO ((x.place:Nat):Int)
 have hsz:(wr.setCell ⟨P,6,none⟩ (.int .i64 ((x.place:Nat):Int))).heap.size=wr.heap.size:=by simp
 have hB:=(Below.refl (wr.setCell ⟨P,6,none⟩ (.int .i64 ((x.place:Nat):Int))).heap.size (wr.setCell ⟨P,6,none⟩ (.int .i64 ((x.place:Nat):Int)))).alloc (Nat.le_refl _) (.cells #[.int .i64 ((x.kind:Nat):Int),.int .u8 ((x.name:Nat):Int),.string x.text,.int .i64 ((x.place:Nat):Int)] T)
 have hm:=q2.trans (q1.aB4 hB)
 obtain⟨a1,a2⟩:=hm.zV S ha
 have hx:=GI.new (wr.setCell ⟨P,6,none⟩ (.int .i64 ((x.place:Nat):Int))) x T
 rw[hsz]at hx
 have q3:=q1.below hB
 exact⟨⟨⟨q3,h.s,h.sk,h.b,h.deep,h.fM⟩,a2,a1.trans hs,hx,World.block_lt_of_cell? _ ⟨wr.heap.size,0,none⟩ hx.k0,q3.op.fz⟩,hm.below⟩
theorem C9.mono {k M M':Nat} {t:List Nd} {p:List Op} (h:C9 k M t p) (hM:M≤M'):C9 k M' t p:=⟨h.nodes,h.depth,fun i hi=>by obtain⟨a,b,c⟩:=h.one i hi;exact⟨a,Nat.le_trans b hM,c⟩⟩
theorem Rnd.drew {W:World} {N P M n L S g:Nat} {o:St} {tl t:List Nd} {p:List Op} {k Mb:Nat} {x:Lx.Lx} (h:Rnd W N P M n L S g o tl t p k Mb x):Rnd W.drew N P M n L S g o tl t p k Mb x :=
 ⟨⟨h.ready.pa.of_heap rfl,h.ready.s,h.ready.sk,h.ready.b,h.ready.deep,h.ready.fM⟩,((j5.heap (N:=N) (P:=P) (L:=L) (w:=W) (w':=W.drew) rfl rfl rfl rfl).zV S h.zV).2,h.steps,⟨h.box.k0,h.box.k1,h.box.k2,h.box.k3⟩,h.gw,h.fz⟩
theorem Steps.at {W:World} {S P:Nat} (h:Steps W S P):W.cell? ⟨S,1,none⟩=some (.func (.func 36) #[.pointer (some ⟨P,0,none⟩)] #[])∧W.cell? ⟨S,2,none⟩=some (.func (.func 37) #[.pointer (some ⟨P,0,none⟩)] #[])∧W.cell? ⟨S,3,none⟩=some (.func (.func 38) #[.pointer (some ⟨P,0,none⟩)] #[]):=by
 refine⟨?_,?_,?_⟩<;>(rw[World.cell?,h];simp)
set_option maxRecDepth 100000 in
set_option maxHeartbeats 8000000 in
theorem TF (s:ByteArray) (hs:s.size≤maxLen) (h0:Lx.nD s=0) (w:World) (hL:Ka.Laid w) :
  Calls Tryz.prog 16 #[.string s] w fun e w' =>
  ∃ v,e=.returned (.tuple #[v,.int .i64 (((bH s).2.1:Nat):Int),.int .i64 (((bH s).2.2:Nat):Int)])∧aS 0 w' w'.heap.size v (bH s).1∧Below w.heap.size w w':=by
 have hsz:=K2 h0
 have HC:=Lib.hid ((PZ s hs w hL).mono (R':=fun e w'=>∃ v,e=.returned (.tuple #[v,.int .i64 ((Lx.qR s:Nat):Int),.int .i64 0])∧Ba.Reads Lx.dJ 4 0 w' w'.heap.size v (Lx.gV s)∧Below w.heap.size w w') (fun e w' ⟨⟨v,he,hr⟩,hb⟩=>⟨v,by rw[he,h0];rfl,Ba.Reads.kC (fun _=>rfl) rfl hr,hb⟩))
 obtain⟨l,hl⟩:∃ l,Lx.gV s=l:=⟨_,rfl⟩
 obtain⟨la,hla⟩:∃ la,Lx.qR s=la:=⟨_,rfl⟩
 rw[hl,hla]at HC
 have hlen:l.length≤8192:=by
  have h1:=Lx.JV s
  rw[Lx.zY h0,hl]at h1
  have h2:l.length≤s.size:=h1
  omega
 have HP:=Lib.hid (fun(k:Nat) (x:Lx.Lx) (hx:l[k]?=some x)=>X8 h0 (hl▸hx))
 have HA:=Lib.hid (show bH s=match gQ ([],[root]) l with | some z=>([],z.1,z.2) | none=>if 1<(aV l).2.length then ([],s.size,2) else ((aV l).1,0,0) by unfold bH;rw[if_neg (by rw[h0];simp),hl];rfl)
 obtain⟨ln,hln⟩:∃ ln,l.length=ln:=⟨_,rfl⟩
 have HLN:=Lib.hid hln
 rw[hln]at hlen
 have hL1:=hL.1
 clear hl hla hln
 go_enter Tryz.func16,Tryz.ntmps16
 go_wp2_with (first
  |(go_at_call 34;refine HC.out.mono ?_;rintro e w1 ⟨v,rfl,⟨A,c,rfl,hrow⟩,hb1⟩;rw[HLN.out]at hrow ⊢;replace hrow:=Lib.hid hrow;replace hb1:=Lib.hid hb1)
  |(go_at_call 35;refine(PU w1).mono ?_;rintro e w2 ⟨M,n,L,rfl,hmap,hown,hLM,hMge,hb2⟩;replace hmap:=Lib.hid hmap;replace hown:=Lib.hid hown;replace hb2:=Lib.hid hb2))
 have hpa:=pD.make (T:=67) hmap.out hown.out hLM hb2.out.size (.cells #[.nilFunc,.func (.func 36) #[.pointer (some ⟨w2.heap.size,0,none⟩)] #[],.func (.func 37) #[.pointer (some ⟨w2.heap.size,0,none⟩)] #[],.func (.func 38) #[.pointer (some ⟨w2.heap.size,0,none⟩)] #[]] 69)
 have hbs:=(hb2.out.mono (Nat.le_refl w1.heap.size)).trans (((Below.refl w2.heap.size w2).alloc (Nat.le_refl _) (.cells #[.map (some M),.slice (some ⟨L,0,none⟩) 1 1,.int .i64 0,.bool false,.bool false,.slice none 0 0,.int .i64 0] 67)).alloc (by simp) (.cells #[.nilFunc,.func (.func 36) #[.pointer (some ⟨w2.heap.size,0,none⟩)] #[],.func (.func 37) #[.pointer (some ⟨w2.heap.size,0,none⟩)] #[],.func (.func 38) #[.pointer (some ⟨w2.heap.size,0,none⟩)] #[]] 69) |>.mono hb2.out.size)
 have hstp:Steps ((w2.alloc (.cells #[.map (some M),.slice (some ⟨L,0,none⟩) 1 1,.int .i64 0,.bool false,.bool false,.slice none 0 0,.int .i64 0] 67)).alloc (.cells #[.nilFunc,.func (.func 36) #[.pointer (some ⟨w2.heap.size,0,none⟩)] #[],.func (.func 37) #[.pointer (some ⟨w2.heap.size,0,none⟩)] #[],.func (.func 38) #[.pointer (some ⟨w2.heap.size,0,none⟩)] #[]] 69)) (w2.heap.size+1) w2.heap.size:=by
  have:=heap_alloc_new (w2.alloc (.cells #[.map (some M),.slice (some ⟨L,0,none⟩) 1 1,.int .i64 0,.bool false,.bool false,.slice none 0 0,.int .i64 0] 67)) (.cells #[.nilFunc,.func (.func 36) #[.pointer (some ⟨w2.heap.size,0,none⟩)] #[],.func (.func 37) #[.pointer (some ⟨w2.heap.size,0,none⟩)] #[],.func (.func 38) #[.pointer (some ⟨w2.heap.size,0,none⟩)] #[]] 69)
  rw[World.size_alloc]at this
  exact this
 obtain⟨P,hP⟩:∃ P,w2.heap.size=P:=⟨_,rfl⟩
 rw[hP]at hpa hstp hbs ⊢
 have hLP:L≠P:=by have:=(hown.out.lt L rfl).2;omega
 have hsz4:((w2.alloc (.cells #[.map (some M),.slice (some ⟨L,0,none⟩) 1 1,.int .i64 0,.bool false,.bool false,.slice none 0 0,.int .i64 0] 67)).alloc (.cells #[.nilFunc,.func (.func 36) #[.pointer (some ⟨P,0,none⟩)] #[],.func (.func 37) #[.pointer (some ⟨P,0,none⟩)] #[],.func (.func 38) #[.pointer (some ⟨P,0,none⟩)] #[]] 69)).heap.size=P+2:=by simp[hP]
 have hc5:((w2.alloc (.cells #[.map (some M),.slice (some ⟨L,0,none⟩) 1 1,.int .i64 0,.bool false,.bool false,.slice none 0 0,.int .i64 0] 67)).alloc (.cells #[.nilFunc,.func (.func 36) #[.pointer (some ⟨P,0,none⟩)] #[],.func (.func 37) #[.pointer (some ⟨P,0,none⟩)] #[],.func (.func 38) #[.pointer (some ⟨P,0,none⟩)] #[]] 69)).cell? ⟨P,5,none⟩=some (.slice none 0 0):=by subst hP;simp
 generalize ((w2.alloc (.cells #[.map (some M),.slice (some ⟨L,0,none⟩) 1 1,.int .i64 0,.bool false,.bool false,.slice none 0 0,.int .i64 0] 67)).alloc (.cells #[.nilFunc,.func (.func 36) #[.pointer (some ⟨P,0,none⟩)] #[],.func (.func 37) #[.pointer (some ⟨P,0,none⟩)] #[],.func (.func 38) #[.pointer (some ⟨P,0,none⟩)] #[]] 69))=w4 at hpa hstp hbs hsz4 hc5 ⊢
 have hLl:L<P:=by have:=(hown.out.lt L rfl).2;omega
 have hR0:X9 w4 w4 w1.heap.size P M n (P+1) l 0:=by
  refine⟨⟨L,KI,[],0,⟨hpa,sG.start,tL.start,C9.start,rfl,rfl⟩,by omega,by omega,by omega,fun v hv=>?_⟩,hstp,Below.refl _ _,rfl⟩
  rw[hc5]at hv;cases hv
  simp[Value.ownBlock]
 have HR0:=Lib.hid hR0
 have HBS:=Lib.hid hbs
 clear hpa hstp hbs hR0 hc5
 go_loopw [29] (fun i wr=>∃ k:Nat,k≤ln∧i=.int .i64 k∧X9 w4 wr w1.heap.size P M n (P+1) l k) (fun i _=>ln - (intOf i).toNat)
 case atStart=>exact⟨0,by omega,rfl,HR0.out⟩
 case round =>
  obtain⟨k,hk,rfl,hR⟩:=hrel
  obtain⟨⟨L',o,tl,z,hrd,haw⟩,hst,hbw,herr⟩:=hR
  by_cases hlt:k<ln
  ·obtain⟨g,rfl,hg,hrow'⟩:=hrow.out (by omega)
   obtain⟨⟨kd,nm,tx,pl⟩,hx⟩:=dM (l:=l) (i:=k) (by rw[HLN.out];exact hlt)
   obtain⟨p1,p2,p3,p4⟩:=HP.out k _ hx
   have hrow2:∀ j u,(Lx.dJ ⟨kd,nm,tx,pl⟩)[j]?=some u→wr.cell? ⟨g,0+(k * 4+j),none⟩=some u:=fun j u hu =>
    ((HBS.out.trans hbw).cell (p:=⟨g,0+(k * 4+j),none⟩) hg).trans (hrow' k _ hx j u hu)
   have r0:=hrow2 0 _ rfl
   have r1:=hrow2 1 _ rfl
   have r2:=hrow2 2 _ rfl
   have r3:=hrow2 3 _ rfl
   simp only[Nat.zero_add,Nat.add_zero]at r0 r1 r2 r3
   have HX:=Lib.hid hx
   have HRT:=Lib.hid (CV hx)
   have HED:=Lib.hid (GN hx (aV (l.take k)))
   have HERR:=Lib.hid herr
   have HST:=Lib.hid hst
   have HBW:=Lib.hid hbw
   have HAW:=Lib.hid haw
   have HRD:=Lib.hid hrd
   obtain⟨t,p,htp⟩:∃ t p,aV (l.take k)=(t,p):=⟨_,_,rfl⟩
   rw[htp]at HRD HRT HED HERR
   have hPw:P<wr.heap.size:=hrd.pa.op.nP
   have c6:=hrd.pa.pl
   have f0:=hrd.pa.op.fz
   clear hrow2 hrow' hx herr hst hbw haw hrd htp
   obtain⟨hrn,hbr⟩:=K3 HRD.out HAW.out HST.out ⟨kd,nm,tx,pl⟩ 71
   have HRN:=Lib.hid hrn
   have HBR:=Lib.hid hbr
   clear hrn hbr
   have j0:(0:Int)≤(k:Int):=by omega
   have j1:(k:Int)<(ln:Int):=by omega
   go_wp2
   generalize (wr.setCell ⟨P,6,none⟩ (.int .i64 (pl:Int))).alloc (.cells #[.int .i64 (kd:Int),.int .u8 (nm:Int),.string tx,.int .i64 (pl:Int)] 71)=w5 at HRN HBR ⊢
   obtain⟨g5,hg5⟩:∃ g5,wr.heap.size=g5:=⟨_,rfl⟩
   rw[hg5]at HRN ⊢
   clear hg5 hPw c6 f0 r0 r1 r2 r3 j0 j1
   have HLw:=Lib.hid (show Ka.Laid w5.drew from (hL.below (hb1.out.trans ((HBS.out.trans HBW.out).trans (HBR.out.trans (iR (B:=w1.heap.size) (w:=w5) (w':=w5.drew) rfl rfl rfl rfl)) |>.mono hb1.out.size)) hL1))
   rcases p4 with e1 | ⟨e1,n46,e2⟩ | ⟨e1,e2⟩
   ·subst e1
    have k0:w5.cell? ⟨g5,0,none⟩=some (.int .i64 1):=HRN.out.box.k0
    have k1:w5.cell? ⟨g5,1,none⟩=some (.int .u8 (nm:Int)):=HRN.out.box.k1
    have k2:w5.cell? ⟨g5,2,none⟩=some (.string tx):=HRN.out.box.k2
    have k3:w5.cell? ⟨g5,3,none⟩=some (.int .i64 (pl:Int)):=HRN.out.box.k3
    have st:=HRN.out.steps.at.1
    have HCALL:=Lib.hid (show Calls Tryz.prog 36 #[.pointer (some ⟨P,0,none⟩),.agg #[.int .i64 1,.int .u8 (nm:Int),.string tx,.int .i64 (pl:Int)]] w5.drew fun e w'=>∃ v,e=.returned (.bool v)∧EW w5.drew w' w1.heap.size P M n L' t p ⟨1,nm,tx,pl⟩ v from TD pl nm tx HRN.out.drew.ready (by omega) (by omega) (by have:tx.size≤8192:=p2;omega) (by have:pl<8192:=p1;omega) HLw.out)
    go_region_law (first
     |(go_simp;go_at_call 36;refine HCALL.out.mono ?_;rintro e w6 ⟨v,rfl,ha⟩;replace ha:=Lib.hid ha))
    all_goals
     clear k0 k1 k2 k3 st
     have HB6:=Lib.hid ((HBS.out.trans HBW.out).trans (HBR.out.trans ((iR (B:=w1.heap.size) (w:=w5) (w':=w5.drew) rfl rfl rfl rfl).trans ha.out.below)))
     cases v
     ·obtain⟨zz,hz,he⟩:=ha.out.no rfl
      have HPA:=Lib.hid (show bH s=([],zz,2) by rw[HA.out,HERR.out,HED.out,if_neg (by rw[he];simp),he])
      clear he
      go_wp2
      simp only[List.getElem_toArray,List.getElem_cons_succ,List.getElem_cons_zero,Act.put,List.setIfInBounds_toArray,List.set_cons_succ,List.set_cons_zero,Bool.not_false]
      go_big_quiet (fail)
      go_wp2
      go_ret3
      exact⟨.slice none 0 0,by rw[HPA.out];rfl,by rw[HPA.out];exact Ba.Reads.nil _ _ _,Lx.below_drewN (hb1.out.trans (HB6.out.mono hb1.out.size)) _⟩
     ·obtain⟨L6,o6,tl6,z6,hpa6,hmv6,hs6,ht6,hzero,hnz⟩:=ha.out.yes rfl
      have HPA6:=Lib.hid hpa6
      by_cases he:(aD t p ⟨1,nm,tx,pl⟩).2=0
      ·obtain⟨hd6,hm6⟩:=hzero he
       have HBY:=Lib.hid (show fO o6=0 by unfold fO;rw[hd6,hm6];rfl)
       have HNEXT:=Lib.hid (show X9 w4 w6 w1.heap.size P M n (P+1) l (k+1) from by
        have hst:=HRT.out
        have hbd:=HRD.out.b.step HRD.out.s.rel.pos ⟨1,nm,tx,pl⟩
        obtain⟨aw1,aw2⟩:=hmv6.zV (P+1) HRN.out.drew.zV
        refine⟨⟨L6,o6,tl6,_,⟨hpa6,by rw[hst];exact hs6,by rw[hst];exact ht6,by rw[hst];exact hbd.mono (by show k * 9000+(tx).size≤_;have:(tx).size≤8192:=p2;omega),hd6,hm6⟩,aw2⟩,aw1.trans HRN.out.drew.steps,HBW.out.trans (HBR.out.trans ((iR (B:=w1.heap.size) (w:=w5) (w':=w5.drew) rfl rfl rfl rfl).trans ha.out.below)),?_⟩
        rw[HERR.out,HED.out,if_pos he,hst])
       clear hpa6 hmv6 hs6 ht6 hzero hnz hd6 hm6 he
       go_wp2_with (first
        |(go_at_call 39;refine(lC HPA6.out.op 0 HBY.out).mono ?_;rintro e w7 ⟨rfl,rfl⟩))
       go_roundw
       case rel=>exact⟨k+1,by omega,by go_num,HNEXT.out⟩
       case measure=>simp[intOf];omega
      ·obtain⟨hz6,hby6⟩:=hnz he
       obtain⟨be,hbe⟩:∃ be,(aD t p ⟨1,nm,tx,pl⟩).2=be:=⟨_,rfl⟩
       rw[hbe]at he hby6
       have HBY:=Lib.hid hby6
       have t1:((be:Int) != 0)=true:=by rw[bne,show ((be:Int)==0)=false from fD he];rfl
       have HPA:=Lib.hid (show bH s=([],z6,be) by rw[HA.out,HERR.out,HED.out,if_neg (by rw[hbe];exact he),← hbe,hz6])
       have c6:=hpa6.pl
       clear hpa6 hmv6 hs6 ht6 hzero hnz hz6 hby6 hbe
       go_wp2_with (first
        |(go_at_call 39;refine(lC HPA6.out.op be HBY.out).mono ?_;rintro e w7 ⟨rfl,rfl⟩))
       go_big_quiet (fail)
       go_wp2
       go_ret3
       exact⟨.slice none 0 0,by rw[HPA.out];rfl,by rw[HPA.out];exact Ba.Reads.nil _ _ _,Lx.below_drewN (hb1.out.trans (HB6.out.mono hb1.out.size)) _⟩
   ·subst e1
    subst e2
    have k0:w5.cell? ⟨g5,0,none⟩=some (.int .i64 2):=HRN.out.box.k0
    have k1:w5.cell? ⟨g5,1,none⟩=some (.int .u8 (nm:Int)):=HRN.out.box.k1
    have k2:w5.cell? ⟨g5,2,none⟩=some (.string aA):=HRN.out.box.k2
    have k3:w5.cell? ⟨g5,3,none⟩=some (.int .i64 (pl:Int)):=HRN.out.box.k3
    have st:=HRN.out.steps.at.2.1
    have HCALL:=Lib.hid (show Calls Tryz.prog 37 #[.pointer (some ⟨P,0,none⟩),.agg #[.int .i64 2,.int .u8 (nm:Int),.string aA,.int .i64 (pl:Int)]] w5.drew fun e w'=>∃ v,e=.returned (.bool v)∧EW w5.drew w' w1.heap.size P M n L' t p ⟨2,nm,aA,pl⟩ v from TE pl nm HRN.out.drew.ready (by omega) p3 n46)
    go_region_law (first
     |(go_simp;go_at_call 37;refine HCALL.out.mono ?_;rintro e w6 ⟨v,rfl,ha⟩;replace ha:=Lib.hid ha))
    all_goals
     clear k0 k1 k2 k3 st
     have HB6:=Lib.hid ((HBS.out.trans HBW.out).trans (HBR.out.trans ((iR (B:=w1.heap.size) (w:=w5) (w':=w5.drew) rfl rfl rfl rfl).trans ha.out.below)))
     cases v
     ·obtain⟨zz,hz,he⟩:=ha.out.no rfl
      have HPA:=Lib.hid (show bH s=([],zz,2) by rw[HA.out,HERR.out,HED.out,if_neg (by rw[he];simp),he])
      clear he
      go_wp2
      simp only[List.getElem_toArray,List.getElem_cons_succ,List.getElem_cons_zero,Act.put,List.setIfInBounds_toArray,List.set_cons_succ,List.set_cons_zero,Bool.not_false]
      go_big_quiet (fail)
      go_wp2
      go_ret3
      exact⟨.slice none 0 0,by rw[HPA.out];rfl,by rw[HPA.out];exact Ba.Reads.nil _ _ _,Lx.below_drewN (hb1.out.trans (HB6.out.mono hb1.out.size)) _⟩
     ·obtain⟨L6,o6,tl6,z6,hpa6,hmv6,hs6,ht6,hzero,hnz⟩:=ha.out.yes rfl
      have HPA6:=Lib.hid hpa6
      by_cases he:(aD t p ⟨2,nm,aA,pl⟩).2=0
      ·obtain⟨hd6,hm6⟩:=hzero he
       have HBY:=Lib.hid (show fO o6=0 by unfold fO;rw[hd6,hm6];rfl)
       have HNEXT:=Lib.hid (show X9 w4 w6 w1.heap.size P M n (P+1) l (k+1) from by
        have hst:=HRT.out
        have hbd:=HRD.out.b.step HRD.out.s.rel.pos ⟨2,nm,aA,pl⟩
        obtain⟨aw1,aw2⟩:=hmv6.zV (P+1) HRN.out.drew.zV
        refine⟨⟨L6,o6,tl6,_,⟨hpa6,by rw[hst];exact hs6,by rw[hst];exact ht6,by rw[hst];exact hbd.mono (by show k * 9000+(aA).size≤_;have:(aA).size≤8192:=p2;omega),hd6,hm6⟩,aw2⟩,aw1.trans HRN.out.drew.steps,HBW.out.trans (HBR.out.trans ((iR (B:=w1.heap.size) (w:=w5) (w':=w5.drew) rfl rfl rfl rfl).trans ha.out.below)),?_⟩
        rw[HERR.out,HED.out,if_pos he,hst])
       clear hpa6 hmv6 hs6 ht6 hzero hnz hd6 hm6 he
       go_wp2_with (first
        |(go_at_call 39;refine(lC HPA6.out.op 0 HBY.out).mono ?_;rintro e w7 ⟨rfl,rfl⟩))
       go_roundw
       case rel=>exact⟨k+1,by omega,by go_num,HNEXT.out⟩
       case measure=>simp[intOf];omega
      ·obtain⟨hz6,hby6⟩:=hnz he
       obtain⟨be,hbe⟩:∃ be,(aD t p ⟨2,nm,aA,pl⟩).2=be:=⟨_,rfl⟩
       rw[hbe]at he hby6
       have HBY:=Lib.hid hby6
       have t1:((be:Int) != 0)=true:=by rw[bne,show ((be:Int)==0)=false from fD he];rfl
       have HPA:=Lib.hid (show bH s=([],z6,be) by rw[HA.out,HERR.out,HED.out,if_neg (by rw[hbe];exact he),← hbe,hz6])
       have c6:=hpa6.pl
       clear hpa6 hmv6 hs6 ht6 hzero hnz hz6 hby6 hbe
       go_wp2_with (first
        |(go_at_call 39;refine(lC HPA6.out.op be HBY.out).mono ?_;rintro e w7 ⟨rfl,rfl⟩))
       go_big_quiet (fail)
       go_wp2
       go_ret3
       exact⟨.slice none 0 0,by rw[HPA.out];rfl,by rw[HPA.out];exact Ba.Reads.nil _ _ _,Lx.below_drewN (hb1.out.trans (HB6.out.mono hb1.out.size)) _⟩
   ·subst e1
    subst e2
    have k0:w5.cell? ⟨g5,0,none⟩=some (.int .i64 3):=HRN.out.box.k0
    have k1:w5.cell? ⟨g5,1,none⟩=some (.int .u8 (nm:Int)):=HRN.out.box.k1
    have k2:w5.cell? ⟨g5,2,none⟩=some (.string aA):=HRN.out.box.k2
    have k3:w5.cell? ⟨g5,3,none⟩=some (.int .i64 (pl:Int)):=HRN.out.box.k3
    have st:=HRN.out.steps.at.2.2
    have HCALL:=Lib.hid (show Calls Tryz.prog 38 #[.pointer (some ⟨P,0,none⟩),.agg #[.int .i64 3,.int .u8 (nm:Int),.string aA,.int .i64 (pl:Int)]] w5.drew fun e w'=>∃ v,e=.returned (.bool v)∧EW w5.drew w' w1.heap.size P M n L' t p ⟨3,nm,aA,pl⟩ v from N1 pl nm HRN.out.drew.ready (by omega))
    go_region_law (first
     |(go_simp;go_at_call 38;refine HCALL.out.mono ?_;rintro e w6 ⟨v,rfl,ha⟩;replace ha:=Lib.hid ha))
    all_goals
     clear k0 k1 k2 k3 st
     have HB6:=Lib.hid ((HBS.out.trans HBW.out).trans (HBR.out.trans ((iR (B:=w1.heap.size) (w:=w5) (w':=w5.drew) rfl rfl rfl rfl).trans ha.out.below)))
     cases v
     ·obtain⟨zz,hz,he⟩:=ha.out.no rfl
      have HPA:=Lib.hid (show bH s=([],zz,2) by rw[HA.out,HERR.out,HED.out,if_neg (by rw[he];simp),he])
      clear he
      go_wp2
      simp only[List.getElem_toArray,List.getElem_cons_succ,List.getElem_cons_zero,Act.put,List.setIfInBounds_toArray,List.set_cons_succ,List.set_cons_zero,Bool.not_false]
      go_big_quiet (fail)
      go_wp2
      go_ret3
      exact⟨.slice none 0 0,by rw[HPA.out];rfl,by rw[HPA.out];exact Ba.Reads.nil _ _ _,Lx.below_drewN (hb1.out.trans (HB6.out.mono hb1.out.size)) _⟩
     ·obtain⟨L6,o6,tl6,z6,hpa6,hmv6,hs6,ht6,hzero,hnz⟩:=ha.out.yes rfl
      have HPA6:=Lib.hid hpa6
      by_cases he:(aD t p ⟨3,nm,aA,pl⟩).2=0
      ·obtain⟨hd6,hm6⟩:=hzero he
       have HBY:=Lib.hid (show fO o6=0 by unfold fO;rw[hd6,hm6];rfl)
       have HNEXT:=Lib.hid (show X9 w4 w6 w1.heap.size P M n (P+1) l (k+1) from by
        have hst:=HRT.out
        have hbd:=HRD.out.b.step HRD.out.s.rel.pos ⟨3,nm,aA,pl⟩
        obtain⟨aw1,aw2⟩:=hmv6.zV (P+1) HRN.out.drew.zV
        refine⟨⟨L6,o6,tl6,_,⟨hpa6,by rw[hst];exact hs6,by rw[hst];exact ht6,by rw[hst];exact hbd.mono (by show k * 9000+(aA).size≤_;have:(aA).size≤8192:=p2;omega),hd6,hm6⟩,aw2⟩,aw1.trans HRN.out.drew.steps,HBW.out.trans (HBR.out.trans ((iR (B:=w1.heap.size) (w:=w5) (w':=w5.drew) rfl rfl rfl rfl).trans ha.out.below)),?_⟩
        rw[HERR.out,HED.out,if_pos he,hst])
       clear hpa6 hmv6 hs6 ht6 hzero hnz hd6 hm6 he
       go_wp2_with (first
        |(go_at_call 39;refine(lC HPA6.out.op 0 HBY.out).mono ?_;rintro e w7 ⟨rfl,rfl⟩))
       go_roundw
       case rel=>exact⟨k+1,by omega,by go_num,HNEXT.out⟩
       case measure=>simp[intOf];omega
      ·obtain⟨hz6,hby6⟩:=hnz he
       obtain⟨be,hbe⟩:∃ be,(aD t p ⟨3,nm,aA,pl⟩).2=be:=⟨_,rfl⟩
       rw[hbe]at he hby6
       have HBY:=Lib.hid hby6
       have t1:((be:Int) != 0)=true:=by rw[bne,show ((be:Int)==0)=false from fD he];rfl
       have HPA:=Lib.hid (show bH s=([],z6,be) by rw[HA.out,HERR.out,HED.out,if_neg (by rw[hbe];exact he),← hbe,hz6])
       have c6:=hpa6.pl
       clear hpa6 hmv6 hs6 ht6 hzero hnz hz6 hby6 hbe
       go_wp2_with (first
        |(go_at_call 39;refine(lC HPA6.out.op be HBY.out).mono ?_;rintro e w7 ⟨rfl,rfl⟩))
       go_big_quiet (fail)
       go_wp2
       go_ret3
       exact⟨.slice none 0 0,by rw[HPA.out];rfl,by rw[HPA.out];exact Ba.Reads.nil _ _ _,Lx.below_drewN (hb1.out.trans (HB6.out.mono hb1.out.size)) _⟩
  ·obtain rfl:k=ln:=by omega
   have hlt:l.take k=l:=List.take_of_length_le (by rw[HLN.out];exact Nat.le_refl _)
   rw[hlt]at hrd herr
   rw[List.drop_of_length_le (by rw[HLN.out];exact Nat.le_refl _)]at herr
   have HB6:=Lib.hid (hb1.out.trans ((HBS.out.trans hbw).mono hb1.out.size))
   have HOP:=Lib.hid hrd.pa.op
   have hrl:=hrd.s.rel.len
   by_cases h1:1<(aV l).2.length
   ·have HI:=Lib.hid (show decide (1<o.lv.length)=true from decide_eq_true (by omega))
    have HPA:=Lib.hid (show bH s=([],s.size,2) by rw[HA.out,herr];show (if 1<(aV l).2.length then _ else _)=_;rw[if_pos h1])
    clear hrd haw hst hbw herr hrl hlt
    go_wp2_with (first
     |(go_at_call 40;refine(gZ HOP.out true HI.out).mono ?_;rintro e w7 ⟨rfl,rfl⟩))
    go_ret3
    exact⟨.slice none 0 0,by rw[HPA.out];rfl,by rw[HPA.out];exact Ba.Reads.nil _ _ _,HB6.out⟩
   ·have HI:=Lib.hid (show decide (1<o.lv.length)=false from decide_eq_false (by omega))
    have htl:=hrd.sk.all (by omega)
    have HPA:=Lib.hid (show bH s=(tl,0,0) by rw[HA.out,herr];show (if 1<(aV l).2.length then _ else _)=_;rw[if_neg h1,htl])
    obtain⟨v5,c5,own5,_⟩:=hrd.pa.tr
    have HOWN:=Lib.hid own5
    clear hrd haw hst hbw herr hrl hlt htl own5
    go_wp2_with (first
     |(go_at_call 40;refine(gZ HOP.out false HI.out).mono ?_;rintro e w7 ⟨rfl,rfl⟩))
    go_ret3
    exact⟨v5,by rw[HPA.out];rfl,by rw[HPA.out];exact Ba.Reads.kC dX rfl HOWN.out,HB6.out⟩
end Go.Proofs.YtgpihfacmpbpaaaGreatDoor.Tr
