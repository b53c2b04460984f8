/-
  The document's Parse of layer 4.
-/
import Derived.Test.YtmldpkigfhoalaaGreatDoorVp
import Derived.Test.YtmldpkigfhoalaaGreatDoorTuC
import Derived.Test.YtmldpkigfhoalaaGreatDoorTsV
namespace Go.Proofs.YtmldpkigfhoalaaGreatDoor.Tr
open Go.RowKit
theorem cX_len (x:Lx.Lx):(Lx.cellsX x).length=4:=rfl
theorem own_form {w:World} {base:Nat} {e:TypeId} {size:Nat} {v:Value} {n:Nat} {xs:List Value} (h:w.ownsRow base e size v n xs):∃ A c,v=.slice A n c∧n≤c:=by
 rcases h.2 with ⟨h',h0⟩ | ⟨g',c',_,h',_,_,hc,_⟩
 ·exact ⟨none,0,by rw [h',h0],by omega⟩
 ·exact ⟨_,_,h',hc⟩
theorem partOk_lex {s:ByteArray} (h:Lx.lexE s=0):∀ x ∈ Lx.lexV s,PartOk x:=fun x hx=>by
 obtain ⟨k,hk⟩:=List.mem_iff_getElem?.1 hx
 obtain ⟨a,b,c,d⟩:=lex_part h hk
 refine ⟨c,by omega,by omega,?_⟩
 rcases d with d | ⟨d,-⟩ | ⟨d,-⟩<;>omega
def OkTo (l:List Lx.Lx) (k:Nat):Prop:=∀ i x,i<k→l[i]?=some x→(errStep (readL (l.take i)).1 (readL (l.take i)).2 x).2=0
theorem OkTo.zero (l:List Lx.Lx):OkTo l 0:=fun i x h=>absurd h (by omega)
theorem OkTo.succ {l:List Lx.Lx} {k:Nat} (h:OkTo l k) {x:Lx.Lx} (hx:l[k]?=some x) (he:(errStep (readL (l.take k)).1 (readL (l.take k)).2 x).2=0):OkTo l (k+1):=fun i y hi hy=>by
 rcases Nat.lt_or_ge i k with h1 | h1
 ·exact h i y h1 hy
 ·obtain rfl:i=k:=by omega
  rw [hx] at hy;cases hy;exact he
theorem safe_of {l:List Lx.Lx} (hp:∀ x ∈ l,PartOk x) (k:Nat):k≤l.length→(∀ i x,i<k→l[i]?=some x→(readL (l.take i)).2.length=1→x.kind=1∨x.kind=2)→SafeL (l.take k):=by
 induction k using Nat.strongRecOn with
 | _ k ih =>
  intro hk hc
  refine ⟨fun x hx=>hp x (List.mem_of_mem_take hx),fun i x hx=>?_⟩
  rw [List.getElem?_take] at hx
  split at hx
  ·next hi =>
   rw [List.take_take,Nat.min_eq_left (by omega)]
   have hs:=ih i hi (by omega) (fun j y hj=>hc j y (by omega))
   have hg:=hs.good i (by rw [List.length_take];omega)
   rw [List.take_take,Nat.min_self] at hg
   have hpos:=hg.pos
   by_cases h1:(readL (l.take i)).2.length=1
   ·rcases hc i x hi hx h1 with h | h
    ·exact .inl h
    ·exact .inr (.inl h)
   ·exact .inr (.inr (by omega))
  ·cases hx
theorem safe_ok {l:List Lx.Lx} (hp:∀ x ∈ l,PartOk x) {k:Nat} (hk:k≤l.length) (h:OkTo l k):SafeL (l.take k):=safe_of hp k hk fun i x hi hx h1=>by
 have he:=h i x hi hx
 by_cases e1:x.kind=1
 ·exact .inl e1
 by_cases e2:x.kind=2
 ·exact .inr e2
 rw [errS_close e1 e2,if_pos (.inl h1)] at he
 cases he
theorem errFrom_at {l:List Lx.Lx}:∀ k,k≤l.length→OkTo l k→errFrom ([],[root]) l=errFrom (readL (l.take k)) (l.drop k)
 | 0,_,_=>by rw [List.take_zero,List.drop_zero];rfl
 | k+1,hk,h=>by
  obtain ⟨x,hx⟩:=at_some (l:=l) (i:=k) (by omega)
  rw [errFrom_at k (by omega) (fun i y hi=>h i y (by omega)),errFrom_drop hx,if_pos (h k x (by omega) hx),readL_take hx]
theorem parse_bad {s:ByteArray} (h0:Lx.lexE s=0) {z:Nat × Nat} (h:errFrom ([],[root]) (Lx.lexV s)=some z):parseA s=([],z.1,z.2):=by
 unfold parseA;rw [if_neg (by omega),h]
theorem parse_left {s:ByteArray} (h0:Lx.lexE s=0) (h:errFrom ([],[root]) (Lx.lexV s)=none) (h1:1<(readL (Lx.lexV s)).2.length):parseA s=([],s.size,2):=by
 unfold parseA;rw [if_neg (by omega),h];simp only [];rw [if_pos h1]
theorem parse_good {s:ByteArray} (h0:Lx.lexE s=0) (h:errFrom ([],[root]) (Lx.lexV s)=none) (h1:¬ 1<(readL (Lx.lexV s)).2.length):parseA s=((readL (Lx.lexV s)).1,0,0):=by
 unfold parseA;rw [if_neg (by omega),h];simp only [];rw [if_neg h1]
theorem RdM.capT {w:World} {N:Nat} {V:Value} {A:Option Addr} {n c:Nat} {p:List Op} {t:List Nd} (h:RdM w N V (.slice A n c) p t):c≤maxLen:=by
 rcases h.tr.2 with ⟨h',h0⟩ | ⟨g',c',_,h',_,_,_,hc,_⟩
 ·injection h' with _ _ e;omega
 ·injection h' with _ _ e;omega
def ParsesC (s:ByteArray) (w:World) (e:Ending) (w':World):Prop:=∃ v,e=.returned (.tuple #[v,.int .i64 (((parseA s).2.1:Nat):Int),.int .i64 (((parseA s).2.2:Nat):Int)])∧ReadsN 0 w' w'.heap.size v (parseA s).1∧Below w.heap.size w w'∧∀ A n c,v=.slice A n c→c≤maxLen
theorem ParsesC.nil {s:ByteArray} {w w':World} {p e:Nat} (h:parseA s=([],p,e)) (hb:Below w.heap.size w w'):ParsesC s w (.returned (.tuple #[.slice none 0 0,.int .i64 (p:Int),.int .i64 (e:Int)])) w':=by
 refine ⟨.slice none 0 0,?_,?_,hb,fun A n c e=>by injection e with _ _ e;omega⟩
 ·rw [h]
 ·rw [h];exact Ba.Reads.nil _ _ _
theorem row_take {w:World} {l:List Lx.Lx} {g c:Nat} (hg:g<w.heap.size) (h:∀ k x,l[k]?=some x→∀ j u,(Lx.cellsX x)[j]?=some u→w.cell? ⟨g,0+(k * 4+j),none⟩=some u) (k:Nat) (hk:k≤l.length):Ba.Reads Lx.cellsX 4 0 w w.heap.size (.slice (some ⟨g,0,none⟩) k c) (l.take k):=by
 refine ⟨some ⟨g,0,none⟩,c,by rw [List.length_take,Nat.min_eq_left hk],fun _=>⟨g,rfl,hg,fun i x hx=>?_⟩⟩
 rw [List.getElem?_take] at hx
 split at hx
 ·exact h i x hx
 ·cases hx
set_option maxRecDepth 100000 in
set_option maxHeartbeats 8000000 in
theorem rparse_cap (s:ByteArray) (hs:s.size≤maxLen) (w:World):Calls Tryz.prog 22 #[.string s] w (ParsesC s w):=by
 obtain ⟨e0,he0⟩:∃ e0,Lx.lexE s=e0:=⟨_,rfl⟩
 obtain ⟨a0,ha0⟩:∃ a0,Lx.lexAt s=a0:=⟨_,rfl⟩
 have HE0:=Lib.hid he0
 have HA0:=Lib.hid ha0
 clear he0 ha0
 by_cases h0:e0=0
 ·have H0:=Lib.hid (HE0.out.trans h0)
  have t0:((e0:Int) != 0)=false:=by rw [bne,show ((e0:Int)==0)=true from beqT h0];rfl
  obtain ⟨l,hl⟩:∃ l,Lx.lexV s=l:=⟨_,rfl⟩
  have hlen:l.length≤8192:=by rw [← hl];exact Lx.lexV_length s
  have HL:=Lib.hid hl
  have HPX:=Lib.hid (show ∀ x ∈ l,PartOk x from hl▸partOk_lex H0.out)
  clear hl h0
  go_enter Tryz.func22,Tryz.ntmps22
  go_wp2_with (go_at_call 47;refine (Lx.rof_any s hs _).mono ?_;rintro e w1 ⟨⟨v,rfl,hown⟩,hb1⟩;rw [HL.out] at hown;rw [HA0.out,HE0.out];have HV:=Lib.hid (Ba.Reads.of_own cX_len rfl hown);obtain ⟨A,c,hvv,hcc⟩:=own_form hown;subst hvv;have HCC:=Lib.hid hcc;clear hcc;replace hb1:=Lib.hid hb1;clear hown)
  go_loopw [8] (fun i wr=>∃ k:Nat,k≤l.length∧i=.int .i64 k∧OkTo l k∧Below w1.heap.size w1 wr) (fun i _=>l.length - (intOf i).toNat)
  case atStart=>exact ⟨0,by omega,rfl,OkTo.zero l,Below.refl _ _⟩
  case round =>
   obtain ⟨k,hk,rfl,hok,hbr⟩:=hrel
   have HOK:=Lib.hid hok
   have HBR:=Lib.hid hbr
   have hv2:=(HV.out.below hbr).mono hbr.size
   clear hok hbr
   by_cases hlt:k<l.length
   ·obtain ⟨A',c',e1,hA⟩:=hv2
    obtain ⟨gl,e2,hgl,hcell⟩:=hA (by omega)
    subst e2
    obtain ⟨rfl,-,rfl⟩:=Value.slice.inj e1
    obtain ⟨⟨xk,xn,xt,xp⟩,hx⟩:=at_some hlt
    have HX:=Lib.hid hx
    obtain ⟨⟨t,p⟩,hst⟩:∃ st,readL (l.take k)=st:=⟨_,rfl⟩
    have HSF:=Lib.hid (safe_ok HPX.out hk HOK.out)
    have hgd:=HSF.out.good k (by rw [List.length_take];omega)
    rw [List.take_take,Nat.min_self,hst] at hgd
    have HGD:=Lib.hid hgd
    have HST:=Lib.hid hst
    have HRW:=Lib.hid (row_take (c:=c) hgl hcell k hk)
    have HPK:=Lib.hid (HPX.out _ (List.mem_of_getElem? hx))
    obtain ⟨⟨a,e⟩,hae⟩:∃ ae,errStep t p ⟨xk,xn,xt,xp⟩=ae:=⟨_,rfl⟩
    have HAE:=Lib.hid hae
    have d0:=hcell k _ hx 0 _ rfl
    have d1:=hcell k _ hx 1 _ rfl
    have d2:=hcell k _ hx 2 _ rfl
    have d3:=hcell k _ hx 3 _ rfl
    simp only [Nat.zero_add,Nat.add_zero] at d0 d1 d2 d3
    have j0:(0:Int)≤(k:Int):=by omega
    have j1:(k:Int)<(l.length:Int):=by omega
    have hcc:l.length≤c:=HCC.out
    have j2:(k:Int)≤(c:Int):=by omega
    have hk9:k≤9000:=by omega
    have HB0:=Lib.hid (Ba.chain hb1.out hb1.out.size HBR.out)
    clear hcell hx hA e1 hst hgd hae hcc
    by_cases he:e=0
    ·have t1:((e:Int) != 0)=false:=by rw [bne,show ((e:Int)==0)=true from beqT he];rfl
     have HN:=Lib.hid (HOK.out.succ HX.out (by rw [HST.out];simp only [];rw [HAE.out];exact he))
     clear he
     go_wp2_with (first
      |(go_at_call 37;refine (read_at _ (l.take k) (by rw [List.length_take];omega) HSF.out _ HRW.out).mono ?_;rintro en w4 ⟨V,T,rfl,hR,hb4⟩;rw [HST.out] at hR;simp only [] at hR;obtain ⟨AT,cT,hTT⟩:=hR.formT;subst hTT;have up4:=fun i=>World.cell?_of_block (w:=wr) (a:=⟨gl,i,none⟩) (hb4.block gl hgl);have y0:=(up4 _).trans d0;have y1:=(up4 _).trans d1;have y2:=(up4 _).trans d2;have y3:=(up4 _).trans d3;replace hR:=Lib.hid hR;replace hb4:=Lib.hid hb4;clear up4)
      |(go_at_call 39;refine (step_at _ AT cT t p xk xn xp xt HPK.out k hk9 HGD.out _ hR.out.reads a e HAE.out).mono ?_;rintro en w5 ⟨rfl,hb5⟩;replace hb5:=Lib.hid hb5))
     go_roundw
     case rel=>exact ⟨k+1,by omega,by go_num,HN.out,Ba.chain (Ba.chain HBR.out HBR.out.size hb4.out) (Nat.le_trans HBR.out.size hb4.out.size) hb5.out⟩
     case measure=>simp [intOf];omega
    ·have t1:((e:Int) != 0)=true:=by rw [bne,show ((e:Int)==0)=false from beqF he];rfl
     have HF:=Lib.hid (parse_bad H0.out (z:=(a,e)) (by rw [HL.out,errFrom_at k hk HOK.out,errFrom_drop HX.out,HST.out];simp only [];rw [HAE.out,if_neg he]))
     clear he
     go_wp2_with (first
      |(go_at_call 37;refine (read_at _ (l.take k) (by rw [List.length_take];omega) HSF.out _ HRW.out).mono ?_;rintro en w4 ⟨V,T,rfl,hR,hb4⟩;rw [HST.out] at hR;simp only [] at hR;obtain ⟨AT,cT,hTT⟩:=hR.formT;subst hTT;have up4:=fun i=>World.cell?_of_block (w:=wr) (a:=⟨gl,i,none⟩) (hb4.block gl hgl);have y0:=(up4 _).trans d0;have y1:=(up4 _).trans d1;have y2:=(up4 _).trans d2;have y3:=(up4 _).trans d3;replace hR:=Lib.hid hR;replace hb4:=Lib.hid hb4;clear up4)
      |(go_at_call 39;refine (step_at _ AT cT t p xk xn xp xt HPK.out k hk9 HGD.out _ hR.out.reads a e HAE.out).mono ?_;rintro en w5 ⟨rfl,hb5⟩;replace hb5:=Lib.hid hb5))
     go_ret3
     exact ParsesC.nil HF.out (Ba.chain (Ba.chain HB0.out HB0.out.size hb4.out) (Nat.le_trans HB0.out.size hb4.out.size) hb5.out)
   ·obtain rfl:k=l.length:=by omega
    have HSF:=Lib.hid (safe_ok HPX.out (Nat.le_refl _) HOK.out)
    rw [List.take_length] at HSF
    have HRW:=Lib.hid hv2
    have HB0:=Lib.hid (Ba.chain hb1.out hb1.out.size HBR.out)
    have HER:=Lib.hid (show errFrom ([],[root]) (Lx.lexV s)=none by rw [HL.out,errFrom_at _ hk HOK.out,List.drop_length];rfl)
    obtain ⟨⟨t,p⟩,hst⟩:∃ st,readL l=st:=⟨_,rfl⟩
    have HST:=Lib.hid hst
    have hgd:=HSF.out.good l.length (Nat.le_refl _)
    rw [List.take_length,hst] at hgd
    have hq2:p.length≤l.length+1:=hgd.plen
    have hq1:0<p.length:=hgd.pos
    obtain ⟨m,hm⟩:∃ m,p.length=m+1:=⟨p.length - 1,by omega⟩
    have HM:=Lib.hid hm
    clear hv2 hst hgd hq1 hm
    by_cases h1:0<m
    ·have HF:=Lib.hid (parse_left H0.out HER.out (by rw [HL.out,HST.out];have:=HM.out;simp only [];omega))
     have t1:decide ((1:Int)<(m:Int)+1)=true:=decide_eq_true (by omega)
     go_wp2_with (go_at_call 37;refine (read_at _ l (by omega) HSF.out _ HRW.out).mono ?_;rintro en w4 ⟨V,T,rfl,hR,hb4⟩;rw [HST.out] at hR;simp only [] at hR;obtain ⟨AT,cT,hTT⟩:=hR.formT;subst hTT;obtain ⟨gv,cv,rfl,-,-,-,-,-⟩:=hR.at HM.out;replace hR:=Lib.hid hR;replace hb4:=Lib.hid hb4)
     go_ret3
     exact ParsesC.nil HF.out (Ba.chain HB0.out HB0.out.size hb4.out)
    ·obtain rfl:m=0:=by omega
     have HF:=Lib.hid (parse_good H0.out HER.out (by rw [HL.out,HST.out];have:=HM.out;simp only [];omega))
     go_wp2_with (go_at_call 37;refine (read_at _ l (by omega) HSF.out _ HRW.out).mono ?_;rintro en w4 ⟨V,T,rfl,hR,hb4⟩;rw [HST.out] at hR;simp only [] at hR;obtain ⟨AT,cT,hTT⟩:=hR.formT;subst hTT;obtain ⟨gv,cv,rfl,-,-,-,-,-⟩:=hR.at HM.out;replace hR:=Lib.hid hR;replace hb4:=Lib.hid hb4)
     go_ret3
     exact ⟨.slice AT t.length cT,by rw [HF.out];rfl,by rw [HF.out,HL.out,HST.out];exact hR.out.readsT,Ba.chain HB0.out HB0.out.size hb4.out,fun A n c e=>by injection e with _ _ e;subst e;exact hR.out.capT⟩
 ·have t0:((e0:Int) != 0)=true:=by rw [bne,show ((e0:Int)==0)=false from beqF h0];rfl
  have HF:=Lib.hid (show parseA s=([],a0,e0) by unfold parseA;rw [if_pos (by rw [HE0.out];exact h0),HA0.out,HE0.out])
  clear h0
  go_enter Tryz.func22,Tryz.ntmps22
  go_wp2_with (go_at_call 47;refine (Lx.rof_any s hs _).mono ?_;rintro e w1 ⟨⟨v,rfl,hown⟩,hb1⟩;rw [HA0.out,HE0.out];replace hb1:=Lib.hid hb1;clear hown)
  go_ret3
  exact ParsesC.nil HF.out hb1.out
end Go.Proofs.YtmldpkigfhoalaaGreatDoor.Tr
