/-
  Put together: CuR, CuS, CuT, CuU.
-/
import Derived.Test.YtlgejmcihchngaaGreatDoorCuQ
import Derived.Test.YtlgejmcihchngaaGreatDoorUa
import Derived.Deep.Onto
import Derived.Test.YtlgejmcihchngaaGreatDoorUc
import Derived.Test.YtlgejmcihchngaaGreatDoorUb
import Derived.Test.YtlgejmcihchngaaGreatDoorSd
import Derived.BigQuiet
import Derived.Test.YtlgejmcihchngaaGreatDoorQi
import Derived.Test.YtlgejmcihchngaaGreatDoorUm
namespace Go.Proofs.YtlgejmcihchngaaGreatDoor.Cu
open Go.RowKit Ba Ru Ck Ti Pa Fl
theorem spell_len (l:List Rl):∀ (n i:Nat) (b:Bool) (t:List Tk),(spellF l n i b t).length≤4 * t.length
 | 0,i,b,t=>Nat.zero_le _
 | n+1,i,b,[]=>Nat.zero_le _
 | n+1,i,b,x::t=>by
  rw[spell_one]
  by_cases hl:letT x=true
  ·rw[if_pos hl]
   have h1:=spell_len l n (i+((x::t).takeWhile letT).length) false ((x::t).dropWhile letT)
   have h2:((x::t).takeWhile letT).length+((x::t).dropWhile letT).length=(x::t).length:=by
    rw[← List.length_append,List.takeWhile_append_dropWhile]
   have h0:0<((x::t).takeWhile letT).length:=by
    rw[List.takeWhile_cons,if_pos hl]
    simp
   have h3:(runN l (chs ((x::t).takeWhile letT)) i).length≤3 * ((x::t).takeWhile letT).length:=by
    have:=runF_len l (chs ((x::t).takeWhile letT)) i (chs ((x::t).takeWhile letT)).length 0
    have e:(chs ((x::t).takeWhile letT)).length=((x::t).takeWhile letT).length:=by unfold chs;rw[List.length_map]
    unfold runN
    rw[e]at this ⊢
    omega
   rw[List.length_append,List.length_append]
   have h4:(if b=true then [(⟨ruleN l 8 letS,i,0⟩:Pc)] else []).length≤1:=by split<;>simp
   omega
  ·rw[if_neg hl]
   have h1:=spell_len l n (i+1) true t
   have h2:=spell_len l n (i+1) false t
   rw[List.length_cons]
   split
   ·rw[List.length_append,List.length_cons]
    have h4:(if b=true then [] else [(⟨ruleN l 8 numS,i,0⟩:Pc)]).length≤1:=by split<;>simp
    omega
   ·split
    ·rw[List.length_cons];omega
    ·rw[List.length_cons];omega
set_option maxRecDepth 100000 in
set_option maxHeartbeats 8000000 in
theorem rof_any (A:Option Addr) (nl c:Nat) (l:List Rl) (off:Nat) (hnl:l.length=nl) (hlm:nl≤100000) (hf:∀ x ∈ l,FitR x) (h9:∀ x ∈ l,x.left.length≤9000) (h50:∀ x ∈ l,x.cells.length≤50) (hA:Acc prC l) (A2:Option Addr) (m c2:Nat) (t:List Tk) (o2:Nat) (hm:t.length=m) (hm2:m≤2000) (hc2:m≤c2) (hft:∀ x ∈ t,x.ch<256) (hch:chunkB t=true) (w:World) (hv:ReadsR off w w.heap.size (.slice A nl c) l) (hu:ReadsT o2 w w.heap.size (.slice A2 m c2) t) :
  Calls Tryz.prog 19 #[.slice A nl c,.slice A2 m c2] w fun e w'=>∃ v',e=.returned v'∧w'.ownsRow w.heap.size 48 3 v' (ofP l t).length (rowsP (ofP l t))∧Below w.heap.size w w':=by
 obtain⟨wo,hwo⟩:∃ o,wordP l t=o:=⟨_,rfl⟩
 have HWO:=Lib.hid hwo
 have HWD:=Lib.hid (rword12_any _ _ l t off o2 (by omega) (by omega) hf hft wo hwo w hv hu)
 have HSP:=Lib.hid (fun(W:World) (hW:Below w.heap.size w W)=>rspell_any A nl c l off hnl hlm hf h9 hA A2 m c2 t o2 hm hm2 hc2 hft W ((hv.below hW).mono hW.size) ((hu.below hW).mono hW.size))
 have hsl:(spellN l t).length≤4 * m:=by rw[← hm];exact spell_len l _ _ _ _
 have hcl:(bytesOf (cellsP l (spellN l t))).size≤400000:=by
  rw[bytesOf_size,← cellsQ_q]
  unfold cellsQ
  split
  ·have:=catQ_len (M:=50) h50 ((spellN l t).map Pc.q)
   unfold catQ at this
   rw[List.length_map]at this
   omega
  ·exact Nat.zero_le _
 have hclt:∀ x ∈ cellsP l (spellN l t),x<256:=fun z hz=>by
  unfold cellsP at hz
  split at hz
  ·obtain⟨p,-,hp⟩:=List.mem_flatMap.1 hz
   cases ho:l[p.rule]? with
   | none=>rw[ho]at hp;cases hp
   | some y =>
    rw[ho]at hp
    exact(hf y (List.mem_of_getElem? ho)).2.2.2.2.1 z hp
  ·cases hz
 have HCE:=Lib.hid (fun(v:Value) (W:World) (hW:Below w.heap.size w W) (hr:ReadsQ 0 W W.heap.size v ((spellN l t).map Pc.q))=>rcells_any _ v l ((spellN l t).map Pc.q) off 0 (by omega) (by rw[List.length_map];omega) (fun x hx=>Nat.le_trans (h50 x hx) (by decide)) (fun x hx=>by
  obtain⟨p,hp,rfl⟩:=List.mem_map.1 hx
  have:=spell_valid hA t.length 0 false t hch p hp
  show I64 (p.rule:Int)
  unfold I64
  omega) (bytesOf (cellsP l (spellN l t))) (by rw[cellsQ_q]) W _ _ (hv.below hW) hr)
 obtain⟨lk,hlk⟩:∃ b,looksB l (cellsP l (spellN l t))=b:=⟨_,rfl⟩
 have HLO:=Lib.hid (fun(W:World) (hW:Below w.heap.size w W)=>rlooks_any _ l off (bytesOf (cellsP l (spellN l t))) (by omega) hf (fun x hx=>Nat.le_trans (h50 x hx) (by decide)) (by omega) lk (by rw[bytesN_bytesOf _ hclt];exact hlk) W _ (hv.below hW))
 have HRL:=Lib.hid (fun(W:World) (hW:Below w.heap.size w W)=>rrule_any _ l off 8 letS (by omega) hf (by decide) W _ (hv.below hW))
 rw[show bytesOf letS={ data:=#[108,101,116] } from rfl]at HRL
 have HLK:=Lib.hid hlk
 obtain⟨CS,hCS⟩:∃ C,bytesOf (cellsP l (spellN l t))=C:=⟨_,rfl⟩
 obtain⟨rl,hrl⟩:∃ r,ruleN l 8 letS=r:=⟨_,rfl⟩
 rw[hCS]at HCE HLO
 rw[hrl]at HRL
 have HRR:=Lib.hid hrl
 clear hwo hnl hlm hf h9 h50 hA hm hc2 hft hch hv hu hcl hclt hlk hCS hrl
 go_enter Tryz.func19,Tryz.ntmps19
 go_wp2_with fail
 refine HWD.out.mono ?_
 rintro e w2 ⟨v2,rfl,hown2,hb2⟩
 have HB2:=Lib.hid hb2
 have HOW2:=Lib.hid hown2
 clear hown2 hb2
 cases wo with
 | some p =>
  have HQ:=Lib.hid (show ofP l t=p from by unfold ofP;rw[HWO.out])
  simp only[Option.isSome]
  go_wp2
  go_ret
  rw[HQ.out]
  exact⟨_,rfl,HOW2.out,HB2.out⟩
 | none =>
  simp only[Option.isSome]
  go_wp2_with fail
  refine(HSP.out _ HB2.out).mono ?_
  rintro e w3 ⟨v3,rfl,hown3,hb3⟩
  have HB3:=Lib.hid (chain HB2.out HB2.out.size hb3)
  have HOW3:=Lib.hid (World.ownsRow.mono hown3 HB2.out.size)
  have HRD:=Lib.hid (readsQ_own rfl hown3)
  have HC3:=Lib.hid (HCE.out v3 w3 HB3.out HRD.out)
  obtain⟨A3,c3,rfl,-,-,-⟩:=own_formR hown3
  clear hown3 hb3
  go_wp2_with fail
  refine HC3.out.mono ?_
  rintro e w4 ⟨rfl,rfl⟩
  go_wp2_with fail
  refine(HLO.out _ HB3.out).mono ?_
  rintro e w5 ⟨rfl,rfl⟩
  cases lk with
  | false =>
   have HQ:=Lib.hid (show ofP l t=spellN l t from by unfold ofP;rw[HWO.out];dsimp only;rw[HLK.out];rfl)
   go_wp2
   go_ret
   rw[HQ.out]
   exact⟨_,rfl,HOW3.out,HB3.out⟩
  | true =>
   have HQ:=Lib.hid (show ofP l t=[⟨rl,0,0⟩]++spellN l t from by unfold ofP;rw[HWO.out];dsimp only;rw[HLK.out,HRR.out];rfl)
   have hs3:=HB3.out.size
   obtain⟨ps,hps⟩:∃ ps,spellN l t=ps:=⟨_,rfl⟩
   rw[hps]at HQ HRD hsl ⊢
   clear hps
   go_wp2_with fail
   refine(HRL.out _ HB3.out).mono ?_
   rintro e w6 ⟨rfl,rfl⟩
   go_wp2_with (at_builtin;refine wpList_append_pieces _ rfl _ _ rfl _ rfl w.heap.size 1 [⟨rl,0,0⟩] (lit_own (base:=w.heap.size) rfl hs3 [⟨rl,0,0⟩] rfl 1 rfl (by decide) (by decide)) (by simp;omega) _ ps.length c3 0 _ ps rfl rfl (by omega) (HRD.out.below ((Below.refl _ _).alloc (Nat.le_refl _) _)) ?_;intro v9 w9 hown9 hgrow9 hblk9;have HB9:=Lib.hid ((HB3.out.alloc hs3 _).grown hgrow9 (by simp;omega) (fun q eq=>by cases eq;exact hs3));have HOW9:=Lib.hid hown9;clear hown9 hgrow9 hblk9)
   go_ret
   rw[HQ.out]
   exact⟨_,rfl,by rw[List.length_append];exact HOW9.out,HB9.out⟩
end Go.Proofs.YtlgejmcihchngaaGreatDoor.Cu
namespace Go.Proofs.YtlgejmcihchngaaGreatDoor.Cu
open Go.RowKit Ba Ru Ck Ti Pa Fl
def readN:List Nat→List Tk
 | []=>[]
 | [c]=>[⟨1,c,0⟩]
 | c::d::r=>if c=43∨c=126 then ⟨if c=126 then 3 else 2,d,0⟩::readN r else ⟨1,c,0⟩::readN (d::r)
theorem infoTk:(Tryz.prog.info? 42).map (fun i=>(i.zero,i.size,i.bytes))=some (some (.agg #[.int .i64 0,.int .u8 0,.int .i64 0]),3,24):=by kernel_rfl
def rowsK (l:List Tk):List Value:=Ba.rows cT l
theorem rowsK_snoc (l:List Tk) (k:Int) (c:Nat):rowsK (l++[⟨k,c,0⟩])=rowsK l++[.int .i64 k,.int .u8 (c:Int),.int .i64 0]:=by
 unfold rowsK Ba.rows
 rw[List.flatMap_append]
 rfl
theorem read_two {s:List Nat} {j c d:Nat} (h0:s[j]?=some c) (h1:s[j+1]?=some d) (hc:c=43∨c=126):readN (s.drop j)=⟨if c=126 then 3 else 2,d,0⟩::readN (s.drop (j+2)):=by
 obtain⟨a,ea⟩:=List.getElem?_eq_some_iff.1 h0
 obtain⟨b,eb⟩:=List.getElem?_eq_some_iff.1 h1
 rw[List.drop_eq_getElem_cons a,List.drop_eq_getElem_cons b,ea,eb]
 show (if _ then _ else _)=_
 rw[if_pos hc]
theorem read_one {s:List Nat} {j c:Nat} (h0:s[j]?=some c) (hc:¬ ((c=43∨c=126)∧j+1<s.length)):readN (s.drop j)=⟨1,c,0⟩::readN (s.drop (j+1)):=by
 obtain⟨a,ea⟩:=List.getElem?_eq_some_iff.1 h0
 rw[List.drop_eq_getElem_cons a,ea]
 by_cases hb:j+1<s.length
 ·rw[List.drop_eq_getElem_cons hb]
  show (if _ then _ else _)=_
  rw[if_neg fun k=>hc ⟨k,hb⟩]
 ·rw[List.drop_of_length_le (by omega)]
  rfl
set_option maxRecDepth 100000 in
set_option maxHeartbeats 8000000 in
theorem rread_any (S:ByteArray) (hS:S.size≤2000) (w:World) :
  Calls Tryz.prog 54 #[.string S] w fun e w'=>∃ v',e=.returned v'∧w'.ownsRow w.heap.size 42 3 v' (readN (bytesN S)).length (rowsK (readN (bytesN S)))∧Below w.heap.size w w':=by
 obtain⟨i0,hi0,hz0,hz1,hz2⟩:=info_parts infoTk
 have hsl:=bytesN_len S
 have HSL:=Lib.hid hsl
 clear hsl
 have HAT:=Lib.hid (fun(k:Nat) (h:k<S.size)=>show (bytesN S)[k]?=some (bAt S k) from by
  have h2:k<(bytesN S).length:=by rw[HSL.out];exact h
  unfold bAt
  rw[List.getD_eq_getElem?_getD,List.getElem?_eq_getElem h2]
  rfl)
 go_enter Tryz.func54,Tryz.ntmps54
 go_wp2
 go_loopw [3,4] (fun v i wr=>∃ (j:Nat) (ds:List Tk),i=.int .i64 (j:Int)∧j≤S.size∧readN (bytesN S)=ds++readN ((bytesN S).drop j)∧ds.length≤j∧wr.ownsRow w.heap.size 42 3 v ds.length (rowsK ds)∧Below w.heap.size w wr) (fun _ i _=>S.size - (intOf i).toNat)
 case atStart=>exact⟨0,[],rfl,Nat.zero_le _,rfl,Nat.zero_le _,World.ownsRow_nil _ _ _ _,Below.refl _ _⟩
 case round =>
  obtain⟨j,ds,rfl,hj,hsp,hdl,how,hBr⟩:=hrel
  have HSP:=Lib.hid hsp
  have HOW:=Lib.hid how
  have HBR:=Lib.hid hBr
  have hsz:=hBr.size
  clear hsp how hBr
  by_cases hlt:j<S.size
  rotate_left
  ·have HE:=Lib.hid (show readN (bytesN S)=ds from by
    rw[HSP.out,List.drop_of_length_le (by rw[HSL.out];omega)]
    exact List.append_nil _)
   have t1:decide ((j:Int)<(S.size:Int))=false:=decide_eq_false (by omega)
   have t1':decide (j<S.size)=false:=decide_eq_false hlt
   go_wp2
   go_ret
   rw[HE.out]
   exact⟨_,rfl,HOW.out,HBR.out⟩
  have t1:decide ((j:Int)<(S.size:Int))=true:=decide_eq_true (by omega)
  have t1':decide (j<S.size)=true:=decide_eq_true hlt
  have j0:(0:Int)≤(j:Int):=by omega
  have j1:(j:Int)<(S.size:Int):=by omega
  have E1:=bAt_get S j hlt
  have hA0:=HAT.out j hlt
  have y1:IntKind.i64.wrap ((j:Int)+1)=(j:Int)+1:=IntWalk.i64_in _ ⟨by omega,by omega⟩
  obtain⟨c,hc⟩:∃ c,bAt S j=c:=⟨_,rfl⟩
  rw[hc]at E1 hA0
  clear hc
  by_cases hgo:(c=43∨c=126)∧j+1<S.size
  ·obtain⟨hc,hlt2⟩:=hgo
   have E2:=bAt_get S (j+1) hlt2
   have HTW:=Lib.hid (read_two hA0 (HAT.out (j+1) hlt2) hc)
   obtain⟨d,hd⟩:∃ d,bAt S (j+1)=d:=⟨_,rfl⟩
   rw[hd]at E2 HTW
   clear hd
   have t2:decide ((j:Int)+1<(S.size:Int))=true:=decide_eq_true (by omega)
   have t2':decide (j+1<S.size)=true:=decide_eq_true hlt2
   have y2:IntKind.i64.wrap ((j:Int)+1+1)=(j:Int)+1+1:=IntWalk.i64_in _ ⟨by omega,by omega⟩
   have z0:(0:Int)≤(j:Int)+1:=by omega
   have z1:(j:Int)+1<(S.size:Int):=by omega
   have z2:((j:Int)+1).toNat=j+1:=by omega
   have E2':((S[((j:Int)+1).toNat]'(by omega)).toNat:Nat)=d:=by simp only[z2];exact E2
   by_cases h43:c=43
   ·subst h43
    have HN:=Lib.hid (show readN (bytesN S)=(ds++[⟨2,d,0⟩])++readN ((bytesN S).drop (j+2)) from by
     rw[HSP.out,HTW.out,List.append_assoc]
     rfl)
    clear hc hA0
    go_wp2_with (at_builtin;refine wpList_append_own _ rfl _ _ 23 rfl w.heap.size 42 i0 _ 3 24 Tryz.underlying23 hi0 hz0 hz1 hz2 rfl (by decide) _ _ _ rfl (HOW.out.alloc _) ⟨_,0,none⟩ 1 1 [.int .i64 2,.int .u8 (d:Int),.int .i64 0] rfl rfl (World.news_of_block (cs:=#[.int .i64 2,.int .u8 (d:Int),.int .i64 0]) (t:=42) (fr:=(0,0)) (heap_alloc_new _ _)) (by simp[Value.oneCell']) (by unfold maxLen;omega) (by omega) (by simp;omega) ?_;intro v' w8 hown' hgrow _;have HFF:=Lib.hid (show w8.ownsRow w.heap.size 42 3 v' (ds++[(⟨2,d,0⟩:Tk)]).length (rowsK (ds++[⟨2,d,0⟩]))∧Below w.heap.size w w8 from ⟨by rw[rowsK_snoc,List.length_append];exact hown',(HBR.out.alloc hsz _).grown hgrow (by simp;omega) (fun q eq=>(HOW.out.lt q eq).1)⟩);clear hown' hgrow)
    go_roundw
    case rel=>exact⟨j+2,ds++[⟨2,d,0⟩],by go_num,by omega,HN.out,by rw[List.length_append,List.length_singleton];omega,HFF.out.1,HFF.out.2⟩
    case measure=>simp[intOf];omega
   ·obtain rfl:c=126:=by omega
    have HN:=Lib.hid (show readN (bytesN S)=(ds++[⟨3,d,0⟩])++readN ((bytesN S).drop (j+2)) from by
     rw[HSP.out,HTW.out,List.append_assoc]
     rfl)
    clear hc hA0 h43
    go_wp2_with (at_builtin;refine wpList_append_own _ rfl _ _ 23 rfl w.heap.size 42 i0 _ 3 24 Tryz.underlying23 hi0 hz0 hz1 hz2 rfl (by decide) _ _ _ rfl (HOW.out.alloc _) ⟨_,0,none⟩ 1 1 [.int .i64 3,.int .u8 (d:Int),.int .i64 0] rfl rfl (World.news_of_block (cs:=#[.int .i64 3,.int .u8 (d:Int),.int .i64 0]) (t:=42) (fr:=(0,0)) (heap_alloc_new _ _)) (by simp[Value.oneCell']) (by unfold maxLen;omega) (by omega) (by simp;omega) ?_;intro v' w8 hown' hgrow _;have HFF:=Lib.hid (show w8.ownsRow w.heap.size 42 3 v' (ds++[(⟨3,d,0⟩:Tk)]).length (rowsK (ds++[⟨3,d,0⟩]))∧Below w.heap.size w w8 from ⟨by rw[rowsK_snoc,List.length_append];exact hown',(HBR.out.alloc hsz _).grown hgrow (by simp;omega) (fun q eq=>(HOW.out.lt q eq).1)⟩);clear hown' hgrow)
    go_roundw
    case rel=>exact⟨j+2,ds++[⟨3,d,0⟩],by go_num,by omega,HN.out,by rw[List.length_append,List.length_singleton];omega,HFF.out.1,HFF.out.2⟩
    case measure=>simp[intOf];omega
  ·have HN:=Lib.hid (show readN (bytesN S)=(ds++[⟨1,c,0⟩])++readN ((bytesN S).drop (j+1)) from by
    rw[HSP.out,read_one hA0 (by rw[HSL.out];exact hgo),List.append_assoc]
    rfl)
   have t2:decide ((j:Int)+1<(S.size:Int))=decide (j+1<S.size):=by rw[decide_eq_decide];omega
   clear hA0
   by_cases h43:c=43
   ·subst h43
    have t3:decide (j+1<S.size)=false:=decide_eq_false fun k=>hgo ⟨.inl rfl,k⟩
    rw[t3]at t2
    clear hgo
    go_wp2_with (at_builtin;refine wpList_append_own _ rfl _ _ 23 rfl w.heap.size 42 i0 _ 3 24 Tryz.underlying23 hi0 hz0 hz1 hz2 rfl (by decide) _ _ _ rfl (HOW.out.alloc _) ⟨_,0,none⟩ 1 1 [.int .i64 1,.int .u8 ((43:Nat):Int),.int .i64 0] rfl rfl (World.news_of_block (cs:=#[.int .i64 1,.int .u8 ((43:Nat):Int),.int .i64 0]) (t:=42) (fr:=(0,0)) (heap_alloc_new _ _)) (by simp[Value.oneCell']) (by unfold maxLen;omega) (by omega) (by simp;omega) ?_;intro v' w8 hown' hgrow _;have HFF:=Lib.hid (show w8.ownsRow w.heap.size 42 3 v' (ds++[(⟨1,43,0⟩:Tk)]).length (rowsK (ds++[⟨1,43,0⟩]))∧Below w.heap.size w w8 from ⟨by rw[rowsK_snoc,List.length_append];exact hown',(HBR.out.alloc hsz _).grown hgrow (by simp;omega) (fun q eq=>(HOW.out.lt q eq).1)⟩);clear hown' hgrow)
    go_roundw
    case rel=>exact⟨j+1,ds++[⟨1,43,0⟩],by go_num,by omega,HN.out,by rw[List.length_append,List.length_singleton];omega,HFF.out.1,HFF.out.2⟩
    case measure=>simp[intOf];omega
   ·have c1:((c:Int)==43)=false:=beq_eq_false_iff_ne.2 (by omega)
    by_cases h126:c=126
    ·subst h126
     have t3:decide (j+1<S.size)=false:=decide_eq_false fun k=>hgo ⟨.inr rfl,k⟩
     rw[t3]at t2
     clear hgo h43 c1
     go_wp2_with (at_builtin;refine wpList_append_own _ rfl _ _ 23 rfl w.heap.size 42 i0 _ 3 24 Tryz.underlying23 hi0 hz0 hz1 hz2 rfl (by decide) _ _ _ rfl (HOW.out.alloc _) ⟨_,0,none⟩ 1 1 [.int .i64 1,.int .u8 ((126:Nat):Int),.int .i64 0] rfl rfl (World.news_of_block (cs:=#[.int .i64 1,.int .u8 ((126:Nat):Int),.int .i64 0]) (t:=42) (fr:=(0,0)) (heap_alloc_new _ _)) (by simp[Value.oneCell']) (by unfold maxLen;omega) (by omega) (by simp;omega) ?_;intro v' w8 hown' hgrow _;have HFF:=Lib.hid (show w8.ownsRow w.heap.size 42 3 v' (ds++[(⟨1,126,0⟩:Tk)]).length (rowsK (ds++[⟨1,126,0⟩]))∧Below w.heap.size w w8 from ⟨by rw[rowsK_snoc,List.length_append];exact hown',(HBR.out.alloc hsz _).grown hgrow (by simp;omega) (fun q eq=>(HOW.out.lt q eq).1)⟩);clear hown' hgrow)
     go_roundw
     case rel=>exact⟨j+1,ds++[⟨1,126,0⟩],by go_num,by omega,HN.out,by rw[List.length_append,List.length_singleton];omega,HFF.out.1,HFF.out.2⟩
     case measure=>simp[intOf];omega
    ·have c2:((c:Int)==126)=false:=beq_eq_false_iff_ne.2 (by omega)
     clear hgo h43 h126 t2
     go_wp2_with (at_builtin;refine wpList_append_own _ rfl _ _ 23 rfl w.heap.size 42 i0 _ 3 24 Tryz.underlying23 hi0 hz0 hz1 hz2 rfl (by decide) _ _ _ rfl (HOW.out.alloc _) ⟨_,0,none⟩ 1 1 [.int .i64 1,.int .u8 (c:Int),.int .i64 0] rfl rfl (World.news_of_block (cs:=#[.int .i64 1,.int .u8 (c:Int),.int .i64 0]) (t:=42) (fr:=(0,0)) (heap_alloc_new _ _)) (by simp[Value.oneCell']) (by unfold maxLen;omega) (by omega) (by simp;omega) ?_;intro v' w8 hown' hgrow _;have HFF:=Lib.hid (show w8.ownsRow w.heap.size 42 3 v' (ds++[(⟨1,c,0⟩:Tk)]).length (rowsK (ds++[⟨1,c,0⟩]))∧Below w.heap.size w w8 from ⟨by rw[rowsK_snoc,List.length_append];exact hown',(HBR.out.alloc hsz _).grown hgrow (by simp;omega) (fun q eq=>(HOW.out.lt q eq).1)⟩);clear hown' hgrow)
     go_roundw
     case rel=>exact⟨j+1,ds++[⟨1,c,0⟩],by go_num,by omega,HN.out,by rw[List.length_append,List.length_singleton];omega,HFF.out.1,HFF.out.2⟩
     case measure=>simp[intOf];omega
end Go.Proofs.YtlgejmcihchngaaGreatDoor.Cu
namespace Go.Proofs.YtlgejmcihchngaaGreatDoor.Cu
open Go.RowKit Ba Ru Ck Ti Pa Fl
theorem capsR_lit {A:Option Addr} {n c:Nat} (h1:n≤c) (h2:c≤maxLen):CapsR (.slice A n c):=fun A' n' c' e=>by
 injection e with _ e1 e2
 subst e1;subst e2
 exact⟨h1,h2⟩
def errC (t:List Tk):Int:=if chunkB t=true then 0 else 1
def spellC (l:List Rl) (t:List Tk):List Pc:=if chunkB t=true then spellN l t else []
def ofC (l:List Rl) (t:List Tk):List Pc:=if chunkB t=true then ofP l t else []
structure QLands (T:TLands):Prop where
 check:∀ (v:Value) (t:List Tk) (off:Nat),t.length≤1000→FitT t→∀ w:World,Laid9 w→ReadsT off w w.heap.size v t→Calls Tryz.prog 9 #[v] w fun e w'=>e=.returned (.int .i64 (errC t))∧Below w.heap.size w w'
 word:∀ {tv:Value} {l:List Rl} {lo hi:Nat} (v:Value) (t:List Tk) (off:Nat),t.length≤1000→FitT t→l.length≤1000→Acc prC l→FitL l→∀ w:World,Laid9 w→T.Is w tv l lo hi→ReadsT off w w.heap.size v t→Calls Tryz.prog 14 #[tv,v] w fun e w' =>
  ∃ v',e=.returned (.tuple #[v',.bool (wordP l t).isSome])∧w'.ownsRow w.heap.size 48 3 v' ((wordP l t).getD []).length (rowsP ((wordP l t).getD []))∧Below w.heap.size w w'
 spelled:∀ {tv:Value} {l:List Rl} {lo hi:Nat} (v:Value) (t:List Tk) (off:Nat),t.length≤1000→FitT t→CapsR v→l.length≤1000→Acc prC l→FitL l→∀ w:World,Laid9 w→T.Is w tv l lo hi→ReadsT off w w.heap.size v t→Calls Tryz.prog 15 #[tv,v] w fun e w' =>
  ∃ v',e=.returned (.tuple #[v',.int .i64 (errC t)])∧w'.ownsRow w.heap.size 48 3 v' (spellC l t).length (rowsP (spellC l t))∧Below w.heap.size w w'
 of:∀ {tv:Value} {l:List Rl} {lo hi:Nat} (v:Value) (t:List Tk) (off:Nat),t.length≤1000→FitT t→CapsR v→l.length≤1000→Acc prC l→FitL l→∀ w:World,Laid9 w→T.Is w tv l lo hi→ReadsT off w w.heap.size v t→Calls Tryz.prog 13 #[tv,v] w fun e w' =>
  ∃ v',e=.returned (.tuple #[v',.int .i64 (errC t)])∧w'.ownsRow w.heap.size 48 3 v' (ofC l t).length (rowsP (ofC l t))∧Below w.heap.size w w'
 cells:∀ {tv:Value} {l:List Rl} {lo hi:Nat} (v:Value) (p:List Pq) (off:Nat),p.length≤1000→(∀ x ∈ p,I64 x.rule)→l.length≤1000→Acc prC l→FitL l→∀ w:World,Laid9 w→T.Is w tv l lo hi→ReadsQ off w w.heap.size v p→Calls Tryz.prog 20 #[tv,v] w fun e w' =>
  e=.returned (.string (bytesOf (cellsQ l p)))∧Below w.heap.size w w'
 word0:∀ (v:Value) (t:List Tk) (off:Nat),t.length≤1000→FitT t→∀ w:World,Laid9 w→ReadsT off w w.heap.size v t→Calls Tryz.prog 14 #[.pointer none,v] w fun e w'=>∃ v',e=.returned (.tuple #[v',.bool false])∧Below w.heap.size w w'
 spelled0:∀ (v:Value) (t:List Tk) (off:Nat),t.length≤1000→FitT t→∀ w:World,Laid9 w→ReadsT off w w.heap.size v t→Calls Tryz.prog 15 #[.pointer none,v] w fun e w'=>∃ v',e=.returned (.tuple #[v',.int .i64 1])∧Below w.heap.size w w'
 of0:∀ (v:Value) (t:List Tk) (off:Nat),t.length≤1000→FitT t→∀ w:World,Laid9 w→ReadsT off w w.heap.size v t→Calls Tryz.prog 13 #[.pointer none,v] w fun e w'=>∃ v',e=.returned (.tuple #[v',.int .i64 1])∧Below w.heap.size w w'
 cells0:∀ (v:Value) (p:List Pq) (off:Nat),p.length≤1000→∀ w:World,Laid9 w→ReadsQ off w w.heap.size v p→Calls Tryz.prog 20 #[.pointer none,v] w fun e w'=>e=.returned (.string { data:=#[] })∧Below w.heap.size w w'
set_option maxHeartbeats 4000000 in
theorem long12_at (v:Value) (l:List Rl) (off:Nat) (_hl:l.length≤maxLen) (w:World) (B:Nat) (hv:ReadsR off w B v l) (b:Bool) (hb:long9 l=b) :
  Calls Tryz.prog 7 #[v] w fun e w'=>e=.returned (.bool b)∧w'=w:=by
 obtain⟨A,c,rfl,hA⟩:=hv
 have HA:=Lib.hid hA;clear hA
 have HB:=Lib.hid hb;clear hb
 go_enter Tryz.func7,Tryz.ntmps7
 by_cases h450:450<l.length
 ·have HV:=Lib.hid (show true=b by rw[← HB.out];unfold long9;rw[decide_eq_true h450,Bool.true_or])
  go_wp2
  go_ret
  rw[← HV.out]
  exact⟨rfl,rfl⟩
 have t450:decide (450<(l.length:Int))=false:=decide_eq_false (by omega)
 have h451:l.length≤450:=by omega
 clear h450
 go_wp2
 go_loopw [3] (fun i wr=>∃ k:Nat,k≤l.length∧i=.int .i64 k∧(∀ x ∈ l.take k,longX x=false)∧wr=w) (fun i _=>l.length - (intOf i).toNat)
 case atStart=>exact⟨0,by omega,rfl,fun x hx=>by simp at hx,rfl⟩
 case round =>
  obtain⟨k,hk,rfl,hN,rfl⟩:=hrel
  by_cases hlt:k<l.length
  ·obtain⟨g,rfl,-,hg⟩:=HA.out (by omega)
   obtain⟨x,hx⟩:∃ x,l[k]?=some x:=⟨_,List.getElem?_eq_getElem hlt⟩
   obtain⟨-,g1,g2,-,-⟩:=rcell hg k x hx
   have s1:(bytesOf x.left).size=x.left.length:=bytesOf_size _
   have s2:(bytesOf x.cells).size=x.cells.length:=bytesOf_size _
   have HX:=Lib.hid hx
   obtain⟨L,hL⟩:∃ L,bytesOf x.left=L:=⟨_,rfl⟩
   obtain⟨C,hC⟩:∃ C,bytesOf x.cells=C:=⟨_,rfl⟩
   rw[hL]at g1 s1
   rw[hC]at g2 s2
   have hyes:longX x=true→true=b:=fun h=>by
    rw[← HB.out];unfold long9
    rw[List.any_eq_true.2 ⟨x,List.mem_of_getElem? hx,h⟩,Bool.or_true]
   have hno:longX x=false→∀ y ∈ l.take (k+1),longX y=false:=fun h y hy=>by
    rw[List.take_add_one,HX.out,List.mem_append]at hy
    rcases hy with hy | hy
    ·exact hN y hy
    ·rw[Option.toList_some,List.mem_singleton]at hy
     rw[hy];exact h
   clear hg hx hL hC hN HA
   by_cases c1:50<L.size
   ·have HV:=Lib.hid (hyes (by unfold longX;rw[decide_eq_true (by omega),Bool.true_or]))
    clear hyes hno s1 s2
    go_wp2
    go_ret
    rw[← HV.out]
    exact⟨rfl,rfl⟩
   ·have u1:decide (50<(L.size:Int))=false:=decide_eq_false (by omega)
    by_cases c2:50<C.size
    ·have HV:=Lib.hid (hyes (by unfold longX;rw[decide_eq_true (p:=50<x.cells.length) (by omega),Bool.or_true]))
     clear hyes hno s1 s2 c1
     go_wp2
     go_ret
     rw[← HV.out]
     exact⟨rfl,rfl⟩
    ·have u2:decide (50<(C.size:Int))=false:=decide_eq_false (by omega)
     have HV:=Lib.hid (hno (by unfold longX;rw[decide_eq_false (by omega),decide_eq_false (by omega)];rfl))
     clear hyes hno s1 s2 c1 c2
     go_wp2
     go_roundw
     case rel=>exact⟨k+1,by omega,by go_num,HV.out,trivial⟩
     case measure=>simp[intOf];omega
  ·obtain rfl:k=l.length:=by omega
   rw[List.take_length]at hN
   have HV:=Lib.hid (show false=b by
    rw[← HB.out];unfold long9
    rw[decide_eq_false (by omega),List.any_eq_false.2 (fun x hx=>by rw[hN x hx];exact Bool.false_ne_true)];rfl)
   clear hN
   go_wp2
   go_ret
   rw[← HV.out]
   exact⟨rfl,rfl⟩
def leftsS (l:List Rl) (p:List Pc):List Nat:=p.flatMap fun x=>32::((l[x.rule]?.map fun y:Rl=>y.left).getD [])
theorem leftsS_snoc {l:List Rl} {p:List Pc} {x:Pc} {y:Rl} (h:l[x.rule]?=some y):leftsS l (p++[x])=leftsS l p++(32::y.left):=by
 unfold leftsS
 rw[List.flatMap_append,List.flatMap_singleton,h]
 rfl
theorem readN_fit:∀ (s:List Nat),(∀ c ∈ s,c<256)→FitT (readN s)
 | [],_=>fun x hx=>by cases hx
 | [c],h=>fun x hx=>by
  rw[List.mem_singleton.1 hx]
  exact⟨by dsimp only;decide,h c (by simp),by dsimp only;decide⟩
 | c::d::r,h=>fun x hx=>by
  unfold readN at hx
  split at hx
  ·rcases List.mem_cons.1 hx with rfl | hx
   ·exact⟨by dsimp only;split<;>decide,h d (by simp),by dsimp only;decide⟩
   ·exact readN_fit r (fun e he=>h e (by simp[he])) x hx
  ·rcases List.mem_cons.1 hx with rfl | hx
   ·exact⟨by dsimp only;decide,h c (by simp),by dsimp only;decide⟩
   ·exact readN_fit (d::r) (fun e he=>h e (List.mem_cons_of_mem _ he)) x hx
theorem readN_len:∀ (s:List Nat),(readN s).length≤s.length
 | []=>Nat.le_refl _
 | [c]=>Nat.le_refl _
 | c::d::r=>by
  unfold readN
  split
  ·have:=readN_len r
   simp only[List.length_cons]
   omega
  ·have:=readN_len (d::r)
   simp only[List.length_cons]at this ⊢
   omega
set_option maxRecDepth 100000 in
set_option maxHeartbeats 8000000 in
theorem lefts12_at (T:TLands) (Q:QLands T) {tv:Value} {l:List Rl} {lo hi:Nat} (A:Option Addr) (nl c off:Nat) (hnl:l.length=nl) (hl:nl≤1000) (hA:Acc prC l) (hfl:FitL l) (S:ByteArray) (hS:S.size≤100) (hch:chunkB (readN (bytesN S))=true) (ps:List Pc) (hps:ofP l (readN (bytesN S))=ps) (hpl:ps.length≤1000) (L:ByteArray) (hL:bytesOf (leftsS l ps)=L) (w:World) (hLd:Laid9 w) (H:T.Is w tv l lo hi) (hv:ReadsR off w w.heap.size (.slice A nl c) l) :
  Calls Tryz.prog 25 #[tv,.slice A nl c,.string S] w fun e w'=>e=.returned (.string L)∧Below w.heap.size w w':=by
 obtain⟨t,ht⟩:∃ t,readN (bytesN S)=t:=⟨_,rfl⟩
 have hRD:=rread_any S (by omega) w
 have hft:=readN_fit (bytesN S) (fun c hc=>bytesN_lt S c hc)
 have htl:=readN_len (bytesN S)
 rw[bytesN_len]at htl
 rw[ht]at hch hps hRD hft htl
 have HRD:=Lib.hid hRD
 have HOF:=Lib.hid (fun(v:Value) (W:World) (hW:Below w.heap.size w W) (hc:CapsR v) (hr:ReadsT 0 W W.heap.size v t)=>show Calls Tryz.prog 13 #[tv,v] W fun e w'=>∃ v',e=.returned (.tuple #[v',.int .i64 0])∧w'.ownsRow W.heap.size 48 3 v' ps.length (rowsP ps)∧Below W.heap.size W w' from by
  have h:=Q.of v t 0 (by omega) hft hc (by omega) hA hfl W (hLd.kept hW) (T.keep H (Kept.of_below hW (T.ptr H).2)) hr
  unfold errC ofC at h
  rw[if_pos hch,if_pos hch,hps]at h
  exact h)
 have HVAL:=Lib.hid (show Valid l ps from hps▸of_valid hA hch)
 have HFL:=Lib.hid hfl
 have HV:=Lib.hid hv
 have HNL:=Lib.hid hnl
 have HLL:=Lib.hid hL
 clear hRD hft htl hA hfl hch hps hLd H hv ht hnl hL
 go_enter Tryz.func25,Tryz.ntmps25
 go_wp2_with fail
 refine HRD.out.mono ?_
 rintro e w2 ⟨v2,rfl,hown2,hb2⟩
 have HB2:=Lib.hid hb2
 have HO2:=Lib.hid (HOF.out v2 w2 hb2 (capsR_own hown2) (Ba.Reads.of_own cT_len rfl hown2))
 clear hown2 hb2
 go_wp2_with fail
 refine HO2.out.mono ?_
 rintro e w3 ⟨v3,rfl,hown3,hb3⟩
 have HB3:=Lib.hid (chain HB2.out HB2.out.size hb3)
 have HRQ:=Lib.hid (readsQ_own rfl hown3)
 obtain⟨A3,c3,rfl,-,-,-⟩:=own_formR hown3
 obtain⟨m,hm⟩:∃ m,ps.length=m:=⟨_,rfl⟩
 rw[hm]at HRQ hpl ⊢
 have HM:=Lib.hid hm
 clear hown3 hb3 hm
 go_wp2
 go_loopw [9,10] (fun s i wr=>∃ k:Nat,i=.int .i64 (k:Int)∧k≤m∧s=.string (bytesOf (leftsS l (ps.take k)))∧(leftsS l (ps.take k)).length≤k * 9001∧wr=w3) (fun _ i _=>m - (intOf i).toNat)
 case atStart=>exact⟨0,rfl,Nat.zero_le _,rfl,Nat.zero_le _,rfl⟩
 case round =>
  obtain⟨k,rfl,hk,rfl,hkl,rfl⟩:=hrel
  by_cases hlt:k<m
  ·obtain⟨p,hp⟩:∃ p,ps[k]?=some p:=⟨_,List.getElem?_eq_getElem (by rw[HM.out];exact hlt)⟩
   have hpv:=HVAL.out p (List.mem_of_getElem? hp)
   obtain⟨x,hx⟩:∃ x,l[p.rule]?=some x:=⟨_,List.getElem?_eq_getElem hpv⟩
   obtain⟨A',c',e,hA⟩:=HRQ.out
   injection e with e1 e2 e3
   subst e1
   obtain⟨g,rfl,-,hcell⟩:=hA (by rw[List.length_map,HM.out];omega)
   obtain⟨q0,-,-⟩:=qcell hcell k p.q (by rw[List.getElem?_map,hp];rfl)
   obtain⟨g2,rfl,hgw,hcx⟩:=cellsR_at (HV.out.below HB3.out) hx
   have x1:=hcx.c1
   obtain⟨X,hX⟩:∃ X,bytesOf x.left=X:=⟨_,rfl⟩
   have hxs:X.size≤9000:=by rw[← hX,bytesOf_size];exact(HFL.out x (List.mem_of_getElem? hx)).2.1
   rw[hX]at x1
   have HNX:=Lib.hid (show bytesOf (leftsS l (ps.take (k+1)))=(bytesOf (leftsS l (ps.take k))++{ data:=#[32] })++X∧(leftsS l (ps.take (k+1))).length≤(k+1) * 9001 from by
    rw[List.take_add_one,hp]
    show bytesOf (leftsS l (ps.take k++[p]))=_∧(leftsS l (ps.take k++[p])).length≤_
    rw[leftsS_snoc hx]
    constructor
    ·rw[← hX,show (32::x.left)=[32]++x.left from rfl,← List.append_assoc,bytesOf_app,bytesOf_app]
     rfl
    ·rw[List.length_append,List.length_cons]
     have:x.left.length≤9000:=(HFL.out x (List.mem_of_getElem? hx)).2.1
     omega)
   have hcur:(bytesOf (leftsS l (ps.take k))).size≤9001000:=by rw[bytesOf_size];omega
   obtain⟨pr,hpr⟩:∃ r,p.rule=r:=⟨_,rfl⟩
   have q0:wr.cell? ⟨g,0+k * 3,none⟩=some (.int .i64 (pr:Int)):=by rw[← hpr];exact q0
   rw[hpr]at x1 hpv
   rw[HNL.out]at hpv
   obtain⟨U,hU⟩:∃ U,bytesOf (leftsS l (ps.take k))=U:=⟨_,rfl⟩
   rw[hU]at hcur HNX ⊢
   rw[Nat.zero_add]at q0
   have hone:({ data:=#[32] }:ByteArray).size=1:=rfl
   have d0:decide ((k:Int)<(m:Int))=true:=decide_eq_true (by omega)
   have d0':decide (k<m)=true:=decide_eq_true hlt
   have k0:(0:Int)≤(k:Int):=by omega
   have k1:(k:Int)<(m:Int):=by omega
   have p0:(0:Int)≤(pr:Int):=by omega
   have p1:(pr:Int)<(nl:Int):=by omega
   have d1:decide ((pr:Int)<0)=false:=decide_eq_false (by omega)
   have d2:decide ((nl:Int)≤(pr:Int))=false:=decide_eq_false (by omega)
   have d3:decide (nl≤pr)=false:=decide_eq_false (by omega)
   clear hp hx hA hcell hcx hX hU hpr hgw e2 e3
   go_wp2
   go_roundw
   case rel=>exact⟨k+1,by go_num,by omega,by rw[HNX.out.1],HNX.out.2,trivial⟩
   case measure=>simp[intOf];omega
  ·have hkm:k=m:=by omega
   have HE:=Lib.hid (show bytesOf (leftsS l (ps.take k))=L from by rw[List.take_of_length_le (by rw[HM.out];omega),HLL.out])
   have d0:decide ((k:Int)<(m:Int))=false:=decide_eq_false (by omega)
   have d0':decide (k<m)=false:=decide_eq_false hlt
   rw[HE.out]
   clear hkm
   go_wp2
   go_ret
   exact⟨rfl,HB3.out⟩
end Go.Proofs.YtlgejmcihchngaaGreatDoor.Cu
namespace Go.Proofs.YtlgejmcihchngaaGreatDoor.Cu
open Go.RowKit Ba Ru Ck Ti Pa Fl
set_option maxRecDepth 100000 in
theorem base_0:chunkB (readN [98,117,116])=true∧leftsS baseL (ofP baseL (readN [98,117,116]))=[32,98,117,116]∧(ofP baseL (readN [98,117,116])).length≤1000:=by decide +kernel
set_option maxRecDepth 100000 in
theorem base_1:chunkB (readN [66,117,116])=true∧leftsS baseL (ofP baseL (readN [66,117,116]))=[32,99,97,112,32,98,117,116]∧(ofP baseL (readN [66,117,116])).length≤1000:=by decide +kernel
set_option maxRecDepth 100000 in
theorem base_2:chunkB (readN [66,85,84])=true∧leftsS baseL (ofP baseL (readN [66,85,84]))=[32,99,97,112,115,32,98,117,116]∧(ofP baseL (readN [66,85,84])).length≤1000:=by decide +kernel
set_option maxRecDepth 100000 in
theorem base_3:chunkB (readN [98,85,84])=true∧leftsS baseL (ofP baseL (readN [98,85,84]))=[32,98,32,99,97,112,115,32,117,32,116]∧(ofP baseL (readN [98,85,84])).length≤1000:=by decide +kernel
set_option maxRecDepth 100000 in
theorem base_4:chunkB (readN [98])=true∧leftsS baseL (ofP baseL (readN [98]))=[32,108,101,116,32,98]∧(ofP baseL (readN [98])).length≤1000:=by decide +kernel
set_option maxRecDepth 100000 in
theorem base_5:chunkB (readN [66])=true∧leftsS baseL (ofP baseL (readN [66]))=[32,108,101,116,32,99,97,112,32,98]∧(ofP baseL (readN [66])).length≤1000:=by decide +kernel
set_option maxRecDepth 100000 in
theorem base_6:chunkB (readN [120])=true∧leftsS baseL (ofP baseL (readN [120]))=[32,108,101,116,32,120]∧(ofP baseL (readN [120])).length≤1000:=by decide +kernel
set_option maxRecDepth 100000 in
theorem base_7:chunkB (readN [83,97,110,100])=true∧leftsS baseL (ofP baseL (readN [83,97,110,100]))=[32,99,97,112,32,115,32,97,110,100]∧(ofP baseL (readN [83,97,110,100])).length≤1000:=by decide +kernel
set_option maxRecDepth 100000 in
theorem base_8:chunkB (readN [115,97,110,68])=true∧leftsS baseL (ofP baseL (readN [115,97,110,68]))=[32,115,32,97,32,110,32,99,97,112,32,100]∧(ofP baseL (readN [115,97,110,68])).length≤1000:=by decide +kernel
set_option maxRecDepth 100000 in
theorem base_9:chunkB (readN [83,65,78,100])=true∧leftsS baseL (ofP baseL (readN [83,65,78,100]))=[32,99,97,112,32,115,32,99,97,112,32,97,32,99,97,112,32,110,32,100]∧(ofP baseL (readN [83,65,78,100])).length≤1000:=by decide +kernel
set_option maxRecDepth 100000 in
theorem base_10:chunkB (readN [97,49,98,50])=true∧leftsS baseL (ofP baseL (readN [97,49,98,50]))=[32,97,32,110,117,109,32,49,32,108,101,116,32,98,32,110,117,109,32,50]∧(ofP baseL (readN [97,49,98,50])).length≤1000:=by decide +kernel
set_option maxRecDepth 100000 in
theorem base_11:chunkB (readN [49,50,46,53])=true∧leftsS baseL (ofP baseL (readN [49,50,46,53]))=[32,110,117,109,32,49,32,50,32,46,32,110,117,109,32,53]∧(ofP baseL (readN [49,50,46,53])).length≤1000:=by decide +kernel
set_option maxRecDepth 100000 in
theorem base_12:chunkB (readN [43,101,98,117,116,126,101])=true∧leftsS baseL (ofP baseL (readN [43,101,98,117,116,126,101]))=[32,101,43,32,98,32,117,32,116,32,101,45]∧(ofP baseL (readN [43,101,98,117,116,126,101])).length≤1000:=by decide +kernel
set_option maxRecDepth 100000 in
set_option maxHeartbeats 16000000 in
theorem awake12 (T:TLands) (Q:QLands T) (w:World) (hL:Laid9 w):Calls Tryz.prog 8 #[] w fun e w'=>e=.returned (.bool true)∧Below w.heap.size w w':=by
 have HL:=Lib.hid hL
 clear hL
 have HACC:=Lib.hid (show Acc prC baseL from (table_acc baseL).1 (by rw[base_table]))
 go_enter Tryz.func8,Tryz.ntmps8
 go_wp2_with fail
 refine(rbase_any _).mono ?_
 rintro e wb ⟨vb,rfl,ownb,hbb⟩
 have hRb:=Reads.of_own (f:=cR) (n:=5) cR_len base_len ownb
 have hCb:=capsR_own ownb
 obtain⟨Ab,cb,rfl,-⟩:=own_formR ownb
 have HWb:=Lib.hid hbb
 have HNE:=Lib.hid (T.new (.slice Ab 106 cb) baseL 0 (by rw[base_len];decide) base_fit hCb wb (HL.out.kept hbb) hRb)
 have HRb:=Lib.hid hRb
 clear ownb hbb hRb hCb
 go_wp2_with fail
 refine HNE.out.mono ?_
 rintro e w1 ⟨hb1,h1⟩
 rcases h1 with⟨-,t,rfl,his⟩ | ⟨hno,-⟩
 rotate_left
 ·exact absurd (show (tableR prC baseL).2=0 by rw[base_table]) hno
 obtain⟨⟨a,rfl⟩,-⟩:=T.ptr his
 have hl1:Laid9 w1:=(HL.out.kept HWb.out).kept hb1
 have hlen:baseL.length≤1000:=by rw[base_len];decide
 have HBA:=Lib.hid (chain HWb.out HWb.out.size hb1)
 have hRd:=(HRb.out.below hb1).mono hb1.size
 have HE0:=Lib.hid (show ∀ W:World,Below w1.heap.size w1 W→Calls Tryz.prog 25 #[.pointer (some a),.slice Ab 106 cb,.string { data:=#[98,117,116] }] W fun e w'=>e=.returned (.string { data:=#[32,98,117,116] })∧Below w1.heap.size w1 w' from fun W hW =>
  (lefts12_at T Q Ab 106 cb 0 base_len (by decide) HACC.out base_fit { data:=#[98,117,116] } (by decide) (by rw[show bytesN { data:=#[98,117,116] }=[98,117,116] from by decide];exact base_0.1) _ rfl (by rw[show bytesN { data:=#[98,117,116] }=[98,117,116] from by decide];exact base_0.2.2) { data:=#[32,98,117,116] } (by rw[show bytesN { data:=#[98,117,116] }=[98,117,116] from by decide,base_0.2.1];rfl) W (hl1.kept hW) (T.keep his (Kept.of_below hW (Nat.le_refl _))) ((hRd.below hW).mono hW.size)).mono fun e w' h=>⟨h.1,chain hW hW.size h.2⟩)
 have HE1:=Lib.hid (show ∀ W:World,Below w1.heap.size w1 W→Calls Tryz.prog 25 #[.pointer (some a),.slice Ab 106 cb,.string { data:=#[66,117,116] }] W fun e w'=>e=.returned (.string { data:=#[32,99,97,112,32,98,117,116] })∧Below w1.heap.size w1 w' from fun W hW =>
  (lefts12_at T Q Ab 106 cb 0 base_len (by decide) HACC.out base_fit { data:=#[66,117,116] } (by decide) (by rw[show bytesN { data:=#[66,117,116] }=[66,117,116] from by decide];exact base_1.1) _ rfl (by rw[show bytesN { data:=#[66,117,116] }=[66,117,116] from by decide];exact base_1.2.2) { data:=#[32,99,97,112,32,98,117,116] } (by rw[show bytesN { data:=#[66,117,116] }=[66,117,116] from by decide,base_1.2.1];rfl) W (hl1.kept hW) (T.keep his (Kept.of_below hW (Nat.le_refl _))) ((hRd.below hW).mono hW.size)).mono fun e w' h=>⟨h.1,chain hW hW.size h.2⟩)
 have HE2:=Lib.hid (show ∀ W:World,Below w1.heap.size w1 W→Calls Tryz.prog 25 #[.pointer (some a),.slice Ab 106 cb,.string { data:=#[66,85,84] }] W fun e w'=>e=.returned (.string { data:=#[32,99,97,112,115,32,98,117,116] })∧Below w1.heap.size w1 w' from fun W hW =>
  (lefts12_at T Q Ab 106 cb 0 base_len (by decide) HACC.out base_fit { data:=#[66,85,84] } (by decide) (by rw[show bytesN { data:=#[66,85,84] }=[66,85,84] from by decide];exact base_2.1) _ rfl (by rw[show bytesN { data:=#[66,85,84] }=[66,85,84] from by decide];exact base_2.2.2) { data:=#[32,99,97,112,115,32,98,117,116] } (by rw[show bytesN { data:=#[66,85,84] }=[66,85,84] from by decide,base_2.2.1];rfl) W (hl1.kept hW) (T.keep his (Kept.of_below hW (Nat.le_refl _))) ((hRd.below hW).mono hW.size)).mono fun e w' h=>⟨h.1,chain hW hW.size h.2⟩)
 have HE3:=Lib.hid (show ∀ W:World,Below w1.heap.size w1 W→Calls Tryz.prog 25 #[.pointer (some a),.slice Ab 106 cb,.string { data:=#[98,85,84] }] W fun e w'=>e=.returned (.string { data:=#[32,98,32,99,97,112,115,32,117,32,116] })∧Below w1.heap.size w1 w' from fun W hW =>
  (lefts12_at T Q Ab 106 cb 0 base_len (by decide) HACC.out base_fit { data:=#[98,85,84] } (by decide) (by rw[show bytesN { data:=#[98,85,84] }=[98,85,84] from by decide];exact base_3.1) _ rfl (by rw[show bytesN { data:=#[98,85,84] }=[98,85,84] from by decide];exact base_3.2.2) { data:=#[32,98,32,99,97,112,115,32,117,32,116] } (by rw[show bytesN { data:=#[98,85,84] }=[98,85,84] from by decide,base_3.2.1];rfl) W (hl1.kept hW) (T.keep his (Kept.of_below hW (Nat.le_refl _))) ((hRd.below hW).mono hW.size)).mono fun e w' h=>⟨h.1,chain hW hW.size h.2⟩)
 have HE4:=Lib.hid (show ∀ W:World,Below w1.heap.size w1 W→Calls Tryz.prog 25 #[.pointer (some a),.slice Ab 106 cb,.string { data:=#[98] }] W fun e w'=>e=.returned (.string { data:=#[32,108,101,116,32,98] })∧Below w1.heap.size w1 w' from fun W hW =>
  (lefts12_at T Q Ab 106 cb 0 base_len (by decide) HACC.out base_fit { data:=#[98] } (by decide) (by rw[show bytesN { data:=#[98] }=[98] from by decide];exact base_4.1) _ rfl (by rw[show bytesN { data:=#[98] }=[98] from by decide];exact base_4.2.2) { data:=#[32,108,101,116,32,98] } (by rw[show bytesN { data:=#[98] }=[98] from by decide,base_4.2.1];rfl) W (hl1.kept hW) (T.keep his (Kept.of_below hW (Nat.le_refl _))) ((hRd.below hW).mono hW.size)).mono fun e w' h=>⟨h.1,chain hW hW.size h.2⟩)
 have HE5:=Lib.hid (show ∀ W:World,Below w1.heap.size w1 W→Calls Tryz.prog 25 #[.pointer (some a),.slice Ab 106 cb,.string { data:=#[66] }] W fun e w'=>e=.returned (.string { data:=#[32,108,101,116,32,99,97,112,32,98] })∧Below w1.heap.size w1 w' from fun W hW =>
  (lefts12_at T Q Ab 106 cb 0 base_len (by decide) HACC.out base_fit { data:=#[66] } (by decide) (by rw[show bytesN { data:=#[66] }=[66] from by decide];exact base_5.1) _ rfl (by rw[show bytesN { data:=#[66] }=[66] from by decide];exact base_5.2.2) { data:=#[32,108,101,116,32,99,97,112,32,98] } (by rw[show bytesN { data:=#[66] }=[66] from by decide,base_5.2.1];rfl) W (hl1.kept hW) (T.keep his (Kept.of_below hW (Nat.le_refl _))) ((hRd.below hW).mono hW.size)).mono fun e w' h=>⟨h.1,chain hW hW.size h.2⟩)
 have HE6:=Lib.hid (show ∀ W:World,Below w1.heap.size w1 W→Calls Tryz.prog 25 #[.pointer (some a),.slice Ab 106 cb,.string { data:=#[120] }] W fun e w'=>e=.returned (.string { data:=#[32,108,101,116,32,120] })∧Below w1.heap.size w1 w' from fun W hW =>
  (lefts12_at T Q Ab 106 cb 0 base_len (by decide) HACC.out base_fit { data:=#[120] } (by decide) (by rw[show bytesN { data:=#[120] }=[120] from by decide];exact base_6.1) _ rfl (by rw[show bytesN { data:=#[120] }=[120] from by decide];exact base_6.2.2) { data:=#[32,108,101,116,32,120] } (by rw[show bytesN { data:=#[120] }=[120] from by decide,base_6.2.1];rfl) W (hl1.kept hW) (T.keep his (Kept.of_below hW (Nat.le_refl _))) ((hRd.below hW).mono hW.size)).mono fun e w' h=>⟨h.1,chain hW hW.size h.2⟩)
 have HE7:=Lib.hid (show ∀ W:World,Below w1.heap.size w1 W→Calls Tryz.prog 25 #[.pointer (some a),.slice Ab 106 cb,.string { data:=#[83,97,110,100] }] W fun e w'=>e=.returned (.string { data:=#[32,99,97,112,32,115,32,97,110,100] })∧Below w1.heap.size w1 w' from fun W hW =>
  (lefts12_at T Q Ab 106 cb 0 base_len (by decide) HACC.out base_fit { data:=#[83,97,110,100] } (by decide) (by rw[show bytesN { data:=#[83,97,110,100] }=[83,97,110,100] from by decide];exact base_7.1) _ rfl (by rw[show bytesN { data:=#[83,97,110,100] }=[83,97,110,100] from by decide];exact base_7.2.2) { data:=#[32,99,97,112,32,115,32,97,110,100] } (by rw[show bytesN { data:=#[83,97,110,100] }=[83,97,110,100] from by decide,base_7.2.1];rfl) W (hl1.kept hW) (T.keep his (Kept.of_below hW (Nat.le_refl _))) ((hRd.below hW).mono hW.size)).mono fun e w' h=>⟨h.1,chain hW hW.size h.2⟩)
 have HE8:=Lib.hid (show ∀ W:World,Below w1.heap.size w1 W→Calls Tryz.prog 25 #[.pointer (some a),.slice Ab 106 cb,.string { data:=#[115,97,110,68] }] W fun e w'=>e=.returned (.string { data:=#[32,115,32,97,32,110,32,99,97,112,32,100] })∧Below w1.heap.size w1 w' from fun W hW =>
  (lefts12_at T Q Ab 106 cb 0 base_len (by decide) HACC.out base_fit { data:=#[115,97,110,68] } (by decide) (by rw[show bytesN { data:=#[115,97,110,68] }=[115,97,110,68] from by decide];exact base_8.1) _ rfl (by rw[show bytesN { data:=#[115,97,110,68] }=[115,97,110,68] from by decide];exact base_8.2.2) { data:=#[32,115,32,97,32,110,32,99,97,112,32,100] } (by rw[show bytesN { data:=#[115,97,110,68] }=[115,97,110,68] from by decide,base_8.2.1];rfl) W (hl1.kept hW) (T.keep his (Kept.of_below hW (Nat.le_refl _))) ((hRd.below hW).mono hW.size)).mono fun e w' h=>⟨h.1,chain hW hW.size h.2⟩)
 have HE9:=Lib.hid (show ∀ W:World,Below w1.heap.size w1 W→Calls Tryz.prog 25 #[.pointer (some a),.slice Ab 106 cb,.string { data:=#[83,65,78,100] }] W fun e w'=>e=.returned (.string { data:=#[32,99,97,112,32,115,32,99,97,112,32,97,32,99,97,112,32,110,32,100] })∧Below w1.heap.size w1 w' from fun W hW =>
  (lefts12_at T Q Ab 106 cb 0 base_len (by decide) HACC.out base_fit { data:=#[83,65,78,100] } (by decide) (by rw[show bytesN { data:=#[83,65,78,100] }=[83,65,78,100] from by decide];exact base_9.1) _ rfl (by rw[show bytesN { data:=#[83,65,78,100] }=[83,65,78,100] from by decide];exact base_9.2.2) { data:=#[32,99,97,112,32,115,32,99,97,112,32,97,32,99,97,112,32,110,32,100] } (by rw[show bytesN { data:=#[83,65,78,100] }=[83,65,78,100] from by decide,base_9.2.1];rfl) W (hl1.kept hW) (T.keep his (Kept.of_below hW (Nat.le_refl _))) ((hRd.below hW).mono hW.size)).mono fun e w' h=>⟨h.1,chain hW hW.size h.2⟩)
 have HE10:=Lib.hid (show ∀ W:World,Below w1.heap.size w1 W→Calls Tryz.prog 25 #[.pointer (some a),.slice Ab 106 cb,.string { data:=#[97,49,98,50] }] W fun e w'=>e=.returned (.string { data:=#[32,97,32,110,117,109,32,49,32,108,101,116,32,98,32,110,117,109,32,50] })∧Below w1.heap.size w1 w' from fun W hW =>
  (lefts12_at T Q Ab 106 cb 0 base_len (by decide) HACC.out base_fit { data:=#[97,49,98,50] } (by decide) (by rw[show bytesN { data:=#[97,49,98,50] }=[97,49,98,50] from by decide];exact base_10.1) _ rfl (by rw[show bytesN { data:=#[97,49,98,50] }=[97,49,98,50] from by decide];exact base_10.2.2) { data:=#[32,97,32,110,117,109,32,49,32,108,101,116,32,98,32,110,117,109,32,50] } (by rw[show bytesN { data:=#[97,49,98,50] }=[97,49,98,50] from by decide,base_10.2.1];rfl) W (hl1.kept hW) (T.keep his (Kept.of_below hW (Nat.le_refl _))) ((hRd.below hW).mono hW.size)).mono fun e w' h=>⟨h.1,chain hW hW.size h.2⟩)
 have HE11:=Lib.hid (show ∀ W:World,Below w1.heap.size w1 W→Calls Tryz.prog 25 #[.pointer (some a),.slice Ab 106 cb,.string { data:=#[49,50,46,53] }] W fun e w'=>e=.returned (.string { data:=#[32,110,117,109,32,49,32,50,32,46,32,110,117,109,32,53] })∧Below w1.heap.size w1 w' from fun W hW =>
  (lefts12_at T Q Ab 106 cb 0 base_len (by decide) HACC.out base_fit { data:=#[49,50,46,53] } (by decide) (by rw[show bytesN { data:=#[49,50,46,53] }=[49,50,46,53] from by decide];exact base_11.1) _ rfl (by rw[show bytesN { data:=#[49,50,46,53] }=[49,50,46,53] from by decide];exact base_11.2.2) { data:=#[32,110,117,109,32,49,32,50,32,46,32,110,117,109,32,53] } (by rw[show bytesN { data:=#[49,50,46,53] }=[49,50,46,53] from by decide,base_11.2.1];rfl) W (hl1.kept hW) (T.keep his (Kept.of_below hW (Nat.le_refl _))) ((hRd.below hW).mono hW.size)).mono fun e w' h=>⟨h.1,chain hW hW.size h.2⟩)
 have HE12:=Lib.hid (show ∀ W:World,Below w1.heap.size w1 W→Calls Tryz.prog 25 #[.pointer (some a),.slice Ab 106 cb,.string { data:=#[43,101,98,117,116,126,101] }] W fun e w'=>e=.returned (.string { data:=#[32,101,43,32,98,32,117,32,116,32,101,45] })∧Below w1.heap.size w1 w' from fun W hW =>
  (lefts12_at T Q Ab 106 cb 0 base_len (by decide) HACC.out base_fit { data:=#[43,101,98,117,116,126,101] } (by decide) (by rw[show bytesN { data:=#[43,101,98,117,116,126,101] }=[43,101,98,117,116,126,101] from by decide];exact base_12.1) _ rfl (by rw[show bytesN { data:=#[43,101,98,117,116,126,101] }=[43,101,98,117,116,126,101] from by decide];exact base_12.2.2) { data:=#[32,101,43,32,98,32,117,32,116,32,101,45] } (by rw[show bytesN { data:=#[43,101,98,117,116,126,101] }=[43,101,98,117,116,126,101] from by decide,base_12.2.1];rfl) W (hl1.kept hW) (T.keep his (Kept.of_below hW (Nat.le_refl _))) ((hRd.below hW).mono hW.size)).mono fun e w' h=>⟨h.1,chain hW hW.size h.2⟩)
 clear hRd his hl1 hlen hb1
 have hS:=Below.refl w1.heap.size w1
 go_wp2_with fail
 refine(HE0.out _ hS).mono ?_
 rintro en w_0 ⟨rfl,hS0⟩
 have hS:=hS0
 go_wp2_with fail
 refine(HE1.out _ hS).mono ?_
 rintro en w_1 ⟨rfl,hS1⟩
 have hS:=hS1
 go_wp2_with fail
 refine(HE2.out _ hS).mono ?_
 rintro en w_2 ⟨rfl,hS2⟩
 have hS:=hS2
 go_wp2_with fail
 refine(HE3.out _ hS).mono ?_
 rintro en w_3 ⟨rfl,hS3⟩
 have hS:=hS3
 go_wp2_with fail
 refine(HE4.out _ hS).mono ?_
 rintro en w_4 ⟨rfl,hS4⟩
 have hS:=hS4
 go_wp2_with fail
 refine(HE5.out _ hS).mono ?_
 rintro en w_5 ⟨rfl,hS5⟩
 have hS:=hS5
 go_wp2_with fail
 refine(HE6.out _ hS).mono ?_
 rintro en w_6 ⟨rfl,hS6⟩
 have hS:=hS6
 go_wp2_with fail
 refine(HE7.out _ hS).mono ?_
 rintro en w_7 ⟨rfl,hS7⟩
 have hS:=hS7
 go_wp2_with fail
 refine(HE8.out _ hS).mono ?_
 rintro en w_8 ⟨rfl,hS8⟩
 have hS:=hS8
 go_wp2_with fail
 refine(HE9.out _ hS).mono ?_
 rintro en w_9 ⟨rfl,hS9⟩
 have hS:=hS9
 go_wp2_with fail
 refine(HE10.out _ hS).mono ?_
 rintro en w_10 ⟨rfl,hS10⟩
 have hS:=hS10
 go_wp2_with fail
 refine(HE11.out _ hS).mono ?_
 rintro en w_11 ⟨rfl,hS11⟩
 have hS:=hS11
 go_wp2_with fail
 refine(HE12.out _ hS).mono ?_
 rintro en w_12 ⟨rfl,hS12⟩
 have hS:=hS12
 have HZ:=Lib.hid hS
 clear hS
 go_wp2
 go_ret
 exact⟨rfl,chain HBA.out HBA.out.size HZ.out⟩
end Go.Proofs.YtlgejmcihchngaaGreatDoor.Cu
