/-
  Put together: CmE, CmF.
-/
import Derived.Test.YtlgejmcihchngaaGreatDoorQe
import Derived.Test.YtlgejmcihchngaaGreatDoorQf
import Derived.Test.YtlgejmcihchngaaGreatDoorRuH
import Derived.Test.YtlgejmcihchngaaGreatDoorHcA
import Derived.Lib.Explode
namespace Go.Proofs.YtlgejmcihchngaaGreatDoor.Ck
open Go.RowKit Ba Ru
set_option maxRecDepth 100000 in
set_option maxHeartbeats 4000000 in
theorem each_at (q:Int) (ls:List (List Nat)) (B g n c:Nat) (hn:ls.length=n) (hn9:n≤1000) (w:World) (_hB:B≤w.heap.size) (hown:w.ownsRow B 9 1 (.slice (some ⟨g,0,none⟩) n c) n (rows cS ls)) :
  Calls Tryz.prog 140 #[.int .i64 q,.slice (some ⟨g,0,none⟩) n c] w fun e w'=>∃ v,e=.returned v∧w'.ownsRow w.heap.size 50 5 v n (rows cR (eachR q ls))∧Below w.heap.size w w':=by
 obtain⟨i0,hi0,hz0,hz1,hz2⟩:=info_parts infoR
 have HO:=Lib.hid hown
 have HN:=Lib.hid hn
 clear hown hn
 go_enter Tryz.func140,Tryz.ntmps140
 go_wp2
 go_loopw [5,10] (fun v i wr=>∃ k:Nat,i=.int .i64 (k:Int)∧k≤n∧wr.ownsRow w.heap.size 50 5 v k (rows cR (eachR q (ls.take k)))∧Below w.heap.size w wr) (fun _ i _=>n - (intOf i).toNat)
 case atStart=>exact⟨0,rfl,Nat.zero_le _,World.ownsRow_nil _ _ _ _,Below.refl _ _⟩
 case round =>
  obtain⟨k,rfl,hkn,how,hB1⟩:=hrel
  by_cases hlt:k<n
  ·obtain⟨s,hs⟩:∃ s,ls[k]?=some s:=⟨_,List.getElem?_eq_getElem (by rw[HN.out];exact hlt)⟩
   have hc:wr.cell? ⟨g,k,none⟩=some (.string (bytesOf s)):=str_cell (own_below HO.out (show Below w.heap.size w wr from hB1)) hlt hs
   have HNX:=Lib.hid (show eachR q (ls.take (k+1))=eachR q (ls.take k)++[⟨q,s,[],0,0⟩] from by
    unfold eachR
    rw[List.take_add_one,hs,Option.toList_some,List.map_append];rfl)
   have HOW:=Lib.hid how
   have HBW:=Lib.hid hB1
   have HLT:=Lib.hid how.lt
   obtain⟨S,hS⟩:∃ S,bytesOf s=S:=⟨_,rfl⟩
   have HRW:=Lib.hid (show rows cR (eachR q (ls.take k)++[⟨q,s,[],0,0⟩])=rows cR (eachR q (ls.take k))++[.int .i64 q,.string S,.string { data:=#[] },.int .i64 0,.int .i64 0] from by
    rw[rows_oneR,← hS];rfl)
   rw[hS]at hc
   have hsz:=hB1.size
   have k0:(0:Int)≤(k:Int):=by omega
   have k1:(k:Int)<(n:Int):=by omega
   obtain⟨A5,c5,rfl,-⟩:=Tu_own_form how
   clear hs hS how hB1
   go_wp2_with (at_builtin;refine wpList_append_own _ rfl _ _ 22 rfl w.heap.size 50 i0 _ 5 56 Tryz.underlying22 hi0 hz0 hz1 hz2 rfl (by decide) _ _ _ rfl (HOW.out.alloc _) ⟨wr.heap.size,0,none⟩ 1 1 [.int .i64 q,.string S,.string { data:=#[] },.int .i64 0,.int .i64 0] rfl rfl (World.news_of_block (cs:=#[.int .i64 q,.string S,.string { data:=#[] },.int .i64 0,.int .i64 0]) (t:=50) (fr:=(0,0)) (heap_alloc_new wr _)) (by simp[Value.oneCell']) (by unfold maxLen;omega) (by omega) (by simp;omega) ?_;intro v' w8 hown' hgrow _;have HF:=Lib.hid (show w8.ownsRow w.heap.size 50 5 v' (k+1) (rows cR (eachR q (ls.take (k+1))))∧Below w.heap.size w w8 from ⟨by rw[HNX.out,HRW.out];exact hown',(HBW.out.alloc hsz _).grown hgrow (by simp;omega) (fun j ej=>(HLT.out j ej).1)⟩);clear hown' hgrow)
   go_roundw
   case rel=>exact⟨k+1,by go_num,by omega,HF.out.1,HF.out.2⟩
   case measure=>simp[intOf];omega
  ·have HE:=Lib.hid (show wr.ownsRow w.heap.size 50 5 u5 n (rows cR (eachR q ls)) from by
    obtain rfl:k=n:=by omega
    rw[List.take_of_length_le (by rw[HN.out];exact Nat.le_refl _)]at how
    exact how)
   have HBW:=Lib.hid hB1
   have t1:decide ((k:Int)<(n:Int))=false:=decide_eq_false (by omega)
   clear how hB1
   go_wp2
   go_ret
   exact⟨_,rfl,HE.out,HBW.out⟩
theorem bytesOf_list1 (b:UInt8):(bytesOf [b.toNat]).data.toList=[b]:=by
 unfold bytesOf
 simp
theorem chars_rows (s:ByteArray):(Lib.charsB s).map Value.string=rows cS ((bytesN s).map fun b=>[b]):=by
 have e:Lib.charsB s=((bytesN s).map fun b=>[b]).map bytesOf:=by
  refine(List.map_inj_right (f:=fun x:ByteArray=>x.data.toList) (fun x y h=>?_)).1 ?_
  ·exact ByteArray.ext (Array.ext' h)
  ·rw[Lib.chars_data]
   unfold bytesN
   rw[List.map_map,List.map_map,List.map_map]
   refine List.map_congr_left fun b _=>?_
   exact(bytesOf_list1 b).symm
 rw[e]
 generalize (bytesN s).map (fun b=>[b])=l
 induction l with
 | nil=>rfl
 | cons x l ih=>rw[rows_cons,List.map_cons,List.map_cons,ih];rfl
theorem split_chars (s:ByteArray) (hs:s.size≤1000) (ha:∀ (j:Nat) b,s.data.toList[j]?=some b→b.toNat<128) (w:World) :
  Calls Tryz.prog 141 #[.string s,.string { data:=#[] }] w fun e w'=>∃ g,e=.returned (.slice (some ⟨g,0,none⟩) s.size s.size)∧w'.ownsRow w.heap.size 9 1 (.slice (some ⟨g,0,none⟩) s.size s.size) s.size (rows cS ((bytesN s).map fun b=>[b]))∧Below w.heap.size w w':=by
 refine(Tryz.strings_Split_chars s { data:=#[] } w rfl (by omega) ha).mono ?_
 rintro e w' ⟨rfl,rfl⟩
 have hb:Below w.heap.size w (w.iter s s.size):=(Below.refl _ w).alloc (Nat.le_refl _) _
 refine⟨_,rfl,?_,hb.alloc hb.size _⟩
 rw[← chars_rows]
 refine World.ownsRow_lit (base:=w.heap.size) (e:=9) (size:=1) (w.iter s s.size) ((Lib.charsB s).map Value.string).toArray s.size hb.size (by unfold maxLen;omega) ?_
 rw[List.size_toArray,List.length_map,Nat.mul_one]
 exact Lib.charsUpTo_length s s.size
set_option maxRecDepth 100000 in
set_option maxHeartbeats 4000000 in
theorem grow_at (n:Nat) (h0:0<n) (hn9:n≤1000) (w:World) :
  Calls Tryz.prog 165 #[.slice none 0 0,.int .i64 (n:Int)] w fun e w'=>∃ v,e=.returned v∧w'.ownsRow w.heap.size 50 5 v 0 []∧Below w.heap.size w w':=by
 obtain⟨i0,hi0,hz0,hz1,hz2⟩:=info_parts infoR
 have hrun:=fun(W:World) (ty:TypeId)=>Lib.run_append_grow_zeros (P:=Tryz.prog) W 22 3 ty 50 i0 _ .i64 .i64 Tryz.underlying22 Tryz.underlying3 hi0 hz0 none 0 0 [] (run_firstCells_none W.drew i0.size 0 0 0) n h0 (by omega) (by omega) (by omega) (by rw[hz2];omega) (by rw[hz2];simp[Builtin.nextslicecap,h0];omega)
 obtain⟨cp,hcp⟩:∃ cp,grownCap w (0+n) 0 50=cp:=⟨_,rfl⟩
 have hcm:cp≤maxLen:=by rw[← hcp];exact grownCap_le_maxLen _ _ _ _ (by unfold maxLen;omega)
 have hrun0:=fun ty=>hrun w ty
 rw[hcp]at hrun0
 have HRUN:=Lib.hid hrun0
 clear hrun hrun0
 have t0:decide ((n:Int)<0)=false:=decide_eq_false (by omega)
 have t1:decide ((0:Int)<(n:Int))=true:=decide_eq_true (by omega)
 have hcl:([].toArray++Builtin.zeroCells (Value.agg #[.int .i64 0,.string { data:=#[] },.string { data:=#[] },.int .i64 0,.int .i64 0]).cells n++Builtin.zeroCells (Value.agg #[.int .i64 0,.string { data:=#[] },.string { data:=#[] },.int .i64 0,.int .i64 0]).cells (cp - (0+n))).size=cp * 5:=by
  have hge:0+n≤cp:=by rw[← hcp];exact grownCap_ge _ _ _ _
  simp[Builtin.zeroCells,Value.cells]
  omega
 have HE:=Lib.hid (show ∀ W:World,W=w.drew.alloc (.cells ([].toArray++Builtin.zeroCells (Value.agg #[.int .i64 0,.string { data:=#[] },.string { data:=#[] },.int .i64 0,.int .i64 0]).cells n++Builtin.zeroCells (Value.agg #[.int .i64 0,.string { data:=#[] },.string { data:=#[] },.int .i64 0,.int .i64 0]).cells (cp - (0+n))) 50) →
   W.ownsRow w.heap.size 50 5 (.slice (some ⟨w.heap.size,0,none⟩) 0 cp) 0 []∧Below w.heap.size w W from fun W hW=>by
  subst hW
  refine⟨⟨rfl,.inr ⟨w.heap.size,cp,_,rfl,Nat.le_refl _,heap_alloc_new w.drew _,Nat.zero_le _,hcm,hcl,rfl⟩⟩,(Below.refl _ _).drew.alloc (Nat.le_refl _) _⟩)
 clear hcl hcp
 go_enter Tryz.func165,Tryz.ntmps165
 go_wp2_with (at_builtin;refine wpList_append_by _ _ rfl _ _ _ _ rfl _ _ _ rfl rfl (HRUN.out _) ?_;generalize hWW:w.drew.alloc _=WW;have HF:=Lib.hid (HE.out WW hWW.symm);clear hWW)
 go_ret
 exact⟨_,rfl,HF.out.1,HF.out.2⟩
end Go.Proofs.YtlgejmcihchngaaGreatDoor.Ck
namespace Go.Proofs.YtlgejmcihchngaaGreatDoor.Ck
open Go.RowKit Ba Ru
def PartsAt (w:World) (B g:Nat) (parts:List (List Rl)):Prop:=∀ (i:Nat) (p:List Rl),parts[i]?=some p→0<p.length∧∃ A c,w.cell? ⟨g,i,none⟩=some (.slice A p.length c)∧ReadsR 0 w B (.slice A p.length c) p
theorem PartsAt.below {w w':World} {B g:Nat} {parts:List (List Rl)} (h:PartsAt w B g parts) (hb:Below B w w') (hg:g<B):PartsAt w' B g parts:=fun i p hp=>by
 obtain⟨h0,A,c,h1,h2⟩:=h i p hp
 exact⟨h0,A,c,(hb.cell (p:=⟨g,i,none⟩) hg).trans h1,h2.below hb⟩
theorem flat_snoc {parts:List (List Rl)} {k:Nat} {p:List Rl} (hp:parts[k]?=some p):(parts.take (k+1)).flatten=(parts.take k).flatten++p:=by
 rw[List.take_add_one,hp,Option.toList_some,List.flatten_append];simp
theorem flat_le (parts:List (List Rl)) (k:Nat):(parts.take k).flatten.length≤parts.flatten.length:=by
 have e:parts.flatten=(parts.take k).flatten++(parts.drop k).flatten:=by rw[← List.flatten_append,List.take_append_drop]
 rw[e,List.length_append];omega
set_option maxRecDepth 100000 in
set_option maxHeartbeats 4000000 in
theorem concat_at (parts:List (List Rl)) (g c n m:Nat) (hn:parts.length=n) (hn9:n≤100) (hm:parts.flatten.length=m) (hm0:0<m) (hm9:m≤1000) (w:World) (hg:g<w.heap.size) (hp:PartsAt w w.heap.size g parts) :
  Calls Tryz.prog 139 #[.slice (some ⟨g,0,none⟩) n c] w fun e w'=>∃ v,e=.returned v∧w'.ownsRow w.heap.size 50 5 v m (rows cR parts.flatten)∧Below w.heap.size w w':=by
 have HP:=Lib.hid hp
 have HN:=Lib.hid hn
 have HLE:=Lib.hid (show ∀ k,(parts.take k).flatten.length≤m from fun k=>hm▸flat_le parts k)
 have HFL:=Lib.hid hm
 clear hp hn hm
 go_enter Tryz.func139,Tryz.ntmps139
 go_wp2
 go_loopw [3,11] (fun s i wr=>∃ k:Nat,i=.int .i64 (k:Int)∧k≤n∧s=.int .i64 (((parts.take k).flatten.length:Nat):Int)∧wr=w) (fun _ i _=>n - (intOf i).toNat)
 case atStart=>exact⟨0,rfl,Nat.zero_le _,rfl,rfl⟩
 case round =>
  obtain⟨k,rfl,hkn,rfl,rfl⟩:=hrel
  by_cases hlt:k<n
  ·obtain⟨p,hp⟩:∃ p,parts[k]?=some p:=⟨_,List.getElem?_eq_getElem (by rw[HN.out];exact hlt)⟩
   obtain⟨-,A,c',hc,-⟩:=HP.out k p hp
   obtain⟨s,hs⟩:∃ s,(parts.take k).flatten.length=s:=⟨_,rfl⟩
   obtain⟨pl,hpl⟩:∃ s,p.length=s:=⟨_,rfl⟩
   have HNX:=Lib.hid (show (parts.take (k+1)).flatten.length=s+pl by rw[flat_snoc hp,List.length_append,hs,hpl])
   have hsm:s+pl≤m:=by rw[← HNX.out];exact HLE.out (k+1)
   rw[hs]
   rw[hpl]at hc
   have k0:(0:Int)≤(k:Int):=by omega
   have k1:(k:Int)<(n:Int):=by omega
   have t0:decide ((s:Int)+(pl:Int)<0)=false:=decide_eq_false (by omega)
   clear hp hs hpl
   go_wp2
   go_roundw
   case rel=>exact⟨k+1,by go_num,by omega,by rw[HNX.out];go_num,trivial⟩
   case measure=>simp[intOf];omega
  ·have HE:=Lib.hid (show (parts.take k).flatten.length=m from by
    obtain rfl:k=n:=by omega
    rw[List.take_of_length_le (by rw[HN.out];exact Nat.le_refl _)];exact HFL.out)
   have t1:decide ((k:Int)<(n:Int))=false:=decide_eq_false (by omega)
   rw[HE.out]
   go_wp2_with fail
   refine(grow_at m hm0 hm9 _).mono ?_
   rintro e w2 ⟨v2,rfl,own2,hb2⟩
   have HO2:=Lib.hid own2
   have HB2:=Lib.hid hb2
   clear own2 hb2
   obtain⟨W0,rfl⟩:∃ W,W=wr:=⟨_,rfl⟩
   go_wp2
   go_loopw [6,27] (fun v i w3=>∃ j:Nat,i=.int .i64 (j:Int)∧j≤n∧w3.ownsRow W0.heap.size 50 5 v (parts.take j).flatten.length (rows cR (parts.take j).flatten)∧Below W0.heap.size W0 w3) (fun _ i _=>n - (intOf i).toNat)
   case atStart=>exact⟨0,rfl,Nat.zero_le _,HO2.out,HB2.out⟩
   case round =>
    obtain⟨j,rfl,hjn,how,hB3⟩:=hrel
    by_cases hjlt:j<n
    ·obtain⟨p,hp⟩:∃ p,parts[j]?=some p:=⟨_,List.getElem?_eq_getElem (by rw[HN.out];exact hjlt)⟩
     obtain⟨-,A,c',hc,hr⟩:=(HP.out.below hB3 hg) j p hp
     obtain⟨s,hs⟩:∃ s,(parts.take j).flatten.length=s:=⟨_,rfl⟩
     obtain⟨pl,hpl⟩:∃ s,p.length=s:=⟨_,rfl⟩
     have HNX:=Lib.hid (show (parts.take (j+1)).flatten=(parts.take j).flatten++p∧(parts.take (j+1)).flatten.length=s+pl from ⟨flat_snoc hp,by rw[flat_snoc hp,List.length_append,hs,hpl]⟩)
     have hsm:s+pl≤m:=by rw[← HNX.out.2];exact HLE.out (j+1)
     have HSL:=Lib.hid hs
     have HPL:=Lib.hid hpl
     rw[hs]at how
     rw[hpl]at hc hr
     have HOW:=Lib.hid how
     have HBW:=Lib.hid hB3
     have HLT:=Lib.hid how.lt
     have HR:=Lib.hid hr
     have hsz:=hB3.size
     have j0:(0:Int)≤(j:Int):=by omega
     have j1:(j:Int)<(n:Int):=by omega
     obtain⟨A5,c5,rfl,-⟩:=Tu_own_form how
     clear hp hs hpl how hB3 hr
     go_wp2_with (at_builtin;refine wpList_append_more _ rfl _ _ rfl _ rfl W0.heap.size s _ HSL.out HOW.out hsz A pl c' 0 W0.heap.size p rfl HPL.out (by omega) HR.out ?_;intro v' w8 hown' hgrow;have HF:=Lib.hid (show w8.ownsRow W0.heap.size 50 5 v' (parts.take (j+1)).flatten.length (rows cR (parts.take (j+1)).flatten)∧Below W0.heap.size W0 w8 from ⟨by rw[HNX.out.2,HNX.out.1];exact hown',HBW.out.grown hgrow hsz (fun j ej=>(HLT.out j ej).1)⟩);clear hown' hgrow)
     go_roundw
     case rel=>exact⟨j+1,by go_num,by omega,HF.out.1,HF.out.2⟩
     case measure=>simp[intOf];omega
    ·have HE2:=Lib.hid (show wr.ownsRow W0.heap.size 50 5 u6 m (rows cR parts.flatten) from by
      obtain rfl:j=n:=by omega
      rw[List.take_of_length_le (by rw[HN.out];exact Nat.le_refl _),HFL.out]at how
      exact how)
     have HBW:=Lib.hid hB3
     have t2:decide ((j:Int)<(n:Int))=false:=decide_eq_false (by omega)
     clear how hB3
     go_wp2
     go_ret
     exact⟨_,rfl,HE2.out,HBW.out⟩
def lettersS:ByteArray:={ data:=#[97,98,99,100,101,102,103,104,105,106,107,108,109,110,111,112,113,114,115,116,117,118,119,120,121,122] }
def digitsS:ByteArray:={ data:=#[48,49,50,51,52,53,54,55,56,57] }
theorem ascii_of (s:ByteArray) (h:∀ b ∈ s.data.toList,b.toNat<128) (j:Nat) (b:UInt8) (e:s.data.toList[j]?=some b):b.toNat<128:=h b (List.mem_of_getElem? e)
theorem letters_is:((bytesN lettersS).map fun b=>[b])=leftsL:=by decide +kernel
theorem digits_is:((bytesN digitsS).map fun b=>[b])=(List.range 10).map fun i=>[48+i]:=by decide +kernel
theorem marks_is:((bytesN Ka.marksS).map fun b=>[b])=Ka.markL.map fun c=>[c]:=by decide +kernel
theorem own_base {w:World} {B B' e size n:Nat} {v:Value} {xs:List Value} (h:w.ownsRow B e size v n xs) (hb:B'≤B):w.ownsRow B' e size v n xs:=by
 refine⟨h.1,?_⟩
 rcases h.2 with h | ⟨g,cap,cur,h1,h2,h3⟩
 ·exact .inl h
 ·exact .inr ⟨g,cap,cur,h1,Nat.le_trans hb h2,h3⟩
theorem each_len (k:Int) (l:List (List Nat)):(eachR k l).length=l.length:=by unfold eachR;rw[List.length_map]
set_option maxHeartbeats 1000000 in
theorem marks9_at (w:World):Calls Tryz.prog 142 #[] w fun e w'=>e=.returned (.string Ka.marksS)∧w'=w:=by
 go_enter Tryz.func142,Tryz.ntmps142
 go_wp2
 go_ret
 exact⟨rfl,rfl⟩
set_option maxRecDepth 100000 in
set_option maxHeartbeats 8000000 in
theorem wanted_at (w:World) (hL:LaidR w) :
  Calls Tryz.prog 102 #[] w fun e w'=>∃ v,e=.returned v∧w'.ownsRow w.heap.size 50 5 v 61 (rows cR wantR)∧Below w.heap.size w w':=by
 have hLN:=hL.1
 have HL:=Lib.hid hL
 have HSA:=Lib.hid (show ∀ W:World,Calls Tryz.prog 141 #[.string { data:=#[97,98,99,100,101,102,103,104,105,106,107,108,109,110,111,112,113,114,115,116,117,118,119,120,121,122] },.string { data:=#[] }] W fun e w'=>∃ g,e=.returned (.slice (some ⟨g,0,none⟩) 26 26)∧w'.ownsRow W.heap.size 9 1 (.slice (some ⟨g,0,none⟩) 26 26) 26 (rows cS leftsL)∧Below W.heap.size W w' from fun W=>by
  have h:=split_chars lettersS (by decide) (ascii_of _ (by decide +kernel)) W
  rw[letters_is]at h
  exact h)
 have HSM:=Lib.hid (show ∀ W:World,Calls Tryz.prog 141 #[.string Ka.marksS,.string { data:=#[] }] W fun e w'=>∃ g,e=.returned (.slice (some ⟨g,0,none⟩) 12 12)∧w'.ownsRow W.heap.size 9 1 (.slice (some ⟨g,0,none⟩) 12 12) 12 (rows cS (Ka.markL.map fun c=>[c]))∧Below W.heap.size W w' from fun W=>by
  have h:=split_chars Ka.marksS (by decide) (ascii_of _ (by decide +kernel)) W
  rw[marks_is]at h
  exact h)
 have HSD:=Lib.hid (show ∀ W:World,Calls Tryz.prog 141 #[.string { data:=#[48,49,50,51,52,53,54,55,56,57] },.string { data:=#[] }] W fun e w'=>∃ g,e=.returned (.slice (some ⟨g,0,none⟩) 10 10)∧w'.ownsRow W.heap.size 9 1 (.slice (some ⟨g,0,none⟩) 10 10) 10 (rows cS ((List.range 10).map fun i=>[48+i]))∧Below W.heap.size W w' from fun W=>by
  have h:=split_chars digitsS (by decide) (ascii_of _ (by decide +kernel)) W
  rw[digits_is]at h
  exact h)
 clear hL
 obtain⟨M,hM⟩:∃ M,Ka.marksS=M:=⟨_,rfl⟩
 have HMK:=Lib.hid (hM▸marks9_at)
 rw[hM]at HSM
 clear hM
 go_enter Tryz.func102,Tryz.ntmps102
 go_wp2_with fail
 refine(HSA.out _).mono ?_
 rintro e w1 ⟨g1,rfl,own1,hb1⟩
 have HE1:=Lib.hid (each_at 1 leftsL _ g1 26 26 (by decide) (by decide) w1 hb1.size own1)
 have HB1:=Lib.hid hb1
 clear own1 hb1
 go_wp2_with fail
 refine HE1.out.mono ?_
 rintro e w2 ⟨v2,rfl,own2,hb2⟩
 have HB2:=Lib.hid (chain HB1.out HB1.out.size hb2)
 have HV2:=Lib.hid (Reads.of_own (f:=cR) (n:=5) cR_len (by rw[each_len];rfl) own2)
 have hfo2:=own_formR own2
 obtain⟨A2,c2,rfl,-,-,-⟩:=hfo2
 clear own2 hb2 HE1 HB1
 go_wp2_with fail
 refine(HMK.out _).mono ?_
 rintro e w3 ⟨rfl,rfl⟩
 go_wp2_with fail
 refine(HSM.out _).mono ?_
 rintro e w4 ⟨g4,rfl,own4,hb4⟩
 have HE4:=Lib.hid (each_at 6 (Ka.markL.map fun c=>[c]) _ g4 12 12 (by decide) (by decide) w4 hb4.size own4)
 have HB4:=Lib.hid (chain HB2.out HB2.out.size hb4)
 have HV2:=Lib.hid ((HV2.out.below hb4).mono hb4.size)
 clear own4 hb4
 go_wp2_with fail
 refine HE4.out.mono ?_
 rintro e w5 ⟨v5,rfl,own5,hb5⟩
 have HB5:=Lib.hid (chain HB4.out HB4.out.size hb5)
 have HV2:=Lib.hid ((HV2.out.below hb5).mono hb5.size)
 have HV5:=Lib.hid (Reads.of_own (f:=cR) (n:=5) cR_len (by rw[each_len];rfl) own5)
 obtain⟨A5,c5,rfl,-,-,-⟩:=own_formR own5
 clear own5 hb5 HE4 HB4
 go_wp2_with fail
 refine(HSD.out _).mono ?_
 rintro e w6 ⟨g6,rfl,own6,hb6⟩
 have HE6:=Lib.hid (each_at 7 ((List.range 10).map fun i=>[48+i]) _ g6 10 10 (by decide) (by decide) w6 hb6.size own6)
 have HB6:=Lib.hid (chain HB5.out HB5.out.size hb6)
 have HV2:=Lib.hid ((HV2.out.below hb6).mono hb6.size)
 have HV5:=Lib.hid ((HV5.out.below hb6).mono hb6.size)
 clear own6 hb6
 go_wp2_with fail
 refine HE6.out.mono ?_
 rintro e w7 ⟨v7,rfl,own7,hb7⟩
 have HB7:=Lib.hid (chain HB6.out HB6.out.size hb7)
 have HV2:=Lib.hid ((HV2.out.below hb7).mono hb7.size)
 have HV5:=Lib.hid ((HV5.out.below hb7).mono hb7.size)
 have HV7:=Lib.hid (Reads.of_own (f:=cR) (n:=5) cR_len (by rw[each_len];rfl) own7)
 obtain⟨A7,c7,rfl,-,-,-⟩:=own_formR own7
 have HL7:=Lib.hid (HL.out.below HB7.out hLN)
 clear own7 hb7 HE6 HB6
 go_wp2_with fail
 refine(names_at _ HL7.out).mono ?_
 rintro e w8 ⟨v8,rfl,own8,hb8⟩
 obtain⟨g8,c8,rfl,-,-,-⟩:=own_slice own8 (by decide)
 have HE8:=Lib.hid (each_at 8 namesL _ g8 13 c8 (by decide) (by decide) w8 hb8.size own8)
 have HB8:=Lib.hid (chain HB7.out HB7.out.size hb8)
 have HV2:=Lib.hid ((HV2.out.below hb8).mono hb8.size)
 have HV5:=Lib.hid ((HV5.out.below hb8).mono hb8.size)
 have HV7:=Lib.hid ((HV7.out.below hb8).mono hb8.size)
 clear own8 hb8
 go_wp2_with fail
 refine HE8.out.mono ?_
 rintro e w9 ⟨v9,rfl,own9,hb9⟩
 have HB9:=Lib.hid (chain HB8.out HB8.out.size hb9)
 have HV2:=Lib.hid ((HV2.out.below hb9).mono hb9.size)
 have HV5:=Lib.hid ((HV5.out.below hb9).mono hb9.size)
 have HV7:=Lib.hid ((HV7.out.below hb9).mono hb9.size)
 have HV9:=Lib.hid (Reads.of_own (f:=cR) (n:=5) cR_len (by rw[each_len];rfl) own9)
 obtain⟨A9,c9,rfl,-,-,-⟩:=own_formR own9
 clear own9 hb9 HE8 HB8
 have hnew:=(Below.refl w9.heap.size w9).alloc (Nat.le_refl _) (.cells #[.slice A2 26 c2,.slice A5 12 c5,.slice A7 10 c7,.slice A9 13 c9] 22)
 have HCC:=Lib.hid (concat_at [eachR 1 leftsL,eachR 6 (Ka.markL.map fun c=>[c]),eachR 7 ((List.range 10).map fun i=>[48+i]),eachR 8 namesL] w9.heap.size 4 4 61 rfl (by decide) (by decide +kernel) (by decide) (by decide) (w9.alloc (.cells #[.slice A2 26 c2,.slice A5 12 c5,.slice A7 10 c7,.slice A9 13 c9] 22)) (by simp) (fun i p hp=>by
  match i,hp with
  | 0,hp=>cases hp;exact⟨by decide,A2,c2,by simp;rfl,(HV2.out.below hnew).mono hnew.size⟩
  | 1,hp=>cases hp;exact⟨by decide,A5,c5,by simp;rfl,(HV5.out.below hnew).mono hnew.size⟩
  | 2,hp=>cases hp;exact⟨by decide,A7,c7,by simp;rfl,(HV7.out.below hnew).mono hnew.size⟩
  | 3,hp=>cases hp;exact⟨by decide,A9,c9,by simp;rfl,(HV9.out.below hnew).mono hnew.size⟩
  | i+4,hp=>cases hp))
 have HNEW:=Lib.hid hnew
 clear hnew
 go_wp2_with fail
 refine HCC.out.mono ?_
 rintro e w10 ⟨v10,rfl,own10,hb10⟩
 have HO10:=Lib.hid own10
 have HB10:=Lib.hid (chain HB9.out HB9.out.size (chain HNEW.out HNEW.out.size hb10))
 clear own10 hb10
 go_wp2
 go_ret
 refine⟨_,rfl,?_,HB10.out⟩
 rw[want_parts]
 have h:=own_base HO10.out (Nat.le_trans HB9.out.size (show w9.heap.size≤(w9.alloc (.cells #[.slice A2 26 c2,.slice A5 12 c5,.slice A7 10 c7,.slice A9 13 c9] 22)).heap.size from HNEW.out.size))
 rw[show [eachR 1 leftsL,eachR 6 (Ka.markL.map fun c=>[c]),eachR 7 ((List.range 10).map fun i=>[48+i]),eachR 8 namesL].flatten=eachR 1 leftsL++(eachR 6 (Ka.markL.map fun c=>[c])++(eachR 7 ((List.range 10).map fun i=>[48+i])++eachR 8 namesL)) from by simp only[List.flatten_cons,List.flatten_nil,List.append_nil]]at h
 exact h
end Go.Proofs.YtlgejmcihchngaaGreatDoor.Ck
