/-
  Put together: ClA, PaG.
-/
import Derived.Test.YtlgejmcihchngaaGreatDoorHcA
import Derived.Test.YtlgejmcihchngaaGreatDoorVa
import Derived.Lib.ConvBytes
import Derived.Laws.IdiomStrings
import Derived.Maps.AppendAt
import Derived.OwnWalk
import Derived.BigQuiet
import Derived.Test.YtlgejmcihchngaaGreatDoorSj
import Derived.Test.YtlgejmcihchngaaGreatDoorQc
import Derived.Test.YtlgejmcihchngaaGreatDoorUm
namespace Go.Proofs.YtlgejmcihchngaaGreatDoor.Cl
open Go.RowKit Hc
theorem clsN_le (n:Nat):clsN n≤6:=by
 unfold clsN;repeat' split
 all_goals omega
theorem cls_cases (c:Int):cls c=0∨cls c=1∨cls c=2∨cls c=3∨cls c=4∨cls c=5∨cls c=6:=by
 have:=clsN_le c.toNat;unfold cls;omega
theorem ret_bool {a b:Bool} (h:a=b):Ending.returned (.bool a)=.returned (.bool b):=by rw[h]
def letterB (c:Int):Bool:=decide (cls c=1∨cls c=2)
def lowerI (c:Int):Int:=if cls c=2 then c+32 else c
theorem cls_eq_all:∀ n:Fin 256,Ka.cls (n.val:Int)=Hc.cls (n.val:Int):=by decide +kernel
theorem rclass_any (c:Int) (h0:0≤c) (h1:c<256) (w:World) :
  Calls Tryz.prog 58 #[.int .u8 c] w fun e w'=>e=.returned (.int .i64 (cls c))∧w=w':=by
 have h:=Ka.rclass_any c h0 h1 w
 obtain⟨n,rfl⟩:=Int.eq_ofNat_of_zero_le h0
 have e:=cls_eq_all ⟨n,by omega⟩
 simp only[]at e
 rw[e]at h
 exact h
theorem rclass_at (c k:Int) (h0:0≤c) (h1:c<256) (hk:cls c=k) (w:World) :
  Calls Tryz.prog 58 #[.int .u8 c] w fun e w'=>e=.returned (.int .i64 k)∧w=w':=hk▸rclass_any c h0 h1 w
set_option maxHeartbeats 1000000 in
theorem rletter_any (c:Int) (h0:0≤c) (h1:c<256) (w:World) :
  Calls Tryz.prog 85 #[.int .u8 c] w fun e w'=>e=.returned (.bool (letterB c))∧w=w':=by
 rcases cls_cases c with h | h | h | h | h | h | h
 all_goals
  have hB:=Lib.hid (show letterB c=_ from by unfold letterB;rw[h])
  have HK:=Lib.hid h;clear h
  go_enter Tryz.func85,Tryz.ntmps85
  go_wp2_with (go_at_call 58;refine(rclass_at c _ h0 h1 HK.out w).mono ?_;rintro e w' ⟨rfl,rfl⟩)
  go_ret
  exact⟨ret_bool hB.out.symm,rfl⟩
theorem cls_two:∀ n:Fin 256,cls (n.val:Int)=2→65≤n.val∧n.val≤90:=by decide +kernel
theorem two_range (c:Int) (h0:0≤c) (h1:c<256) (h:cls c=2):65≤c∧c≤90:=by
 obtain⟨n,rfl⟩:=Int.eq_ofNat_of_zero_le h0
 have:=cls_two ⟨n,by omega⟩ h
 simp only[]at this;omega
set_option maxHeartbeats 1000000 in
theorem rlower_any (c:Int) (h0:0≤c) (h1:c<256) (w:World) :
  Calls Tryz.prog 84 #[.int .u8 c] w fun e w'=>e=.returned (.int .u8 (lowerI c))∧w=w':=by
 by_cases h:cls c=2
 ·obtain⟨b1,b2⟩:=two_range c h0 h1 h
  have hB:=Lib.hid (show c - 65+97=lowerI c from by unfold lowerI;rw[if_pos h];omega)
  have HK:=Lib.hid h;clear h
  go_enter Tryz.func84,Tryz.ntmps84
  go_wp2_with (go_at_call 58;refine(rclass_at c _ h0 h1 HK.out w).mono ?_;rintro e w' ⟨rfl,rfl⟩)
  go_ret
  exact⟨ret_int hB.out,rfl⟩
 ·have hB:=Lib.hid (show lowerI c=c from by unfold lowerI;rw[if_neg h])
  have hd:(cls c==2)=false:=by simpa using h
  clear h
  go_enter Tryz.func84,Tryz.ntmps84
  go_wp2_with (go_at_call 58;refine(rclass_any c h0 h1 w).mono ?_;rintro e w' ⟨rfl,rfl⟩)
  go_ret
  exact⟨ret_int hB.out.symm,rfl⟩
def lowB (b:UInt8):UInt8:=if clsN b.toNat=2 then b+32 else b
theorem lowB_all:∀ n:Fin 256,((lowB (UInt8.ofNat n.val)).toNat:Int)=lowerI (n.val:Int):=by decide +kernel
theorem lowB_toNat (b:UInt8):((lowB b).toNat:Int)=lowerI (b.toNat:Int):=by
 have h:=lowB_all ⟨b.toNat,UInt8.toNat_lt b⟩
 simp only[UInt8.ofNat_toNat]at h
 exact h
def lowL (s:ByteArray):List UInt8:=s.data.toList.map lowB
def lowS (s:ByteArray):ByteArray:=⟨(lowL s).toArray⟩
theorem lowL_length (s:ByteArray):(lowL s).length=s.size:=by simp[lowL]
theorem lowS_size (s:ByteArray):(lowS s).size=s.size:=by
 show (lowL s).toArray.size=s.size
 simp[lowL]
theorem lowL_get (s:ByteArray) (j:Nat) (hj:j<(lowL s).length):((lowL s)[j].toNat:Int)=lowerI (bAt s j):=by
 have hj':j<s.data.toList.length:=by simpa[lowL] using hj
 have e:(lowL s)[j]=lowB s.data.toList[j]:=by simp[lowL]
 rw[e,lowB_toNat]
 unfold bAt
 rw[List.getD_eq_getElem?_getD,List.getElem?_eq_getElem hj']
 rfl
theorem infoByte:(Tryz.prog.info? 5).map (fun i=>(i.zero,i.size,i.bytes))=some (some (.int .u8 0),1,1):=by kernel_rfl
def lowCells (s:ByteArray) (k:Nat):List Value:=(List.range k).map fun j=>.int .u8 (lowerI (bAt s j))
theorem lowCells_succ (s:ByteArray) (k:Nat):lowCells s (k+1)=lowCells s k++[.int .u8 (lowerI (bAt s k))]:=by simp[lowCells,List.range_succ]
theorem lowCells_at (s:ByteArray) (k j:Nat) (hj:j<k):(lowCells s k)[j]?=some (.int .u8 (lowerI (bAt s j))):=by simp[lowCells,hj]
set_option maxHeartbeats 1000000 in
theorem rlow_any (s:ByteArray) (hs:s.size≤2000) (w:World) :
  Calls Tryz.prog 44 #[.string s] w fun e w'=>e=.returned (.string (lowS s))∧Below w.heap.size w w':=by
 obtain⟨i0,hi,hz0,hz1,hz2⟩:=info_parts infoByte
 go_enter Tryz.func44,Tryz.ntmps44
 go_wp2
 go_loopw [3,4] (fun v i wr=>∃ k:Nat,k≤s.size∧i=.int .i64 k∧wr.ownsRow w.heap.size 5 1 v k (lowCells s k)∧Below w.heap.size w wr) (fun _ i _=>s.size - (intOf i).toNat)
 case atStart=>exact⟨0,by omega,rfl,World.ownsRow_nil _ _ _ _,Below.refl _ _⟩
 case round =>
  obtain⟨k,hk,rfl,hown,hB⟩:=hrel
  have hsz:=hB.size
  by_cases hlt:k<s.size
  ·have E1:=bAt_get s k hlt
   obtain⟨b0,b1⟩:=bAt_lt s k
   go_wp2_with (first
    |(go_at_call 84;refine(rlower_any (bAt s k) b0 b1 _).mono ?_;rintro e w' ⟨rfl,rfl⟩)
    |(at_builtin;refine wpList_append_own _ rfl _ _ 52 rfl w.heap.size 5 i0 (.int .u8 0) 1 1 Tryz.underlying52 hi hz0 hz1 hz2 rfl (by decide) _ _ _ rfl (hown.alloc _) ⟨wr.heap.size,0,none⟩ 1 1 [.int .u8 (lowerI (bAt s k))] rfl rfl (cell_one_new _ _ _) (by simp[Value.oneCell']) (by unfold maxLen;omega) (by omega) (by simp;omega) ?_;intro v' w1 hown' hgrow _))
   have hB2:Below w.heap.size w w1:=(hB.alloc (by omega) _).grown hgrow (by simp;omega) (fun j ej=>((hown.lt) j ej).1)
   exact⟨⟨k+1,by omega,by go_num,by rw[lowCells_succ];exact hown',hB2⟩,by simp[intOf];omega⟩
  ·obtain rfl:k=s.size:=by omega
   rcases hown.2 with⟨rfl,h0⟩ | ⟨g,cap,cur,rfl,_⟩
   ·have hl:lowS s=ByteArray.empty:=ByteArray.size_eq_zero_iff.1 (by rw[lowS_size];exact h0)
    have HL:=Lib.hid hl;clear hl
    have hback:=run_convert_bytes_nil (P:=Tryz.prog) wr 52 5 Tryz.underlying52 Tryz.underlying5 0 0 9 Tryz.underlying9
    clear h0
    go_wp2
    go_ret
    exact⟨congrArg (fun z=>Ending.returned (.string z)) HL.out.symm,hB⟩
   ·have hback:=run_convert_bytes_back (P:=Tryz.prog) wr 52 9 5 ⟨g,0,none⟩ cap (lowL s) Tryz.underlying52 Tryz.underlying5 Tryz.underlying9 (fun j hj=>by
     have hj':j<s.size:=by rw[← lowL_length];exact hj
     rw[lowL_get s j hj]
     have e:(⟨g,0,none⟩:Addr).add j=⟨g,j,none⟩:=by unfold Addr.add;split<;>simp_all
     rw[e,hown.cellAt j (by omega)]
     exact lowCells_at s s.size j hj')
    rw[lowL_length]at hback
    go_wp2
    go_ret
    exact⟨rfl,hB⟩
theorem rclass_byte (s:ByteArray) (k:Nat) (h:k<s.size) (v:Int) (hv:kc s k=v) (w:World) :
  Calls Tryz.prog 58 #[.int .u8 ((s[k].toNat:Nat):Int)] w fun e w'=>e=.returned (.int .i64 v)∧w=w':=by
 have hb:=bAt_lt s k
 rw[bAt_get s k h]
 exact rclass_at _ v hb.1 hb.2 hv w
theorem rletter_byte (s:ByteArray) (k:Nat) (h:k<s.size) (v:Bool) (hv:letterB (bAt s k)=v) (w:World) :
  Calls Tryz.prog 85 #[.int .u8 ((s[k].toNat:Nat):Int)] w fun e w'=>e=.returned (.bool v)∧w=w':=by
 have hb:=bAt_lt s k
 rw[bAt_get s k h,← hv]
 exact rletter_any _ hb.1 hb.2 w
set_option maxHeartbeats 2000000 in
theorem rcase_any (s:ByteArray) (hs:s.size≤2000) (w:World) :
  Calls Tryz.prog 45 #[.string s] w fun e w'=>e=.returned (.int .i64 (caseI s))∧w=w':=by
 go_enter Tryz.func45,Tryz.ntmps45
 go_wp2
 go_loop [3,4] (fun u i=>∃ k:Nat,k≤s.size∧i=.int .i64 k∧u=.int .i64 ((up s k:Nat):Int)∧allL s k) (fun _ i=>s.size - (intOf i).toNat)
 case atStart=>exact⟨0,by omega,rfl,rfl,fun j hj=>absurd hj (by omega)⟩
 case round =>
  obtain⟨k,hk,rfl,rfl,hal⟩:=hrel
  have hul:=up_le s k
  by_cases hlt:k<s.size
  ·by_cases h2:kc s k=2
   ·have L4:=Lib.hid (show letterB (bAt s k)=true by unfold letterB;unfold kc at h2;simp[h2])
    have hal':allL s (k+1):=fun j hj=>by
     rcases Nat.lt_or_ge j k with h3 | h3
     ·exact hal j h3
     ·have e:j=k:=by omega
      rw[e];exact .inr h2
    have HU:=Lib.hid (show up s (k+1)=up s k+1 by rw[up,if_pos h2])
    have HK:=Lib.hid h2;clear h2
    go_wp2_with (first
     |(go_at_call 85;refine(rletter_byte s k hlt true L4.out _).mono ?_;rintro e w' ⟨rfl,rfl⟩)
     |(go_at_call 58;refine(rclass_byte s k hlt 2 HK.out _).mono ?_;rintro e w' ⟨rfl,rfl⟩))
    exact⟨⟨k+1,by omega,by go_num,by rw[HU.out];go_num,hal'⟩,by simp[intOf];omega⟩
   ·by_cases h1:kc s k=1
    ·have L4:=Lib.hid (show letterB (bAt s k)=true by unfold letterB;unfold kc at h1;simp[h1])
     have hal':allL s (k+1):=fun j hj=>by
      rcases Nat.lt_or_ge j k with h3 | h3
      ·exact hal j h3
      ·have e:j=k:=by omega
       rw[e];exact .inl h1
     have HU:=Lib.hid (show up s (k+1)=up s k by rw[up,if_neg h2];omega)
     have HK:=Lib.hid h1;clear h2 h1
     go_wp2_with (first
      |(go_at_call 85;refine(rletter_byte s k hlt true L4.out _).mono ?_;rintro e w' ⟨rfl,rfl⟩)
      |(go_at_call 58;refine(rclass_byte s k hlt 1 HK.out _).mono ?_;rintro e w' ⟨rfl,rfl⟩))
     exact⟨⟨k+1,by omega,by go_num,by rw[HU.out],hal'⟩,by simp[intOf];omega⟩
    ·have L4:=Lib.hid (show letterB (bAt s k)=false by unfold letterB;unfold kc at h1 h2;simp[h1,h2])
     have HV:=Lib.hid (caseI_no s (fun h=>(h k hlt).elim h1 h2))
     clear h1 h2
     go_wp2_with (go_at_call 85;refine(rletter_byte s k hlt false L4.out _).mono ?_;rintro e w' ⟨rfl,rfl⟩)
     go_ret
     exact⟨ret_int HV.out.symm,rfl⟩
  ·obtain rfl:k=s.size:=by omega
   have HV:=Lib.hid (caseI_yes s hal)
   by_cases h0:s.size=0
   ·have HX:=Lib.hid (show (0:Int)=caseI s by unfold caseI;rw[if_pos h0])
    have b0:(((s.size:Nat):Int)==0)=true:=by rw[h0];rfl
    clear h0
    go_wp2
    go_ret
    exact⟨ret_int HX.out,rfl⟩
   have b0:(((s.size:Nat):Int)==0)=false:=by simp;exact fun e=>h0 (by rw[e];rfl)
   have hpos:0<s.size:=by omega
   obtain⟨u,hu⟩:∃ u,up s s.size=u:=⟨_,rfl⟩
   rw[hu]at HV hul ⊢
   clear hu
   by_cases u0:u=0
   ·have HX:=Lib.hid (show (1:Int)=caseI s by rw[HV.out];unfold caseV;rw[if_neg h0,if_pos u0])
    have b1:(((u:Nat):Int)==0)=true:=by rw[u0];rfl
    clear u0 h0
    go_wp2
    go_ret
    exact⟨ret_int HX.out,rfl⟩
   have b1:(((u:Nat):Int)==0)=false:=by simp;omega
   by_cases u1:u=1
   ·have b2:(((u:Nat):Int)==1)=true:=by rw[u1];rfl
    by_cases hc:kc s 0=2
    ·have HX:=Lib.hid (show (2:Int)=caseI s by rw[HV.out];unfold caseV;rw[if_neg h0,if_neg u0,if_pos ⟨u1,hc⟩])
     have HC:=Lib.hid hc
     clear hc u1 u0 h0
     go_wp2_with (go_at_call 58;refine(rclass_byte s 0 hpos _ HC.out _).mono ?_;rintro e w' ⟨rfl,rfl⟩)
     go_ret
     exact⟨ret_int HX.out,rfl⟩
    ·have hb:(kc s 0==2)=false:=by simpa using hc
     by_cases h1:u=s.size
     ·have HX:=Lib.hid (show (3:Int)=caseI s by rw[HV.out];unfold caseV;rw[if_neg h0,if_neg u0,if_neg (fun h=>hc h.2),if_pos h1])
      have b3:(((u:Nat):Int)==((s.size:Nat):Int))=true:=by rw[h1];simp
      clear hc u1 u0 h0 h1
      go_wp2_with (go_at_call 58;refine(rclass_byte s 0 hpos _ rfl _).mono ?_;rintro e w' ⟨rfl,rfl⟩)
      go_ret
      exact⟨ret_int HX.out,rfl⟩
     ·have HX:=Lib.hid (show (4:Int)=caseI s by rw[HV.out];unfold caseV;rw[if_neg h0,if_neg u0,if_neg (fun h=>hc h.2),if_neg h1])
      have b3:(((u:Nat):Int)==((s.size:Nat):Int))=false:=by simp;omega
      clear hc u1 u0 h0 h1
      go_wp2_with (go_at_call 58;refine(rclass_byte s 0 hpos _ rfl _).mono ?_;rintro e w' ⟨rfl,rfl⟩)
      go_ret
      exact⟨ret_int HX.out,rfl⟩
   ·have b2:(((u:Nat):Int)==1)=false:=by simp;omega
    by_cases h1:u=s.size
    ·have HX:=Lib.hid (show (3:Int)=caseI s by rw[HV.out];unfold caseV;rw[if_neg h0,if_neg u0,if_neg (fun h=>u1 h.1),if_pos h1])
     have b3:(((u:Nat):Int)==((s.size:Nat):Int))=true:=by rw[h1];simp
     clear u1 u0 h0 h1
     go_wp2
     go_ret
     exact⟨ret_int HX.out,rfl⟩
    ·have HX:=Lib.hid (show (4:Int)=caseI s by rw[HV.out];unfold caseV;rw[if_neg h0,if_neg u0,if_neg (fun h=>u1 h.1),if_neg h1])
     have b3:(((u:Nat):Int)==((s.size:Nat):Int))=false:=by simp;omega
     clear u1 u0 h0 h1
     go_wp2
     go_ret
     exact⟨ret_int HX.out,rfl⟩
end Go.Proofs.YtlgejmcihchngaaGreatDoor.Cl
namespace Go.Proofs.YtlgejmcihchngaaGreatDoor.Pa
open Go.RowKit Ba Ru Ck Ti
theorem elig_no {x:Rl} {s:List Nat} {p most:Int} (h:¬ (runB s=true∧0≤p∧p<s.length∧x.left≠[]∧(x.left.length:Int)≤most∧x.left <+: s.drop p.toNat∧whatB x s p=true)):false=eligB x s p most:=by
 cases hb:eligB x s p most with
 | false=>rfl
 | true=>exact absurd (elig_parts hb) h
theorem elig_what {x:Rl} {s:List Nat} {p most:Int} (h1:runB s=true) (h2:0≤p) (h3:p<s.length) (h4:x.left≠[]) (h5:(x.left.length:Int)≤most) (h6:x.left <+: s.drop p.toNat):eligB x s p most=whatB x s p:=by
 unfold eligB
 rw[h1,decide_eq_true (p:=0≤p∧p<(s.length:Int)) ⟨h2,h3⟩,decide_eq_true (p:=x.left≠[]∧(x.left.length:Int)≤most) ⟨h4,h5⟩,List.isPrefixOf_iff_prefix.2 h6]
 rfl
theorem ext_pre {S X:ByteArray} {p:Nat} (_h:p+X.size≤S.size):S.extract p (p+X.size)=X↔bytesN X <+: (bytesN S).drop p:=by
 have hx:(bytesN X).length=X.size:=bytesN_len X
 have e:=bytesN_ext S p (p+X.size)
 rw[show p+X.size - p=X.size by omega]at e
 constructor
 ·intro k
  rw[k]at e
  rw[e]
  exact List.take_prefix _ _
 ·intro k
  have:=List.prefix_iff_eq_take.1 k
  rw[hx,← e]at this
  rw[← bytesOf_bytesN (S.extract p (p+X.size)),← this,bytesOf_bytesN]
theorem rrun_any (S:ByteArray) (hS:S.size≤2000) (r:Bool) (hr:runB (bytesN S)=r) (w:World) :
  Calls Tryz.prog 123 #[.string S] w fun e w'=>e=.returned (.bool r)∧w=w':=by
 have HV:=Lib.hid (show (Hc.caseI S==1)=r from by
  rw[← hr,Bool.eq_iff_iff,beq_iff_eq]
  exact case_run S)
 clear hr
 obtain⟨ci,hci⟩:∃ ci,Hc.caseI S=ci:=⟨_,rfl⟩
 have HC:=Lib.hid (hci▸Cl.rcase_any S hS w)
 rw[hci]at HV
 clear hci
 have HV2:=HV.out
 go_enter Tryz.func123,Tryz.ntmps123
 go_wp2_with fail
 refine HC.out.mono ?_
 rintro e w' ⟨rfl,rfl⟩
 go_wp2
 go_ret
 exact⟨rfl,rfl⟩
set_option maxRecDepth 100000 in
set_option maxHeartbeats 4000000 in
theorem relig_any (x:Rl) (hf:FitR x) (hx9:x.left.length≤9000) (S:ByteArray) (p most:Int) (hS:S.size≤2000) (hp:I64 p) (_hmost:I64 most) (w:World) :
  Calls Tryz.prog 124 #[aggR x,.string S,.int .i64 p,.int .i64 most] w fun e w'=>e=.returned (.bool (eligB x (bytesN S) p most))∧Below w.heap.size w w':=by
 obtain⟨r,hr⟩:∃ r,runB (bytesN S)=r:=⟨_,rfl⟩
 have HRN:=Lib.hid (fun(W:World)=>rrun_any S hS r hr W)
 have hsl:=bytesN_len S
 obtain⟨X,hX⟩:∃ X,bytesOf x.left=X:=⟨_,rfl⟩
 obtain⟨xt,hT⟩:∃ X,bytesOf x.cells=X:=⟨_,rfl⟩
 have hxN:bytesN X=x.left:=by rw[← hX];exact bytesN_bytesOf _ hf.2.2.2.1
 have hxs:X.size=x.left.length:=by rw[← hX];exact bytesOf_size _
 have HNO:=Lib.hid (fun(h:¬ (r=true∧0≤p∧p<S.size∧X.size≠0∧(X.size:Int)≤most∧bytesN X <+: (bytesN S).drop p.toNat∧whatB x (bytesN S) p=true))=>elig_no (x:=x) (s:=bytesN S) (p:=p) (most:=most) fun k=>h ⟨hr▸k.1,k.2.1,by rw[← hsl];exact k.2.2.1,by rw[hxs];exact fun e=>k.2.2.2.1 (List.length_eq_zero_iff.1 e),by rw[hxs];exact k.2.2.2.2.1,by rw[hxN];exact k.2.2.2.2.2.1,k.2.2.2.2.2.2⟩)
 have HYS:=Lib.hid (fun(h1:r=true) (h2:0≤p) (h3:p<S.size) (h4:X.size≠0) (h5:(X.size:Int)≤most) (h6:bytesN X <+: (bytesN S).drop p.toNat)=>elig_what (x:=x) (s:=bytesN S) (p:=p) (most:=most) (hr.trans h1) h2 (by rw[hsl];exact h3) (fun e=>h4 (by rw[hxs,e];rfl)) (by rw[← hxs];exact h5) (by rw[← hxN];exact h6))
 obtain⟨ev,hev⟩:∃ ev,eligB x (bytesN S) p most=ev:=⟨_,rfl⟩
 rw[hev]at HNO HYS ⊢
 have HWB:=Lib.hid (show whatB x (bytesN S) p=decide (x.what=1∨x.what=2∧p=0∨x.what=3∧p≠0∨x.what=4∧p≠0∧p+X.size=S.size) from by
  unfold whatB
  rw[hxs,hsl])
 obtain⟨wb,hwb⟩:∃ wb,whatB x (bytesN S) p=wb:=⟨_,rfl⟩
 rw[hwb]at HNO HYS HWB
 obtain⟨xq,xl,xc,xp,xn⟩:=x
 simp only[]at hX hT hxs HWB hx9
 simp only[aggR]
 rw[hX,hT]
 rw[← hxs]at hx9
 clear hX hT hf hxN hxs hr hev hwb hsl
 go_enter Tryz.func124,Tryz.ntmps124
 go_upto_region 1 with fail
 have hx0:=BoxS.new w xq X xt xp xn 50
 have hw0:=(Below.refl w.heap.size w).alloc (Nat.le_refl _) (.cells #[.int .i64 xq,.string X,.string xt,.int .i64 xp,.int .i64 xn] 50)
 generalize w.alloc _=w1 at hx0 hw0 ⊢
 obtain⟨b,hb⟩:∃ n,w.heap.size=n:=⟨_,rfl⟩
 have HBB:=Lib.hid hb
 have HBX:=Lib.hid (show ∀ W:World,Below w1.heap.size w1 W→BoxS W b xq X xt xp xn∧Below w.heap.size w W from fun W hW=>⟨hb▸hx0.kept hW,chain hw0 hw0.size hW⟩)
 rw[hb]at hx0 ⊢
 obtain⟨x0,x1,x2,x3,x4,x5⟩:=hx0
 have HE:=Lib.hid hw0
 rw[hb]at hw0
 clear hb hw0
 cases r
 case false =>
  have HV:=Lib.hid (HNO.out fun h=>Bool.false_ne_true h.1)
  go_wp2_with fail
  refine(HRN.out _).mono ?_
  rintro e w' ⟨rfl,rfl⟩
  go_wp2
  go_ret
  rw[← HV.out,HBB.out]
  exact⟨rfl,HBB.out▸HE.out⟩
 case true =>
 by_cases f1:p<0
 ·have t1:decide (p<0)=true:=decide_eq_true f1
  have HV:=Lib.hid (HNO.out fun h=>by have:=h.2.1;omega)
  go_wp2_with fail
  refine(HRN.out _).mono ?_
  rintro e w' ⟨rfl,rfl⟩
  go_wp2
  go_ret
  rw[← HV.out]
  exact⟨rfl,HBB.out▸HE.out⟩
 have t1:decide (p<0)=false:=decide_eq_false f1
 by_cases f2:(S.size:Int)≤p
 ·have t2:decide ((S.size:Int)≤p)=true:=decide_eq_true f2
  have HV:=Lib.hid (HNO.out fun h=>by have:=h.2.2.1;omega)
  go_wp2_with fail
  refine(HRN.out _).mono ?_
  rintro e w' ⟨rfl,rfl⟩
  go_wp2
  go_ret
  rw[← HV.out]
  exact⟨rfl,HBB.out▸HE.out⟩
 obtain⟨p,rfl⟩:∃ n:Nat,p=(n:Int):=⟨p.toNat,by omega⟩
 rw[Int.toNat_natCast]at HNO HYS
 have t2:decide ((S.size:Int)≤(p:Int))=false:=decide_eq_false f2
 have t2':decide (S.size≤p)=false:=decide_eq_false (by omega)
 have t3:IntKind.i64.wrap ((S.size:Int) - (p:Int))=(S.size:Int) - (p:Int):=IntWalk.i64_in _ ⟨by omega,by omega⟩
 have t4:IntKind.i64.wrap ((p:Int)+(X.size:Int))=(p:Int)+(X.size:Int):=IntWalk.i64_in _ ⟨by omega,by omega⟩
 go_wp2_with fail
 refine(HRN.out _).mono ?_
 rintro e w' ⟨rfl,rfl⟩
 go_wp2_with fail
 by_cases f3:X.size=0
 ·have u1:((X.size:Int)==0)=true:=beq_iff_eq.2 (by omega)
  have u1':(X.size==0)=true:=beq_iff_eq.2 f3
  have HV:=Lib.hid (HNO.out fun h=>h.2.2.2.1 f3)
  have hS:=(HBX.out _ (Below.refl _ _).drew)
  refine wp_region_held_drew (S:=fun W=>BoxS W b xq X xt xp xn∧Below w.heap.size w W) (by kernel_rfl) hS (fun hHeld=>?_)
  refine wpAnyH_take (i:=0) (v:=?_) (by simp only[List.getElem?_toArray,List.getElem?_cons_zero];rfl) (by kernel_rfl) (by kernel_rfl) (by kernel_rfl) (by exact fun _ _ _ h=>h) (Or.inl ⟨by rfl,?_⟩) (by with_reducible exact hS) ?_
  rotate_left
  ·intro W hSw;(obtain⟨⟨x0,x1,x2,x3,x4,x5⟩,-⟩:=hSw);go_simp;all_goals (with_reducible rfl)
  try simp only[Act.put,List.setIfInBounds_toArray,List.set_cons_zero,List.set_cons_succ]
  refine wpAnyH_take (i:=1) (v:=?_) (by simp only[List.getElem?_toArray,List.getElem?_cons_succ,List.getElem?_cons_zero];rfl) (by kernel_rfl) (by kernel_rfl) (by kernel_rfl) (by exact fun _ _ _ h=>h) (Or.inl ⟨by rfl,?_⟩) (by with_reducible exact hS) ?_
  rotate_left
  ·intro W hSw;(obtain⟨⟨x0,x1,x2,x3,x4,x5⟩,-⟩:=hSw);go_simp;all_goals (with_reducible rfl)
  try simp only[Act.put,List.setIfInBounds_toArray,List.set_cons_zero,List.set_cons_succ]
  refine wpAnyH_take (i:=2) (v:=?_) (by simp only[List.getElem?_toArray,List.getElem?_cons_succ,List.getElem?_cons_zero];rfl) (by kernel_rfl) (by kernel_rfl) (by kernel_rfl) (by exact fun _ _ _ h=>h) (Or.inl ⟨by rfl,?_⟩) (by with_reducible exact hS) ?_
  rotate_left
  ·intro W hSw;(obtain⟨⟨x0,x1,x2,x3,x4,x5⟩,-⟩:=hSw);go_simp;all_goals (with_reducible rfl)
  try simp only[Act.put,List.setIfInBounds_toArray,List.set_cons_zero,List.set_cons_succ]
  refine Rg.take_un 3 (by simp only[List.getElem?_toArray,List.getElem?_cons_succ,List.getElem?_cons_zero];rfl) (by kernel_rfl) (by kernel_rfl) (by kernel_rfl) (by exact fun _ _ _ h=>h) (by rfl) (by with_reducible exact hS) ?_
  try simp only[Act.put,List.setIfInBounds_toArray,List.set_cons_zero,List.set_cons_succ]
  refine Rg.take_un 4 (by simp only[List.getElem?_toArray,List.getElem?_cons_succ,List.getElem?_cons_zero];rfl) (by kernel_rfl) (by kernel_rfl) (by kernel_rfl) (by exact fun _ _ _ h=>h) (by rfl) (by with_reducible exact hS) ?_
  try simp only[Act.put,List.setIfInBounds_toArray,List.set_cons_zero,List.set_cons_succ]
  refine Rg.take_un 5 (by simp only[List.getElem?_toArray,List.getElem?_cons_succ,List.getElem?_cons_zero];rfl) (by kernel_rfl) (by kernel_rfl) (by kernel_rfl) (by exact fun _ _ _ h=>h) (by rfl) (by with_reducible exact hS) ?_
  try simp only[Act.put,List.setIfInBounds_toArray,List.set_cons_zero,List.set_cons_succ]
  refine wpAnyH_take (i:=6) (v:=?_) (by simp only[List.getElem?_toArray,List.getElem?_cons_succ,List.getElem?_cons_zero];rfl) (by kernel_rfl) (by kernel_rfl) (by kernel_rfl) (by exact fun _ _ _ h=>h) (Or.inl ⟨by rfl,?_⟩) (by with_reducible exact hS) ?_
  rotate_left
  ·intro W hSw;(obtain⟨⟨x0,x1,x2,x3,x4,x5⟩,-⟩:=hSw);go_simp;all_goals (with_reducible rfl)
  try simp only[Act.put,List.setIfInBounds_toArray,List.set_cons_zero,List.set_cons_succ]
  refine wpAnyH_take (i:=7) (v:=?_) (by simp only[List.getElem?_toArray,List.getElem?_cons_succ,List.getElem?_cons_zero];rfl) (by kernel_rfl) (by kernel_rfl) (by kernel_rfl) (by exact fun _ _ _ h=>h) (Or.inl ⟨by rfl,?_⟩) (by with_reducible exact hS) ?_
  rotate_left
  ·intro W hSw;(obtain⟨⟨x0,x1,x2,x3,x4,x5⟩,-⟩:=hSw);go_simp;all_goals (with_reducible rfl)
  try simp only[Act.put,List.setIfInBounds_toArray,List.set_cons_zero,List.set_cons_succ]
  refine Rg.take_un 8 (by simp only[List.getElem?_toArray,List.getElem?_cons_succ,List.getElem?_cons_zero];rfl) (by kernel_rfl) (by kernel_rfl) (by kernel_rfl) (by exact fun _ _ _ h=>h) (by rfl) (by with_reducible exact hS) ?_
  try simp only[Act.put,List.setIfInBounds_toArray,List.set_cons_zero,List.set_cons_succ]
  refine Rg.take_un 9 (by simp only[List.getElem?_toArray,List.getElem?_cons_succ,List.getElem?_cons_zero];rfl) (by kernel_rfl) (by kernel_rfl) (by kernel_rfl) (by exact fun _ _ _ h=>h) (by rfl) (by with_reducible exact hS) ?_
  try simp only[Act.put,List.setIfInBounds_toArray,List.set_cons_zero,List.set_cons_succ]
  refine Rg.take_un 10 (by simp only[List.getElem?_toArray,List.getElem?_cons_succ,List.getElem?_cons_zero];rfl) (by kernel_rfl) (by kernel_rfl) (by kernel_rfl) (by exact fun _ _ _ h=>h) (by rfl) (by with_reducible exact hS) ?_
  try simp only[Act.put,List.setIfInBounds_toArray,List.set_cons_zero,List.set_cons_succ]
  refine Rg.take_un 11 (by simp only[List.getElem?_toArray,List.getElem?_cons_succ,List.getElem?_cons_zero];rfl) (by kernel_rfl) (by kernel_rfl) (by kernel_rfl) (by exact fun _ _ _ h=>h) (by rfl) (by with_reducible exact hS) ?_
  try simp only[Act.put,List.setIfInBounds_toArray,List.set_cons_zero,List.set_cons_succ]
  refine Rg.take_un 12 (by simp only[List.getElem?_toArray,List.getElem?_cons_succ,List.getElem?_cons_zero];rfl) (by kernel_rfl) (by kernel_rfl) (by kernel_rfl) (by exact fun _ _ _ h=>h) (by rfl) (by with_reducible exact hS) ?_
  try simp only[Act.put,List.setIfInBounds_toArray,List.set_cons_zero,List.set_cons_succ]
  refine Rg.take_un 13 (by simp only[List.getElem?_toArray,List.getElem?_cons_succ,List.getElem?_cons_zero];rfl) (by kernel_rfl) (by kernel_rfl) (by kernel_rfl) (by exact fun _ _ _ h=>h) (by rfl) (by with_reducible exact hS) ?_
  try simp only[Act.put,List.setIfInBounds_toArray,List.set_cons_zero,List.set_cons_succ]
  refine wpAnyH_take (i:=14) (v:=?_) (by simp only[List.getElem?_toArray,List.getElem?_cons_succ,List.getElem?_cons_zero];rfl) (by kernel_rfl) (by kernel_rfl) (by kernel_rfl) (by exact fun _ _ _ h=>h) (Or.inl ⟨by rfl,?_⟩) (by with_reducible exact hS) ?_
  rotate_left
  ·intro W hSw;(obtain⟨⟨x0,x1,x2,x3,x4,x5⟩,-⟩:=hSw);go_simp;all_goals (with_reducible rfl)
  try simp only[Act.put,List.setIfInBounds_toArray,List.set_cons_zero,List.set_cons_succ]
  refine wpAnyH_take (i:=15) (v:=?_) (by simp only[List.getElem?_toArray,List.getElem?_cons_succ,List.getElem?_cons_zero];rfl) (by kernel_rfl) (by kernel_rfl) (by kernel_rfl) (by exact fun _ _ _ h=>h) (Or.inl ⟨by rfl,?_⟩) (by with_reducible exact hS) ?_
  rotate_left
  ·intro W hSw;(obtain⟨⟨x0,x1,x2,x3,x4,x5⟩,-⟩:=hSw);go_simp;all_goals (with_reducible rfl)
  try simp only[Act.put,List.setIfInBounds_toArray,List.set_cons_zero,List.set_cons_succ]
  refine Rg.take_un 16 (by simp only[List.getElem?_toArray,List.getElem?_cons_succ,List.getElem?_cons_zero];rfl) (by kernel_rfl) (by kernel_rfl) (by kernel_rfl) (by exact fun _ _ _ h=>h) (by rfl) (by with_reducible exact hS) ?_
  try simp only[Act.put,List.setIfInBounds_toArray,List.set_cons_zero,List.set_cons_succ]
  refine Rg.take_un 17 (by simp only[List.getElem?_toArray,List.getElem?_cons_succ,List.getElem?_cons_zero];rfl) (by kernel_rfl) (by kernel_rfl) (by kernel_rfl) (by exact fun _ _ _ h=>h) (by rfl) (by with_reducible exact hS) ?_
  try simp only[Act.put,List.setIfInBounds_toArray,List.set_cons_zero,List.set_cons_succ]
  refine Rg.take_un 18 (by simp only[List.getElem?_toArray,List.getElem?_cons_succ,List.getElem?_cons_zero];rfl) (by kernel_rfl) (by kernel_rfl) (by kernel_rfl) (by exact fun _ _ _ h=>h) (by rfl) (by with_reducible exact hS) ?_
  try simp only[Act.put,List.setIfInBounds_toArray,List.set_cons_zero,List.set_cons_succ]
  refine Rg.take_un 19 (by simp only[List.getElem?_toArray,List.getElem?_cons_succ,List.getElem?_cons_zero];rfl) (by kernel_rfl) (by kernel_rfl) (by kernel_rfl) (by exact fun _ _ _ h=>h) (by rfl) (by with_reducible exact hS) ?_
  try simp only[Act.put,List.setIfInBounds_toArray,List.set_cons_zero,List.set_cons_succ]
  refine Rg.take_un 20 (by simp only[List.getElem?_toArray,List.getElem?_cons_succ,List.getElem?_cons_zero];rfl) (by kernel_rfl) (by kernel_rfl) (by kernel_rfl) (by exact fun _ _ _ h=>h) (by rfl) (by with_reducible exact hS) ?_
  try simp only[Act.put,List.setIfInBounds_toArray,List.set_cons_zero,List.set_cons_succ]
  refine Rg.take_un 21 (by simp only[List.getElem?_toArray,List.getElem?_cons_succ,List.getElem?_cons_zero];rfl) (by kernel_rfl) (by kernel_rfl) (by kernel_rfl) (by exact fun _ _ _ h=>h) (by rfl) (by with_reducible exact hS) ?_
  try simp only[Act.put,List.setIfInBounds_toArray,List.set_cons_zero,List.set_cons_succ]
  refine Rg.take_un 22 (by simp only[List.getElem?_toArray,List.getElem?_cons_succ,List.getElem?_cons_zero];rfl) (by kernel_rfl) (by kernel_rfl) (by kernel_rfl) (by exact fun _ _ _ h=>h) (by rfl) (by with_reducible exact hS) ?_
  try simp only[Act.put,List.setIfInBounds_toArray,List.set_cons_zero,List.set_cons_succ]
  refine Rg.take_un 23 (by simp only[List.getElem?_toArray,List.getElem?_cons_succ,List.getElem?_cons_zero];rfl) (by kernel_rfl) (by kernel_rfl) (by kernel_rfl) (by exact fun _ _ _ h=>h) (by rfl) (by with_reducible exact hS) ?_
  try simp only[Act.put,List.setIfInBounds_toArray,List.set_cons_zero,List.set_cons_succ]
  refine Rg.take_un 24 (by simp only[List.getElem?_toArray,List.getElem?_cons_succ,List.getElem?_cons_zero];rfl) (by kernel_rfl) (by kernel_rfl) (by kernel_rfl) (by exact fun _ _ _ h=>h) (by rfl) (by with_reducible exact hS) ?_
  try simp only[Act.put,List.setIfInBounds_toArray,List.set_cons_zero,List.set_cons_succ]
  refine wpAnyH_take (i:=25) (v:=?_) (by simp only[List.getElem?_toArray,List.getElem?_cons_succ,List.getElem?_cons_zero];rfl) (by kernel_rfl) (by kernel_rfl) (by kernel_rfl) (by exact fun _ _ _ h=>h) (Or.inl ⟨by rfl,?_⟩) (by with_reducible exact hS) ?_
  rotate_left
  ·intro W hSw;(obtain⟨⟨x0,x1,x2,x3,x4,x5⟩,-⟩:=hSw);go_simp;all_goals (with_reducible rfl)
  try simp only[Act.put,List.setIfInBounds_toArray,List.set_cons_zero,List.set_cons_succ]
  refine wpAnyH_done (by kernel_rfl) ?_ _
  have HS:=Lib.hid hS
  obtain⟨⟨x0,x1,x2,x3,x4,x5⟩,hbS⟩:=hS
  have HE:=Lib.hid hbS
  clear hbS
  go_wp2
  go_ret
  rw[← HV.out]
  exact⟨rfl,HE.out⟩
 have u1:((X.size:Int)==0)=false:=beq_eq_false_iff_ne.2 (by omega)
 have u1':(X.size==0)=false:=beq_eq_false_iff_ne.2 f3
 by_cases f4:most<(X.size:Int)
 ·have u2:decide (most<(X.size:Int))=true:=decide_eq_true f4
  have HV:=Lib.hid (HNO.out fun h=>by have:=h.2.2.2.2.1;omega)
  have hS:=(HBX.out _ (Below.refl _ _).drew)
  refine wp_region_held_drew (S:=fun W=>BoxS W b xq X xt xp xn∧Below w.heap.size w W) (by kernel_rfl) hS (fun hHeld=>?_)
  refine wpAnyH_take (i:=0) (v:=?_) (by simp only[List.getElem?_toArray,List.getElem?_cons_zero];rfl) (by kernel_rfl) (by kernel_rfl) (by kernel_rfl) (by exact fun _ _ _ h=>h) (Or.inl ⟨by rfl,?_⟩) (by with_reducible exact hS) ?_
  rotate_left
  ·intro W hSw;(obtain⟨⟨x0,x1,x2,x3,x4,x5⟩,-⟩:=hSw);go_simp;all_goals (with_reducible rfl)
  try simp only[Act.put,List.setIfInBounds_toArray,List.set_cons_zero,List.set_cons_succ]
  refine wpAnyH_take (i:=1) (v:=?_) (by simp only[List.getElem?_toArray,List.getElem?_cons_succ,List.getElem?_cons_zero];rfl) (by kernel_rfl) (by kernel_rfl) (by kernel_rfl) (by exact fun _ _ _ h=>h) (Or.inl ⟨by rfl,?_⟩) (by with_reducible exact hS) ?_
  rotate_left
  ·intro W hSw;(obtain⟨⟨x0,x1,x2,x3,x4,x5⟩,-⟩:=hSw);go_simp;all_goals (with_reducible rfl)
  try simp only[Act.put,List.setIfInBounds_toArray,List.set_cons_zero,List.set_cons_succ]
  refine wpAnyH_take (i:=2) (v:=?_) (by simp only[List.getElem?_toArray,List.getElem?_cons_succ,List.getElem?_cons_zero];rfl) (by kernel_rfl) (by kernel_rfl) (by kernel_rfl) (by exact fun _ _ _ h=>h) (Or.inl ⟨by rfl,?_⟩) (by with_reducible exact hS) ?_
  rotate_left
  ·intro W hSw;(obtain⟨⟨x0,x1,x2,x3,x4,x5⟩,-⟩:=hSw);go_simp;all_goals (with_reducible rfl)
  try simp only[Act.put,List.setIfInBounds_toArray,List.set_cons_zero,List.set_cons_succ]
  refine wpAnyH_take (i:=3) (v:=?_) (by simp only[List.getElem?_toArray,List.getElem?_cons_succ,List.getElem?_cons_zero];rfl) (by kernel_rfl) (by kernel_rfl) (by kernel_rfl) (by exact fun _ _ _ h=>h) (Or.inl ⟨by rfl,?_⟩) (by with_reducible exact hS) ?_
  rotate_left
  ·intro W hSw;(obtain⟨⟨x0,x1,x2,x3,x4,x5⟩,-⟩:=hSw);go_simp;all_goals (with_reducible rfl)
  try simp only[Act.put,List.setIfInBounds_toArray,List.set_cons_zero,List.set_cons_succ]
  refine wpAnyH_take (i:=4) (v:=?_) (by simp only[List.getElem?_toArray,List.getElem?_cons_succ,List.getElem?_cons_zero];rfl) (by kernel_rfl) (by kernel_rfl) (by kernel_rfl) (by exact fun _ _ _ h=>h) (Or.inl ⟨by rfl,?_⟩) (by with_reducible exact hS) ?_
  rotate_left
  ·intro W hSw;(obtain⟨⟨x0,x1,x2,x3,x4,x5⟩,-⟩:=hSw);go_simp;all_goals (with_reducible rfl)
  try simp only[Act.put,List.setIfInBounds_toArray,List.set_cons_zero,List.set_cons_succ]
  refine wpAnyH_take (i:=5) (v:=?_) (by simp only[List.getElem?_toArray,List.getElem?_cons_succ,List.getElem?_cons_zero];rfl) (by kernel_rfl) (by kernel_rfl) (by kernel_rfl) (by exact fun _ _ _ h=>h) (Or.inl ⟨by rfl,?_⟩) (by with_reducible exact hS) ?_
  rotate_left
  ·intro W hSw;(obtain⟨⟨x0,x1,x2,x3,x4,x5⟩,-⟩:=hSw);go_simp;all_goals (with_reducible rfl)
  try simp only[Act.put,List.setIfInBounds_toArray,List.set_cons_zero,List.set_cons_succ]
  refine wpAnyH_take (i:=6) (v:=?_) (by simp only[List.getElem?_toArray,List.getElem?_cons_succ,List.getElem?_cons_zero];rfl) (by kernel_rfl) (by kernel_rfl) (by kernel_rfl) (by exact fun _ _ _ h=>h) (Or.inl ⟨by rfl,?_⟩) (by with_reducible exact hS) ?_
  rotate_left
  ·intro W hSw;(obtain⟨⟨x0,x1,x2,x3,x4,x5⟩,-⟩:=hSw);go_simp;all_goals (with_reducible rfl)
  try simp only[Act.put,List.setIfInBounds_toArray,List.set_cons_zero,List.set_cons_succ]
  refine wpAnyH_take (i:=7) (v:=?_) (by simp only[List.getElem?_toArray,List.getElem?_cons_succ,List.getElem?_cons_zero];rfl) (by kernel_rfl) (by kernel_rfl) (by kernel_rfl) (by exact fun _ _ _ h=>h) (Or.inl ⟨by rfl,?_⟩) (by with_reducible exact hS) ?_
  rotate_left
  ·intro W hSw;(obtain⟨⟨x0,x1,x2,x3,x4,x5⟩,-⟩:=hSw);go_simp;all_goals (with_reducible rfl)
  try simp only[Act.put,List.setIfInBounds_toArray,List.set_cons_zero,List.set_cons_succ]
  refine Rg.take_un 8 (by simp only[List.getElem?_toArray,List.getElem?_cons_succ,List.getElem?_cons_zero];rfl) (by kernel_rfl) (by kernel_rfl) (by kernel_rfl) (by exact fun _ _ _ h=>h) (by rfl) (by with_reducible exact hS) ?_
  try simp only[Act.put,List.setIfInBounds_toArray,List.set_cons_zero,List.set_cons_succ]
  refine Rg.take_un 9 (by simp only[List.getElem?_toArray,List.getElem?_cons_succ,List.getElem?_cons_zero];rfl) (by kernel_rfl) (by kernel_rfl) (by kernel_rfl) (by exact fun _ _ _ h=>h) (by rfl) (by with_reducible exact hS) ?_
  try simp only[Act.put,List.setIfInBounds_toArray,List.set_cons_zero,List.set_cons_succ]
  refine Rg.take_un 10 (by simp only[List.getElem?_toArray,List.getElem?_cons_succ,List.getElem?_cons_zero];rfl) (by kernel_rfl) (by kernel_rfl) (by kernel_rfl) (by exact fun _ _ _ h=>h) (by rfl) (by with_reducible exact hS) ?_
  try simp only[Act.put,List.setIfInBounds_toArray,List.set_cons_zero,List.set_cons_succ]
  refine Rg.take_un 11 (by simp only[List.getElem?_toArray,List.getElem?_cons_succ,List.getElem?_cons_zero];rfl) (by kernel_rfl) (by kernel_rfl) (by kernel_rfl) (by exact fun _ _ _ h=>h) (by rfl) (by with_reducible exact hS) ?_
  try simp only[Act.put,List.setIfInBounds_toArray,List.set_cons_zero,List.set_cons_succ]
  refine Rg.take_un 12 (by simp only[List.getElem?_toArray,List.getElem?_cons_succ,List.getElem?_cons_zero];rfl) (by kernel_rfl) (by kernel_rfl) (by kernel_rfl) (by exact fun _ _ _ h=>h) (by rfl) (by with_reducible exact hS) ?_
  try simp only[Act.put,List.setIfInBounds_toArray,List.set_cons_zero,List.set_cons_succ]
  refine Rg.take_un 13 (by simp only[List.getElem?_toArray,List.getElem?_cons_succ,List.getElem?_cons_zero];rfl) (by kernel_rfl) (by kernel_rfl) (by kernel_rfl) (by exact fun _ _ _ h=>h) (by rfl) (by with_reducible exact hS) ?_
  try simp only[Act.put,List.setIfInBounds_toArray,List.set_cons_zero,List.set_cons_succ]
  refine wpAnyH_take (i:=14) (v:=?_) (by simp only[List.getElem?_toArray,List.getElem?_cons_succ,List.getElem?_cons_zero];rfl) (by kernel_rfl) (by kernel_rfl) (by kernel_rfl) (by exact fun _ _ _ h=>h) (Or.inl ⟨by rfl,?_⟩) (by with_reducible exact hS) ?_
  rotate_left
  ·intro W hSw;(obtain⟨⟨x0,x1,x2,x3,x4,x5⟩,-⟩:=hSw);go_simp;all_goals (with_reducible rfl)
  try simp only[Act.put,List.setIfInBounds_toArray,List.set_cons_zero,List.set_cons_succ]
  refine wpAnyH_take (i:=15) (v:=?_) (by simp only[List.getElem?_toArray,List.getElem?_cons_succ,List.getElem?_cons_zero];rfl) (by kernel_rfl) (by kernel_rfl) (by kernel_rfl) (by exact fun _ _ _ h=>h) (Or.inl ⟨by rfl,?_⟩) (by with_reducible exact hS) ?_
  rotate_left
  ·intro W hSw;(obtain⟨⟨x0,x1,x2,x3,x4,x5⟩,-⟩:=hSw);go_simp;all_goals (with_reducible rfl)
  try simp only[Act.put,List.setIfInBounds_toArray,List.set_cons_zero,List.set_cons_succ]
  refine Rg.take_un 16 (by simp only[List.getElem?_toArray,List.getElem?_cons_succ,List.getElem?_cons_zero];rfl) (by kernel_rfl) (by kernel_rfl) (by kernel_rfl) (by exact fun _ _ _ h=>h) (by rfl) (by with_reducible exact hS) ?_
  try simp only[Act.put,List.setIfInBounds_toArray,List.set_cons_zero,List.set_cons_succ]
  refine Rg.take_un 17 (by simp only[List.getElem?_toArray,List.getElem?_cons_succ,List.getElem?_cons_zero];rfl) (by kernel_rfl) (by kernel_rfl) (by kernel_rfl) (by exact fun _ _ _ h=>h) (by rfl) (by with_reducible exact hS) ?_
  try simp only[Act.put,List.setIfInBounds_toArray,List.set_cons_zero,List.set_cons_succ]
  refine Rg.take_un 18 (by simp only[List.getElem?_toArray,List.getElem?_cons_succ,List.getElem?_cons_zero];rfl) (by kernel_rfl) (by kernel_rfl) (by kernel_rfl) (by exact fun _ _ _ h=>h) (by rfl) (by with_reducible exact hS) ?_
  try simp only[Act.put,List.setIfInBounds_toArray,List.set_cons_zero,List.set_cons_succ]
  refine Rg.take_un 19 (by simp only[List.getElem?_toArray,List.getElem?_cons_succ,List.getElem?_cons_zero];rfl) (by kernel_rfl) (by kernel_rfl) (by kernel_rfl) (by exact fun _ _ _ h=>h) (by rfl) (by with_reducible exact hS) ?_
  try simp only[Act.put,List.setIfInBounds_toArray,List.set_cons_zero,List.set_cons_succ]
  refine Rg.take_un 20 (by simp only[List.getElem?_toArray,List.getElem?_cons_succ,List.getElem?_cons_zero];rfl) (by kernel_rfl) (by kernel_rfl) (by kernel_rfl) (by exact fun _ _ _ h=>h) (by rfl) (by with_reducible exact hS) ?_
  try simp only[Act.put,List.setIfInBounds_toArray,List.set_cons_zero,List.set_cons_succ]
  refine Rg.take_un 21 (by simp only[List.getElem?_toArray,List.getElem?_cons_succ,List.getElem?_cons_zero];rfl) (by kernel_rfl) (by kernel_rfl) (by kernel_rfl) (by exact fun _ _ _ h=>h) (by rfl) (by with_reducible exact hS) ?_
  try simp only[Act.put,List.setIfInBounds_toArray,List.set_cons_zero,List.set_cons_succ]
  refine Rg.take_un 22 (by simp only[List.getElem?_toArray,List.getElem?_cons_succ,List.getElem?_cons_zero];rfl) (by kernel_rfl) (by kernel_rfl) (by kernel_rfl) (by exact fun _ _ _ h=>h) (by rfl) (by with_reducible exact hS) ?_
  try simp only[Act.put,List.setIfInBounds_toArray,List.set_cons_zero,List.set_cons_succ]
  refine Rg.take_un 23 (by simp only[List.getElem?_toArray,List.getElem?_cons_succ,List.getElem?_cons_zero];rfl) (by kernel_rfl) (by kernel_rfl) (by kernel_rfl) (by exact fun _ _ _ h=>h) (by rfl) (by with_reducible exact hS) ?_
  try simp only[Act.put,List.setIfInBounds_toArray,List.set_cons_zero,List.set_cons_succ]
  refine Rg.take_un 24 (by simp only[List.getElem?_toArray,List.getElem?_cons_succ,List.getElem?_cons_zero];rfl) (by kernel_rfl) (by kernel_rfl) (by kernel_rfl) (by exact fun _ _ _ h=>h) (by rfl) (by with_reducible exact hS) ?_
  try simp only[Act.put,List.setIfInBounds_toArray,List.set_cons_zero,List.set_cons_succ]
  refine wpAnyH_take (i:=25) (v:=?_) (by simp only[List.getElem?_toArray,List.getElem?_cons_succ,List.getElem?_cons_zero];rfl) (by kernel_rfl) (by kernel_rfl) (by kernel_rfl) (by exact fun _ _ _ h=>h) (Or.inl ⟨by rfl,?_⟩) (by with_reducible exact hS) ?_
  rotate_left
  ·intro W hSw;(obtain⟨⟨x0,x1,x2,x3,x4,x5⟩,-⟩:=hSw);go_simp;all_goals (with_reducible rfl)
  try simp only[Act.put,List.setIfInBounds_toArray,List.set_cons_zero,List.set_cons_succ]
  refine wpAnyH_done (by kernel_rfl) ?_ _
  have HS:=Lib.hid hS
  obtain⟨⟨x0,x1,x2,x3,x4,x5⟩,hbS⟩:=hS
  have HE:=Lib.hid hbS
  clear hbS
  go_wp2
  go_ret
  rw[← HV.out]
  exact⟨rfl,HE.out⟩
 have u2:decide (most<(X.size:Int))=false:=decide_eq_false f4
 by_cases f5:(S.size:Int) - (p:Int)<(X.size:Int)
 ·have u3:decide ((S.size:Int) - (p:Int)<(X.size:Int))=true:=decide_eq_true f5
  have hnp:¬ bytesN X <+: (bytesN S).drop p:=fun k=>by have:=k.length_le;rw[List.length_drop,bytesN_len,bytesN_len]at this;omega
  have HNP:=Lib.hid hnp
  clear hnp
  have HV:=Lib.hid (HNO.out fun h=>HNP.out h.2.2.2.2.2.1)
  have hS:=(HBX.out _ (Below.refl _ _).drew)
  refine wp_region_held_drew (S:=fun W=>BoxS W b xq X xt xp xn∧Below w.heap.size w W) (by kernel_rfl) hS (fun hHeld=>?_)
  refine wpAnyH_take (i:=0) (v:=?_) (by simp only[List.getElem?_toArray,List.getElem?_cons_zero];rfl) (by kernel_rfl) (by kernel_rfl) (by kernel_rfl) (by exact fun _ _ _ h=>h) (Or.inl ⟨by rfl,?_⟩) (by with_reducible exact hS) ?_
  rotate_left
  ·intro W hSw;(obtain⟨⟨x0,x1,x2,x3,x4,x5⟩,-⟩:=hSw);go_simp;all_goals (with_reducible rfl)
  try simp only[Act.put,List.setIfInBounds_toArray,List.set_cons_zero,List.set_cons_succ]
  refine wpAnyH_take (i:=1) (v:=?_) (by simp only[List.getElem?_toArray,List.getElem?_cons_succ,List.getElem?_cons_zero];rfl) (by kernel_rfl) (by kernel_rfl) (by kernel_rfl) (by exact fun _ _ _ h=>h) (Or.inl ⟨by rfl,?_⟩) (by with_reducible exact hS) ?_
  rotate_left
  ·intro W hSw;(obtain⟨⟨x0,x1,x2,x3,x4,x5⟩,-⟩:=hSw);go_simp;all_goals (with_reducible rfl)
  try simp only[Act.put,List.setIfInBounds_toArray,List.set_cons_zero,List.set_cons_succ]
  refine wpAnyH_take (i:=2) (v:=?_) (by simp only[List.getElem?_toArray,List.getElem?_cons_succ,List.getElem?_cons_zero];rfl) (by kernel_rfl) (by kernel_rfl) (by kernel_rfl) (by exact fun _ _ _ h=>h) (Or.inl ⟨by rfl,?_⟩) (by with_reducible exact hS) ?_
  rotate_left
  ·intro W hSw;(obtain⟨⟨x0,x1,x2,x3,x4,x5⟩,-⟩:=hSw);go_simp;all_goals (with_reducible rfl)
  try simp only[Act.put,List.setIfInBounds_toArray,List.set_cons_zero,List.set_cons_succ]
  refine wpAnyH_take (i:=3) (v:=?_) (by simp only[List.getElem?_toArray,List.getElem?_cons_succ,List.getElem?_cons_zero];rfl) (by kernel_rfl) (by kernel_rfl) (by kernel_rfl) (by exact fun _ _ _ h=>h) (Or.inl ⟨by rfl,?_⟩) (by with_reducible exact hS) ?_
  rotate_left
  ·intro W hSw;(obtain⟨⟨x0,x1,x2,x3,x4,x5⟩,-⟩:=hSw);go_simp;all_goals (with_reducible rfl)
  try simp only[Act.put,List.setIfInBounds_toArray,List.set_cons_zero,List.set_cons_succ]
  refine wpAnyH_take (i:=4) (v:=?_) (by simp only[List.getElem?_toArray,List.getElem?_cons_succ,List.getElem?_cons_zero];rfl) (by kernel_rfl) (by kernel_rfl) (by kernel_rfl) (by exact fun _ _ _ h=>h) (Or.inl ⟨by rfl,?_⟩) (by with_reducible exact hS) ?_
  rotate_left
  ·intro W hSw;(obtain⟨⟨x0,x1,x2,x3,x4,x5⟩,-⟩:=hSw);go_simp;all_goals (with_reducible rfl)
  try simp only[Act.put,List.setIfInBounds_toArray,List.set_cons_zero,List.set_cons_succ]
  refine wpAnyH_take (i:=5) (v:=?_) (by simp only[List.getElem?_toArray,List.getElem?_cons_succ,List.getElem?_cons_zero];rfl) (by kernel_rfl) (by kernel_rfl) (by kernel_rfl) (by exact fun _ _ _ h=>h) (Or.inl ⟨by rfl,?_⟩) (by with_reducible exact hS) ?_
  rotate_left
  ·intro W hSw;(obtain⟨⟨x0,x1,x2,x3,x4,x5⟩,-⟩:=hSw);go_simp;all_goals (with_reducible rfl)
  try simp only[Act.put,List.setIfInBounds_toArray,List.set_cons_zero,List.set_cons_succ]
  refine wpAnyH_take (i:=6) (v:=?_) (by simp only[List.getElem?_toArray,List.getElem?_cons_succ,List.getElem?_cons_zero];rfl) (by kernel_rfl) (by kernel_rfl) (by kernel_rfl) (by exact fun _ _ _ h=>h) (Or.inl ⟨by rfl,?_⟩) (by with_reducible exact hS) ?_
  rotate_left
  ·intro W hSw;(obtain⟨⟨x0,x1,x2,x3,x4,x5⟩,-⟩:=hSw);go_simp;all_goals (with_reducible rfl)
  try simp only[Act.put,List.setIfInBounds_toArray,List.set_cons_zero,List.set_cons_succ]
  refine wpAnyH_take (i:=7) (v:=?_) (by simp only[List.getElem?_toArray,List.getElem?_cons_succ,List.getElem?_cons_zero];rfl) (by kernel_rfl) (by kernel_rfl) (by kernel_rfl) (by exact fun _ _ _ h=>h) (Or.inl ⟨by rfl,?_⟩) (by with_reducible exact hS) ?_
  rotate_left
  ·intro W hSw;(obtain⟨⟨x0,x1,x2,x3,x4,x5⟩,-⟩:=hSw);go_simp;all_goals (with_reducible rfl)
  try simp only[Act.put,List.setIfInBounds_toArray,List.set_cons_zero,List.set_cons_succ]
  refine wpAnyH_take (i:=8) (v:=?_) (by simp only[List.getElem?_toArray,List.getElem?_cons_succ,List.getElem?_cons_zero];rfl) (by kernel_rfl) (by kernel_rfl) (by kernel_rfl) (by exact fun _ _ _ h=>h) (Or.inl ⟨by rfl,?_⟩) (by with_reducible exact hS) ?_
  rotate_left
  ·intro W hSw;(obtain⟨⟨x0,x1,x2,x3,x4,x5⟩,-⟩:=hSw);go_simp;all_goals (with_reducible rfl)
  try simp only[Act.put,List.setIfInBounds_toArray,List.set_cons_zero,List.set_cons_succ]
  refine wpAnyH_take (i:=9) (v:=?_) (by simp only[List.getElem?_toArray,List.getElem?_cons_succ,List.getElem?_cons_zero];rfl) (by kernel_rfl) (by kernel_rfl) (by kernel_rfl) (by exact fun _ _ _ h=>h) (Or.inl ⟨by rfl,?_⟩) (by with_reducible exact hS) ?_
  rotate_left
  ·intro W hSw;(obtain⟨⟨x0,x1,x2,x3,x4,x5⟩,-⟩:=hSw);go_simp;all_goals (with_reducible rfl)
  try simp only[Act.put,List.setIfInBounds_toArray,List.set_cons_zero,List.set_cons_succ]
  refine wpAnyH_take (i:=10) (v:=?_) (by simp only[List.getElem?_toArray,List.getElem?_cons_succ,List.getElem?_cons_zero];rfl) (by kernel_rfl) (by kernel_rfl) (by kernel_rfl) (by exact fun _ _ _ h=>h) (Or.inl ⟨by rfl,?_⟩) (by with_reducible exact hS) ?_
  rotate_left
  ·intro W hSw;(obtain⟨⟨x0,x1,x2,x3,x4,x5⟩,-⟩:=hSw);go_simp;all_goals (with_reducible rfl)
  try simp only[Act.put,List.setIfInBounds_toArray,List.set_cons_zero,List.set_cons_succ]
  refine wpAnyH_take (i:=11) (v:=?_) (by simp only[List.getElem?_toArray,List.getElem?_cons_succ,List.getElem?_cons_zero];rfl) (by kernel_rfl) (by kernel_rfl) (by kernel_rfl) (by exact fun _ _ _ h=>h) (Or.inl ⟨by rfl,?_⟩) (by with_reducible exact hS) ?_
  rotate_left
  ·intro W hSw;(obtain⟨⟨x0,x1,x2,x3,x4,x5⟩,-⟩:=hSw);go_simp;all_goals (with_reducible rfl)
  try simp only[Act.put,List.setIfInBounds_toArray,List.set_cons_zero,List.set_cons_succ]
  refine Rg.take_w 12 (by simp only[List.getElem?_toArray,List.getElem?_cons_succ,List.getElem?_cons_zero];rfl) (by kernel_rfl) (by kernel_rfl) (by kernel_rfl) ((.int .i64 ((S.size:Int) - (p:Int)))) (by exact fun _ _ _ h=>h) (by rfl) (by intro W hSw;(obtain⟨⟨x0,x1,x2,x3,x4,x5⟩,-⟩:=hSw);go_simp) (by with_reducible exact hS) ?_
  try simp only[Act.put,List.setIfInBounds_toArray,List.set_cons_zero,List.set_cons_succ]
  refine wpAnyH_take (i:=13) (v:=?_) (by simp only[List.getElem?_toArray,List.getElem?_cons_succ,List.getElem?_cons_zero];rfl) (by kernel_rfl) (by kernel_rfl) (by kernel_rfl) (by exact fun _ _ _ h=>h) (Or.inl ⟨by rfl,?_⟩) (by with_reducible exact hS) ?_
  rotate_left
  ·intro W hSw;(obtain⟨⟨x0,x1,x2,x3,x4,x5⟩,-⟩:=hSw);go_simp;all_goals (with_reducible rfl)
  try simp only[Act.put,List.setIfInBounds_toArray,List.set_cons_zero,List.set_cons_succ]
  refine wpAnyH_take (i:=14) (v:=?_) (by simp only[List.getElem?_toArray,List.getElem?_cons_succ,List.getElem?_cons_zero];rfl) (by kernel_rfl) (by kernel_rfl) (by kernel_rfl) (by exact fun _ _ _ h=>h) (Or.inl ⟨by rfl,?_⟩) (by with_reducible exact hS) ?_
  rotate_left
  ·intro W hSw;(obtain⟨⟨x0,x1,x2,x3,x4,x5⟩,-⟩:=hSw);go_simp;all_goals (with_reducible rfl)
  try simp only[Act.put,List.setIfInBounds_toArray,List.set_cons_zero,List.set_cons_succ]
  refine wpAnyH_take (i:=15) (v:=?_) (by simp only[List.getElem?_toArray,List.getElem?_cons_succ,List.getElem?_cons_zero];rfl) (by kernel_rfl) (by kernel_rfl) (by kernel_rfl) (by exact fun _ _ _ h=>h) (Or.inl ⟨by rfl,?_⟩) (by with_reducible exact hS) ?_
  rotate_left
  ·intro W hSw;(obtain⟨⟨x0,x1,x2,x3,x4,x5⟩,-⟩:=hSw);go_simp;all_goals (with_reducible rfl)
  try simp only[Act.put,List.setIfInBounds_toArray,List.set_cons_zero,List.set_cons_succ]
  refine Rg.take_un 16 (by simp only[List.getElem?_toArray,List.getElem?_cons_succ,List.getElem?_cons_zero];rfl) (by kernel_rfl) (by kernel_rfl) (by kernel_rfl) (by exact fun _ _ _ h=>h) (by rfl) (by with_reducible exact hS) ?_
  try simp only[Act.put,List.setIfInBounds_toArray,List.set_cons_zero,List.set_cons_succ]
  refine Rg.take_un 17 (by simp only[List.getElem?_toArray,List.getElem?_cons_succ,List.getElem?_cons_zero];rfl) (by kernel_rfl) (by kernel_rfl) (by kernel_rfl) (by exact fun _ _ _ h=>h) (by rfl) (by with_reducible exact hS) ?_
  try simp only[Act.put,List.setIfInBounds_toArray,List.set_cons_zero,List.set_cons_succ]
  refine Rg.take_un 18 (by simp only[List.getElem?_toArray,List.getElem?_cons_succ,List.getElem?_cons_zero];rfl) (by kernel_rfl) (by kernel_rfl) (by kernel_rfl) (by exact fun _ _ _ h=>h) (by rfl) (by with_reducible exact hS) ?_
  try simp only[Act.put,List.setIfInBounds_toArray,List.set_cons_zero,List.set_cons_succ]
  refine Rg.take_un 19 (by simp only[List.getElem?_toArray,List.getElem?_cons_succ,List.getElem?_cons_zero];rfl) (by kernel_rfl) (by kernel_rfl) (by kernel_rfl) (by exact fun _ _ _ h=>h) (by rfl) (by with_reducible exact hS) ?_
  try simp only[Act.put,List.setIfInBounds_toArray,List.set_cons_zero,List.set_cons_succ]
  refine Rg.take_un 20 (by simp only[List.getElem?_toArray,List.getElem?_cons_succ,List.getElem?_cons_zero];rfl) (by kernel_rfl) (by kernel_rfl) (by kernel_rfl) (by exact fun _ _ _ h=>h) (by rfl) (by with_reducible exact hS) ?_
  try simp only[Act.put,List.setIfInBounds_toArray,List.set_cons_zero,List.set_cons_succ]
  refine Rg.take_un 21 (by simp only[List.getElem?_toArray,List.getElem?_cons_succ,List.getElem?_cons_zero];rfl) (by kernel_rfl) (by kernel_rfl) (by kernel_rfl) (by exact fun _ _ _ h=>h) (by rfl) (by with_reducible exact hS) ?_
  try simp only[Act.put,List.setIfInBounds_toArray,List.set_cons_zero,List.set_cons_succ]
  refine Rg.take_un 22 (by simp only[List.getElem?_toArray,List.getElem?_cons_succ,List.getElem?_cons_zero];rfl) (by kernel_rfl) (by kernel_rfl) (by kernel_rfl) (by exact fun _ _ _ h=>h) (by rfl) (by with_reducible exact hS) ?_
  try simp only[Act.put,List.setIfInBounds_toArray,List.set_cons_zero,List.set_cons_succ]
  refine Rg.take_un 23 (by simp only[List.getElem?_toArray,List.getElem?_cons_succ,List.getElem?_cons_zero];rfl) (by kernel_rfl) (by kernel_rfl) (by kernel_rfl) (by exact fun _ _ _ h=>h) (by rfl) (by with_reducible exact hS) ?_
  try simp only[Act.put,List.setIfInBounds_toArray,List.set_cons_zero,List.set_cons_succ]
  refine Rg.take_un 24 (by simp only[List.getElem?_toArray,List.getElem?_cons_succ,List.getElem?_cons_zero];rfl) (by kernel_rfl) (by kernel_rfl) (by kernel_rfl) (by exact fun _ _ _ h=>h) (by rfl) (by with_reducible exact hS) ?_
  try simp only[Act.put,List.setIfInBounds_toArray,List.set_cons_zero,List.set_cons_succ]
  refine wpAnyH_take (i:=25) (v:=?_) (by simp only[List.getElem?_toArray,List.getElem?_cons_succ,List.getElem?_cons_zero];rfl) (by kernel_rfl) (by kernel_rfl) (by kernel_rfl) (by exact fun _ _ _ h=>h) (Or.inl ⟨by rfl,?_⟩) (by with_reducible exact hS) ?_
  rotate_left
  ·intro W hSw;(obtain⟨⟨x0,x1,x2,x3,x4,x5⟩,-⟩:=hSw);go_simp;all_goals (with_reducible rfl)
  try simp only[Act.put,List.setIfInBounds_toArray,List.set_cons_zero,List.set_cons_succ]
  refine wpAnyH_done (by kernel_rfl) ?_ _
  have HS:=Lib.hid hS
  obtain⟨⟨x0,x1,x2,x3,x4,x5⟩,hbS⟩:=hS
  have HE:=Lib.hid hbS
  clear hbS
  go_wp2
  go_ret
  rw[← HV.out]
  exact⟨rfl,HE.out⟩
 have u3:decide ((S.size:Int) - (p:Int)<(X.size:Int))=false:=decide_eq_false f5
 have z1:(0:Int)≤(p:Int)+(X.size:Int):=by omega
 have z2:(p:Int)+(X.size:Int)≤(S.size:Int):=by omega
 have z3:(p:Int)≤(p:Int)+(X.size:Int):=by omega
 have z4:((p:Int)+(X.size:Int)).toNat=p+X.size:=by omega
 have HPR:=Lib.hid (ext_pre (S:=S) (X:=X) (p:=p) (by omega))
 by_cases f6:S.extract p (p+X.size)=X
 rotate_left
 ·have u4:((S.extract p (p+X.size)).toList==X.toList)=false:=Ba.toList_ne f6
  have F6:=Lib.hid f6
  clear f6
  have HV:=Lib.hid (HNO.out fun h=>F6.out (HPR.out.2 h.2.2.2.2.2.1))
  have hS:=(HBX.out _ (Below.refl _ _).drew)
  refine wp_region_held_drew (S:=fun W=>BoxS W b xq X xt xp xn∧Below w.heap.size w W) (by kernel_rfl) hS (fun hHeld=>?_)
  refine wpAnyH_take (i:=0) (v:=?_) (by simp only[List.getElem?_toArray,List.getElem?_cons_zero];rfl) (by kernel_rfl) (by kernel_rfl) (by kernel_rfl) (by exact fun _ _ _ h=>h) (Or.inl ⟨by rfl,?_⟩) (by with_reducible exact hS) ?_
  rotate_left
  ·intro W hSw;(obtain⟨⟨x0,x1,x2,x3,x4,x5⟩,-⟩:=hSw);go_simp;all_goals (with_reducible rfl)
  try simp only[Act.put,List.setIfInBounds_toArray,List.set_cons_zero,List.set_cons_succ]
  refine wpAnyH_take (i:=1) (v:=?_) (by simp only[List.getElem?_toArray,List.getElem?_cons_succ,List.getElem?_cons_zero];rfl) (by kernel_rfl) (by kernel_rfl) (by kernel_rfl) (by exact fun _ _ _ h=>h) (Or.inl ⟨by rfl,?_⟩) (by with_reducible exact hS) ?_
  rotate_left
  ·intro W hSw;(obtain⟨⟨x0,x1,x2,x3,x4,x5⟩,-⟩:=hSw);go_simp;all_goals (with_reducible rfl)
  try simp only[Act.put,List.setIfInBounds_toArray,List.set_cons_zero,List.set_cons_succ]
  refine wpAnyH_take (i:=2) (v:=?_) (by simp only[List.getElem?_toArray,List.getElem?_cons_succ,List.getElem?_cons_zero];rfl) (by kernel_rfl) (by kernel_rfl) (by kernel_rfl) (by exact fun _ _ _ h=>h) (Or.inl ⟨by rfl,?_⟩) (by with_reducible exact hS) ?_
  rotate_left
  ·intro W hSw;(obtain⟨⟨x0,x1,x2,x3,x4,x5⟩,-⟩:=hSw);go_simp;all_goals (with_reducible rfl)
  try simp only[Act.put,List.setIfInBounds_toArray,List.set_cons_zero,List.set_cons_succ]
  refine wpAnyH_take (i:=3) (v:=?_) (by simp only[List.getElem?_toArray,List.getElem?_cons_succ,List.getElem?_cons_zero];rfl) (by kernel_rfl) (by kernel_rfl) (by kernel_rfl) (by exact fun _ _ _ h=>h) (Or.inl ⟨by rfl,?_⟩) (by with_reducible exact hS) ?_
  rotate_left
  ·intro W hSw;(obtain⟨⟨x0,x1,x2,x3,x4,x5⟩,-⟩:=hSw);go_simp;all_goals (with_reducible rfl)
  try simp only[Act.put,List.setIfInBounds_toArray,List.set_cons_zero,List.set_cons_succ]
  refine wpAnyH_take (i:=4) (v:=?_) (by simp only[List.getElem?_toArray,List.getElem?_cons_succ,List.getElem?_cons_zero];rfl) (by kernel_rfl) (by kernel_rfl) (by kernel_rfl) (by exact fun _ _ _ h=>h) (Or.inl ⟨by rfl,?_⟩) (by with_reducible exact hS) ?_
  rotate_left
  ·intro W hSw;(obtain⟨⟨x0,x1,x2,x3,x4,x5⟩,-⟩:=hSw);go_simp;all_goals (with_reducible rfl)
  try simp only[Act.put,List.setIfInBounds_toArray,List.set_cons_zero,List.set_cons_succ]
  refine wpAnyH_take (i:=5) (v:=?_) (by simp only[List.getElem?_toArray,List.getElem?_cons_succ,List.getElem?_cons_zero];rfl) (by kernel_rfl) (by kernel_rfl) (by kernel_rfl) (by exact fun _ _ _ h=>h) (Or.inl ⟨by rfl,?_⟩) (by with_reducible exact hS) ?_
  rotate_left
  ·intro W hSw;(obtain⟨⟨x0,x1,x2,x3,x4,x5⟩,-⟩:=hSw);go_simp;all_goals (with_reducible rfl)
  try simp only[Act.put,List.setIfInBounds_toArray,List.set_cons_zero,List.set_cons_succ]
  refine wpAnyH_take (i:=6) (v:=?_) (by simp only[List.getElem?_toArray,List.getElem?_cons_succ,List.getElem?_cons_zero];rfl) (by kernel_rfl) (by kernel_rfl) (by kernel_rfl) (by exact fun _ _ _ h=>h) (Or.inl ⟨by rfl,?_⟩) (by with_reducible exact hS) ?_
  rotate_left
  ·intro W hSw;(obtain⟨⟨x0,x1,x2,x3,x4,x5⟩,-⟩:=hSw);go_simp;all_goals (with_reducible rfl)
  try simp only[Act.put,List.setIfInBounds_toArray,List.set_cons_zero,List.set_cons_succ]
  refine wpAnyH_take (i:=7) (v:=?_) (by simp only[List.getElem?_toArray,List.getElem?_cons_succ,List.getElem?_cons_zero];rfl) (by kernel_rfl) (by kernel_rfl) (by kernel_rfl) (by exact fun _ _ _ h=>h) (Or.inl ⟨by rfl,?_⟩) (by with_reducible exact hS) ?_
  rotate_left
  ·intro W hSw;(obtain⟨⟨x0,x1,x2,x3,x4,x5⟩,-⟩:=hSw);go_simp;all_goals (with_reducible rfl)
  try simp only[Act.put,List.setIfInBounds_toArray,List.set_cons_zero,List.set_cons_succ]
  refine wpAnyH_take (i:=8) (v:=?_) (by simp only[List.getElem?_toArray,List.getElem?_cons_succ,List.getElem?_cons_zero];rfl) (by kernel_rfl) (by kernel_rfl) (by kernel_rfl) (by exact fun _ _ _ h=>h) (Or.inl ⟨by rfl,?_⟩) (by with_reducible exact hS) ?_
  rotate_left
  ·intro W hSw;(obtain⟨⟨x0,x1,x2,x3,x4,x5⟩,-⟩:=hSw);go_simp;all_goals (with_reducible rfl)
  try simp only[Act.put,List.setIfInBounds_toArray,List.set_cons_zero,List.set_cons_succ]
  refine wpAnyH_take (i:=9) (v:=?_) (by simp only[List.getElem?_toArray,List.getElem?_cons_succ,List.getElem?_cons_zero];rfl) (by kernel_rfl) (by kernel_rfl) (by kernel_rfl) (by exact fun _ _ _ h=>h) (Or.inl ⟨by rfl,?_⟩) (by with_reducible exact hS) ?_
  rotate_left
  ·intro W hSw;(obtain⟨⟨x0,x1,x2,x3,x4,x5⟩,-⟩:=hSw);go_simp;all_goals (with_reducible rfl)
  try simp only[Act.put,List.setIfInBounds_toArray,List.set_cons_zero,List.set_cons_succ]
  refine wpAnyH_take (i:=10) (v:=?_) (by simp only[List.getElem?_toArray,List.getElem?_cons_succ,List.getElem?_cons_zero];rfl) (by kernel_rfl) (by kernel_rfl) (by kernel_rfl) (by exact fun _ _ _ h=>h) (Or.inl ⟨by rfl,?_⟩) (by with_reducible exact hS) ?_
  rotate_left
  ·intro W hSw;(obtain⟨⟨x0,x1,x2,x3,x4,x5⟩,-⟩:=hSw);go_simp;all_goals (with_reducible rfl)
  try simp only[Act.put,List.setIfInBounds_toArray,List.set_cons_zero,List.set_cons_succ]
  refine wpAnyH_take (i:=11) (v:=?_) (by simp only[List.getElem?_toArray,List.getElem?_cons_succ,List.getElem?_cons_zero];rfl) (by kernel_rfl) (by kernel_rfl) (by kernel_rfl) (by exact fun _ _ _ h=>h) (Or.inl ⟨by rfl,?_⟩) (by with_reducible exact hS) ?_
  rotate_left
  ·intro W hSw;(obtain⟨⟨x0,x1,x2,x3,x4,x5⟩,-⟩:=hSw);go_simp;all_goals (with_reducible rfl)
  try simp only[Act.put,List.setIfInBounds_toArray,List.set_cons_zero,List.set_cons_succ]
  refine Rg.take_w 12 (by simp only[List.getElem?_toArray,List.getElem?_cons_succ,List.getElem?_cons_zero];rfl) (by kernel_rfl) (by kernel_rfl) (by kernel_rfl) ((.int .i64 ((S.size:Int) - (p:Int)))) (by exact fun _ _ _ h=>h) (by rfl) (by intro W hSw;(obtain⟨⟨x0,x1,x2,x3,x4,x5⟩,-⟩:=hSw);go_simp) (by with_reducible exact hS) ?_
  try simp only[Act.put,List.setIfInBounds_toArray,List.set_cons_zero,List.set_cons_succ]
  refine wpAnyH_take (i:=13) (v:=?_) (by simp only[List.getElem?_toArray,List.getElem?_cons_succ,List.getElem?_cons_zero];rfl) (by kernel_rfl) (by kernel_rfl) (by kernel_rfl) (by exact fun _ _ _ h=>h) (Or.inl ⟨by rfl,?_⟩) (by with_reducible exact hS) ?_
  rotate_left
  ·intro W hSw;(obtain⟨⟨x0,x1,x2,x3,x4,x5⟩,-⟩:=hSw);go_simp;all_goals (with_reducible rfl)
  try simp only[Act.put,List.setIfInBounds_toArray,List.set_cons_zero,List.set_cons_succ]
  refine wpAnyH_take (i:=14) (v:=?_) (by simp only[List.getElem?_toArray,List.getElem?_cons_succ,List.getElem?_cons_zero];rfl) (by kernel_rfl) (by kernel_rfl) (by kernel_rfl) (by exact fun _ _ _ h=>h) (Or.inl ⟨by rfl,?_⟩) (by with_reducible exact hS) ?_
  rotate_left
  ·intro W hSw;(obtain⟨⟨x0,x1,x2,x3,x4,x5⟩,-⟩:=hSw);go_simp;all_goals (with_reducible rfl)
  try simp only[Act.put,List.setIfInBounds_toArray,List.set_cons_zero,List.set_cons_succ]
  refine wpAnyH_take (i:=15) (v:=?_) (by simp only[List.getElem?_toArray,List.getElem?_cons_succ,List.getElem?_cons_zero];rfl) (by kernel_rfl) (by kernel_rfl) (by kernel_rfl) (by exact fun _ _ _ h=>h) (Or.inl ⟨by rfl,?_⟩) (by with_reducible exact hS) ?_
  rotate_left
  ·intro W hSw;(obtain⟨⟨x0,x1,x2,x3,x4,x5⟩,-⟩:=hSw);go_simp;all_goals (with_reducible rfl)
  try simp only[Act.put,List.setIfInBounds_toArray,List.set_cons_zero,List.set_cons_succ]
  refine wpAnyH_take (i:=16) (v:=?_) (by simp only[List.getElem?_toArray,List.getElem?_cons_succ,List.getElem?_cons_zero];rfl) (by kernel_rfl) (by kernel_rfl) (by kernel_rfl) (by exact fun _ _ _ h=>h) (Or.inl ⟨by rfl,?_⟩) (by with_reducible exact hS) ?_
  rotate_left
  ·intro W hSw;(obtain⟨⟨x0,x1,x2,x3,x4,x5⟩,-⟩:=hSw);go_simp;all_goals (with_reducible rfl)
  try simp only[Act.put,List.setIfInBounds_toArray,List.set_cons_zero,List.set_cons_succ]
  refine wpAnyH_take (i:=17) (v:=?_) (by simp only[List.getElem?_toArray,List.getElem?_cons_succ,List.getElem?_cons_zero];rfl) (by kernel_rfl) (by kernel_rfl) (by kernel_rfl) (by exact fun _ _ _ h=>h) (Or.inl ⟨by rfl,?_⟩) (by with_reducible exact hS) ?_
  rotate_left
  ·intro W hSw;(obtain⟨⟨x0,x1,x2,x3,x4,x5⟩,-⟩:=hSw);go_simp;all_goals (with_reducible rfl)
  try simp only[Act.put,List.setIfInBounds_toArray,List.set_cons_zero,List.set_cons_succ]
  refine wpAnyH_take (i:=18) (v:=?_) (by simp only[List.getElem?_toArray,List.getElem?_cons_succ,List.getElem?_cons_zero];rfl) (by kernel_rfl) (by kernel_rfl) (by kernel_rfl) (by exact fun _ _ _ h=>h) (Or.inl ⟨by rfl,?_⟩) (by with_reducible exact hS) ?_
  rotate_left
  ·intro W hSw;(obtain⟨⟨x0,x1,x2,x3,x4,x5⟩,-⟩:=hSw);go_simp;all_goals (with_reducible rfl)
  try simp only[Act.put,List.setIfInBounds_toArray,List.set_cons_zero,List.set_cons_succ]
  refine wpAnyH_take (i:=19) (v:=?_) (by simp only[List.getElem?_toArray,List.getElem?_cons_succ,List.getElem?_cons_zero];rfl) (by kernel_rfl) (by kernel_rfl) (by kernel_rfl) (by exact fun _ _ _ h=>h) (Or.inl ⟨by rfl,?_⟩) (by with_reducible exact hS) ?_
  rotate_left
  ·intro W hSw;(obtain⟨⟨x0,x1,x2,x3,x4,x5⟩,-⟩:=hSw);go_simp;all_goals (with_reducible rfl)
  try simp only[Act.put,List.setIfInBounds_toArray,List.set_cons_zero,List.set_cons_succ]
  refine Rg.take_w 20 (by simp only[List.getElem?_toArray,List.getElem?_cons_succ,List.getElem?_cons_zero];rfl) (by kernel_rfl) (by kernel_rfl) (by kernel_rfl) ((.int .i64 ((p:Int)+(X.size:Int)))) (by exact fun _ _ _ h=>h) (by rfl) (by intro W hSw;(obtain⟨⟨x0,x1,x2,x3,x4,x5⟩,-⟩:=hSw);go_simp) (by with_reducible exact hS) ?_
  try simp only[Act.put,List.setIfInBounds_toArray,List.set_cons_zero,List.set_cons_succ]
  refine Rg.take_w 21 (by simp only[List.getElem?_toArray,List.getElem?_cons_succ,List.getElem?_cons_zero];rfl) (by kernel_rfl) (by kernel_rfl) (by kernel_rfl) ((.string (S.extract p (p+X.size)))) (by exact fun _ _ _ h=>h) (by rfl) (by intro W hSw;(obtain⟨⟨x0,x1,x2,x3,x4,x5⟩,-⟩:=hSw);go_simp) (by with_reducible exact hS) ?_
  try simp only[Act.put,List.setIfInBounds_toArray,List.set_cons_zero,List.set_cons_succ]
  refine wpAnyH_take (i:=22) (v:=?_) (by simp only[List.getElem?_toArray,List.getElem?_cons_succ,List.getElem?_cons_zero];rfl) (by kernel_rfl) (by kernel_rfl) (by kernel_rfl) (by exact fun _ _ _ h=>h) (Or.inl ⟨by rfl,?_⟩) (by with_reducible exact hS) ?_
  rotate_left
  ·intro W hSw;(obtain⟨⟨x0,x1,x2,x3,x4,x5⟩,-⟩:=hSw);go_simp;all_goals (with_reducible rfl)
  try simp only[Act.put,List.setIfInBounds_toArray,List.set_cons_zero,List.set_cons_succ]
  refine wpAnyH_take (i:=23) (v:=?_) (by simp only[List.getElem?_toArray,List.getElem?_cons_succ,List.getElem?_cons_zero];rfl) (by kernel_rfl) (by kernel_rfl) (by kernel_rfl) (by exact fun _ _ _ h=>h) (Or.inl ⟨by rfl,?_⟩) (by with_reducible exact hS) ?_
  rotate_left
  ·intro W hSw;(obtain⟨⟨x0,x1,x2,x3,x4,x5⟩,-⟩:=hSw);go_simp;all_goals (with_reducible rfl)
  try simp only[Act.put,List.setIfInBounds_toArray,List.set_cons_zero,List.set_cons_succ]
  refine Rg.take_w 24 (by simp only[List.getElem?_toArray,List.getElem?_cons_succ,List.getElem?_cons_zero];rfl) (by kernel_rfl) (by kernel_rfl) (by kernel_rfl) ((.bool true)) (by exact fun _ _ _ h=>h) (by rfl) (by intro W hSw;(obtain⟨⟨x0,x1,x2,x3,x4,x5⟩,-⟩:=hSw);go_simp) (by with_reducible exact hS) ?_
  try simp only[Act.put,List.setIfInBounds_toArray,List.set_cons_zero,List.set_cons_succ]
  refine wpAnyH_take (i:=25) (v:=?_) (by simp only[List.getElem?_toArray,List.getElem?_cons_succ,List.getElem?_cons_zero];rfl) (by kernel_rfl) (by kernel_rfl) (by kernel_rfl) (by exact fun _ _ _ h=>h) (Or.inl ⟨by rfl,?_⟩) (by with_reducible exact hS) ?_
  rotate_left
  ·intro W hSw;(obtain⟨⟨x0,x1,x2,x3,x4,x5⟩,-⟩:=hSw);go_simp;all_goals (with_reducible rfl)
  try simp only[Act.put,List.setIfInBounds_toArray,List.set_cons_zero,List.set_cons_succ]
  refine wpAnyH_done (by kernel_rfl) ?_ _
  have HS:=Lib.hid hS
  obtain⟨⟨x0,x1,x2,x3,x4,x5⟩,hbS⟩:=hS
  have HE:=Lib.hid hbS
  clear hbS
  go_wp2
  go_ret
  rw[← HV.out]
  exact⟨rfl,HE.out⟩
 have HY:=Lib.hid (HYS.out (by trivial) (by omega) (by omega) f3 (by omega) (HPR.out.1 f6))
 have u4:((S.extract p (p+X.size)).toList==X.toList)=true:=by rw[f6];simp
 clear f6
 have hS:=(HBX.out _ (Below.refl _ _).drew)
 refine wp_region_held_drew (S:=fun W=>BoxS W b xq X xt xp xn∧Below w.heap.size w W) (by kernel_rfl) hS (fun hHeld=>?_)
 refine wpAnyH_take (i:=0) (v:=?_) (by simp only[List.getElem?_toArray,List.getElem?_cons_zero];rfl) (by kernel_rfl) (by kernel_rfl) (by kernel_rfl) (by exact fun _ _ _ h=>h) (Or.inl ⟨by rfl,?_⟩) (by with_reducible exact hS) ?_
 rotate_left
 ·intro W hSw;(obtain⟨⟨x0,x1,x2,x3,x4,x5⟩,-⟩:=hSw);go_simp;all_goals (with_reducible rfl)
 try simp only[Act.put,List.setIfInBounds_toArray,List.set_cons_zero,List.set_cons_succ]
 refine wpAnyH_take (i:=1) (v:=?_) (by simp only[List.getElem?_toArray,List.getElem?_cons_succ,List.getElem?_cons_zero];rfl) (by kernel_rfl) (by kernel_rfl) (by kernel_rfl) (by exact fun _ _ _ h=>h) (Or.inl ⟨by rfl,?_⟩) (by with_reducible exact hS) ?_
 rotate_left
 ·intro W hSw;(obtain⟨⟨x0,x1,x2,x3,x4,x5⟩,-⟩:=hSw);go_simp;all_goals (with_reducible rfl)
 try simp only[Act.put,List.setIfInBounds_toArray,List.set_cons_zero,List.set_cons_succ]
 refine wpAnyH_take (i:=2) (v:=?_) (by simp only[List.getElem?_toArray,List.getElem?_cons_succ,List.getElem?_cons_zero];rfl) (by kernel_rfl) (by kernel_rfl) (by kernel_rfl) (by exact fun _ _ _ h=>h) (Or.inl ⟨by rfl,?_⟩) (by with_reducible exact hS) ?_
 rotate_left
 ·intro W hSw;(obtain⟨⟨x0,x1,x2,x3,x4,x5⟩,-⟩:=hSw);go_simp;all_goals (with_reducible rfl)
 try simp only[Act.put,List.setIfInBounds_toArray,List.set_cons_zero,List.set_cons_succ]
 refine wpAnyH_take (i:=3) (v:=?_) (by simp only[List.getElem?_toArray,List.getElem?_cons_succ,List.getElem?_cons_zero];rfl) (by kernel_rfl) (by kernel_rfl) (by kernel_rfl) (by exact fun _ _ _ h=>h) (Or.inl ⟨by rfl,?_⟩) (by with_reducible exact hS) ?_
 rotate_left
 ·intro W hSw;(obtain⟨⟨x0,x1,x2,x3,x4,x5⟩,-⟩:=hSw);go_simp;all_goals (with_reducible rfl)
 try simp only[Act.put,List.setIfInBounds_toArray,List.set_cons_zero,List.set_cons_succ]
 refine wpAnyH_take (i:=4) (v:=?_) (by simp only[List.getElem?_toArray,List.getElem?_cons_succ,List.getElem?_cons_zero];rfl) (by kernel_rfl) (by kernel_rfl) (by kernel_rfl) (by exact fun _ _ _ h=>h) (Or.inl ⟨by rfl,?_⟩) (by with_reducible exact hS) ?_
 rotate_left
 ·intro W hSw;(obtain⟨⟨x0,x1,x2,x3,x4,x5⟩,-⟩:=hSw);go_simp;all_goals (with_reducible rfl)
 try simp only[Act.put,List.setIfInBounds_toArray,List.set_cons_zero,List.set_cons_succ]
 refine wpAnyH_take (i:=5) (v:=?_) (by simp only[List.getElem?_toArray,List.getElem?_cons_succ,List.getElem?_cons_zero];rfl) (by kernel_rfl) (by kernel_rfl) (by kernel_rfl) (by exact fun _ _ _ h=>h) (Or.inl ⟨by rfl,?_⟩) (by with_reducible exact hS) ?_
 rotate_left
 ·intro W hSw;(obtain⟨⟨x0,x1,x2,x3,x4,x5⟩,-⟩:=hSw);go_simp;all_goals (with_reducible rfl)
 try simp only[Act.put,List.setIfInBounds_toArray,List.set_cons_zero,List.set_cons_succ]
 refine wpAnyH_take (i:=6) (v:=?_) (by simp only[List.getElem?_toArray,List.getElem?_cons_succ,List.getElem?_cons_zero];rfl) (by kernel_rfl) (by kernel_rfl) (by kernel_rfl) (by exact fun _ _ _ h=>h) (Or.inl ⟨by rfl,?_⟩) (by with_reducible exact hS) ?_
 rotate_left
 ·intro W hSw;(obtain⟨⟨x0,x1,x2,x3,x4,x5⟩,-⟩:=hSw);go_simp;all_goals (with_reducible rfl)
 try simp only[Act.put,List.setIfInBounds_toArray,List.set_cons_zero,List.set_cons_succ]
 refine wpAnyH_take (i:=7) (v:=?_) (by simp only[List.getElem?_toArray,List.getElem?_cons_succ,List.getElem?_cons_zero];rfl) (by kernel_rfl) (by kernel_rfl) (by kernel_rfl) (by exact fun _ _ _ h=>h) (Or.inl ⟨by rfl,?_⟩) (by with_reducible exact hS) ?_
 rotate_left
 ·intro W hSw;(obtain⟨⟨x0,x1,x2,x3,x4,x5⟩,-⟩:=hSw);go_simp;all_goals (with_reducible rfl)
 try simp only[Act.put,List.setIfInBounds_toArray,List.set_cons_zero,List.set_cons_succ]
 refine wpAnyH_take (i:=8) (v:=?_) (by simp only[List.getElem?_toArray,List.getElem?_cons_succ,List.getElem?_cons_zero];rfl) (by kernel_rfl) (by kernel_rfl) (by kernel_rfl) (by exact fun _ _ _ h=>h) (Or.inl ⟨by rfl,?_⟩) (by with_reducible exact hS) ?_
 rotate_left
 ·intro W hSw;(obtain⟨⟨x0,x1,x2,x3,x4,x5⟩,-⟩:=hSw);go_simp;all_goals (with_reducible rfl)
 try simp only[Act.put,List.setIfInBounds_toArray,List.set_cons_zero,List.set_cons_succ]
 refine wpAnyH_take (i:=9) (v:=?_) (by simp only[List.getElem?_toArray,List.getElem?_cons_succ,List.getElem?_cons_zero];rfl) (by kernel_rfl) (by kernel_rfl) (by kernel_rfl) (by exact fun _ _ _ h=>h) (Or.inl ⟨by rfl,?_⟩) (by with_reducible exact hS) ?_
 rotate_left
 ·intro W hSw;(obtain⟨⟨x0,x1,x2,x3,x4,x5⟩,-⟩:=hSw);go_simp;all_goals (with_reducible rfl)
 try simp only[Act.put,List.setIfInBounds_toArray,List.set_cons_zero,List.set_cons_succ]
 refine wpAnyH_take (i:=10) (v:=?_) (by simp only[List.getElem?_toArray,List.getElem?_cons_succ,List.getElem?_cons_zero];rfl) (by kernel_rfl) (by kernel_rfl) (by kernel_rfl) (by exact fun _ _ _ h=>h) (Or.inl ⟨by rfl,?_⟩) (by with_reducible exact hS) ?_
 rotate_left
 ·intro W hSw;(obtain⟨⟨x0,x1,x2,x3,x4,x5⟩,-⟩:=hSw);go_simp;all_goals (with_reducible rfl)
 try simp only[Act.put,List.setIfInBounds_toArray,List.set_cons_zero,List.set_cons_succ]
 refine wpAnyH_take (i:=11) (v:=?_) (by simp only[List.getElem?_toArray,List.getElem?_cons_succ,List.getElem?_cons_zero];rfl) (by kernel_rfl) (by kernel_rfl) (by kernel_rfl) (by exact fun _ _ _ h=>h) (Or.inl ⟨by rfl,?_⟩) (by with_reducible exact hS) ?_
 rotate_left
 ·intro W hSw;(obtain⟨⟨x0,x1,x2,x3,x4,x5⟩,-⟩:=hSw);go_simp;all_goals (with_reducible rfl)
 try simp only[Act.put,List.setIfInBounds_toArray,List.set_cons_zero,List.set_cons_succ]
 refine Rg.take_w 12 (by simp only[List.getElem?_toArray,List.getElem?_cons_succ,List.getElem?_cons_zero];rfl) (by kernel_rfl) (by kernel_rfl) (by kernel_rfl) ((.int .i64 ((S.size:Int) - (p:Int)))) (by exact fun _ _ _ h=>h) (by rfl) (by intro W hSw;(obtain⟨⟨x0,x1,x2,x3,x4,x5⟩,-⟩:=hSw);go_simp) (by with_reducible exact hS) ?_
 try simp only[Act.put,List.setIfInBounds_toArray,List.set_cons_zero,List.set_cons_succ]
 refine wpAnyH_take (i:=13) (v:=?_) (by simp only[List.getElem?_toArray,List.getElem?_cons_succ,List.getElem?_cons_zero];rfl) (by kernel_rfl) (by kernel_rfl) (by kernel_rfl) (by exact fun _ _ _ h=>h) (Or.inl ⟨by rfl,?_⟩) (by with_reducible exact hS) ?_
 rotate_left
 ·intro W hSw;(obtain⟨⟨x0,x1,x2,x3,x4,x5⟩,-⟩:=hSw);go_simp;all_goals (with_reducible rfl)
 try simp only[Act.put,List.setIfInBounds_toArray,List.set_cons_zero,List.set_cons_succ]
 refine wpAnyH_take (i:=14) (v:=?_) (by simp only[List.getElem?_toArray,List.getElem?_cons_succ,List.getElem?_cons_zero];rfl) (by kernel_rfl) (by kernel_rfl) (by kernel_rfl) (by exact fun _ _ _ h=>h) (Or.inl ⟨by rfl,?_⟩) (by with_reducible exact hS) ?_
 rotate_left
 ·intro W hSw;(obtain⟨⟨x0,x1,x2,x3,x4,x5⟩,-⟩:=hSw);go_simp;all_goals (with_reducible rfl)
 try simp only[Act.put,List.setIfInBounds_toArray,List.set_cons_zero,List.set_cons_succ]
 refine wpAnyH_take (i:=15) (v:=?_) (by simp only[List.getElem?_toArray,List.getElem?_cons_succ,List.getElem?_cons_zero];rfl) (by kernel_rfl) (by kernel_rfl) (by kernel_rfl) (by exact fun _ _ _ h=>h) (Or.inl ⟨by rfl,?_⟩) (by with_reducible exact hS) ?_
 rotate_left
 ·intro W hSw;(obtain⟨⟨x0,x1,x2,x3,x4,x5⟩,-⟩:=hSw);go_simp;all_goals (with_reducible rfl)
 try simp only[Act.put,List.setIfInBounds_toArray,List.set_cons_zero,List.set_cons_succ]
 refine wpAnyH_take (i:=16) (v:=?_) (by simp only[List.getElem?_toArray,List.getElem?_cons_succ,List.getElem?_cons_zero];rfl) (by kernel_rfl) (by kernel_rfl) (by kernel_rfl) (by exact fun _ _ _ h=>h) (Or.inl ⟨by rfl,?_⟩) (by with_reducible exact hS) ?_
 rotate_left
 ·intro W hSw;(obtain⟨⟨x0,x1,x2,x3,x4,x5⟩,-⟩:=hSw);go_simp;all_goals (with_reducible rfl)
 try simp only[Act.put,List.setIfInBounds_toArray,List.set_cons_zero,List.set_cons_succ]
 refine wpAnyH_take (i:=17) (v:=?_) (by simp only[List.getElem?_toArray,List.getElem?_cons_succ,List.getElem?_cons_zero];rfl) (by kernel_rfl) (by kernel_rfl) (by kernel_rfl) (by exact fun _ _ _ h=>h) (Or.inl ⟨by rfl,?_⟩) (by with_reducible exact hS) ?_
 rotate_left
 ·intro W hSw;(obtain⟨⟨x0,x1,x2,x3,x4,x5⟩,-⟩:=hSw);go_simp;all_goals (with_reducible rfl)
 try simp only[Act.put,List.setIfInBounds_toArray,List.set_cons_zero,List.set_cons_succ]
 refine wpAnyH_take (i:=18) (v:=?_) (by simp only[List.getElem?_toArray,List.getElem?_cons_succ,List.getElem?_cons_zero];rfl) (by kernel_rfl) (by kernel_rfl) (by kernel_rfl) (by exact fun _ _ _ h=>h) (Or.inl ⟨by rfl,?_⟩) (by with_reducible exact hS) ?_
 rotate_left
 ·intro W hSw;(obtain⟨⟨x0,x1,x2,x3,x4,x5⟩,-⟩:=hSw);go_simp;all_goals (with_reducible rfl)
 try simp only[Act.put,List.setIfInBounds_toArray,List.set_cons_zero,List.set_cons_succ]
 refine wpAnyH_take (i:=19) (v:=?_) (by simp only[List.getElem?_toArray,List.getElem?_cons_succ,List.getElem?_cons_zero];rfl) (by kernel_rfl) (by kernel_rfl) (by kernel_rfl) (by exact fun _ _ _ h=>h) (Or.inl ⟨by rfl,?_⟩) (by with_reducible exact hS) ?_
 rotate_left
 ·intro W hSw;(obtain⟨⟨x0,x1,x2,x3,x4,x5⟩,-⟩:=hSw);go_simp;all_goals (with_reducible rfl)
 try simp only[Act.put,List.setIfInBounds_toArray,List.set_cons_zero,List.set_cons_succ]
 refine Rg.take_w 20 (by simp only[List.getElem?_toArray,List.getElem?_cons_succ,List.getElem?_cons_zero];rfl) (by kernel_rfl) (by kernel_rfl) (by kernel_rfl) ((.int .i64 ((p:Int)+(X.size:Int)))) (by exact fun _ _ _ h=>h) (by rfl) (by intro W hSw;(obtain⟨⟨x0,x1,x2,x3,x4,x5⟩,-⟩:=hSw);go_simp) (by with_reducible exact hS) ?_
 try simp only[Act.put,List.setIfInBounds_toArray,List.set_cons_zero,List.set_cons_succ]
 refine Rg.take_w 21 (by simp only[List.getElem?_toArray,List.getElem?_cons_succ,List.getElem?_cons_zero];rfl) (by kernel_rfl) (by kernel_rfl) (by kernel_rfl) ((.string (S.extract p (p+X.size)))) (by exact fun _ _ _ h=>h) (by rfl) (by intro W hSw;(obtain⟨⟨x0,x1,x2,x3,x4,x5⟩,-⟩:=hSw);go_simp) (by with_reducible exact hS) ?_
 try simp only[Act.put,List.setIfInBounds_toArray,List.set_cons_zero,List.set_cons_succ]
 refine wpAnyH_take (i:=22) (v:=?_) (by simp only[List.getElem?_toArray,List.getElem?_cons_succ,List.getElem?_cons_zero];rfl) (by kernel_rfl) (by kernel_rfl) (by kernel_rfl) (by exact fun _ _ _ h=>h) (Or.inl ⟨by rfl,?_⟩) (by with_reducible exact hS) ?_
 rotate_left
 ·intro W hSw;(obtain⟨⟨x0,x1,x2,x3,x4,x5⟩,-⟩:=hSw);go_simp;all_goals (with_reducible rfl)
 try simp only[Act.put,List.setIfInBounds_toArray,List.set_cons_zero,List.set_cons_succ]
 refine wpAnyH_take (i:=23) (v:=?_) (by simp only[List.getElem?_toArray,List.getElem?_cons_succ,List.getElem?_cons_zero];rfl) (by kernel_rfl) (by kernel_rfl) (by kernel_rfl) (by exact fun _ _ _ h=>h) (Or.inl ⟨by rfl,?_⟩) (by with_reducible exact hS) ?_
 rotate_left
 ·intro W hSw;(obtain⟨⟨x0,x1,x2,x3,x4,x5⟩,-⟩:=hSw);go_simp;all_goals (with_reducible rfl)
 try simp only[Act.put,List.setIfInBounds_toArray,List.set_cons_zero,List.set_cons_succ]
 refine Rg.take_w 24 (by simp only[List.getElem?_toArray,List.getElem?_cons_succ,List.getElem?_cons_zero];rfl) (by kernel_rfl) (by kernel_rfl) (by kernel_rfl) ((.bool false)) (by exact fun _ _ _ h=>h) (by rfl) (by intro W hSw;(obtain⟨⟨x0,x1,x2,x3,x4,x5⟩,-⟩:=hSw);go_simp) (by with_reducible exact hS) ?_
 try simp only[Act.put,List.setIfInBounds_toArray,List.set_cons_zero,List.set_cons_succ]
 refine wpAnyH_take (i:=25) (v:=?_) (by simp only[List.getElem?_toArray,List.getElem?_cons_succ,List.getElem?_cons_zero];rfl) (by kernel_rfl) (by kernel_rfl) (by kernel_rfl) (by exact fun _ _ _ h=>h) (Or.inl ⟨by rfl,?_⟩) (by with_reducible exact hS) ?_
 rotate_left
 ·intro W hSw;(obtain⟨⟨x0,x1,x2,x3,x4,x5⟩,-⟩:=hSw);go_simp;all_goals (with_reducible rfl)
 try simp only[Act.put,List.setIfInBounds_toArray,List.set_cons_zero,List.set_cons_succ]
 refine wpAnyH_done (by kernel_rfl) ?_ _
 have HS:=Lib.hid hS
 obtain⟨⟨x0,x1,x2,x3,x4,x5⟩,hbS⟩:=hS
 have HE:=Lib.hid hbS
 clear hbS
 rw[HWB.out]at HY
 by_cases g1:xq=1
 ·subst g1
  have HV:=Lib.hid (show true=ev from by rw[HY.out];exact(decide_eq_true (by omega)).symm)
  go_wp2
  go_ret
  rw[← HV.out]
  exact⟨rfl,HE.out⟩
 have q1:(xq==1)=false:=beq_eq_false_iff_ne.2 g1
 by_cases g2:xq=2
 ·subst g2
  by_cases k0:p=0
  ·have v1:((p:Int)==0)=true:=beq_iff_eq.2 (by omega)
   have HV:=Lib.hid (show true=ev from by rw[HY.out];exact(decide_eq_true (by omega)).symm)
   go_wp2
   go_ret
   rw[← HV.out]
   exact⟨rfl,HE.out⟩
  ·have v1:((p:Int)==0)=false:=beq_eq_false_iff_ne.2 (by omega)
   have HV:=Lib.hid (show false=ev from by rw[HY.out];exact(decide_eq_false (by omega)).symm)
   go_wp2
   go_ret
   rw[← HV.out]
   exact⟨rfl,HE.out⟩
 have q2:(xq==2)=false:=beq_eq_false_iff_ne.2 g2
 by_cases g3:xq=3
 ·subst g3
  by_cases k0:p=0
  ·have v1:decide ((0:Int)<(p:Int))=false:=decide_eq_false (by omega)
   have v2:decide (0<p)=false:=decide_eq_false (by omega)
   have HV:=Lib.hid (show false=ev from by rw[HY.out];exact(decide_eq_false (by omega)).symm)
   go_wp2
   go_ret
   rw[← HV.out]
   exact⟨rfl,HE.out⟩
  ·have v1:decide ((0:Int)<(p:Int))=true:=decide_eq_true (by omega)
   have v2:decide (0<p)=true:=decide_eq_true (by omega)
   have HV:=Lib.hid (show true=ev from by rw[HY.out];exact(decide_eq_true (by omega)).symm)
   go_wp2
   go_ret
   rw[← HV.out]
   exact⟨rfl,HE.out⟩
 have q3:(xq==3)=false:=beq_eq_false_iff_ne.2 g3
 by_cases g4:xq=4
 rotate_left
 ·have q4:(xq==4)=false:=beq_eq_false_iff_ne.2 g4
  have HV:=Lib.hid (show false=ev from by rw[HY.out];exact(decide_eq_false (by omega)).symm)
  go_wp2
  go_ret
  rw[← HV.out]
  exact⟨rfl,HE.out⟩
 subst g4
 by_cases k0:p=0
 ·have v1:decide ((0:Int)<(p:Int))=false:=decide_eq_false (by omega)
  have v2:decide (0<p)=false:=decide_eq_false (by omega)
  have HV:=Lib.hid (show false=ev from by rw[HY.out];exact(decide_eq_false (by omega)).symm)
  go_wp2
  go_ret
  rw[← HV.out]
  exact⟨rfl,HE.out⟩
 have v1:decide ((0:Int)<(p:Int))=true:=decide_eq_true (by omega)
 have v2:decide (0<p)=true:=decide_eq_true (by omega)
 by_cases k1:p+X.size=S.size
 ·have v3:((p:Int)+(X.size:Int)==(S.size:Int))=true:=beq_iff_eq.2 (by omega)
  have HV:=Lib.hid (show true=ev from by rw[HY.out];exact(decide_eq_true (by omega)).symm)
  go_wp2
  go_ret
  rw[← HV.out]
  exact⟨rfl,HE.out⟩
 have v3:((p:Int)+(X.size:Int)==(S.size:Int))=false:=beq_eq_false_iff_ne.2 (by omega)
 have HV:=Lib.hid (show false=ev from by rw[HY.out];exact(decide_eq_false (by omega)).symm)
 go_wp2
 go_ret
 rw[← HV.out]
 exact⟨rfl,HE.out⟩
end Go.Proofs.YtlgejmcihchngaaGreatDoor.Pa
