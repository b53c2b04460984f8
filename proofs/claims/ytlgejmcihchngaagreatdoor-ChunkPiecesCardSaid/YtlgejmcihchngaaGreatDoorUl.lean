/-
  Put together: RuC, RuD, RuE.
-/
import Derived.Test.YtlgejmcihchngaaGreatDoorUh
import Derived.Test.YtlgejmcihchngaaGreatDoorUi
import Derived.Test.YtlgejmcihchngaaGreatDoorVg
import Derived.Lib.LaidTab
import Derived.Lib.Space
import Derived.Test.YtlgejmcihchngaaGreatDoorVa
import Derived.Test.YtlgejmcihchngaaGreatDoorUj
import Derived.BigQuiet
import Derived.Deep.DeepCutAuto
import Derived.BigRegion
import Derived.Deep.RegionLaw
import Derived.Deep.RegionWith
import Derived.Deep.RegionHeld3
import Derived.Deep.QuietTactic
import Derived.Deep.AppendLies
namespace Go.Proofs.YtlgejmcihchngaaGreatDoor.Ru
open Go.RowKit Ba
def prC (c:List Nat):Option (List Nat):=if (∀ x ∈ c,x<256)∧Ce.printOK (Ce.bytesOf c) then some (Ce.printT c) else none
def psC (t:List Nat):Option (List Nat):=if ∀ x ∈ t,x<256 then Ce.parseL (Ce.bytesOf t) else none
theorem parseE_of {s:ByteArray} {l:List Nat} (h:Ce.parseL s=some l):Ce.parseE s=0∧Ce.parseV s=Ce.bytesOf l∧(∀ y ∈ l,y<256):=by
 have hl:=Ce.pSt_le (show Ce.pSt s (Ce.partsA s 0)=some l from h)
 exact⟨by unfold Ce.parseE;rw[h],by unfold Ce.parseV;rw[h],fun y hy=>Nat.lt_trans (hl.2 y hy) (by decide)⟩
theorem parseL_of {s:ByteArray} (h:Ce.parseE s=0):∃ l,Ce.parseL s=some l:=by
 unfold Ce.parseE at h
 cases e:Ce.parseL s with
 | none=>rw[e]at h;cases h
 | some l=>exact⟨l,rfl⟩
theorem printT_dig:∀ (l:List Nat),∀ x ∈ Ce.printT l,x=45∨49≤x∧x≤54
 | [],x,h=>by simp[Ce.printT]at h
 | [y],x,h=>by
  simp only[Ce.printT,Ce.dotsN,List.mem_map,List.mem_filter,List.mem_range]at h
  obtain⟨i,⟨hi,_⟩,rfl⟩:=h
  omega
 | y::z::r,x,h=>by
  simp only[Ce.printT,List.mem_append,List.mem_cons]at h
  rcases h with h | rfl | h
  ·simp only[Ce.dotsN,List.mem_map,List.mem_filter,List.mem_range]at h
   obtain⟨i,⟨hi,_⟩,rfl⟩:=h
   omega
  ·exact .inl rfl
  ·exact printT_dig (z::r) x h
theorem cellLaw:CellLaw prC psC where
 there:=fun c t h=>by
  unfold prC at h
  by_cases hc:(∀ x ∈ c,x<256)∧Ce.printOK (Ce.bytesOf c)
  ·rw[if_pos hc]at h
   cases h
   obtain⟨h1,h2,h3⟩:=Ce.print_there _ hc.2
   have hV:Ce.printV (Ce.bytesOf c)=Ce.bytesOf (Ce.printT c):=by unfold Ce.printV;rw[if_pos hc.2,Ce.bytesN_bytesOf _ hc.1]
   rw[hV]at h1 h3
   obtain⟨l,hl⟩:=parseL_of h3
   obtain⟨-,e2,e3⟩:=parseE_of hl
   unfold psC
   rw[if_pos (Ce.printT_lt c),hl]
   rw[e2]at h1
   have:=congrArg Ce.bytesN h1
   rw[Ce.bytesN_bytesOf _ e3,Ce.bytesN_bytesOf _ hc.1]at this
   rw[this]
  ·rw[if_neg hc]at h;cases h
 back:=fun t c h=>by
  unfold psC at h
  by_cases ht:∀ x ∈ t,x<256
  ·rw[if_pos ht]at h
   obtain⟨e1,e2,e3⟩:=parseE_of h
   obtain⟨h1,h2⟩:=Ce.parse_there _ e1
   rw[e2]at h1 h2
   rcases Ce.print_cases (Ce.bytesOf c) with⟨hok,-,hV⟩ | hE
   ·unfold prC
    rw[if_pos ⟨e3,hok⟩]
    rw[h1,Ce.bytesN_bytesOf _ e3]at hV
    have:=congrArg Ce.bytesN hV
    rw[Ce.bytesN_bytesOf _ ht,Ce.bytesN_bytesOf _ (Ce.printT_lt c)]at this
    rw[this]
   ·rw[hE]at h2;cases h2
  ·rw[if_neg ht]at h;cases h
 free:=fun c t h=>by
  unfold prC at h
  split at h
  ·cases h
   exact⟨fun k=>by have:=printT_dig c _ k;omega,fun k=>by have:=printT_dig c _ k;omega⟩
  ·cases h
def parseZ (s:ByteArray):List Rl × Nat × Nat:=parseR psC (bytesN s)
def cR (x:Rl):List Value:=[.int .i64 x.what,.string (bytesOf x.left),.string (bytesOf x.cells),.int .i64 x.prio,.int .i64 x.line]
theorem cR_len (x:Rl):(cR x).length=5:=rfl
abbrev ReadsR (off:Nat) (w:World) (B:Nat) (v:Value) (l:List Rl):Prop:=Reads cR 5 off w B v l
def I64 (z:Int):Prop:=-9223372036854775808≤z∧z≤9223372036854775807
def FitR (x:Rl):Prop:=I64 x.what∧I64 x.prio∧I64 x.line∧(∀ b ∈ x.left,b<256)∧(∀ b ∈ x.cells,b<256)∧x.left.length≤maxLen∧x.cells.length≤maxLen
def aggR (x:Rl):Value:=.agg #[.int .i64 x.what,.string (bytesOf x.left),.string (bytesOf x.cells),.int .i64 x.prio,.int .i64 x.line]
def CapsR (v:Value):Prop:=∀ A n c,v=.slice A n c→n≤c∧c≤maxLen
def firstR (l:List Rl) (k:Int) (s:List Nat):List Nat:=((l.find? fun x=>x.what==k && x.left==s).map (·.cells)).getD []
def cS (s:List Nat):List Value:=[.string (bytesOf s)]
def wordsT:List (List Nat):=[]::wordsL
theorem gSpace:Tryz.prog.globalNamed "strings.asciiSpace"=some 1:=by kernel_rfl
theorem tabIs_below {w w':World} {n:String} {g:Nat} {k:IntKind} {zs:List Int} {B:Nat} (hg:Tryz.prog.globalNamed n=some g) (h:Lib.TabIs Tryz.prog w n k zs) (hb:Below B w w') (hB:g<B):Lib.TabIs Tryz.prog w' n k zs:=by
 unfold Lib.TabIs World.var? at h ⊢
 rw[hg]at h ⊢
 simp only[Option.bind_some]at h ⊢
 rw[hb.block g hB]
 exact h
def topG:Nat:=max 0 1
def LaidR (w:World):Prop:=topG<w.heap.size∧Ka.Laid w∧Lib.TabIs Tryz.prog w "strings.asciiSpace" .u8 Lib.asciiSpaceTab
theorem LaidR.below {w w':World} {B:Nat} (h:LaidR w) (hb:Below B w w') (hB:topG<B):LaidR w':=by
 obtain⟨h0,h1,h5⟩:=h
 unfold topG at hB
 exact⟨Nat.lt_of_lt_of_le h0 hb.size,h1.below hb (by omega),tabIs_below gSpace h5 hb (by omega)⟩
theorem LaidR.space {w:World} (h:LaidR w):Lib.TabIs Tryz.prog w "strings.asciiSpace" .u8 Lib.asciiSpaceTab:=h.2.2
theorem LaidR.ka {w:World} (h:LaidR w):Ka.Laid w:=h.2.1
theorem LaidR.kept {w w':World} (h:LaidR w) (hb:Below w.heap.size w w'):LaidR w':=h.below hb h.1
end Go.Proofs.YtlgejmcihchngaaGreatDoor.Ru
namespace Go.Proofs.YtlgejmcihchngaaGreatDoor.Ru
open Go.RowKit Ba
theorem infoS:(Tryz.prog.info? 9).map (fun i=>(i.zero,i.size,i.bytes))=some (some (.string { data:=#[] }),1,16):=by kernel_rfl
theorem split_last {c:Nat} {L:List Nat} {f:Nat} (hn:∀ j,f≤j→j<L.length→L.getD j 0≠c):splitL c (L.drop f)=[L.drop f]:=by
 refine split_no fun h=>?_
 obtain⟨j,hj⟩:=List.mem_iff_getElem?.1 h
 rw[List.getElem?_drop]at hj
 exact hn (f+j) (by omega) (List.getElem?_eq_some_iff.1 hj).1 (by rw[List.getD_eq_getElem?_getD,hj];rfl)
theorem split_drop {c:Nat} {L:List Nat} {f i:Nat} (hfi:f≤i) (hi:i<L.length) (hc:L.getD i 0=c) (hn:∀ j,f≤j→j<i→L.getD j 0≠c):splitL c (L.drop f)=(L.drop f).take (i - f)::splitL c (L.drop (i+1)):=by
 have hL:L.drop f=(L.drop f).take (i - f)++c::L.drop (i+1):=by
  conv=>lhs;rw[← List.take_append_drop (i - f) (L.drop f)]
  congr 1
  rw[List.drop_drop,show f+(i - f)=i by omega,List.drop_eq_getElem_cons hi]
  congr 1
  rw[← hc,List.getD_eq_getElem?_getD,List.getElem?_eq_getElem hi];rfl
 conv=>lhs;rw[hL]
 refine split_at _ fun h=>?_
 obtain⟨j,hj⟩:=List.mem_iff_getElem?.1 h
 rw[List.getElem?_take]at hj
 split at hj
 ·rename_i hlt
  rw[List.getElem?_drop]at hj
  exact hn (f+j) (by omega) (by omega) (by rw[List.getD_eq_getElem?_getD,hj];rfl)
 ·cases hj
def FldAt (c:Nat) (s:ByteArray) (P:List (List Nat)) (f k:Nat):Prop :=
 (k≤s.size∧f≤k∧(∀ j,f≤j→j<k→bAt s j≠c)∧splitL c (bytesN s)=P++splitL c ((bytesN s).drop f))∨(k=s.size+1∧splitL c (bytesN s)=P)
theorem FldAt.zero (c:Nat) (s:ByteArray):FldAt c s [] 0 0:=.inl ⟨Nat.zero_le _,Nat.le_refl _,fun j h1 h2=>by omega,rfl⟩
theorem FldAt.step {c:Nat} {s:ByteArray} {P:List (List Nat)} {f k:Nat} (h:FldAt c s P f k) (hk:k<s.size) (hn:bAt s k≠c):FldAt c s P f (k+1):=by
 rcases h with⟨h1,h2,h3,h4⟩ | ⟨h1,_⟩
 ·refine .inl ⟨by omega,by omega,fun j j1 j2=>?_,h4⟩
  rcases Nat.lt_or_ge j k with j3 | j3
  ·exact h3 j j1 j3
  ·obtain rfl:j=k:=by omega
   exact hn
 ·omega
theorem FldAt.from {c:Nat} {s:ByteArray} {P:List (List Nat)} {f k:Nat} (h:FldAt c s P f k) (hk:k≤s.size):f≤k:=by
 rcases h with⟨_,h2,_⟩ | ⟨h1,_⟩<;>omega
theorem FldAt.cut {c:Nat} {s:ByteArray} {P:List (List Nat)} {f k:Nat} (h:FldAt c s P f k) (hk:k≤s.size) (hc:k<s.size→bAt s k=c):FldAt c s (P++[bytesN (s.extract f k)]) (k+1) (k+1):=by
 rcases h with⟨h1,h2,h3,h4⟩ | ⟨h1,_⟩
 ·have hl:=bytesN_len s
  rw[bytesN_ext]
  rcases Nat.lt_or_ge k s.size with hlt | hge
  ·refine .inl ⟨by omega,Nat.le_refl _,fun j j1 j2=>by omega,?_⟩
   rw[h4,split_drop h2 (by omega) (hc hlt) h3,List.append_assoc];rfl
  ·refine .inr ⟨by omega,?_⟩
   rw[h4,split_last fun j j1 j2=>h3 j j1 (by omega)]
   congr 2
   rw[List.take_of_length_le (by rw[List.length_drop];omega)]
 ·omega
theorem FldAt.done {c:Nat} {s:ByteArray} {P:List (List Nat)} {f:Nat} (h:FldAt c s P f (s.size+1)):splitL c (bytesN s)=P:=by
 rcases h with⟨h1,_⟩ | ⟨_,h2⟩
 ·omega
 ·exact h2
theorem rowsS_snoc (P:List (List Nat)) (t:ByteArray):rows cS (P++[bytesN t])=rows cS P++[.string t]:=by
 rw[rows_snoc]
 show _++[Value.string (bytesOf (bytesN t))]=_
 rw[bytesOf_bytesN]
theorem cS_len (x:List Nat):(cS x).length=1:=rfl
def FldsTo (P:List (List Nat)) (w:World) (e:Ending) (w':World):Prop:=∃ v,e=.returned v∧w'.ownsRow w.heap.size 9 1 v P.length (rows cS P)∧Below w.heap.size w w'
set_option maxRecDepth 100000 in
set_option maxHeartbeats 4000000 in
theorem rfields_any (s:ByteArray) (hs:s.size≤70000) (w:World):Calls Tryz.prog 126 #[.string s] w (FldsTo (splitL 32 (bytesN s)) w):=by
 obtain⟨i0,hi0,hz0,hz1,hz2⟩:=info_parts infoS
 go_enter Tryz.func126,Tryz.ntmps126
 go_wp2
 go_loopw [3,4,5] (fun v u i wr=>∃ (k f m:Nat) (P:List (List Nat)),i=.int .i64 k∧u=.int .i64 f∧k≤s.size+1∧FldAt 32 s P f k∧P.length=m∧m≤k∧wr.ownsRow w.heap.size 9 1 v m (rows cS P)∧Below w.heap.size w wr) (fun _ _ i _=>s.size+1 - (intOf i).toNat)
 case atStart=>exact⟨0,0,0,[],rfl,rfl,by omega,FldAt.zero _ _,rfl,Nat.le_refl _,World.ownsRow_nil _ _ _ _,Below.refl _ _⟩
 case round =>
  obtain⟨k,f,m,P,rfl,rfl,hk,hS,hm,hmk,hown,hB⟩:=hrel
  have hsz:=hB.size
  by_cases hk2:k≤s.size
  ·have hfk:=hS.from hk2
   by_cases hgo:k<s.size∧bAt s k≠32
   ·obtain⟨hlt,hne⟩:=hgo
    have E1:=bAt_get s k hlt
    have HEND:=Lib.hid (show FldAt 32 s P f (k+1)∧P.length=m∧wr.ownsRow w.heap.size 9 1 u3 m (rows cS P)∧Below w.heap.size w wr from ⟨hS.step hlt hne,hm,hown,hB⟩)
    obtain⟨b,hb⟩:∃ b,bAt s k=b:=⟨_,rfl⟩
    rw[hb]at E1 hne
    have t1:((b:Int)==32)=false:=beq_eq_false_iff_ne.2 (by omega)
    have t2:((k:Int)==(s.size:Int))=false:=beq_eq_false_iff_ne.2 (by omega)
    clear hb hne hS hm hown hB
    go_wp2
    go_roundw
    case rel=>exact⟨k+1,f,m,P,by go_num,rfl,by omega,HEND.out.1,HEND.out.2.1,by omega,HEND.out.2.2.1,HEND.out.2.2.2⟩
    case measure=>simp[intOf];omega
   ·have HOWN:=Lib.hid hown
    have HB:=Lib.hid hB
    have HLT:=Lib.hid hown.lt
    have HEND:=Lib.hid (show FldAt 32 s (P++[bytesN (s.extract f k)]) (k+1) (k+1)∧(P++[bytesN (s.extract f k)]).length=m+1∧rows cS (P++[bytesN (s.extract f k)])=rows cS P++[.string (s.extract f k)] from
     ⟨hS.cut hk2 (fun h=>Classical.byContradiction fun h2=>hgo ⟨h,h2⟩),by rw[List.length_append,hm];rfl,rowsS_snoc P _⟩)
    clear hS hm
    by_cases hlt:k<s.size
    ·have E1:=bAt_get s k hlt
     have hb:bAt s k=32:=Classical.byContradiction fun h=>hgo ⟨hlt,h⟩
     rw[hb]at E1
     have t2:((k:Int)==(s.size:Int))=false:=beq_eq_false_iff_ne.2 (by omega)
     clear hgo hb hB
     rcases hown.2 with⟨rfl,-⟩ | ⟨g,cap,cur,rfl,-⟩
     all_goals
      clear hown
      go_wp2_with (at_builtin;go_loud (refine wpList_append_own _ rfl _ _ 98 rfl w.heap.size 9 i0 _ 1 16 Tryz.underlying98 hi0 hz0 hz1 hz2 rfl (by decide) _ _ _ rfl (HOWN.out.alloc _) ⟨wr.heap.size,0,none⟩ 1 1 [.string (s.extract f k)] rfl rfl (cell_one_new _ _ _) (by simp[Value.oneCell']) (by unfold maxLen;omega) (by omega) (by simp;omega) ?_);intro v' w1 hown' hgrow _;have HF:=Lib.hid (show w1.ownsRow w.heap.size 9 1 v' (m+1) (rows cS (P++[bytesN (s.extract f k)]))∧Below w.heap.size w w1 from ⟨by rw[HEND.out.2.2];exact hown',(HB.out.alloc (by omega) _).grown hgrow (by simp;omega) (fun j ej=>(HLT.out j ej).1)⟩);clear hown' hgrow)
      go_roundw
      case rel=>exact⟨k+1,k+1,m+1,_,by go_num,by go_num,by omega,HEND.out.1,HEND.out.2.1,by omega,HF.out.1,HF.out.2⟩
      case measure=>simp[intOf];omega
    ·obtain rfl:k=s.size:=by omega
     clear hgo hlt hB
     rcases hown.2 with⟨rfl,-⟩ | ⟨g,cap,cur,rfl,-⟩
     all_goals
      clear hown
      go_wp2_with (at_builtin;go_loud (refine wpList_append_own _ rfl _ _ 98 rfl w.heap.size 9 i0 _ 1 16 Tryz.underlying98 hi0 hz0 hz1 hz2 rfl (by decide) _ _ _ rfl (HOWN.out.alloc _) ⟨wr.heap.size,0,none⟩ 1 1 [.string (s.extract f s.size)] rfl rfl (cell_one_new _ _ _) (by simp[Value.oneCell']) (by unfold maxLen;omega) (by omega) (by simp;omega) ?_);intro v' w1 hown' hgrow _;have HF:=Lib.hid (show w1.ownsRow w.heap.size 9 1 v' (m+1) (rows cS (P++[bytesN (s.extract f s.size)]))∧Below w.heap.size w w1 from ⟨by rw[HEND.out.2.2];exact hown',(HB.out.alloc (by omega) _).grown hgrow (by simp;omega) (fun j ej=>(HLT.out j ej).1)⟩);clear hown' hgrow)
      go_roundw
      case rel=>exact⟨s.size+1,s.size+1,m+1,_,by go_num,by go_num,by omega,HEND.out.1,HEND.out.2.1,by omega,HF.out.1,HF.out.2⟩
      case measure=>simp[intOf]
  ·obtain rfl:k=s.size+1:=by omega
   have HFIN:=Lib.hid (show FldsTo (splitL 32 (bytesN s)) w (.returned u3) wr from ⟨u3,rfl,by rw[hS.done,hm];exact hown,hB⟩)
   clear hS hm hown hB
   go_wp2
   go_ret
   exact HFIN.out
def digI (l:List Nat):Int:=match digA l with | some n=>((n:Nat):Int) | none=>-1
theorem bytes1 {s:ByteArray} (h:s.size=1):bytesN s=[bAt s 0]:=by
 have hl:=bytesN_len s
 unfold bAt
 cases hL:bytesN s with
 | nil=>rw[hL,h]at hl;cases hl
 | cons x r =>
  rw[hL,h]at hl
  obtain rfl:r=[]:=List.length_eq_zero_iff.1 (by simpa using hl)
  rfl
theorem bytes2 {s:ByteArray} (h:s.size=2):bytesN s=[bAt s 0,bAt s 1]:=by
 have hl:=bytesN_len s
 unfold bAt
 cases hL:bytesN s with
 | nil=>rw[hL,h]at hl;cases hl
 | cons x r =>
  rw[hL,h,List.length_cons]at hl
  cases r with
  | nil=>simp at hl
  | cons y q =>
   obtain rfl:q=[]:=List.length_eq_zero_iff.1 (by simpa using hl)
   rfl
theorem digI_else {l:List Nat} (h1:l.length≠1) (h2:l.length≠2):digI l = -1:=by
 unfold digI digA
 match l,h1,h2 with
 | [],_,_=>rfl
 | [a],h,_=>exact absurd rfl h
 | [a,b],_,h=>exact absurd rfl h
 | a::b::c::r,_,_=>rfl
theorem digI_1 (b:Nat):digI [b]=if 48≤b∧b≤57 then ((b - 48:Nat):Int) else -1:=by
 unfold digI digA
 by_cases h:48≤b∧b≤57
 ·simp only[if_pos h]
 ·simp only[if_neg h]
theorem digI_2 (a b:Nat):digI [a,b]=if (49≤a∧a≤57)∧48≤b∧b≤57 then ((10 * (a - 48)+(b - 48):Nat):Int) else -1:=by
 unfold digI digA
 by_cases h:(49≤a∧a≤57)∧48≤b∧b≤57
 ·simp only[if_pos h]
 ·simp only[if_neg h]
set_option maxHeartbeats 2000000 in
theorem rdigits_any (s:ByteArray) (hs:s.size≤70000) (w:World):Calls Tryz.prog 129 #[.string s] w fun e w'=>e=.returned (.int .i64 (digI (bytesN s)))∧∃ n,w'=w.drewN n:=by
 by_cases h1:s.size=1
 ·have hlt:0<s.size:=by omega
  have E0:=bAt_get s 0 hlt
  have hb2:=bAt_lt s 0
  have HZ:=Lib.hid (show digI (bytesN s)=digI [bAt s 0] by rw[bytes1 h1])
  obtain⟨b,hb⟩:∃ b,bAt s 0=b:=⟨_,rfl⟩
  rw[hb]at E0 hb2 HZ
  have HD:=Lib.hid (digI_1 b)
  have t1:((s.size:Int)==1)=true:=by rw[h1];rfl
  have t2:((s.size:Int)==2)=false:=by rw[h1];rfl
  clear h1 hb
  by_cases c1:48≤b
  ·by_cases c2:b≤57
   ·go_enter Tryz.func129,Tryz.ntmps129
    go_wp2
    go_ret
    rw[HZ.out,HD.out,if_pos ⟨c1,c2⟩]
    exact⟨ret_int (by go_num),0,rfl⟩
   ·have u2:decide ((b:Int)≤57)=false:=by simp;omega
    go_enter Tryz.func129,Tryz.ntmps129
    go_wp2
    go_ret
    rw[HZ.out,HD.out,if_neg (by omega)]
    exact⟨rfl,0,rfl⟩
  ·have u1:decide (48≤(b:Int))=false:=by simp;omega
   go_enter Tryz.func129,Tryz.ntmps129
   go_wp2
   go_ret
   rw[HZ.out,HD.out,if_neg (by omega)]
   exact⟨rfl,0,rfl⟩
 have t1:((s.size:Int)==1)=false:=beq_eq_false_iff_ne.2 (by omega)
 by_cases h2:s.size=2
 ·have hlt:0<s.size:=by omega
  have hlt1:1<s.size:=by omega
  have E0:=bAt_get s 0 hlt
  have E1:=bAt_get s 1 hlt1
  have hb2:=bAt_lt s 0
  have hc2:=bAt_lt s 1
  have HZ:=Lib.hid (show digI (bytesN s)=digI [bAt s 0,bAt s 1] by rw[bytes2 h2])
  obtain⟨a,ha⟩:∃ a,bAt s 0=a:=⟨_,rfl⟩
  obtain⟨b,hb⟩:∃ b,bAt s 1=b:=⟨_,rfl⟩
  rw[ha]at E0 hb2 HZ
  rw[hb]at E1 hc2 HZ
  have HD:=Lib.hid (digI_2 a b)
  have t2:((s.size:Int)==2)=true:=by rw[h2];rfl
  clear h1 h2 ha hb
  by_cases hok:(49≤a∧a≤57)∧48≤b∧b≤57
  ·have HV:=Lib.hid (HD.out.trans (if_pos hok))
   obtain⟨⟨c1,c2⟩,c3,c4⟩:=hok
   clear HD
   go_enter Tryz.func129,Tryz.ntmps129
   go_wp2_with fail
   go_quiet (fail)
   go_wp2
   go_ret
   rw[HZ.out,HV.out]
   exact⟨ret_int (by go_num),_,rfl⟩
  ·have HV:=Lib.hid (HD.out.trans (if_neg hok))
   clear HD
   by_cases c1:49≤a
   ·by_cases c2:a≤57
    ·by_cases c3:48≤b
     ·have u4:decide ((b:Int)≤57)=false:=by simp;omega
      clear hok
      go_enter Tryz.func129,Tryz.ntmps129
      go_wp2
      go_ret
      rw[HZ.out,HV.out]
      exact⟨rfl,0,rfl⟩
     ·have u4:decide (48≤(b:Int))=false:=by simp;omega
      clear hok
      go_enter Tryz.func129,Tryz.ntmps129
      go_wp2
      go_ret
      rw[HZ.out,HV.out]
      exact⟨rfl,0,rfl⟩
    ·have u4:decide ((a:Int)≤57)=false:=by simp;omega
     clear hok
     go_enter Tryz.func129,Tryz.ntmps129
     go_wp2
     go_ret
     rw[HZ.out,HV.out]
     exact⟨rfl,0,rfl⟩
   ·have u4:decide (49≤(a:Int))=false:=by simp;omega
    clear hok
    go_enter Tryz.func129,Tryz.ntmps129
    go_wp2
    go_ret
    rw[HZ.out,HV.out]
    exact⟨rfl,0,rfl⟩
 ·have t2:((s.size:Int)==2)=false:=beq_eq_false_iff_ne.2 (by omega)
  have HZ:=Lib.hid (digI_else (l:=bytesN s) (by rw[bytesN_len];exact h1) (by rw[bytesN_len];exact h2))
  clear h1 h2
  go_enter Tryz.func129,Tryz.ntmps129
  go_wp2
  go_ret
  rw[HZ.out]
  exact⟨rfl,0,rfl⟩
theorem names_row:rows cS namesL=[.string { data:=#[99,97,112] },.string { data:=#[99,97,112,115] },.string { data:=#[110,117,109] },.string { data:=#[108,101,116] },.string { data:=#[101,43] },.string { data:=#[101,45] },.string { data:=#[115,43] },.string { data:=#[115,45] },.string { data:=#[110,43] },.string { data:=#[110,45] },.string { data:=#[98,108,107] },.string { data:=#[99,111,110,116] },.string { data:=#[105,110,100] }]:=by kernel_rfl
theorem rnames_any (w:World):Calls Tryz.prog 66 #[] w (FldsTo namesL w):=by
 go_enter Tryz.func66,Tryz.ntmps66
 go_wp2
 go_ret
 refine⟨_,rfl,?_,(Below.refl _ _).alloc (Nat.le_refl _) _⟩
 rw[names_row]
 exact World.ownsRow_lit w _ 13 (Nat.le_refl _) (by decide) rfl
theorem words_row:rows cS ([]::wordsL)=[.string { data:=#[] },.string { data:=#[97,110,121] },.string { data:=#[98,101,103,105,110] },.string { data:=#[105,110,110,101,114] },.string { data:=#[101,110,100] },.string { data:=#[119,111,114,100] },.string { data:=#[109,97,114,107] },.string { data:=#[100,105,103,105,116] },.string { data:=#[115,105,103,110] }]:=by kernel_rfl
theorem rwords_any (w:World):Calls Tryz.prog 127 #[] w (FldsTo ([]::wordsL) w):=by
 go_enter Tryz.func127,Tryz.ntmps127
 go_wp2
 go_ret
 refine⟨_,rfl,?_,(Below.refl _ _).alloc (Nat.le_refl _) _⟩
 rw[words_row]
 exact World.ownsRow_lit w _ 9 (Nat.le_refl _) (by decide) rfl
def NoneOf (s:List Nat) (k:Nat):Prop:=∀ j,j<k→namesL[j]?≠some s
theorem NoneOf.step {s:List Nat} {k:Nat} (h:NoneOf s k) (hn:namesL[k]?≠some s):NoneOf s (k+1):=fun j hj=>by
 rcases Nat.lt_or_ge j k with j3 | j3
 ·exact h j j3
 ·obtain rfl:j=k:=by omega
  exact hn
theorem noneOf_all {s:List Nat} (h:NoneOf s 13):leftB 8 s=false:=by
 show namesL.contains s=false
 rw[Bool.eq_false_iff]
 intro hc
 obtain⟨j,hj⟩:=List.mem_iff_getElem?.1 (List.contains_iff_mem.1 hc)
 exact h j (List.getElem?_eq_some_iff.1 hj).1 hj
theorem oneOf {s:List Nat} {k:Nat} (h:namesL[k]?=some s):leftB 8 s=true:=List.contains_iff_mem.2 (List.mem_of_getElem? h)
set_option maxRecDepth 100000 in
set_option maxHeartbeats 4000000 in
theorem rleft_sign (s:ByteArray) (hs:s.size≤70000) (b:Bool) (hb:leftB 8 (bytesN s)=b) (w:World) :
  Calls Tryz.prog 95 #[.int .i64 8,.string s] w fun e w'=>e=.returned (.bool b)∧Below w.heap.size w w':=by
 have HB:=Lib.hid hb
 clear hb
 go_enter Tryz.func95,Tryz.ntmps95
 go_wp2_with fail
 refine(rnames_any w).mono ?_
 rintro e w1 ⟨v,rfl,own,hb1⟩
 have HOWN:=Lib.hid own
 have HB1:=Lib.hid hb1
 obtain⟨g,cap,rfl,hg,hgb,hcap⟩:=own_slice own (by decide)
 clear own hb1
 go_wp2
 go_loopw [6] (fun u6 wr=>∃ k:Nat,u6=.int .i64 k∧k≤13∧NoneOf (bytesN s) k∧wr=w1) (fun u6 _=>13 - (intOf u6).toNat)
 case atStart=>exact⟨0,rfl,by omega,fun j hj=>by omega,rfl⟩
 case round =>
  obtain⟨k,rfl,hk,hN,rfl⟩:=hrel
  by_cases hlt:k<13
  ·obtain⟨d,hd⟩:∃ d,namesL[k]?=some d:=⟨_,List.getElem?_eq_getElem (show k<namesL.length from hlt)⟩
   have C1:wr.cell? ⟨g,k,none⟩=some (.string (bytesOf d)):=by
    have:=HOWN.out.cellAt (k * 1+0) (by show k * 1+0<13 * 1;omega)
    rw[rows_at cS cS_len namesL k d hd 0 (by omega)]at this
    simpa[cS] using this
   by_cases heq:bytesOf d=s
   ·have HT:=Lib.hid (show leftB 8 (bytesN s)=true from oneOf (k:=k) (by
     rw[hd,← heq]
     have hx:∀ j:Fin 13,∀ x ∈ namesL[j.val]?.getD [],x<256:=by decide +kernel
     have:=hx ⟨k,hlt⟩
     rw[hd]at this
     rw[bytesN_bytesOf d this]))
    subst heq
    clear hN hd
    go_wp2
    go_ret
    rw[← HB.out,HT.out]
    exact⟨rfl,HB1.out⟩
   ·have HT:=Lib.hid (show NoneOf (bytesN s) (k+1) from hN.step fun e=>heq (by rw[hd]at e;rw[Option.some.inj e];exact bytesOf_bytesN s))
    have hne:=toList_ne heq
    clear hN hd heq
    go_wp2
    go_roundw
    case rel=>exact⟨k+1,by go_num,by omega,HT.out,trivial⟩
    case measure=>simp[intOf];omega
  ·obtain rfl:k=13:=by omega
   have HT:=Lib.hid (noneOf_all hN)
   clear hN hlt
   go_wp2
   go_ret
   rw[← HB.out,HT.out]
   exact⟨rfl,HB1.out⟩
theorem left_one_no {k c:Nat} {s:ByteArray} (hk:k=6∧c=4∨k=7∧c=3) (h:s.size≠1):leftB k (bytesN s)=false:=by
 have hl:=bytesN_len s
 have e:∀ l:List Nat,l.length≠1→(match l with | [b]=>Ka.clsN b==c | _=>false)=false:=fun l hl=>by
  match l,hl with
  | [],_=>rfl
  | [a],h=>exact absurd rfl h
  | a::b::r,_=>rfl
 rcases hk with⟨rfl,rfl⟩ | ⟨rfl,rfl⟩
 ·unfold leftB
  rw[if_neg (by decide),if_pos rfl]
  exact e _ (by omega)
 ·unfold leftB
  rw[if_neg (by decide),if_neg (by decide),if_pos rfl]
  exact e _ (by omega)
theorem left_one {k c:Nat} {s:ByteArray} (hk:k=6∧c=4∨k=7∧c=3) (h:s.size=1):leftB k (bytesN s)=(Ka.clsN (bAt s 0)==c):=by
 rw[bytes1 h]
 rcases hk with⟨rfl,rfl⟩ | ⟨rfl,rfl⟩<;>rfl
set_option maxHeartbeats 4000000 in
theorem rleft_one (k c:Nat) (hk:k=6∧c=4∨k=7∧c=3) (s:ByteArray) (_hs:s.size≤70000) (b:Bool) (hb:leftB k (bytesN s)=b) (w:World) :
  Calls Tryz.prog 95 #[.int .i64 k,.string s] w fun e w'=>e=.returned (.bool b)∧w=w':=by
 by_cases h1:s.size=1
 ·have hlt:0<s.size:=by omega
  have E0:=bAt_get s 0 hlt
  have hb2:=bAt_lt s 0
  rw[left_one hk h1]at hb
  obtain⟨d,hd⟩:∃ d,bAt s 0=d:=⟨_,rfl⟩
  rw[hd]at E0 hb2 hb
  have t1:((s.size:Int)==1)=true:=by rw[h1];rfl
  clear h1 hd
  rcases hk with⟨rfl,rfl⟩ | ⟨rfl,rfl⟩
  ·by_cases e:Ka.clsN d=4
   ·have HC:=Lib.hid (show Ka.cls (d:Int)=4 by unfold Ka.cls;rw[Int.toNat_natCast,e];rfl)
    obtain rfl:true=b:=by rw[← hb,e];rfl
    clear e hb
    go_enter Tryz.func95,Tryz.ntmps95
    go_wp2_with (go_at_call 58;refine(Ka.rclass_at _ _ (by omega) (by omega) HC.out _).mono ?_;rintro e w' ⟨rfl,rfl⟩)
    go_ret
    exact⟨rfl,rfl⟩
   ·obtain rfl:false=b:=by rw[← hb];exact(beq_eq_false_iff_ne.2 e).symm
    obtain⟨q,hq⟩:∃ q:Int,Ka.cls (d:Int)=q:=⟨_,rfl⟩
    have HC:=Lib.hid hq
    have t2:(q==4)=false:=beq_eq_false_iff_ne.2 (fun h=>e (by unfold Ka.cls at hq;rw[Int.toNat_natCast]at hq;omega))
    clear e hb hq
    go_enter Tryz.func95,Tryz.ntmps95
    go_wp2_with (go_at_call 58;refine(Ka.rclass_at _ _ (by omega) (by omega) HC.out _).mono ?_;rintro e w' ⟨rfl,rfl⟩)
    go_ret
    exact⟨rfl,rfl⟩
  ·by_cases e:Ka.clsN d=3
   ·have HC:=Lib.hid (show Ka.cls (d:Int)=3 by unfold Ka.cls;rw[Int.toNat_natCast,e];rfl)
    obtain rfl:true=b:=by rw[← hb,e];rfl
    clear e hb
    go_enter Tryz.func95,Tryz.ntmps95
    go_wp2_with (go_at_call 58;refine(Ka.rclass_at _ _ (by omega) (by omega) HC.out _).mono ?_;rintro e w' ⟨rfl,rfl⟩)
    go_ret
    exact⟨rfl,rfl⟩
   ·obtain rfl:false=b:=by rw[← hb];exact(beq_eq_false_iff_ne.2 e).symm
    obtain⟨q,hq⟩:∃ q:Int,Ka.cls (d:Int)=q:=⟨_,rfl⟩
    have HC:=Lib.hid hq
    have t2:(q==3)=false:=beq_eq_false_iff_ne.2 (fun h=>e (by unfold Ka.cls at hq;rw[Int.toNat_natCast]at hq;omega))
    clear e hb hq
    go_enter Tryz.func95,Tryz.ntmps95
    go_wp2_with (go_at_call 58;refine(Ka.rclass_at _ _ (by omega) (by omega) HC.out _).mono ?_;rintro e w' ⟨rfl,rfl⟩)
    go_ret
    exact⟨rfl,rfl⟩
 ·obtain rfl:false=b:=by rw[← hb,left_one_no hk h1]
  have t1:((s.size:Int)==1)=false:=beq_eq_false_iff_ne.2 (by omega)
  clear h1 hb
  rcases hk with⟨rfl,rfl⟩ | ⟨rfl,rfl⟩
  ·go_enter Tryz.func95,Tryz.ntmps95
   go_wp2
   go_ret
   exact⟨rfl,rfl⟩
  ·go_enter Tryz.func95,Tryz.ntmps95
   go_wp2
   go_ret
   exact⟨rfl,rfl⟩
def SmallTo (s:ByteArray) (k:Nat):Prop:=∀ j,j<k→Ka.clsN (bAt s j)=1
theorem SmallTo.step {s:ByteArray} {k:Nat} (h:SmallTo s k) (hn:Ka.clsN (bAt s k)=1):SmallTo s (k+1):=fun j hj=>by
 rcases Nat.lt_or_ge j k with j3 | j3
 ·exact h j j3
 ·obtain rfl:j=k:=by omega
  exact hn
theorem small_all {s:ByteArray} {k:Nat} (hk:k≤5) (h:SmallTo s s.size):leftB k (bytesN s)=decide (0<s.size∧s.size≤12):=by
 unfold leftB
 rw[if_pos hk,bytesN_len,show ((bytesN s).all fun b=>Ka.clsN b==1)=true from List.all_eq_true.2 fun x hx=>by
  obtain⟨j,hj,rfl⟩:=Ce.mem_bytes s hx
  rw[beq_iff_eq];exact h j hj,Bool.and_true]
theorem small_no {s:ByteArray} {k j:Nat} (hk:k≤5) (hj:j<s.size) (h:Ka.clsN (bAt s j)≠1):leftB k (bytesN s)=false:=by
 unfold leftB
 rw[if_pos hk,show ((bytesN s).all fun b=>Ka.clsN b==1)=false from by
  rw[Bool.eq_false_iff]
  intro ha
  have:=List.all_eq_true.1 ha (bAt s j) (by
   have hl:j<(bytesN s).length:=by rw[bytesN_len];exact hj
   unfold bAt
   rw[List.getD_eq_getElem?_getD,List.getElem?_eq_getElem hl]
   exact List.getElem_mem hl)
  exact h (by simpa using this),Bool.and_false]
set_option maxHeartbeats 4000000 in
theorem rleft_small (k:Nat) (hk:k≤5) (s:ByteArray) (hs:s.size≤70000) (b:Bool) (hb:leftB k (bytesN s)=b) (w:World) :
  Calls Tryz.prog 95 #[.int .i64 k,.string s] w fun e w'=>e=.returned (.bool b)∧w=w':=by
 have HB:=Lib.hid hb
 have k0:(0:Int)≤(k:Int):=by omega
 have t6:((k:Int)==6)=false:=beq_eq_false_iff_ne.2 (by omega)
 have t7:((k:Int)==7)=false:=beq_eq_false_iff_ne.2 (by omega)
 have t8:((k:Int)==8)=false:=beq_eq_false_iff_ne.2 (by omega)
 clear hb
 go_enter Tryz.func95,Tryz.ntmps95
 go_wp2
 go_loopw [7] (fun u7 wr=>∃ i:Nat,u7=.int .i64 i∧i≤s.size∧SmallTo s i∧wr=w) (fun u7 _=>s.size - (intOf u7).toNat)
 case atStart=>exact⟨0,rfl,by omega,fun j hj=>by omega,rfl⟩
 case round =>
  obtain⟨i,rfl,hi,hN,rfl⟩:=hrel
  by_cases hlt:i<s.size
  ·have E1:=bAt_get s i hlt
   have hb2:=bAt_lt s i
   obtain⟨q,hq⟩:∃ q,Ka.clsN (bAt s i)=q:=⟨_,rfl⟩
   have HC:=Lib.hid (show Ka.cls ((bAt s i:Nat):Int)=(q:Int) by unfold Ka.cls;rw[Int.toNat_natCast,hq])
   by_cases hq1:q=1
   ·subst hq1
    have HT:=Lib.hid (hN.step hq)
    obtain⟨d,hd⟩:∃ d,bAt s i=d:=⟨_,rfl⟩
    rw[hd]at E1 hb2 HC
    clear hN hq hd
    go_wp2_with (go_at_call 58;refine(Ka.rclass_at _ _ (by omega) (by omega) HC.out _).mono ?_;rintro e w' ⟨rfl,rfl⟩)
    go_roundw
    case rel=>exact⟨i+1,by go_num,by omega,HT.out,trivial⟩
    case measure=>simp[intOf];omega
   ·have HT:=Lib.hid (small_no hk hlt (by rw[hq];exact hq1))
    have t9:((q:Int) != 1)=true:=by rw[bne,beq_eq_false_iff_ne.2 (by omega)];rfl
    obtain⟨d,hd⟩:∃ d,bAt s i=d:=⟨_,rfl⟩
    rw[hd]at E1 hb2 HC
    clear hN hq hd hq1
    go_wp2_with (go_at_call 58;refine(Ka.rclass_at _ _ (by omega) (by omega) HC.out _).mono ?_;rintro e w' ⟨rfl,rfl⟩)
    go_ret
    rw[← HB.out,HT.out]
    exact⟨rfl,rfl⟩
  ·obtain rfl:i=s.size:=by omega
   have HT:=Lib.hid (small_all hk hN)
   clear hN hlt
   by_cases h0:0<s.size
   ·by_cases h12:s.size≤12
    ·have HV:=Lib.hid (HT.out.trans (decide_eq_true ⟨h0,h12⟩))
     clear HT
     go_wp2
     go_ret
     rw[← HB.out,HV.out]
     exact⟨ret_bool (decide_eq_true (by omega)),rfl⟩
    ·have HV:=Lib.hid (HT.out.trans (decide_eq_false fun h=>h12 h.2))
     have u1:decide ((s.size:Int)≤12)=false:=by simp;omega
     clear HT
     go_wp2
     go_ret
     rw[← HB.out,HV.out]
     exact⟨rfl,rfl⟩
   ·have HV:=Lib.hid (HT.out.trans (decide_eq_false fun h=>h0 h.1))
    have u1:decide (0<(s.size:Int))=false:=decide_eq_false (by omega)
    clear HT
    go_wp2
    go_ret
    rw[← HB.out,HV.out]
    exact⟨rfl,rfl⟩
theorem rleft_plain (k:Nat) (h7:k≤7) (s:ByteArray) (hs:s.size≤70000) (b:Bool) (hb:leftB k (bytesN s)=b) (w:World) :
  Calls Tryz.prog 95 #[.int .i64 k,.string s] w fun e w'=>e=.returned (.bool b)∧w=w':=by
 rcases Nat.lt_or_ge 5 k with h5 | h5
 ·obtain rfl | rfl:k=6∨k=7:=by omega
  ·exact rleft_one 6 4 (.inl ⟨rfl,rfl⟩) s hs b hb w
  ·exact rleft_one 7 3 (.inr ⟨rfl,rfl⟩) s hs b hb w
 ·exact rleft_small k h5 s hs b hb w
theorem rleft_any (k:Nat) (h8:k≤8) (s:ByteArray) (hs:s.size≤70000) (b:Bool) (hb:leftB k (bytesN s)=b) (w:World) :
  Calls Tryz.prog 95 #[.int .i64 k,.string s] w fun e w'=>e=.returned (.bool b)∧Below w.heap.size w w':=by
 rcases Nat.lt_or_ge 7 k with h7 | h7
 ·obtain rfl:k=8:=by omega
  exact rleft_sign s hs b hb w
 ·exact(rleft_plain k h7 s hs b hb w).mono fun _ _ h=>⟨h.1,h.2▸Below.refl _ _⟩
end Go.Proofs.YtlgejmcihchngaaGreatDoor.Ru
namespace Go.Proofs.YtlgejmcihchngaaGreatDoor.Ru
open Go.RowKit Ba
theorem prC_some {c:List Nat} (h:∀ x ∈ c,x<256):(prC c).isSome=decide (Ce.printE (bytesOf c)=0):=by
 unfold prC Ce.printE
 by_cases hk:Ce.printOK (bytesOf c)
 ·rw[if_pos ⟨h,hk⟩,if_pos hk];rfl
 ·rw[if_neg (fun e=>hk e.2),if_neg hk];rfl
def prioB (what prio:Int):Bool:=if what≤5 then decide (0≤prio∧prio≤99) else decide (prio=0)
theorem mayR_is {what:Int} {left cells:List Nat} {prio line:Int} (hc:∀ x ∈ cells,x<256) :
  mayR prC ⟨what,left,cells,prio,line⟩=(decide (1≤what∧what≤8) && leftB what.toNat left && decide (Ce.printE (bytesOf cells)=0) && prioB what prio):=by
 unfold mayR prioB
 rw[← prC_some hc]
set_option maxRecDepth 100000 in
set_option maxHeartbeats 4000000 in
theorem rmay_any (x:Rl) (hf:FitR x) (h1:x.left.length≤70000) (h2:x.cells.length≤70000) (b:Bool) (hb:mayR prC x=b) (w:World) :
  Calls Tryz.prog 60 #[aggR x] w fun e w'=>e=.returned (.bool b)∧Below w.heap.size w w':=by
 obtain⟨what,left,cells,prio,line⟩:=x
 obtain⟨⟨i1,i2⟩,⟨i3,i4⟩,⟨i5,i6⟩,hl,hc,-,-⟩:=hf
 rw[mayR_is hc]at hb
 show Calls _ _ #[.agg #[.int .i64 what,.string (bytesOf left),.string (bytesOf cells),.int .i64 prio,.int .i64 line]] w _
 obtain⟨S,hS⟩:∃ S,bytesOf left=S:=⟨_,rfl⟩
 obtain⟨T,hT⟩:∃ T,bytesOf cells=T:=⟨_,rfl⟩
 have hSN:left=bytesN S:=by rw[← hS,bytesN_bytesOf _ hl]
 have hSs:S.size≤70000:=by rw[← hS,bytesOf_size];exact h1
 have hTs:T.size≤70000:=by rw[← hT,bytesOf_size];exact h2
 rw[hS,hT]
 rw[hSN,hT]at hb
 change -9223372036854775808≤what at i1
 change what≤9223372036854775807 at i2
 change -9223372036854775808≤prio at i3
 change prio≤9223372036854775807 at i4
 change -9223372036854775808≤line at i5
 change line≤9223372036854775807 at i6
 clear h1 h2 hl hc hS hT hSN
 by_cases a1:what<1
 ·obtain rfl:false=b:=by rw[← hb,decide_eq_false (by omega)];rfl
  clear hb
  go_enter Tryz.func60,Tryz.ntmps60
  go_wp2
  go_ret
  exact⟨rfl,(Below.refl _ _).alloc (Nat.le_refl _) _⟩
 by_cases a8:8<what
 ·obtain rfl:false=b:=by rw[← hb,decide_eq_false (by omega)];rfl
  clear hb
  go_enter Tryz.func60,Tryz.ntmps60
  go_wp2
  go_ret
  exact⟨rfl,(Below.refl _ _).alloc (Nat.le_refl _) _⟩
 obtain⟨k,rfl⟩:=Int.eq_ofNat_of_zero_le (show 0≤what by omega)
 have k8:k≤8:=by omega
 have k1:1≤k:=by omega
 rw[decide_eq_true (by omega),Bool.true_and,Int.toNat_natCast]at hb
 have u1:decide ((k:Int)<1)=false:=decide_eq_false a1
 have u8:decide (8<(k:Int))=false:=decide_eq_false a8
 clear a1 a8 i1 i2
 obtain⟨lb,hlb⟩:∃ lb,leftB k (bytesN S)=lb:=⟨_,rfl⟩
 rw[hlb]at hb
 have HLB:=Lib.hid hlb
 clear hlb
 go_enter Tryz.func60,Tryz.ntmps60
 go_upto_region 1 with fail
 generalize hw1:w.alloc _=w1
 have C0:w1.cell? ⟨w.heap.size,0,none⟩=some (.int .i64 (k:Int)):=by rw[← hw1];simp
 have C1:w1.cell? ⟨w.heap.size,1,none⟩=some (.string S):=by rw[← hw1];simp
 have C2:w1.cell? ⟨w.heap.size,2,none⟩=some (.string T):=by rw[← hw1];simp
 have C3:w1.cell? ⟨w.heap.size,3,none⟩=some (.int .i64 prio):=by rw[← hw1];simp
 have HB1:=Lib.hid (show Below w.heap.size w w1 by rw[← hw1];exact(Below.refl _ _).alloc (Nat.le_refl _) _)
 have hs1:w.heap.size<w1.heap.size:=by rw[← hw1];simp
 clear hw1
 cases lb
 ·obtain rfl:false=b:=by rw[← hb];rfl
  clear hb
  go_wp2_with (go_at_call 95;refine(rleft_any k k8 S hSs false HLB.out _).mono ?_;rintro e w2 ⟨rfl,hb2⟩;have HB2:=Lib.hid (chain HB1.out HB1.out.size hb2);clear hb2)
  go_ret
  exact⟨rfl,HB2.out⟩
 ·rw[Bool.true_and]at hb
  obtain⟨z,hz⟩:∃ z,Ce.printE T=z:=⟨_,rfl⟩
  obtain⟨V,hV⟩:∃ V,Ce.printV T=V:=⟨_,rfl⟩
  have HPR:=Lib.hid (hz▸hV▸Ce.rprint_any T hTs)
  rw[hz]at hb
  have hz01:z=0∨z=1:=by
   rw[← hz];unfold Ce.printE;split
   ·exact .inl rfl
   ·exact .inr rfl
  clear hz hV
  go_wp2_with (go_at_call 95;refine(rleft_any k k8 S hSs true HLB.out _).mono ?_;rintro e w2 ⟨rfl,hb2⟩;have HB2:=Lib.hid (chain HB1.out HB1.out.size hb2);have D0:=(hb2.cell (p:=⟨w.heap.size,0,none⟩) hs1).trans C0;have D2:=(hb2.cell (p:=⟨w.heap.size,2,none⟩) hs1).trans C2;have D3:=(hb2.cell (p:=⟨w.heap.size,3,none⟩) hs1).trans C3;have hs2:w.heap.size<w2.heap.size:=Nat.lt_of_lt_of_le hs1 hb2.size;clear hb2)
  refine(HPR.out _).mono ?_
  rintro e w3 ⟨rfl,hb3⟩
  have HB3:=Lib.hid (chain HB2.out HB2.out.size hb3)
  have E0:=(hb3.cell (p:=⟨w.heap.size,0,none⟩) hs2).trans D0
  have E3:=(hb3.cell (p:=⟨w.heap.size,3,none⟩) hs2).trans D3
  clear hb3 C0 C1 C2 C3 D0 D2 D3
  rcases hz01 with rfl | rfl
  ·rw[decide_eq_true rfl,Bool.true_and]at hb
   unfold prioB at hb
   by_cases h5:(k:Int)≤5
   ·rw[if_pos h5]at hb
    by_cases p0:0≤prio
    ·by_cases p9:prio≤99
     ·obtain rfl:true=b:=by rw[← hb,decide_eq_true ⟨p0,p9⟩]
      clear hb
      go_wp2
      go_ret
      exact⟨rfl,HB3.out⟩
     ·obtain rfl:false=b:=by rw[← hb,decide_eq_false (fun h=>p9 h.2)]
      clear hb
      go_wp2
      go_ret
      exact⟨ret_bool (decide_eq_false (by omega)),HB3.out⟩
    ·obtain rfl:false=b:=by rw[← hb,decide_eq_false (fun h=>p0 h.1)]
     have u2:decide (0≤prio)=false:=decide_eq_false p0
     clear hb
     go_wp2
     go_ret
     exact⟨rfl,HB3.out⟩
   ·rw[if_neg h5]at hb
    have u5:decide ((k:Int)≤5)=false:=decide_eq_false h5
    go_wp2
    go_ret
    refine⟨ret_bool ?_,HB3.out⟩
    rw[← hb]
    by_cases p0:prio=0
    ·rw[p0];rfl
    ·rw[decide_eq_false p0];exact beq_eq_false_iff_ne.2 p0
  ·obtain rfl:false=b:=by rw[← hb];rfl
   clear hb
   go_wp2
   go_ret
   exact⟨rfl,HB3.out⟩
end Go.Proofs.YtlgejmcihchngaaGreatDoor.Ru
