/-
  Put together.
-/
import Derived.Test.YthbigkoihpgcfaaGreatDoorUh
import Derived.Test.YthbigkoihpgcfaaGreatDoorUi
import Derived.Test.YthbigkoihpgcfaaGreatDoorUj
import Derived.Test.YthbigkoihpgcfaaGreatDoorVa
import Derived.Test.YthbigkoihpgcfaaGreatDoorVg
import Derived.Lib.LaidTab
import Derived.Lib.Space
import Derived.BigQuiet
import Derived.Deep.DeepCutAuto
import Derived.BigRegion
import Derived.Deep.RegionLaw
import Derived.Deep.RegionWith
import Derived.Deep.RegionHeld3
import Derived.Deep.QuietTactic
import Derived.Deep.AppendLies
open Go.Lib (hid)
set_option maxRecDepth 100000
set_option maxHeartbeats 16000000
namespace Go.Proofs.YthbigkoihpgcfaaGreatDoor.Ru
open Go.RowKit Ba
def dM (c:List Nat):Option (List Nat):=if (∀ x ∈ c,x<256)∧Ce.dN (Ce.bytesOf c) then some (Ce.cA c) else none
def kP (t:List Nat):Option (List Nat):=if ∀ x ∈ t,x<256 then Ce.dY (Ce.bytesOf t) else none
theorem vL {s:ByteArray} {l:List Nat} (h:Ce.dY s=some l):Ce.jR s=0∧Ce.gN s=Ce.bytesOf l∧(∀ y ∈ l,y<256):=by
 have hl:=Ce.LR (show Ce.QH s (Ce.bU s 0)=some l from h)
 exact⟨by unfold Ce.jR;rw[h],by unfold Ce.gN;rw[h],fun y hy=>Nat.lt_trans (hl.2 y hy) (by decide)⟩
theorem TF {s:ByteArray} (h:Ce.jR s=0):∃ l,Ce.dY s=some l:=by
 unfold Ce.jR at h
 cases e:Ce.dY s with
 | none=>rw[e]at h;cases h
 | some l=>exact⟨l,rfl⟩
theorem r8:∀ (l:List Nat),∀ x ∈ Ce.cA l,x=45∨49≤x∧x≤54
 | [],x,h=>by simp[Ce.cA]at h
 | [y],x,h=>by
  simp only[Ce.cA,Ce.cE,List.mem_map,List.mem_filter,List.mem_range]at h
  obtain⟨i,⟨hi,_⟩,rfl⟩:=h
  omega
 | y::z::r,x,h=>by
  simp only[Ce.cA,List.mem_append,List.mem_cons]at h
  rcases h with h | rfl | h
  ·simp only[Ce.cE,List.mem_map,List.mem_filter,List.mem_range]at h
   obtain⟨i,⟨hi,_⟩,rfl⟩:=h
   omega
  ·exact .inl rfl
  ·exact r8 (z::r) x h
theorem aB2:P0 dM kP where
 there:=fun c t h=>by
  unfold dM at h
  by_cases hc:(∀ x ∈ c,x<256)∧Ce.dN (Ce.bytesOf c)
  ·rw[if_pos hc]at h
   cases h
   obtain⟨h1,h2,h3⟩:=Ce.GG _ hc.2
   have hV:Ce.eD (Ce.bytesOf c)=Ce.bytesOf (Ce.cA c):=by unfold Ce.eD;rw[if_pos hc.2,Ce.aB _ hc.1]
   rw[hV]at h1 h3
   obtain⟨l,hl⟩:=TF h3
   obtain⟨-,e2,e3⟩:=vL hl
   unfold kP
   rw[if_pos (Ce.mN c),hl]
   rw[e2]at h1
   have:=congrArg Ce.aA h1
   rw[Ce.aB _ e3,Ce.aB _ hc.1]at this
   rw[this]
  ·rw[if_neg hc]at h;cases h
 back:=fun t c h=>by
  unfold kP at h
  by_cases ht:∀ x ∈ t,x<256
  ·rw[if_pos ht]at h
   obtain⟨e1,e2,e3⟩:=vL h
   obtain⟨h1,h2⟩:=Ce.GH _ e1
   rw[e2]at h1 h2
   rcases Ce.GF (Ce.bytesOf c) with⟨hok,-,hV⟩ | hE
   ·unfold dM
    rw[if_pos ⟨e3,hok⟩]
    rw[h1,Ce.aB _ e3]at hV
    have:=congrArg Ce.aA hV
    rw[Ce.aB _ ht,Ce.aB _ (Ce.mN c)]at this
    rw[this]
   ·rw[hE]at h2;cases h2
  ·rw[if_neg ht]at h;cases h
 free:=fun c t h=>by
  unfold dM at h
  split at h
  ·cases h
   exact⟨fun k=>by have:=r8 c _ k;omega,fun k=>by have:=r8 c _ k;omega⟩
  ·cases h
def nO (s:ByteArray):List Rl × Nat × Nat:=N6 kP (aA s)
def cR (x:Rl):List Value:=[.int .i64 x.aE,.string (bytesOf x.left),.string (bytesOf x.cells),.int .i64 x.prio,.int .i64 x.line]
theorem iA (x:Rl):(cR x).length=5:=rfl
abbrev dZ (off:Nat) (w:World) (B:Nat) (v:Value) (l:List Rl):Prop:=Reads cR 5 off w B v l
def oI (z:Int):Prop:=-9223372036854775808≤z∧z≤9223372036854775807
def eN (x:Rl):Prop:=oI x.aE∧oI x.prio∧oI x.line∧(∀ b ∈ x.left,b<256)∧(∀ b ∈ x.cells,b<256)∧x.left.length≤maxLen∧x.cells.length≤maxLen
def dE (x:Rl):Value:=.agg #[.int .i64 x.aE,.string (bytesOf x.left),.string (bytesOf x.cells),.int .i64 x.prio,.int .i64 x.line]
def lS (v:Value):Prop:=∀ A n c,v=.slice A n c→n≤c∧c≤maxLen
def cS (s:List Nat):List Value:=[.string (bytesOf s)]
def aD6:List (List Nat):=[]::aEW
theorem D8:Tryz.prog.globalNamed "strings.asciiSpace"=some 0:=by kernel_rfl
theorem xA {w w':World} {n:String} {g:Nat} {k:IntKind} {zs:List Int} {B:Nat} (hg:Tryz.prog.globalNamed n=some g) (h:Lib.TabIs Tryz.prog w n k zs) (hb:Below B w w') (hB:g<B):Lib.TabIs Tryz.prog w' n k zs:=by
 unfold Lib.TabIs World.var? at h ⊢
 rw[hg]at h ⊢
 simp only[Option.bind_some]at h ⊢
 rw[hb.block g hB]
 exact h
def GJ:Nat:=max 2 0
def dP (w:World):Prop:=GJ<w.heap.size∧Ka.Laid w∧Lib.TabIs Tryz.prog w "strings.asciiSpace" .u8 Lib.asciiSpaceTab
theorem dP.below {w w':World} {B:Nat} (h:dP w) (hb:Below B w w') (hB:GJ<B):dP w':=by
 obtain⟨h0,h1,h5⟩:=h
 unfold GJ at hB
 exact⟨Nat.lt_of_lt_of_le h0 hb.size,h1.below hb (by omega),xA D8 h5 hb (by omega)⟩
theorem dP.space {w:World} (h:dP w):Lib.TabIs Tryz.prog w "strings.asciiSpace" .u8 Lib.asciiSpaceTab:=h.2.2
theorem dP.ka {w:World} (h:dP w):Ka.Laid w:=h.2.1
theorem dP.kept {w w':World} (h:dP w) (hb:Below w.heap.size w w'):dP w':=h.below hb h.1
theorem aFG:(Tryz.prog.info? 9).map (fun i=>(i.zero,i.size,i.bytes))=some (some (.string { data:=#[] }),1,16):=by kernel_rfl
theorem n8 {c:Nat} {L:List Nat} {f:Nat} (hn:∀ j,f≤j→j<L.length→L.getD j 0≠c):bF c (L.drop f)=[L.drop f]:=by
 refine KC fun h=>?_
 obtain⟨j,hj⟩:=List.mem_iff_getElem?.1 h
 rw[List.getElem?_drop]at hj
 exact hn (f+j) (by omega) (List.getElem?_eq_some_iff.1 hj).1 (by rw[List.getD_eq_getElem?_getD,hj];rfl)
theorem AI {c:Nat} {L:List Nat} {f i:Nat} (hfi:f≤i) (hi:i<L.length) (hc:L.getD i 0=c) (hn:∀ j,f≤j→j<i→L.getD j 0≠c):bF c (L.drop f)=(L.drop f).take (i - f)::bF c (L.drop (i+1)):=by
 have hL:L.drop f=(L.drop f).take (i - f)++c::L.drop (i+1):=by
  conv=>lhs;rw[← List.take_append_drop (i - f) (L.drop f)]
  congr 1
  rw[List.drop_drop,show f+(i - f)=i by omega,List.drop_eq_getElem_cons hi]
  congr 1
  rw[← hc,List.getD_eq_getElem?_getD,List.getElem?_eq_getElem hi];rfl
 conv=>lhs;rw[hL]
 refine KD _ fun h=>?_
 obtain⟨j,hj⟩:=List.mem_iff_getElem?.1 h
 rw[List.getElem?_take]at hj
 split at hj
 ·rename_i hlt
  rw[List.getElem?_drop]at hj
  exact hn (f+j) (by omega) (by omega) (by rw[List.getD_eq_getElem?_getD,hj];rfl)
 ·cases hj
def kA (c:Nat) (s:ByteArray) (P:List (List Nat)) (f k:Nat):Prop :=
 (k≤s.size∧f≤k∧(∀ j,f≤j→j<k→aV s j≠c)∧bF c (aA s)=P++bF c ((aA s).drop f))∨(k=s.size+1∧bF c (aA s)=P)
theorem kA.zero (c:Nat) (s:ByteArray):kA c s [] 0 0:=.inl ⟨Nat.zero_le _,Nat.le_refl _,fun j h1 h2=>by omega,rfl⟩
theorem kA.step {c:Nat} {s:ByteArray} {P:List (List Nat)} {f k:Nat} (h:kA c s P f k) (hk:k<s.size) (hn:aV s k≠c):kA c s P f (k+1):=by
 rcases h with⟨h1,h2,h3,h4⟩ | ⟨h1,_⟩
 ·refine .inl ⟨by omega,by omega,fun j j1 j2=>?_,h4⟩
  rcases Nat.lt_or_ge j k with j3 | j3
  ·exact h3 j j1 j3
  ·obtain rfl:j=k:=by omega
   exact hn
 ·omega
theorem kA.from {c:Nat} {s:ByteArray} {P:List (List Nat)} {f k:Nat} (h:kA c s P f k) (hk:k≤s.size):f≤k:=by
 rcases h with⟨_,h2,_⟩ | ⟨h1,_⟩<;>omega
theorem kA.cut {c:Nat} {s:ByteArray} {P:List (List Nat)} {f k:Nat} (h:kA c s P f k) (hk:k≤s.size) (hc:k<s.size→aV s k=c):kA c s (P++[aA (s.extract f k)]) (k+1) (k+1):=by
 rcases h with⟨h1,h2,h3,h4⟩ | ⟨h1,_⟩
 ·have hl:=aD s
  rw[dX]
  rcases Nat.lt_or_ge k s.size with hlt | hge
  ·refine .inl ⟨by omega,Nat.le_refl _,fun j j1 j2=>by omega,?_⟩
   rw[h4,AI h2 (by omega) (hc hlt) h3,List.append_assoc];rfl
  ·refine .inr ⟨by omega,?_⟩
   rw[h4,n8 fun j j1 j2=>h3 j j1 (by omega)]
   congr 2
   rw[List.take_of_length_le (by rw[List.length_drop];omega)]
 ·omega
theorem kA.done {c:Nat} {s:ByteArray} {P:List (List Nat)} {f:Nat} (h:kA c s P f (s.size+1)):bF c (aA s)=P:=by
 rcases h with⟨h1,_⟩ | ⟨_,h2⟩
 ·omega
 ·exact h2
theorem N8 (P:List (List Nat)) (t:ByteArray):rows cS (P++[aA t])=rows cS P++[.string t]:=by
 rw[kJ]
 show _++[Value.string (bytesOf (aA t))]=_
 rw[aP]
theorem FA (x:List Nat):(cS x).length=1:=rfl
def FB (P:List (List Nat)) (w:World) (e:Ending) (w':World):Prop:=∃ v,e=.returned v∧w'.ownsRow w.heap.size 9 1 v P.length (rows cS P)∧Below w.heap.size w w'
theorem KF (s:ByteArray) (hs:s.size≤70000) (w:World):Calls Tryz.prog 105 #[.string s] w (FB (bF 32 (aA s)) w):=by
 obtain⟨i0,hi0,hz0,hz1,hz2⟩:=info_parts aFG
 go_enter Tryz.func105,Tryz.ntmps105
 go_wp2
 go_loopw [3,4,5] (fun v u i wr=>∃ (k f m:Nat) (P:List (List Nat)),i=.int .i64 k∧u=.int .i64 f∧k≤s.size+1∧kA 32 s P f k∧P.length=m∧m≤k∧wr.ownsRow w.heap.size 9 1 v m (rows cS P)∧Below w.heap.size w wr) (fun _ _ i _=>s.size+1 - (intOf i).toNat)
 case atStart=>exact⟨0,0,0,[],rfl,rfl,by omega,kA.zero _ _,rfl,Nat.le_refl _,World.ownsRow_nil _ _ _ _,Below.refl _ _⟩
 case round =>
  obtain⟨k,f,m,P,rfl,rfl,hk,hS,hm,hmk,hown,hB⟩:=hrel
  have hsz:=hB.size
  by_cases hk2:k≤s.size
  ·have hfk:=hS.from hk2
   by_cases hgo:k<s.size∧aV s k≠32
   ·obtain⟨hlt,hne⟩:=hgo
    have E1:=bP s k hlt
    have HEND:=hid (show kA 32 s P f (k+1)∧P.length=m∧wr.ownsRow w.heap.size 9 1 u3 m (rows cS P)∧Below w.heap.size w wr from ⟨hS.step hlt hne,hm,hown,hB⟩)
    obtain⟨b,hb⟩:∃ b,aV s k=b:=⟨_,rfl⟩
    rw[hb]at E1 hne
    have t1:((b:Int)==32)=false:=beq_eq_false_iff_ne.2 (by omega)
    have t2:((k:Int)==(s.size:Int))=false:=beq_eq_false_iff_ne.2 (by omega)
    clear hb hne hS hm hown hB
    go_wp2
    go_roundw
    case rel=>exact⟨k+1,f,m,P,by go_num,rfl,by omega,HEND.out.1,HEND.out.2.1,by omega,HEND.out.2.2.1,HEND.out.2.2.2⟩
    case measure=>simp[intOf];omega
   ·have HOWN:=hid hown
    have HB:=hid hB
    have HLT:=hid hown.lt
    have HEND:=hid (show kA 32 s (P++[aA (s.extract f k)]) (k+1) (k+1)∧(P++[aA (s.extract f k)]).length=m+1∧rows cS (P++[aA (s.extract f k)])=rows cS P++[.string (s.extract f k)] from
     ⟨hS.cut hk2 (fun h=>Classical.byContradiction fun h2=>hgo ⟨h,h2⟩),by rw[List.length_append,hm];rfl,N8 P _⟩)
    clear hS hm
    by_cases hlt:k<s.size
    ·have E1:=bP s k hlt
     have hb:aV s k=32:=Classical.byContradiction fun h=>hgo ⟨hlt,h⟩
     rw[hb]at E1
     have t2:((k:Int)==(s.size:Int))=false:=beq_eq_false_iff_ne.2 (by omega)
     clear hgo hb hB
     rcases hown.2 with⟨rfl,-⟩ | ⟨g,cap,cur,rfl,-⟩
     all_goals
      clear hown
      go_wp2_with (at_builtin;go_loud (refine wpList_append_own _ rfl _ _ 91 rfl w.heap.size 9 i0 _ 1 16 Tryz.underlying91 hi0 hz0 hz1 hz2 rfl (by decide) _ _ _ rfl (HOWN.out.alloc _) ⟨wr.heap.size,0,none⟩ 1 1 [.string (s.extract f k)] rfl rfl (cell_one_new _ _ _) (by simp[Value.oneCell']) (by unfold maxLen;omega) (by omega) (by simp;omega) ?_);intro v' w1 hown' hgrow _;have HF:=hid (show w1.ownsRow w.heap.size 9 1 v' (m+1) (rows cS (P++[aA (s.extract f k)]))∧Below w.heap.size w w1 from ⟨by rw[HEND.out.2.2];exact hown',(HB.out.alloc (by omega) _).grown hgrow (by simp;omega) (fun j ej=>(HLT.out j ej).1)⟩);clear hown' hgrow)
      go_roundw
      case rel=>exact⟨k+1,k+1,m+1,_,by go_num,by go_num,by omega,HEND.out.1,HEND.out.2.1,by omega,HF.out.1,HF.out.2⟩
      case measure=>simp[intOf];omega
    ·obtain rfl:k=s.size:=by omega
     clear hgo hlt hB
     rcases hown.2 with⟨rfl,-⟩ | ⟨g,cap,cur,rfl,-⟩
     all_goals
      clear hown
      go_wp2_with (at_builtin;go_loud (refine wpList_append_own _ rfl _ _ 91 rfl w.heap.size 9 i0 _ 1 16 Tryz.underlying91 hi0 hz0 hz1 hz2 rfl (by decide) _ _ _ rfl (HOWN.out.alloc _) ⟨wr.heap.size,0,none⟩ 1 1 [.string (s.extract f s.size)] rfl rfl (cell_one_new _ _ _) (by simp[Value.oneCell']) (by unfold maxLen;omega) (by omega) (by simp;omega) ?_);intro v' w1 hown' hgrow _;have HF:=hid (show w1.ownsRow w.heap.size 9 1 v' (m+1) (rows cS (P++[aA (s.extract f s.size)]))∧Below w.heap.size w w1 from ⟨by rw[HEND.out.2.2];exact hown',(HB.out.alloc (by omega) _).grown hgrow (by simp;omega) (fun j ej=>(HLT.out j ej).1)⟩);clear hown' hgrow)
      go_roundw
      case rel=>exact⟨s.size+1,s.size+1,m+1,_,by go_num,by go_num,by omega,HEND.out.1,HEND.out.2.1,by omega,HF.out.1,HF.out.2⟩
      case measure=>simp[intOf]
  ·obtain rfl:k=s.size+1:=by omega
   have HFIN:=hid (show FB (bF 32 (aA s)) w (.returned u3) wr from ⟨u3,rfl,by rw[hS.done,hm];exact hown,hB⟩)
   clear hS hm hown hB
   go_wp2
   go_ret
   exact HFIN.out
def r9 (l:List Nat):Int:=match BN l with | some n=>((n:Nat):Int) | none=>-1
theorem YK {s:ByteArray} (h:s.size=1):aA s=[aV s 0]:=by
 have hl:=aD s
 unfold aV
 cases hL:aA s with
 | nil=>rw[hL,h]at hl;cases hl
 | cons x r =>
  rw[hL,h]at hl
  obtain rfl:r=[]:=List.length_eq_zero_iff.1 (by simpa using hl)
  rfl
theorem aD7 {s:ByteArray} (h:s.size=2):aA s=[aV s 0,aV s 1]:=by
 have hl:=aD s
 unfold aV
 cases hL:aA s with
 | nil=>rw[hL,h]at hl;cases hl
 | cons x r =>
  rw[hL,h,List.length_cons]at hl
  cases r with
  | nil=>simp at hl
  | cons y q =>
   obtain rfl:q=[]:=List.length_eq_zero_iff.1 (by simpa using hl)
   rfl
theorem TG {l:List Nat} (h1:l.length≠1) (h2:l.length≠2):r9 l = -1:=by
 unfold r9 BN
 match l,h1,h2 with
 | [],_,_=>rfl
 | [a],h,_=>exact absurd rfl h
 | [a,b],_,h=>exact absurd rfl h
 | a::b::c::r,_,_=>rfl
theorem aD8 (b:Nat):r9 [b]=if 48≤b∧b≤57 then ((b - 48:Nat):Int) else -1:=by
 unfold r9 BN
 by_cases h:48≤b∧b≤57
 ·simp only[if_pos h]
 ·simp only[if_neg h]
theorem aD9 (a b:Nat):r9 [a,b]=if (49≤a∧a≤57)∧48≤b∧b≤57 then ((10 * (a - 48)+(b - 48):Nat):Int) else -1:=by
 unfold r9 BN
 by_cases h:(49≤a∧a≤57)∧48≤b∧b≤57
 ·simp only[if_pos h]
 ·simp only[if_neg h]
theorem KG (s:ByteArray) (hs:s.size≤70000) (w:World):Calls Tryz.prog 108 #[.string s] w fun e w'=>e=.returned (.int .i64 (r9 (aA s)))∧∃ n,w'=w.drewN n:=by
 by_cases h1:s.size=1
 ·have hlt:0<s.size:=by omega
  have E0:=bP s 0 hlt
  have hb2:=dQ s 0
  have HZ:=hid (show r9 (aA s)=r9 [aV s 0] by rw[YK h1])
  obtain⟨b,hb⟩:∃ b,aV s 0=b:=⟨_,rfl⟩
  rw[hb]at E0 hb2 HZ
  have HD:=hid (aD8 b)
  have t1:((s.size:Int)==1)=true:=by rw[h1];rfl
  have t2:((s.size:Int)==2)=false:=by rw[h1];rfl
  clear h1 hb
  by_cases c1:48≤b
  ·by_cases c2:b≤57
   ·go_enter Tryz.func108,Tryz.ntmps108
    go_wp2
    go_ret
    rw[HZ.out,HD.out,if_pos ⟨c1,c2⟩]
    exact⟨aI (by go_num),0,rfl⟩
   ·have u2:decide ((b:Int)≤57)=false:=by simp;omega
    go_enter Tryz.func108,Tryz.ntmps108
    go_wp2
    go_ret
    rw[HZ.out,HD.out,if_neg (by omega)]
    exact⟨rfl,0,rfl⟩
  ·have u1:decide (48≤(b:Int))=false:=by simp;omega
   go_enter Tryz.func108,Tryz.ntmps108
   go_wp2
   go_ret
   rw[HZ.out,HD.out,if_neg (by omega)]
   exact⟨rfl,0,rfl⟩
 have t1:((s.size:Int)==1)=false:=beq_eq_false_iff_ne.2 (by omega)
 by_cases h2:s.size=2
 ·have hlt:0<s.size:=by omega
  have hlt1:1<s.size:=by omega
  have E0:=bP s 0 hlt
  have E1:=bP s 1 hlt1
  have hb2:=dQ s 0
  have hc2:=dQ s 1
  have HZ:=hid (show r9 (aA s)=r9 [aV s 0,aV s 1] by rw[aD7 h2])
  obtain⟨a,ha⟩:∃ a,aV s 0=a:=⟨_,rfl⟩
  obtain⟨b,hb⟩:∃ b,aV s 1=b:=⟨_,rfl⟩
  rw[ha]at E0 hb2 HZ
  rw[hb]at E1 hc2 HZ
  have HD:=hid (aD9 a b)
  have t2:((s.size:Int)==2)=true:=by rw[h2];rfl
  clear h1 h2 ha hb
  by_cases hok:(49≤a∧a≤57)∧48≤b∧b≤57
  ·have HV:=hid (HD.out.trans (if_pos hok))
   obtain⟨⟨c1,c2⟩,c3,c4⟩:=hok
   clear HD
   go_enter Tryz.func108,Tryz.ntmps108
   go_wp2_with fail
   go_quiet (fail)
   go_wp2
   go_ret
   rw[HZ.out,HV.out]
   exact⟨aI (by go_num),_,rfl⟩
  ·have HV:=hid (HD.out.trans (if_neg hok))
   clear HD
   by_cases c1:49≤a
   ·by_cases c2:a≤57
    ·by_cases c3:48≤b
     ·have u4:decide ((b:Int)≤57)=false:=by simp;omega
      clear hok
      go_enter Tryz.func108,Tryz.ntmps108
      go_wp2
      go_ret
      rw[HZ.out,HV.out]
      exact⟨rfl,0,rfl⟩
     ·have u4:decide (48≤(b:Int))=false:=by simp;omega
      clear hok
      go_enter Tryz.func108,Tryz.ntmps108
      go_wp2
      go_ret
      rw[HZ.out,HV.out]
      exact⟨rfl,0,rfl⟩
    ·have u4:decide ((a:Int)≤57)=false:=by simp;omega
     clear hok
     go_enter Tryz.func108,Tryz.ntmps108
     go_wp2
     go_ret
     rw[HZ.out,HV.out]
     exact⟨rfl,0,rfl⟩
   ·have u4:decide (49≤(a:Int))=false:=by simp;omega
    clear hok
    go_enter Tryz.func108,Tryz.ntmps108
    go_wp2
    go_ret
    rw[HZ.out,HV.out]
    exact⟨rfl,0,rfl⟩
 ·have t2:((s.size:Int)==2)=false:=beq_eq_false_iff_ne.2 (by omega)
  have HZ:=hid (TG (l:=aA s) (by rw[aD];exact h1) (by rw[aD];exact h2))
  clear h1 h2
  go_enter Tryz.func108,Tryz.ntmps108
  go_wp2
  go_ret
  rw[HZ.out]
  exact⟨rfl,0,rfl⟩
theorem TH:rows cS bX=[.string { data:=#[99,97,112] },.string { data:=#[99,97,112,115] },.string { data:=#[110,117,109] },.string { data:=#[108,101,116] },.string { data:=#[101,43] },.string { data:=#[101,45] },.string { data:=#[115,43] },.string { data:=#[115,45] },.string { data:=#[110,43] },.string { data:=#[110,45] },.string { data:=#[98,108,107] },.string { data:=#[99,111,110,116] },.string { data:=#[105,110,100] }]:=by kernel_rfl
theorem N9 (w:World):Calls Tryz.prog 42 #[] w (FB bX w):=by
 go_enter Tryz.func42,Tryz.ntmps42
 go_wp2
 go_ret
 refine⟨_,rfl,?_,(Below.refl _ _).alloc (Nat.le_refl _) _⟩
 rw[TH]
 exact World.ownsRow_lit w _ 13 (Nat.le_refl _) (by decide) rfl
theorem TI:rows cS ([]::aEW)=[.string { data:=#[] },.string { data:=#[97,110,121] },.string { data:=#[98,101,103,105,110] },.string { data:=#[105,110,110,101,114] },.string { data:=#[101,110,100] },.string { data:=#[119,111,114,100] },.string { data:=#[109,97,114,107] },.string { data:=#[100,105,103,105,116] },.string { data:=#[115,105,103,110] }]:=by kernel_rfl
theorem OA (w:World):Calls Tryz.prog 106 #[] w (FB ([]::aEW) w):=by
 go_enter Tryz.func106,Tryz.ntmps106
 go_wp2
 go_ret
 refine⟨_,rfl,?_,(Below.refl _ _).alloc (Nat.le_refl _) _⟩
 rw[TI]
 exact World.ownsRow_lit w _ 9 (Nat.le_refl _) (by decide) rfl
def vM (s:List Nat) (k:Nat):Prop:=∀ j,j<k→bX[j]?≠some s
theorem vM.step {s:List Nat} {k:Nat} (h:vM s k) (hn:bX[k]?≠some s):vM s (k+1):=fun j hj=>by
 rcases Nat.lt_or_ge j k with j3 | j3
 ·exact h j j3
 ·obtain rfl:j=k:=by omega
  exact hn
theorem OB {s:List Nat} (h:vM s 13):aX 8 s=false:=by
 show bX.contains s=false
 rw[Bool.eq_false_iff]
 intro hc
 obtain⟨j,hj⟩:=List.mem_iff_getElem?.1 (List.contains_iff_mem.1 hc)
 exact h j (List.getElem?_eq_some_iff.1 hj).1 hj
theorem oneOf {s:List Nat} {k:Nat} (h:bX[k]?=some s):aX 8 s=true:=List.contains_iff_mem.2 (List.mem_of_getElem? h)
theorem OC (s:ByteArray) (hs:s.size≤70000) (b:Bool) (hb:aX 8 (aA s)=b) (w:World) :
  Calls Tryz.prog 71 #[.int .i64 8,.string s] w fun e w'=>e=.returned (.bool b)∧Below w.heap.size w w':=by
 have HB:=hid hb
 clear hb
 go_enter Tryz.func71,Tryz.ntmps71
 go_wp2_with fail
 refine(N9 w).mono ?_
 rintro e w1 ⟨v,rfl,own,hb1⟩
 have HOWN:=hid own
 have HB1:=hid hb1
 obtain⟨g,cap,rfl,hg,hgb,hcap⟩:=dS own (by decide)
 clear own hb1
 go_wp2
 go_loopw [6] (fun u6 wr=>∃ k:Nat,u6=.int .i64 k∧k≤13∧vM (aA s) k∧wr=w1) (fun u6 _=>13 - (intOf u6).toNat)
 case atStart=>exact⟨0,rfl,by omega,fun j hj=>by omega,rfl⟩
 case round =>
  obtain⟨k,rfl,hk,hN,rfl⟩:=hrel
  by_cases hlt:k<13
  ·obtain⟨d,hd⟩:∃ d,bX[k]?=some d:=⟨_,List.getElem?_eq_getElem (show k<bX.length from hlt)⟩
   have C1:wr.cell? ⟨g,k,none⟩=some (.string (bytesOf d)):=by
    have:=HOWN.out.cellAt (k * 1+0) (by show k * 1+0<13 * 1;omega)
    rw[fE cS FA bX k d hd 0 (by omega)]at this
    simpa[cS] using this
   by_cases heq:bytesOf d=s
   ·have HT:=hid (show aX 8 (aA s)=true from oneOf (k:=k) (by
     rw[hd,← heq]
     have hx:∀ j:Fin 13,∀ x ∈ bX[j.val]?.getD [],x<256:=by decide +kernel
     have:=hx ⟨k,hlt⟩
     rw[hd]at this
     rw[aB d this]))
    subst heq
    clear hN hd
    go_wp2
    go_ret
    rw[← HB.out,HT.out]
    exact⟨rfl,HB1.out⟩
   ·have HT:=hid (show vM (aA s) (k+1) from hN.step fun e=>heq (by rw[hd]at e;rw[Option.some.inj e];exact aP s))
    have hne:=kI heq
    clear hN hd heq
    go_wp2
    go_roundw
    case rel=>exact⟨k+1,by go_num,by omega,HT.out,trivial⟩
    case measure=>simp[intOf];omega
  ·obtain rfl:k=13:=by omega
   have HT:=hid (OB hN)
   clear hN hlt
   go_wp2
   go_ret
   rw[← HB.out,HT.out]
   exact⟨rfl,HB1.out⟩
theorem KH {k c:Nat} {s:ByteArray} (hk:k=6∧c=4∨k=7∧c=3) (h:s.size≠1):aX k (aA s)=false:=by
 have hl:=aD s
 have e:∀ l:List Nat,l.length≠1→(match l with | [b]=>Ka.fJ b==c | _=>false)=false:=fun l hl=>by
  match l,hl with
  | [],_=>rfl
  | [a],h=>exact absurd rfl h
  | a::b::r,_=>rfl
 rcases hk with⟨rfl,rfl⟩ | ⟨rfl,rfl⟩
 ·unfold aX
  rw[if_neg (by decide),if_pos rfl]
  exact e _ (by omega)
 ·unfold aX
  rw[if_neg (by decide),if_neg (by decide),if_pos rfl]
  exact e _ (by omega)
theorem YL {k c:Nat} {s:ByteArray} (hk:k=6∧c=4∨k=7∧c=3) (h:s.size=1):aX k (aA s)=(Ka.fJ (aV s 0)==c):=by
 rw[YK h]
 rcases hk with⟨rfl,rfl⟩ | ⟨rfl,rfl⟩<;>rfl
theorem DH (k c:Nat) (hk:k=6∧c=4∨k=7∧c=3) (s:ByteArray) (_hs:s.size≤70000) (b:Bool) (hb:aX k (aA s)=b) (w:World) :
  Calls Tryz.prog 71 #[.int .i64 k,.string s] w fun e w'=>e=.returned (.bool b)∧w=w':=by
 by_cases h1:s.size=1
 ·have hlt:0<s.size:=by omega
  have E0:=bP s 0 hlt
  have hb2:=dQ s 0
  rw[YL hk h1]at hb
  obtain⟨d,hd⟩:∃ d,aV s 0=d:=⟨_,rfl⟩
  rw[hd]at E0 hb2 hb
  have t1:((s.size:Int)==1)=true:=by rw[h1];rfl
  clear h1 hd
  rcases hk with⟨rfl,rfl⟩ | ⟨rfl,rfl⟩
  ·by_cases e:Ka.fJ d=4
   ·have HC:=hid (show Ka.cls (d:Int)=4 by unfold Ka.cls;rw[Int.toNat_natCast,e];rfl)
    obtain rfl:true=b:=by rw[← hb,e];rfl
    clear e hb
    go_enter Tryz.func71,Tryz.ntmps71
    go_wp2_with (go_at_call 54;refine(Ka.kO _ _ (by omega) (by omega) HC.out _).mono ?_;rintro e w' ⟨rfl,rfl⟩)
    go_ret
    exact⟨rfl,rfl⟩
   ·obtain rfl:false=b:=by rw[← hb];exact(beq_eq_false_iff_ne.2 e).symm
    obtain⟨q,hq⟩:∃ q:Int,Ka.cls (d:Int)=q:=⟨_,rfl⟩
    have HC:=hid hq
    have t2:(q==4)=false:=beq_eq_false_iff_ne.2 (fun h=>e (by unfold Ka.cls at hq;rw[Int.toNat_natCast]at hq;omega))
    clear e hb hq
    go_enter Tryz.func71,Tryz.ntmps71
    go_wp2_with (go_at_call 54;refine(Ka.kO _ _ (by omega) (by omega) HC.out _).mono ?_;rintro e w' ⟨rfl,rfl⟩)
    go_ret
    exact⟨rfl,rfl⟩
  ·by_cases e:Ka.fJ d=3
   ·have HC:=hid (show Ka.cls (d:Int)=3 by unfold Ka.cls;rw[Int.toNat_natCast,e];rfl)
    obtain rfl:true=b:=by rw[← hb,e];rfl
    clear e hb
    go_enter Tryz.func71,Tryz.ntmps71
    go_wp2_with (go_at_call 54;refine(Ka.kO _ _ (by omega) (by omega) HC.out _).mono ?_;rintro e w' ⟨rfl,rfl⟩)
    go_ret
    exact⟨rfl,rfl⟩
   ·obtain rfl:false=b:=by rw[← hb];exact(beq_eq_false_iff_ne.2 e).symm
    obtain⟨q,hq⟩:∃ q:Int,Ka.cls (d:Int)=q:=⟨_,rfl⟩
    have HC:=hid hq
    have t2:(q==3)=false:=beq_eq_false_iff_ne.2 (fun h=>e (by unfold Ka.cls at hq;rw[Int.toNat_natCast]at hq;omega))
    clear e hb hq
    go_enter Tryz.func71,Tryz.ntmps71
    go_wp2_with (go_at_call 54;refine(Ka.kO _ _ (by omega) (by omega) HC.out _).mono ?_;rintro e w' ⟨rfl,rfl⟩)
    go_ret
    exact⟨rfl,rfl⟩
 ·obtain rfl:false=b:=by rw[← hb,KH hk h1]
  have t1:((s.size:Int)==1)=false:=beq_eq_false_iff_ne.2 (by omega)
  clear h1 hb
  rcases hk with⟨rfl,rfl⟩ | ⟨rfl,rfl⟩
  ·go_enter Tryz.func71,Tryz.ntmps71
   go_wp2
   go_ret
   exact⟨rfl,rfl⟩
  ·go_enter Tryz.func71,Tryz.ntmps71
   go_wp2
   go_ret
   exact⟨rfl,rfl⟩
def tJ (s:ByteArray) (k:Nat):Prop:=∀ j,j<k→Ka.fJ (aV s j)=1
theorem tJ.step {s:ByteArray} {k:Nat} (h:tJ s k) (hn:Ka.fJ (aV s k)=1):tJ s (k+1):=fun j hj=>by
 rcases Nat.lt_or_ge j k with j3 | j3
 ·exact h j j3
 ·obtain rfl:j=k:=by omega
  exact hn
theorem TJ {s:ByteArray} {k:Nat} (hk:k≤5) (h:tJ s s.size):aX k (aA s)=decide (0<s.size∧s.size≤12):=by
 unfold aX
 rw[if_pos hk,aD,show ((aA s).all fun b=>Ka.fJ b==1)=true from List.all_eq_true.2 fun x hx=>by
  obtain⟨j,hj,rfl⟩:=Ce.mM s hx
  rw[beq_iff_eq];exact h j hj,Bool.and_true]
theorem YM {s:ByteArray} {k j:Nat} (hk:k≤5) (hj:j<s.size) (h:Ka.fJ (aV s j)≠1):aX k (aA s)=false:=by
 unfold aX
 rw[if_pos hk,show ((aA s).all fun b=>Ka.fJ b==1)=false from by
  rw[Bool.eq_false_iff]
  intro ha
  have:=List.all_eq_true.1 ha (aV s j) (by
   have hl:j<(aA s).length:=by rw[aD];exact hj
   unfold aV
   rw[List.getD_eq_getElem?_getD,List.getElem?_eq_getElem hl]
   exact List.getElem_mem hl)
  exact h (by simpa using this),Bool.and_false]
theorem KJ (k:Nat) (hk:k≤5) (s:ByteArray) (hs:s.size≤70000) (b:Bool) (hb:aX k (aA s)=b) (w:World) :
  Calls Tryz.prog 71 #[.int .i64 k,.string s] w fun e w'=>e=.returned (.bool b)∧w=w':=by
 have HB:=hid hb
 have k0:(0:Int)≤(k:Int):=by omega
 have t6:((k:Int)==6)=false:=beq_eq_false_iff_ne.2 (by omega)
 have t7:((k:Int)==7)=false:=beq_eq_false_iff_ne.2 (by omega)
 have t8:((k:Int)==8)=false:=beq_eq_false_iff_ne.2 (by omega)
 clear hb
 go_enter Tryz.func71,Tryz.ntmps71
 go_wp2
 go_loopw [7] (fun u7 wr=>∃ i:Nat,u7=.int .i64 i∧i≤s.size∧tJ s i∧wr=w) (fun u7 _=>s.size - (intOf u7).toNat)
 case atStart=>exact⟨0,rfl,by omega,fun j hj=>by omega,rfl⟩
 case round =>
  obtain⟨i,rfl,hi,hN,rfl⟩:=hrel
  by_cases hlt:i<s.size
  ·have E1:=bP s i hlt
   have hb2:=dQ s i
   obtain⟨q,hq⟩:∃ q,Ka.fJ (aV s i)=q:=⟨_,rfl⟩
   have HC:=hid (show Ka.cls ((aV s i:Nat):Int)=(q:Int) by unfold Ka.cls;rw[Int.toNat_natCast,hq])
   by_cases hq1:q=1
   ·subst hq1
    have HT:=hid (hN.step hq)
    obtain⟨d,hd⟩:∃ d,aV s i=d:=⟨_,rfl⟩
    rw[hd]at E1 hb2 HC
    clear hN hq hd
    go_wp2_with (go_at_call 54;refine(Ka.kO _ _ (by omega) (by omega) HC.out _).mono ?_;rintro e w' ⟨rfl,rfl⟩)
    go_roundw
    case rel=>exact⟨i+1,by go_num,by omega,HT.out,trivial⟩
    case measure=>simp[intOf];omega
   ·have HT:=hid (YM hk hlt (by rw[hq];exact hq1))
    have t9:((q:Int) != 1)=true:=by rw[bne,beq_eq_false_iff_ne.2 (by omega)];rfl
    obtain⟨d,hd⟩:∃ d,aV s i=d:=⟨_,rfl⟩
    rw[hd]at E1 hb2 HC
    clear hN hq hd hq1
    go_wp2_with (go_at_call 54;refine(Ka.kO _ _ (by omega) (by omega) HC.out _).mono ?_;rintro e w' ⟨rfl,rfl⟩)
    go_ret
    rw[← HB.out,HT.out]
    exact⟨rfl,rfl⟩
  ·obtain rfl:i=s.size:=by omega
   have HT:=hid (TJ hk hN)
   clear hN hlt
   by_cases h0:0<s.size
   ·by_cases h12:s.size≤12
    ·have HV:=hid (HT.out.trans (decide_eq_true ⟨h0,h12⟩))
     clear HT
     go_wp2
     go_ret
     rw[← HB.out,HV.out]
     exact⟨aC (decide_eq_true (by omega)),rfl⟩
    ·have HV:=hid (HT.out.trans (decide_eq_false fun h=>h12 h.2))
     have u1:decide ((s.size:Int)≤12)=false:=by simp;omega
     clear HT
     go_wp2
     go_ret
     rw[← HB.out,HV.out]
     exact⟨rfl,rfl⟩
   ·have HV:=hid (HT.out.trans (decide_eq_false fun h=>h0 h.1))
    have u1:decide (0<(s.size:Int))=false:=decide_eq_false (by omega)
    clear HT
    go_wp2
    go_ret
    rw[← HB.out,HV.out]
    exact⟨rfl,rfl⟩
theorem jP (k:Nat) (h7:k≤7) (s:ByteArray) (hs:s.size≤70000) (b:Bool) (hb:aX k (aA s)=b) (w:World) :
  Calls Tryz.prog 71 #[.int .i64 k,.string s] w fun e w'=>e=.returned (.bool b)∧w=w':=by
 rcases Nat.lt_or_ge 5 k with h5 | h5
 ·obtain rfl | rfl:k=6∨k=7:=by omega
  ·exact DH 6 4 (.inl ⟨rfl,rfl⟩) s hs b hb w
  ·exact DH 7 3 (.inr ⟨rfl,rfl⟩) s hs b hb w
 ·exact KJ k h5 s hs b hb w
theorem DI (k:Nat) (h8:k≤8) (s:ByteArray) (hs:s.size≤70000) (b:Bool) (hb:aX k (aA s)=b) (w:World) :
  Calls Tryz.prog 71 #[.int .i64 k,.string s] w fun e w'=>e=.returned (.bool b)∧Below w.heap.size w w':=by
 rcases Nat.lt_or_ge 7 k with h7 | h7
 ·obtain rfl:k=8:=by omega
  exact OC s hs b hb w
 ·exact(jP k h7 s hs b hb w).mono fun _ _ h=>⟨h.1,h.2▸Below.refl _ _⟩
theorem YN {c:List Nat} (h:∀ x ∈ c,x<256):(dM c).isSome=decide (Ce.eE (bytesOf c)=0):=by
 unfold dM Ce.eE
 by_cases hk:Ce.dN (bytesOf c)
 ·rw[if_pos ⟨h,hk⟩,if_pos hk];rfl
 ·rw[if_neg (fun e=>hk e.2),if_neg hk];rfl
def YO (aE prio:Int):Bool:=if aE≤5 then decide (0≤prio∧prio≤99) else decide (prio=0)
theorem aB3 {aE:Int} {left cells:List Nat} {prio line:Int} (hc:∀ x ∈ cells,x<256) :
  nM dM ⟨aE,left,cells,prio,line⟩=(decide (1≤aE∧aE≤8) && aX aE.toNat left && decide (Ce.eE (bytesOf cells)=0) && YO aE prio):=by
 unfold nM YO
 rw[← YN hc]
end Go.Proofs.YthbigkoihpgcfaaGreatDoor.Ru
