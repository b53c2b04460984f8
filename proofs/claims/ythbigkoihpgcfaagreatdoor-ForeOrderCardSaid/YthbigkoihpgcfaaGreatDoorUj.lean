/-
  Put together.
-/
import Derived.Test.YthbigkoihpgcfaaGreatDoorUi
open Go.Lib (hid)
set_option maxRecDepth 100000
set_option maxHeartbeats 16000000
namespace Go.Proofs.YthbigkoihpgcfaaGreatDoor.Ce
open Go.RowKit
theorem gM (s:ByteArray) (h:¬ s.size=0):s.toList.isEmpty=false:=by
 have:=Classical.propDecidable (s=ByteArray.empty)
 rw[← decide_eq_emptyBytes]
 simp only[decide_eq_false_iff_not]
 rintro rfl
 exact h rfl
theorem a6 {W W':World} {B e size n:Nat} {v:Value} {xs:List Value} (h:W.ownsRow B e size v n xs) (hb:Below W.heap.size W W'):W'.ownsRow B e size v n xs:=by
 refine⟨h.1,?_⟩
 rcases h.2 with hn | ⟨g,cap,cur,hv,hbg,hg,rest⟩
 ·exact .inl hn
 ·exact .inr ⟨g,cap,cur,hv,hbg,(hb.block g (Array.getElem?_eq_some_iff.1 hg).1).trans hg,rest⟩
theorem aAB:(Tryz.prog.info? 9).map (fun i=>(i.zero,i.size,i.bytes))=some (some (.string { data:=#[] }),1,16):=by kernel_rfl
def BU (s:ByteArray) (k:Nat):List Value:=(List.range k).map fun j=>.string (lO (aV s j))
theorem LO (s:ByteArray) (k:Nat):BU s (k+1)=BU s k++[.string (lO (aV s k))]:=by simp[BU,List.range_succ]
def rF (s:ByteArray):List ByteArray:=(aA s).map lO
theorem kQ (s:ByteArray):(rF s).length=s.size:=by unfold rF;rw[List.length_map,aD]
theorem UX (s:ByteArray) (j:Nat) (x:ByteArray) (h:(rF s)[j]?=some x):(BU s s.size)[j]?=some (.string x):=by
 have hj:j<s.size:=by rw[← kQ];exact(List.getElem?_eq_some_iff.1 h).1
 have hl:j<(aA s).length:=by rw[aD];exact hj
 have h2:x=lO (aV s j):=by
  unfold rF at h
  rw[List.getElem?_map,List.getElem?_eq_getElem hl]at h
  unfold aV
  rw[List.getD_eq_getElem?_getD,List.getElem?_eq_getElem hl]
  simpa using h.symm
 rw[h2]
 unfold BU
 rw[List.getElem?_map,List.getElem?_range hj];rfl
theorem yD:∀ l:List Nat,Lib.join ((l.map lO).map fun(b:ByteArray)=>b.data.toList) [45]=(cA l).map UInt8.ofNat
 | []=>rfl
 | [x]=>by simp[Lib.join,List.intercalate,cA,lO,bytesOf]
 | x::y::r=>by
  have ih:=yD (y::r)
  have e:Lib.join (((x::y::r).map lO).map fun(b:ByteArray)=>b.data.toList) [45]=(lO x).data.toList++45::Lib.join (((y::r).map lO).map fun(b:ByteArray)=>b.data.toList) [45]:=by
   simp[Lib.join,List.intercalate]
  rw[e,ih]
  simp[cA,lO,bytesOf]
def aC1:ByteArray:={ data:=#[45] }
theorem aAC (s:ByteArray) (h4:s.size≤4) (g cap:Nat) (w:World) (hc:∀ (j:Nat) x,(rF s)[j]?=some x→w.cell? ⟨g,0+j,none⟩=some (.string x)) (hg:g<w.heap.size) (hcap:s.size≤cap) :
  Calls Tryz.prog 150 #[.slice (some ⟨g,0,none⟩) s.size cap,.string aC1] w fun e w'=>e=.returned (.string (bytesOf (cA (aA s))))∧Below w.heap.size w w':=by
 have hj:=yD (aA s)
 have hl:=yC (aA s)
 rw[aD]at hl
 have:=Tryz.strings_Join g 0 cap (rF s) aC1 w hc hg (by rw[kQ];omega) (by rw[kQ];exact hcap) (by
  show (Lib.join (((aA s).map lO).map fun(b:ByteArray)=>b.data.toList) [45]).length≤_
  rw[hj,List.length_map];omega)
 rw[kQ]at this
 refine this.mono fun e w' ⟨he,hb⟩=>⟨?_,hb⟩
 rw[he]
 show Ending.returned (.string ⟨(Lib.join (((aA s).map lO).map fun(b:ByteArray)=>b.data.toList) [45]).toArray⟩)=_
 rw[hj];rfl
theorem QG (s:ByteArray) (hs:s.size≤70000) (w:World) :
  Calls Tryz.prog 110 #[.string s] w fun e w'=>e=.returned (.tuple #[.string (eD s),.int .i64 (eE s)])∧Below w.heap.size w w':=by
 by_cases h0:s.size=0
 ·have hn:¬ dN s:=fun h=>by have:=h.1;omega
  have HV:=hid (uD hn)
  have HE:=hid (uE hn)
  obtain rfl:s={ data:=#[] }:=ByteArray.size_eq_zero_iff.1 h0
  clear hn h0
  go_enter Tryz.func110,Tryz.ntmps110
  go_wp2
  go_ret2
  exact⟨x8 HV.out HE.out,Below.refl _ _⟩
 have e1:s.toList.isEmpty=false:=gM s h0
 by_cases h4:4<s.size
 ·have hn:¬ dN s:=fun h=>by have:=h.2.1;omega
  have HV:=hid (uD hn)
  have HE:=hid (uE hn)
  clear hn h0
  go_enter Tryz.func110,Tryz.ntmps110
  go_wp2
  go_ret2
  exact⟨x8 HV.out HE.out,Below.refl _ _⟩
 have t2:decide (4<s.size)=false:=by simp;omega
 have h1:1≤s.size:=by omega
 have h4':s.size≤4:=by omega
 obtain⟨i0,hi,hz0,hz1,hz2⟩:=info_parts aAB
 have hcv:=Lib.run_convert_string_bytes (P:=Tryz.prog) w 9 89 5 s (u:=.string) Tryz.underlying9 Tryz.underlying89 Tryz.underlying5
 have hI0:=LM.zero (fun b=>b) w s
 have HSZ:=hid (Lib.bytesWorld_size w 5 s)
 clear h0 h4
 go_enter Tryz.func110,Tryz.ntmps110
 go_wp2
 clear hcv
 obtain⟨W1,hW1⟩:∃ W1,Lib.bytesWorld w 5 s=W1:=⟨_,rfl⟩
 rw[hW1]at hI0 HSZ ⊢
 clear hW1
 go_loopw [4,17] (fun v i wr=>∃ k:Nat,k≤s.size∧i=.int .i64 k∧wr.ownsRow (w.heap.size+1) 9 1 v k (BU s k)∧Below (w.heap.size+1) W1 wr∧BA UK s k) (fun _ i _=>s.size - (intOf i).toNat)
 case atStart=>exact⟨0,by omega,rfl,World.ownsRow_nil _ _ _ _,Below.refl _ _,BA.zero _ _⟩
 case round =>
  obtain⟨k,hk,rfl,hown,hB,hA⟩:=hrel
  have hsz:=hB.size
  rw[HSZ.out]at hsz
  have hBw:Below w.heap.size w wr:=hI0.2.2.trans (hB.mono (by omega))
  by_cases hlt:k<s.size
  ·have hc:wr.cell? ⟨w.heap.size,k,none⟩=some (.int .u8 ((aV s k:Nat):Int)):=by
    rw[hB.cell (p:=⟨w.heap.size,k,none⟩) (by simp),hI0.1 k hlt,if_neg (by omega)]
   have h256:=dQ s k
   by_cases hp:UK (aV s k)=true
   ·have hA2:=hA.succ hp
    have hb:aV s k≠0∧aV s k≤63:=by unfold UK at hp;simpa using hp
    obtain⟨hb0,hb63⟩:=hb
    have u1:(((aV s k:Nat):Int)==0)=false:=beq_eq_false_iff_ne.2 (by omega)
    have u2:decide (63<((aV s k:Nat):Int))=false:=by simp;omega
    clear hp hb0
    go_wp2_with (first
     |(go_at_call 149;refine(US (aV s k) h256 _).mono ?_;rintro e w2 ⟨rfl,hb2⟩;have hown2:=a6 hown hb2;have hsz2:=hb2.size)
     |(at_builtin;refine wpList_append_own _ rfl _ _ 91 rfl (w.heap.size+1) 9 i0 (.string { data:=#[] }) 1 16 Tryz.underlying91 hi hz0 hz1 hz2 rfl (by decide) _ _ _ rfl (hown2.alloc _) ⟨w2.heap.size,0,none⟩ 1 1 [.string (lO (aV s k))] rfl rfl (cell_one_new _ _ _) (by simp[Value.oneCell']) (by unfold maxLen;omega) (by omega) (by simp;omega) ?_;intro v' w3 hown' hgrow _))
    have hB2:Below (w.heap.size+1) W1 w3:=((hB.trans (hb2.mono hsz)).alloc (by omega) _).grown hgrow (by simp;omega) (fun j ej=>by have:=(hown2.lt j ej).1;omega)
    exact⟨⟨k+1,by omega,by go_num,by rw[LO];exact hown',hB2,hA2⟩,by simp[intOf];omega⟩
   ·have hp':UK (aV s k)=false:=by simpa using hp
    have hbad:=UU hA hlt hp'
    have hn:¬ dN s:=fun h=>by have:=h.2.2;omega
    have HV:=hid (uD hn)
    have HE:=hid (uE hn)
    have hb:aV s k=0∨63<aV s k:=by
     unfold UK at hp';simp only[ne_eq,decide_eq_false_iff_not]at hp';omega
    clear hp hp' hbad hn hA
    by_cases hb0:aV s k=0
    ·have u1:(((aV s k:Nat):Int)==0)=true:=by rw[hb0];rfl
     clear hb0 hb
     go_wp2
     go_ret2
     exact⟨x8 HV.out HE.out,hBw⟩
    ·have u1:(((aV s k:Nat):Int)==0)=false:=beq_eq_false_iff_ne.2 (by omega)
     have u2:63<aV s k:=by omega
     clear hb0 hb
     go_wp2
     go_ret2
     exact⟨x8 HV.out HE.out,hBw⟩
  ·obtain rfl:k=s.size:=by omega
   have hok:dN s:=⟨h1,h4',BS hA⟩
   have HV:=hid (show bytesOf (cA (aA s))=eD s by unfold eD;rw[if_pos hok])
   have HE:=hid (show (0:Int)=eE s by unfold eE;rw[if_pos hok])
   rcases hown.2 with⟨_,h0⟩ | ⟨g,cap,cur,rfl,hg0,hg1,hcap,_⟩
   ·omega
   ·have hgs:g<wr.heap.size:=(Array.getElem?_eq_some_iff.1 hg1).1
    have hcs:∀ (j:Nat) x,(rF s)[j]?=some x→wr.cell? ⟨g,0+j,none⟩=some (.string x):=fun j x hx=>by
     have hj:j<s.size:=by rw[← kQ];exact(List.getElem?_eq_some_iff.1 hx).1
     rw[Nat.zero_add,hown.cellAt j (by omega)]
     exact UX s j x hx
    have HCS:=hid hcs
    clear hok hcs hg1
    go_wp2_with (go_at_call 150;refine(aAC s h4' g cap wr HCS.out hgs hcap).mono ?_;rintro e w2 ⟨rfl,hb2⟩)
    go_ret2
    exact⟨x8 HV.out HE.out,hBw.trans (hb2.mono hBw.size)⟩
def jS (s:ByteArray):Int:=match dY s with | some _=>-1 | none=>((sK s:Nat):Int)
theorem dL.pre {s:ByteArray} {pre:List (Pt s)} {f:Nat} (h:dL s pre f) (hf:f≤s.size) (x:Pt s) (hx:x.1=(f,dash s f)):pre++[x] <+: bU s 0:=by
 have e:x=⟨(f,dash s f),(cK s f hf).1,(cK s f hf).2.1⟩:=Subtype.ext hx
 unfold dL at h
 rw[h,dG s f hf,← e]
 exact⟨if dash s f<s.size then bU s (dash s f+1) else [],by simp⟩
def D5 (s:ByteArray) (pre:List (Pt s)) (f k:Nat):Prop :=
 (f≤k∧k≤s.size∧dL s pre f∧∀ j,f≤j→j<k→aV s j≠45)∨(k=s.size+1∧pre=bU s 0)
theorem yG {x y:ByteArray} {a b:Int} (h:x=y) (h':a=b):Ending.returned (.tuple #[.string x,.int .i64 a])=.returned (.tuple #[.string y,.int .i64 b]):=by rw[h,h']
theorem uG (t:ByteArray) (ht:t.size≤70000) (c:Nat) (b:Bool) (hc:FZ t=c) (hb:F4 t=b) (w:World) :
  Calls Tryz.prog 147 #[.string t] w fun e w'=>e=.returned (.tuple #[.int .u8 ((c:Nat):Int),.bool b])∧w=w':=hc▸hb▸aAA t ht w
theorem iO (s:ByteArray) (hs:s.size≤70000) (w:World) :
  Calls Tryz.prog 107 #[.string s] w fun e w'=>e=.returned (.tuple #[.string (gN s),.int .i64 (jS s)])∧Below w.heap.size w w':=by
 obtain⟨i0,hi,hz0,hz1,hz2⟩:=info_parts infoByte
 go_enter Tryz.func107,Tryz.ntmps107
 go_wp2
 go_loopw [4,5,6] (fun v u i wr=>∃ (k f m:Nat) (acc:List Nat) (pre:List (Pt s)),i=.int .i64 k∧u=.int .i64 f∧k≤s.size+1∧D5 s pre f k∧QH s pre=some acc∧acc.length=m∧wr.ownsRow w.heap.size 5 1 v m (oT acc)∧Below w.heap.size w wr) (fun _ _ i _=>s.size+1 - (intOf i).toNat)
 case atStart=>exact⟨0,0,0,[],[],rfl,rfl,by omega,.inl ⟨by omega,by omega,dL.zero s,fun j h1 h2=>by omega⟩,rfl,rfl,World.ownsRow_nil _ _ _ _,Below.refl _ _⟩
 case round =>
  obtain⟨k,f,m,acc,pre,rfl,rfl,hk,hS,hacc,hm,hown,hB⟩:=hrel
  have hsz:=hB.size
  have hlen:=LR hacc
  have hm4:m≤4:=by omega
  by_cases hk2:k≤s.size
  ·obtain⟨hfk,hks,hcm,hnd⟩:f≤k∧k≤s.size∧dL s pre f∧∀ j,f≤j→j<k→aV s j≠45:=by
    rcases hS with h | ⟨h,_⟩
    ·exact h
    ·omega
   clear hS
   by_cases hgo:k<s.size∧aV s k≠45
   ·-- no dash here
    obtain⟨hlt,hne⟩:=hgo
    have E1:=bP s k hlt
    have hS2:D5 s pre f (k+1):=.inl ⟨by omega,by omega,hcm,fun j h1 h2=>by
     rcases Nat.lt_or_ge j k with h3 | h3
     ·exact hnd j h1 h3
     ·obtain rfl:j=k:=by omega
      exact hne⟩
    have HA:=hid hacc
    have HM:=hid hm
    obtain⟨b,hb⟩:∃ b,aV s k=b:=⟨_,rfl⟩
    rw[hb]at E1 hne
    have t1:((b:Int) != 45)=true:=by rw[bne,beq_eq_false_iff_ne.2 (by omega)];rfl
    clear hacc hm hnd hcm hb hne hlen
    go_wp2
    exact⟨⟨k+1,f,m,acc,pre,by go_num,rfl,by omega,hS2,HA.out,HM.out,hown,hB⟩,by simp[intOf];omega⟩
   ·-- a part ends here
    have hd:dash s f=k:=(cK s f (by omega)).unique ⟨hfk,hks,hnd,fun h=>Classical.byContradiction fun h2=>hgo ⟨h,h2⟩⟩
    obtain⟨x,hx⟩:∃ x:Pt s,x.1=(f,k):=⟨⟨(f,k),hfk,hks⟩,rfl⟩
    have hpre:=hcm.pre (by omega) x (by rw[hx,hd])
    have hpt:DZ s x=FZ (s.extract f k):=by unfold DZ;rw[hx]
    have hes:=oS s f k hks
    have het:(s.extract f k).size≤70000:=by omega
    have hat:=uF s _ 0 pre x hpre
    rw[hx]at hat
    by_cases hfail:DZ s x=0∨m=4
    ·obtain⟨r1,r2,r3⟩:=LQ s pre x acc hacc (hm▸hfail) hpre
     have R1:=hid (show ({ data:=#[] }:ByteArray)=gN s from r1.symm)
     have R2:=hid (show ((f:Nat):Int)=jS s by
      unfold jS
      unfold jR at r3
      cases hL:dY s with
      | none=>simp only[];rw[r2];simp only[]at hat;omega
      | some l=>rw[hL]at r3;cases r3)
     clear r1 r2 r3 hat hpre hacc
     by_cases h0:DZ s x=0
     ·have HC:=hid (show FZ (s.extract f k)=0 by rw[← hpt,h0])
      have HB:=hid (show F4 (s.extract f k)=false by unfold F4;rw[HC.out];rfl)
      clear h0 hfail hpt hm hd hx hcm hnd hes
      by_cases hlt:k<s.size
      ·have E1:=bP s k hlt
       have hb:aV s k=45:=Classical.byContradiction fun h=>hgo ⟨hlt,h⟩
       have t1:(((s[k]'hlt).toNat:Int) != 45)=false:=by rw[E1,hb];rfl
       clear hgo E1 hb
       go_wp2_with (go_at_call 147;refine(uG _ het 0 false HC.out HB.out _).mono ?_;rintro e w' ⟨rfl,rfl⟩)
       go_ret2
       exact⟨yG R1.out R2.out,hB⟩
      ·have t2:decide (k<s.size)=false:=decide_eq_false hlt
       clear hgo
       go_wp2_with (go_at_call 147;refine(uG _ het 0 false HC.out HB.out _).mono ?_;rintro e w' ⟨rfl,rfl⟩)
       go_ret2
       exact⟨yG R1.out R2.out,hB⟩
     ·obtain rfl:m=4:=hfail.resolve_left h0
      obtain⟨c,hc⟩:∃ c,DZ s x=c:=⟨_,rfl⟩
      have HC:=hid (show FZ (s.extract f k)=c by rw[← hpt,hc])
      have HB:=hid (show F4 (s.extract f k)=true by unfold F4;rw[HC.out,← hc];simp[h0])
      rcases hown.2 with⟨_,hno⟩ | ⟨g,cap,cur,rfl,-⟩
      ·omega
      clear h0 hfail hpt hm hd hx hcm hnd hes hc
      by_cases hlt:k<s.size
      ·have E1:=bP s k hlt
       have hb:aV s k=45:=Classical.byContradiction fun h=>hgo ⟨hlt,h⟩
       have t1:(((s[k]'hlt).toNat:Int) != 45)=false:=by rw[E1,hb];rfl
       clear hgo E1 hb
       go_wp2_with (go_at_call 147;refine(uG _ het c true HC.out HB.out _).mono ?_;rintro e w' ⟨rfl,rfl⟩)
       go_ret2
       exact⟨yG R1.out R2.out,hB⟩
      ·have t2:decide (k<s.size)=false:=decide_eq_false hlt
       clear hgo
       go_wp2_with (go_at_call 147;refine(uG _ het c true HC.out HB.out _).mono ?_;rintro e w' ⟨rfl,rfl⟩)
       go_ret2
       exact⟨yG R1.out R2.out,hB⟩
    ·-- a cell more
     have h0:DZ s x≠0:=fun h=>hfail (.inl h)
     have h4:m≠4:=fun h=>hfail (.inr h)
     have hlx:DZ s x<64:=UZ _
     obtain⟨c,hc⟩:∃ c,DZ s x=c:=⟨_,rfl⟩
     have HC:=hid (show FZ (s.extract f k)=c by rw[← hpt,hc])
     have HB:=hid (show F4 (s.extract f k)=true by unfold F4;rw[HC.out,← hc];simp[h0])
     have HST:=hid (show QH s (pre++[x])=some (acc++[c]) by rw[F8,hacc,pX h0 (by omega),hc])
     have HM:=hid (show (acc++[c]).length=m+1 by rw[List.length_append,hm];rfl)
     have b4:((m:Int)==4)=false:=beq_eq_false_iff_ne.2 (by omega)
     have hS2:D5 s (pre++[x]) (k+1) (k+1):=by
      have hxe:x=⟨(f,dash s f),(cK s f (by omega)).1,(cK s f (by omega)).2.1⟩:=Subtype.ext (by show x.1=(f,dash s f);rw[hx,hd])
      rcases Nat.lt_or_ge k s.size with hlt | hge
      ·refine .inl ⟨Nat.le_refl _,by omega,?_,fun j h1 h2=>by omega⟩
       have:=hcm.succ (by omega) (by rw[hd];exact hlt)
       rw[← hxe,hd]at this
       exact this
      ·refine .inr ⟨by omega,?_⟩
       have:=hcm.last (by omega) (by rw[hd];omega)
       rw[← hxe]at this
       exact this.symm
     rw[hc]at hlx
     clear h0 h4 hfail hpt hm hd hx hcm hnd hes hc hacc hat hpre hlen
     by_cases hlt:k<s.size
     ·have E1:=bP s k hlt
      have hb:aV s k=45:=Classical.byContradiction fun h=>hgo ⟨hlt,h⟩
      have t1:(((s[k]'hlt).toNat:Int) != 45)=false:=by rw[E1,hb];rfl
      clear hgo E1 hb
      rcases hown.2 with⟨rfl,-⟩ | ⟨g,cap,cur,rfl,-⟩
      all_goals
       go_wp2_with (first
        |(go_at_call 147;refine(uG _ het c true HC.out HB.out _).mono ?_;rintro e w' ⟨rfl,rfl⟩)
        |(at_builtin;refine wpList_append_own _ rfl _ _ 89 rfl w.heap.size 5 i0 (.int .u8 0) 1 1 Tryz.underlying89 hi hz0 hz1 hz2 rfl (by decide) _ _ _ rfl (hown.alloc _) ⟨wr.heap.size,0,none⟩ 1 1 [.int .u8 (c:Int)] rfl rfl (cell_one_new _ _ _) (by simp[Value.oneCell']) (by unfold maxLen;omega) (by omega) (by simp;omega) ?_;intro v' w1 hown' hgrow _))
       have hB2:Below w.heap.size w w1:=(hB.alloc (by omega) _).grown hgrow (by simp;omega) (fun j ej=>((hown.lt) j ej).1)
       exact⟨⟨k+1,k+1,m+1,acc++[c],pre++[x],by go_num,by go_num,by omega,hS2,HST.out,HM.out,by rw[oU];exact hown',hB2⟩,by simp[intOf];omega⟩
     ·have t2:decide (k<s.size)=false:=decide_eq_false hlt
      clear hgo
      rcases hown.2 with⟨rfl,-⟩ | ⟨g,cap,cur,rfl,-⟩
      all_goals
       go_wp2_with (first
        |(go_at_call 147;refine(uG _ het c true HC.out HB.out _).mono ?_;rintro e w' ⟨rfl,rfl⟩)
        |(at_builtin;refine wpList_append_own _ rfl _ _ 89 rfl w.heap.size 5 i0 (.int .u8 0) 1 1 Tryz.underlying89 hi hz0 hz1 hz2 rfl (by decide) _ _ _ rfl (hown.alloc _) ⟨wr.heap.size,0,none⟩ 1 1 [.int .u8 (c:Int)] rfl rfl (cell_one_new _ _ _) (by simp[Value.oneCell']) (by unfold maxLen;omega) (by omega) (by simp;omega) ?_;intro v' w1 hown' hgrow _))
       have hB2:Below w.heap.size w w1:=(hB.alloc (by omega) _).grown hgrow (by simp;omega) (fun j ej=>((hown.lt) j ej).1)
       exact⟨⟨k+1,k+1,m+1,acc++[c],pre++[x],by go_num,by go_num,by omega,hS2,HST.out,HM.out,by rw[oU];exact hown',hB2⟩,by simp[intOf];omega⟩
  ·obtain rfl:k=s.size+1:=by omega
   have hpa:pre=bU s 0:=by
    rcases hS with⟨_,h,_⟩ | ⟨_,h⟩
    ·omega
    ·exact h
   have hL:dY s=some acc:=by unfold dY;rw[← hpa];exact hacc
   obtain⟨r1,r2,r3⟩:=GA s acc hL
   have R1:=hid r1.symm
   have R2:=hid (show (-1:Int)=jS s by
    unfold jS
    rw[hL])
   have HL:=hid (show ∀ x ∈ acc,x<256 from fun x hx=>Nat.lt_trans (hlen.2 x hx) (by decide))
   clear r1 r2 r3 hpa hS hacc hlen hm hL
   rcases hown.2 with⟨rfl,-⟩ | ⟨g,cap,cur,rfl,-⟩
   all_goals
    have hback:=oV acc HL.out hown
    go_wp2
    go_ret2
    exact⟨yG R1.out R2.out,hB⟩
end Go.Proofs.YthbigkoihpgcfaaGreatDoor.Ce
