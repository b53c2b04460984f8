/-
  Layer 12's document: Spelled.
-/
import Derived.Test.YtlgejmcihchngaaGreatDoorCuP
import Derived.Test.YtlgejmcihchngaaGreatDoorUa
namespace Go.Proofs.YtlgejmcihchngaaGreatDoor.Cu
open Go.RowKit Ba Ru Ck Ti Pa Fl
theorem spell_one {l:List Rl} {i:Nat} {b:Bool} {x:Tk} {r:List Tk} {n:Nat}:spellF l (n+1) i b (x::r) =
  if letT x=true then (if b=true then [⟨ruleN l 8 letS,i,0⟩] else [])++runN l (chs ((x::r).takeWhile letT)) i++spellF l n (i+((x::r).takeWhile letT).length) false ((x::r).dropWhile letT)
  else if digT x=true then (if b=true then [] else [⟨ruleN l 8 numS,i,0⟩])++⟨ruleN l 7 [x.ch],i,1⟩::spellF l n (i+1) true r
  else if mrkT x=true then ⟨ruleN l 6 [x.ch],i,1⟩::spellF l n (i+1) false r
  else ⟨ruleN l 8 (nameT x),i,1⟩::spellF l n (i+1) false r:=rfl
theorem spell_fuel (l:List Rl):∀ (n n' i:Nat) (b:Bool) (t:List Tk),t.length≤n→t.length≤n'→spellF l n i b t=spellF l n' i b t
 | 0,n',i,b,[],_,_=>by cases n'<;>rfl
 | 0,n',i,b,x::t,h,_=>absurd h (by simp)
 | n+1,0,i,b,[],_,_=>rfl
 | n+1,0,i,b,x::t,_,h=>absurd h (by simp)
 | n+1,n'+1,i,b,[],_,_=>rfl
 | n+1,n'+1,i,b,x::t,h,h'=>by
  rw[List.length_cons]at h h'
  rw[spell_one,spell_one]
  by_cases hl:letT x=true
  ·have hd:((x::t).dropWhile letT).length≤t.length:=by
    rw[List.dropWhile_cons,if_pos hl]
    exact(List.dropWhile_suffix (l:=t) letT).length_le
   rw[if_pos hl,if_pos hl,spell_fuel l n n' _ _ _ (by omega) (by omega)]
  ·rw[if_neg hl,if_neg hl,spell_fuel l n n' (i+1) true t (by omega) (by omega),spell_fuel l n n' (i+1) false t (by omega) (by omega)]
def behB (t:List Tk):Nat→Bool
 | 0=>false
 | k+1=>(t[k]?.map digT).getD false
theorem behB_at {t:List Tk} {k:Nat} {y:Tk} (h:t[k]?=some y):behB t (k+1)=digT y:=by
 show (t[k]?.map digT).getD false=_
 rw[h]
 rfl
theorem while_lt:∀ {t:List Tk} {k:Nat},k<(t.takeWhile letT).length→∃ y,t[k]?=some y∧letT y=true
 | [],k,h=>absurd h (by simp)
 | x::t,k,h=>by
  rw[List.takeWhile_cons]at h
  by_cases hl:letT x=true
  ·rw[if_pos hl,List.length_cons]at h
   cases k with
   | zero=>exact⟨x,rfl,hl⟩
   | succ k=>exact while_lt (t:=t) (by omega)
  ·rw[if_neg hl]at h
   exact absurd h (by simp)
theorem while_end:∀ {t:List Tk} {k:Nat},(t.takeWhile letT).length=k→t.length=k∨∃ y,t[k]?=some y∧letT y=false
 | [],k,h=>.inl h
 | x::t,k,h=>by
  rw[List.takeWhile_cons]at h
  by_cases hl:letT x=true
  ·rw[if_pos hl,List.length_cons]at h
   subst h
   rcases while_end (t:=t) rfl with h | ⟨y,h1,h2⟩
   ·exact .inl (by rw[List.length_cons,h])
   ·exact .inr ⟨y,h1,h2⟩
  ·rw[if_neg hl]at h
   subst h
   exact .inr ⟨x,rfl,by simpa using hl⟩
theorem let_dig {y:Tk} (h:letT y=true):digT y=false:=by
 unfold letT smallT capT Pa.smallB capB at h
 unfold digT
 rw[Bool.or_eq_true,Bool.and_eq_true,Bool.and_eq_true,decide_eq_true_eq,decide_eq_true_eq,decide_eq_true_eq]at h
 rw[Bool.and_eq_false_iff]
 exact .inr (decide_eq_false (by omega))
theorem drop_at {t:List Tk} {j:Nat} {x:Tk} (hx:t[j]?=some x):t.drop j=x::t.drop (j+1):=by
 obtain⟨h,e⟩:=List.getElem?_eq_some_iff.1 hx
 rw[List.drop_eq_getElem_cons h,e]
theorem spell_let {l:List Rl} {t:List Tk} {j:Nat} {x:Tk} (hx:t[j]?=some x) (hl:letT x=true) (b:Bool) {L:List Tk} (hL:(t.drop j).takeWhile letT=L) :
  spellF l (t.length - j) j b (t.drop j)=((if b=true then [⟨ruleN l 8 letS,j,0⟩] else [])++runN l (chs L) j)++spellF l (t.length - (j+L.length)) (j+L.length) (behB t (j+L.length)) (t.drop (j+L.length))∧0<L.length∧j+L.length≤t.length∧L=(t.drop j).take L.length∧L.all letT=true:=by
 have hlt:j<t.length:=(List.getElem?_eq_some_iff.1 hx).1
 have hd:=drop_at hx
 have hall:L.all letT=true:=by rw[← hL];exact takeWhile_all _ _
 have hpre:L=(t.drop j).take L.length:=by
  have:=List.prefix_iff_eq_take.1 (List.takeWhile_prefix letT (l:=t.drop j))
  rw[hL]at this
  exact this
 have hdw:(t.drop j).dropWhile letT=t.drop (j+L.length):=by
  have:=List.takeWhile_append_dropWhile (p:=letT) (l:=t.drop j)
  rw[hL]at this
  rw[← List.drop_drop]
  conv=>rhs;rw[← this]
  simp
 have h0:0<L.length:=by
  rw[← hL,hd,List.takeWhile_cons,if_pos hl]
  simp
 have hle:j+L.length≤t.length:=by
  have:=congrArg List.length hpre
  rw[List.length_take,List.length_drop]at this
  omega
 have hbeh:behB t (j+L.length)=false:=by
  obtain⟨k,hk⟩:∃ k,L.length=k+1:=⟨L.length - 1,by omega⟩
  obtain⟨y,h1,h2⟩:=while_lt (t:=t.drop j) (k:=k) (by rw[hL];omega)
  rw[List.getElem?_drop]at h1
  rw[hk,← Nat.add_assoc,behB_at h1]
  exact let_dig h2
 refine⟨?_,h0,hle,hpre,hall⟩
 rw[hbeh]
 obtain⟨n,hn⟩:∃ n,t.length - j=n+1:=⟨t.length - j - 1,by omega⟩
 rw[hn]
 conv=>lhs;rw[hd,spell_one,← hd]
 rw[if_pos hl,hL,hdw,spell_fuel l n (t.length - (j+L.length)) _ _ _ (by rw[List.length_drop];omega) (by rw[List.length_drop];exact Nat.le_refl _)]
theorem spell_else {l:List Rl} {t:List Tk} {j:Nat} {x:Tk} (hx:t[j]?=some x) (hl:letT x=false) (b:Bool) :
  spellF l (t.length - j) j b (t.drop j)=(if digT x=true then (if b=true then [] else [⟨ruleN l 8 numS,j,0⟩])++[⟨ruleN l 7 [x.ch],j,1⟩] else if mrkT x=true then [⟨ruleN l 6 [x.ch],j,1⟩] else [⟨ruleN l 8 (nameT x),j,1⟩])++spellF l (t.length - (j+1)) (j+1) (behB t (j+1)) (t.drop (j+1)):=by
 have hlt:j<t.length:=(List.getElem?_eq_some_iff.1 hx).1
 have hd:=drop_at hx
 obtain⟨n,hn⟩:∃ n,t.length - j=n+1:=⟨t.length - j - 1,by omega⟩
 have hn2:t.length - (j+1)=n:=by omega
 rw[hn,hn2,hd,spell_one,if_neg (by rw[hl];decide),behB_at hx]
 cases digT x with
 | true =>
  rw[if_pos rfl,if_pos rfl,List.append_assoc]
  rfl
 | false =>
  rw[if_neg Bool.false_ne_true,if_neg Bool.false_ne_true]
  cases mrkT x with
  | true=>rfl
  | false=>rfl
theorem nameT_lt {x:Tk} (h:x.ch<256):∀ c ∈ nameT x,c<256:=fun c hc=>by
 unfold nameT at hc
 split at hc
 ·split at hc
  ·simp at hc;omega
  ·split at hc
   ·simp at hc;omega
   ·cases hc
 ·cases hc
theorem readsT_part {o2 B g m c:Nat} {w:World} {t:List Tk} (h:ReadsT o2 w B (.slice (some ⟨g,o2,none⟩) m c) t) (j n c':Nat) (hjn:j+n≤t.length):ReadsT (o2+j * 3) w B (.slice (some ⟨g,o2+j * 3,none⟩) n c') ((t.drop j).take n):=by
 have hlen:((t.drop j).take n).length=n:=by rw[List.length_take,List.length_drop];omega
 obtain⟨A,c0,e,hA⟩:=h
 injection e with e1 e2 e3
 subst e1
 refine⟨some ⟨g,o2+j * 3,none⟩,c',by rw[hlen],fun h0=>?_⟩
 rw[hlen]at h0
 obtain⟨g',e',hg,hc⟩:=hA (by omega)
 injection e' with e'
 injection e' with e'
 subst e'
 refine⟨g,rfl,hg,fun k x hk i u hu=>?_⟩
 have hkn:k<n:=by have:=(List.getElem?_eq_some_iff.1 hk).1;omega
 rw[List.getElem?_take,if_pos hkn,List.getElem?_drop]at hk
 have:=hc (j+k) x hk i u hu
 rw[show o2+j * 3+(k * 3+i)=o2+((j+k) * 3+i) by omega]
 exact this
set_option maxRecDepth 100000 in
set_option maxHeartbeats 16000000 in
theorem rspell_any (A:Option Addr) (nl c:Nat) (l:List Rl) (off:Nat) (hnl:l.length=nl) (hlm:nl≤100000) (hf:∀ x ∈ l,FitR x) (h9:∀ x ∈ l,x.left.length≤9000) (hA:Acc prC l) (A2:Option Addr) (m c2:Nat) (t:List Tk) (o2:Nat) (hm:t.length=m) (hm2:m≤2000) (hc2:m≤c2) (hft:∀ x ∈ t,x.ch<256) (w:World) (hv:ReadsR off w w.heap.size (.slice A nl c) l) (hu:ReadsT o2 w w.heap.size (.slice A2 m c2) t) :
  Calls Tryz.prog 18 #[.slice A nl c,.slice A2 m c2] w fun e w'=>∃ v',e=.returned v'∧w'.ownsRow w.heap.size 48 3 v' (spellN l t).length (rowsP (spellN l t))∧Below w.heap.size w w':=by
 have HM:=Lib.hid hm
 have HRU:=Lib.hid (fun(s:List Nat) (hs:LetS s) (hsl:s.length≤2000) (j:Nat) (hj:j≤2000) (W:World) (hW:Below w.heap.size w W)=>show Calls Tryz.prog 47 #[.slice A nl c,.string (bytesOf s),.int .i64 (j:Int),.int .i64 0] W fun e w'=>∃ v',e=.returned v'∧w'.ownsRow W.heap.size 48 3 v' (runN l s j).length (rowsP (runN l s j))∧Below W.heap.size W w' from run12_any A nl c l off hnl hlm hf h9 hA s hs hsl j (by omega) s.length 0 hsl (by omega) (by omega) W ((hv.below hW).mono hW.size))
 have HRX:=Lib.hid (fun(q:Int) (L:List Nat) (hL:∀ c ∈ L,c<256) (W:World) (hW:Below w.heap.size w W)=>rrule_any _ l off q L (by omega) hf hL W _ (hv.below hW))
 have HIS:=Lib.hid (fun(x:Tk) (hx:x ∈ t) (W:World)=>ris_any x (hft x hx) 3 (digT x) (isV_3 x (hft x hx)) W)
 have HIM:=Lib.hid (fun(x:Tk) (hx:x ∈ t) (W:World)=>ris_any x (hft x hx) 4 (mrkT x) (isV_4 x (hft x hx)) W)
 have HLE:=Lib.hid (fun(x:Tk) (hx:x ∈ t) (W:World)=>rletter_tok x (hft x hx) (letT x) rfl W)
 have HMK:=Lib.hid (fun(x:Tk) (hx:x ∈ t) (W:World)=>rmark_any x (hft x hx) (nameT x) rfl W)
 have HFT:=Lib.hid hft
 have HUU:=Lib.hid hu
 simp only[aggK]at HIS HIM HLE HMK
 clear hnl hf h9 hA hv hm hft hu
 go_enter Tryz.func18,Tryz.ntmps18
 go_wp2
 go_loopw [5,6] (fun v i wr=>∃ (j:Nat) (ds:List Pc),i=.int .i64 (j:Int)∧j≤m∧spellN l t=ds++spellF l (t.length - j) j (behB t j) (t.drop j)∧ds.length≤4 * j∧wr.ownsRow w.heap.size 48 3 v ds.length (rowsP ds)∧Below w.heap.size w wr) (fun _ i _=>m - (intOf i).toNat)
 case atStart=>exact⟨0,[],rfl,Nat.zero_le _,rfl,Nat.zero_le _,World.ownsRow_nil _ _ _ _,Below.refl _ _⟩
 case round =>
  obtain⟨j,ds,rfl,hj,hsp,hdl,how,hBr⟩:=hrel
  have HSP:=Lib.hid hsp
  have HOW:=Lib.hid how
  have HBR:=Lib.hid hBr
  clear hsp how hBr
  by_cases hlt:j<m
  rotate_left
  ·have hjm:j=m:=by omega
   have HE:=Lib.hid (show spellN l t=ds from by
    rw[HSP.out,hjm,HM.out,Nat.sub_self]
    exact List.append_nil _)
   clear hjm
   have t1:decide ((j:Int)<(m:Int))=false:=decide_eq_false (by omega)
   have t1':decide (j<m)=false:=decide_eq_false hlt
   go_wp2
   go_ret
   rw[HE.out]
   exact⟨_,rfl,HOW.out,HBR.out⟩
  have t1:decide ((j:Int)<(m:Int))=true:=decide_eq_true (by omega)
  have t1':decide (j<m)=true:=decide_eq_true hlt
  have j0:(0:Int)≤(j:Int):=by omega
  have j1:(j:Int)<(m:Int):=by omega
  obtain⟨x,hx⟩:∃ x,t[j]?=some x:=⟨_,List.getElem?_eq_getElem (by rw[HM.out];exact hlt)⟩
  have hxm:=List.mem_of_getElem? hx
  obtain⟨g,rfl,hgw,hcell⟩:∃ g,A2=some ⟨g,o2,none⟩∧g<w.heap.size∧∀ k x,t[k]?=some x→∀ j u,(cT x)[j]?=some u→w.cell? ⟨g,o2+(k * 3+j),none⟩=some u:=by
   obtain⟨A',c',e,h⟩:=HUU.out
   injection e with e1 e2 e3
   subst e1
   exact h (by rw[HM.out];omega)
  have HTC:=Lib.hid (show ∀ W:World,Below w.heap.size w W→∀ k y,t[k]?=some y→W.cell? ⟨g,o2+k * 3,none⟩=some (.int .i64 y.kind)∧W.cell? ⟨g,o2+k * 3+1,none⟩=some (.int .u8 (y.ch:Int))∧W.cell? ⟨g,o2+k * 3+2,none⟩=some (.int .i64 y.place) from fun W hW k y hy=>by
   obtain⟨a0,a1,a2⟩:=tcell hcell k y hy
   exact⟨(hW.cell (p:=⟨g,o2+k * 3,none⟩) hgw).trans a0,(hW.cell (p:=⟨g,o2+k * 3+1,none⟩) hgw).trans a1,(hW.cell (p:=⟨g,o2+k * 3+2,none⟩) hgw).trans a2⟩)
  have HX:=Lib.hid hx
  have HXM:=Lib.hid hxm
  have HXC:=Lib.hid (HFT.out x hxm)
  clear hx hxm hcell hgw
  obtain⟨lt,hlt2⟩:∃ b,letT x=b:=⟨_,rfl⟩
  obtain⟨dt,hdt⟩:∃ b,digT x=b:=⟨_,rfl⟩
  obtain⟨mt,hmt⟩:∃ b,mrkT x=b:=⟨_,rfl⟩
  have HLT:=Lib.hid hlt2
  have HDT:=Lib.hid hdt
  have HMT:=Lib.hid hmt
  have HLX:=Lib.hid (hlt2▸HLE.out x HXM.out)
  have HDX:=Lib.hid (hdt▸HIS.out x HXM.out)
  have HMX:=Lib.hid (hmt▸HIM.out x HXM.out)
  have HNX:=Lib.hid (HMK.out x HXM.out)
  clear hlt2 hdt hmt
  obtain⟨bh,hbh⟩:∃ b,behB t j=b:=⟨_,rfl⟩
  have HBH:=Lib.hid hbh
  clear hbh
  by_cases hj0:j=0
  ·obtain rfl:false=bh:=by rw[← HBH.out,hj0];rfl
   have HB2:=Lib.hid HBR.out
   have HOW2:=Lib.hid HOW.out
   have t0:decide ((0:Int)<(j:Int))=false:=decide_eq_false (by omega)
   have t0':decide (0<j)=false:=decide_eq_false (by omega)
   clear hj0
   obtain⟨c0,c1,c2'⟩:=HTC.out _ HB2.out j x HX.out
   go_wp2_with fail
   refine(HLX.out _).mono ?_
   rintro e w3 ⟨rfl,hb3⟩
   have HB3:=Lib.hid (chain HB2.out HB2.out.size hb3)
   have HOW3:=Lib.hid (own_below HOW2.out hb3)
   have hsz3:=HB3.out.size
   clear hb3 c0 c1 c2'
   cases lt
   case true =>
    have HLQ:=Lib.hid (spell_let (l:=l) HX.out HLT.out (behB t j) (L:=(t.drop j).takeWhile letT) rfl)
    obtain⟨L,hL⟩:∃ L,(t.drop j).takeWhile letT=L:=⟨_,rfl⟩
    rw[hL]at HLQ
    have HLL:=Lib.hid hL
    obtain⟨nL,hnL⟩:∃ n,L.length=n:=⟨_,rfl⟩
    rw[hnL]at HLQ
    have HNL:=Lib.hid hnL
    clear hL hnL
    have h0L:0<nL:=HLQ.out.2.1
    have hjL:j+nL≤m:=by have:=HLQ.out.2.2.1;rw[HM.out]at this;exact this
    go_wp2
    go_loopw [8] (fun v8 wr2=>∃ k:Nat,v8=.int .i64 ((j:Int)+(k:Int))∧k≤nL∧wr2.ownsRow w.heap.size 48 3 u5 ds.length (rowsP ds)∧Below w.heap.size w wr2) (fun v8 _=>j+nL - (intOf v8).toNat)
    case atStart=>exact⟨0,by simp,Nat.zero_le _,HOW3.out,HB3.out⟩
    case round =>
     obtain⟨k,rfl,hk,how4,hB4⟩:=hrel
     have HOW4:=Lib.hid how4
     have HB4:=Lib.hid hB4
     have hsz4:=hB4.size
     clear how4 hB4
     have z0:(0:Int)≤(j:Int)+(k:Int):=by omega
     have z2:((j:Int)+(k:Int)).toNat=j+k:=by omega
     by_cases hkl:k<nL
     ·obtain⟨y,hy,hly⟩:=while_lt (t:=t.drop j) (k:=k) (by rw[HLL.out,HNL.out];exact hkl)
      rw[List.getElem?_drop]at hy
      have t2:decide ((j:Int)+(k:Int)<(m:Int))=true:=decide_eq_true (by omega)
      have t2':decide (j+k<m)=true:=decide_eq_true (by omega)
      have z1:(j:Int)+(k:Int)<(m:Int):=by omega
      obtain⟨c0,c1,c2'⟩:=HTC.out _ HB4.out (j+k) y hy
      have HLY:=Lib.hid (hly▸HLE.out y (List.mem_of_getElem? hy))
      have y8:IntKind.i64.wrap ((j:Int)+(k:Int)+1)=(j:Int)+(k:Int)+1:=IntWalk.i64_in _ ⟨by omega,by omega⟩
      clear hy hly
      go_wp2_with fail
      refine(HLY.out _).mono ?_
      rintro e w5 ⟨rfl,hb5⟩
      have HB5:=Lib.hid (chain HB4.out HB4.out.size hb5)
      have HOW5:=Lib.hid (own_below HOW4.out hb5)
      clear hb5
      go_wp2
      go_roundw
      case rel=>exact⟨k+1,by go_num,by omega,HOW5.out,HB5.out⟩
      case measure=>simp[intOf];omega
     ·obtain rfl:k=nL:=by omega
      rcases while_end (t:=t.drop j) (k:=k) (by rw[HLL.out];exact HNL.out)with hend | ⟨y,hy,hly⟩
      ·have hjm:j+k=m:=by rw[List.length_drop,HM.out]at hend;omega
       have t2:decide ((j:Int)+(k:Int)<(m:Int))=false:=decide_eq_false (by omega)
       have t2':decide (j+k<m)=false:=decide_eq_false (by omega)
       clear hend hjm
       have HQ:=Lib.hid (show spellN l t=(ds++(([]:List Pc)++runN l (chs L) j))++spellF l (t.length - (j+k)) (j+k) (behB t (j+k)) (t.drop (j+k)) from by
        rw[HSP.out,HLQ.out.1,HBH.out]
        rw[← List.append_assoc]
        rfl)
       have HTX:=Lib.hid (fun(W:World) (hW:Below w.heap.size w W)=>rtext_any _ ((t.drop j).take k) _ (by rw[List.length_take];omega) (fun z hz=>HFT.out z (List.mem_of_mem_drop (List.mem_of_mem_take hz))) W w.heap.size hW.size ((readsT_part HUU.out j k (c2 - j) (by rw[HM.out];exact hjL)).below hW))
       rw[← HLQ.out.2.2.2.1]at HTX
       have HRN:=Lib.hid (HRU.out (chs L) (letT_let HLQ.out.2.2.2.2) (by unfold chs;rw[List.length_map,HNL.out];omega) j (by omega))
       have hrl:(runN l (chs L) j).length≤3 * k:=by
        have:=runF_len l (chs L) j (chs L).length 0
        have e:(chs L).length=k:=by unfold chs;rw[List.length_map];exact HNL.out
        unfold runN
        rw[e]at this ⊢
        omega
       have s1:(j:Int)≤(j:Int)+(k:Int):=by omega
       have s2:(j:Int)+(k:Int)≤(c2:Int):=by omega
       have s3:(j:Int)+(k:Int) - (j:Int)=(k:Int):=by omega
       have s4:(c2:Int) - (j:Int)=((c2 - j:Nat):Int):=by omega
       obtain⟨TX,hTX⟩:∃ T,bytesOf (chs L)=T:=⟨_,rfl⟩
       rw[hTX]at HTX HRN
       clear hTX
       go_wp2_with fail
       refine(HTX.out _ HB4.out).mono ?_
       rintro e w7 ⟨rfl,hb7⟩
       have HB7:=Lib.hid (chain HB4.out HB4.out.size hb7)
       have HOW7:=Lib.hid (own_below HOW4.out hb7)
       clear hb7
       go_wp2_with fail
       refine(HRN.out _ HB7.out).mono ?_
       rintro e w8 ⟨v8,rfl,hown8,hb8⟩
       have HB8:=Lib.hid (chain HB7.out HB7.out.size hb8)
       have HOW8:=Lib.hid (own_below HOW7.out hb8)
       have HRD:=Lib.hid (readsQ_own rfl hown8)
       obtain⟨A8,c8,rfl,-,-,-⟩:=own_formR hown8
       have hsz8:=HB8.out.size
       clear hown8 hb8
       obtain⟨ps,hps⟩:∃ ps,runN l (chs L) j=ps:=⟨_,rfl⟩
       rw[hps]at HQ hrl HRD ⊢
       clear hps
       rename ∀ (a:Act) (w:World),wpList Tryz.prog _ _ _ a w→_=>hK
       refine hK _ _ ?_
       refine wpList_append_pieces _ rfl _ _ rfl u5 rfl w.heap.size (ds.length) (ds) HOW8.out (by omega) _ ps.length c8 0 _ ps rfl rfl (by omega) HRD.out ?_
       intro v9 w9 hown9 hgrow9 hblk9
       have HB9:=Lib.hid (HB8.out.grown hgrow9 hsz8 (fun q eq=>(HOW8.out.lt q eq).1))
       have HOW9:=Lib.hid hown9
       clear hown9 hgrow9 hblk9
       go_wp2
       go_roundw
       case rel=>exact⟨j+k,ds++ps,by go_num,by omega,by first | exact HQ.out | (rw[HQ.out];simp),by simp;omega,by rw[List.length_append];exact HOW9.out,HB9.out⟩
       case measure=>simp[intOf];omega
      ·rw[List.getElem?_drop]at hy
       have hlt3:j+k<m:=by have:=(List.getElem?_eq_some_iff.1 hy).1;rw[HM.out]at this;exact this
       have t2:decide ((j:Int)+(k:Int)<(m:Int))=true:=decide_eq_true (by omega)
       have t2':decide (j+k<m)=true:=decide_eq_true hlt3
       have z1:(j:Int)+(k:Int)<(m:Int):=by omega
       obtain⟨c0,c1,c2'⟩:=HTC.out _ HB4.out (j+k) y hy
       have HLY:=Lib.hid (hly▸HLE.out y (List.mem_of_getElem? hy))
       clear hy hly
       go_wp2_with fail
       refine(HLY.out _).mono ?_
       rintro e w5 ⟨rfl,hb5⟩
       have HB4:=Lib.hid (chain HB4.out HB4.out.size hb5)
       have HOW4:=Lib.hid (own_below HOW4.out hb5)
       have hsz4:=HB4.out.size
       clear hb5 c0 c1 c2'
       have HQ:=Lib.hid (show spellN l t=(ds++(([]:List Pc)++runN l (chs L) j))++spellF l (t.length - (j+k)) (j+k) (behB t (j+k)) (t.drop (j+k)) from by
        rw[HSP.out,HLQ.out.1,HBH.out]
        rw[← List.append_assoc]
        rfl)
       have HTX:=Lib.hid (fun(W:World) (hW:Below w.heap.size w W)=>rtext_any _ ((t.drop j).take k) _ (by rw[List.length_take];omega) (fun z hz=>HFT.out z (List.mem_of_mem_drop (List.mem_of_mem_take hz))) W w.heap.size hW.size ((readsT_part HUU.out j k (c2 - j) (by rw[HM.out];exact hjL)).below hW))
       rw[← HLQ.out.2.2.2.1]at HTX
       have HRN:=Lib.hid (HRU.out (chs L) (letT_let HLQ.out.2.2.2.2) (by unfold chs;rw[List.length_map,HNL.out];omega) j (by omega))
       have hrl:(runN l (chs L) j).length≤3 * k:=by
        have:=runF_len l (chs L) j (chs L).length 0
        have e:(chs L).length=k:=by unfold chs;rw[List.length_map];exact HNL.out
        unfold runN
        rw[e]at this ⊢
        omega
       have s1:(j:Int)≤(j:Int)+(k:Int):=by omega
       have s2:(j:Int)+(k:Int)≤(c2:Int):=by omega
       have s3:(j:Int)+(k:Int) - (j:Int)=(k:Int):=by omega
       have s4:(c2:Int) - (j:Int)=((c2 - j:Nat):Int):=by omega
       obtain⟨TX,hTX⟩:∃ T,bytesOf (chs L)=T:=⟨_,rfl⟩
       rw[hTX]at HTX HRN
       clear hTX
       go_wp2_with fail
       refine(HTX.out _ HB4.out).mono ?_
       rintro e w7 ⟨rfl,hb7⟩
       have HB7:=Lib.hid (chain HB4.out HB4.out.size hb7)
       have HOW7:=Lib.hid (own_below HOW4.out hb7)
       clear hb7
       go_wp2_with fail
       refine(HRN.out _ HB7.out).mono ?_
       rintro e w8 ⟨v8,rfl,hown8,hb8⟩
       have HB8:=Lib.hid (chain HB7.out HB7.out.size hb8)
       have HOW8:=Lib.hid (own_below HOW7.out hb8)
       have HRD:=Lib.hid (readsQ_own rfl hown8)
       obtain⟨A8,c8,rfl,-,-,-⟩:=own_formR hown8
       have hsz8:=HB8.out.size
       clear hown8 hb8
       obtain⟨ps,hps⟩:∃ ps,runN l (chs L) j=ps:=⟨_,rfl⟩
       rw[hps]at HQ hrl HRD ⊢
       clear hps
       rename ∀ (a:Act) (w:World),wpList Tryz.prog _ _ _ a w→_=>hK
       refine hK _ _ ?_
       refine wpList_append_pieces _ rfl _ _ rfl u5 rfl w.heap.size (ds.length) (ds) HOW8.out (by omega) _ ps.length c8 0 _ ps rfl rfl (by omega) HRD.out ?_
       intro v9 w9 hown9 hgrow9 hblk9
       have HB9:=Lib.hid (HB8.out.grown hgrow9 hsz8 (fun q eq=>(HOW8.out.lt q eq).1))
       have HOW9:=Lib.hid hown9
       clear hown9 hgrow9 hblk9
       go_wp2
       go_roundw
       case rel=>exact⟨j+k,ds++ps,by go_num,by omega,by first | exact HQ.out | (rw[HQ.out];simp),by simp;omega,by rw[List.length_append];exact HOW9.out,HB9.out⟩
       case measure=>simp[intOf];omega
   case false =>
    have hc:=HXC.out
    have HEQ:=Lib.hid (spell_else (l:=l) HX.out HLT.out (behB t j))
    have HNM:=Lib.hid (nameT_lt HXC.out)
    obtain⟨xc,hxc⟩:∃ c,x.ch=c:=⟨_,rfl⟩
    have hxc2:=(HTC.out _ HB3.out j x HX.out).2.1
    rw[hxc]at hc hxc2
    have HXE:=Lib.hid hxc
    obtain⟨c0,c1,c2'⟩:=HTC.out _ HB3.out j x HX.out
    have hcv:=back_one (w3.alloc (.cells #[.int .u8 (xc:Int)] 5)) w3.heap.size xc hc (by simp)
    have HB4:=Lib.hid (HB3.out.alloc HB3.out.size (.cells #[.int .u8 (xc:Int)] 5))
    have HOW4:=Lib.hid (HOW3.out.alloc (.cells #[.int .u8 (xc:Int)] 5))
    rw[hxc]at c1
    have hone:(bytesOf [xc]).size=1:=bytesOf_size _
    have HR7:=Lib.hid (HRX.out 7 [xc] (fun c hc'=>by rw[List.mem_singleton.1 hc'];exact hc))
    have HR6:=Lib.hid (HRX.out 6 [xc] (fun c hc'=>by rw[List.mem_singleton.1 hc'];exact hc))
    obtain⟨O,hO⟩:∃ O,bytesOf [xc]=O:=⟨_,rfl⟩
    rw[hO]at hcv hone HR7 HR6
    have HRE:=Lib.hid (HRX.out 8 (nameT x) HNM.out)
    rw[hxc]at HEQ HDX HMX HNX
    clear hxc hO
    have y9:IntKind.i64.wrap ((j:Int)+1)=(j:Int)+1:=IntWalk.i64_in _ ⟨by omega,by omega⟩
    go_upto_region 14 with fail
    generalize w3.alloc _=w4 at HB4 HOW4 ⊢
    clear c0 c1 c2' hcv
    obtain⟨c0,c1,c2'⟩:=HTC.out _ HB4.out j x HX.out
    rw[HXE.out]at c1
    go_wp2_with fail
    refine(HDX.out _).mono ?_
    rintro e w5 ⟨rfl,hb5⟩
    have HB5:=Lib.hid (chain HB4.out HB4.out.size hb5)
    have HOW5:=Lib.hid (own_below HOW4.out hb5)
    clear hb5 c0 c1 c2'
    cases dt
    case true =>
     have HQ:=Lib.hid (show spellN l t=(ds++([⟨ruleN l 8 numS,j,0⟩]++[⟨ruleN l 7 [xc],j,1⟩]))++spellF l (t.length - (j+1)) (j+1) (behB t (j+1)) (t.drop (j+1)) from by
      rw[HSP.out,HEQ.out,HDT.out,HBH.out,if_pos rfl,← List.append_assoc]
      rfl)
     obtain⟨r7,hr7⟩:∃ r,ruleN l 7 [xc]=r:=⟨_,rfl⟩
     rw[hr7]at HQ HR7
     clear hr7
     have HRR:=Lib.hid (HRX.out 8 numS (by decide))
     rw[show bytesOf numS={ data:=#[110,117,109] } from rfl]at HRR
     obtain⟨rn,hrn⟩:∃ r,ruleN l 8 numS=r:=⟨_,rfl⟩
     rw[hrn]at HQ HRR
     clear hrn
     go_wp2_with fail
     refine(HRR.out _ HB5.out).mono ?_
     rintro e w6 ⟨rfl,rfl⟩
     go_wp2_with (at_builtin;refine wpList_append_pieces _ rfl _ _ rfl _ rfl w.heap.size (ds.length) (ds) (HOW5.out.alloc _) (by have:=HB5.out.size;simp;omega) _ 1 1 0 _ [⟨rn,j,0⟩] rfl rfl (by omega) (lit_reads _ rn j 0 rfl) ?_;intro v6 w6 hown6 hgrow6 hblk6;have HB6:=Lib.hid ((HB5.out.alloc HB5.out.size _).grown hgrow6 (by have:=HB5.out.size;simp;omega) (fun q eq=>(HOW5.out.lt q eq).1));have HOW6:=Lib.hid hown6;have hsz6:=HB6.out.size;clear hown6 hgrow6 hblk6)
     go_wp2_with fail
     refine(HR7.out _ HB6.out).mono ?_
     rintro e w7 ⟨rfl,rfl⟩
     go_wp2_with (at_builtin;refine wpList_append_pieces _ rfl _ _ rfl _ rfl w.heap.size (ds.length+1) (ds++[⟨rn,j,0⟩]) (HOW6.out.alloc _) (by have:=HB6.out.size;simp;omega) _ 1 1 0 _ [⟨r7,j,1⟩] rfl rfl (by omega) (lit_reads _ r7 j 1 rfl) ?_;intro v8 w8 hown8 hgrow8 hblk8;have HB8:=Lib.hid ((HB6.out.alloc HB6.out.size _).grown hgrow8 (by have:=HB6.out.size;simp;omega) (fun q eq=>(HOW6.out.lt q eq).1));have HOW8:=Lib.hid hown8;have hsz8:=HB8.out.size;clear hown8 hgrow8 hblk8)
     go_wp2
     go_roundw
     case rel=>exact⟨j+1,ds++[⟨rn,j,0⟩]++[⟨r7,j,1⟩],by go_num,by omega,by first | exact HQ.out | (rw[HQ.out];simp),by simp;omega,by rw[List.length_append,List.length_append];exact HOW8.out,HB8.out⟩
     case measure=>simp[intOf];omega
    case false =>
     obtain⟨c0,c1,c2'⟩:=HTC.out _ HB5.out j x HX.out
     rw[HXE.out]at c1
     go_wp2_with fail
     refine(HMX.out _).mono ?_
     rintro e w6 ⟨rfl,hb6⟩
     have HB6:=Lib.hid (chain HB5.out HB5.out.size hb6)
     have HOW6:=Lib.hid (own_below HOW5.out hb6)
     clear hb6 c0 c1 c2'
     cases mt
     case true =>
      have HQ:=Lib.hid (show spellN l t=(ds++[⟨ruleN l 6 [xc],j,1⟩])++spellF l (t.length - (j+1)) (j+1) (behB t (j+1)) (t.drop (j+1)) from by
       rw[HSP.out,HEQ.out,HDT.out,HMT.out,if_neg Bool.false_ne_true,if_pos rfl,← List.append_assoc])
      obtain⟨r6,hr6⟩:∃ r,ruleN l 6 [xc]=r:=⟨_,rfl⟩
      rw[hr6]at HQ HR6
      clear hr6
      go_wp2_with fail
      refine(HR6.out _ HB6.out).mono ?_
      rintro e w7 ⟨rfl,rfl⟩
      go_wp2_with (at_builtin;refine wpList_append_pieces _ rfl _ _ rfl _ rfl w.heap.size (ds.length) (ds) (HOW6.out.alloc _) (by have:=HB6.out.size;simp;omega) _ 1 1 0 _ [⟨r6,j,1⟩] rfl rfl (by omega) (lit_reads _ r6 j 1 rfl) ?_;intro v8 w8 hown8 hgrow8 hblk8;have HB8:=Lib.hid ((HB6.out.alloc HB6.out.size _).grown hgrow8 (by have:=HB6.out.size;simp;omega) (fun q eq=>(HOW6.out.lt q eq).1));have HOW8:=Lib.hid hown8;have hsz8:=HB8.out.size;clear hown8 hgrow8 hblk8)
      go_wp2
      go_roundw
      case rel=>exact⟨j+1,ds++[⟨r6,j,1⟩],by go_num,by omega,by first | exact HQ.out | (rw[HQ.out];simp),by simp;omega,by rw[List.length_append];exact HOW8.out,HB8.out⟩
      case measure=>simp[intOf];omega
     case false =>
      have HQ:=Lib.hid (show spellN l t=(ds++[⟨ruleN l 8 (nameT x),j,1⟩])++spellF l (t.length - (j+1)) (j+1) (behB t (j+1)) (t.drop (j+1)) from by
       rw[HSP.out,HEQ.out,HDT.out,HMT.out,if_neg Bool.false_ne_true,if_neg Bool.false_ne_true,← List.append_assoc])
      obtain⟨r8,hr8⟩:∃ r,ruleN l 8 (nameT x)=r:=⟨_,rfl⟩
      rw[hr8]at HQ HRE
      obtain⟨NM,hNM⟩:∃ N,bytesOf (nameT x)=N:=⟨_,rfl⟩
      rw[hNM]at HRE HNX
      clear hr8 hNM
      obtain⟨c0,c1,c2'⟩:=HTC.out _ HB6.out j x HX.out
      rw[HXE.out]at c1
      go_wp2_with fail
      refine(HNX.out _).mono ?_
      rintro e w9 ⟨rfl,hb9⟩
      have HB9:=Lib.hid (chain HB6.out HB6.out.size hb9)
      have HOW9:=Lib.hid (own_below HOW6.out hb9)
      clear hb9 c0 c1 c2'
      go_wp2_with fail
      refine(HRE.out _ HB9.out).mono ?_
      rintro e w7 ⟨rfl,rfl⟩
      go_wp2_with (at_builtin;refine wpList_append_pieces _ rfl _ _ rfl _ rfl w.heap.size (ds.length) (ds) (HOW9.out.alloc _) (by have:=HB9.out.size;simp;omega) _ 1 1 0 _ [⟨r8,j,1⟩] rfl rfl (by omega) (lit_reads _ r8 j 1 rfl) ?_;intro v8 w8 hown8 hgrow8 hblk8;have HB8:=Lib.hid ((HB9.out.alloc HB9.out.size _).grown hgrow8 (by have:=HB9.out.size;simp;omega) (fun q eq=>(HOW9.out.lt q eq).1));have HOW8:=Lib.hid hown8;have hsz8:=HB8.out.size;clear hown8 hgrow8 hblk8)
      go_wp2
      go_roundw
      case rel=>exact⟨j+1,ds++[⟨r8,j,1⟩],by go_num,by omega,by first | exact HQ.out | (rw[HQ.out];simp),by simp;omega,by rw[List.length_append];exact HOW8.out,HB8.out⟩
      case measure=>simp[intOf];omega
  obtain⟨i0,hi0⟩:∃ k,j=k+1:=⟨j - 1,by omega⟩
  obtain⟨y,hy⟩:∃ y,t[i0]?=some y:=⟨_,List.getElem?_eq_getElem (by rw[HM.out];omega)⟩
  have hby:digT y=bh:=by rw[← HBH.out,hi0,behB_at hy]
  have HDY:=Lib.hid (hby▸HIS.out y (List.mem_of_getElem? hy))
  have t0:decide ((0:Int)<(j:Int))=true:=decide_eq_true (by omega)
  have t0':decide (0<j)=true:=decide_eq_true (by omega)
  have y7:IntKind.i64.wrap ((j:Int) - 1)=(i0:Int):=by rw[IntWalk.i64_in _ ⟨by omega,by omega⟩];omega
  have i00:(0:Int)≤(i0:Int):=by omega
  have i01:(i0:Int)<(m:Int):=by omega
  obtain⟨b0,b1,b2⟩:=HTC.out _ HBR.out i0 y hy
  clear hy hby hi0 hj0
  go_wp2_with fail
  refine(HDY.out _).mono ?_
  rintro e w2 ⟨rfl,hb2⟩
  have HB2:=Lib.hid (chain HBR.out HBR.out.size hb2)
  have HOW2:=Lib.hid (own_below HOW.out hb2)
  clear hb2 b0 b1 b2 t0 t0'
  cases bh
  case false =>
   obtain⟨c0,c1,c2'⟩:=HTC.out _ HB2.out j x HX.out
   go_wp2_with fail
   refine(HLX.out _).mono ?_
   rintro e w3 ⟨rfl,hb3⟩
   have HB3:=Lib.hid (chain HB2.out HB2.out.size hb3)
   have HOW3:=Lib.hid (own_below HOW2.out hb3)
   have hsz3:=HB3.out.size
   clear hb3 c0 c1 c2'
   cases lt
   case true =>
    have HLQ:=Lib.hid (spell_let (l:=l) HX.out HLT.out (behB t j) (L:=(t.drop j).takeWhile letT) rfl)
    obtain⟨L,hL⟩:∃ L,(t.drop j).takeWhile letT=L:=⟨_,rfl⟩
    rw[hL]at HLQ
    have HLL:=Lib.hid hL
    obtain⟨nL,hnL⟩:∃ n,L.length=n:=⟨_,rfl⟩
    rw[hnL]at HLQ
    have HNL:=Lib.hid hnL
    clear hL hnL
    have h0L:0<nL:=HLQ.out.2.1
    have hjL:j+nL≤m:=by have:=HLQ.out.2.2.1;rw[HM.out]at this;exact this
    go_wp2
    go_loopw [8] (fun v8 wr2=>∃ k:Nat,v8=.int .i64 ((j:Int)+(k:Int))∧k≤nL∧wr2.ownsRow w.heap.size 48 3 u5 ds.length (rowsP ds)∧Below w.heap.size w wr2) (fun v8 _=>j+nL - (intOf v8).toNat)
    case atStart=>exact⟨0,by simp,Nat.zero_le _,HOW3.out,HB3.out⟩
    case round =>
     obtain⟨k,rfl,hk,how4,hB4⟩:=hrel
     have HOW4:=Lib.hid how4
     have HB4:=Lib.hid hB4
     have hsz4:=hB4.size
     clear how4 hB4
     have z0:(0:Int)≤(j:Int)+(k:Int):=by omega
     have z2:((j:Int)+(k:Int)).toNat=j+k:=by omega
     by_cases hkl:k<nL
     ·obtain⟨y,hy,hly⟩:=while_lt (t:=t.drop j) (k:=k) (by rw[HLL.out,HNL.out];exact hkl)
      rw[List.getElem?_drop]at hy
      have t2:decide ((j:Int)+(k:Int)<(m:Int))=true:=decide_eq_true (by omega)
      have t2':decide (j+k<m)=true:=decide_eq_true (by omega)
      have z1:(j:Int)+(k:Int)<(m:Int):=by omega
      obtain⟨c0,c1,c2'⟩:=HTC.out _ HB4.out (j+k) y hy
      have HLY:=Lib.hid (hly▸HLE.out y (List.mem_of_getElem? hy))
      have y8:IntKind.i64.wrap ((j:Int)+(k:Int)+1)=(j:Int)+(k:Int)+1:=IntWalk.i64_in _ ⟨by omega,by omega⟩
      clear hy hly
      go_wp2_with fail
      refine(HLY.out _).mono ?_
      rintro e w5 ⟨rfl,hb5⟩
      have HB5:=Lib.hid (chain HB4.out HB4.out.size hb5)
      have HOW5:=Lib.hid (own_below HOW4.out hb5)
      clear hb5
      go_wp2
      go_roundw
      case rel=>exact⟨k+1,by go_num,by omega,HOW5.out,HB5.out⟩
      case measure=>simp[intOf];omega
     ·obtain rfl:k=nL:=by omega
      rcases while_end (t:=t.drop j) (k:=k) (by rw[HLL.out];exact HNL.out)with hend | ⟨y,hy,hly⟩
      ·have hjm:j+k=m:=by rw[List.length_drop,HM.out]at hend;omega
       have t2:decide ((j:Int)+(k:Int)<(m:Int))=false:=decide_eq_false (by omega)
       have t2':decide (j+k<m)=false:=decide_eq_false (by omega)
       clear hend hjm
       have HQ:=Lib.hid (show spellN l t=(ds++(([]:List Pc)++runN l (chs L) j))++spellF l (t.length - (j+k)) (j+k) (behB t (j+k)) (t.drop (j+k)) from by
        rw[HSP.out,HLQ.out.1,HBH.out]
        rw[← List.append_assoc]
        rfl)
       have HTX:=Lib.hid (fun(W:World) (hW:Below w.heap.size w W)=>rtext_any _ ((t.drop j).take k) _ (by rw[List.length_take];omega) (fun z hz=>HFT.out z (List.mem_of_mem_drop (List.mem_of_mem_take hz))) W w.heap.size hW.size ((readsT_part HUU.out j k (c2 - j) (by rw[HM.out];exact hjL)).below hW))
       rw[← HLQ.out.2.2.2.1]at HTX
       have HRN:=Lib.hid (HRU.out (chs L) (letT_let HLQ.out.2.2.2.2) (by unfold chs;rw[List.length_map,HNL.out];omega) j (by omega))
       have hrl:(runN l (chs L) j).length≤3 * k:=by
        have:=runF_len l (chs L) j (chs L).length 0
        have e:(chs L).length=k:=by unfold chs;rw[List.length_map];exact HNL.out
        unfold runN
        rw[e]at this ⊢
        omega
       have s1:(j:Int)≤(j:Int)+(k:Int):=by omega
       have s2:(j:Int)+(k:Int)≤(c2:Int):=by omega
       have s3:(j:Int)+(k:Int) - (j:Int)=(k:Int):=by omega
       have s4:(c2:Int) - (j:Int)=((c2 - j:Nat):Int):=by omega
       obtain⟨TX,hTX⟩:∃ T,bytesOf (chs L)=T:=⟨_,rfl⟩
       rw[hTX]at HTX HRN
       clear hTX
       go_wp2_with fail
       refine(HTX.out _ HB4.out).mono ?_
       rintro e w7 ⟨rfl,hb7⟩
       have HB7:=Lib.hid (chain HB4.out HB4.out.size hb7)
       have HOW7:=Lib.hid (own_below HOW4.out hb7)
       clear hb7
       go_wp2_with fail
       refine(HRN.out _ HB7.out).mono ?_
       rintro e w8 ⟨v8,rfl,hown8,hb8⟩
       have HB8:=Lib.hid (chain HB7.out HB7.out.size hb8)
       have HOW8:=Lib.hid (own_below HOW7.out hb8)
       have HRD:=Lib.hid (readsQ_own rfl hown8)
       obtain⟨A8,c8,rfl,-,-,-⟩:=own_formR hown8
       have hsz8:=HB8.out.size
       clear hown8 hb8
       obtain⟨ps,hps⟩:∃ ps,runN l (chs L) j=ps:=⟨_,rfl⟩
       rw[hps]at HQ hrl HRD ⊢
       clear hps
       rename ∀ (a:Act) (w:World),wpList Tryz.prog _ _ _ a w→_=>hK
       refine hK _ _ ?_
       refine wpList_append_pieces _ rfl _ _ rfl u5 rfl w.heap.size (ds.length) (ds) HOW8.out (by omega) _ ps.length c8 0 _ ps rfl rfl (by omega) HRD.out ?_
       intro v9 w9 hown9 hgrow9 hblk9
       have HB9:=Lib.hid (HB8.out.grown hgrow9 hsz8 (fun q eq=>(HOW8.out.lt q eq).1))
       have HOW9:=Lib.hid hown9
       clear hown9 hgrow9 hblk9
       go_wp2
       go_roundw
       case rel=>exact⟨j+k,ds++ps,by go_num,by omega,by first | exact HQ.out | (rw[HQ.out];simp),by simp;omega,by rw[List.length_append];exact HOW9.out,HB9.out⟩
       case measure=>simp[intOf];omega
      ·rw[List.getElem?_drop]at hy
       have hlt3:j+k<m:=by have:=(List.getElem?_eq_some_iff.1 hy).1;rw[HM.out]at this;exact this
       have t2:decide ((j:Int)+(k:Int)<(m:Int))=true:=decide_eq_true (by omega)
       have t2':decide (j+k<m)=true:=decide_eq_true hlt3
       have z1:(j:Int)+(k:Int)<(m:Int):=by omega
       obtain⟨c0,c1,c2'⟩:=HTC.out _ HB4.out (j+k) y hy
       have HLY:=Lib.hid (hly▸HLE.out y (List.mem_of_getElem? hy))
       clear hy hly
       go_wp2_with fail
       refine(HLY.out _).mono ?_
       rintro e w5 ⟨rfl,hb5⟩
       have HB4:=Lib.hid (chain HB4.out HB4.out.size hb5)
       have HOW4:=Lib.hid (own_below HOW4.out hb5)
       have hsz4:=HB4.out.size
       clear hb5 c0 c1 c2'
       have HQ:=Lib.hid (show spellN l t=(ds++(([]:List Pc)++runN l (chs L) j))++spellF l (t.length - (j+k)) (j+k) (behB t (j+k)) (t.drop (j+k)) from by
        rw[HSP.out,HLQ.out.1,HBH.out]
        rw[← List.append_assoc]
        rfl)
       have HTX:=Lib.hid (fun(W:World) (hW:Below w.heap.size w W)=>rtext_any _ ((t.drop j).take k) _ (by rw[List.length_take];omega) (fun z hz=>HFT.out z (List.mem_of_mem_drop (List.mem_of_mem_take hz))) W w.heap.size hW.size ((readsT_part HUU.out j k (c2 - j) (by rw[HM.out];exact hjL)).below hW))
       rw[← HLQ.out.2.2.2.1]at HTX
       have HRN:=Lib.hid (HRU.out (chs L) (letT_let HLQ.out.2.2.2.2) (by unfold chs;rw[List.length_map,HNL.out];omega) j (by omega))
       have hrl:(runN l (chs L) j).length≤3 * k:=by
        have:=runF_len l (chs L) j (chs L).length 0
        have e:(chs L).length=k:=by unfold chs;rw[List.length_map];exact HNL.out
        unfold runN
        rw[e]at this ⊢
        omega
       have s1:(j:Int)≤(j:Int)+(k:Int):=by omega
       have s2:(j:Int)+(k:Int)≤(c2:Int):=by omega
       have s3:(j:Int)+(k:Int) - (j:Int)=(k:Int):=by omega
       have s4:(c2:Int) - (j:Int)=((c2 - j:Nat):Int):=by omega
       obtain⟨TX,hTX⟩:∃ T,bytesOf (chs L)=T:=⟨_,rfl⟩
       rw[hTX]at HTX HRN
       clear hTX
       go_wp2_with fail
       refine(HTX.out _ HB4.out).mono ?_
       rintro e w7 ⟨rfl,hb7⟩
       have HB7:=Lib.hid (chain HB4.out HB4.out.size hb7)
       have HOW7:=Lib.hid (own_below HOW4.out hb7)
       clear hb7
       go_wp2_with fail
       refine(HRN.out _ HB7.out).mono ?_
       rintro e w8 ⟨v8,rfl,hown8,hb8⟩
       have HB8:=Lib.hid (chain HB7.out HB7.out.size hb8)
       have HOW8:=Lib.hid (own_below HOW7.out hb8)
       have HRD:=Lib.hid (readsQ_own rfl hown8)
       obtain⟨A8,c8,rfl,-,-,-⟩:=own_formR hown8
       have hsz8:=HB8.out.size
       clear hown8 hb8
       obtain⟨ps,hps⟩:∃ ps,runN l (chs L) j=ps:=⟨_,rfl⟩
       rw[hps]at HQ hrl HRD ⊢
       clear hps
       rename ∀ (a:Act) (w:World),wpList Tryz.prog _ _ _ a w→_=>hK
       refine hK _ _ ?_
       refine wpList_append_pieces _ rfl _ _ rfl u5 rfl w.heap.size (ds.length) (ds) HOW8.out (by omega) _ ps.length c8 0 _ ps rfl rfl (by omega) HRD.out ?_
       intro v9 w9 hown9 hgrow9 hblk9
       have HB9:=Lib.hid (HB8.out.grown hgrow9 hsz8 (fun q eq=>(HOW8.out.lt q eq).1))
       have HOW9:=Lib.hid hown9
       clear hown9 hgrow9 hblk9
       go_wp2
       go_roundw
       case rel=>exact⟨j+k,ds++ps,by go_num,by omega,by first | exact HQ.out | (rw[HQ.out];simp),by simp;omega,by rw[List.length_append];exact HOW9.out,HB9.out⟩
       case measure=>simp[intOf];omega
   case false =>
    have hc:=HXC.out
    have HEQ:=Lib.hid (spell_else (l:=l) HX.out HLT.out (behB t j))
    have HNM:=Lib.hid (nameT_lt HXC.out)
    obtain⟨xc,hxc⟩:∃ c,x.ch=c:=⟨_,rfl⟩
    have hxc2:=(HTC.out _ HB3.out j x HX.out).2.1
    rw[hxc]at hc hxc2
    have HXE:=Lib.hid hxc
    obtain⟨c0,c1,c2'⟩:=HTC.out _ HB3.out j x HX.out
    have hcv:=back_one (w3.alloc (.cells #[.int .u8 (xc:Int)] 5)) w3.heap.size xc hc (by simp)
    have HB4:=Lib.hid (HB3.out.alloc HB3.out.size (.cells #[.int .u8 (xc:Int)] 5))
    have HOW4:=Lib.hid (HOW3.out.alloc (.cells #[.int .u8 (xc:Int)] 5))
    rw[hxc]at c1
    have hone:(bytesOf [xc]).size=1:=bytesOf_size _
    have HR7:=Lib.hid (HRX.out 7 [xc] (fun c hc'=>by rw[List.mem_singleton.1 hc'];exact hc))
    have HR6:=Lib.hid (HRX.out 6 [xc] (fun c hc'=>by rw[List.mem_singleton.1 hc'];exact hc))
    obtain⟨O,hO⟩:∃ O,bytesOf [xc]=O:=⟨_,rfl⟩
    rw[hO]at hcv hone HR7 HR6
    have HRE:=Lib.hid (HRX.out 8 (nameT x) HNM.out)
    rw[hxc]at HEQ HDX HMX HNX
    clear hxc hO
    have y9:IntKind.i64.wrap ((j:Int)+1)=(j:Int)+1:=IntWalk.i64_in _ ⟨by omega,by omega⟩
    go_upto_region 14 with fail
    generalize w3.alloc _=w4 at HB4 HOW4 ⊢
    clear c0 c1 c2' hcv
    obtain⟨c0,c1,c2'⟩:=HTC.out _ HB4.out j x HX.out
    rw[HXE.out]at c1
    go_wp2_with fail
    refine(HDX.out _).mono ?_
    rintro e w5 ⟨rfl,hb5⟩
    have HB5:=Lib.hid (chain HB4.out HB4.out.size hb5)
    have HOW5:=Lib.hid (own_below HOW4.out hb5)
    clear hb5 c0 c1 c2'
    cases dt
    case true =>
     have HQ:=Lib.hid (show spellN l t=(ds++([⟨ruleN l 8 numS,j,0⟩]++[⟨ruleN l 7 [xc],j,1⟩]))++spellF l (t.length - (j+1)) (j+1) (behB t (j+1)) (t.drop (j+1)) from by
      rw[HSP.out,HEQ.out,HDT.out,HBH.out,if_pos rfl,← List.append_assoc]
      rfl)
     obtain⟨r7,hr7⟩:∃ r,ruleN l 7 [xc]=r:=⟨_,rfl⟩
     rw[hr7]at HQ HR7
     clear hr7
     have HRR:=Lib.hid (HRX.out 8 numS (by decide))
     rw[show bytesOf numS={ data:=#[110,117,109] } from rfl]at HRR
     obtain⟨rn,hrn⟩:∃ r,ruleN l 8 numS=r:=⟨_,rfl⟩
     rw[hrn]at HQ HRR
     clear hrn
     go_wp2_with fail
     refine(HRR.out _ HB5.out).mono ?_
     rintro e w6 ⟨rfl,rfl⟩
     go_wp2_with (at_builtin;refine wpList_append_pieces _ rfl _ _ rfl _ rfl w.heap.size (ds.length) (ds) (HOW5.out.alloc _) (by have:=HB5.out.size;simp;omega) _ 1 1 0 _ [⟨rn,j,0⟩] rfl rfl (by omega) (lit_reads _ rn j 0 rfl) ?_;intro v6 w6 hown6 hgrow6 hblk6;have HB6:=Lib.hid ((HB5.out.alloc HB5.out.size _).grown hgrow6 (by have:=HB5.out.size;simp;omega) (fun q eq=>(HOW5.out.lt q eq).1));have HOW6:=Lib.hid hown6;have hsz6:=HB6.out.size;clear hown6 hgrow6 hblk6)
     go_wp2_with fail
     refine(HR7.out _ HB6.out).mono ?_
     rintro e w7 ⟨rfl,rfl⟩
     go_wp2_with (at_builtin;refine wpList_append_pieces _ rfl _ _ rfl _ rfl w.heap.size (ds.length+1) (ds++[⟨rn,j,0⟩]) (HOW6.out.alloc _) (by have:=HB6.out.size;simp;omega) _ 1 1 0 _ [⟨r7,j,1⟩] rfl rfl (by omega) (lit_reads _ r7 j 1 rfl) ?_;intro v8 w8 hown8 hgrow8 hblk8;have HB8:=Lib.hid ((HB6.out.alloc HB6.out.size _).grown hgrow8 (by have:=HB6.out.size;simp;omega) (fun q eq=>(HOW6.out.lt q eq).1));have HOW8:=Lib.hid hown8;have hsz8:=HB8.out.size;clear hown8 hgrow8 hblk8)
     go_wp2
     go_roundw
     case rel=>exact⟨j+1,ds++[⟨rn,j,0⟩]++[⟨r7,j,1⟩],by go_num,by omega,by first | exact HQ.out | (rw[HQ.out];simp),by simp;omega,by rw[List.length_append,List.length_append];exact HOW8.out,HB8.out⟩
     case measure=>simp[intOf];omega
    case false =>
     obtain⟨c0,c1,c2'⟩:=HTC.out _ HB5.out j x HX.out
     rw[HXE.out]at c1
     go_wp2_with fail
     refine(HMX.out _).mono ?_
     rintro e w6 ⟨rfl,hb6⟩
     have HB6:=Lib.hid (chain HB5.out HB5.out.size hb6)
     have HOW6:=Lib.hid (own_below HOW5.out hb6)
     clear hb6 c0 c1 c2'
     cases mt
     case true =>
      have HQ:=Lib.hid (show spellN l t=(ds++[⟨ruleN l 6 [xc],j,1⟩])++spellF l (t.length - (j+1)) (j+1) (behB t (j+1)) (t.drop (j+1)) from by
       rw[HSP.out,HEQ.out,HDT.out,HMT.out,if_neg Bool.false_ne_true,if_pos rfl,← List.append_assoc])
      obtain⟨r6,hr6⟩:∃ r,ruleN l 6 [xc]=r:=⟨_,rfl⟩
      rw[hr6]at HQ HR6
      clear hr6
      go_wp2_with fail
      refine(HR6.out _ HB6.out).mono ?_
      rintro e w7 ⟨rfl,rfl⟩
      go_wp2_with (at_builtin;refine wpList_append_pieces _ rfl _ _ rfl _ rfl w.heap.size (ds.length) (ds) (HOW6.out.alloc _) (by have:=HB6.out.size;simp;omega) _ 1 1 0 _ [⟨r6,j,1⟩] rfl rfl (by omega) (lit_reads _ r6 j 1 rfl) ?_;intro v8 w8 hown8 hgrow8 hblk8;have HB8:=Lib.hid ((HB6.out.alloc HB6.out.size _).grown hgrow8 (by have:=HB6.out.size;simp;omega) (fun q eq=>(HOW6.out.lt q eq).1));have HOW8:=Lib.hid hown8;have hsz8:=HB8.out.size;clear hown8 hgrow8 hblk8)
      go_wp2
      go_roundw
      case rel=>exact⟨j+1,ds++[⟨r6,j,1⟩],by go_num,by omega,by first | exact HQ.out | (rw[HQ.out];simp),by simp;omega,by rw[List.length_append];exact HOW8.out,HB8.out⟩
      case measure=>simp[intOf];omega
     case false =>
      have HQ:=Lib.hid (show spellN l t=(ds++[⟨ruleN l 8 (nameT x),j,1⟩])++spellF l (t.length - (j+1)) (j+1) (behB t (j+1)) (t.drop (j+1)) from by
       rw[HSP.out,HEQ.out,HDT.out,HMT.out,if_neg Bool.false_ne_true,if_neg Bool.false_ne_true,← List.append_assoc])
      obtain⟨r8,hr8⟩:∃ r,ruleN l 8 (nameT x)=r:=⟨_,rfl⟩
      rw[hr8]at HQ HRE
      obtain⟨NM,hNM⟩:∃ N,bytesOf (nameT x)=N:=⟨_,rfl⟩
      rw[hNM]at HRE HNX
      clear hr8 hNM
      obtain⟨c0,c1,c2'⟩:=HTC.out _ HB6.out j x HX.out
      rw[HXE.out]at c1
      go_wp2_with fail
      refine(HNX.out _).mono ?_
      rintro e w9 ⟨rfl,hb9⟩
      have HB9:=Lib.hid (chain HB6.out HB6.out.size hb9)
      have HOW9:=Lib.hid (own_below HOW6.out hb9)
      clear hb9 c0 c1 c2'
      go_wp2_with fail
      refine(HRE.out _ HB9.out).mono ?_
      rintro e w7 ⟨rfl,rfl⟩
      go_wp2_with (at_builtin;refine wpList_append_pieces _ rfl _ _ rfl _ rfl w.heap.size (ds.length) (ds) (HOW9.out.alloc _) (by have:=HB9.out.size;simp;omega) _ 1 1 0 _ [⟨r8,j,1⟩] rfl rfl (by omega) (lit_reads _ r8 j 1 rfl) ?_;intro v8 w8 hown8 hgrow8 hblk8;have HB8:=Lib.hid ((HB9.out.alloc HB9.out.size _).grown hgrow8 (by have:=HB9.out.size;simp;omega) (fun q eq=>(HOW9.out.lt q eq).1));have HOW8:=Lib.hid hown8;have hsz8:=HB8.out.size;clear hown8 hgrow8 hblk8)
      go_wp2
      go_roundw
      case rel=>exact⟨j+1,ds++[⟨r8,j,1⟩],by go_num,by omega,by first | exact HQ.out | (rw[HQ.out];simp),by simp;omega,by rw[List.length_append];exact HOW8.out,HB8.out⟩
      case measure=>simp[intOf];omega
  case true =>
   obtain⟨c0,c1,c2'⟩:=HTC.out _ HB2.out j x HX.out
   go_wp2_with fail
   refine(HLX.out _).mono ?_
   rintro e w3 ⟨rfl,hb3⟩
   have HB3:=Lib.hid (chain HB2.out HB2.out.size hb3)
   have HOW3:=Lib.hid (own_below HOW2.out hb3)
   have hsz3:=HB3.out.size
   clear hb3 c0 c1 c2'
   cases lt
   case true =>
    have HLQ:=Lib.hid (spell_let (l:=l) HX.out HLT.out (behB t j) (L:=(t.drop j).takeWhile letT) rfl)
    obtain⟨L,hL⟩:∃ L,(t.drop j).takeWhile letT=L:=⟨_,rfl⟩
    rw[hL]at HLQ
    have HLL:=Lib.hid hL
    obtain⟨nL,hnL⟩:∃ n,L.length=n:=⟨_,rfl⟩
    rw[hnL]at HLQ
    have HNL:=Lib.hid hnL
    clear hL hnL
    have h0L:0<nL:=HLQ.out.2.1
    have hjL:j+nL≤m:=by have:=HLQ.out.2.2.1;rw[HM.out]at this;exact this
    go_wp2
    go_loopw [8] (fun v8 wr2=>∃ k:Nat,v8=.int .i64 ((j:Int)+(k:Int))∧k≤nL∧wr2.ownsRow w.heap.size 48 3 u5 ds.length (rowsP ds)∧Below w.heap.size w wr2) (fun v8 _=>j+nL - (intOf v8).toNat)
    case atStart=>exact⟨0,by simp,Nat.zero_le _,HOW3.out,HB3.out⟩
    case round =>
     obtain⟨k,rfl,hk,how4,hB4⟩:=hrel
     have HOW4:=Lib.hid how4
     have HB4:=Lib.hid hB4
     have hsz4:=hB4.size
     clear how4 hB4
     have z0:(0:Int)≤(j:Int)+(k:Int):=by omega
     have z2:((j:Int)+(k:Int)).toNat=j+k:=by omega
     by_cases hkl:k<nL
     ·obtain⟨y,hy,hly⟩:=while_lt (t:=t.drop j) (k:=k) (by rw[HLL.out,HNL.out];exact hkl)
      rw[List.getElem?_drop]at hy
      have t2:decide ((j:Int)+(k:Int)<(m:Int))=true:=decide_eq_true (by omega)
      have t2':decide (j+k<m)=true:=decide_eq_true (by omega)
      have z1:(j:Int)+(k:Int)<(m:Int):=by omega
      obtain⟨c0,c1,c2'⟩:=HTC.out _ HB4.out (j+k) y hy
      have HLY:=Lib.hid (hly▸HLE.out y (List.mem_of_getElem? hy))
      have y8:IntKind.i64.wrap ((j:Int)+(k:Int)+1)=(j:Int)+(k:Int)+1:=IntWalk.i64_in _ ⟨by omega,by omega⟩
      clear hy hly
      go_wp2_with fail
      refine(HLY.out _).mono ?_
      rintro e w5 ⟨rfl,hb5⟩
      have HB5:=Lib.hid (chain HB4.out HB4.out.size hb5)
      have HOW5:=Lib.hid (own_below HOW4.out hb5)
      clear hb5
      go_wp2
      go_roundw
      case rel=>exact⟨k+1,by go_num,by omega,HOW5.out,HB5.out⟩
      case measure=>simp[intOf];omega
     ·obtain rfl:k=nL:=by omega
      rcases while_end (t:=t.drop j) (k:=k) (by rw[HLL.out];exact HNL.out)with hend | ⟨y,hy,hly⟩
      ·have hjm:j+k=m:=by rw[List.length_drop,HM.out]at hend;omega
       have t2:decide ((j:Int)+(k:Int)<(m:Int))=false:=decide_eq_false (by omega)
       have t2':decide (j+k<m)=false:=decide_eq_false (by omega)
       clear hend hjm
       have HQ:=Lib.hid (show spellN l t=(ds++([⟨ruleN l 8 letS,j,0⟩]++runN l (chs L) j))++spellF l (t.length - (j+k)) (j+k) (behB t (j+k)) (t.drop (j+k)) from by
        rw[HSP.out,HLQ.out.1,HBH.out]
        rw[← List.append_assoc]
        rfl)
       have HTX:=Lib.hid (fun(W:World) (hW:Below w.heap.size w W)=>rtext_any _ ((t.drop j).take k) _ (by rw[List.length_take];omega) (fun z hz=>HFT.out z (List.mem_of_mem_drop (List.mem_of_mem_take hz))) W w.heap.size hW.size ((readsT_part HUU.out j k (c2 - j) (by rw[HM.out];exact hjL)).below hW))
       rw[← HLQ.out.2.2.2.1]at HTX
       have HRN:=Lib.hid (HRU.out (chs L) (letT_let HLQ.out.2.2.2.2) (by unfold chs;rw[List.length_map,HNL.out];omega) j (by omega))
       have hrl:(runN l (chs L) j).length≤3 * k:=by
        have:=runF_len l (chs L) j (chs L).length 0
        have e:(chs L).length=k:=by unfold chs;rw[List.length_map];exact HNL.out
        unfold runN
        rw[e]at this ⊢
        omega
       have s1:(j:Int)≤(j:Int)+(k:Int):=by omega
       have s2:(j:Int)+(k:Int)≤(c2:Int):=by omega
       have s3:(j:Int)+(k:Int) - (j:Int)=(k:Int):=by omega
       have s4:(c2:Int) - (j:Int)=((c2 - j:Nat):Int):=by omega
       obtain⟨TX,hTX⟩:∃ T,bytesOf (chs L)=T:=⟨_,rfl⟩
       rw[hTX]at HTX HRN
       clear hTX
       have HRR:=Lib.hid (HRX.out 8 letS (by decide))
       rw[show bytesOf letS={ data:=#[108,101,116] } from rfl]at HRR
       obtain⟨rl,hrl2⟩:∃ r,ruleN l 8 letS=r:=⟨_,rfl⟩
       rw[hrl2]at HQ HRR
       clear hrl2
       go_wp2_with fail
       refine(HRR.out _ HB4.out).mono ?_
       rintro e w6 ⟨rfl,rfl⟩
       go_wp2_with (at_builtin;refine wpList_append_pieces _ rfl _ _ rfl _ rfl w.heap.size (ds.length) (ds) (HOW4.out.alloc _) (by have:=HB4.out.size;simp;omega) _ 1 1 0 _ [⟨rl,j,0⟩] rfl rfl (by omega) (lit_reads _ rl j 0 rfl) ?_;intro v6 w6 hown6 hgrow6 hblk6;have HB6:=Lib.hid ((HB4.out.alloc HB4.out.size _).grown hgrow6 (by have:=HB4.out.size;simp;omega) (fun q eq=>(HOW4.out.lt q eq).1));have HOW6:=Lib.hid hown6;have hsz6:=HB6.out.size;clear hown6 hgrow6 hblk6)
       go_wp2_with fail
       refine(HTX.out _ HB6.out).mono ?_
       rintro e w7 ⟨rfl,hb7⟩
       have HB7:=Lib.hid (chain HB6.out HB6.out.size hb7)
       have HOW7:=Lib.hid (own_below HOW6.out hb7)
       clear hb7
       go_wp2_with fail
       refine(HRN.out _ HB7.out).mono ?_
       rintro e w8 ⟨v8,rfl,hown8,hb8⟩
       have HB8:=Lib.hid (chain HB7.out HB7.out.size hb8)
       have HOW8:=Lib.hid (own_below HOW7.out hb8)
       have HRD:=Lib.hid (readsQ_own rfl hown8)
       obtain⟨A8,c8,rfl,-,-,-⟩:=own_formR hown8
       have hsz8:=HB8.out.size
       clear hown8 hb8
       obtain⟨ps,hps⟩:∃ ps,runN l (chs L) j=ps:=⟨_,rfl⟩
       rw[hps]at HQ hrl HRD ⊢
       clear hps
       rename ∀ (a:Act) (w:World),wpList Tryz.prog _ _ _ a w→_=>hK
       refine hK _ _ ?_
       refine wpList_append_pieces _ rfl _ _ rfl v6 rfl w.heap.size (ds.length+1) (ds++[⟨rl,j,0⟩]) HOW8.out (by omega) _ ps.length c8 0 _ ps rfl rfl (by omega) HRD.out ?_
       intro v9 w9 hown9 hgrow9 hblk9
       have HB9:=Lib.hid (HB8.out.grown hgrow9 hsz8 (fun q eq=>(HOW8.out.lt q eq).1))
       have HOW9:=Lib.hid hown9
       clear hown9 hgrow9 hblk9
       go_wp2
       go_roundw
       case rel=>exact⟨j+k,ds++[⟨rl,j,0⟩]++ps,by go_num,by omega,by first | exact HQ.out | (rw[HQ.out];simp),by simp;omega,by rw[List.length_append,List.length_append];exact HOW9.out,HB9.out⟩
       case measure=>simp[intOf];omega
      ·rw[List.getElem?_drop]at hy
       have hlt3:j+k<m:=by have:=(List.getElem?_eq_some_iff.1 hy).1;rw[HM.out]at this;exact this
       have t2:decide ((j:Int)+(k:Int)<(m:Int))=true:=decide_eq_true (by omega)
       have t2':decide (j+k<m)=true:=decide_eq_true hlt3
       have z1:(j:Int)+(k:Int)<(m:Int):=by omega
       obtain⟨c0,c1,c2'⟩:=HTC.out _ HB4.out (j+k) y hy
       have HLY:=Lib.hid (hly▸HLE.out y (List.mem_of_getElem? hy))
       clear hy hly
       go_wp2_with fail
       refine(HLY.out _).mono ?_
       rintro e w5 ⟨rfl,hb5⟩
       have HB4:=Lib.hid (chain HB4.out HB4.out.size hb5)
       have HOW4:=Lib.hid (own_below HOW4.out hb5)
       have hsz4:=HB4.out.size
       clear hb5 c0 c1 c2'
       have HQ:=Lib.hid (show spellN l t=(ds++([⟨ruleN l 8 letS,j,0⟩]++runN l (chs L) j))++spellF l (t.length - (j+k)) (j+k) (behB t (j+k)) (t.drop (j+k)) from by
        rw[HSP.out,HLQ.out.1,HBH.out]
        rw[← List.append_assoc]
        rfl)
       have HTX:=Lib.hid (fun(W:World) (hW:Below w.heap.size w W)=>rtext_any _ ((t.drop j).take k) _ (by rw[List.length_take];omega) (fun z hz=>HFT.out z (List.mem_of_mem_drop (List.mem_of_mem_take hz))) W w.heap.size hW.size ((readsT_part HUU.out j k (c2 - j) (by rw[HM.out];exact hjL)).below hW))
       rw[← HLQ.out.2.2.2.1]at HTX
       have HRN:=Lib.hid (HRU.out (chs L) (letT_let HLQ.out.2.2.2.2) (by unfold chs;rw[List.length_map,HNL.out];omega) j (by omega))
       have hrl:(runN l (chs L) j).length≤3 * k:=by
        have:=runF_len l (chs L) j (chs L).length 0
        have e:(chs L).length=k:=by unfold chs;rw[List.length_map];exact HNL.out
        unfold runN
        rw[e]at this ⊢
        omega
       have s1:(j:Int)≤(j:Int)+(k:Int):=by omega
       have s2:(j:Int)+(k:Int)≤(c2:Int):=by omega
       have s3:(j:Int)+(k:Int) - (j:Int)=(k:Int):=by omega
       have s4:(c2:Int) - (j:Int)=((c2 - j:Nat):Int):=by omega
       obtain⟨TX,hTX⟩:∃ T,bytesOf (chs L)=T:=⟨_,rfl⟩
       rw[hTX]at HTX HRN
       clear hTX
       have HRR:=Lib.hid (HRX.out 8 letS (by decide))
       rw[show bytesOf letS={ data:=#[108,101,116] } from rfl]at HRR
       obtain⟨rl,hrl2⟩:∃ r,ruleN l 8 letS=r:=⟨_,rfl⟩
       rw[hrl2]at HQ HRR
       clear hrl2
       go_wp2_with fail
       refine(HRR.out _ HB4.out).mono ?_
       rintro e w6 ⟨rfl,rfl⟩
       go_wp2_with (at_builtin;refine wpList_append_pieces _ rfl _ _ rfl _ rfl w.heap.size (ds.length) (ds) (HOW4.out.alloc _) (by have:=HB4.out.size;simp;omega) _ 1 1 0 _ [⟨rl,j,0⟩] rfl rfl (by omega) (lit_reads _ rl j 0 rfl) ?_;intro v6 w6 hown6 hgrow6 hblk6;have HB6:=Lib.hid ((HB4.out.alloc HB4.out.size _).grown hgrow6 (by have:=HB4.out.size;simp;omega) (fun q eq=>(HOW4.out.lt q eq).1));have HOW6:=Lib.hid hown6;have hsz6:=HB6.out.size;clear hown6 hgrow6 hblk6)
       go_wp2_with fail
       refine(HTX.out _ HB6.out).mono ?_
       rintro e w7 ⟨rfl,hb7⟩
       have HB7:=Lib.hid (chain HB6.out HB6.out.size hb7)
       have HOW7:=Lib.hid (own_below HOW6.out hb7)
       clear hb7
       go_wp2_with fail
       refine(HRN.out _ HB7.out).mono ?_
       rintro e w8 ⟨v8,rfl,hown8,hb8⟩
       have HB8:=Lib.hid (chain HB7.out HB7.out.size hb8)
       have HOW8:=Lib.hid (own_below HOW7.out hb8)
       have HRD:=Lib.hid (readsQ_own rfl hown8)
       obtain⟨A8,c8,rfl,-,-,-⟩:=own_formR hown8
       have hsz8:=HB8.out.size
       clear hown8 hb8
       obtain⟨ps,hps⟩:∃ ps,runN l (chs L) j=ps:=⟨_,rfl⟩
       rw[hps]at HQ hrl HRD ⊢
       clear hps
       rename ∀ (a:Act) (w:World),wpList Tryz.prog _ _ _ a w→_=>hK
       refine hK _ _ ?_
       refine wpList_append_pieces _ rfl _ _ rfl v6 rfl w.heap.size (ds.length+1) (ds++[⟨rl,j,0⟩]) HOW8.out (by omega) _ ps.length c8 0 _ ps rfl rfl (by omega) HRD.out ?_
       intro v9 w9 hown9 hgrow9 hblk9
       have HB9:=Lib.hid (HB8.out.grown hgrow9 hsz8 (fun q eq=>(HOW8.out.lt q eq).1))
       have HOW9:=Lib.hid hown9
       clear hown9 hgrow9 hblk9
       go_wp2
       go_roundw
       case rel=>exact⟨j+k,ds++[⟨rl,j,0⟩]++ps,by go_num,by omega,by first | exact HQ.out | (rw[HQ.out];simp),by simp;omega,by rw[List.length_append,List.length_append];exact HOW9.out,HB9.out⟩
       case measure=>simp[intOf];omega
   case false =>
    have hc:=HXC.out
    have HEQ:=Lib.hid (spell_else (l:=l) HX.out HLT.out (behB t j))
    have HNM:=Lib.hid (nameT_lt HXC.out)
    obtain⟨xc,hxc⟩:∃ c,x.ch=c:=⟨_,rfl⟩
    have hxc2:=(HTC.out _ HB3.out j x HX.out).2.1
    rw[hxc]at hc hxc2
    have HXE:=Lib.hid hxc
    obtain⟨c0,c1,c2'⟩:=HTC.out _ HB3.out j x HX.out
    have hcv:=back_one (w3.alloc (.cells #[.int .u8 (xc:Int)] 5)) w3.heap.size xc hc (by simp)
    have HB4:=Lib.hid (HB3.out.alloc HB3.out.size (.cells #[.int .u8 (xc:Int)] 5))
    have HOW4:=Lib.hid (HOW3.out.alloc (.cells #[.int .u8 (xc:Int)] 5))
    rw[hxc]at c1
    have hone:(bytesOf [xc]).size=1:=bytesOf_size _
    have HR7:=Lib.hid (HRX.out 7 [xc] (fun c hc'=>by rw[List.mem_singleton.1 hc'];exact hc))
    have HR6:=Lib.hid (HRX.out 6 [xc] (fun c hc'=>by rw[List.mem_singleton.1 hc'];exact hc))
    obtain⟨O,hO⟩:∃ O,bytesOf [xc]=O:=⟨_,rfl⟩
    rw[hO]at hcv hone HR7 HR6
    have HRE:=Lib.hid (HRX.out 8 (nameT x) HNM.out)
    rw[hxc]at HEQ HDX HMX HNX
    clear hxc hO
    have y9:IntKind.i64.wrap ((j:Int)+1)=(j:Int)+1:=IntWalk.i64_in _ ⟨by omega,by omega⟩
    go_upto_region 14 with fail
    generalize w3.alloc _=w4 at HB4 HOW4 ⊢
    clear c0 c1 c2' hcv
    obtain⟨c0,c1,c2'⟩:=HTC.out _ HB4.out j x HX.out
    rw[HXE.out]at c1
    go_wp2_with fail
    refine(HDX.out _).mono ?_
    rintro e w5 ⟨rfl,hb5⟩
    have HB5:=Lib.hid (chain HB4.out HB4.out.size hb5)
    have HOW5:=Lib.hid (own_below HOW4.out hb5)
    clear hb5 c0 c1 c2'
    cases dt
    case true =>
     have HQ:=Lib.hid (show spellN l t=(ds++(([]:List Pc)++[⟨ruleN l 7 [xc],j,1⟩]))++spellF l (t.length - (j+1)) (j+1) (behB t (j+1)) (t.drop (j+1)) from by
      rw[HSP.out,HEQ.out,HDT.out,HBH.out,if_pos rfl,← List.append_assoc]
      rfl)
     obtain⟨r7,hr7⟩:∃ r,ruleN l 7 [xc]=r:=⟨_,rfl⟩
     rw[hr7]at HQ HR7
     clear hr7
     go_wp2_with fail
     refine(HR7.out _ HB5.out).mono ?_
     rintro e w7 ⟨rfl,rfl⟩
     go_wp2_with (at_builtin;refine wpList_append_pieces _ rfl _ _ rfl _ rfl w.heap.size (ds.length) (ds) (HOW5.out.alloc _) (by have:=HB5.out.size;simp;omega) _ 1 1 0 _ [⟨r7,j,1⟩] rfl rfl (by omega) (lit_reads _ r7 j 1 rfl) ?_;intro v8 w8 hown8 hgrow8 hblk8;have HB8:=Lib.hid ((HB5.out.alloc HB5.out.size _).grown hgrow8 (by have:=HB5.out.size;simp;omega) (fun q eq=>(HOW5.out.lt q eq).1));have HOW8:=Lib.hid hown8;have hsz8:=HB8.out.size;clear hown8 hgrow8 hblk8)
     go_wp2
     go_roundw
     case rel=>exact⟨j+1,ds++[⟨r7,j,1⟩],by go_num,by omega,by first | exact HQ.out | (rw[HQ.out];simp),by simp;omega,by rw[List.length_append];exact HOW8.out,HB8.out⟩
     case measure=>simp[intOf];omega
    case false =>
     obtain⟨c0,c1,c2'⟩:=HTC.out _ HB5.out j x HX.out
     rw[HXE.out]at c1
     go_wp2_with fail
     refine(HMX.out _).mono ?_
     rintro e w6 ⟨rfl,hb6⟩
     have HB6:=Lib.hid (chain HB5.out HB5.out.size hb6)
     have HOW6:=Lib.hid (own_below HOW5.out hb6)
     clear hb6 c0 c1 c2'
     cases mt
     case true =>
      have HQ:=Lib.hid (show spellN l t=(ds++[⟨ruleN l 6 [xc],j,1⟩])++spellF l (t.length - (j+1)) (j+1) (behB t (j+1)) (t.drop (j+1)) from by
       rw[HSP.out,HEQ.out,HDT.out,HMT.out,if_neg Bool.false_ne_true,if_pos rfl,← List.append_assoc])
      obtain⟨r6,hr6⟩:∃ r,ruleN l 6 [xc]=r:=⟨_,rfl⟩
      rw[hr6]at HQ HR6
      clear hr6
      go_wp2_with fail
      refine(HR6.out _ HB6.out).mono ?_
      rintro e w7 ⟨rfl,rfl⟩
      go_wp2_with (at_builtin;refine wpList_append_pieces _ rfl _ _ rfl _ rfl w.heap.size (ds.length) (ds) (HOW6.out.alloc _) (by have:=HB6.out.size;simp;omega) _ 1 1 0 _ [⟨r6,j,1⟩] rfl rfl (by omega) (lit_reads _ r6 j 1 rfl) ?_;intro v8 w8 hown8 hgrow8 hblk8;have HB8:=Lib.hid ((HB6.out.alloc HB6.out.size _).grown hgrow8 (by have:=HB6.out.size;simp;omega) (fun q eq=>(HOW6.out.lt q eq).1));have HOW8:=Lib.hid hown8;have hsz8:=HB8.out.size;clear hown8 hgrow8 hblk8)
      go_wp2
      go_roundw
      case rel=>exact⟨j+1,ds++[⟨r6,j,1⟩],by go_num,by omega,by first | exact HQ.out | (rw[HQ.out];simp),by simp;omega,by rw[List.length_append];exact HOW8.out,HB8.out⟩
      case measure=>simp[intOf];omega
     case false =>
      have HQ:=Lib.hid (show spellN l t=(ds++[⟨ruleN l 8 (nameT x),j,1⟩])++spellF l (t.length - (j+1)) (j+1) (behB t (j+1)) (t.drop (j+1)) from by
       rw[HSP.out,HEQ.out,HDT.out,HMT.out,if_neg Bool.false_ne_true,if_neg Bool.false_ne_true,← List.append_assoc])
      obtain⟨r8,hr8⟩:∃ r,ruleN l 8 (nameT x)=r:=⟨_,rfl⟩
      rw[hr8]at HQ HRE
      obtain⟨NM,hNM⟩:∃ N,bytesOf (nameT x)=N:=⟨_,rfl⟩
      rw[hNM]at HRE HNX
      clear hr8 hNM
      obtain⟨c0,c1,c2'⟩:=HTC.out _ HB6.out j x HX.out
      rw[HXE.out]at c1
      go_wp2_with fail
      refine(HNX.out _).mono ?_
      rintro e w9 ⟨rfl,hb9⟩
      have HB9:=Lib.hid (chain HB6.out HB6.out.size hb9)
      have HOW9:=Lib.hid (own_below HOW6.out hb9)
      clear hb9 c0 c1 c2'
      go_wp2_with fail
      refine(HRE.out _ HB9.out).mono ?_
      rintro e w7 ⟨rfl,rfl⟩
      go_wp2_with (at_builtin;refine wpList_append_pieces _ rfl _ _ rfl _ rfl w.heap.size (ds.length) (ds) (HOW9.out.alloc _) (by have:=HB9.out.size;simp;omega) _ 1 1 0 _ [⟨r8,j,1⟩] rfl rfl (by omega) (lit_reads _ r8 j 1 rfl) ?_;intro v8 w8 hown8 hgrow8 hblk8;have HB8:=Lib.hid ((HB9.out.alloc HB9.out.size _).grown hgrow8 (by have:=HB9.out.size;simp;omega) (fun q eq=>(HOW9.out.lt q eq).1));have HOW8:=Lib.hid hown8;have hsz8:=HB8.out.size;clear hown8 hgrow8 hblk8)
      go_wp2
      go_roundw
      case rel=>exact⟨j+1,ds++[⟨r8,j,1⟩],by go_num,by omega,by first | exact HQ.out | (rw[HQ.out];simp),by simp;omega,by rw[List.length_append];exact HOW8.out,HB8.out⟩
      case measure=>simp[intOf];omega
end Go.Proofs.YtlgejmcihchngaaGreatDoor.Cu
