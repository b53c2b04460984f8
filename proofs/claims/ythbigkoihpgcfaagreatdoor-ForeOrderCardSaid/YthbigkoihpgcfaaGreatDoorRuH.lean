/-
  Put together.
-/
import Derived.Test.YthbigkoihpgcfaaGreatDoorSb
open Go.Lib (hid)
set_option maxRecDepth 100000
set_option maxHeartbeats 16000000
namespace Go.Proofs.YthbigkoihpgcfaaGreatDoor.Ru
open Go.RowKit Ba
def mJ (s:ByteArray) (n:Nat) (acc:List Rl) (f k:Nat):Prop :=
 (k≤s.size∧f≤k∧(∀ j,f≤j→j<k→aV s j≠10)∧F5 kP (bF 10 (aA s)) 1 []=F5 kP (bF 10 ((aA s).drop f)) n acc)∨(k=s.size+1∧F5 kP (bF 10 (aA s)) 1 []=(acc,0,0))
theorem mJ.zero (s:ByteArray):mJ s 1 [] 0 0:=.inl ⟨Nat.zero_le _,Nat.le_refl _,fun j h1 h2=>by omega,rfl⟩
theorem mJ.step {s:ByteArray} {n:Nat} {acc:List Rl} {f k:Nat} (h:mJ s n acc f k) (hk:k<s.size) (hn:aV s k≠10):mJ s n acc f (k+1):=by
 rcases h with⟨h1,h2,h3,h4⟩ | ⟨h1,_⟩
 ·refine .inl ⟨by omega,by omega,fun j j1 j2=>?_,h4⟩
  rcases Nat.lt_or_ge j k with j3 | j3
  ·exact h3 j j1 j3
  ·obtain rfl:j=k:=by omega
   exact hn
 ·omega
theorem mJ.from {s:ByteArray} {n:Nat} {acc:List Rl} {f k:Nat} (h:mJ s n acc f k) (hk:k≤s.size):f≤k:=by
 rcases h with⟨_,h2,_⟩ | ⟨h1,_⟩<;>omega
theorem mJ.piece {s:ByteArray} {n:Nat} {acc:List Rl} {f k:Nat} (h:mJ s n acc f k) (hk:k≤s.size) (hc:k<s.size→aV s k=10) :
  ∃ rest,F5 kP (bF 10 (aA s)) 1 []=F5 kP (aA (s.extract f k)::rest) n acc∧∀ acc',F5 kP (aA (s.extract f k)::rest) n acc=F5 kP rest (n+1) acc'→mJ s (n+1) acc' (k+1) (k+1):=by
 rcases h with⟨h1,h2,h3,h4⟩ | ⟨h1,_⟩
 ·have hl:=aD s
  rw[dX]
  rcases Nat.lt_or_ge k s.size with hlt | hge
  ·have hd:=AI h2 (by omega) (hc hlt) h3
   refine⟨bF 10 ((aA s).drop (k+1)),by rw[h4,hd],fun acc' ha=>.inl ⟨by omega,Nat.le_refl _,fun j j1 j2=>by omega,?_⟩⟩
   rw[h4,hd,ha]
  ·have hd:=n8 (c:=10) (L:=aA s) (f:=f) fun j j1 j2=>h3 j j1 (by omega)
   rw[List.take_of_length_le (by rw[List.length_drop];omega)]
   refine⟨[],by rw[h4,hd],fun acc' ha=>.inr ⟨by omega,?_⟩⟩
   rw[h4,hd,ha];rfl
 ·omega
theorem mJ.done {s:ByteArray} {n:Nat} {acc:List Rl} {f:Nat} (h:mJ s n acc f (s.size+1)):F5 kP (bF 10 (aA s)) 1 []=(acc,0,0):=by
 rcases h with⟨h1,_⟩ | ⟨_,h2⟩
 ·omega
 ·exact h2
theorem TK {s:ByteArray} (h:s.size≤65536):nO s=F5 kP (bF 10 (aA s)) 1 []:=by
 unfold nO N6
 rw[if_neg (by rw[aD];omega)]
theorem lR {w:World} {base:Nat} {e:TypeId} {size:Nat} {v:Value} {n:Nat} {xs:List Value} (h:w.ownsRow base e size v n xs):∃ A c,v=.slice A n c∧n≤c:=by
 rcases h.2 with⟨h1,h0⟩ | ⟨g,c,_,h1,_,_,hc,_⟩
 ·exact⟨none,0,by rw[h1,h0],by omega⟩
 ·exact⟨_,_,h1,hc⟩
def pO (r:List Rl × Nat × Nat) (w:World) (e:Ending) (w':World):Prop:=∃ v,e=.returned (.tuple #[v,.int .i64 ((r.2.1:Nat):Int),.int .i64 ((r.2.2:Nat):Int)])∧w'.ownsRow w.heap.size 48 5 v r.1.length (rows cR r.1)∧Below w.heap.size w w'
theorem pO.bad {r:List Rl × Nat × Nat} {w w':World} {n e:Nat} (h:r=([],n,e)) (hb:Below w.heap.size w w'):pO r w (.returned (.tuple #[.slice none 0 0,.int .i64 (n:Int),.int .i64 (e:Int)])) w':=by
 subst h
 exact⟨_,rfl,World.ownsRow_nil _ _ _ _,hb⟩
theorem GM (s:ByteArray) (hs:s.size≤65536) (w:World):Calls Tryz.prog 31 #[.string s] w (pO (nO s) w):=by
 obtain⟨i0,hi0,hz0,hz1,hz2⟩:=info_parts B4
 obtain⟨r,hr⟩:∃ r,nO s=r:=⟨_,rfl⟩
 rw[hr]
 rw[TK hs]at hr
 have HR:=hid hr
 clear hr
 go_enter Tryz.func31,Tryz.ntmps31
 go_wp2
 go_loopw [5,6,7,8] (fun u5 u6 u7 u8 wr=>∃ (k f n m:Nat) (acc:List Rl),u8=.int .i64 k∧u7=.int .i64 f∧u6=.int .i64 n∧k≤s.size+1∧n≤k+1∧mJ s n acc f k∧acc.length=m∧m≤400∧wr.ownsRow w.heap.size 48 5 u5 m (rows cR acc)∧Below w.heap.size w wr) (fun _ _ _ u8 _=>s.size+1 - (intOf u8).toNat)
 case atStart=>exact⟨0,0,1,0,[],rfl,rfl,rfl,by omega,by omega,mJ.zero _,rfl,by omega,World.ownsRow_nil _ _ _ _,Below.refl _ _⟩
 case round =>
  obtain⟨k,f,n,m,acc,rfl,rfl,rfl,hk,hnk,hS,hm,hm4,hown,hB⟩:=hrel
  have hsz:=hB.size
  by_cases hk2:k≤s.size
  ·have hfk:=hS.from hk2
   by_cases hgo:k<s.size∧aV s k≠10
   ·obtain⟨hlt,hne⟩:=hgo
    have E1:=bP s k hlt
    have HEND:=hid (show mJ s n acc f (k+1)∧acc.length=m∧wr.ownsRow w.heap.size 48 5 u5 m (rows cR acc)∧Below w.heap.size w wr from ⟨hS.step hlt hne,hm,hown,hB⟩)
    obtain⟨b,hb⟩:∃ b,aV s k=b:=⟨_,rfl⟩
    rw[hb]at E1 hne
    have t1:((b:Int) != 10)=true:=by rw[bne,beq_eq_false_iff_ne.2 (by omega)];rfl
    clear hb hne hS hm hown hB
    go_wp2
    go_roundw
    case rel=>exact⟨k+1,f,n,m,acc,by go_num,rfl,rfl,by omega,by omega,HEND.out.1,HEND.out.2.1,hm4,HEND.out.2.2.1,HEND.out.2.2.2⟩
    case measure=>simp[intOf];omega
   ·obtain⟨rest,p1,p2⟩:=hS.piece hk2 (fun h=>Classical.byContradiction fun h2=>hgo ⟨h,h2⟩)
    have hTs:=oS s f k hk2
    obtain⟨T,hT⟩:∃ T,s.extract f k=T:=⟨_,rfl⟩
    rw[hT]at p1 p2 hTs
    have n0:(0:Int)≤(n:Int):=by omega
    by_cases hlt:k<s.size
    ·have E1:=bP s k hlt
     have hb10:aV s k=10:=Classical.byContradiction fun h=>hgo ⟨hlt,h⟩
     rw[hb10]at E1
     clear hgo hb10 hS
     by_cases hT0:T.size=0
     ·obtain rfl:T={ data:=#[] }:=ByteArray.ext (Array.eq_empty_of_size_eq_zero hT0)
      have HSK:=hid (show mJ s (n+1) acc (k+1) (k+1)∧acc.length=m∧wr.ownsRow w.heap.size 48 5 u5 m (rows cR acc)∧Below w.heap.size w wr from ⟨p2 acc (tH (.inl rfl) rest n acc),hm,hown,hB⟩)
      clear p1 p2 hm hown hB hT0
      go_wp2
      go_roundw
      case rel=>exact⟨k+1,k+1,n+1,m,acc,by go_num,by go_num,by go_num,by omega,by omega,HSK.out.1,HSK.out.2.1,hm4,HSK.out.2.2.1,HSK.out.2.2.2⟩
      case measure=>simp[intOf];omega
     have e1:=Ce.gM T hT0
     have e2:(!T.toList.isEmpty)=true:=by rw[e1];rfl
     have hT1:0<T.size:=by omega
     have E0:=bP T 0 hT1
     have hb2:=dQ T 0
     have hhd:(aA T).head?=some (aV T 0):=by
      have hl:=aD T
      unfold aV
      cases hL:aA T with
      | nil=>rw[hL]at hl;simp at hl;omega
      | cons x r=>rfl
     obtain⟨b,hb⟩:∃ b,aV T 0=b:=⟨_,rfl⟩
     rw[hb]at E0 hb2 hhd
     by_cases h35:b=35
     ·subst h35
      have HSK:=hid (show mJ s (n+1) acc (k+1) (k+1)∧acc.length=m∧wr.ownsRow w.heap.size 48 5 u5 m (rows cR acc)∧Below w.heap.size w wr from ⟨p2 acc (tH (.inr hhd) rest n acc),hm,hown,hB⟩)
      clear p1 p2 hm hown hB hT0 hhd hb
      go_wp2
      go_roundw
      case rel=>exact⟨k+1,k+1,n+1,m,acc,by go_num,by go_num,by go_num,by omega,by omega,HSK.out.1,HSK.out.2.1,hm4,HSK.out.2.2.1,HSK.out.2.2.2⟩
      case measure=>simp[intOf];omega
     have t35:((b:Int) != 35)=true:=by rw[bne,beq_eq_false_iff_ne.2 (by omega)];rfl
     have hno:¬ (aA T=[]∨(aA T).head?=some 35):=by
      rintro(h | h)
      ·rw[h]at hhd;cases hhd
      ·rw[h]at hhd;exact h35 (Option.some.inj hhd).symm
     have HRU:=hid (fun W=>DJ T (by omega) (n:Int) ⟨by omega,by omega⟩ W)
     clear h35 hb hhd
     cases hru:dI kP (aA T) n with
     | none =>
      have HBAD:=hid (HR.out.symm.trans (p1.trans (N7 hno hru rest acc)))
      have HRN:=hid hru
      have HBW:=hid hB
      clear p1 p2 hno hru hm hown hB
      go_wp2_with fail
      refine(HRU.out _).mono ?_
      rintro e w6 ⟨q,a,c,p,l,ok,rfl,hok,hb6⟩
      rw[HRN.out]at hok
      obtain rfl:ok=false:=hok
      have HB6:=hid (chain HBW.out HBW.out.size hb6)
      have hsz6:=HB6.out.size
      clear hb6
      go_wp2
      refine bodyPost_ret (v:=.tuple #[.slice none 0 0,.int .i64 (n:Int),.int .i64 6]) (by simp[results,Tryz.f31,go_sem]) rfl ?_
      exact pO.bad HBAD.out (HB6.out.alloc hsz6 _)
     | some x =>
      have HRN:=hid hru
      by_cases hm40:m=400
      ·subst hm40
       have HBAD:=hid (HR.out.symm.trans (p1.trans ((tI hno hru rest acc).trans (if_pos hm))))
       have HBW:=hid hB
       obtain⟨g5,c5,rfl,-⟩:=dS hown (by decide)
       clear p1 p2 hno hru hm hown hB
       go_wp2_with fail
       refine(HRU.out _).mono ?_
       rintro e w6 ⟨q,a,c,p,l,ok,rfl,hok,hb6⟩
       rw[HRN.out]at hok
       obtain⟨rfl,-⟩:=hok
       have HB6:=hid (chain HBW.out HBW.out.size hb6)
       have hsz6:=HB6.out.size
       clear hb6
       go_wp2
       refine bodyPost_ret (v:=.tuple #[.slice none 0 0,.int .i64 (n:Int),.int .i64 4]) (by simp[results,Tryz.f31,go_sem]) rfl ?_
       exact pO.bad HBAD.out (HB6.out.alloc hsz6 _)
      ·have HNX:=hid (show mJ s (n+1) (acc++[x]) (k+1) (k+1)∧(acc++[x]).length=m+1∧rows cR (acc++[x])=rows cR acc++[.int .i64 x.aE,.string (bytesOf x.left),.string (bytesOf x.cells),.int .i64 x.prio,.int .i64 x.line] from
        ⟨p2 _ ((tI hno hru rest acc).trans (if_neg (by omega))),by rw[List.length_append,hm];rfl,uK acc x⟩)
       have HBW:=hid hB
       have HOW:=hid hown
       have t40:((m:Int)==400)=false:=beq_eq_false_iff_ne.2 (by omega)
       have hm39:m+1≤400:=by omega
       have m0:(0:Int)≤(m:Int):=by omega
       obtain⟨A5,c5,rfl,-⟩:=lR hown
       clear p1 p2 hno hru hm hown hB hm40
       go_wp2_with fail
       refine(HRU.out _).mono ?_
       rintro e w6 ⟨q,a,c,p,l,ok,rfl,hok,hb6⟩
       rw[HRN.out]at hok
       obtain⟨rfl,rfl,rfl,rfl,rfl,rfl⟩:=hok
       have HO6:=hid (a6 HOW.out hb6)
       have HB6:=hid (chain HBW.out HBW.out.size hb6)
       have hsz6:=HB6.out.size
       clear hb6
       obtain⟨q,hq⟩:∃ q,x.aE=q:=⟨_,rfl⟩
       obtain⟨a,ha⟩:∃ a,bytesOf x.left=a:=⟨_,rfl⟩
       obtain⟨c,hc⟩:∃ c,bytesOf x.cells=c:=⟨_,rfl⟩
       obtain⟨p,hp⟩:∃ p,x.prio=p:=⟨_,rfl⟩
       obtain⟨l,hl⟩:∃ l,x.line=l:=⟨_,rfl⟩
       rw[hq,ha,hc,hp,hl]at HNX ⊢
       clear hq ha hc hp hl
       go_upto_region 16 with fail
       have hS:=iN.new w6 q a c p l
       have hO7:=HO6.out.alloc (.cells #[.int .i64 q,.string a,.string c,.int .i64 p,.int .i64 l] 48)
       have hB7:=HB6.out.alloc hsz6 (.cells #[.int .i64 q,.string a,.string c,.int .i64 p,.int .i64 l] 48)
       have X0:=hS.c0
       have X1:=hS.c1
       have X2:=hS.c2
       have X3:=hS.c3
       have X4:=hS.c4
       clear hS
       generalize w6.alloc _=w7 at *
       have HO7:=hid hO7
       have HB7:=hid hB7
       have HLT7:=hid hO7.lt
       have hsz7:=hB7.size
       clear hO7 hB7
       go_wp2_with (at_builtin;refine wpList_append_own _ rfl _ _ 22 rfl w.heap.size 48 i0 _ 5 56 Tryz.underlying22 hi0 hz0 hz1 hz2 rfl (by decide) _ _ _ rfl (HO7.out.alloc _) ⟨w7.heap.size,0,none⟩ 1 1 [.int .i64 q,.string a,.string c,.int .i64 p,.int .i64 l] rfl rfl (World.news_of_block (cs:=#[.int .i64 q,.string a,.string c,.int .i64 p,.int .i64 l]) (t:=48) (fr:=(0,0)) (heap_alloc_new w7 _)) (by simp[Value.oneCell']) (by unfold maxLen;omega) (by omega) (by simp;omega) ?_;intro v' w8 hown' hgrow _;have HF:=hid (show w8.ownsRow w.heap.size 48 5 v' (m+1) (rows cR (acc++[x]))∧Below w.heap.size w w8 from ⟨by rw[HNX.out.2.2];exact hown',(HB7.out.alloc hsz7 _).grown hgrow (by simp;omega) (fun j ej=>(HLT7.out j ej).1)⟩);clear hown' hgrow)
       go_roundw
       case rel=>exact⟨k+1,k+1,n+1,m+1,acc++[x],by go_num,by go_num,by go_num,by omega,by omega,HNX.out.1,HNX.out.2.1,by omega,HF.out.1,HF.out.2⟩
       case measure=>simp[intOf];omega
    ·have tk:decide ((k:Int)<(s.size:Int))=false:=decide_eq_false (by omega)
     obtain rfl:k=s.size:=by omega
     clear hgo hS hlt
     by_cases hT0:T.size=0
     ·obtain rfl:T={ data:=#[] }:=ByteArray.ext (Array.eq_empty_of_size_eq_zero hT0)
      have HSK:=hid (show mJ s (n+1) acc (s.size+1) (s.size+1)∧acc.length=m∧wr.ownsRow w.heap.size 48 5 u5 m (rows cR acc)∧Below w.heap.size w wr from ⟨p2 acc (tH (.inl rfl) rest n acc),hm,hown,hB⟩)
      clear p1 p2 hm hown hB hT0
      go_wp2
      go_roundw
      case rel=>exact⟨s.size+1,s.size+1,n+1,m,acc,by go_num,by go_num,by go_num,by omega,by omega,HSK.out.1,HSK.out.2.1,hm4,HSK.out.2.2.1,HSK.out.2.2.2⟩
      case measure=>simp[intOf]
     have e1:=Ce.gM T hT0
     have e2:(!T.toList.isEmpty)=true:=by rw[e1];rfl
     have hT1:0<T.size:=by omega
     have E0:=bP T 0 hT1
     have hb2:=dQ T 0
     have hhd:(aA T).head?=some (aV T 0):=by
      have hl:=aD T
      unfold aV
      cases hL:aA T with
      | nil=>rw[hL]at hl;simp at hl;omega
      | cons x r=>rfl
     obtain⟨b,hb⟩:∃ b,aV T 0=b:=⟨_,rfl⟩
     rw[hb]at E0 hb2 hhd
     by_cases h35:b=35
     ·subst h35
      have HSK:=hid (show mJ s (n+1) acc (s.size+1) (s.size+1)∧acc.length=m∧wr.ownsRow w.heap.size 48 5 u5 m (rows cR acc)∧Below w.heap.size w wr from ⟨p2 acc (tH (.inr hhd) rest n acc),hm,hown,hB⟩)
      clear p1 p2 hm hown hB hT0 hhd hb
      go_wp2
      go_roundw
      case rel=>exact⟨s.size+1,s.size+1,n+1,m,acc,by go_num,by go_num,by go_num,by omega,by omega,HSK.out.1,HSK.out.2.1,hm4,HSK.out.2.2.1,HSK.out.2.2.2⟩
      case measure=>simp[intOf]
     have t35:((b:Int) != 35)=true:=by rw[bne,beq_eq_false_iff_ne.2 (by omega)];rfl
     have hno:¬ (aA T=[]∨(aA T).head?=some 35):=by
      rintro(h | h)
      ·rw[h]at hhd;cases hhd
      ·rw[h]at hhd;exact h35 (Option.some.inj hhd).symm
     have HRU:=hid (fun W=>DJ T (by omega) (n:Int) ⟨by omega,by omega⟩ W)
     clear h35 hb hhd
     cases hru:dI kP (aA T) n with
     | none =>
      have HBAD:=hid (HR.out.symm.trans (p1.trans (N7 hno hru rest acc)))
      have HRN:=hid hru
      have HBW:=hid hB
      clear p1 p2 hno hru hm hown hB
      go_wp2_with fail
      refine(HRU.out _).mono ?_
      rintro e w6 ⟨q,a,c,p,l,ok,rfl,hok,hb6⟩
      rw[HRN.out]at hok
      obtain rfl:ok=false:=hok
      have HB6:=hid (chain HBW.out HBW.out.size hb6)
      have hsz6:=HB6.out.size
      clear hb6
      go_wp2
      refine bodyPost_ret (v:=.tuple #[.slice none 0 0,.int .i64 (n:Int),.int .i64 6]) (by simp[results,Tryz.f31,go_sem]) rfl ?_
      exact pO.bad HBAD.out (HB6.out.alloc hsz6 _)
     | some x =>
      have HRN:=hid hru
      by_cases hm40:m=400
      ·subst hm40
       have HBAD:=hid (HR.out.symm.trans (p1.trans ((tI hno hru rest acc).trans (if_pos hm))))
       have HBW:=hid hB
       obtain⟨g5,c5,rfl,-⟩:=dS hown (by decide)
       clear p1 p2 hno hru hm hown hB
       go_wp2_with fail
       refine(HRU.out _).mono ?_
       rintro e w6 ⟨q,a,c,p,l,ok,rfl,hok,hb6⟩
       rw[HRN.out]at hok
       obtain⟨rfl,-⟩:=hok
       have HB6:=hid (chain HBW.out HBW.out.size hb6)
       have hsz6:=HB6.out.size
       clear hb6
       go_wp2
       refine bodyPost_ret (v:=.tuple #[.slice none 0 0,.int .i64 (n:Int),.int .i64 4]) (by simp[results,Tryz.f31,go_sem]) rfl ?_
       exact pO.bad HBAD.out (HB6.out.alloc hsz6 _)
      ·have HNX:=hid (show mJ s (n+1) (acc++[x]) (s.size+1) (s.size+1)∧(acc++[x]).length=m+1∧rows cR (acc++[x])=rows cR acc++[.int .i64 x.aE,.string (bytesOf x.left),.string (bytesOf x.cells),.int .i64 x.prio,.int .i64 x.line] from
        ⟨p2 _ ((tI hno hru rest acc).trans (if_neg (by omega))),by rw[List.length_append,hm];rfl,uK acc x⟩)
       have HBW:=hid hB
       have HOW:=hid hown
       have t40:((m:Int)==400)=false:=beq_eq_false_iff_ne.2 (by omega)
       have hm39:m+1≤400:=by omega
       have m0:(0:Int)≤(m:Int):=by omega
       obtain⟨A5,c5,rfl,-⟩:=lR hown
       clear p1 p2 hno hru hm hown hB hm40
       go_wp2_with fail
       refine(HRU.out _).mono ?_
       rintro e w6 ⟨q,a,c,p,l,ok,rfl,hok,hb6⟩
       rw[HRN.out]at hok
       obtain⟨rfl,rfl,rfl,rfl,rfl,rfl⟩:=hok
       have HO6:=hid (a6 HOW.out hb6)
       have HB6:=hid (chain HBW.out HBW.out.size hb6)
       have hsz6:=HB6.out.size
       clear hb6
       obtain⟨q,hq⟩:∃ q,x.aE=q:=⟨_,rfl⟩
       obtain⟨a,ha⟩:∃ a,bytesOf x.left=a:=⟨_,rfl⟩
       obtain⟨c,hc⟩:∃ c,bytesOf x.cells=c:=⟨_,rfl⟩
       obtain⟨p,hp⟩:∃ p,x.prio=p:=⟨_,rfl⟩
       obtain⟨l,hl⟩:∃ l,x.line=l:=⟨_,rfl⟩
       rw[hq,ha,hc,hp,hl]at HNX ⊢
       clear hq ha hc hp hl
       go_upto_region 16 with fail
       have hS:=iN.new w6 q a c p l
       have hO7:=HO6.out.alloc (.cells #[.int .i64 q,.string a,.string c,.int .i64 p,.int .i64 l] 48)
       have hB7:=HB6.out.alloc hsz6 (.cells #[.int .i64 q,.string a,.string c,.int .i64 p,.int .i64 l] 48)
       have X0:=hS.c0
       have X1:=hS.c1
       have X2:=hS.c2
       have X3:=hS.c3
       have X4:=hS.c4
       clear hS
       generalize w6.alloc _=w7 at *
       have HO7:=hid hO7
       have HB7:=hid hB7
       have HLT7:=hid hO7.lt
       have hsz7:=hB7.size
       clear hO7 hB7
       go_wp2_with (at_builtin;refine wpList_append_own _ rfl _ _ 22 rfl w.heap.size 48 i0 _ 5 56 Tryz.underlying22 hi0 hz0 hz1 hz2 rfl (by decide) _ _ _ rfl (HO7.out.alloc _) ⟨w7.heap.size,0,none⟩ 1 1 [.int .i64 q,.string a,.string c,.int .i64 p,.int .i64 l] rfl rfl (World.news_of_block (cs:=#[.int .i64 q,.string a,.string c,.int .i64 p,.int .i64 l]) (t:=48) (fr:=(0,0)) (heap_alloc_new w7 _)) (by simp[Value.oneCell']) (by unfold maxLen;omega) (by omega) (by simp;omega) ?_;intro v' w8 hown' hgrow _;have HF:=hid (show w8.ownsRow w.heap.size 48 5 v' (m+1) (rows cR (acc++[x]))∧Below w.heap.size w w8 from ⟨by rw[HNX.out.2.2];exact hown',(HB7.out.alloc hsz7 _).grown hgrow (by simp;omega) (fun j ej=>(HLT7.out j ej).1)⟩);clear hown' hgrow)
       go_roundw
       case rel=>exact⟨s.size+1,s.size+1,n+1,m+1,acc++[x],by go_num,by go_num,by go_num,by omega,by omega,HNX.out.1,HNX.out.2.1,by omega,HF.out.1,HF.out.2⟩
       case measure=>simp[intOf]
  ·obtain rfl:k=s.size+1:=by omega
   have HFIN:=hid (show pO r w (.returned (.tuple #[u5,.int .i64 0,.int .i64 0])) wr from ⟨u5,by rw[← HR.out,hS.done];rfl,by rw[← HR.out,hS.done,hm];exact hown,hB⟩)
   clear hS hm hown hB
   go_wp2
   refine bodyPost_ret (v:=.tuple #[u5,.int .i64 0,.int .i64 0]) (by simp[results,Tryz.f31,go_sem]) rfl ?_
   exact HFIN.out
end Go.Proofs.YthbigkoihpgcfaaGreatDoor.Ru
