/-
  Put together: NvA, NvB, NvC, NvD, NvE, NvF, NvG, NvP.
-/
import Derived.Test.YtmldpkigfhoalaaGreatDoorNa
import Derived.Test.YtmldpkigfhoalaaGreatDoorVc
namespace Go.Proofs.YtmldpkigfhoalaaGreatDoor.Nu
open Go.RowKit Tr
def colE (a:Nat):List Sp→List Sp
 | []=>[]
 | x::l=>if x.c=32∧a=32 then colE a l else x::colE x.c l
def lastA (a:Nat):List Sp→Nat
 | []=>a
 | x::l=>lastA x.c l
theorem colE_skip {a:Nat} {x:Sp} (h:x.c=32∧a=32) (l:List Sp):colE a (x::l)=colE a l:=by rw [colE,if_pos h]
theorem colE_keep {a:Nat} {x:Sp} (h:¬ (x.c=32∧a=32)) (l:List Sp):colE a (x::l)=x::colE x.c l:=by rw [colE,if_neg h]
theorem lastA_app (a:Nat):∀ l m:List Sp,lastA a (l++m)=lastA (lastA a l) m:=by
 intro l
 induction l generalizing a with
 | nil=>intro m;rfl
 | cons x l ih=>intro m;exact ih x.c m
theorem colE_app (a:Nat):∀ l m:List Sp,colE a (l++m)=colE a l++colE (lastA a l) m:=by
 intro l
 induction l generalizing a with
 | nil=>intro m;rfl
 | cons x l ih =>
  intro m
  rw [List.cons_append]
  by_cases h:x.c=32∧a=32
  ·rw [colE_skip h,colE_skip h,ih a m]
   show _=_++colE (lastA x.c l) m
   rw [h.1,h.2]
  ·rw [colE_keep h,colE_keep h,ih x.c m];rfl
theorem lastA_colE (a:Nat):∀ l:List Sp,lastA a (colE a l)=lastA a l:=by
 intro l
 induction l generalizing a with
 | nil=>rfl
 | cons x l ih =>
  unfold colE
  by_cases h:x.c=32∧a=32
  ·rw [if_pos h,ih a]
   show lastA a l=lastA x.c l
   rw [h.1,h.2]
  ·rw [if_neg h];exact ih x.c
theorem colE_colE (a b:Nat) (h:b=32→a=32):∀ l:List Sp,colE a (colE b l)=colE a l:=by
 intro l
 induction l generalizing a b with
 | nil=>rfl
 | cons x l ih =>
  conv=>lhs;arg 2;unfold colE
  by_cases h1:x.c=32∧b=32
  ·rw [if_pos h1,ih a b h]
   conv=>rhs;unfold colE
   rw [if_pos ⟨h1.1,h h1.2⟩]
  ·rw [if_neg h1]
   unfold colE
   by_cases h2:x.c=32∧a=32
   ·rw [if_pos h2,if_pos h2,ih a x.c (fun _=>h2.2)]
   ·rw [if_neg h2,if_neg h2,ih x.c x.c id]
theorem lastA_colE0 (a:Nat) (l:List Sp):lastA a (colE 0 l)=lastA a l:=by
 cases l with
 | nil=>rfl
 | cons x l =>
  unfold colE
  rw [if_neg (fun h=>absurd h.2 (by decide))]
  exact lastA_colE x.c l
theorem colE_len (a:Nat):∀ l:List Sp,(colE a l).length≤l.length:=by
 intro l
 induction l generalizing a with
 | nil=>exact Nat.le_refl _
 | cons x l ih =>
  unfold colE
  split
  ·exact Nat.le_trans (ih a) (by simp)
  ·have:=ih x.c
   simp only [List.length_cons];omega
theorem colE_in (a:Nat) {x:Sp}:∀ l:List Sp,x ∈ colE a l→x ∈ l:=by
 intro l
 induction l generalizing a with
 | nil=>intro h;exact h
 | cons y l ih =>
  unfold colE
  split
  ·exact fun h=>List.mem_cons_of_mem _ (ih a h)
  ·intro h
   rcases List.mem_cons.1 h with rfl | h
   ·exact List.mem_cons_self ..
   ·exact List.mem_cons_of_mem _ (ih y.c h)
def trimE (l:List Sp):List Sp:=if lastA 32 l=32 then l.dropLast else l
theorem lastA_last:∀ (l:List Sp) (a:Nat),lastA a l=(l.getLast?.map Sp.c).getD a:=by
 intro l
 induction l with
 | nil=>intro a;rfl
 | cons x l ih =>
  intro a
  show lastA x.c l=_
  rw [ih x.c,List.getLast?_cons]
  cases l.getLast?<;>rfl
theorem lastC_A (l:List Sp):lastC l=lastA 32 l:=(lastA_last l 32).symm
theorem trimE_snoc_space {l:List Sp} {x:Sp} (h:x.c=32) (h2:lastA 32 l≠32):trimE (l++[x])=trimE l:=by
 unfold trimE
 rw [if_neg h2,lastA_app]
 rw [if_pos (show lastA (lastA 32 l) [x]=32 from h),List.dropLast_concat]
theorem colE_snoc (a:Nat) (l:List Sp) (x:Sp):colE a (l++[x])=colE a l++(if x.c=32∧lastA a l=32 then [] else [x]):=by
 rw [colE_app]
 congr 1
theorem keptN_is (l:List Sp):∀ n,n≤l.length→keptN l n=if (l.drop n).any blackS=true then colE 32 (l.take n) else trimE (colE 32 (l.take n)):=by
 intro n
 induction n with
 | zero=>intro _;simp [keptN,colE,trimE,lastA]
 | succ n ih =>
  intro hn
  have ih:=ih (by omega)
  obtain ⟨x,hx⟩:∃ x,l[n]?=some x:=⟨_,List.getElem?_eq_getElem (by omega)⟩
  have ht:l.take (n+1)=l.take n++[x]:=by rw [List.take_add_one,hx];rfl
  have hd:l.drop n=x::l.drop (n+1):=by
   rw [List.drop_eq_getElem_cons (by omega)]
   rw [List.getElem?_eq_getElem (by omega)] at hx
   rw [Option.some.inj hx]
  have hl:lastA 32 (colE 32 (l.take n))=lastA 32 (l.take n):=lastA_colE 32 _
  rw [ht,colE_snoc]
  by_cases hc:x.c=32
  ·have hb:(l.drop n).any blackS=(l.drop (n+1)).any blackS:=by rw [hd,List.any_cons,show blackS x=false by simp [blackS,hc],Bool.false_or]
   rw [hb] at ih
   by_cases ha:(l.drop (n+1)).any blackS=true
   ·rw [if_pos ha] at ih ⊢
    by_cases h32:lastA 32 (l.take n)=32
    ·rw [if_pos ⟨hc,h32⟩,List.append_nil,← ih]
     refine keptN_gone hx hc (fun h=>h.1 ?_)
     rw [lastC_A,ih,hl,h32]
    ·rw [if_neg (fun h=>h32 h.2),← ih]
     exact keptN_space hx hc (by rw [lastC_A,ih,hl];exact h32) (by rw [hb];exact ha)
   ·rw [if_neg ha] at ih ⊢
    have hgone:keptN l (n+1)=keptN l n:=keptN_gone hx hc (fun h=>ha (by rw [← hb];exact h.2))
    rw [hgone,ih]
    by_cases h32:lastA 32 (l.take n)=32
    ·rw [if_pos ⟨hc,h32⟩,List.append_nil]
    ·rw [if_neg (fun h=>h32 h.2),trimE_snoc_space hc (by rw [hl];exact h32)]
  ·have ha:(l.drop n).any blackS=true:=by rw [hd,List.any_cons,show blackS x=true by simp [blackS,hc],Bool.true_or]
   rw [if_pos ha] at ih
   have hcc:¬ (x.c=32∧lastA 32 (l.take n)=32):=fun h=>hc h.1
   rw [keptN_black hx hc,ih,if_neg hcc]
   have ht2:trimE (colE 32 (l.take n)++[x])=colE 32 (l.take n)++[x]:=by
    unfold trimE
    rw [lastA_app]
    exact if_neg (show ¬ x.c=32 from hc)
   rw [ht2]
   split<;>rfl
theorem keptV_is (l:List Sp):keptV l=trimE (colE 32 l):=by
 unfold keptV
 rw [keptN_is l l.length (Nat.le_refl _),List.drop_length,List.take_length]
 simp
def rawB (b:Nat):Nat:=if Lx.white b=true then 32 else b
theorem rawB_lt {b:Nat} (h:b<256):rawB b<256:=by unfold rawB;split<;>omega
def rawAt (i:Nat) (s:ByteArray) (k:Nat):Sp:=⟨rawB (Lx.bAt s k),i,k⟩
def rawSp (i:Nat) (s:ByteArray) (k:Nat):List Sp:=(List.range k).map (rawAt i s)
theorem rawSp_succ (i:Nat) (s:ByteArray) (k:Nat):rawSp i s (k+1)=rawSp i s k++[rawAt i s k]:=by
 unfold rawSp;rw [List.range_succ,List.map_append];rfl
theorem rawSp_len (i:Nat) (s:ByteArray) (k:Nat):(rawSp i s k).length=k:=by simp [rawSp]
theorem white_32:Lx.white 32=true:=by decide
theorem textSp_is (i:Nat) (s:ByteArray):∀ k,textSp i s k=colE 0 (rawSp i s k):=by
 intro k
 induction k with
 | zero=>rfl
 | succ k ih =>
  rw [textSp_succ,rawSp_succ,colE_snoc,ih]
  congr 1
  have hl:lastA 0 (rawSp i s k)=if k=0 then 0 else rawB (Lx.bAt s (k - 1)):=by
   cases k with
   | zero=>rfl
   | succ j=>rw [rawSp_succ,lastA_app];simp [lastA,rawAt]
  rw [hl]
  unfold spAt
  by_cases hw:Lx.white (Lx.bAt s k)=true
  ·rw [if_neg (by rw [hw];exact fun h=>Bool.noConfusion h)]
   have hr:rawAt i s k=⟨32,i,k⟩:=by unfold rawAt rawB;rw [if_pos hw]
   rw [hr]
   rcases Nat.eq_zero_or_pos k with rfl | hk
   ·rw [if_pos (.inl rfl),if_neg (fun h=>by have h2:=h.2;rw [if_pos rfl] at h2;cases h2)]
   ·rw [if_neg (show ¬ k=0 by omega)]
    by_cases hw2:Lx.white (Lx.bAt s (k - 1))=true
    ·have hno:¬ (k=0∨Lx.white (Lx.bAt s (k - 1))=false):=fun h=>by
      rcases h with h | h
      ·omega
      ·rw [hw2] at h;cases h
     rw [if_neg hno,if_pos ⟨rfl,by unfold rawB;rw [if_pos hw2]⟩]
    ·have hw3:Lx.white (Lx.bAt s (k - 1))=false:=by simpa using hw2
     rw [if_pos (.inr hw3),if_neg]
     intro h
     have h2:=h.2
     unfold rawB at h2
     rw [if_neg hw2] at h2
     rw [h2] at hw3
     rw [white_32] at hw3;cases hw3
  ·have hw3:Lx.white (Lx.bAt s k)=false:=by simpa using hw
   have hr:rawAt i s k=⟨Lx.bAt s k,i,k⟩:=by unfold rawAt rawB;rw [if_neg hw]
   rw [if_pos hw3,hr,if_neg]
   intro h
   have h2:=h.1
   simp only [] at h2
   rw [h2,white_32] at hw3;cases hw3
def nodeRaw (t:List Nd) (f i:Nat):List Sp :=
 match t[i]? with
 | some x=>if f<i∧x.kind=46∧flowV t i=(f:Int) then rawSp i x.text x.text.size else []
 | none=>[]
theorem nodeSp_is (t:List Nd) (f i:Nat):nodeSp t f i=colE 0 (nodeRaw t f i):=by
 unfold nodeSp nodeRaw
 cases t[i]? with
 | none=>rfl
 | some x =>
  simp only []
  split
  ·exact textSp_is _ _ _
  ·rfl
def rawF (t:List Nd) (f n:Nat):List Sp:=(List.range n).flatMap (nodeRaw t f)
theorem rawF_succ (t:List Nd) (f n:Nat):rawF t f (n+1)=rawF t f n++nodeRaw t f n:=by
 unfold rawF;rw [List.range_succ,List.flatMap_append];simp
theorem spotsF_is (t:List Nd) (f:Nat):∀ n,colE 32 (spotsF t f n)=colE 32 (rawF t f n)∧lastA 32 (spotsF t f n)=lastA 32 (rawF t f n):=by
 intro n
 induction n with
 | zero=>exact ⟨rfl,rfl⟩
 | succ n ih =>
  rw [spotsF_succ,rawF_succ,colE_app,colE_app,lastA_app,lastA_app,ih.1,ih.2,nodeSp_is]
  exact ⟨by rw [colE_colE _ _ (fun h=>absurd h (by decide))],lastA_colE0 _ _⟩
theorem flowF_in (t:List Nd) (a f:Nat):∀ n,flowF t a n=(f:Int)→f<n∧∃ x,t[f]?=some x∧flowedK x.kind=true∧(a:Int)<(f:Int)+x.size:=by
 intro n
 induction n with
 | zero=>intro h;unfold flowF at h;omega
 | succ n ih =>
  intro h
  unfold flowF at h
  cases hx:t[n]? with
  | none =>
   rw [hx] at h
   obtain ⟨h1,h2⟩:=ih h
   exact ⟨by omega,h2⟩
  | some x =>
   rw [hx] at h
   simp only [] at h
   split at h
   ·rename_i hc
    obtain rfl:n=f:=by omega
    exact ⟨by omega,x,hx,hc.1,hc.2⟩
   ·obtain ⟨h1,h2⟩:=ih h
    exact ⟨by omega,h2⟩
theorem flowV_in {t:List Nd} {a f:Nat} (h:flowV t a=(f:Int)):f<a∧∃ x,t[f]?=some x∧flowedK x.kind=true∧(a:Int)<(f:Int)+x.size:=flowF_in t a f a h
theorem rawF_more {t:List Nd} {f:Nat} {x:Nd} (hx:t[f]?=some x) {e:Nat} (he:(f:Int)+x.size≤(e:Int)):∀ n,e≤n→rawF t f n=rawF t f e:=by
 intro n hn
 induction n with
 | zero =>
  obtain rfl:e=0:=by omega
  rfl
 | succ n ih =>
  rcases Nat.eq_or_lt_of_le hn with rfl | h
  ·rfl
  ·rw [rawF_succ,ih (by omega)]
   have:nodeRaw t f n=[]:=by
    unfold nodeRaw
    cases t[n]? with
    | none=>rfl
    | some y =>
     simp only []
     rw [if_neg]
     rintro ⟨-,-,h3⟩
     obtain ⟨-,z,hz,-,h4⟩:=flowV_in h3
     rw [hx] at hz
     cases hz
     omega
   rw [this,List.append_nil]
theorem flowSp_is {t:List Nd} (ht:Sized t) {f:Nat} {x:Nd} (hx:t[f]?=some x):flowSp t f=trimE (colE 32 (rawF t f t.length)):=by
 obtain ⟨-,-,z,hz,-,hfz⟩:=ht f x hx
 unfold flowSp
 rw [keptV_is]
 congr 1
 unfold spotsV
 rw [hx]
 simp only []
 rw [(spotsF_is t f _).1,rawF_more hx (e:=f+x.size.toNat) (by omega) t.length (by omega)]
end Go.Proofs.YtmldpkigfhoalaaGreatDoor.Nu
namespace Go.Proofs.YtmldpkigfhoalaaGreatDoor.Nu
open Go.RowKit Tr
def keptAt (t:List Nd) (i:Nat):List Sp:=if 0≤flowV t i then (flowSp t (flowV t i).toNat).filter (fun s=>s.node==i) else []
def newText (t:List Nd) (i:Nat):ByteArray:=Lx.bytesOf ((keptAt t i).map Sp.c)
def newPlace (t:List Nd) (i:Nat):Int:=match keptAt t i with | []=>placeAt t i | s::_=>wrap64 (placeAt t i+(s.place:Int))
theorem nodeSp_in2 {t:List Nd} {f i:Nat} {x:Sp} (h:x ∈ nodeSp t f i):x.node=i∧flowV t i=(f:Int)∧∃ y,t[i]?=some y∧y.kind=46:=by
 unfold nodeSp at h
 cases hy:t[i]? with
 | none=>rw [hy] at h;cases h
 | some y =>
  rw [hy] at h
  simp only [] at h
  split at h
  ·rename_i hc
   unfold textSp at h
   obtain ⟨k,hk,hx⟩:=List.mem_flatMap.1 h
   exact ⟨(spAt_in hx).2.1,hc.2.2,y,rfl,hc.2.1⟩
  ·cases h
theorem flowSp_in2 {t:List Nd} {f:Nat} {x:Sp} (h:x ∈ flowSp t f):flowV t x.node=(f:Int)∧∃ y,t[x.node]?=some y∧y.kind=46:=by
 have h:=keptN_in _ h
 unfold spotsV at h
 cases hy:t[f]? with
 | none=>rw [hy] at h;cases h
 | some y =>
  rw [hy] at h
  obtain ⟨i,-,hx⟩:=List.mem_flatMap.1 h
  obtain ⟨a,b,c⟩:=nodeSp_in2 hx
  rw [a];exact ⟨b,c⟩
theorem keptAt_in {t:List Nd} {i:Nat} {s:Sp} (h:s ∈ keptAt t i):s.node=i∧s.c<256∧∃ y,t[i]?=some y∧y.kind=46∧s.place<y.text.size:=by
 unfold keptAt at h
 split at h
 ·obtain ⟨h1,h2⟩:=List.mem_filter.1 h
  have hn:s.node=i:=by simpa using h2
  obtain ⟨a,-,y,hy,hp⟩:=flowSp_in h1
  obtain ⟨-,y2,hy2,hk⟩:=flowSp_in2 h1
  rw [hn] at hy hy2
  rw [hy] at hy2
  cases hy2
  exact ⟨hn,a,y,hy,hk,hp⟩
 ·cases h
theorem addSp_at (t:List Nd) (i:Nat):∀ (l:List Sp) (out:List Nd),(l.foldl (addSp t) out)[i]?=(out[i]?).map (fun y=>(l.filter (fun s=>s.node==i)).foldl (fun y s=>putSp t s y) y):=by
 intro l
 induction l with
 | nil=>intro out;simp
 | cons s l ih =>
  intro out
  rw [List.foldl_cons,ih]
  unfold addSp
  rw [List.getElem?_modify]
  by_cases h:s.node=i
  ·rw [List.filter_cons_of_pos (by simpa using h)]
   simp only [if_pos h]
   cases out[i]?<;>rfl
  ·rw [List.filter_cons_of_neg (by simpa using h)]
   simp only [if_neg h]
   cases out[i]?<;>rfl
theorem blankN_at (t:List Nd) (i:Nat):∀ n,(blankN t n)[i]?=(t[i]?).map (fun x=>if x.kind=46∧i<n then noText x else x):=by
 intro n
 induction n with
 | zero =>
  show t[i]?=_
  cases t[i]? with
  | none=>rfl
  | some x=>simp
 | succ n ih =>
  unfold blankN
  have keep:(∀ x,t[i]?=some x→¬ (x.kind=46∧i=n))→(blankN t n)[i]?=(t[i]?).map (fun x=>if x.kind=46∧i<n+1 then noText x else x):=fun hno=>by
   rw [ih]
   cases hx:t[i]? with
   | none=>rfl
   | some x =>
    have:=hno x hx
    simp only [Option.map_some,Option.some.injEq]
    by_cases h1:x.kind=46∧i<n
    ·rw [if_pos h1,if_pos ⟨h1.1,by omega⟩]
    ·rw [if_neg h1,if_neg (fun h2=>by
      rcases Nat.lt_or_ge i n with h3 | h3
      ·exact h1 ⟨h2.1,h3⟩
      ·exact this ⟨h2.1,by omega⟩)]
  cases hx:t[n]? with
  | none =>
   simp only []
   exact keep (fun x hx' h=>by rw [h.2,hx] at hx';cases hx')
  | some y =>
   simp only []
   by_cases hk:y.kind=46
   ·rw [if_pos hk,List.getElem?_modify,ih]
    by_cases hin:n=i
    ·subst hin
     rw [hx]
     simp only [Option.map_some,if_true]
     rw [if_neg (show ¬ (y.kind=46∧n<n) from fun h=>by omega),if_pos ⟨hk,by omega⟩]
     rfl
    ·simp only [if_neg hin]
     cases hz:t[i]? with
     | none=>rfl
     | some z =>
      simp only [Option.map_some]
      by_cases h1:z.kind=46∧i<n
      ·rw [if_pos h1,if_pos ⟨h1.1,by omega⟩];rfl
      ·rw [if_neg h1,if_neg (fun h2=>h1 ⟨h2.1,by omega⟩)];rfl
   ·rw [if_neg hk]
    exact keep (fun x hx' h=>by rw [h.2,hx] at hx';cases hx';exact hk h.1)
theorem textsN_at (t:List Nd) (i:Nat):∀ n,(textsN t n)[i]?=(t[i]?).map (fun x=>if x.kind=46 then (if flowV t i<(n:Int) then keptAt t i else []).foldl (fun y s=>putSp t s y) (noText x) else x):=by
 intro n
 induction n with
 | zero =>
  show (blankN t t.length)[i]?=_
  rw [blankN_at]
  cases hx:t[i]? with
  | none=>rfl
  | some x =>
   have hi:=(List.getElem?_eq_some_iff.1 hx).1
   simp only [Option.map_some]
   by_cases hk:x.kind=46
   ·rw [if_pos ⟨hk,hi⟩,if_pos hk]
    have:(if flowV t i<((0:Nat):Int) then keptAt t i else [])=[]:=by
     split
     ·unfold keptAt;rw [if_neg (by omega)]
     ·rfl
    rw [this];rfl
   ·rw [if_neg (fun h=>hk h.1),if_neg hk]
 | succ n ih =>
  -- where flow n is not this node's
  have keep:(∀ x,t[i]?=some x→x.kind=46→flowV t i≠(n:Int))→(textsN t n)[i]?=(t[i]?).map (fun x=>if x.kind=46 then (if flowV t i<((n+1:Nat):Int) then keptAt t i else []).foldl (fun y s=>putSp t s y) (noText x) else x):=fun hno=>by
   rw [ih]
   cases hx:t[i]? with
   | none=>rfl
   | some x =>
    simp only [Option.map_some]
    by_cases hk:x.kind=46
    ·have:=hno x hx hk
     rw [if_pos hk,if_pos hk]
     by_cases h1:flowV t i<(n:Int)
     ·rw [if_pos h1,if_pos (by omega)]
     ·rw [if_neg h1,if_neg (by omega)]
    ·rw [if_neg hk,if_neg hk]
  unfold textsN
  cases hn:t[n]? with
  | none =>
   simp only []
   refine keep (fun x _ _ hf=>?_)
   obtain ⟨-,y,hy,-⟩:=flowV_in hf
   rw [hn] at hy;cases hy
  | some y =>
   simp only []
   by_cases hfl:flowedK y.kind=true
   ·rw [if_pos hfl,addSp_at]
    by_cases hf:∃ x,t[i]?=some x∧x.kind=46∧flowV t i=(n:Int)
    ·obtain ⟨x,hx,hk,hf⟩:=hf
     rw [ih,hx]
     simp only [Option.map_some]
     rw [if_pos hk,if_pos hk,if_neg (by omega),if_pos (by omega)]
     simp only [List.foldl_nil]
     congr 2
     unfold keptAt
     rw [hf,if_pos (by omega),Int.toNat_natCast]
    ·have he:(flowSp t n).filter (fun s=>s.node==i)=[]:=by
      rw [List.filter_eq_nil_iff]
      intro s hs hn2
      have hn2:s.node=i:=by simpa using hn2
      obtain ⟨a,b⟩:=flowSp_in2 hs
      rw [hn2] at a b
      obtain ⟨y2,hy2,hk2⟩:=b
      exact hf ⟨y2,hy2,hk2,a⟩
     rw [he]
     simp only [List.foldl_nil]
     rw [Option.map_id']
     exact keep (fun x hx hk hf2=>hf ⟨x,hx,hk,hf2⟩)
   ·rw [if_neg hfl]
    refine keep (fun x _ _ hf=>?_)
    obtain ⟨-,z,hz,hz2,-⟩:=flowV_in hf
    rw [hn] at hz;cases hz
    exact hfl hz2
theorem bytesOf_app (a b:List Nat):Lx.bytesOf (a++b)=Lx.bytesOf a++Lx.bytesOf b:=by
 apply ByteArray.ext
 show ((a++b).map UInt8.ofNat).toArray=_
 rw [ByteArray.data_append]
 show _=(a.map UInt8.ofNat).toArray++(b.map UInt8.ofNat).toArray
 simp
theorem putSp_more (t:List Nd):∀ (l:List Sp) (y:Nd),y.text.size≠0→l.foldl (fun y s=>putSp t s y) y={ y with text:=y.text++Lx.bytesOf (l.map Sp.c) }:=by
 intro l
 induction l with
 | nil =>
  intro y _
  show y=_
  rw [show y.text++Lx.bytesOf ([].map Sp.c)=y.text from by apply ByteArray.ext;rw [ByteArray.data_append];show y.text.data++#[]=_;simp]
 | cons s l ih =>
  intro y h
  rw [List.foldl_cons,ih _ (by show (y.text++oneS s.c).size≠0;rw [ByteArray.size_append];omega)]
  unfold putSp
  simp only []
  rw [if_neg h,ByteArray.append_assoc,show oneS s.c=Lx.bytesOf [s.c] from rfl,← bytesOf_app]
  rfl
def newNd (t:List Nd) (i:Nat) (x:Nd):Nd:=if x.kind=46 then { x with text:=newText t i,place:=newPlace t i } else x
theorem textsV_at {t:List Nd} {i:Nat} {x:Nd} (hx:t[i]?=some x):(textsV t)[i]?=some (newNd t i x):=by
 have hi:=(List.getElem?_eq_some_iff.1 hx).1
 unfold textsV newNd
 rw [textsN_at,hx]
 simp only [Option.map_some]
 by_cases hk:x.kind=46
 ·rw [if_pos hk,if_pos hk]
  have hlt:flowV t i<(t.length:Int):=by
   have h:=(flowF_lt t i i).2
   unfold flowV
   omega
  rw [if_pos hlt]
  congr 1
  unfold newText newPlace
  have hp:placeAt t i=x.place:=by unfold placeAt;rw [hx]
  cases hl:keptAt t i with
  | nil =>
   show noText x=_
   rw [hp];rfl
  | cons s l =>
   have hs:=(keptAt_in (t:=t) (i:=i) (s:=s) (by rw [hl];exact List.mem_cons_self ..)).1
   rw [List.foldl_cons]
   have h0:putSp t s (noText x)={ x with text:=Lx.bytesOf [s.c],place:=wrap64 (x.place+(s.place:Int)) }:=by
    unfold putSp noText
    simp only []
    rw [if_pos (show emptyS.size=0 by decide),hs,hp]
    rw [show emptyS++oneS s.c=Lx.bytesOf [s.c] from by apply ByteArray.ext;rw [ByteArray.data_append];show #[]++_=_;rw [Array.empty_append];rfl]
   rw [h0,putSp_more t l _ (by show (Lx.bytesOf [s.c]).size≠0;rw [Lx.bytesOf_size];simp)]
   simp only []
   rw [← bytesOf_app,hp]
   rfl
 ·rw [if_neg hk,if_neg hk]
theorem textsV_len (t:List Nd):(textsV t).length=t.length:=textsN_len t _
end Go.Proofs.YtmldpkigfhoalaaGreatDoor.Nu
namespace Go.Proofs.YtmldpkigfhoalaaGreatDoor.Nu
open Go.RowKit Tr
structure Ev where
 kind:Nat
 name:Nat
 text:ByteArray
 place:Int
def txE (s:ByteArray) (pl:Int):Ev:=⟨1,0,s,pl⟩
def opE (k:Nat) (pl:Int):Ev:=⟨2,k,emptyS,pl⟩
def clE:Ev:=⟨3,0,emptyS,0⟩
def ndE (x:Ev):Nd:=if x.kind=1 then ⟨46,x.text,x.place,1⟩ else ⟨x.name,emptyS,x.place,1⟩
def bld (st:List Nd × List Nat) (x:Ev):List Nd × List Nat :=
 if x.kind=1 then (st.1++[ndE x],st.2)
 else if x.kind=2 then (st.1++[ndE x],st.2++[st.1.length])
 else (st.1.modify (st.2.getLastD 0) (setSize ((st.1.length:Int) - (st.2.getLastD 0:Int))),st.2.dropLast)
theorem bld_tx {T:List Nd} {S:List Nat} {x:Ev} (h:x.kind=1):bld (T,S) x=(T++[ndE x],S):=by unfold bld;rw [if_pos h]
theorem bld_op {T:List Nd} {S:List Nat} {x:Ev} (h:x.kind=2):bld (T,S) x=(T++[ndE x],S++[T.length]):=by unfold bld;rw [if_neg (by omega),if_pos h]
theorem bld_cl {T:List Nd} {S:List Nat} {s:Nat} {x:Ev} (h1:x.kind≠1) (h2:x.kind≠2):bld (T,S++[s]) x=(T.modify s (setSize ((T.length:Int) - (s:Int))),S):=by
 unfold bld
 rw [if_neg h1,if_neg h2]
 simp
def rowS (L:List Ev):List Nd × List Nat:=L.foldl bld ([],[])
def rowE (L:List Ev):List Nd:=(rowS L).1
def dep:Nat→List Ev→Option Nat
 | n,[]=>some n
 | n,x::l=>if x.kind=1 then dep n l else if x.kind=2 then dep (n+1) l else match n with | 0=>none | m+1=>dep m l
def Bal (L:List Ev):Prop:=dep 0 L=some 0
theorem dep_k1 {n:Nat} {x:Ev} {l:List Ev} (h:x.kind=1):dep n (x::l)=dep n l:=by rw [dep.eq_def];simp only [];rw [if_pos h]
theorem dep_k2 {n:Nat} {x:Ev} {l:List Ev} (h:x.kind=2):dep n (x::l)=dep (n+1) l:=by rw [dep.eq_def];simp only [];rw [if_neg (by omega),if_pos h]
theorem dep_k3 {n:Nat} {x:Ev} {l:List Ev} (h1:x.kind≠1) (h2:x.kind≠2):dep (n+1) (x::l)=dep n l:=by rw [dep.eq_def];simp only [];rw [if_neg h1,if_neg h2]
theorem dep_k0 {x:Ev} {l:List Ev} (h1:x.kind≠1) (h2:x.kind≠2):dep 0 (x::l)=none:=by rw [dep.eq_def];simp only [];rw [if_neg h1,if_neg h2]
theorem dep_app:∀ (L M:List Ev) (n:Nat),dep n (L++M)=(dep n L).bind fun m=>dep m M:=by
 intro L
 induction L with
 | nil=>intro M n;rfl
 | cons x L ih =>
  intro M n
  rw [List.cons_append]
  by_cases h1:x.kind=1
  ·rw [dep_k1 h1,dep_k1 h1];exact ih M n
  ·by_cases h2:x.kind=2
   ·rw [dep_k2 h2,dep_k2 h2];exact ih M (n+1)
   ·cases n with
    | zero=>rw [dep_k0 h1 h2,dep_k0 h1 h2];rfl
    | succ m=>rw [dep_k3 h1 h2,dep_k3 h1 h2];exact ih M m
theorem dep_more:∀ (L:List Ev) (n m k:Nat),dep n L=some m→dep (n+k) L=some (m+k):=by
 intro L
 induction L with
 | nil=>intro n m k h;unfold dep at h ⊢;cases h;rfl
 | cons x L ih =>
  intro n m k h
  unfold dep at h ⊢
  by_cases h1:x.kind=1
  ·rw [if_pos h1] at h ⊢;exact ih n m k h
  ·rw [if_neg h1] at h ⊢
   by_cases h2:x.kind=2
   ·rw [if_pos h2] at h ⊢
    have:=ih (n+1) m k h
    rw [show n+1+k=n+k+1 by omega] at this
    exact this
   ·rw [if_neg h2] at h ⊢
    cases n with
    | zero=>cases h
    | succ j =>
     rw [show j+1+k=(j+k)+1 by omega]
     exact ih j m k h
theorem Bal.app {L M:List Ev} (h:Bal L) (h2:Bal M):Bal (L++M):=by unfold Bal at *;rw [dep_app,h];exact h2
theorem Bal.node {M:List Ev} (h:Bal M) (k:Nat) (pl:Int):Bal (opE k pl::(M++[clE])):=by
 unfold Bal at *
 show dep 1 (M++[clE])=some 0
 rw [dep_app,show dep 1 M=some 1 from dep_more M 0 0 1 h];rfl
theorem Bal.text (s:ByteArray) (pl:Int):Bal [txE s pl]:=rfl
theorem snoc_of {α:Type} {l:List α} (h:0<l.length):∃ l' a,l=l'++[a]:=by
 rcases List.eq_nil_or_concat l with rfl | ⟨l',a,rfl⟩
 ·exact absurd h (by simp)
 ·exact ⟨l',a,by simp⟩
theorem bld_ind {I:List Nd→List Nat→Prop} (htx:∀ T S x,x.kind=1→I T S→I (T++[ndE x]) S) (hop:∀ T S x,x.kind=2→I T S→I (T++[ndE x]) (S++[T.length]))
  (hcl:∀ T S s,I T (S++[s])→I (T.modify s (setSize ((T.length:Int) - (s:Int)))) S):∀ (L:List Ev) (n d:Nat) (T:List Nd) (S:List Nat),S.length=n→dep n L=some d→I T S→I (L.foldl bld (T,S)).1 (L.foldl bld (T,S)).2:=by
 intro L
 induction L with
 | nil=>intro n d T S _ _ h;exact h
 | cons x L ih =>
  intro n d T S hn hd h
  unfold dep at hd
  rw [List.foldl_cons]
  by_cases h1:x.kind=1
  ·rw [if_pos h1] at hd
   rw [bld_tx h1]
   exact ih n d _ _ hn hd (htx T S x h1 h)
  ·rw [if_neg h1] at hd
   by_cases h2:x.kind=2
   ·rw [if_pos h2] at hd
    rw [bld_op h2]
    exact ih (n+1) d _ _ (by rw [List.length_append,hn];rfl) hd (hop T S x h2 h)
   ·rw [if_neg h2] at hd
    cases n with
    | zero=>cases hd
    | succ m =>
     obtain ⟨S',s,rfl⟩:=snoc_of (l:=S) (by omega)
     rw [bld_cl h1 h2]
     exact ih m d _ _ (by rw [List.length_append] at hn;simp at hn;exact hn) hd (hcl T S' s h)
theorem bld_ind2 {I:List Nd→List Nat→List Nd→List Nat→Prop} (htx:∀ T S T' S' x,x.kind=1→I T S T' S'→I (T++[ndE x]) S (T'++[ndE x]) S') (hop:∀ T S T' S' x,x.kind=2→I T S T' S'→I (T++[ndE x]) (S++[T.length]) (T'++[ndE x]) (S'++[T'.length]))
  (hcl:∀ T S s T' S',I T (S++[s]) T' S'→∃ S'' s',S'=S''++[s']∧I (T.modify s (setSize ((T.length:Int) - (s:Int)))) S (T'.modify s' (setSize ((T'.length:Int) - (s':Int)))) S''):∀ (L:List Ev) (n d:Nat) (T:List Nd) (S:List Nat) (T':List Nd) (S':List Nat),S.length=n→dep n L=some d→I T S T' S'→I (L.foldl bld (T,S)).1 (L.foldl bld (T,S)).2 (L.foldl bld (T',S')).1 (L.foldl bld (T',S')).2:=by
 intro L
 induction L with
 | nil=>intro n d T S T' S' _ _ h;exact h
 | cons x L ih =>
  intro n d T S T' S' hn hd h
  unfold dep at hd
  rw [List.foldl_cons,List.foldl_cons]
  by_cases h1:x.kind=1
  ·rw [if_pos h1] at hd
   rw [bld_tx h1,bld_tx h1]
   exact ih n d _ _ _ _ hn hd (htx T S T' S' x h1 h)
  ·rw [if_neg h1] at hd
   by_cases h2:x.kind=2
   ·rw [if_pos h2] at hd
    rw [bld_op h2,bld_op h2]
    exact ih (n+1) d _ _ _ _ (by rw [List.length_append,hn];rfl) hd (hop T S T' S' x h2 h)
   ·rw [if_neg h2] at hd
    cases n with
    | zero=>cases hd
    | succ m =>
     obtain ⟨S0,s,rfl⟩:=snoc_of (l:=S) (by omega)
     obtain ⟨S'',s',rfl,h3⟩:=hcl T S0 s T' S' h
     rw [bld_cl h1 h2,bld_cl h1 h2]
     exact ih m d _ _ _ _ (by rw [List.length_append] at hn;simp at hn;exact hn) hd h3
theorem rowS_len:∀ (L:List Ev) (n d:Nat) (T:List Nd) (S:List Nat),S.length=n→dep n L=some d→(L.foldl bld (T,S)).2.length=d:=by
 intro L
 induction L with
 | nil=>intro n d T S hn h;unfold dep at h;cases h;exact hn
 | cons x L ih =>
  intro n d T S hn hd
  unfold dep at hd
  rw [List.foldl_cons]
  by_cases h1:x.kind=1
  ·rw [if_pos h1] at hd
   rw [bld_tx h1]
   exact ih n d _ _ hn hd
  ·rw [if_neg h1] at hd
   by_cases h2:x.kind=2
   ·rw [if_pos h2] at hd
    rw [bld_op h2]
    exact ih (n+1) d _ _ (by rw [List.length_append,hn];rfl) hd
   ·rw [if_neg h2] at hd
    cases n with
    | zero=>cases hd
    | succ m =>
     obtain ⟨S',s,rfl⟩:=snoc_of (l:=S) (by omega)
     rw [bld_cl h1 h2]
     exact ih m d _ _ (by rw [List.length_append] at hn;simp at hn;exact hn) hd
theorem Bal.none {L:List Ev} (h:Bal L):(rowS L).2=[]:=List.length_eq_zero_iff.1 (rowS_len L 0 0 [] [] rfl h)
theorem bld_shift (T0:List Nd) (S0:List Nat) (L:List Ev) (d:Nat) (h:dep 0 L=some d):L.foldl bld (T0,S0)=(T0++rowE L,S0++(rowS L).2.map (·+T0.length)):=by
 have:=bld_ind2 (I:=fun T S T' S'=>T'=T0++T∧S'=S0++S.map (·+T0.length)) ?_ ?_ ?_ L 0 d [] [] T0 S0 rfl h ⟨by simp,by simp⟩
 ·exact Prod.ext this.1 this.2
 ·rintro T S _ _ x _ ⟨rfl,rfl⟩
  exact ⟨by simp,rfl⟩
 ·rintro T S _ _ x _ ⟨rfl,rfl⟩
  refine ⟨by simp,?_⟩
  rw [List.map_append,← List.append_assoc]
  simp;omega
 ·rintro T S s _ _ ⟨rfl,rfl⟩
  refine ⟨S0++S.map (·+T0.length),s+T0.length,by simp,?_,rfl⟩
  rw [List.length_append,show s+T0.length=T0.length+s by omega]
  rw [show (((T0.length+T.length:Nat):Int) - ((T0.length+s:Nat):Int))=(T.length:Int) - (s:Int) by omega]
  apply List.ext_getElem?
  intro j
  rcases Nat.lt_or_ge j T0.length with hj | hj
  ·rw [List.getElem?_append_left hj,List.getElem?_modify,List.getElem?_append_left hj]
   simp only [if_neg (show ¬ T0.length+s=j by omega)]
   cases T0[j]?<;>rfl
  ·rw [List.getElem?_append_right hj,List.getElem?_modify,List.getElem?_modify,List.getElem?_append_right hj]
   by_cases hs:T0.length+s=j
   ·simp only [if_pos hs,if_pos (show s=j - T0.length by omega)]
   ·simp only [if_neg hs,if_neg (show ¬ s=j - T0.length by omega)]
theorem rowE_app {L M:List Ev} (h:Bal L) (h2:Bal M):rowE (L++M)=rowE L++rowE M:=by
 unfold rowE rowS
 rw [List.foldl_append,show L.foldl bld ([],[])=(rowE L,[]) from Prod.ext rfl h.none,bld_shift _ _ M 0 h2]
 rfl
theorem rowE_tx (s:ByteArray) (pl:Int):rowE [txE s pl]=[⟨46,s,pl,1⟩]:=rfl
theorem rowE_node {M:List Ev} (h:Bal M) (k:Nat) (pl:Int):rowE (opE k pl::(M++[clE]))=⟨k,emptyS,pl,((rowE M).length:Int)+1⟩::rowE M:=by
 unfold rowE rowS
 rw [List.foldl_cons,show bld ([],[]) (opE k pl)=([⟨k,emptyS,pl,1⟩],[0]) from rfl,List.foldl_append,bld_shift _ _ M 0 h]
 rw [show (rowS M).2=[] from h.none]
 show (bld ([⟨k,emptyS,pl,1⟩]++rowE M,[0]) clE).1=_
 rw [show ([0]:List Nat)=[]++[0] from rfl,bld_cl (by decide) (by decide)]
 show (⟨k,emptyS,pl,1⟩::rowE M).modify 0 _=_
 simp only [List.modify_zero_cons]
 unfold setSize
 simp only [List.cons_append,List.nil_append,List.cons.injEq,Nd.mk.injEq,true_and]
 refine ⟨?_,rfl⟩
 show (((rowE M).length+1:Nat):Int) - 0=_
 exact Int.sub_zero _
def nod (L:List Ev):Nat:=(L.filter fun x=>x.kind==1 || x.kind==2).length
theorem nod_app (L M:List Ev):nod (L++M)=nod L+nod M:=by unfold nod;rw [List.filter_append,List.length_append]
theorem bld_nod:∀ (L:List Ev) (T:List Nd) (S:List Nat),(L.foldl bld (T,S)).1.length=T.length+nod L:=by
 intro L
 induction L with
 | nil=>intro T S;rfl
 | cons x L ih =>
  intro T S
  rw [List.foldl_cons]
  have hn:nod (x::L)=nod [x]+nod L:=nod_app [x] L
  rw [hn]
  by_cases h1:x.kind=1
  ·rw [bld_tx h1,ih,List.length_append,show nod [x]=1 by unfold nod;simp [h1]]
   simp;omega
  ·by_cases h2:x.kind=2
   ·rw [bld_op h2,ih,List.length_append,show nod [x]=1 by unfold nod;simp [h2]]
    simp;omega
   ·have hb:bld (T,S) x=(T.modify (S.getLastD 0) (setSize ((T.length:Int) - (S.getLastD 0:Int))),S.dropLast):=by unfold bld;rw [if_neg h1,if_neg h2]
    rw [hb,ih,List.length_modify,show nod [x]=0 by unfold nod;simp [h1,h2]]
    omega
theorem rowE_len (L:List Ev):(rowE L).length=nod L:=by
 unfold rowE rowS;rw [bld_nod];simp
structure Good (T:List Nd) (S:List Nat):Prop where
 rise:S.Pairwise (·<·)
 lt:∀ s ∈ S,s<T.length
 one:∀ s ∈ S,∀ x,T[s]?=some x→x.size=1
 fits:∀ j,j ∉ S→∀ x,T[j]?=some x→1≤x.size∧(j:Int)+x.size≤(T.length:Int)
theorem Good.nil:Good [] []:=⟨List.Pairwise.nil,by simp,by simp,by simp⟩
theorem snd_ne {S:List Nat} {s:Nat} (h:(S++[s]).Pairwise (·<·)):s ∉ S∧∀ a ∈ S,a<s:=by
 rw [List.pairwise_append] at h
 exact ⟨fun hs=>absurd (h.2.2 s hs s (by simp)) (Nat.lt_irrefl _),fun a ha=>h.2.2 a ha s (by simp)⟩
theorem get_snoc {T:List Nd} {y x:Nd} {j:Nat} (h:(T++[y])[j]?=some x):(j<T.length∧T[j]?=some x)∨(j=T.length∧x=y):=by
 rcases Nat.lt_or_ge j T.length with hj | hj
 ·rw [List.getElem?_append_left hj] at h;exact .inl ⟨hj,h⟩
 ·rw [List.getElem?_append_right hj] at h
  cases hk:j - T.length with
  | zero=>rw [hk] at h;simp at h;exact .inr ⟨by omega,h.symm⟩
  | succ m=>rw [hk] at h;simp at h
theorem ndE_size (x:Ev):(ndE x).size=1:=by unfold ndE;split<;>rfl
theorem Good.of (L:List Ev) (n d:Nat) (T:List Nd) (S:List Nat) (hn:S.length=n) (hd:dep n L=some d) (h:Good T S):Good (L.foldl bld (T,S)).1 (L.foldl bld (T,S)).2:=by
 refine bld_ind (I:=Good) ?_ ?_ ?_ L n d T S hn hd h
 ·rintro T S x _ ⟨a,b,c,e⟩
  refine ⟨a,fun s hs=>by rw [List.length_append];have:=b s hs;omega,fun s hs y hy=>?_,fun j hj y hy=>?_⟩
  ·rcases get_snoc hy with ⟨_,h2⟩ | ⟨h1,_⟩
   ·exact c s hs y h2
   ·have:=b s hs;omega
  ·rw [List.length_append]
   rcases get_snoc hy with ⟨_,h2⟩ | ⟨h1,rfl⟩
   ·have:=e j hj y h2
    exact ⟨this.1,by simp;omega⟩
   ·rw [ndE_size];simp;omega
 ·rintro T S x _ ⟨a,b,c,e⟩
  refine ⟨?_,fun s hs=>?_,fun s hs y hy=>?_,fun j hj y hy=>?_⟩
  ·rw [List.pairwise_append]
   exact ⟨a,by simp,fun s hs u hu=>by simp at hu;subst hu;exact b s hs⟩
  ·rw [List.length_append]
   rcases List.mem_append.1 hs with h1 | h1
   ·have:=b s h1;omega
   ·simp at h1;subst h1;simp
  ·rcases get_snoc hy with ⟨h1,h2⟩ | ⟨h1,rfl⟩
   ·rcases List.mem_append.1 hs with h3 | h3
    ·exact c s h3 y h2
    ·simp at h3;omega
   ·exact ndE_size x
  ·rw [List.length_append]
   rcases get_snoc hy with ⟨h1,h2⟩ | ⟨h1,rfl⟩
   ·have:=e j (fun h3=>hj (List.mem_append_left _ h3)) y h2
    exact ⟨this.1,by simp;omega⟩
   ·exact absurd (by rw [h1];simp) hj
 ·rintro T S s ⟨a,b,c,e⟩
  obtain ⟨hs1,hs2⟩:=snd_ne a
  have hsl:=b s (by simp)
  refine ⟨(List.pairwise_append.1 a).1,fun u hu=>by rw [List.length_modify];exact b u (List.mem_append_left _ hu),fun u hu y hy=>?_,fun j hj y hy=>?_⟩
  ·rw [List.getElem?_modify] at hy
   obtain ⟨z,hz,he⟩:=Option.map_eq_some_iff.1 hy
   rw [if_neg (show ¬ s=u from fun h=>hs1 (h▸hu))] at he
   subst he
   exact c u (List.mem_append_left _ hu) z hz
  ·rw [List.length_modify]
   rw [List.getElem?_modify] at hy
   obtain ⟨z,hz,he⟩:=Option.map_eq_some_iff.1 hy
   by_cases hjs:s=j
   ·rw [if_pos hjs] at he
    subst he
    subst hjs
    unfold setSize
    simp only []
    omega
   ·rw [if_neg hjs] at he
    subst he
    exact e j (fun h3=>by
     rcases List.mem_append.1 h3 with h4 | h4
     ·exact hj h4
     ·simp at h4;exact hjs h4.symm) z hz
theorem good_row {A:List Ev} {d:Nat} (h:dep 0 A=some d):Good (rowS A).1 (rowS A).2:=Good.of A 0 d [] [] rfl h Good.nil
end Go.Proofs.YtmldpkigfhoalaaGreatDoor.Nu
namespace Go.Proofs.YtmldpkigfhoalaaGreatDoor.Nu
open Go.RowKit Tr
theorem mod_at {α:Type} (l:List α) (i j:Nat) (f:α→α):(l.modify i f)[j]?=(l[j]?).map fun a=>if i=j then f a else a:=List.getElem?_modify ..
theorem decN_at (t:List Nd) (a:Nat) (ha:a≤t.length) (j:Nat):∀ n,n≤a→(decN t a n)[j]?=if j<a then (t[j]?).map (fun y=>if j<n∧(a:Int)<(j:Int)+y.size then decS y else y) else none:=by
 intro n
 induction n with
 | zero =>
  intro _
  unfold decN
  rw [List.getElem?_take]
  split
  ·cases t[j]?<;>simp
  ·rfl
 | succ n ih =>
  intro hn
  have ih:=ih (by omega)
  obtain ⟨x,hx⟩:=nu_some (l:=t) (i:=n) (by omega)
  unfold decN
  rw [hx]
  simp only []
  by_cases hs:(a:Int)<(n:Int)+x.size
  ·rw [if_pos hs,mod_at,ih]
   by_cases hja:j<a
   ·rw [if_pos hja,if_pos hja]
    by_cases hjn:n=j
    ·subst hjn
     rw [hx]
     simp only [Option.map_some,if_true]
     rw [if_neg (fun h=>by omega),if_pos ⟨by omega,hs⟩]
    ·cases hy:t[j]? with
     | none=>rfl
     | some y =>
      simp only [Option.map_some,if_neg hjn]
      by_cases h1:j<n∧(a:Int)<(j:Int)+y.size
      ·rw [if_pos h1,if_pos ⟨by omega,h1.2⟩]
      ·rw [if_neg h1,if_neg (fun h2=>h1 ⟨by omega,h2.2⟩)]
   ·rw [if_neg hja,if_neg hja];rfl
  ·rw [if_neg hs,ih]
   by_cases hja:j<a
   ·rw [if_pos hja,if_pos hja]
    cases hy:t[j]? with
    | none=>rfl
    | some y =>
     simp only [Option.map_some,Option.some.injEq]
     by_cases hjn:n=j
     ·subst hjn
      rw [hx] at hy;cases hy
      rw [if_neg (fun h=>by omega),if_neg (fun h=>hs h.2)]
     ·by_cases h1:j<n∧(a:Int)<(j:Int)+y.size
      ·rw [if_pos h1,if_pos ⟨by omega,h1.2⟩]
      ·rw [if_neg h1,if_neg (fun h2=>h1 ⟨by omega,h2.2⟩)]
   ·rw [if_neg hja,if_neg hja]
theorem withoutV_at {t:List Nd} {a:Nat} (ha:a<t.length) (j:Nat):(withoutV t a)[j]?=if j<a then (t[j]?).map (fun y=>if (a:Int)<(j:Int)+y.size then decS y else y) else t[j+1]?:=by
 unfold withoutV
 have hl:(decN t a a).length=a:=by rw [decN_len];omega
 rcases Nat.lt_or_ge j a with hj | hj
 ·rw [List.getElem?_append_left (by omega),decN_at t a (by omega) j a (Nat.le_refl _),if_pos hj,if_pos hj]
  congr 1
  funext y
  by_cases h:(a:Int)<(j:Int)+y.size
  ·rw [if_pos h,if_pos ⟨hj,h⟩]
  ·rw [if_neg h,if_neg (fun h2=>h h2.2)]
 ·rw [List.getElem?_append_right (by omega),hl,if_neg (by omega),List.getElem?_drop,show a+1+(j - a)=j+1 by omega]
theorem withoutV_len {t:List Nd} {a:Nat} (ha:a<t.length):(withoutV t a).length+1=t.length:=by
 unfold withoutV
 rw [List.length_append,decN_len,List.length_drop];omega
def shN (i j:Nat):Nat:=if j<i then j else j - 1
theorem withoutV_snoc {T:List Nd} {i:Nat} (hi:i<T.length) (y:Nd) (_hy:y.size=1):withoutV (T++[y]) i=withoutV T i++[y]:=by
 have hl:=withoutV_len hi
 apply List.ext_getElem?
 intro j
 rw [withoutV_at (by rw [List.length_append];omega)]
 rcases Nat.lt_or_ge j (withoutV T i).length with hj | hj
 ·rw [List.getElem?_append_left hj,withoutV_at hi]
  rw [List.getElem?_append_left (show j<T.length by omega)]
  rcases Nat.lt_or_ge j i with h1 | h1
  ·rw [if_pos h1,if_pos h1]
  ·rw [if_neg (by omega),if_neg (by omega),List.getElem?_append_left (by omega)]
 ·rw [if_neg (by omega),List.getElem?_append_right hj,List.getElem?_append_right (by omega)]
  congr 1
  omega
theorem withoutV_close {T:List Nd} {i s:Nat} (hi:i<T.length) (_hs:s<T.length) (hne:i≠s):withoutV (T.modify s (setSize ((T.length:Int) - (s:Int)))) i=(withoutV T i).modify (shN i s) (setSize (((withoutV T i).length:Int) - (shN i s:Int))):=by
 have hl:=withoutV_len hi
 obtain ⟨n,hn⟩:∃ n,(withoutV T i).length=n:=⟨_,rfl⟩
 rw [hn] at hl ⊢
 apply List.ext_getElem?
 intro j
 rw [withoutV_at (by rw [List.length_modify];exact hi),mod_at,mod_at,mod_at,withoutV_at hi]
 rcases Nat.lt_or_ge j i with h1 | h1
 ·rw [if_pos h1,if_pos h1]
  cases hy:T[j]? with
  | none=>rfl
  | some y =>
   simp only [Option.map_some,Option.some.injEq]
   by_cases hsj:s=j
   ·subst hsj
    have h2:shN i s=s:=by unfold shN;rw [if_pos h1]
    rw [if_pos rfl,h2,if_pos rfl,if_pos (show (i:Int)<(s:Int)+(setSize ((T.length:Int) - (s:Int)) y).size by unfold setSize;simp only [];omega)]
    split
    ·unfold decS setSize
     simp only [Nd.mk.injEq,true_and]
     omega
    ·unfold decS setSize
     simp only [Nd.mk.injEq,true_and]
     omega
   ·have h2:¬ shN i s=j:=by unfold shN;split<;>omega
    rw [if_neg hsj,if_neg h2]
 ·rw [if_neg (by omega),if_neg (by omega)]
  by_cases hsj:s=j+1
  ·have h2:shN i s=j:=by unfold shN;rw [if_neg (by omega)];omega
   rw [h2,show ((T.length:Int) - (s:Int))=(n:Int) - (j:Int) by omega]
   cases T[j+1]? with
   | none=>rfl
   | some y=>simp only [Option.map_some,if_pos hsj,if_true]
  ·have h2:¬ shN i s=j:=by unfold shN;split<;>omega
   cases T[j+1]? with
   | none=>rfl
   | some y=>simp only [Option.map_some,if_neg hsj,if_neg h2]
theorem rowS_split (A B:List Ev) (x:Ev):rowS (A++x::B)=B.foldl bld (bld (rowS A) x):=by
 unfold rowS;rw [List.foldl_append];rfl
theorem dep_split {A B:List Ev} {x:Ev} (h:Bal (A++x::B)):∃ d,dep 0 A=some d∧(rowS A).2.length=d∧dep d (x::B)=some 0:=by
 unfold Bal at h
 rw [dep_app] at h
 obtain ⟨d,h1,h2⟩:=Option.bind_eq_some_iff.1 h
 exact ⟨d,h1,rowS_len A 0 d [] [] rfl h1,h2⟩
theorem dep_tx {d:Nat} {x:Ev} {B:List Ev} (hx:x.kind=1) (h:dep d (x::B)=some 0):dep d B=some 0:=by
 rw [dep_k1 hx] at h;exact h
theorem dep_op {d:Nat} {x:Ev} {B:List Ev} (hx:x.kind=2) (h:dep d (x::B)=some 0):dep (d+1) B=some 0:=by
 rw [dep_k2 hx] at h;exact h
theorem rowS_nod (A:List Ev):(rowS A).1.length=nod A:=rowE_len A
theorem row_text {A B:List Ev} {x:Ev} (h:Bal (A++x::B)) (hx:x.kind=1):(rowE (A++x::B))[nod A]?=some (ndE x):=by
 obtain ⟨d,h1,h2,h3⟩:=dep_split h
 have g:=good_row h1
 have hn:=rowS_nod A
 unfold rowE
 rw [rowS_split]
 obtain ⟨T,S,hTS⟩:∃ T S,rowS A=(T,S):=⟨_,_,rfl⟩
 rw [hTS] at g h2 hn ⊢
 simp only [] at g h2 hn
 rw [bld_tx hx]
 have:=bld_ind (I:=fun T' S'=>T'[nod A]?=some (ndE x)∧nod A ∉ S'∧nod A<T'.length) ?_ ?_ ?_ B d 0 (T++[ndE x]) S h2 (dep_tx hx h3) ⟨?_,?_,?_⟩
 ·exact this.1
 ·rintro T' S' y _ ⟨a,b,c⟩
  exact ⟨by rw [List.getElem?_append_left c];exact a,b,by rw [List.length_append];omega⟩
 ·rintro T' S' y _ ⟨a,b,c⟩
  refine ⟨by rw [List.getElem?_append_left c];exact a,fun hm=>?_,by rw [List.length_append];omega⟩
  rcases List.mem_append.1 hm with h4 | h4
  ·exact b h4
  ·simp at h4;omega
 ·rintro T' S' s ⟨a,b,c⟩
  refine ⟨?_,fun hm=>b (List.mem_append_left _ hm),by rw [List.length_modify];exact c⟩
  rw [mod_at,a,Option.map_some,if_neg (fun e=>b (by rw [e];simp))]
 ·rw [List.getElem?_append_right (by omega),hn];simp
 ·exact fun hm=>by have:=g.lt _ hm;omega
 ·rw [List.length_append];simp;omega
theorem row_node {A B:List Ev} {x:Ev} (h:Bal (A++x::B)) (hx:x.kind=1∨x.kind=2):∃ z,(rowE (A++x::B))[nod A]?=some (setSize z (ndE x)):=by
 rcases hx with hx | hx
 ·exact ⟨1,by rw [row_text h hx];unfold setSize ndE;rw [if_pos hx]⟩
 obtain ⟨d,h1,h2,h3⟩:=dep_split h
 have hn:=rowS_nod A
 unfold rowE
 rw [rowS_split]
 obtain ⟨T,S,hTS⟩:∃ T S,rowS A=(T,S):=⟨_,_,rfl⟩
 rw [hTS] at h2 hn ⊢
 simp only [] at h2 hn
 rw [bld_op hx]
 have:=bld_ind (I:=fun T' _=>(∃ z,T'[nod A]?=some (setSize z (ndE x)))∧nod A<T'.length) ?_ ?_ ?_ B (d+1) 0 (T++[ndE x]) (S++[T.length]) (by rw [List.length_append,h2];rfl) (dep_op hx h3) ⟨⟨1,?_⟩,?_⟩
 ·exact this.1
 ·rintro T' S' y _ ⟨⟨z,a⟩,c⟩
  exact ⟨⟨z,by rw [List.getElem?_append_left c];exact a⟩,by rw [List.length_append];omega⟩
 ·rintro T' S' y _ ⟨⟨z,a⟩,c⟩
  exact ⟨⟨z,by rw [List.getElem?_append_left c];exact a⟩,by rw [List.length_append];omega⟩
 ·rintro T' S' s ⟨⟨z,a⟩,c⟩
  refine ⟨?_,by rw [List.length_modify];exact c⟩
  rw [mod_at,a,Option.map_some]
  by_cases e:s=nod A
  ·rw [if_pos e];exact ⟨_,rfl⟩
  ·rw [if_neg e];exact ⟨z,rfl⟩
 ·rw [List.getElem?_append_right (by omega),hn]
  have:setSize 1 (ndE x)=ndE x:=by unfold setSize ndE;split<;>rfl
  rw [this];simp
 ·rw [List.length_append];simp;omega
theorem row_put {A B:List Ev} {x x':Ev} (h:Bal (A++x::B)) (hx:x.kind=1) (hx':x'.kind=1):(rowE (A++x::B)).set (nod A) (ndE x')=rowE (A++x'::B):=by
 obtain ⟨d,h1,h2,h3⟩:=dep_split h
 have g:=good_row h1
 have hn:=rowS_nod A
 unfold rowE
 rw [rowS_split,rowS_split]
 obtain ⟨T,S,hTS⟩:∃ T S,rowS A=(T,S):=⟨_,_,rfl⟩
 rw [hTS] at g h2 hn ⊢
 simp only [] at g h2 hn
 rw [bld_tx hx,bld_tx hx']
 have:=bld_ind2 (I:=fun T1 S1 T2 S2=>T2=T1.set (nod A) (ndE x')∧S2=S1∧nod A ∉ S1∧nod A<T1.length) ?_ ?_ ?_ B d 0 (T++[ndE x]) S (T++[ndE x']) S h2 (dep_tx hx h3) ⟨?_,rfl,?_,?_⟩
 ·exact this.1.symm
 ·rintro T1 S1 _ _ y _ ⟨rfl,rfl,b,c⟩
  exact ⟨by rw [List.set_append_left _ _ c],rfl,b,by rw [List.length_append];omega⟩
 ·rintro T1 S1 _ _ y _ ⟨rfl,rfl,b,c⟩
  refine ⟨by rw [List.set_append_left _ _ c],by rw [List.length_set],fun hm=>?_,by rw [List.length_append];omega⟩
  rcases List.mem_append.1 hm with h4 | h4
  ·exact b h4
  ·simp at h4;omega
 ·rintro T1 S1 s _ _ ⟨rfl,rfl,b,c⟩
  refine ⟨S1,s,rfl,?_,rfl,fun hm=>b (List.mem_append_left _ hm),by rw [List.length_modify];exact c⟩
  rw [List.length_set]
  have hne:nod A≠s:=fun e=>b (by rw [e];simp)
  apply List.ext_getElem?
  intro j
  rw [mod_at,List.getElem?_set,List.getElem?_set,mod_at,List.length_modify]
  by_cases e1:nod A=j
  ·subst e1
   rw [if_pos rfl,if_pos rfl]
   rw [if_pos c,Option.map_some,if_neg (fun e=>hne e.symm)]
  ·rw [if_neg e1,if_neg e1]
 ·rw [List.set_append_right _ _ (by omega),hn];simp
 ·exact fun hm=>by have:=g.lt _ hm;omega
 ·rw [List.length_append];simp;omega
theorem row_cut {A B:List Ev} {x:Ev} (h:Bal (A++x::B)) (hx:x.kind=1):withoutV (rowE (A++x::B)) (nod A)=rowE (A++B):=by
 obtain ⟨d,h1,h2,h3⟩:=dep_split h
 have g:=good_row h1
 have hn:=rowS_nod A
 unfold rowE
 rw [rowS_split]
 have e2:rowS (A++B)=B.foldl bld (rowS A):=by unfold rowS;rw [List.foldl_append]
 rw [e2]
 obtain ⟨T,S,hTS⟩:∃ T S,rowS A=(T,S):=⟨_,_,rfl⟩
 rw [hTS] at g h2 hn ⊢
 simp only [] at g h2 hn
 rw [bld_tx hx]
 have:=bld_ind2 (I:=fun T1 S1 T2 S2=>T2=withoutV T1 (nod A)∧S2=S1.map (shN (nod A))∧nod A ∉ S1∧nod A<T1.length∧∀ s ∈ S1,s<T1.length) ?_ ?_ ?_ B d 0 (T++[ndE x]) S T S h2 (dep_tx hx h3) ⟨?_,?_,?_,?_,?_⟩
 ·exact this.1.symm
 ·rintro T1 S1 _ _ y _ ⟨rfl,rfl,b,c,e⟩
  exact ⟨(withoutV_snoc c _ (ndE_size y)).symm,rfl,b,by rw [List.length_append];omega,fun s hs=>by rw [List.length_append];have:=e s hs;omega⟩
 ·rintro T1 S1 _ _ y _ ⟨rfl,rfl,b,c,e⟩
  refine ⟨(withoutV_snoc c _ (ndE_size y)).symm,?_,fun hm=>?_,by rw [List.length_append];omega,fun s hs=>?_⟩
  ·rw [List.map_append]
   congr 1
   have:=withoutV_len c
   unfold shN
   simp only [List.map_cons,List.map_nil]
   rw [if_neg (by omega),← this];simp
  ·rcases List.mem_append.1 hm with h4 | h4
   ·exact b h4
   ·simp at h4;omega
  ·rw [List.length_append]
   rcases List.mem_append.1 hs with h4 | h4
   ·have:=e s h4;omega
   ·simp at h4;subst h4;simp
 ·rintro T1 S1 s _ _ ⟨rfl,rfl,b,c,e⟩
  have hne:nod A≠s:=fun e=>b (by rw [e];simp)
  refine ⟨S1.map (shN (nod A)),shN (nod A) s,by simp,?_,rfl,fun hm=>b (List.mem_append_left _ hm),by rw [List.length_modify];exact c,fun u hu=>by rw [List.length_modify];exact e u (List.mem_append_left _ hu)⟩
  exact (withoutV_close c (e s (by simp)) hne).symm
 ·apply List.ext_getElem?
  intro j
  rw [withoutV_at (by rw [List.length_append];simp;omega)]
  rcases Nat.lt_or_ge j T.length with hj | hj
  ·rw [if_pos (by omega),List.getElem?_append_left hj]
   obtain ⟨y,hy⟩:=nu_some (l:=T) hj
   rw [hy]
   simp only [Option.map_some,Option.some.injEq]
   rw [if_neg]
   by_cases hjs:j ∈ S
   ·rw [g.one j hjs y hy];omega
   ·have:=(g.fits j hjs y hy).2;omega
  ·rw [if_neg (by omega),List.getElem?_eq_none hj,List.getElem?_eq_none (by rw [List.length_append];simp;omega)]
 ·apply List.ext_getElem?
  intro j
  rw [List.getElem?_map]
  cases hs:S[j]? with
  | none=>rfl
  | some s =>
   have:=g.lt s (List.mem_of_getElem? hs)
   unfold shN
   simp only [Option.map_some,Option.some.injEq]
   rw [if_pos (by omega)]
 ·exact fun hm=>by have:=g.lt _ hm;omega
 ·rw [List.length_append];simp;omega
 ·exact fun s hs=>by rw [List.length_append];have:=g.lt s hs;omega
theorem Bal.cut {A B:List Ev} {x:Ev} (h:Bal (A++x::B)) (hx:x.kind=1):Bal (A++B):=by
 obtain ⟨d,h1,-,h3⟩:=dep_split h
 unfold Bal
 rw [dep_app,h1]
 exact dep_tx hx h3
theorem Bal.put {A B:List Ev} {x x':Ev} (h:Bal (A++x::B)) (hx:x.kind=1) (hx':x'.kind=1):Bal (A++x'::B):=by
 obtain ⟨d,h1,-,h3⟩:=dep_split h
 unfold Bal
 rw [dep_app,h1]
 show dep d (x'::B)=some 0
 rw [dep_k1 hx'];exact dep_tx hx h3
theorem row_open {A B:List Ev} {x:Ev} (h:Bal (A++x::B)) (hx:x.kind=1∨x.kind=2) {j:Nat} (hj:j<nod A) {y:Nd} (hy:(rowE (A++x::B))[j]?=some y):((nod A:Int)<(j:Int)+y.size↔j ∈ (rowS A).2):=by
 obtain ⟨d,h1,h2,h3⟩:=dep_split h
 have g:=good_row h1
 have hn:=rowS_nod A
 unfold rowE at hy
 have hS0:(rowS (A++x::B)).2=[]:=Bal.none h
 rw [rowS_split] at hy hS0
 obtain ⟨T,S,hTS⟩:∃ T S,rowS A=(T,S):=⟨_,_,rfl⟩
 rw [hTS] at g h2 hn hy hS0 ⊢
 simp only [] at g h2 hn ⊢
 let I:List Nd→List Nat→Prop:=fun T' S'=>nod A<T'.length∧∀ j<nod A,(j ∈ S'→j ∈ S)∧∀ y,T'[j]?=some y→(j ∈ S→j ∉ S'→(nod A:Int)<(j:Int)+y.size)∧(j ∉ S→(j:Int)+y.size≤(nod A:Int))
 have htx:∀ T' S' x,x.kind=1→I T' S'→I (T'++[ndE x]) S':=fun T' S' x _ ⟨a,b⟩=>⟨by rw [List.length_append];omega,fun j hj=>⟨(b j hj).1,fun y hy=>by
  rw [List.getElem?_append_left (by omega)] at hy
  exact (b j hj).2 y hy⟩⟩
 have hop:∀ T' S' x,x.kind=2→I T' S'→I (T'++[ndE x]) (S'++[T'.length]):=fun T' S' x _ ⟨a,b⟩=>⟨by rw [List.length_append];omega,fun j hj=>⟨fun hm=>by
   rcases List.mem_append.1 hm with h4 | h4
   ·exact (b j hj).1 h4
   ·simp at h4;omega,fun y hy=>by
  rw [List.getElem?_append_left (by omega)] at hy
  obtain ⟨c1,c2⟩:=(b j hj).2 y hy
  exact ⟨fun h5 h6=>c1 h5 (fun h7=>h6 (List.mem_append_left _ h7)),c2⟩⟩⟩
 have hcl:∀ T' S' s,I T' (S'++[s])→I (T'.modify s (setSize ((T'.length:Int) - (s:Int)))) S':=fun T' S' s ⟨a,b⟩=>⟨by rw [List.length_modify];exact a,fun j hj=>⟨fun hm=>(b j hj).1 (List.mem_append_left _ hm),fun y hy=>by
  rw [mod_at] at hy
  obtain ⟨z,hz,he⟩:=Option.map_eq_some_iff.1 hy
  obtain ⟨c1,c2⟩:=(b j hj).2 z hz
  by_cases e:s=j
  ·rw [if_pos e] at he
   subst he
   subst e
   refine ⟨fun _ _=>by unfold setSize;simp only [];omega,fun h5=>absurd ((b s hj).1 (by simp)) h5⟩
  ·rw [if_neg e] at he
   subst he
   exact ⟨fun h5 h6=>c1 h5 (fun h7=>by
    rcases List.mem_append.1 h7 with h8 | h8
    ·exact h6 h8
    ·simp at h8;exact e h8.symm),c2⟩⟩⟩
 have base:∀ j<nod A,∀ y,T[j]?=some y→(j ∉ S→(j:Int)+y.size≤(nod A:Int)):=fun j hj y hy hs=>by
  have:=(g.fits j hs y hy).2;omega
 have fin:I (B.foldl bld (bld (T,S) x)).1 (B.foldl bld (bld (T,S) x)).2:=by
  rcases hx with hx | hx
  ·rw [bld_tx hx]
   refine bld_ind (I:=I) htx hop hcl B d 0 (T++[ndE x]) S h2 (dep_tx hx h3) ⟨by rw [List.length_append];simp;omega,fun j hj=>⟨id,fun y hy=>?_⟩⟩
   rw [List.getElem?_append_left (by omega)] at hy
   exact ⟨fun a b=>absurd a b,base j hj y hy⟩
  ·rw [bld_op hx]
   refine bld_ind (I:=I) htx hop hcl B (d+1) 0 (T++[ndE x]) (S++[T.length]) (by rw [List.length_append,h2];rfl) (dep_op hx h3) ⟨by rw [List.length_append];simp;omega,fun j hj=>⟨fun hm=>?_,fun y hy=>?_⟩⟩
   ·rcases List.mem_append.1 hm with h4 | h4
    ·exact h4
    ·simp at h4;omega
   ·rw [List.getElem?_append_left (by omega)] at hy
    exact ⟨fun a b=>absurd (List.mem_append_left _ a) b,base j hj y hy⟩
 obtain ⟨-,fin⟩:=fin
 obtain ⟨-,c⟩:=fin j hj
 obtain ⟨c1,c2⟩:=c y hy
 rw [hS0] at c1
 constructor
 ·intro hlt
  rcases Classical.em (j ∈ S) with h4 | h4
  ·exact h4
  ·have:=c2 h4;omega
 ·intro hm
  exact c1 hm (by simp)
theorem parF_hit {t:List Nd} {a m:Nat} {x:Nd} (hx:t[m]?=some x) (hin:(a:Int)<(m:Int)+x.size):∀ n,m<n→(∀ j,m<j→j<n→∀ y,t[j]?=some y→¬ (a:Int)<(j:Int)+y.size)→parF t a n=(m:Int):=by
 intro n
 induction n with
 | zero=>intro h;omega
 | succ n ih =>
  intro hm hno
  unfold parF
  rcases Nat.eq_or_lt_of_le (show m≤n by omega) with e | e
  ·subst e
   rw [hx]
   simp only []
   rw [if_pos hin]
  ·have:=ih e (fun j h1 h2=>hno j h1 (by omega))
   cases hy:t[n]? with
   | none=>exact this
   | some y =>
    simp only []
    rw [if_neg (hno n e (by omega) y hy)];exact this
theorem parF_none {t:List Nd} {a:Nat}:∀ n:Nat,(∀ j,j<n→∀ y,t[j]?=some y→¬ (a:Int)<(j:Int)+y.size)→parF t a n = -1:=by
 intro n
 induction n with
 | zero=>intro _;rfl
 | succ n ih =>
  intro hno
  unfold parF
  have:=ih (fun j h=>hno j (by omega))
  cases hy:t[n]? with
  | none=>exact this
  | some y =>
   simp only []
   rw [if_neg (hno n (by omega) y hy)];exact this
def topE (S:List Nat):Int:=match S.getLast? with | some s=>(s:Int) | none=>-1
theorem row_par {A B:List Ev} {x:Ev} (h:Bal (A++x::B)) (hx:x.kind=1∨x.kind=2):parV (rowE (A++x::B)) (nod A)=topE (rowS A).2:=by
 obtain ⟨d,h1,-,-⟩:=dep_split h
 have g:=good_row h1
 have hn:=rowS_nod A
 have hl:nod A<(rowE (A++x::B)).length:=by
  rw [rowE_len,nod_app,show nod (x::B)=nod [x]+nod B from nod_app [x] B,show nod [x]=1 by unfold nod;rcases hx with hx | hx<;>simp [hx]]
  omega
 have key:=fun j (hj:j<nod A) y hy=>row_open h hx (j:=j) hj (y:=y) hy
 unfold parV topE
 rcases List.eq_nil_or_concat (rowS A).2 with hS | ⟨S',s,hS⟩
 ·rw [hS]
  refine parF_none _ (fun j hj y hy hlt=>?_)
  have:=(key j hj y hy).1 hlt
  rw [hS] at this;cases this
 ·rw [List.concat_eq_append] at hS
  rw [hS,List.getLast?_concat]
  have hs:s ∈ (rowS A).2:=by rw [hS];simp
  have hsl:=g.lt s hs
  obtain ⟨y,hy⟩:=nu_some (l:=rowE (A++x::B)) (i:=s) (by omega)
  refine parF_hit hy ((key s (by omega) y hy).2 hs) _ (by omega) (fun j h5 h6 z hz hlt=>?_)
  have hm:=(key j h6 z hz).1 hlt
  have hr:=g.rise
  rw [hS] at hm hr
  rcases List.mem_append.1 hm with h7 | h7
  ·have:=(snd_ne hr).2 j h7;omega
  ·simp at h7;omega
end Go.Proofs.YtmldpkigfhoalaaGreatDoor.Nu
namespace Go.Proofs.YtmldpkigfhoalaaGreatDoor.Nu
open Go.RowKit Tr
def evE (K:Nat→ByteArray × Int) (O:Nat→Int):Nat→List Lx.Lx→List Ev
 | _,[]=>[]
 | p,x::l=>if x.kind=1 then txE (K p).1 (K p).2::evE K O (p+1) l else if x.kind=2 then opE x.name (O p)::evE K O (p+1) l else clE::evE K O p l
def nodL (L:List Lx.Lx):Nat:=(L.filter fun x=>x.kind==1 || x.kind==2).length
theorem nodL_app (L M:List Lx.Lx):nodL (L++M)=nodL L+nodL M:=by unfold nodL;rw [List.filter_append,List.length_append]
theorem evE_k1 {K:Nat→ByteArray × Int} {O:Nat→Int} {p:Nat} {x:Lx.Lx} {l:List Lx.Lx} (h:x.kind=1):evE K O p (x::l)=txE (K p).1 (K p).2::evE K O (p+1) l:=by rw [evE,if_pos h]
theorem evE_k2 {K:Nat→ByteArray × Int} {O:Nat→Int} {p:Nat} {x:Lx.Lx} {l:List Lx.Lx} (h:x.kind=2):evE K O p (x::l)=opE x.name (O p)::evE K O (p+1) l:=by rw [evE,if_neg (by omega),if_pos h]
theorem evE_k3 {K:Nat→ByteArray × Int} {O:Nat→Int} {p:Nat} {x:Lx.Lx} {l:List Lx.Lx} (h1:x.kind≠1) (h2:x.kind≠2):evE K O p (x::l)=clE::evE K O p l:=by rw [evE,if_neg h1,if_neg h2]
theorem evE_app (K:Nat→ByteArray × Int) (O:Nat→Int):∀ (L M:List Lx.Lx) (p:Nat),evE K O p (L++M)=evE K O p L++evE K O (p+nodL L) M:=by
 intro L
 induction L with
 | nil=>intro M p;rfl
 | cons x L ih =>
  intro M p
  rw [List.cons_append,show nodL (x::L)=nodL [x]+nodL L from nodL_app [x] L]
  by_cases h1:x.kind=1
  ·rw [evE_k1 h1,evE_k1 h1,ih,show nodL [x]=1 by unfold nodL;simp [h1],Nat.add_assoc];rfl
  ·by_cases h2:x.kind=2
   ·rw [evE_k2 h2,evE_k2 h2,ih,show nodL [x]=1 by unfold nodL;simp [h2],Nat.add_assoc];rfl
   ·rw [evE_k3 h1 h2,evE_k3 h1 h2,ih,show nodL [x]=0 by unfold nodL;simp [h1,h2],Nat.zero_add];rfl
theorem wf_nod {F:List Nd} {L:List Lx.Lx} (h:Wf F L):nodL L=F.length:=by
 induction h with
 | nil=>rfl
 | text s pl _ ih=>rw [nodL_app,ih,List.length_append];rfl
 | @node F G L M k pl _ _ hk ih1 ih2 =>
  rw [nodL_app,show nodL (opL k::(M++[clL]))=1+(nodL M+0) by rw [show opL k::(M++[clL])=[opL k]++(M++[clL]) from rfl,nodL_app,nodL_app];rfl,ih1,ih2,List.length_append,List.length_cons]
  omega
theorem evE_node (K:Nat→ByteArray × Int) (O:Nat→Int) (p k:Nat) (M:List Lx.Lx):evE K O p (opL k::(M++[clL]))=opE k (O p)::(evE K O (p+1) M++[clE]):=by
 rw [evE_k2 rfl,evE_app];rfl
theorem wf_bal {F:List Nd} {L:List Lx.Lx} (h:Wf F L) (K:Nat→ByteArray × Int) (O:Nat→Int):∀ p,Bal (evE K O p L):=by
 induction h with
 | nil=>intro p;rfl
 | text s pl _ ih=>intro p;rw [evE_app];exact (ih p).app (Bal.text _ _)
 | node k pl _ _ hk ih1 ih2=>intro p;rw [evE_app,evE_node];exact (ih1 p).app ((ih2 _).node _ _)
def toNd (K:Nat→ByteArray × Int) (O:Nat→Int) (j:Nat) (x:Nd):Nd:=if x.kind=46 then ⟨46,(K j).1,(K j).2,1⟩ else ⟨x.kind,emptyS,O j,x.size⟩
theorem wf_row {F:List Nd} {L:List Lx.Lx} (h:Wf F L) (K:Nat→ByteArray × Int) (O:Nat→Int):∀ p,rowE (evE K O p L)=F.mapIdx fun j x=>toNd K O (p+j) x:=by
 induction h with
 | nil=>intro p;rfl
 | @text F L s pl hF ih =>
  intro p
  rw [evE_app,show evE K O (p+nodL L) [txL s]=[txE (K (p+nodL L)).1 (K (p+nodL L)).2] from evE_k1 rfl,rowE_app (wf_bal hF K O p) (Bal.text _ _),ih p,List.mapIdx_append,wf_nod hF,rowE_tx]
  simp [toNd]
 | @node F G L M k pl hF hG hk ih1 ih2 =>
  intro p
  rw [evE_app,evE_node,rowE_app (wf_bal hF K O p) ((wf_bal hG K O _).node _ _),ih1 p,rowE_node (wf_bal hG K O _),ih2,List.mapIdx_append,List.mapIdx_cons,wf_nod hF]
  congr 1
  congr 1
  ·unfold toNd
   rw [if_neg hk]
   simp
  ·congr 1
   funext j x
   congr 1
   omega
theorem wf_plain {F:List Nd} {L:List Lx.Lx} (h:Wf F L):∀ x ∈ F,(x.kind=46→x.size=1)∧(x.kind≠46→x.text=emptyS):=by
 induction h with
 | nil=>intro x hx;cases hx
 | text s pl _ ih =>
  intro x hx
  rcases List.mem_append.1 hx with h | h
  ·exact ih x h
  ·simp at h;subst h;exact ⟨fun _=>rfl,fun h=>absurd rfl h⟩
 | node k pl _ _ hk ih1 ih2 =>
  intro x hx
  rcases List.mem_append.1 hx with h | h
  ·exact ih1 x h
  ·rcases List.mem_cons.1 h with rfl | h
   ·exact ⟨fun e=>absurd e hk,fun _=>rfl⟩
   ·exact ih2 x h
theorem evE_ops {F:List Nd} {L:List Lx.Lx} (h:Wf F L) (K:Nat→ByteArray × Int) (O:Nat→Int):∀ p,∀ x ∈ evE K O p L,(x.kind=2→x.name≠46):=by
 induction h with
 | nil=>intro p x hx;cases hx
 | text s pl _ ih =>
  intro p x hx
  rw [evE_app] at hx
  rcases List.mem_append.1 hx with h | h
  ·exact ih p x h
  ·rw [show evE K O (p+_) [txL s]=[txE _ _] from rfl,List.mem_singleton] at h
   subst h;exact fun e=>by cases e
 | node k pl _ _ hk ih1 ih2 =>
  intro p x hx
  rw [evE_app,evE_node] at hx
  rcases List.mem_append.1 hx with h | h
  ·exact ih1 p x h
  ·rcases List.mem_cons.1 h with rfl | h
   ·exact fun _=>hk
   ·rcases List.mem_append.1 h with h | h
    ·exact ih2 _ x h
    ·rw [List.mem_singleton] at h;subst h;exact fun e=>by cases e
def asNew (t:List Nd) (i:Nat):ByteArray × Int:=(newText t i,newPlace t i)
theorem wf_asNew {t:List Nd} {L:List Lx.Lx} (h:Wf t L):rowE (evE (asNew t) (placeAt t) 0 L)=textsV t:=by
 rw [wf_row h]
 apply List.ext_getElem?
 intro j
 rw [List.getElem?_mapIdx]
 cases hx:t[j]? with
 | none =>
  rw [List.getElem?_eq_none (by rw [textsV_len];exact List.getElem?_eq_none_iff.1 hx)];rfl
 | some x =>
  obtain ⟨h1,h2⟩:=wf_plain h x (List.mem_of_getElem? hx)
  rw [textsV_at hx,Option.map_some,Nat.zero_add]
  unfold toNd asNew placeAt newNd
  rw [hx]
  simp only []
  obtain ⟨k,tx,pl,sz⟩:=x
  simp only [] at h1 h2
  by_cases hk:k=46
  ·rw [if_pos hk,if_pos hk,← hk,← h1 hk]
  ·rw [if_neg hk,if_neg hk,← h2 hk]
def stepJ (acc:List Ev) (x:Ev):List Ev :=
 if x.kind=1 then (if x.text.size=0 then acc else match acc.getLast? with | some y=>if y.kind=1 then acc.dropLast++[{ y with text:=y.text++x.text }] else acc++[x] | none=>acc++[x]) else acc++[x]
def joinE (L:List Ev):List Ev:=L.foldl stepJ []
def endsE (acc:List Ev):Prop:=∀ y,acc.getLast?=some y→y.kind≠1
theorem stepJ_node {acc:List Ev} {x:Ev} (h:x.kind≠1):stepJ acc x=acc++[x]:=by unfold stepJ;rw [if_neg h]
theorem stepJ_gone {acc:List Ev} {x:Ev} (h:x.kind=1) (h0:x.text.size=0):stepJ acc x=acc:=by unfold stepJ;rw [if_pos h,if_pos h0]
theorem stepJ_more {acc:List Ev} {x y:Ev} (h:x.kind=1) (h0:x.text.size≠0) (hy:y.kind=1):stepJ (acc++[y]) x=acc++[{ y with text:=y.text++x.text }]:=by
 unfold stepJ
 rw [if_pos h,if_neg h0,List.getLast?_concat]
 simp only []
 rw [if_pos hy,List.dropLast_concat]
theorem stepJ_first {acc:List Ev} {x:Ev} (h:x.kind=1) (h0:x.text.size≠0) (ha:endsE acc):stepJ acc x=acc++[x]:=by
 unfold stepJ
 rw [if_pos h,if_neg h0]
 cases hl:acc.getLast? with
 | none=>rfl
 | some y=>simp only [];rw [if_neg (ha y hl)]
theorem endsE_nil:endsE []:=fun y h=>by cases h
theorem endsE_snoc {acc:List Ev} {x:Ev} (h:x.kind≠1):endsE (acc++[x]):=fun y hy=>by
 rw [List.getLast?_concat] at hy;cases hy;exact h
theorem stepJ_app {acc:List Ev} (ha:endsE acc) (B:List Ev) (x:Ev):stepJ (acc++B) x=acc++stepJ B x:=by
 by_cases h:x.kind=1
 ·by_cases h0:x.text.size=0
  ·rw [stepJ_gone h h0,stepJ_gone h h0]
  ·rcases List.eq_nil_or_concat B with rfl | ⟨B',y,rfl⟩
   ·rw [List.append_nil,stepJ_first h h0 ha,stepJ_first h h0 endsE_nil];rfl
   ·rw [List.concat_eq_append]
    by_cases hy:y.kind=1
    ·rw [← List.append_assoc,stepJ_more h h0 hy,stepJ_more h h0 hy,List.append_assoc]
    ·rw [← List.append_assoc,stepJ_first h h0 (endsE_snoc hy),stepJ_first h h0 (endsE_snoc hy)];simp
 ·rw [stepJ_node h,stepJ_node h,List.append_assoc]
theorem foldJ_app {acc:List Ev} (ha:endsE acc):∀ (M B:List Ev),M.foldl stepJ (acc++B)=acc++M.foldl stepJ B:=by
 intro M
 induction M with
 | nil=>intro B;rfl
 | cons x M ih=>intro B;rw [List.foldl_cons,List.foldl_cons,stepJ_app ha,ih]
theorem joinE_app {A:List Ev} (ha:endsE (joinE A)) (M:List Ev):joinE (A++M)=joinE A++joinE M:=by
 unfold joinE
 rw [List.foldl_append]
 have:=foldJ_app ha M []
 rw [List.append_nil] at this
 exact this
theorem joinE_snoc (A:List Ev) (x:Ev):joinE (A++[x])=stepJ (joinE A) x:=by unfold joinE;rw [List.foldl_append];rfl
theorem opE_ne (k:Nat) (pl:Int):(opE k pl).kind≠1:=fun h=>by cases h
theorem joinE_node (A M:List Ev) (k:Nat) (pl:Int):joinE (A++opE k pl::(M++[clE]))=joinE A++opE k pl::(joinE M++[clE]):=by
 rw [show A++opE k pl::(M++[clE])=((A++[opE k pl])++M)++[clE] by simp,joinE_snoc,stepJ_node (show clE.kind≠1 by decide)]
 have e:joinE (A++[opE k pl])=joinE A++[opE k pl]:=by rw [joinE_snoc,stepJ_node (opE_ne k pl)]
 rw [joinE_app (by rw [e];exact endsE_snoc (opE_ne k pl)),e]
 simp
theorem dep_stepJ (n:Nat) (acc M:List Ev) (x:Ev):dep n (stepJ acc x++M)=dep n (acc++x::M):=by
 by_cases h:x.kind=1
 ·have hx:∀ m,dep m (x::M)=dep m M:=fun m=>dep_k1 h
  by_cases h0:x.text.size=0
  ·rw [stepJ_gone h h0,dep_app,dep_app]
   congr 1
   funext m;exact (hx m).symm
  ·rcases List.eq_nil_or_concat acc with rfl | ⟨B',y,rfl⟩
   ·rw [stepJ_first h h0 endsE_nil];rfl
   ·rw [List.concat_eq_append]
    by_cases hy:y.kind=1
    ·rw [stepJ_more h h0 hy,List.append_assoc,List.append_assoc,dep_app,dep_app]
     congr 1
     funext m
     show dep m ({ y with text:=y.text++x.text }::M)=dep m (y::(x::M))
     rw [dep_k1 (x:={ y with text:=y.text++x.text }) hy,dep_k1 hy,hx]
    ·rw [stepJ_first h h0 (endsE_snoc hy)];simp
 ·rw [stepJ_node h];simp
theorem dep_join (n:Nat):∀ (L acc:List Ev),dep n (L.foldl stepJ acc)=dep n (acc++L):=by
 intro L
 induction L with
 | nil=>intro acc;rw [List.append_nil];rfl
 | cons x L ih=>intro acc;rw [List.foldl_cons,ih,dep_stepJ]
theorem Bal.join {L:List Ev} (h:Bal L):Bal (joinE L):=by unfold Bal joinE;rw [dep_join];exact h
def normV (t:List Nd):List Nd:=match evA t 0 t.length with | some L=>rowE (joinE (evE (asNew t) (placeAt t) 0 L)) | none=>[]
theorem normV_is {t:List Nd} {L:List Lx.Lx} (h:Wf t L):normV t=rowE (joinE (evE (asNew t) (placeAt t) 0 L)):=by unfold normV;rw [wf_ev0 h]
def neB (x:Ev):Bool:=!(x.kind==1 && x.text.size==0)
def neE (L:List Ev):List Ev:=L.filter neB
theorem join_ne:∀ (L acc:List Ev),(neE L).foldl stepJ acc=L.foldl stepJ acc:=by
 intro L
 induction L with
 | nil=>intro acc;rfl
 | cons x L ih =>
  intro acc
  unfold neE
  by_cases h:neB x=true
  ·rw [List.filter_cons_of_pos h,List.foldl_cons,List.foldl_cons];exact ih _
  ·rw [List.filter_cons_of_neg h,List.foldl_cons]
   have h2:neB x=false:=by simpa using h
   unfold neB at h2
   simp at h2
   rw [stepJ_gone h2.1 (by rw [h2.2];rfl)]
   exact ih acc
end Go.Proofs.YtmldpkigfhoalaaGreatDoor.Nu
namespace Go.Proofs.YtmldpkigfhoalaaGreatDoor.Nu
open Go.RowKit Tr
def Ops (L:List Ev):Prop:=∀ x ∈ L,x.kind=2→x.name≠46
def isN (x:Ev):Bool:=x.kind==1 || x.kind==2
theorem nod_eq (L:List Ev):nod L=(L.filter isN).length:=rfl
theorem next_node:∀ {B:List Ev},0<nod B→∃ C x B',B=C++x::B'∧(∀ y ∈ C,y.kind≠1∧y.kind≠2)∧(x.kind=1∨x.kind=2):=by
 intro B
 induction B with
 | nil=>intro h;cases h
 | cons y B ih =>
  intro h
  by_cases hy:isN y=true
  ·refine ⟨[],y,B,rfl,by simp,?_⟩
   unfold isN at hy
   simpa using hy
  ·have hz:nod [y]=0:=by rw [nod_eq];simp [hy]
   rw [show y::B=[y]++B from rfl,nod_app,hz] at h
   obtain ⟨C,x,B',rfl,h1,h2⟩:=ih (by omega)
   refine ⟨y::C,x,B',rfl,fun z hz=>?_,h2⟩
   rcases List.mem_cons.1 hz with rfl | hz
   ·unfold isN at hy;simp at hy;exact hy
   ·exact h1 z hz
theorem no_node {B:List Ev} (h:nod B=0):∀ y ∈ B,y.kind≠1∧y.kind≠2:=fun y hy=>by
 rw [nod_eq,List.length_eq_zero_iff,List.filter_eq_nil_iff] at h
 have:=h y hy
 unfold isN at this
 simp at this
 exact this
theorem nod_closes {C:List Ev} (h:∀ y ∈ C,y.kind≠1∧y.kind≠2):nod C=0:=by
 rw [nod_eq,List.length_eq_zero_iff,List.filter_eq_nil_iff]
 intro y hy
 unfold isN
 simp
 exact h y hy
theorem nod_one {x:Ev} (h:x.kind=1∨x.kind=2):nod [x]=1:=by unfold nod;rcases h with h | h<;>simp [h]
theorem nod_cons (x:Ev) (B:List Ev):nod (x::B)=nod [x]+nod B:=nod_app [x] B
theorem neE_app (A B:List Ev):neE (A++B)=neE A++neE B:=List.filter_append ..
theorem neE_closes {C:List Ev} (h:∀ y ∈ C,y.kind≠1∧y.kind≠2):neE C=C:=by
 refine List.filter_eq_self.2 (fun y hy=>?_)
 have:=(h y hy).1
 unfold neB
 simp [this]
theorem dep_ne:∀ (L:List Ev) (n:Nat),dep n (neE L)=dep n L:=by
 intro L
 induction L with
 | nil=>intro n;rfl
 | cons x L ih =>
  intro n
  unfold neE
  by_cases h:neB x=true
  ·rw [List.filter_cons_of_pos h]
   by_cases h1:x.kind=1
   ·rw [dep_k1 h1,dep_k1 h1];exact ih n
   ·by_cases h2:x.kind=2
    ·rw [dep_k2 h2,dep_k2 h2];exact ih (n+1)
    ·cases n with
     | zero=>rw [dep_k0 h1 h2,dep_k0 h1 h2]
     | succ m=>rw [dep_k3 h1 h2,dep_k3 h1 h2];exact ih m
  ·rw [List.filter_cons_of_neg h]
   have h2:neB x=false:=by simpa using h
   unfold neB at h2
   simp at h2
   rw [dep_k1 h2.1]
   exact ih n
theorem Bal.ne_app {A B:List Ev} (h:Bal (A++B)):Bal (neE A++B):=by
 unfold Bal at *
 rw [dep_app] at h ⊢
 rw [dep_ne];exact h
def Lp1 (L:List Ev) (out:List Nd) (i:Nat):Prop:=∃ A B,L=A++B∧out=rowE (neE A++B)∧i=nod (neE A)
theorem lp1_start (L:List Ev):Lp1 L (rowE L) 0:=⟨[],L,rfl,rfl,rfl⟩
theorem setSize_kind (z:Int) (x:Ev):(setSize z (ndE x)).kind=(ndE x).kind∧(setSize z (ndE x)).text=(ndE x).text:=⟨rfl,rfl⟩
theorem lp1_step {L:List Ev} {out:List Nd} {i:Nat} (hb:Bal L) (ho:Ops L) (h:Lp1 L out i) (hi:i<out.length) {y:Nd} (hy:out[i]?=some y) :
  if y.kind=46∧y.text.size=0 then Lp1 L (withoutV out i) i else Lp1 L out (i+1):=by
 obtain ⟨A,B,rfl,rfl,rfl⟩:=h
 rw [rowE_len,nod_app] at hi
 obtain ⟨C,x,B',rfl,hC,hx⟩:=next_node (B:=B) (by omega)
 have hb2:Bal ((neE A++C)++x::B'):=by rw [List.append_assoc];exact hb.ne_app
 have hn:nod (neE A++C)=nod (neE A):=by rw [nod_app,nod_closes hC];omega
 obtain ⟨z,hz⟩:=row_node hb2 hx
 rw [hn,List.append_assoc,hy] at hz
 cases hz
 obtain ⟨e1,e2⟩:=setSize_kind z x
 rw [e1,e2]
 have e3:neE (A++C)=neE A++C:=by rw [neE_app,neE_closes hC]
 have stay:neB x=true→Lp1 (A++(C++x::B')) (rowE (neE A++(C++x::B'))) (nod (neE A)+1):=fun hb=>by
  refine ⟨A++C++[x],B',by simp,?_,?_⟩
  ·rw [neE_app,e3,show neE [x]=[x] by unfold neE;rw [List.filter_cons_of_pos hb];rfl]
   congr 1;simp
  ·rw [neE_app,e3,show neE [x]=[x] by unfold neE;rw [List.filter_cons_of_pos hb];rfl,nod_app,hn,nod_one hx]
 rcases hx with h1 | h1
 ·have hk:ndE x=⟨46,x.text,x.place,1⟩:=by unfold ndE;rw [if_pos h1]
  rw [hk]
  simp only []
  by_cases h0:x.text.size=0
  ·rw [if_pos ⟨trivial,h0⟩]
   have hc:=row_cut hb2 h1
   rw [hn,List.append_assoc] at hc
   refine ⟨A++C++[x],B',by simp,?_,?_⟩
   ·rw [hc,neE_app,e3,show neE [x]=[] by unfold neE neB;simp [h1,h0]]
    simp
   ·rw [neE_app,e3,show neE [x]=[] by unfold neE neB;simp [h1,h0],List.append_nil,hn]
  ·rw [if_neg (fun h=>h0 h.2)]
   exact stay (by unfold neB;simp [h0])
 ·have hk:ndE x=⟨x.name,emptyS,x.place,1⟩:=by unfold ndE;rw [if_neg (by omega)]
  rw [hk]
  simp only []
  rw [if_neg (fun h=>ho x (by simp) h1 h.1)]
  exact stay (by unfold neB;simp [h1])
theorem lp1_end {L:List Ev} {out:List Nd} {i:Nat} (h:Lp1 L out i) (hi:out.length≤i):out=rowE (neE L):=by
 obtain ⟨A,B,rfl,rfl,rfl⟩:=h
 rw [rowE_len,nod_app] at hi
 have hB:=no_node (B:=B) (by omega)
 rw [neE_app,neE_closes hB]
def Lp2 (L:List Ev) (out:List Nd) (i:Nat):Prop:=∃ A x B,L=A++x::B∧(x.kind=1∨x.kind=2)∧out=rowE (joinE (A++[x])++B)∧i=nod (joinE (A++[x]))
theorem lp2_start {L:List Ev} (hb:Bal L) (hne:L=[]∨neE L=L):L=[]∨Lp2 L (rowE L) 1:=by
 cases L with
 | nil=>exact .inl rfl
 | cons x B =>
  have hne:=hne.resolve_left (by simp)
  have hx:x.kind=1∨x.kind=2:=by
   rcases Classical.em (x.kind=1) with h | h
   ·exact .inl h
   ·rcases Classical.em (x.kind=2) with h2 | h2
    ·exact .inr h2
    ·unfold Bal at hb;rw [dep_k0 h h2] at hb;cases hb
  have hj:joinE ([]++[x])=[x]:=by
   rw [joinE_snoc]
   show stepJ [] x=[x]
   rcases hx with h1 | h1
   ·rw [stepJ_first h1 ?_ endsE_nil]
    ·rfl
    ·intro h0
     have hm:x ∈ neE (x::B):=by rw [hne];simp
     have:=(List.mem_filter.1 hm).2
     unfold neB at this
     simp [h1,h0] at this
   ·rw [stepJ_node (by omega)];rfl
  exact .inr ⟨[],x,B,rfl,hx,by rw [hj];rfl,by rw [hj,nod_one hx]⟩
theorem foldJ_closes:∀ {C:List Ev},(∀ y ∈ C,y.kind≠1∧y.kind≠2)→∀ acc,C.foldl stepJ acc=acc++C:=by
 intro C
 induction C with
 | nil=>intro _ acc;simp
 | cons y C ih=>intro h acc;rw [List.foldl_cons,stepJ_node (h y (by simp)).1,ih (fun z hz=>h z (by simp [hz]))];simp
theorem joinE_closes {A C:List Ev} (h:∀ y ∈ C,y.kind≠1∧y.kind≠2):joinE (A++C)=joinE A++C:=by
 unfold joinE;rw [List.foldl_append,foldJ_closes h]
theorem join_last {A:List Ev} {x:Ev} (h1:x.kind=1) (h0:x.text.size≠0):∃ P tx,joinE (A++[x])=P++[tx]∧tx.kind=1:=by
 rw [joinE_snoc]
 rcases List.eq_nil_or_concat (joinE A) with h | ⟨P,y,h⟩
 ·rw [h,stepJ_first h1 h0 endsE_nil];exact ⟨[],x,rfl,h1⟩
 ·rw [List.concat_eq_append] at h
  rw [h]
  by_cases hy:y.kind=1
  ·rw [stepJ_more h1 h0 hy];exact ⟨P,_,rfl,hy⟩
  ·rw [stepJ_first h1 h0 (endsE_snoc hy)];exact ⟨P++[y],x,rfl,h1⟩
theorem nod_join_pos {A:List Ev} {x:Ev} (hx:x.kind=1∨x.kind=2) (h0:x.kind=1→x.text.size≠0):∃ P y,joinE (A++[x])=P++[y]∧(y.kind=1↔x.kind=1)∧(y.kind=1∨y.kind=2)∧(x.kind=2→y=x):=by
 rcases hx with h | h
 ·obtain ⟨P,y,h1,h2⟩:=join_last (A:=A) h (h0 h)
  exact ⟨P,y,h1,⟨fun _=>h,fun _=>h2⟩,.inl h2,fun e=>by omega⟩
 ·exact ⟨joinE A,x,by rw [joinE_snoc,stepJ_node (by omega)],Iff.rfl,.inr h,fun _=>rfl⟩
theorem Bal.join_app {A B:List Ev} (h:Bal (A++B)):Bal (joinE A++B):=by
 unfold Bal at *
 rw [dep_app] at h ⊢
 unfold joinE
 rw [dep_join];exact h
theorem rowS_closes {A:List Ev} {x:Ev} {C:List Ev} (hx:x.kind=1) (hc:∀ y ∈ C,y.kind≠1∧y.kind≠2):(rowS ((A++[x])++C)).2=(rowS A).2.take ((rowS A).2.length - C.length):=by
 unfold rowS
 rw [List.foldl_append,List.foldl_append]
 obtain ⟨T,S,h⟩:∃ T S,A.foldl bld ([],[])=(T,S):=⟨_,_,rfl⟩
 rw [h,show ([x].foldl bld (T,S))=(T++[ndE x],S) from bld_tx hx]
 show _=S.take (S.length - C.length)
 have:∀ (C:List Ev),(∀ y ∈ C,y.kind≠1∧y.kind≠2)→∀ (T:List Nd) (S:List Nat),(C.foldl bld (T,S)).2=S.take (S.length - C.length):=by
  intro C
  induction C with
  | nil=>intro _ T S;simp
  | cons y C ih =>
   intro hc T S
   have hy:=hc y (by simp)
   rw [List.foldl_cons]
   have e:(bld (T,S) y)=((bld (T,S) y).1,S.dropLast):=Prod.ext rfl (by unfold bld;rw [if_neg hy.1,if_neg hy.2])
   rw [e,ih (fun z hz=>hc z (by simp [hz])),List.dropLast_eq_take,List.take_take,List.length_take,List.length_cons]
   congr 1
   omega
 exact this C hc _ _
theorem par_same {A B:List Ev} {x y:Ev} {C:List Ev} (h:Bal (A++x::(C++y::B))) (hx:x.kind=1) (hy:y.kind=1) (hc:∀ z ∈ C,z.kind≠1∧z.kind≠2) :
  (parV (rowE (A++x::(C++y::B))) (nod A+1)=parV (rowE (A++x::(C++y::B))) (nod A))↔C=[]:=by
 have e1:=row_par h (.inl hx)
 have e0:A++x::(C++y::B)=((A++[x])++C)++y::B:=by simp
 have h2:=h
 rw [e0] at h2
 have e2:=row_par h2 (.inl hy)
 rw [← e0,nod_app,nod_app,nod_one (.inl hx),nod_closes hc,Nat.add_zero,rowS_closes hx hc] at e2
 rw [e1,e2]
 obtain ⟨d,d1,d2,-⟩:=dep_split h
 have g:=good_row d1
 -- as many are open as are closed
 have hlen:C.length≤(rowS A).2.length:=by
  obtain ⟨d',d1',d2',-⟩:=dep_split h2
  rw [List.append_assoc,dep_app,d1,Option.bind_some,show [x]++C=x::C from rfl,dep_k1 hx] at d1'
  rw [d2]
  clear d2' e1 e2 h2 e0 h g
  have:∀ (C:List Ev) (d d':Nat),(∀ z ∈ C,z.kind≠1∧z.kind≠2)→dep d C=some d'→C.length≤d:=by
   intro C
   induction C with
   | nil=>intro d d' _ _;exact Nat.zero_le _
   | cons z C ih =>
    intro d d' hc hd
    have hz:=hc z (by simp)
    cases d with
    | zero=>rw [dep_k0 hz.1 hz.2] at hd;cases hd
    | succ m =>
     rw [dep_k3 hz.1 hz.2] at hd
     have:=ih m d' (fun u hu=>hc u (by simp [hu])) hd
     rw [List.length_cons];omega
  exact this C d d' hc d1'
 constructor
 ·intro he
  rcases Nat.eq_zero_or_pos C.length with h0 | h0
  ·exact List.length_eq_zero_iff.1 h0
  ·exfalso
   obtain ⟨S,s,hS⟩:=snoc_of (l:=(rowS A).2) (by omega)
   rw [hS] at he hlen
   have hr:=g.rise
   rw [hS] at hr
   have hlt:=(snd_ne hr).2
   rw [List.length_append] at he hlen
   simp only [List.length_cons,List.length_nil] at he hlen
   rw [List.take_append_of_le_length (by omega)] at he
   unfold topE at he
   rw [List.getLast?_concat] at he
   cases hl:(S.take (S.length+1 - C.length)).getLast? with
   | none=>rw [hl] at he;simp only [] at he;omega
   | some u =>
    rw [hl] at he
    simp only [] at he
    have hu:=hlt u (List.mem_of_mem_take (List.mem_of_getLast? hl))
    omega
 ·intro h0
  rw [h0,List.length_nil,Nat.sub_zero,List.take_length]
theorem lp2_step {L:List Ev} {out:List Nd} {i:Nat} (hb:Bal L) (ho:Ops L) (hne:neE L=L) (h:Lp2 L out i) (hi:i<out.length) :
  0<i∧∃ y z,out[i]?=some y∧out[i - 1]?=some z ∧
   (if y.kind=46∧z.kind=46∧parV out i=parV out (i - 1) then Lp2 L (withoutV (out.set (i - 1) { z with text:=z.text++y.text }) i) i else Lp2 L out (i+1)):=by
 obtain ⟨A,x,B,rfl,hx,rfl,rfl⟩:=h
 rw [rowE_len,nod_app] at hi
 obtain ⟨C,y,B',rfl,hC,hy⟩:=next_node (B:=B) (by omega)
 have full:∀ z ∈ A++x::(C++y::B'),z.kind=1→z.text.size≠0:=fun z hz h1 h0=>by
  rw [← hne] at hz
  have:=(List.mem_filter.1 hz).2
  unfold neB at this
  simp [h1,h0] at this
 have hx0:=full x (by simp)
 have hy0:=full y (by simp)
 obtain ⟨P,p,hP,hp1,hp2,hp3⟩:=nod_join_pos (A:=A) hx hx0
 have hbal:Bal (P++p::(C++y::B')):=by
  have:Bal (joinE (A++[x])++(C++y::B')):=Bal.join_app (by simpa using hb)
  rw [hP] at this
  simpa using this
 have hrow:rowE (joinE (A++[x])++(C++y::B'))=rowE (P++p::(C++y::B')):=by rw [hP];congr 1;simp
 have hnp:nod (joinE (A++[x]))=nod P+1:=by rw [hP,nod_app,nod_one hp2]
 rw [hrow,hnp]
 refine ⟨Nat.succ_pos _,?_⟩
 rw [Nat.add_sub_cancel]
 have hbal2:Bal (((P++[p])++C)++y::B'):=by simpa using hbal
 have hn2:nod ((P++[p])++C)=nod P+1:=by rw [nod_app,nod_app,nod_one hp2,nod_closes hC]
 obtain ⟨u,hu⟩:=row_node hbal2 hy
 rw [hn2] at hu
 have e0:((P++[p])++C)++y::B'=P++p::(C++y::B'):=by simp
 rw [e0] at hu
 obtain ⟨v,hv⟩:=row_node hbal hp2
 refine ⟨_,_,hu,hv,?_⟩
 obtain ⟨f1,f2⟩:=setSize_kind u y
 obtain ⟨f3,f4⟩:=setSize_kind v p
 rw [f1,f3]
 -- on to the next node
 have on:(C≠[]∨y.kind≠1∨x.kind≠1)→Lp2 (A++x::(C++y::B')) (rowE (P++p::(C++y::B'))) (nod P+1+1):=fun hor=>by
  have hj:joinE ((A++x::C)++[y])=joinE (A++[x])++C++[y]:=by
   have e:joinE (A++x::C)=joinE (A++[x])++C:=by
    rw [show A++x::C=(A++[x])++C by simp,joinE_closes hC]
   rw [joinE_snoc,e]
   by_cases h1:y.kind=1
   ·refine stepJ_first h1 (hy0 h1) ?_
    rcases List.eq_nil_or_concat C with hc | ⟨C',c,hc⟩
    ·rcases hor with h | h | h
     ·exact absurd hc h
     ·exact absurd h1 h
     ·rw [hc,List.append_nil,hP]
      exact endsE_snoc (fun h2=>h (hp1.1 h2))
    ·rw [List.concat_eq_append] at hc
     rw [hc,← List.append_assoc]
     exact endsE_snoc (hC c (by rw [hc];simp)).1
   ·exact stepJ_node h1
  refine ⟨A++x::C,y,B',by simp,hy,?_,?_⟩
  ·rw [hj,hP];congr 1;simp
  ·rw [hj,nod_app,nod_app,nod_one hy,nod_closes hC,hnp]
 by_cases h1:y.kind=1
 ·by_cases h2:x.kind=1
  ·have h3:=hp1.2 h2
   have hk1:ndE y=⟨46,y.text,y.place,1⟩:=by unfold ndE;rw [if_pos h1]
   have hk2:ndE p=⟨46,p.text,p.place,1⟩:=by unfold ndE;rw [if_pos h3]
   have hpar:=par_same hbal h3 h1 hC
   rw [f2,f4]
   by_cases hc:C=[]
   ·rw [if_pos ⟨by rw [hk1],by rw [hk2],hpar.2 hc⟩]
    subst hc
    rw [List.nil_append] at hbal hv hu ⊢
    have hv2:=row_text hbal h3
    rw [hv] at hv2
    have e5:(⟨(ndE p).kind,(ndE p).text++(ndE y).text,(setSize v (ndE p)).place,(setSize v (ndE p)).size⟩:Nd)=ndE { p with text:=p.text++y.text }:=by
     have e7:=Option.some.inj hv2
     rw [e7,hk1,hk2]
     unfold ndE
     rw [if_pos h3]
    rw [e5,row_put hbal h3 (x':={ p with text:=p.text++y.text }) h3]
    have hb3:Bal ((P++[{ p with text:=p.text++y.text }])++y::B'):=by
     have:=hbal.put h3 (x':={ p with text:=p.text++y.text }) h3
     simpa using this
    have hcut:=row_cut hb3 h1
    rw [nod_app,nod_one (x:={ p with text:=p.text++y.text }) (.inl h3)] at hcut
    have e6:(P++[{ p with text:=p.text++y.text }])++y::B'=P++{ p with text:=p.text++y.text }::y::B':=by simp
    rw [e6] at hcut
    rw [hcut]
    have hj:joinE ((A++[x])++[y])=P++[{ p with text:=p.text++y.text }]:=by rw [joinE_snoc,hP,stepJ_more h1 (hy0 h1) h3]
    exact ⟨A++[x],y,B',by simp,hy,by rw [hj],by rw [hj,nod_app,nod_one (x:={ p with text:=p.text++y.text }) (.inl h3)]⟩
   ·rw [if_neg (fun h=>hc (hpar.1 h.2.2))]
    exact on (.inl hc)
  ·have hk2:ndE p=⟨p.name,emptyS,p.place,1⟩:=by unfold ndE;rw [if_neg (fun h=>h2 (hp1.1 h))]
   have h4:x.kind=2:=by omega
   rw [if_neg (fun h=>by
    have h5:=h.2.1
    rw [hk2,hp3 h4] at h5
    exact ho x (by simp) h4 h5)]
   exact on (.inr (.inr h2))
 ·have h4:y.kind=2:=by omega
  have hk1:ndE y=⟨y.name,emptyS,y.place,1⟩:=by unfold ndE;rw [if_neg h1]
  rw [if_neg (fun h=>by
   have h5:=h.1
   rw [hk1] at h5
   exact ho y (by simp) h4 h5)]
  exact on (.inr (.inl h1))
theorem lp2_end {L:List Ev} {out:List Nd} {i:Nat} (h:Lp2 L out i) (hi:out.length≤i):out=rowE (joinE L):=by
 obtain ⟨A,x,B,rfl,hx,rfl,rfl⟩:=h
 rw [rowE_len,nod_app] at hi
 have hB:=no_node (B:=B) (by omega)
 rw [show A++x::B=(A++[x])++B by simp,joinE_closes hB]
end Go.Proofs.YtmldpkigfhoalaaGreatDoor.Nu
namespace Go.Proofs.YtmldpkigfhoalaaGreatDoor.Nu
open Go.RowKit Tr
theorem row_sized {E:List Ev} (h:Bal E) {j:Nat} {y:Nd} (hy:(rowE E)[j]?=some y):1≤y.size∧(j:Int)+y.size≤((rowE E).length:Int):=by
 have g:=good_row (A:=E) h
 have hn:=h.none
 refine g.fits j (by rw [hn];simp) y hy
def txZ (x:Ev):Nat:=if x.kind=1 then x.text.size else 0
def totE:List Ev→Nat
 | []=>0
 | x::l=>txZ x+totE l
theorem totE_app:∀ A B:List Ev,totE (A++B)=totE A+totE B:=by
 intro A
 induction A with
 | nil=>intro B;show totE B=0+totE B;omega
 | cons x A ih=>intro B;show txZ x+totE (A++B)=txZ x+totE A+totE B;rw [ih];omega
theorem row_tot:∀ (L:List Ev) (T:List Nd) (S:List Nat) (B:Nat),(∀ y ∈ T,y.text.size≤B)→∀ y ∈ (L.foldl bld (T,S)).1,y.text.size≤B+totE L:=by
 intro L
 induction L with
 | nil=>intro T S B h y hy;have:=h y hy;unfold totE;omega
 | cons x L ih =>
  intro T S B h y hy
  rw [List.foldl_cons] at hy
  have e0:emptyS.size=0:=by decide
  have snoc:∀ y ∈ T++[ndE x],y.text.size≤B+txZ x:=fun y hy=>by
   rcases List.mem_append.1 hy with h1 | h1
   ·have:=h y h1;omega
   ·simp at h1;subst h1
    unfold ndE txZ
    split
    ·exact Nat.le_add_left _ _
    ·show emptyS.size≤_;omega
  show _≤B+(txZ x+totE L)
  by_cases h1:x.kind=1
  ·rw [bld_tx h1] at hy
   have:=ih _ _ (B+txZ x) snoc y hy;omega
  ·by_cases h2:x.kind=2
   ·rw [bld_op h2] at hy
    have:=ih _ _ (B+txZ x) snoc y hy;omega
   ·have hb:bld (T,S) x=(T.modify (S.getLastD 0) (setSize ((T.length:Int) - (S.getLastD 0:Int))),S.dropLast):=by unfold bld;rw [if_neg h1,if_neg h2]
    rw [hb] at hy
    have:=ih _ _ B (fun z hz=>by
     obtain ⟨j,hj⟩:=List.mem_iff_getElem?.1 hz
     rw [mod_at] at hj
     obtain ⟨u,hu,he⟩:=Option.map_eq_some_iff.1 hj
     have hb:=h u (List.mem_of_getElem? hu)
     split at he
     ·subst he;exact hb
     ·subst he;exact hb) y hy
    omega
theorem totE_ne (L:List Ev):totE (neE L)≤totE L:=by
 induction L with
 | nil=>exact Nat.le_refl _
 | cons x L ih =>
  unfold neE at *
  by_cases h:neB x=true
  ·rw [List.filter_cons_of_pos h];show txZ x+_≤txZ x+_;omega
  ·rw [List.filter_cons_of_neg h];show _≤txZ x+_;omega
theorem nod_ne (L:List Ev):nod (neE L)≤nod L:=by
 rw [nod_eq,nod_eq]
 unfold neE
 rw [List.filter_filter]
 refine Nat.le_trans (Nat.le_of_eq ?_) (List.length_filter_le neB (L.filter isN))
 rw [List.filter_filter]
 congr 2
 funext x
 exact Bool.and_comm _ _
theorem stepJ_tot (acc:List Ev) (x:Ev):totE (stepJ acc x)=totE acc+txZ x∧nod (stepJ acc x)≤nod acc+nod [x]:=by
 have e1:totE [x]=txZ x:=by unfold totE totE;omega
 have snoc:totE (acc++[x])=totE acc+txZ x∧nod (acc++[x])≤nod acc+nod [x]:=⟨by rw [totE_app,e1],by rw [nod_app];omega⟩
 by_cases h:x.kind=1
 ·by_cases h0:x.text.size=0
  ·rw [stepJ_gone h h0]
   refine ⟨?_,by omega⟩
   unfold txZ;rw [if_pos h,h0];rfl
  ·rcases List.eq_nil_or_concat acc with rfl | ⟨B',y,rfl⟩
   ·rw [stepJ_first h h0 endsE_nil];exact snoc
   ·rw [List.concat_eq_append] at snoc ⊢
    by_cases hy:y.kind=1
    ·rw [stepJ_more h h0 hy]
     refine ⟨?_,?_⟩
     ·rw [totE_app,totE_app]
      show _+(txZ _+0)=_+(txZ y+0)+txZ x
      unfold txZ
      rw [if_pos hy,if_pos hy,if_pos h]
      simp only [ByteArray.size_append];omega
     ·rw [nod_app,nod_app,nod_one (x:={ y with text:=y.text++x.text }) (.inl hy),nod_one (.inl hy)];omega
    ·rw [stepJ_first h h0 (endsE_snoc hy)];exact snoc
 ·rw [stepJ_node h];exact snoc
theorem join_tot:∀ (L acc:List Ev),totE (L.foldl stepJ acc)=totE acc+totE L∧nod (L.foldl stepJ acc)≤nod acc+nod L:=by
 intro L
 induction L with
 | nil=>intro acc;exact ⟨rfl,Nat.le_refl _⟩
 | cons x L ih =>
  intro acc
  obtain ⟨h1,h2⟩:=ih (stepJ acc x)
  obtain ⟨h3,h4⟩:=stepJ_tot acc x
  rw [List.foldl_cons]
  refine ⟨?_,?_⟩
  ·rw [h1,h3];show _=_+(txZ x+totE L);omega
  ·rw [nod_cons];omega
def RowOk (N B:Nat) (out:List Nd):Prop:=out.length≤N∧(∀ (j:Nat) (y:Nd),out[j]?=some y→1≤y.size∧(j:Int)+y.size≤(out.length:Int))∧∀ y ∈ out,y.text.size≤B
theorem rowOk_of {E:List Ev} {N B:Nat} (h:Bal E) (hn:nod E≤N) (ht:totE E≤B):RowOk N B (rowE E) :=
 ⟨by rw [rowE_len];exact hn,fun j y hy=>row_sized h hy,fun y hy=>by
  have:=row_tot E [] [] 0 (by simp) y hy;omega⟩
theorem Lp1.ok {L:List Ev} {out:List Nd} {i:Nat} (hb:Bal L) (h:Lp1 L out i):RowOk (nod L) (totE L) out:=by
 obtain ⟨A,B,rfl,rfl,-⟩:=h
 refine rowOk_of hb.ne_app ?_ ?_
 ·rw [nod_app,nod_app];have:=nod_ne A;omega
 ·rw [totE_app,totE_app];have:=totE_ne A;omega
theorem Lp2.ok {L:List Ev} {out:List Nd} {i:Nat} (hb:Bal L) (h:Lp2 L out i):RowOk (nod L) (totE L) out:=by
 obtain ⟨A,x,B,rfl,-,rfl,-⟩:=h
 have e:A++x::B=(A++[x])++B:=by simp
 rw [e] at hb ⊢
 obtain ⟨h1,h2⟩:=join_tot (A++[x]) []
 have h1:totE (joinE (A++[x]))=totE []+totE (A++[x]):=h1
 have h2:nod (joinE (A++[x]))≤nod []+nod (A++[x]):=h2
 have z1:totE []=0:=rfl
 have z2:nod []=0:=rfl
 refine rowOk_of hb.join_app ?_ ?_
 ·rw [nod_app,nod_app (A++[x])];omega
 ·rw [totE_app,totE_app (A++[x])];omega
theorem newText_size {t:List Nd} (ht:Sized t) (i:Nat):(newText t i).size≤t.length * 9000:=by
 unfold newText
 rw [Lx.bytesOf_size,List.length_map]
 unfold keptAt
 split
 ·exact Nat.le_trans (List.length_filter_le _ _) (flowSp_len ht _)
 ·exact Nat.zero_le _
theorem evE_tot {t:List Nd} (ht:Sized t) (O:Nat→Int):∀ (L:List Lx.Lx) (p:Nat),totE (evE (asNew t) O p L)≤nodL L * (t.length * 9000):=by
 intro L
 induction L with
 | nil=>intro p;exact Nat.zero_le _
 | cons x L ih =>
  intro p
  rw [show nodL (x::L)=nodL [x]+nodL L from nodL_app [x] L,Nat.add_mul]
  by_cases h1:x.kind=1
  ·rw [evE_k1 h1,show nodL [x]=1 by unfold nodL;simp [h1],Nat.one_mul]
   have a:=ih (p+1)
   have b:txZ (txE (asNew t p).1 (asNew t p).2)≤t.length * 9000:=newText_size ht p
   show txZ _+totE _≤_
   omega
  ·by_cases h2:x.kind=2
   ·rw [evE_k2 h2,show nodL [x]=1 by unfold nodL;simp [h2],Nat.one_mul]
    have a:=ih (p+1)
    show 0+totE _≤_
    omega
   ·rw [evE_k3 h1 h2,show nodL [x]=0 by unfold nodL;simp [h1,h2],Nat.zero_mul]
    have a:=ih p
    show 0+totE _≤_
    omega
theorem evE_nod (K:Nat→ByteArray × Int) (O:Nat→Int):∀ (L:List Lx.Lx) (p:Nat),nod (evE K O p L)=nodL L:=by
 intro L
 induction L with
 | nil=>intro p;rfl
 | cons x L ih =>
  intro p
  rw [show nodL (x::L)=nodL [x]+nodL L from nodL_app [x] L]
  by_cases h1:x.kind=1
  ·rw [evE_k1 h1,show nodL [x]=1 by unfold nodL;simp [h1],nod_cons,ih];rfl
  ·by_cases h2:x.kind=2
   ·rw [evE_k2 h2,show nodL [x]=1 by unfold nodL;simp [h2],nod_cons,ih];rfl
   ·rw [evE_k3 h1 h2,show nodL [x]=0 by unfold nodL;simp [h1,h2],nod_cons,ih];rfl
def slLen:Value→Nat | .slice _ n _=>n | _=>0
theorem own_base {w:World} {B B' e size n:Nat} {v:Value} {xs:List Value} (h:w.ownsRow B e size v n xs) (hB:B'≤B):w.ownsRow B' e size v n xs:=by
 refine ⟨h.1,?_⟩
 rcases h.2 with hn | ⟨g,cap,cur,hv,hb,rest⟩
 ·exact .inl hn
 ·exact .inr ⟨g,cap,cur,hv,by omega,rest⟩
theorem own_form {w:World} {B e size n:Nat} {v:Value} {xs:List Value} (h:w.ownsRow B e size v n xs):∃ A c,v=.slice A n c∧c≤maxLen∧n≤c∧(0<n→∃ g,A=some ⟨g,0,none⟩∧B≤g∧g<w.heap.size):=by
 rcases h.2 with ⟨hv,h0⟩ | ⟨g,cap,cur,hv,hb,hg,h1,h2,_⟩
 ·exact ⟨none,0,by rw [hv,h0],by unfold maxLen;omega,by omega,fun h=>by omega⟩
 ·exact ⟨some ⟨g,0,none⟩,cap,hv,h2,h1,fun _=>⟨g,rfl,hb,(Array.getElem?_eq_some_iff.1 hg).1⟩⟩
theorem check_wf {t:List Nd} (h:checkV t=0):∃ L,Wf t L∧evA t 0 t.length=some L:=by
 obtain ⟨h1,L,h2,h3⟩:=(checkV_ok t).1 h
 have:=ev_wf t (fun x hx hk=>by
  have:=h1 x hx
  unfold nodeOk at this
  rw [if_neg hk] at this
  simp at this
  exact this.1.1) t.length 0 t.length L (by omega) (by omega) (Nat.le_refl _) h2
 rw [List.take_length,List.drop_zero] at this
 exact ⟨L,this,h2⟩
end Go.Proofs.YtmldpkigfhoalaaGreatDoor.Nu
namespace Go.Proofs.YtmldpkigfhoalaaGreatDoor.Nu
open Go.RowKit Tr
theorem check_sized {t:List Nd} (h:checkV t=0) (hk:∀ x ∈ t,x.kind<256) (hx:∀ x ∈ t,x.text.size≤9000):Sized t:=fun i x hi=>by
 obtain ⟨L,hW,-⟩:=check_wf h
 obtain ⟨a,b,-⟩:=wf_size hW i x hi
 have hm:=List.mem_of_getElem? hi
 exact ⟨hk x hm,hx x hm,x.size.toNat,by omega,by omega,by omega⟩
theorem norm_len {t:List Nd} (h:checkV t=0):(normV t).length≤t.length:=by
 obtain ⟨L,hW,-⟩:=check_wf h
 rw [normV_is hW,rowE_len]
 have h2:=(join_tot (evE (asNew t) (placeAt t) 0 L) []).2
 rw [evE_nod,wf_nod hW] at h2
 have z2:nod []=0:=rfl
 have h2:nod (joinE (evE (asNew t) (placeAt t) 0 L))≤nod []+t.length:=h2
 omega
def ofV (t:List Nd):List Nd:=if checkV t=0 then normV t else []
def isV (t:List Nd):Bool:=decide (checkV t=0) && sameV t (normV t)
theorem ofV_len (t:List Nd):(ofV t).length≤t.length:=by
 unfold ofV
 split
 ·rename_i h;exact norm_len h
 ·exact Nat.zero_le _
def OfTo (n:List Nd) (z:Int) (w:World) (e:Ending) (w':World):Prop:=∃ v,e=.returned (.tuple #[v,.int .i64 z])∧w'.ownsRow w.heap.size 33 4 v n.length (Ba.rows cN n)∧Below w.heap.size w w'
end Go.Proofs.YtmldpkigfhoalaaGreatDoor.Nu
