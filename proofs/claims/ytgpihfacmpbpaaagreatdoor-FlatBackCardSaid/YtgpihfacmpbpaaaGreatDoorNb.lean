/-
  Put together: NvA, NvB, NvC, NvD, NvE, NvF, NvG, NvP.
-/
import Derived.Test.YtgpihfacmpbpaaaGreatDoorNa
import Derived.Test.YtgpihfacmpbpaaaGreatDoorVc
namespace Go.Proofs.YtgpihfacmpbpaaaGreatDoor.Nu
open Go.RowKit Tr
def eA (a:Nat):List Sp→List Sp
 | []=>[]
 | x::l=>if x.c=32∧a=32 then eA a l else x::eA x.c l
def dN (a:Nat):List Sp→Nat
 | []=>a
 | x::l=>dN x.c l
theorem wS {a:Nat} {x:Sp} (h:x.c=32∧a=32) (l:List Sp):eA a (x::l)=eA a l:=by rw[eA,if_pos h]
theorem sN {a:Nat} {x:Sp} (h:¬ (x.c=32∧a=32)) (l:List Sp):eA a (x::l)=x::eA x.c l:=by rw[eA,if_neg h]
theorem jW (a:Nat):∀ l m:List Sp,dN a (l++m)=dN (dN a l) m:=by
 intro l
 induction l generalizing a with
 | nil=>intro m;rfl
 | cons x l ih=>intro m;exact ih x.c m
theorem vP (a:Nat):∀ l m:List Sp,eA a (l++m)=eA a l++eA (dN a l) m:=by
 intro l
 induction l generalizing a with
 | nil=>intro m;rfl
 | cons x l ih =>
  intro m
  rw[List.cons_append]
  by_cases h:x.c=32∧a=32
  ·rw[wS h,wS h,ih a m]
   show _=_++eA (dN x.c l) m
   rw[h.1,h.2]
  ·rw[sN h,sN h,ih x.c m];rfl
theorem B5 (a:Nat):∀ l:List Sp,dN a (eA a l)=dN a l:=by
 intro l
 induction l generalizing a with
 | nil=>rfl
 | cons x l ih =>
  unfold eA
  by_cases h:x.c=32∧a=32
  ·rw[if_pos h,ih a]
   show dN a l=dN x.c l
   rw[h.1,h.2]
  ·rw[if_neg h];exact ih x.c
theorem SF (a b:Nat) (h:b=32→a=32):∀ l:List Sp,eA a (eA b l)=eA a l:=by
 intro l
 induction l generalizing a b with
 | nil=>rfl
 | cons x l ih =>
  conv=>lhs;arg 2;unfold eA
  by_cases h1:x.c=32∧b=32
  ·rw[if_pos h1,ih a b h]
   conv=>rhs;unfold eA
   rw[if_pos ⟨h1.1,h h1.2⟩]
  ·rw[if_neg h1]
   unfold eA
   by_cases h2:x.c=32∧a=32
   ·rw[if_pos h2,if_pos h2,ih a x.c (fun _=>h2.2)]
   ·rw[if_neg h2,if_neg h2,ih x.c x.c id]
theorem J8 (a:Nat) (l:List Sp):dN a (eA 0 l)=dN a l:=by
 cases l with
 | nil=>rfl
 | cons x l =>
  unfold eA
  rw[if_neg (fun h=>absurd h.2 (by decide))]
  exact B5 x.c l
theorem VT (a:Nat):∀ l:List Sp,(eA a l).length≤l.length:=by
 intro l
 induction l generalizing a with
 | nil=>exact Nat.le_refl _
 | cons x l ih =>
  unfold eA
  split
  ·exact Nat.le_trans (ih a) (by simp)
  ·have:=ih x.c
   simp only[List.length_cons];omega
theorem aAA (a:Nat) {x:Sp}:∀ l:List Sp,x ∈ eA a l→x ∈ l:=by
 intro l
 induction l generalizing a with
 | nil=>intro h;exact h
 | cons y l ih =>
  unfold eA
  split
  ·exact fun h=>List.mem_cons_of_mem _ (ih a h)
  ·intro h
   rcases List.mem_cons.1 h with rfl | h
   ·exact List.mem_cons_self ..
   ·exact List.mem_cons_of_mem _ (ih y.c h)
def eS (l:List Sp):List Sp:=if dN 32 l=32 then l.dropLast else l
theorem AO:∀ (l:List Sp) (a:Nat),dN a l=(l.getLast?.map Sp.c).getD a:=by
 intro l
 induction l with
 | nil=>intro a;rfl
 | cons x l ih =>
  intro a
  show dN x.c l=_
  rw[ih x.c,List.getLast?_cons]
  cases l.getLast?<;>rfl
theorem PG (l:List Sp):EF l=dN 32 l:=(AO l 32).symm
theorem xR {l:List Sp} {x:Sp} (h:x.c=32) (h2:dN 32 l≠32):eS (l++[x])=eS l:=by
 unfold eS
 rw[if_neg h2,jW]
 rw[if_pos (show dN (dN 32 l) [x]=32 from h),List.dropLast_concat]
theorem xN (a:Nat) (l:List Sp) (x:Sp):eA a (l++[x])=eA a l++(if x.c=32∧dN a l=32 then [] else [x]):=by
 rw[vP]
 congr 1
theorem WT (l:List Sp):∀ n,n≤l.length→c8 l n=if (l.drop n).any jP=true then eA 32 (l.take n) else eS (eA 32 (l.take n)):=by
 intro n
 induction n with
 | zero=>intro _;simp[c8,eA,eS,dN]
 | succ n ih =>
  intro hn
  have ih:=ih (by omega)
  obtain⟨x,hx⟩:∃ x,l[n]?=some x:=⟨_,List.getElem?_eq_getElem (by omega)⟩
  have ht:l.take (n+1)=l.take n++[x]:=by rw[List.take_add_one,hx];rfl
  have hd:l.drop n=x::l.drop (n+1):=by
   rw[List.drop_eq_getElem_cons (by omega)]
   rw[List.getElem?_eq_getElem (by omega)]at hx
   rw[Option.some.inj hx]
  have hl:dN 32 (eA 32 (l.take n))=dN 32 (l.take n):=B5 32 _
  rw[ht,xN]
  by_cases hc:x.c=32
  ·have hb:(l.drop n).any jP=(l.drop (n+1)).any jP:=by rw[hd,List.any_cons,show jP x=false by simp[jP,hc],Bool.false_or]
   rw[hb]at ih
   by_cases ha:(l.drop (n+1)).any jP=true
   ·rw[if_pos ha]at ih ⊢
    by_cases h32:dN 32 (l.take n)=32
    ·rw[if_pos ⟨hc,h32⟩,List.append_nil,← ih]
     refine mQ hx hc (fun h=>h.1 ?_)
     rw[PG,ih,hl,h32]
    ·rw[if_neg (fun h=>h32 h.2),← ih]
     exact y9 hx hc (by rw[PG,ih,hl];exact h32) (by rw[hb];exact ha)
   ·rw[if_neg ha]at ih ⊢
    have hgone:c8 l (n+1)=c8 l n:=mQ hx hc (fun h=>ha (by rw[← hb];exact h.2))
    rw[hgone,ih]
    by_cases h32:dN 32 (l.take n)=32
    ·rw[if_pos ⟨hc,h32⟩,List.append_nil]
    ·rw[if_neg (fun h=>h32 h.2),xR hc (by rw[hl];exact h32)]
  ·have ha:(l.drop n).any jP=true:=by rw[hd,List.any_cons,show jP x=true by simp[jP,hc],Bool.true_or]
   rw[if_pos ha]at ih
   have hcc:¬ (x.c=32∧dN 32 (l.take n)=32):=fun h=>hc h.1
   rw[y8 hx hc,ih,if_neg hcc]
   have ht2:eS (eA 32 (l.take n)++[x])=eA 32 (l.take n)++[x]:=by
    unfold eS
    rw[jW]
    exact if_neg (show ¬ x.c=32 from hc)
   rw[ht2]
   split<;>rfl
theorem G4 (l:List Sp):yZ l=eS (eA 32 l):=by
 unfold yZ
 rw[WT l l.length (Nat.le_refl _),List.drop_length,List.take_length]
 simp
def eE (b:Nat):Nat:=if Lx.iD b=true then 32 else b
theorem AD {b:Nat} (h:b<256):eE b<256:=by unfold eE;split<;>omega
def rB (i:Nat) (s:ByteArray) (k:Nat):Sp:=⟨eE (Lx.bT s k),i,k⟩
def kF (i:Nat) (s:ByteArray) (k:Nat):List Sp:=(List.range k).map (rB i s)
theorem pW (i:Nat) (s:ByteArray) (k:Nat):kF i s (k+1)=kF i s k++[rB i s k]:=by
 unfold kF;rw[List.range_succ,List.map_append];rfl
theorem DC (i:Nat) (s:ByteArray) (k:Nat):(kF i s k).length=k:=by simp[kF]
theorem rD:Lx.iD 32=true:=by decide
theorem SG (i:Nat) (s:ByteArray):∀ k,eI i s k=eA 0 (kF i s k):=by
 intro k
 induction k with
 | zero=>rfl
 | succ k ih =>
  rw[jX,pW,xN,ih]
  congr 1
  have hl:dN 0 (kF i s k)=if k=0 then 0 else eE (Lx.bT s (k - 1)):=by
   cases k with
   | zero=>rfl
   | succ j=>rw[pW,jW];simp[dN,rB]
  rw[hl]
  unfold zT
  by_cases hw:Lx.iD (Lx.bT s k)=true
  ·rw[if_neg (by rw[hw];exact fun h=>Bool.noConfusion h)]
   have hr:rB i s k=⟨32,i,k⟩:=by unfold rB eE;rw[if_pos hw]
   rw[hr]
   rcases Nat.eq_zero_or_pos k with rfl | hk
   ·rw[if_pos (.inl rfl),if_neg (fun h=>by have h2:=h.2;rw[if_pos rfl]at h2;cases h2)]
   ·rw[if_neg (show ¬ k=0 by omega)]
    by_cases hw2:Lx.iD (Lx.bT s (k - 1))=true
    ·have hno:¬ (k=0∨Lx.iD (Lx.bT s (k - 1))=false):=fun h=>by
      rcases h with h | h
      ·omega
      ·rw[hw2]at h;cases h
     rw[if_neg hno,if_pos ⟨rfl,by unfold eE;rw[if_pos hw2]⟩]
    ·have hw3:Lx.iD (Lx.bT s (k - 1))=false:=by simpa using hw2
     rw[if_pos (.inr hw3),if_neg]
     intro h
     have h2:=h.2
     unfold eE at h2
     rw[if_neg hw2]at h2
     rw[h2]at hw3
     rw[rD]at hw3;cases hw3
  ·have hw3:Lx.iD (Lx.bT s k)=false:=by simpa using hw
   have hr:rB i s k=⟨Lx.bT s k,i,k⟩:=by unfold rB eE;rw[if_neg hw]
   rw[if_pos hw3,hr,if_neg]
   intro h
   have h2:=h.1
   simp only[]at h2
   rw[h2,rD]at hw3;cases hw3
def eY (t:List Nd) (f i:Nat):List Sp :=
 match t[i]? with
 | some x=>if f<i∧x.kind=46∧bY t i=(f:Int) then kF i x.text x.text.size else []
 | none=>[]
theorem SH (t:List Nd) (f i:Nat):kN t f i=eA 0 (eY t f i):=by
 unfold kN eY
 cases t[i]? with
 | none=>rfl
 | some x =>
  simp only[]
  split
  ·exact SG _ _ _
  ·rfl
def rA (t:List Nd) (f n:Nat):List Sp:=(List.range n).flatMap (eY t f)
theorem iW (t:List Nd) (f n:Nat):rA t f (n+1)=rA t f n++eY t f n:=by
 unfold rA;rw[List.range_succ,List.flatMap_append];simp
theorem DB (t:List Nd) (f:Nat):∀ n,eA 32 (dE t f n)=eA 32 (rA t f n)∧dN 32 (dE t f n)=dN 32 (rA t f n):=by
 intro n
 induction n with
 | zero=>exact⟨rfl,rfl⟩
 | succ n ih =>
  rw[jY,iW,vP,vP,jW,jW,ih.1,ih.2,SH]
  exact⟨by rw[SF _ _ (fun h=>absurd h (by decide))],J8 _ _⟩
theorem IA (t:List Nd) (a f:Nat):∀ n,eD t a n=(f:Int)→f<n∧∃ x,t[f]?=some x∧aK x.kind=true∧(a:Int)<(f:Int)+x.size:=by
 intro n
 induction n with
 | zero=>intro h;unfold eD at h;omega
 | succ n ih =>
  intro h
  unfold eD at h
  cases hx:t[n]? with
  | none =>
   rw[hx]at h
   obtain⟨h1,h2⟩:=ih h
   exact⟨by omega,h2⟩
  | some x =>
   rw[hx]at h
   simp only[]at h
   split at h
   ·rename_i hc
    obtain rfl:n=f:=by omega
    exact⟨by omega,x,hx,hc.1,hc.2⟩
   ·obtain⟨h1,h2⟩:=ih h
    exact⟨by omega,h2⟩
theorem eT {t:List Nd} {a f:Nat} (h:bY t a=(f:Int)):f<a∧∃ x,t[f]?=some x∧aK x.kind=true∧(a:Int)<(f:Int)+x.size:=IA t a f a h
theorem wP {t:List Nd} {f:Nat} {x:Nd} (hx:t[f]?=some x) {e:Nat} (he:(f:Int)+x.size≤(e:Int)):∀ n,e≤n→rA t f n=rA t f e:=by
 intro n hn
 induction n with
 | zero =>
  obtain rfl:e=0:=by omega
  rfl
 | succ n ih =>
  rcases Nat.eq_or_lt_of_le hn with rfl | h
  ·rfl
  ·rw[iW,ih (by omega)]
   have:eY t f n=[]:=by
    unfold eY
    cases t[n]? with
    | none=>rfl
    | some y =>
     simp only[]
     rw[if_neg]
     rintro⟨-,-,h3⟩
     obtain⟨-,z,hz,-,h4⟩:=eT h3
     rw[hx]at hz
     cases hz
     omega
   rw[this,List.append_nil]
theorem EC {t:List Nd} (ht:lN t) {f:Nat} {x:Nd} (hx:t[f]?=some x):gJ t f=eS (eA 32 (rA t f t.length)):=by
 obtain⟨-,-,z,hz,-,hfz⟩:=ht f x hx
 unfold gJ
 rw[G4]
 congr 1
 unfold iI
 rw[hx]
 simp only[]
 rw[(DB t f _).1,wP hx (e:=f+x.size.toNat) (by omega) t.length (by omega)]
end Go.Proofs.YtgpihfacmpbpaaaGreatDoor.Nu
namespace Go.Proofs.YtgpihfacmpbpaaaGreatDoor.Nu
open Go.RowKit Tr
def dP (t:List Nd) (i:Nat):List Sp:=if 0≤bY t i then (gJ t (bY t i).toNat).filter (fun s=>s.node==i) else []
def newText (t:List Nd) (i:Nat):ByteArray:=Lx.bytesOf ((dP t i).map Sp.c)
def lO (t:List Nd) (i:Nat):Int:=match dP t i with | []=>aU t i | s::_=>wrap64 (aU t i+(s.place:Int))
theorem NG {t:List Nd} {f i:Nat} {x:Sp} (h:x ∈ kN t f i):x.node=i∧bY t i=(f:Int)∧∃ y,t[i]?=some y∧y.kind=46:=by
 unfold kN at h
 cases hy:t[i]? with
 | none=>rw[hy]at h;cases h
 | some y =>
  rw[hy]at h
  simp only[]at h
  split at h
  ·rename_i hc
   unfold eI at h
   obtain⟨k,hk,hx⟩:=List.mem_flatMap.1 h
   exact⟨(PE hx).2.1,hc.2.2,y,rfl,hc.2.1⟩
  ·cases h
theorem mF {t:List Nd} {f:Nat} {x:Sp} (h:x ∈ gJ t f):bY t x.node=(f:Int)∧∃ y,t[x.node]?=some y∧y.kind=46:=by
 have h:=BY _ h
 unfold iI at h
 cases hy:t[f]? with
 | none=>rw[hy]at h;cases h
 | some y =>
  rw[hy]at h
  obtain⟨i,-,hx⟩:=List.mem_flatMap.1 h
  obtain⟨a,b,c⟩:=NG hx
  rw[a];exact⟨b,c⟩
theorem wQ {t:List Nd} {i:Nat} {s:Sp} (h:s ∈ dP t i):s.node=i∧s.c<256∧∃ y,t[i]?=some y∧y.kind=46∧s.place<y.text.size:=by
 unfold dP at h
 split at h
 ·obtain⟨h1,h2⟩:=List.mem_filter.1 h
  have hn:s.node=i:=by simpa using h2
  obtain⟨a,-,y,hy,hp⟩:=EG h1
  obtain⟨-,y2,hy2,hk⟩:=mF h1
  rw[hn]at hy hy2
  rw[hy]at hy2
  cases hy2
  exact⟨hn,a,y,hy,hk,hp⟩
 ·cases h
theorem WU (t:List Nd) (i:Nat):∀ (l:List Sp) (out:List Nd),(l.foldl (lY t) out)[i]?=(out[i]?).map (fun y=>(l.filter (fun s=>s.node==i)).foldl (fun y s=>vS t s y) y):=by
 intro l
 induction l with
 | nil=>intro out;simp
 | cons s l ih =>
  intro out
  rw[List.foldl_cons,ih]
  unfold lY
  rw[List.getElem?_modify]
  by_cases h:s.node=i
  ·rw[List.filter_cons_of_pos (by simpa using h)]
   simp only[if_pos h]
   cases out[i]?<;>rfl
  ·rw[List.filter_cons_of_neg (by simpa using h)]
   simp only[if_neg h]
   cases out[i]?<;>rfl
theorem SI (t:List Nd) (i:Nat):∀ n,(eW t n)[i]?=(t[i]?).map (fun x=>if x.kind=46∧i<n then oA x else x):=by
 intro n
 induction n with
 | zero =>
  show t[i]?=_
  cases t[i]? with
  | none=>rfl
  | some x=>simp
 | succ n ih =>
  unfold eW
  have vM:(∀ x,t[i]?=some x→¬ (x.kind=46∧i=n))→(eW t n)[i]?=(t[i]?).map (fun x=>if x.kind=46∧i<n+1 then oA x else x):=fun hno=>by
   rw[ih]
   cases hx:t[i]? with
   | none=>rfl
   | some x =>
    have:=hno x hx
    simp only[Option.map_some,Option.some.injEq]
    by_cases h1:x.kind=46∧i<n
    ·rw[if_pos h1,if_pos ⟨h1.1,by omega⟩]
    ·rw[if_neg h1,if_neg (fun h2=>by
      rcases Nat.lt_or_ge i n with h3 | h3
      ·exact h1 ⟨h2.1,h3⟩
      ·exact this ⟨h2.1,by omega⟩)]
  cases hx:t[n]? with
  | none =>
   simp only[]
   exact vM (fun x hx' h=>by rw[h.2,hx]at hx';cases hx')
  | some y =>
   simp only[]
   by_cases hk:y.kind=46
   ·rw[if_pos hk,List.getElem?_modify,ih]
    by_cases hin:n=i
    ·subst hin
     rw[hx]
     simp only[Option.map_some,if_true]
     rw[if_neg (show ¬ (y.kind=46∧n<n) from fun h=>by omega),if_pos ⟨hk,by omega⟩]
     rfl
    ·simp only[if_neg hin]
     cases hz:t[i]? with
     | none=>rfl
     | some z =>
      simp only[Option.map_some]
      by_cases h1:z.kind=46∧i<n
      ·rw[if_pos h1,if_pos ⟨h1.1,by omega⟩];rfl
      ·rw[if_neg h1,if_neg (fun h2=>h1 ⟨h2.1,by omega⟩)];rfl
   ·rw[if_neg hk]
    exact vM (fun x hx' h=>by rw[h.2,hx]at hx';cases hx';exact hk h.1)
theorem SJ (t:List Nd) (i:Nat):∀ n,(dQ t n)[i]?=(t[i]?).map (fun x=>if x.kind=46 then (if bY t i<(n:Int) then dP t i else []).foldl (fun y s=>vS t s y) (oA x) else x):=by
 intro n
 induction n with
 | zero =>
  show (eW t t.length)[i]?=_
  rw[SI]
  cases hx:t[i]? with
  | none=>rfl
  | some x =>
   have hi:=(List.getElem?_eq_some_iff.1 hx).1
   simp only[Option.map_some]
   by_cases hk:x.kind=46
   ·rw[if_pos ⟨hk,hi⟩,if_pos hk]
    have:(if bY t i<((0:Nat):Int) then dP t i else [])=[]:=by
     split
     ·unfold dP;rw[if_neg (by omega)]
     ·rfl
    rw[this];rfl
   ·rw[if_neg (fun h=>hk h.1),if_neg hk]
 | succ n ih =>
  -- where flow n is not this node's
  have vM:(∀ x,t[i]?=some x→x.kind=46→bY t i≠(n:Int))→(dQ t n)[i]?=(t[i]?).map (fun x=>if x.kind=46 then (if bY t i<((n+1:Nat):Int) then dP t i else []).foldl (fun y s=>vS t s y) (oA x) else x):=fun hno=>by
   rw[ih]
   cases hx:t[i]? with
   | none=>rfl
   | some x =>
    simp only[Option.map_some]
    by_cases hk:x.kind=46
    ·have:=hno x hx hk
     rw[if_pos hk,if_pos hk]
     by_cases h1:bY t i<(n:Int)
     ·rw[if_pos h1,if_pos (by omega)]
     ·rw[if_neg h1,if_neg (by omega)]
    ·rw[if_neg hk,if_neg hk]
  unfold dQ
  cases hn:t[n]? with
  | none =>
   simp only[]
   refine vM (fun x _ _ hf=>?_)
   obtain⟨-,y,hy,-⟩:=eT hf
   rw[hn]at hy;cases hy
  | some y =>
   simp only[]
   by_cases hfl:aK y.kind=true
   ·rw[if_pos hfl,WU]
    by_cases hf:∃ x,t[i]?=some x∧x.kind=46∧bY t i=(n:Int)
    ·obtain⟨x,hx,hk,hf⟩:=hf
     rw[ih,hx]
     simp only[Option.map_some]
     rw[if_pos hk,if_pos hk,if_neg (by omega),if_pos (by omega)]
     simp only[List.foldl_nil]
     congr 2
     unfold dP
     rw[hf,if_pos (by omega),Int.toNat_natCast]
    ·have he:(gJ t n).filter (fun s=>s.node==i)=[]:=by
      rw[List.filter_eq_nil_iff]
      intro s hs hn2
      have hn2:s.node=i:=by simpa using hn2
      obtain⟨a,b⟩:=mF hs
      rw[hn2]at a b
      obtain⟨y2,hy2,hk2⟩:=b
      exact hf ⟨y2,hy2,hk2,a⟩
     rw[he]
     simp only[List.foldl_nil]
     rw[Option.map_id']
     exact vM (fun x hx hk hf2=>hf ⟨x,hx,hk,hf2⟩)
   ·rw[if_neg hfl]
    refine vM (fun x _ _ hf=>?_)
    obtain⟨-,z,hz,hz2,-⟩:=eT hf
    rw[hn]at hz;cases hz
    exact hfl hz2
theorem nL (a b:List Nat):Lx.bytesOf (a++b)=Lx.bytesOf a++Lx.bytesOf b:=by
 apply ByteArray.ext
 show ((a++b).map UInt8.ofNat).toArray=_
 rw[ByteArray.data_append]
 show _=(a.map UInt8.ofNat).toArray++(b.map UInt8.ofNat).toArray
 simp
theorem NH (t:List Nd):∀ (l:List Sp) (y:Nd),y.text.size≠0→l.foldl (fun y s=>vS t s y) y={ y with text:=y.text++Lx.bytesOf (l.map Sp.c) }:=by
 intro l
 induction l with
 | nil =>
  intro y _
  show y=_
  rw[show y.text++Lx.bytesOf ([].map Sp.c)=y.text from by apply ByteArray.ext;rw[ByteArray.data_append];show y.text.data++#[]=_;simp]
 | cons s l ih =>
  intro y h
  rw[List.foldl_cons,ih _ (by show (y.text++dS s.c).size≠0;rw[ByteArray.size_append];omega)]
  unfold vS
  simp only[]
  rw[if_neg h,ByteArray.append_assoc,show dS s.c=Lx.bytesOf [s.c] from rfl,← nL]
  rfl
def vB (t:List Nd) (i:Nat) (x:Nd):Nd:=if x.kind=46 then { x with text:=newText t i,place:=lO t i } else x
theorem sO {t:List Nd} {i:Nat} {x:Nd} (hx:t[i]?=some x):(jM t)[i]?=some (vB t i x):=by
 have hi:=(List.getElem?_eq_some_iff.1 hx).1
 unfold jM vB
 rw[SJ,hx]
 simp only[Option.map_some]
 by_cases hk:x.kind=46
 ·rw[if_pos hk,if_pos hk]
  have hlt:bY t i<(t.length:Int):=by
   have h:=(J5 t i i).2
   unfold bY
   omega
  rw[if_pos hlt]
  congr 1
  unfold newText lO
  have hp:aU t i=x.place:=by unfold aU;rw[hx]
  cases hl:dP t i with
  | nil =>
   show oA x=_
   rw[hp];rfl
  | cons s l =>
   have hs:=(wQ (t:=t) (i:=i) (s:=s) (by rw[hl];exact List.mem_cons_self ..)).1
   rw[List.foldl_cons]
   have h0:vS t s (oA x)={ x with text:=Lx.bytesOf [s.c],place:=wrap64 (x.place+(s.place:Int)) }:=by
    unfold vS oA
    simp only[]
    rw[if_pos (show aA.size=0 by decide),hs,hp]
    rw[show aA++dS s.c=Lx.bytesOf [s.c] from by apply ByteArray.ext;rw[ByteArray.data_append];show #[]++_=_;rw[Array.empty_append];rfl]
   rw[h0,NH t l _ (by show (Lx.bytesOf [s.c]).size≠0;rw[Lx.c9];simp)]
   simp only[]
   rw[← nL,hp]
   rfl
 ·rw[if_neg hk,if_neg hk]
theorem mE (t:List Nd):(jM t).length=t.length:=mS t _
end Go.Proofs.YtgpihfacmpbpaaaGreatDoor.Nu
namespace Go.Proofs.YtgpihfacmpbpaaaGreatDoor.Nu
open Go.RowKit Tr
structure Ev where
 kind:Nat
 name:Nat
 text:ByteArray
 place:Int
def jC (s:ByteArray) (pl:Int):Ev:=⟨1,0,s,pl⟩
def mC (k:Nat) (pl:Int):Ev:=⟨2,k,aA,pl⟩
def lT:Ev:=⟨3,0,aA,0⟩
def fP (x:Ev):Nd:=if x.kind=1 then ⟨46,x.text,x.place,1⟩ else ⟨x.name,aA,x.place,1⟩
def kB (st:List Nd × List Nat) (x:Ev):List Nd × List Nat :=
 if x.kind=1 then (st.1++[fP x],st.2)
 else if x.kind=2 then (st.1++[fP x],st.2++[st.1.length])
 else (st.1.modify (st.2.getLastD 0) (aF ((st.1.length:Int) - (st.2.getLastD 0:Int))),st.2.dropLast)
theorem gK {T:List Nd} {S:List Nat} {x:Ev} (h:x.kind=1):kB (T,S) x=(T++[fP x],S):=by unfold kB;rw[if_pos h]
theorem jL {T:List Nd} {S:List Nat} {x:Ev} (h:x.kind=2):kB (T,S) x=(T++[fP x],S++[T.length]):=by unfold kB;rw[if_neg (by omega),if_pos h]
theorem pK {T:List Nd} {S:List Nat} {s:Nat} {x:Ev} (h1:x.kind≠1) (h2:x.kind≠2):kB (T,S++[s]) x=(T.modify s (aF ((T.length:Int) - (s:Int))),S):=by
 unfold kB
 rw[if_neg h1,if_neg h2]
 simp
def bJ (L:List Ev):List Nd × List Nat:=L.foldl kB ([],[])
def aP (L:List Ev):List Nd:=(bJ L).1
def dep:Nat→List Ev→Option Nat
 | n,[]=>some n
 | n,x::l=>if x.kind=1 then dep n l else if x.kind=2 then dep (n+1) l else match n with | 0=>none | m+1=>dep m l
def eR (L:List Ev):Prop:=dep 0 L=some 0
theorem kE {n:Nat} {x:Ev} {l:List Ev} (h:x.kind=1):dep n (x::l)=dep n l:=by rw[dep.eq_def];simp only[];rw[if_pos h]
theorem tV {n:Nat} {x:Ev} {l:List Ev} (h:x.kind=2):dep n (x::l)=dep (n+1) l:=by rw[dep.eq_def];simp only[];rw[if_neg (by omega),if_pos h]
theorem tW {n:Nat} {x:Ev} {l:List Ev} (h1:x.kind≠1) (h2:x.kind≠2):dep (n+1) (x::l)=dep n l:=by rw[dep.eq_def];simp only[];rw[if_neg h1,if_neg h2]
theorem pE {x:Ev} {l:List Ev} (h1:x.kind≠1) (h2:x.kind≠2):dep 0 (x::l)=none:=by rw[dep.eq_def];simp only[];rw[if_neg h1,if_neg h2]
theorem fW:∀ (L M:List Ev) (n:Nat),dep n (L++M)=(dep n L).bind fun m=>dep m M:=by
 intro L
 induction L with
 | nil=>intro M n;rfl
 | cons x L ih =>
  intro M n
  rw[List.cons_append]
  by_cases h1:x.kind=1
  ·rw[kE h1,kE h1];exact ih M n
  ·by_cases h2:x.kind=2
   ·rw[tV h2,tV h2];exact ih M (n+1)
   ·cases n with
    | zero=>rw[pE h1 h2,pE h1 h2];rfl
    | succ m=>rw[tW h1 h2,tW h1 h2];exact ih M m
theorem WV:∀ (L:List Ev) (n m k:Nat),dep n L=some m→dep (n+k) L=some (m+k):=by
 intro L
 induction L with
 | nil=>intro n m k h;unfold dep at h ⊢;cases h;rfl
 | cons x L ih =>
  intro n m k h
  unfold dep at h ⊢
  by_cases h1:x.kind=1
  ·rw[if_pos h1]at h ⊢;exact ih n m k h
  ·rw[if_neg h1]at h ⊢
   by_cases h2:x.kind=2
   ·rw[if_pos h2]at h ⊢
    have:=ih (n+1) m k h
    rw[show n+1+k=n+k+1 by omega]at this
    exact this
   ·rw[if_neg h2]at h ⊢
    cases n with
    | zero=>cases h
    | succ j =>
     rw[show j+1+k=(j+k)+1 by omega]
     exact ih j m k h
theorem eR.app {L M:List Ev} (h:eR L) (h2:eR M):eR (L++M):=by unfold eR at *;rw[fW,h];exact h2
theorem eR.node {M:List Ev} (h:eR M) (k:Nat) (pl:Int):eR (mC k pl::(M++[lT])):=by
 unfold eR at *
 show dep 1 (M++[lT])=some 0
 rw[fW,show dep 1 M=some 1 from WV M 0 0 1 h];rfl
theorem eR.text (s:ByteArray) (pl:Int):eR [jC s pl]:=rfl
theorem pM {α:Type} {l:List α} (h:0<l.length):∃ l' a,l=l'++[a]:=by
 rcases List.eq_nil_or_concat l with rfl | ⟨l',a,rfl⟩
 ·exact absurd h (by simp)
 ·exact⟨l',a,by simp⟩
theorem sW {I:List Nd→List Nat→Prop} (htx:∀ T S x,x.kind=1→I T S→I (T++[fP x]) S) (hop:∀ T S x,x.kind=2→I T S→I (T++[fP x]) (S++[T.length]))
  (hcl:∀ T S s,I T (S++[s])→I (T.modify s (aF ((T.length:Int) - (s:Int)))) S):∀ (L:List Ev) (n d:Nat) (T:List Nd) (S:List Nat),S.length=n→dep n L=some d→I T S→I (L.foldl kB (T,S)).1 (L.foldl kB (T,S)).2:=by
 intro L
 induction L with
 | nil=>intro n d T S _ _ h;exact h
 | cons x L ih =>
  intro n d T S hn hd h
  unfold dep at hd
  rw[List.foldl_cons]
  by_cases h1:x.kind=1
  ·rw[if_pos h1]at hd
   rw[gK h1]
   exact ih n d _ _ hn hd (htx T S x h1 h)
  ·rw[if_neg h1]at hd
   by_cases h2:x.kind=2
   ·rw[if_pos h2]at hd
    rw[jL h2]
    exact ih (n+1) d _ _ (by rw[List.length_append,hn];rfl) hd (hop T S x h2 h)
   ·rw[if_neg h2]at hd
    cases n with
    | zero=>cases hd
    | succ m =>
     obtain⟨S',s,rfl⟩:=pM (l:=S) (by omega)
     rw[pK h1 h2]
     exact ih m d _ _ (by rw[List.length_append]at hn;simp at hn;exact hn) hd (hcl T S' s h)
theorem B6 {I:List Nd→List Nat→List Nd→List Nat→Prop} (htx:∀ T S T' S' x,x.kind=1→I T S T' S'→I (T++[fP x]) S (T'++[fP x]) S') (hop:∀ T S T' S' x,x.kind=2→I T S T' S'→I (T++[fP x]) (S++[T.length]) (T'++[fP x]) (S'++[T'.length]))
  (hcl:∀ T S s T' S',I T (S++[s]) T' S'→∃ S'' s',S'=S''++[s']∧I (T.modify s (aF ((T.length:Int) - (s:Int)))) S (T'.modify s' (aF ((T'.length:Int) - (s':Int)))) S''):∀ (L:List Ev) (n d:Nat) (T:List Nd) (S:List Nat) (T':List Nd) (S':List Nat),S.length=n→dep n L=some d→I T S T' S'→I (L.foldl kB (T,S)).1 (L.foldl kB (T,S)).2 (L.foldl kB (T',S')).1 (L.foldl kB (T',S')).2:=by
 intro L
 induction L with
 | nil=>intro n d T S T' S' _ _ h;exact h
 | cons x L ih =>
  intro n d T S T' S' hn hd h
  unfold dep at hd
  rw[List.foldl_cons,List.foldl_cons]
  by_cases h1:x.kind=1
  ·rw[if_pos h1]at hd
   rw[gK h1,gK h1]
   exact ih n d _ _ _ _ hn hd (htx T S T' S' x h1 h)
  ·rw[if_neg h1]at hd
   by_cases h2:x.kind=2
   ·rw[if_pos h2]at hd
    rw[jL h2,jL h2]
    exact ih (n+1) d _ _ _ _ (by rw[List.length_append,hn];rfl) hd (hop T S T' S' x h2 h)
   ·rw[if_neg h2]at hd
    cases n with
    | zero=>cases hd
    | succ m =>
     obtain⟨S0,s,rfl⟩:=pM (l:=S) (by omega)
     obtain⟨S'',s',rfl,h3⟩:=hcl T S0 s T' S' h
     rw[pK h1 h2,pK h1 h2]
     exact ih m d _ _ _ _ (by rw[List.length_append]at hn;simp at hn;exact hn) hd h3
theorem vI:∀ (L:List Ev) (n d:Nat) (T:List Nd) (S:List Nat),S.length=n→dep n L=some d→(L.foldl kB (T,S)).2.length=d:=by
 intro L
 induction L with
 | nil=>intro n d T S hn h;unfold dep at h;cases h;exact hn
 | cons x L ih =>
  intro n d T S hn hd
  unfold dep at hd
  rw[List.foldl_cons]
  by_cases h1:x.kind=1
  ·rw[if_pos h1]at hd
   rw[gK h1]
   exact ih n d _ _ hn hd
  ·rw[if_neg h1]at hd
   by_cases h2:x.kind=2
   ·rw[if_pos h2]at hd
    rw[jL h2]
    exact ih (n+1) d _ _ (by rw[List.length_append,hn];rfl) hd
   ·rw[if_neg h2]at hd
    cases n with
    | zero=>cases hd
    | succ m =>
     obtain⟨S',s,rfl⟩:=pM (l:=S) (by omega)
     rw[pK h1 h2]
     exact ih m d _ _ (by rw[List.length_append]at hn;simp at hn;exact hn) hd
theorem eR.none {L:List Ev} (h:eR L):(bJ L).2=[]:=List.length_eq_zero_iff.1 (vI L 0 0 [] [] rfl h)
theorem EI (T0:List Nd) (S0:List Nat) (L:List Ev) (d:Nat) (h:dep 0 L=some d):L.foldl kB (T0,S0)=(T0++aP L,S0++(bJ L).2.map (·+T0.length)):=by
 have:=B6 (I:=fun T S T' S'=>T'=T0++T∧S'=S0++S.map (·+T0.length)) ?_ ?_ ?_ L 0 d [] [] T0 S0 rfl h ⟨by simp,by simp⟩
 ·exact Prod.ext this.1 this.2
 ·rintro T S _ _ x _ ⟨rfl,rfl⟩
  exact⟨by simp,rfl⟩
 ·rintro T S _ _ x _ ⟨rfl,rfl⟩
  refine⟨by simp,?_⟩
  rw[List.map_append,← List.append_assoc]
  simp;omega
 ·rintro T S s _ _ ⟨rfl,rfl⟩
  refine⟨S0++S.map (·+T0.length),s+T0.length,by simp,?_,rfl⟩
  rw[List.length_append,show s+T0.length=T0.length+s by omega]
  rw[show (((T0.length+T.length:Nat):Int) - ((T0.length+s:Nat):Int))=(T.length:Int) - (s:Int) by omega]
  apply List.ext_getElem?
  intro j
  rcases Nat.lt_or_ge j T0.length with hj | hj
  ·rw[List.getElem?_append_left hj,List.getElem?_modify,List.getElem?_append_left hj]
   simp only[if_neg (show ¬ T0.length+s=j by omega)]
   cases T0[j]?<;>rfl
  ·rw[List.getElem?_append_right hj,List.getElem?_modify,List.getElem?_modify,List.getElem?_append_right hj]
   by_cases hs:T0.length+s=j
   ·simp only[if_pos hs,if_pos (show s=j - T0.length by omega)]
   ·simp only[if_neg hs,if_neg (show ¬ s=j - T0.length by omega)]
theorem oH {L M:List Ev} (h:eR L) (h2:eR M):aP (L++M)=aP L++aP M:=by
 unfold aP bJ
 rw[List.foldl_append,show L.foldl kB ([],[])=(aP L,[]) from Prod.ext rfl h.none,EI _ _ M 0 h2]
 rfl
theorem FD (s:ByteArray) (pl:Int):aP [jC s pl]=[⟨46,s,pl,1⟩]:=rfl
theorem wO {M:List Ev} (h:eR M) (k:Nat) (pl:Int):aP (mC k pl::(M++[lT]))=⟨k,aA,pl,((aP M).length:Int)+1⟩::aP M:=by
 unfold aP bJ
 rw[List.foldl_cons,show kB ([],[]) (mC k pl)=([⟨k,aA,pl,1⟩],[0]) from rfl,List.foldl_append,EI _ _ M 0 h]
 rw[show (bJ M).2=[] from h.none]
 show (kB ([⟨k,aA,pl,1⟩]++aP M,[0]) lT).1=_
 rw[show ([0]:List Nat)=[]++[0] from rfl,pK (by decide) (by decide)]
 show (⟨k,aA,pl,1⟩::aP M).modify 0 _=_
 simp only[List.modify_zero_cons]
 unfold aF
 simp only[List.cons_append,List.nil_append,List.cons.injEq,Nd.mk.injEq,true_and]
 refine⟨?_,rfl⟩
 show (((aP M).length+1:Nat):Int) - 0=_
 exact Int.sub_zero _
def bI (L:List Ev):Nat:=(L.filter fun x=>x.kind==1 || x.kind==2).length
theorem bC (L M:List Ev):bI (L++M)=bI L+bI M:=by unfold bI;rw[List.filter_append,List.length_append]
theorem aAO:∀ (L:List Ev) (T:List Nd) (S:List Nat),(L.foldl kB (T,S)).1.length=T.length+bI L:=by
 intro L
 induction L with
 | nil=>intro T S;rfl
 | cons x L ih =>
  intro T S
  rw[List.foldl_cons]
  have hn:bI (x::L)=bI [x]+bI L:=bC [x] L
  rw[hn]
  by_cases h1:x.kind=1
  ·rw[gK h1,ih,List.length_append,show bI [x]=1 by unfold bI;simp[h1]]
   simp;omega
  ·by_cases h2:x.kind=2
   ·rw[jL h2,ih,List.length_append,show bI [x]=1 by unfold bI;simp[h2]]
    simp;omega
   ·have hb:kB (T,S) x=(T.modify (S.getLastD 0) (aF ((T.length:Int) - (S.getLastD 0:Int))),S.dropLast):=by unfold kB;rw[if_neg h1,if_neg h2]
    rw[hb,ih,List.length_modify,show bI [x]=0 by unfold bI;simp[h1,h2]]
    omega
theorem dV (L:List Ev):(aP L).length=bI L:=by
 unfold aP bJ;rw[aAO];simp
structure Good (T:List Nd) (S:List Nat):Prop where
 vH:S.Pairwise (·<·)
 lt:∀ s ∈ S,s<T.length
 one:∀ s ∈ S,∀ x,T[s]?=some x→x.size=1
 fits:∀ j,j ∉ S→∀ x,T[j]?=some x→1≤x.size∧(j:Int)+x.size≤(T.length:Int)
theorem Good.nil:Good [] []:=⟨List.Pairwise.nil,by simp,by simp,by simp⟩
theorem xC {S:List Nat} {s:Nat} (h:(S++[s]).Pairwise (·<·)):s ∉ S∧∀ a ∈ S,a<s:=by
 rw[List.pairwise_append]at h
 exact⟨fun hs=>absurd (h.2.2 s hs s (by simp)) (Nat.lt_irrefl _),fun a ha=>h.2.2 a ha s (by simp)⟩
theorem oU {T:List Nd} {y x:Nd} {j:Nat} (h:(T++[y])[j]?=some x):(j<T.length∧T[j]?=some x)∨(j=T.length∧x=y):=by
 rcases Nat.lt_or_ge j T.length with hj | hj
 ·rw[List.getElem?_append_left hj]at h;exact .inl ⟨hj,h⟩
 ·rw[List.getElem?_append_right hj]at h
  cases hk:j - T.length with
  | zero=>rw[hk]at h;simp at h;exact .inr ⟨by omega,h.symm⟩
  | succ m=>rw[hk]at h;simp at h
theorem vV (x:Ev):(fP x).size=1:=by unfold fP;split<;>rfl
theorem Good.of (L:List Ev) (n d:Nat) (T:List Nd) (S:List Nat) (hn:S.length=n) (hd:dep n L=some d) (h:Good T S):Good (L.foldl kB (T,S)).1 (L.foldl kB (T,S)).2:=by
 refine sW (I:=Good) ?_ ?_ ?_ L n d T S hn hd h
 ·rintro T S x _ ⟨a,b,c,e⟩
  refine⟨a,fun s hs=>by rw[List.length_append];have:=b s hs;omega,fun s hs y hy=>?_,fun j hj y hy=>?_⟩
  ·rcases oU hy with⟨_,h2⟩ | ⟨h1,_⟩
   ·exact c s hs y h2
   ·have:=b s hs;omega
  ·rw[List.length_append]
   rcases oU hy with⟨_,h2⟩ | ⟨h1,rfl⟩
   ·have:=e j hj y h2
    exact⟨this.1,by simp;omega⟩
   ·rw[vV];simp;omega
 ·rintro T S x _ ⟨a,b,c,e⟩
  refine⟨?_,fun s hs=>?_,fun s hs y hy=>?_,fun j hj y hy=>?_⟩
  ·rw[List.pairwise_append]
   exact⟨a,by simp,fun s hs u hu=>by simp at hu;subst hu;exact b s hs⟩
  ·rw[List.length_append]
   rcases List.mem_append.1 hs with h1 | h1
   ·have:=b s h1;omega
   ·simp at h1;subst h1;simp
  ·rcases oU hy with⟨h1,h2⟩ | ⟨h1,rfl⟩
   ·rcases List.mem_append.1 hs with h3 | h3
    ·exact c s h3 y h2
    ·simp at h3;omega
   ·exact vV x
  ·rw[List.length_append]
   rcases oU hy with⟨h1,h2⟩ | ⟨h1,rfl⟩
   ·have:=e j (fun h3=>hj (List.mem_append_left _ h3)) y h2
    exact⟨this.1,by simp;omega⟩
   ·exact absurd (by rw[h1];simp) hj
 ·rintro T S s ⟨a,b,c,e⟩
  obtain⟨hs1,hs2⟩:=xC a
  have hsl:=b s (by simp)
  refine⟨(List.pairwise_append.1 a).1,fun u hu=>by rw[List.length_modify];exact b u (List.mem_append_left _ hu),fun u hu y hy=>?_,fun j hj y hy=>?_⟩
  ·rw[List.getElem?_modify]at hy
   obtain⟨z,hz,he⟩:=Option.map_eq_some_iff.1 hy
   rw[if_neg (show ¬ s=u from fun h=>hs1 (h▸hu))]at he
   subst he
   exact c u (List.mem_append_left _ hu) z hz
  ·rw[List.length_modify]
   rw[List.getElem?_modify]at hy
   obtain⟨z,hz,he⟩:=Option.map_eq_some_iff.1 hy
   by_cases hjs:s=j
   ·rw[if_pos hjs]at he
    subst he
    subst hjs
    unfold aF
    simp only[]
    omega
   ·rw[if_neg hjs]at he
    subst he
    exact e j (fun h3=>by
     rcases List.mem_append.1 h3 with h4 | h4
     ·exact hj h4
     ·simp at h4;exact hjs h4.symm) z hz
theorem good_row {A:List Ev} {d:Nat} (h:dep 0 A=some d):Good (bJ A).1 (bJ A).2:=Good.of A 0 d [] [] rfl h Good.nil
end Go.Proofs.YtgpihfacmpbpaaaGreatDoor.Nu
namespace Go.Proofs.YtgpihfacmpbpaaaGreatDoor.Nu
open Go.RowKit Tr
theorem gH {α:Type} (l:List α) (i j:Nat) (f:α→α):(l.modify i f)[j]?=(l[j]?).map fun a=>if i=j then f a else a:=List.getElem?_modify ..
theorem aAP (t:List Nd) (a:Nat) (ha:a≤t.length) (j:Nat):∀ n,n≤a→(kO t a n)[j]?=if j<a then (t[j]?).map (fun y=>if j<n∧(a:Int)<(j:Int)+y.size then FF y else y) else none:=by
 intro n
 induction n with
 | zero =>
  intro _
  unfold kO
  rw[List.getElem?_take]
  split
  ·cases t[j]?<;>simp
  ·rfl
 | succ n ih =>
  intro hn
  have ih:=ih (by omega)
  obtain⟨x,hx⟩:=fV (l:=t) (i:=n) (by omega)
  unfold kO
  rw[hx]
  simp only[]
  by_cases hs:(a:Int)<(n:Int)+x.size
  ·rw[if_pos hs,gH,ih]
   by_cases hja:j<a
   ·rw[if_pos hja,if_pos hja]
    by_cases hjn:n=j
    ·subst hjn
     rw[hx]
     simp only[Option.map_some,if_true]
     rw[if_neg (fun h=>by omega),if_pos ⟨by omega,hs⟩]
    ·cases hy:t[j]? with
     | none=>rfl
     | some y =>
      simp only[Option.map_some,if_neg hjn]
      by_cases h1:j<n∧(a:Int)<(j:Int)+y.size
      ·rw[if_pos h1,if_pos ⟨by omega,h1.2⟩]
      ·rw[if_neg h1,if_neg (fun h2=>h1 ⟨by omega,h2.2⟩)]
   ·rw[if_neg hja,if_neg hja];rfl
  ·rw[if_neg hs,ih]
   by_cases hja:j<a
   ·rw[if_pos hja,if_pos hja]
    cases hy:t[j]? with
    | none=>rfl
    | some y =>
     simp only[Option.map_some,Option.some.injEq]
     by_cases hjn:n=j
     ·subst hjn
      rw[hx]at hy;cases hy
      rw[if_neg (fun h=>by omega),if_neg (fun h=>hs h.2)]
     ·by_cases h1:j<n∧(a:Int)<(j:Int)+y.size
      ·rw[if_pos h1,if_pos ⟨by omega,h1.2⟩]
      ·rw[if_neg h1,if_neg (fun h2=>h1 ⟨by omega,h2.2⟩)]
   ·rw[if_neg hja,if_neg hja]
theorem fI {t:List Nd} {a:Nat} (ha:a<t.length) (j:Nat):(bA t a)[j]?=if j<a then (t[j]?).map (fun y=>if (a:Int)<(j:Int)+y.size then FF y else y) else t[j+1]?:=by
 unfold bA
 have hl:(kO t a a).length=a:=by rw[sC];omega
 rcases Nat.lt_or_ge j a with hj | hj
 ·rw[List.getElem?_append_left (by omega),aAP t a (by omega) j a (Nat.le_refl _),if_pos hj,if_pos hj]
  congr 1
  funext y
  by_cases h:(a:Int)<(j:Int)+y.size
  ·rw[if_pos h,if_pos ⟨hj,h⟩]
  ·rw[if_neg h,if_neg (fun h2=>h h2.2)]
 ·rw[List.getElem?_append_right (by omega),hl,if_neg (by omega),List.getElem?_drop,show a+1+(j - a)=j+1 by omega]
theorem iX {t:List Nd} {a:Nat} (ha:a<t.length):(bA t a).length+1=t.length:=by
 unfold bA
 rw[List.length_append,sC,List.length_drop];omega
def NJ (i j:Nat):Nat:=if j<i then j else j - 1
theorem tP {T:List Nd} {i:Nat} (hi:i<T.length) (y:Nd) (_hy:y.size=1):bA (T++[y]) i=bA T i++[y]:=by
 have hl:=iX hi
 apply List.ext_getElem?
 intro j
 rw[fI (by rw[List.length_append];omega)]
 rcases Nat.lt_or_ge j (bA T i).length with hj | hj
 ·rw[List.getElem?_append_left hj,fI hi]
  rw[List.getElem?_append_left (show j<T.length by omega)]
  rcases Nat.lt_or_ge j i with h1 | h1
  ·rw[if_pos h1,if_pos h1]
  ·rw[if_neg (by omega),if_neg (by omega),List.getElem?_append_left (by omega)]
 ·rw[if_neg (by omega),List.getElem?_append_right hj,List.getElem?_append_right (by omega)]
  congr 1
  omega
theorem B7 {T:List Nd} {i s:Nat} (hi:i<T.length) (_hs:s<T.length) (hne:i≠s):bA (T.modify s (aF ((T.length:Int) - (s:Int)))) i=(bA T i).modify (NJ i s) (aF (((bA T i).length:Int) - (NJ i s:Int))):=by
 have hl:=iX hi
 obtain⟨n,hn⟩:∃ n,(bA T i).length=n:=⟨_,rfl⟩
 rw[hn]at hl ⊢
 apply List.ext_getElem?
 intro j
 rw[fI (by rw[List.length_modify];exact hi),gH,gH,gH,fI hi]
 rcases Nat.lt_or_ge j i with h1 | h1
 ·rw[if_pos h1,if_pos h1]
  cases hy:T[j]? with
  | none=>rfl
  | some y =>
   simp only[Option.map_some,Option.some.injEq]
   by_cases hsj:s=j
   ·subst hsj
    have h2:NJ i s=s:=by unfold NJ;rw[if_pos h1]
    rw[if_pos rfl,h2,if_pos rfl,if_pos (show (i:Int)<(s:Int)+(aF ((T.length:Int) - (s:Int)) y).size by unfold aF;simp only[];omega)]
    split
    ·unfold FF aF
     simp only[Nd.mk.injEq,true_and]
     omega
    ·unfold FF aF
     simp only[Nd.mk.injEq,true_and]
     omega
   ·have h2:¬ NJ i s=j:=by unfold NJ;split<;>omega
    rw[if_neg hsj,if_neg h2]
 ·rw[if_neg (by omega),if_neg (by omega)]
  by_cases hsj:s=j+1
  ·have h2:NJ i s=j:=by unfold NJ;rw[if_neg (by omega)];omega
   rw[h2,show ((T.length:Int) - (s:Int))=(n:Int) - (j:Int) by omega]
   cases T[j+1]? with
   | none=>rfl
   | some y=>simp only[Option.map_some,if_pos hsj,if_true]
  ·have h2:¬ NJ i s=j:=by unfold NJ;split<;>omega
   cases T[j+1]? with
   | none=>rfl
   | some y=>simp only[Option.map_some,if_neg hsj,if_neg h2]
theorem dC (A B:List Ev) (x:Ev):bJ (A++x::B)=B.foldl kB (kB (bJ A) x):=by
 unfold bJ;rw[List.foldl_append];rfl
theorem eN {A B:List Ev} {x:Ev} (h:eR (A++x::B)):∃ d,dep 0 A=some d∧(bJ A).2.length=d∧dep d (x::B)=some 0:=by
 unfold eR at h
 rw[fW]at h
 obtain⟨d,h1,h2⟩:=Option.bind_eq_some_iff.1 h
 exact⟨d,h1,vI A 0 d [] [] rfl h1,h2⟩
theorem B8 {d:Nat} {x:Ev} {B:List Ev} (hx:x.kind=1) (h:dep d (x::B)=some 0):dep d B=some 0:=by
 rw[kE hx]at h;exact h
theorem WW {d:Nat} {x:Ev} {B:List Ev} (hx:x.kind=2) (h:dep d (x::B)=some 0):dep (d+1) B=some 0:=by
 rw[tV hx]at h;exact h
theorem gB (A:List Ev):(bJ A).1.length=bI A:=dV A
theorem jI {A B:List Ev} {x:Ev} (h:eR (A++x::B)) (hx:x.kind=1):(aP (A++x::B))[bI A]?=some (fP x):=by
 obtain⟨d,h1,h2,h3⟩:=eN h
 have g:=good_row h1
 have hn:=gB A
 unfold aP
 rw[dC]
 obtain⟨T,S,hTS⟩:∃ T S,bJ A=(T,S):=⟨_,_,rfl⟩
 rw[hTS]at g h2 hn ⊢
 simp only[]at g h2 hn
 rw[gK hx]
 have:=sW (I:=fun T' S'=>T'[bI A]?=some (fP x)∧bI A ∉ S'∧bI A<T'.length) ?_ ?_ ?_ B d 0 (T++[fP x]) S h2 (B8 hx h3) ⟨?_,?_,?_⟩
 ·exact this.1
 ·rintro T' S' y _ ⟨a,b,c⟩
  exact⟨by rw[List.getElem?_append_left c];exact a,b,by rw[List.length_append];omega⟩
 ·rintro T' S' y _ ⟨a,b,c⟩
  refine⟨by rw[List.getElem?_append_left c];exact a,fun hm=>?_,by rw[List.length_append];omega⟩
  rcases List.mem_append.1 hm with h4 | h4
  ·exact b h4
  ·simp at h4;omega
 ·rintro T' S' s ⟨a,b,c⟩
  refine⟨?_,fun hm=>b (List.mem_append_left _ hm),by rw[List.length_modify];exact c⟩
  rw[gH,a,Option.map_some,if_neg (fun e=>b (by rw[e];simp))]
 ·rw[List.getElem?_append_right (by omega),hn];simp
 ·exact fun hm=>by have:=g.lt _ hm;omega
 ·rw[List.length_append];simp;omega
theorem rR {A B:List Ev} {x:Ev} (h:eR (A++x::B)) (hx:x.kind=1∨x.kind=2):∃ z,(aP (A++x::B))[bI A]?=some (aF z (fP x)):=by
 rcases hx with hx | hx
 ·exact⟨1,by rw[jI h hx];unfold aF fP;rw[if_pos hx]⟩
 obtain⟨d,h1,h2,h3⟩:=eN h
 have hn:=gB A
 unfold aP
 rw[dC]
 obtain⟨T,S,hTS⟩:∃ T S,bJ A=(T,S):=⟨_,_,rfl⟩
 rw[hTS]at h2 hn ⊢
 simp only[]at h2 hn
 rw[jL hx]
 have:=sW (I:=fun T' _=>(∃ z,T'[bI A]?=some (aF z (fP x)))∧bI A<T'.length) ?_ ?_ ?_ B (d+1) 0 (T++[fP x]) (S++[T.length]) (by rw[List.length_append,h2];rfl) (WW hx h3) ⟨⟨1,?_⟩,?_⟩
 ·exact this.1
 ·rintro T' S' y _ ⟨⟨z,a⟩,c⟩
  exact⟨⟨z,by rw[List.getElem?_append_left c];exact a⟩,by rw[List.length_append];omega⟩
 ·rintro T' S' y _ ⟨⟨z,a⟩,c⟩
  exact⟨⟨z,by rw[List.getElem?_append_left c];exact a⟩,by rw[List.length_append];omega⟩
 ·rintro T' S' s ⟨⟨z,a⟩,c⟩
  refine⟨?_,by rw[List.length_modify];exact c⟩
  rw[gH,a,Option.map_some]
  by_cases e:s=bI A
  ·rw[if_pos e];exact⟨_,rfl⟩
  ·rw[if_neg e];exact⟨z,rfl⟩
 ·rw[List.getElem?_append_right (by omega),hn]
  have:aF 1 (fP x)=fP x:=by unfold aF fP;split<;>rfl
  rw[this];simp
 ·rw[List.length_append];simp;omega
theorem OK {A B:List Ev} {x x':Ev} (h:eR (A++x::B)) (hx:x.kind=1) (hx':x'.kind=1):(aP (A++x::B)).set (bI A) (fP x')=aP (A++x'::B):=by
 obtain⟨d,h1,h2,h3⟩:=eN h
 have g:=good_row h1
 have hn:=gB A
 unfold aP
 rw[dC,dC]
 obtain⟨T,S,hTS⟩:∃ T S,bJ A=(T,S):=⟨_,_,rfl⟩
 rw[hTS]at g h2 hn ⊢
 simp only[]at g h2 hn
 rw[gK hx,gK hx']
 have:=B6 (I:=fun T1 S1 T2 S2=>T2=T1.set (bI A) (fP x')∧S2=S1∧bI A ∉ S1∧bI A<T1.length) ?_ ?_ ?_ B d 0 (T++[fP x]) S (T++[fP x']) S h2 (B8 hx h3) ⟨?_,rfl,?_,?_⟩
 ·exact this.1.symm
 ·rintro T1 S1 _ _ y _ ⟨rfl,rfl,b,c⟩
  exact⟨by rw[List.set_append_left _ _ c],rfl,b,by rw[List.length_append];omega⟩
 ·rintro T1 S1 _ _ y _ ⟨rfl,rfl,b,c⟩
  refine⟨by rw[List.set_append_left _ _ c],by rw[List.length_set],fun hm=>?_,by rw[List.length_append];omega⟩
  rcases List.mem_append.1 hm with h4 | h4
  ·exact b h4
  ·simp at h4;omega
 ·rintro T1 S1 s _ _ ⟨rfl,rfl,b,c⟩
  refine⟨S1,s,rfl,?_,rfl,fun hm=>b (List.mem_append_left _ hm),by rw[List.length_modify];exact c⟩
  rw[List.length_set]
  have hne:bI A≠s:=fun e=>b (by rw[e];simp)
  apply List.ext_getElem?
  intro j
  rw[gH,List.getElem?_set,List.getElem?_set,gH,List.length_modify]
  by_cases e1:bI A=j
  ·subst e1
   rw[if_pos rfl,if_pos rfl]
   rw[if_pos c,Option.map_some,if_neg (fun e=>hne e.symm)]
  ·rw[if_neg e1,if_neg e1]
 ·rw[List.set_append_right _ _ (by omega),hn];simp
 ·exact fun hm=>by have:=g.lt _ hm;omega
 ·rw[List.length_append];simp;omega
theorem zX {A B:List Ev} {x:Ev} (h:eR (A++x::B)) (hx:x.kind=1):bA (aP (A++x::B)) (bI A)=aP (A++B):=by
 obtain⟨d,h1,h2,h3⟩:=eN h
 have g:=good_row h1
 have hn:=gB A
 unfold aP
 rw[dC]
 have e2:bJ (A++B)=B.foldl kB (bJ A):=by unfold bJ;rw[List.foldl_append]
 rw[e2]
 obtain⟨T,S,hTS⟩:∃ T S,bJ A=(T,S):=⟨_,_,rfl⟩
 rw[hTS]at g h2 hn ⊢
 simp only[]at g h2 hn
 rw[gK hx]
 have:=B6 (I:=fun T1 S1 T2 S2=>T2=bA T1 (bI A)∧S2=S1.map (NJ (bI A))∧bI A ∉ S1∧bI A<T1.length∧∀ s ∈ S1,s<T1.length) ?_ ?_ ?_ B d 0 (T++[fP x]) S T S h2 (B8 hx h3) ⟨?_,?_,?_,?_,?_⟩
 ·exact this.1.symm
 ·rintro T1 S1 _ _ y _ ⟨rfl,rfl,b,c,e⟩
  exact⟨(tP c _ (vV y)).symm,rfl,b,by rw[List.length_append];omega,fun s hs=>by rw[List.length_append];have:=e s hs;omega⟩
 ·rintro T1 S1 _ _ y _ ⟨rfl,rfl,b,c,e⟩
  refine⟨(tP c _ (vV y)).symm,?_,fun hm=>?_,by rw[List.length_append];omega,fun s hs=>?_⟩
  ·rw[List.map_append]
   congr 1
   have:=iX c
   unfold NJ
   simp only[List.map_cons,List.map_nil]
   rw[if_neg (by omega),← this];simp
  ·rcases List.mem_append.1 hm with h4 | h4
   ·exact b h4
   ·simp at h4;omega
  ·rw[List.length_append]
   rcases List.mem_append.1 hs with h4 | h4
   ·have:=e s h4;omega
   ·simp at h4;subst h4;simp
 ·rintro T1 S1 s _ _ ⟨rfl,rfl,b,c,e⟩
  have hne:bI A≠s:=fun e=>b (by rw[e];simp)
  refine⟨S1.map (NJ (bI A)),NJ (bI A) s,by simp,?_,rfl,fun hm=>b (List.mem_append_left _ hm),by rw[List.length_modify];exact c,fun u hu=>by rw[List.length_modify];exact e u (List.mem_append_left _ hu)⟩
  exact(B7 c (e s (by simp)) hne).symm
 ·apply List.ext_getElem?
  intro j
  rw[fI (by rw[List.length_append];simp;omega)]
  rcases Nat.lt_or_ge j T.length with hj | hj
  ·rw[if_pos (by omega),List.getElem?_append_left hj]
   obtain⟨y,hy⟩:=fV (l:=T) hj
   rw[hy]
   simp only[Option.map_some,Option.some.injEq]
   rw[if_neg]
   by_cases hjs:j ∈ S
   ·rw[g.one j hjs y hy];omega
   ·have:=(g.fits j hjs y hy).2;omega
  ·rw[if_neg (by omega),List.getElem?_eq_none hj,List.getElem?_eq_none (by rw[List.length_append];simp;omega)]
 ·apply List.ext_getElem?
  intro j
  rw[List.getElem?_map]
  cases hs:S[j]? with
  | none=>rfl
  | some s =>
   have:=g.lt s (List.mem_of_getElem? hs)
   unfold NJ
   simp only[Option.map_some,Option.some.injEq]
   rw[if_pos (by omega)]
 ·exact fun hm=>by have:=g.lt _ hm;omega
 ·rw[List.length_append];simp;omega
 ·exact fun s hs=>by rw[List.length_append];have:=g.lt s hs;omega
theorem eR.put {A B:List Ev} {x x':Ev} (h:eR (A++x::B)) (hx:x.kind=1) (hx':x'.kind=1):eR (A++x'::B):=by
 obtain⟨d,h1,-,h3⟩:=eN h
 unfold eR
 rw[fW,h1]
 show dep d (x'::B)=some 0
 rw[kE hx'];exact B8 hx h3
theorem rF {A B:List Ev} {x:Ev} (h:eR (A++x::B)) (hx:x.kind=1∨x.kind=2) {j:Nat} (hj:j<bI A) {y:Nd} (hy:(aP (A++x::B))[j]?=some y):((bI A:Int)<(j:Int)+y.size↔j ∈ (bJ A).2):=by
 obtain⟨d,h1,h2,h3⟩:=eN h
 have g:=good_row h1
 have hn:=gB A
 unfold aP at hy
 have hS0:(bJ (A++x::B)).2=[]:=eR.none h
 rw[dC]at hy hS0
 obtain⟨T,S,hTS⟩:∃ T S,bJ A=(T,S):=⟨_,_,rfl⟩
 rw[hTS]at g h2 hn hy hS0 ⊢
 simp only[]at g h2 hn ⊢
 let I:List Nd→List Nat→Prop:=fun T' S'=>bI A<T'.length∧∀ j<bI A,(j ∈ S'→j ∈ S)∧∀ y,T'[j]?=some y→(j ∈ S→j ∉ S'→(bI A:Int)<(j:Int)+y.size)∧(j ∉ S→(j:Int)+y.size≤(bI A:Int))
 have htx:∀ T' S' x,x.kind=1→I T' S'→I (T'++[fP x]) S':=fun T' S' x _ ⟨a,b⟩=>⟨by rw[List.length_append];omega,fun j hj=>⟨(b j hj).1,fun y hy=>by
  rw[List.getElem?_append_left (by omega)]at hy
  exact(b j hj).2 y hy⟩⟩
 have hop:∀ T' S' x,x.kind=2→I T' S'→I (T'++[fP x]) (S'++[T'.length]):=fun T' S' x _ ⟨a,b⟩=>⟨by rw[List.length_append];omega,fun j hj=>⟨fun hm=>by
   rcases List.mem_append.1 hm with h4 | h4
   ·exact(b j hj).1 h4
   ·simp at h4;omega,fun y hy=>by
  rw[List.getElem?_append_left (by omega)]at hy
  obtain⟨c1,c2⟩:=(b j hj).2 y hy
  exact⟨fun h5 h6=>c1 h5 (fun h7=>h6 (List.mem_append_left _ h7)),c2⟩⟩⟩
 have hcl:∀ T' S' s,I T' (S'++[s])→I (T'.modify s (aF ((T'.length:Int) - (s:Int)))) S':=fun T' S' s ⟨a,b⟩=>⟨by rw[List.length_modify];exact a,fun j hj=>⟨fun hm=>(b j hj).1 (List.mem_append_left _ hm),fun y hy=>by
  rw[gH]at hy
  obtain⟨z,hz,he⟩:=Option.map_eq_some_iff.1 hy
  obtain⟨c1,c2⟩:=(b j hj).2 z hz
  by_cases e:s=j
  ·rw[if_pos e]at he
   subst he
   subst e
   refine⟨fun _ _=>by unfold aF;simp only[];omega,fun h5=>absurd ((b s hj).1 (by simp)) h5⟩
  ·rw[if_neg e]at he
   subst he
   exact⟨fun h5 h6=>c1 h5 (fun h7=>by
    rcases List.mem_append.1 h7 with h8 | h8
    ·exact h6 h8
    ·simp at h8;exact e h8.symm),c2⟩⟩⟩
 have base:∀ j<bI A,∀ y,T[j]?=some y→(j ∉ S→(j:Int)+y.size≤(bI A:Int)):=fun j hj y hy hs=>by
  have:=(g.fits j hs y hy).2;omega
 have fin:I (B.foldl kB (kB (T,S) x)).1 (B.foldl kB (kB (T,S) x)).2:=by
  rcases hx with hx | hx
  ·rw[gK hx]
   refine sW (I:=I) htx hop hcl B d 0 (T++[fP x]) S h2 (B8 hx h3) ⟨by rw[List.length_append];simp;omega,fun j hj=>⟨id,fun y hy=>?_⟩⟩
   rw[List.getElem?_append_left (by omega)]at hy
   exact⟨fun a b=>absurd a b,base j hj y hy⟩
  ·rw[jL hx]
   refine sW (I:=I) htx hop hcl B (d+1) 0 (T++[fP x]) (S++[T.length]) (by rw[List.length_append,h2];rfl) (WW hx h3) ⟨by rw[List.length_append];simp;omega,fun j hj=>⟨fun hm=>?_,fun y hy=>?_⟩⟩
   ·rcases List.mem_append.1 hm with h4 | h4
    ·exact h4
    ·simp at h4;omega
   ·rw[List.getElem?_append_left (by omega)]at hy
    exact⟨fun a b=>absurd (List.mem_append_left _ a) b,base j hj y hy⟩
 obtain⟨-,fin⟩:=fin
 obtain⟨-,c⟩:=fin j hj
 obtain⟨c1,c2⟩:=c y hy
 rw[hS0]at c1
 constructor
 ·intro hlt
  rcases Classical.em (j ∈ S)with h4 | h4
  ·exact h4
  ·have:=c2 h4;omega
 ·intro hm
  exact c1 hm (by simp)
theorem WX {t:List Nd} {a m:Nat} {x:Nd} (hx:t[m]?=some x) (hin:(a:Int)<(m:Int)+x.size):∀ n,m<n→(∀ j,m<j→j<n→∀ y,t[j]?=some y→¬ (a:Int)<(j:Int)+y.size)→zU t a n=(m:Int):=by
 intro n
 induction n with
 | zero=>intro h;omega
 | succ n ih =>
  intro hm hno
  unfold zU
  rcases Nat.eq_or_lt_of_le (show m≤n by omega)with e | e
  ·subst e
   rw[hx]
   simp only[]
   rw[if_pos hin]
  ·have:=ih e (fun j h1 h2=>hno j h1 (by omega))
   cases hy:t[n]? with
   | none=>exact this
   | some y =>
    simp only[]
    rw[if_neg (hno n e (by omega) y hy)];exact this
theorem SK {t:List Nd} {a:Nat}:∀ n:Nat,(∀ j,j<n→∀ y,t[j]?=some y→¬ (a:Int)<(j:Int)+y.size)→zU t a n = -1:=by
 intro n
 induction n with
 | zero=>intro _;rfl
 | succ n ih =>
  intro hno
  unfold zU
  have:=ih (fun j h=>hno j (by omega))
  cases hy:t[n]? with
  | none=>exact this
  | some y =>
   simp only[]
   rw[if_neg (hno n (by omega) y hy)];exact this
def aDA (S:List Nat):Int:=match S.getLast? with | some s=>(s:Int) | none=>-1
theorem PH {A B:List Ev} {x:Ev} (h:eR (A++x::B)) (hx:x.kind=1∨x.kind=2):B4 (aP (A++x::B)) (bI A)=aDA (bJ A).2:=by
 obtain⟨d,h1,-,-⟩:=eN h
 have g:=good_row h1
 have hn:=gB A
 have hl:bI A<(aP (A++x::B)).length:=by
  rw[dV,bC,show bI (x::B)=bI [x]+bI B from bC [x] B,show bI [x]=1 by unfold bI;rcases hx with hx | hx<;>simp[hx]]
  omega
 have key:=fun j (hj:j<bI A) y hy=>rF h hx (j:=j) hj (y:=y) hy
 unfold B4 aDA
 rcases List.eq_nil_or_concat (bJ A).2 with hS | ⟨S',s,hS⟩
 ·rw[hS]
  refine SK _ (fun j hj y hy hlt=>?_)
  have:=(key j hj y hy).1 hlt
  rw[hS]at this;cases this
 ·rw[List.concat_eq_append]at hS
  rw[hS,List.getLast?_concat]
  have hs:s ∈ (bJ A).2:=by rw[hS];simp
  have hsl:=g.lt s hs
  obtain⟨y,hy⟩:=fV (l:=aP (A++x::B)) (i:=s) (by omega)
  refine WX hy ((key s (by omega) y hy).2 hs) _ (by omega) (fun j h5 h6 z hz hlt=>?_)
  have hm:=(key j h6 z hz).1 hlt
  have hr:=g.vH
  rw[hS]at hm hr
  rcases List.mem_append.1 hm with h7 | h7
  ·have:=(xC hr).2 j h7;omega
  ·simp at h7;omega
end Go.Proofs.YtgpihfacmpbpaaaGreatDoor.Nu
namespace Go.Proofs.YtgpihfacmpbpaaaGreatDoor.Nu
open Go.RowKit Tr
def iV (K:Nat→ByteArray × Int) (O:Nat→Int):Nat→List Lx.Lx→List Ev
 | _,[]=>[]
 | p,x::l=>if x.kind=1 then jC (K p).1 (K p).2::iV K O (p+1) l else if x.kind=2 then mC x.name (O p)::iV K O (p+1) l else lT::iV K O p l
def eC (L:List Lx.Lx):Nat:=(L.filter fun x=>x.kind==1 || x.kind==2).length
theorem mT (L M:List Lx.Lx):eC (L++M)=eC L+eC M:=by unfold eC;rw[List.filter_append,List.length_append]
theorem nY {K:Nat→ByteArray × Int} {O:Nat→Int} {p:Nat} {x:Lx.Lx} {l:List Lx.Lx} (h:x.kind=1):iV K O p (x::l)=jC (K p).1 (K p).2::iV K O (p+1) l:=by rw[iV,if_pos h]
theorem uA {K:Nat→ByteArray × Int} {O:Nat→Int} {p:Nat} {x:Lx.Lx} {l:List Lx.Lx} (h:x.kind=2):iV K O p (x::l)=mC x.name (O p)::iV K O (p+1) l:=by rw[iV,if_neg (by omega),if_pos h]
theorem wT {K:Nat→ByteArray × Int} {O:Nat→Int} {p:Nat} {x:Lx.Lx} {l:List Lx.Lx} (h1:x.kind≠1) (h2:x.kind≠2):iV K O p (x::l)=lT::iV K O p l:=by rw[iV,if_neg h1,if_neg h2]
theorem eX (K:Nat→ByteArray × Int) (O:Nat→Int):∀ (L M:List Lx.Lx) (p:Nat),iV K O p (L++M)=iV K O p L++iV K O (p+eC L) M:=by
 intro L
 induction L with
 | nil=>intro M p;rfl
 | cons x L ih =>
  intro M p
  rw[List.cons_append,show eC (x::L)=eC [x]+eC L from mT [x] L]
  by_cases h1:x.kind=1
  ·rw[nY h1,nY h1,ih,show eC [x]=1 by unfold eC;simp[h1],Nat.add_assoc];rfl
  ·by_cases h2:x.kind=2
   ·rw[uA h2,uA h2,ih,show eC [x]=1 by unfold eC;simp[h2],Nat.add_assoc];rfl
   ·rw[wT h1 h2,wT h1 h2,ih,show eC [x]=0 by unfold eC;simp[h1,h2],Nat.zero_add];rfl
theorem mD {F:List Nd} {L:List Lx.Lx} (h:Wf F L):eC L=F.length:=by
 induction h with
 | nil=>rfl
 | text s pl _ ih=>rw[mT,ih,List.length_append];rfl
 | @node F G L M k pl _ _ hk ih1 ih2 =>
  rw[mT,show eC (jJ k::(M++[nB]))=1+(eC M+0) by rw[show jJ k::(M++[nB])=[jJ k]++(M++[nB]) from rfl,mT,mT];rfl,ih1,ih2,List.length_append,List.length_cons]
  omega
theorem kD (K:Nat→ByteArray × Int) (O:Nat→Int) (p k:Nat) (M:List Lx.Lx):iV K O p (jJ k::(M++[nB]))=mC k (O p)::(iV K O (p+1) M++[lT]):=by
 rw[uA rfl,eX];rfl
theorem nX {F:List Nd} {L:List Lx.Lx} (h:Wf F L) (K:Nat→ByteArray × Int) (O:Nat→Int):∀ p,eR (iV K O p L):=by
 induction h with
 | nil=>intro p;rfl
 | text s pl _ ih=>intro p;rw[eX];exact(ih p).app (eR.text _ _)
 | node k pl _ _ hk ih1 ih2=>intro p;rw[eX,kD];exact(ih1 p).app ((ih2 _).node _ _)
def aAQ (K:Nat→ByteArray × Int) (O:Nat→Int) (j:Nat) (x:Nd):Nd:=if x.kind=46 then ⟨46,(K j).1,(K j).2,1⟩ else ⟨x.kind,aA,O j,x.size⟩
theorem aDB {F:List Nd} {L:List Lx.Lx} (h:Wf F L) (K:Nat→ByteArray × Int) (O:Nat→Int):∀ p,aP (iV K O p L)=F.mapIdx fun j x=>aAQ K O (p+j) x:=by
 induction h with
 | nil=>intro p;rfl
 | @text F L s pl hF ih =>
  intro p
  rw[eX,show iV K O (p+eC L) [pB s]=[jC (K (p+eC L)).1 (K (p+eC L)).2] from nY rfl,oH (nX hF K O p) (eR.text _ _),ih p,List.mapIdx_append,mD hF,FD]
  simp[aAQ]
 | @node F G L M k pl hF hG hk ih1 ih2 =>
  intro p
  rw[eX,kD,oH (nX hF K O p) ((nX hG K O _).node _ _),ih1 p,wO (nX hG K O _),ih2,List.mapIdx_append,List.mapIdx_cons,mD hF]
  congr 1
  congr 1
  ·unfold aAQ
   rw[if_neg hk]
   simp
  ·congr 1
   funext j x
   congr 1
   omega
theorem WY {F:List Nd} {L:List Lx.Lx} (h:Wf F L):∀ x ∈ F,(x.kind=46→x.size=1)∧(x.kind≠46→x.text=aA):=by
 induction h with
 | nil=>intro x hx;cases hx
 | text s pl _ ih =>
  intro x hx
  rcases List.mem_append.1 hx with h | h
  ·exact ih x h
  ·simp at h;subst h;exact⟨fun _=>rfl,fun h=>absurd rfl h⟩
 | node k pl _ _ hk ih1 ih2 =>
  intro x hx
  rcases List.mem_append.1 hx with h | h
  ·exact ih1 x h
  ·rcases List.mem_cons.1 h with rfl | h
   ·exact⟨fun e=>absurd e hk,fun _=>rfl⟩
   ·exact ih2 x h
theorem aAR {F:List Nd} {L:List Lx.Lx} (h:Wf F L) (K:Nat→ByteArray × Int) (O:Nat→Int):∀ p,∀ x ∈ iV K O p L,(x.kind=2→x.name≠46):=by
 induction h with
 | nil=>intro p x hx;cases hx
 | text s pl _ ih =>
  intro p x hx
  rw[eX]at hx
  rcases List.mem_append.1 hx with h | h
  ·exact ih p x h
  ·rw[show iV K O (p+_) [pB s]=[jC _ _] from rfl,List.mem_singleton]at h
   subst h;exact fun e=>by cases e
 | node k pl _ _ hk ih1 ih2 =>
  intro p x hx
  rw[eX,kD]at hx
  rcases List.mem_append.1 hx with h | h
  ·exact ih1 p x h
  ·rcases List.mem_cons.1 h with rfl | h
   ·exact fun _=>hk
   ·rcases List.mem_append.1 h with h | h
    ·exact ih2 _ x h
    ·rw[List.mem_singleton]at h;subst h;exact fun e=>by cases e
def vD (t:List Nd) (i:Nat):ByteArray × Int:=match t[i]? with | some x=>(x.text,x.place) | none=>(aA,0)
def asNew (t:List Nd) (i:Nat):ByteArray × Int:=(newText t i,lO t i)
theorem IB {t:List Nd} {L:List Lx.Lx} (h:Wf t L):aP (iV (asNew t) (aU t) 0 L)=jM t:=by
 rw[aDB h]
 apply List.ext_getElem?
 intro j
 rw[List.getElem?_mapIdx]
 cases hx:t[j]? with
 | none =>
  rw[List.getElem?_eq_none (by rw[mE];exact List.getElem?_eq_none_iff.1 hx)];rfl
 | some x =>
  obtain⟨h1,h2⟩:=WY h x (List.mem_of_getElem? hx)
  rw[sO hx,Option.map_some,Nat.zero_add]
  unfold aAQ asNew aU vB
  rw[hx]
  simp only[]
  obtain⟨k,tx,pl,sz⟩:=x
  simp only[]at h1 h2
  by_cases hk:k=46
  ·rw[if_pos hk,if_pos hk,← hk,← h1 hk]
  ·rw[if_neg hk,if_neg hk,← h2 hk]
def cD (acc:List Ev) (x:Ev):List Ev :=
 if x.kind=1 then (if x.text.size=0 then acc else match acc.getLast? with | some y=>if y.kind=1 then acc.dropLast++[{ y with text:=y.text++x.text }] else acc++[x] | none=>acc++[x]) else acc++[x]
def bM (L:List Ev):List Ev:=L.foldl cD []
def qO (acc:List Ev):Prop:=∀ y,acc.getLast?=some y→y.kind≠1
theorem bQ {acc:List Ev} {x:Ev} (h:x.kind≠1):cD acc x=acc++[x]:=by unfold cD;rw[if_neg h]
theorem cI {acc:List Ev} {x:Ev} (h:x.kind=1) (h0:x.text.size=0):cD acc x=acc:=by unfold cD;rw[if_pos h,if_pos h0]
theorem bX {acc:List Ev} {x y:Ev} (h:x.kind=1) (h0:x.text.size≠0) (hy:y.kind=1):cD (acc++[y]) x=acc++[{ y with text:=y.text++x.text }]:=by
 unfold cD
 rw[if_pos h,if_neg h0,List.getLast?_concat]
 simp only[]
 rw[if_pos hy,List.dropLast_concat]
theorem aI {acc:List Ev} {x:Ev} (h:x.kind=1) (h0:x.text.size≠0) (ha:qO acc):cD acc x=acc++[x]:=by
 unfold cD
 rw[if_pos h,if_neg h0]
 cases hl:acc.getLast? with
 | none=>rfl
 | some y=>simp only[];rw[if_neg (ha y hl)]
theorem cC:qO []:=fun y h=>by cases h
theorem bK {acc:List Ev} {x:Ev} (h:x.kind≠1):qO (acc++[x]):=fun y hy=>by
 rw[List.getLast?_concat]at hy;cases hy;exact h
theorem SL {acc:List Ev} (ha:qO acc) (B:List Ev) (x:Ev):cD (acc++B) x=acc++cD B x:=by
 by_cases h:x.kind=1
 ·by_cases h0:x.text.size=0
  ·rw[cI h h0,cI h h0]
  ·rcases List.eq_nil_or_concat B with rfl | ⟨B',y,rfl⟩
   ·rw[List.append_nil,aI h h0 ha,aI h h0 cC];rfl
   ·rw[List.concat_eq_append]
    by_cases hy:y.kind=1
    ·rw[← List.append_assoc,bX h h0 hy,bX h h0 hy,List.append_assoc]
    ·rw[← List.append_assoc,aI h h0 (bK hy),aI h h0 (bK hy)];simp
 ·rw[bQ h,bQ h,List.append_assoc]
theorem SM {acc:List Ev} (ha:qO acc):∀ (M B:List Ev),M.foldl cD (acc++B)=acc++M.foldl cD B:=by
 intro M
 induction M with
 | nil=>intro B;rfl
 | cons x M ih=>intro B;rw[List.foldl_cons,List.foldl_cons,SL ha,ih]
theorem EE {A:List Ev} (ha:qO (bM A)) (M:List Ev):bM (A++M)=bM A++bM M:=by
 unfold bM
 rw[List.foldl_append]
 have:=SM ha M []
 rw[List.append_nil]at this
 exact this
theorem fQ (A:List Ev) (x:Ev):bM (A++[x])=cD (bM A) x:=by unfold bM;rw[List.foldl_append];rfl
theorem WZ (k:Nat) (pl:Int):(mC k pl).kind≠1:=fun h=>by cases h
theorem M5 (A M:List Ev) (k:Nat) (pl:Int):bM (A++mC k pl::(M++[lT]))=bM A++mC k pl::(bM M++[lT]):=by
 rw[show A++mC k pl::(M++[lT])=((A++[mC k pl])++M)++[lT] by simp,fQ,bQ (show lT.kind≠1 by decide)]
 have e:bM (A++[mC k pl])=bM A++[mC k pl]:=by rw[fQ,bQ (WZ k pl)]
 rw[EE (by rw[e];exact bK (WZ k pl)),e]
 simp
theorem DH (n:Nat) (acc M:List Ev) (x:Ev):dep n (cD acc x++M)=dep n (acc++x::M):=by
 by_cases h:x.kind=1
 ·have hx:∀ m,dep m (x::M)=dep m M:=fun m=>kE h
  by_cases h0:x.text.size=0
  ·rw[cI h h0,fW,fW]
   congr 1
   funext m;exact(hx m).symm
  ·rcases List.eq_nil_or_concat acc with rfl | ⟨B',y,rfl⟩
   ·rw[aI h h0 cC];rfl
   ·rw[List.concat_eq_append]
    by_cases hy:y.kind=1
    ·rw[bX h h0 hy,List.append_assoc,List.append_assoc,fW,fW]
     congr 1
     funext m
     show dep m ({ y with text:=y.text++x.text }::M)=dep m (y::(x::M))
     rw[kE (x:={ y with text:=y.text++x.text }) hy,kE hy,hx]
    ·rw[aI h h0 (bK hy)];simp
 ·rw[bQ h];simp
theorem J9 (n:Nat):∀ (L acc:List Ev),dep n (L.foldl cD acc)=dep n (acc++L):=by
 intro L
 induction L with
 | nil=>intro acc;rw[List.append_nil];rfl
 | cons x L ih=>intro acc;rw[List.foldl_cons,ih,DH]
theorem eR.join {L:List Ev} (h:eR L):eR (bM L):=by unfold eR bM;rw[J9];exact h
def gG (t:List Nd):List Nd:=match fJ t 0 t.length with | some L=>aP (bM (iV (asNew t) (aU t) 0 L)) | none=>[]
theorem iJ {t:List Nd} {L:List Lx.Lx} (h:Wf t L):gG t=aP (bM (iV (asNew t) (aU t) 0 L)):=by unfold gG;rw[FE h]
def KA (x:Ev):Bool:=!(x.kind==1 && x.text.size==0)
def lZ (L:List Ev):List Ev:=L.filter KA
theorem aAS:∀ (L acc:List Ev),(lZ L).foldl cD acc=L.foldl cD acc:=by
 intro L
 induction L with
 | nil=>intro acc;rfl
 | cons x L ih =>
  intro acc
  unfold lZ
  by_cases h:KA x=true
  ·rw[List.filter_cons_of_pos h,List.foldl_cons,List.foldl_cons];exact ih _
  ·rw[List.filter_cons_of_neg h,List.foldl_cons]
   have h2:KA x=false:=by simpa using h
   unfold KA at h2
   simp at h2
   rw[cI h2.1 (by rw[h2.2];rfl)]
   exact ih acc
end Go.Proofs.YtgpihfacmpbpaaaGreatDoor.Nu
namespace Go.Proofs.YtgpihfacmpbpaaaGreatDoor.Nu
open Go.RowKit Tr
def Ops (L:List Ev):Prop:=∀ x ∈ L,x.kind=2→x.name≠46
def isN (x:Ev):Bool:=x.kind==1 || x.kind==2
theorem B9 (L:List Ev):bI L=(L.filter isN).length:=rfl
theorem EJ:∀ {B:List Ev},0<bI B→∃ C x B',B=C++x::B'∧(∀ y ∈ C,y.kind≠1∧y.kind≠2)∧(x.kind=1∨x.kind=2):=by
 intro B
 induction B with
 | nil=>intro h;cases h
 | cons y B ih =>
  intro h
  by_cases hy:isN y=true
  ·refine⟨[],y,B,rfl,by simp,?_⟩
   unfold isN at hy
   simpa using hy
  ·have hz:bI [y]=0:=by rw[B9];simp[hy]
   rw[show y::B=[y]++B from rfl,bC,hz]at h
   obtain⟨C,x,B',rfl,h1,h2⟩:=ih (by omega)
   refine⟨y::C,x,B',rfl,fun z hz=>?_,h2⟩
   rcases List.mem_cons.1 hz with rfl | hz
   ·unfold isN at hy;simp at hy;exact hy
   ·exact h1 z hz
theorem PI {B:List Ev} (h:bI B=0):∀ y ∈ B,y.kind≠1∧y.kind≠2:=fun y hy=>by
 rw[B9,List.length_eq_zero_iff,List.filter_eq_nil_iff]at h
 have:=h y hy
 unfold isN at this
 simp at this
 exact this
theorem qB {C:List Ev} (h:∀ y ∈ C,y.kind≠1∧y.kind≠2):bI C=0:=by
 rw[B9,List.length_eq_zero_iff,List.filter_eq_nil_iff]
 intro y hy
 unfold isN
 simp
 exact h y hy
theorem dA {x:Ev} (h:x.kind=1∨x.kind=2):bI [x]=1:=by unfold bI;rcases h with h | h<;>simp[h]
theorem mG (x:Ev) (B:List Ev):bI (x::B)=bI [x]+bI B:=bC [x] B
theorem tC (A B:List Ev):lZ (A++B)=lZ A++lZ B:=List.filter_append ..
theorem CA {C:List Ev} (h:∀ y ∈ C,y.kind≠1∧y.kind≠2):lZ C=C:=by
 refine List.filter_eq_self.2 (fun y hy=>?_)
 have:=(h y hy).1
 unfold KA
 simp[this]
theorem aDD:∀ (L:List Ev) (n:Nat),dep n (lZ L)=dep n L:=by
 intro L
 induction L with
 | nil=>intro n;rfl
 | cons x L ih =>
  intro n
  unfold lZ
  by_cases h:KA x=true
  ·rw[List.filter_cons_of_pos h]
   by_cases h1:x.kind=1
   ·rw[kE h1,kE h1];exact ih n
   ·by_cases h2:x.kind=2
    ·rw[tV h2,tV h2];exact ih (n+1)
    ·cases n with
     | zero=>rw[pE h1 h2,pE h1 h2]
     | succ m=>rw[tW h1 h2,tW h1 h2];exact ih m
  ·rw[List.filter_cons_of_neg h]
   have h2:KA x=false:=by simpa using h
   unfold KA at h2
   simp at h2
   rw[kE h2.1]
   exact ih n
theorem eR.NK {A B:List Ev} (h:eR (A++B)):eR (lZ A++B):=by
 unfold eR at *
 rw[fW]at h ⊢
 rw[aDD];exact h
def W4 (L:List Ev) (out:List Nd) (i:Nat):Prop:=∃ A B,L=A++B∧out=aP (lZ A++B)∧i=bI (lZ A)
theorem SN (L:List Ev):W4 L (aP L) 0:=⟨[],L,rfl,rfl,rfl⟩
theorem qC (z:Int) (x:Ev):(aF z (fP x)).kind=(fP x).kind∧(aF z (fP x)).text=(fP x).text:=⟨rfl,rfl⟩
theorem W5 {L:List Ev} {out:List Nd} {i:Nat} (hb:eR L) (ho:Ops L) (h:W4 L out i) (hi:i<out.length) {y:Nd} (hy:out[i]?=some y) :
  if y.kind=46∧y.text.size=0 then W4 L (bA out i) i else W4 L out (i+1):=by
 obtain⟨A,B,rfl,rfl,rfl⟩:=h
 rw[dV,bC]at hi
 obtain⟨C,x,B',rfl,hC,hx⟩:=EJ (B:=B) (by omega)
 have hb2:eR ((lZ A++C)++x::B'):=by rw[List.append_assoc];exact hb.NK
 have hn:bI (lZ A++C)=bI (lZ A):=by rw[bC,qB hC];omega
 obtain⟨z,hz⟩:=rR hb2 hx
 rw[hn,List.append_assoc,hy]at hz
 cases hz
 obtain⟨e1,e2⟩:=qC z x
 rw[e1,e2]
 have e3:lZ (A++C)=lZ A++C:=by rw[tC,CA hC]
 have stay:KA x=true→W4 (A++(C++x::B')) (aP (lZ A++(C++x::B'))) (bI (lZ A)+1):=fun hb=>by
  refine⟨A++C++[x],B',by simp,?_,?_⟩
  ·rw[tC,e3,show lZ [x]=[x] by unfold lZ;rw[List.filter_cons_of_pos hb];rfl]
   congr 1;simp
  ·rw[tC,e3,show lZ [x]=[x] by unfold lZ;rw[List.filter_cons_of_pos hb];rfl,bC,hn,dA hx]
 rcases hx with h1 | h1
 ·have hk:fP x=⟨46,x.text,x.place,1⟩:=by unfold fP;rw[if_pos h1]
  rw[hk]
  simp only[]
  by_cases h0:x.text.size=0
  ·rw[if_pos ⟨trivial,h0⟩]
   have hc:=zX hb2 h1
   rw[hn,List.append_assoc]at hc
   refine⟨A++C++[x],B',by simp,?_,?_⟩
   ·rw[hc,tC,e3,show lZ [x]=[] by unfold lZ KA;simp[h1,h0]]
    simp
   ·rw[tC,e3,show lZ [x]=[] by unfold lZ KA;simp[h1,h0],List.append_nil,hn]
  ·rw[if_neg (fun h=>h0 h.2)]
   exact stay (by unfold KA;simp[h0])
 ·have hk:fP x=⟨x.name,aA,x.place,1⟩:=by unfold fP;rw[if_neg (by omega)]
  rw[hk]
  simp only[]
  rw[if_neg (fun h=>ho x (by simp) h1 h.1)]
  exact stay (by unfold KA;simp[h1])
theorem aAT {L:List Ev} {out:List Nd} {i:Nat} (h:W4 L out i) (hi:out.length≤i):out=aP (lZ L):=by
 obtain⟨A,B,rfl,rfl,rfl⟩:=h
 rw[dV,bC]at hi
 have hB:=PI (B:=B) (by omega)
 rw[tC,CA hB]
def TX (L:List Ev) (out:List Nd) (i:Nat):Prop:=∃ A x B,L=A++x::B∧(x.kind=1∨x.kind=2)∧out=aP (bM (A++[x])++B)∧i=bI (bM (A++[x]))
theorem SO {L:List Ev} (hb:eR L) (hne:L=[]∨lZ L=L):L=[]∨TX L (aP L) 1:=by
 cases L with
 | nil=>exact .inl rfl
 | cons x B =>
  have hne:=hne.resolve_left (by simp)
  have hx:x.kind=1∨x.kind=2:=by
   rcases Classical.em (x.kind=1)with h | h
   ·exact .inl h
   ·rcases Classical.em (x.kind=2)with h2 | h2
    ·exact .inr h2
    ·unfold eR at hb;rw[pE h h2]at hb;cases hb
  have hj:bM ([]++[x])=[x]:=by
   rw[fQ]
   show cD [] x=[x]
   rcases hx with h1 | h1
   ·rw[aI h1 ?_ cC]
    ·rfl
    ·intro h0
     have hm:x ∈ lZ (x::B):=by rw[hne];simp
     have:=(List.mem_filter.1 hm).2
     unfold KA at this
     simp[h1,h0]at this
   ·rw[bQ (by omega)];rfl
  exact .inr ⟨[],x,B,rfl,hx,by rw[hj];rfl,by rw[hj,dA hx]⟩
theorem F9:∀ {C:List Ev},(∀ y ∈ C,y.kind≠1∧y.kind≠2)→∀ acc,C.foldl cD acc=acc++C:=by
 intro C
 induction C with
 | nil=>intro _ acc;simp
 | cons y C ih=>intro h acc;rw[List.foldl_cons,bQ (h y (by simp)).1,ih (fun z hz=>h z (by simp[hz]))];simp
theorem vW {A C:List Ev} (h:∀ y ∈ C,y.kind≠1∧y.kind≠2):bM (A++C)=bM A++C:=by
 unfold bM;rw[List.foldl_append,F9 h]
theorem SP {A:List Ev} {x:Ev} (h1:x.kind=1) (h0:x.text.size≠0):∃ P tx,bM (A++[x])=P++[tx]∧tx.kind=1:=by
 rw[fQ]
 rcases List.eq_nil_or_concat (bM A)with h | ⟨P,y,h⟩
 ·rw[h,aI h1 h0 cC];exact⟨[],x,rfl,h1⟩
 ·rw[List.concat_eq_append]at h
  rw[h]
  by_cases hy:y.kind=1
  ·rw[bX h1 h0 hy];exact⟨P,_,rfl,hy⟩
  ·rw[aI h1 h0 (bK hy)];exact⟨P++[y],x,rfl,h1⟩
theorem GA {A:List Ev} {x:Ev} (hx:x.kind=1∨x.kind=2) (h0:x.kind=1→x.text.size≠0):∃ P y,bM (A++[x])=P++[y]∧(y.kind=1↔x.kind=1)∧(y.kind=1∨y.kind=2)∧(x.kind=2→y=x):=by
 rcases hx with h | h
 ·obtain⟨P,y,h1,h2⟩:=SP (A:=A) h (h0 h)
  exact⟨P,y,h1,⟨fun _=>h,fun _=>h2⟩,.inl h2,fun e=>by omega⟩
 ·exact⟨bM A,x,by rw[fQ,bQ (by omega)],Iff.rfl,.inr h,fun _=>rfl⟩
theorem eR.KB {A B:List Ev} (h:eR (A++B)):eR (bM A++B):=by
 unfold eR at *
 rw[fW]at h ⊢
 unfold bM
 rw[J9];exact h
theorem KC {A:List Ev} {x:Ev} {C:List Ev} (hx:x.kind=1) (hc:∀ y ∈ C,y.kind≠1∧y.kind≠2):(bJ ((A++[x])++C)).2=(bJ A).2.take ((bJ A).2.length - C.length):=by
 unfold bJ
 rw[List.foldl_append,List.foldl_append]
 obtain⟨T,S,h⟩:∃ T S,A.foldl kB ([],[])=(T,S):=⟨_,_,rfl⟩
 rw[h,show ([x].foldl kB (T,S))=(T++[fP x],S) from gK hx]
 show _=S.take (S.length - C.length)
 have:∀ (C:List Ev),(∀ y ∈ C,y.kind≠1∧y.kind≠2)→∀ (T:List Nd) (S:List Nat),(C.foldl kB (T,S)).2=S.take (S.length - C.length):=by
  intro C
  induction C with
  | nil=>intro _ T S;simp
  | cons y C ih =>
   intro hc T S
   have hy:=hc y (by simp)
   rw[List.foldl_cons]
   have e:(kB (T,S) y)=((kB (T,S) y).1,S.dropLast):=Prod.ext rfl (by unfold kB;rw[if_neg hy.1,if_neg hy.2])
   rw[e,ih (fun z hz=>hc z (by simp[hz])),List.dropLast_eq_take,List.take_take,List.length_take,List.length_cons]
   congr 1
   omega
 exact this C hc _ _
theorem W7 {A B:List Ev} {x y:Ev} {C:List Ev} (h:eR (A++x::(C++y::B))) (hx:x.kind=1) (hy:y.kind=1) (hc:∀ z ∈ C,z.kind≠1∧z.kind≠2) :
  (B4 (aP (A++x::(C++y::B))) (bI A+1)=B4 (aP (A++x::(C++y::B))) (bI A))↔C=[]:=by
 have e1:=PH h (.inl hx)
 have e0:A++x::(C++y::B)=((A++[x])++C)++y::B:=by simp
 have h2:=h
 rw[e0]at h2
 have e2:=PH h2 (.inl hy)
 rw[← e0,bC,bC,dA (.inl hx),qB hc,Nat.add_zero,KC hx hc]at e2
 rw[e1,e2]
 obtain⟨d,d1,d2,-⟩:=eN h
 have g:=good_row d1
 -- as many are open as are closed
 have hlen:C.length≤(bJ A).2.length:=by
  obtain⟨d',d1',d2',-⟩:=eN h2
  rw[List.append_assoc,fW,d1,Option.bind_some,show [x]++C=x::C from rfl,kE hx]at d1'
  rw[d2]
  clear d2' e1 e2 h2 e0 h g
  have:∀ (C:List Ev) (d d':Nat),(∀ z ∈ C,z.kind≠1∧z.kind≠2)→dep d C=some d'→C.length≤d:=by
   intro C
   induction C with
   | nil=>intro d d' _ _;exact Nat.zero_le _
   | cons z C ih =>
    intro d d' hc hd
    have hz:=hc z (by simp)
    cases d with
    | zero=>rw[pE hz.1 hz.2]at hd;cases hd
    | succ m =>
     rw[tW hz.1 hz.2]at hd
     have:=ih m d' (fun u hu=>hc u (by simp[hu])) hd
     rw[List.length_cons];omega
  exact this C d d' hc d1'
 constructor
 ·intro he
  rcases Nat.eq_zero_or_pos C.length with h0 | h0
  ·exact List.length_eq_zero_iff.1 h0
  ·exfalso
   obtain⟨S,s,hS⟩:=pM (l:=(bJ A).2) (by omega)
   rw[hS]at he hlen
   have hr:=g.vH
   rw[hS]at hr
   have hlt:=(xC hr).2
   rw[List.length_append]at he hlen
   simp only[List.length_cons,List.length_nil]at he hlen
   rw[List.take_append_of_le_length (by omega)]at he
   unfold aDA at he
   rw[List.getLast?_concat]at he
   cases hl:(S.take (S.length+1 - C.length)).getLast? with
   | none=>rw[hl]at he;simp only[]at he;omega
   | some u =>
    rw[hl]at he
    simp only[]at he
    have hu:=hlt u (List.mem_of_mem_take (List.mem_of_getLast? hl))
    omega
 ·intro h0
  rw[h0,List.length_nil,Nat.sub_zero,List.take_length]
theorem W8 {L:List Ev} {out:List Nd} {i:Nat} (hb:eR L) (ho:Ops L) (hne:lZ L=L) (h:TX L out i) (hi:i<out.length) :
  0<i∧∃ y z,out[i]?=some y∧out[i - 1]?=some z ∧
   (if y.kind=46∧z.kind=46∧B4 out i=B4 out (i - 1) then TX L (bA (out.set (i - 1) { z with text:=z.text++y.text }) i) i else TX L out (i+1)):=by
 obtain⟨A,x,B,rfl,hx,rfl,rfl⟩:=h
 rw[dV,bC]at hi
 obtain⟨C,y,B',rfl,hC,hy⟩:=EJ (B:=B) (by omega)
 have full:∀ z ∈ A++x::(C++y::B'),z.kind=1→z.text.size≠0:=fun z hz h1 h0=>by
  rw[← hne]at hz
  have:=(List.mem_filter.1 hz).2
  unfold KA at this
  simp[h1,h0]at this
 have hx0:=full x (by simp)
 have hy0:=full y (by simp)
 obtain⟨P,p,hP,hp1,hp2,hp3⟩:=GA (A:=A) hx hx0
 have hbal:eR (P++p::(C++y::B')):=by
  have:eR (bM (A++[x])++(C++y::B')):=eR.KB (by simpa using hb)
  rw[hP]at this
  simpa using this
 have hrow:aP (bM (A++[x])++(C++y::B'))=aP (P++p::(C++y::B')):=by rw[hP];congr 1;simp
 have hnp:bI (bM (A++[x]))=bI P+1:=by rw[hP,bC,dA hp2]
 rw[hrow,hnp]
 refine⟨Nat.succ_pos _,?_⟩
 rw[Nat.add_sub_cancel]
 have hbal2:eR (((P++[p])++C)++y::B'):=by simpa using hbal
 have hn2:bI ((P++[p])++C)=bI P+1:=by rw[bC,bC,dA hp2,qB hC]
 obtain⟨u,hu⟩:=rR hbal2 hy
 rw[hn2]at hu
 have e0:((P++[p])++C)++y::B'=P++p::(C++y::B'):=by simp
 rw[e0]at hu
 obtain⟨v,hv⟩:=rR hbal hp2
 refine⟨_,_,hu,hv,?_⟩
 obtain⟨f1,f2⟩:=qC u y
 obtain⟨f3,f4⟩:=qC v p
 rw[f1,f3]
 -- on to the next node
 have on:(C≠[]∨y.kind≠1∨x.kind≠1)→TX (A++x::(C++y::B')) (aP (P++p::(C++y::B'))) (bI P+1+1):=fun hor=>by
  have hj:bM ((A++x::C)++[y])=bM (A++[x])++C++[y]:=by
   have e:bM (A++x::C)=bM (A++[x])++C:=by
    rw[show A++x::C=(A++[x])++C by simp,vW hC]
   rw[fQ,e]
   by_cases h1:y.kind=1
   ·refine aI h1 (hy0 h1) ?_
    rcases List.eq_nil_or_concat C with hc | ⟨C',c,hc⟩
    ·rcases hor with h | h | h
     ·exact absurd hc h
     ·exact absurd h1 h
     ·rw[hc,List.append_nil,hP]
      exact bK (fun h2=>h (hp1.1 h2))
    ·rw[List.concat_eq_append]at hc
     rw[hc,← List.append_assoc]
     exact bK (hC c (by rw[hc];simp)).1
   ·exact bQ h1
  refine⟨A++x::C,y,B',by simp,hy,?_,?_⟩
  ·rw[hj,hP];congr 1;simp
  ·rw[hj,bC,bC,dA hy,qB hC,hnp]
 by_cases h1:y.kind=1
 ·by_cases h2:x.kind=1
  ·have h3:=hp1.2 h2
   have hk1:fP y=⟨46,y.text,y.place,1⟩:=by unfold fP;rw[if_pos h1]
   have hk2:fP p=⟨46,p.text,p.place,1⟩:=by unfold fP;rw[if_pos h3]
   have hpar:=W7 hbal h3 h1 hC
   rw[f2,f4]
   by_cases hc:C=[]
   ·rw[if_pos ⟨by rw[hk1],by rw[hk2],hpar.2 hc⟩]
    subst hc
    rw[List.nil_append]at hbal hv hu ⊢
    have hv2:=jI hbal h3
    rw[hv]at hv2
    have e5:(⟨(fP p).kind,(fP p).text++(fP y).text,(aF v (fP p)).place,(aF v (fP p)).size⟩:Nd)=fP { p with text:=p.text++y.text }:=by
     have e7:=Option.some.inj hv2
     rw[e7,hk1,hk2]
     unfold fP
     rw[if_pos h3]
    rw[e5,OK hbal h3 (x':={ p with text:=p.text++y.text }) h3]
    have hb3:eR ((P++[{ p with text:=p.text++y.text }])++y::B'):=by
     have:=hbal.put h3 (x':={ p with text:=p.text++y.text }) h3
     simpa using this
    have hcut:=zX hb3 h1
    rw[bC,dA (x:={ p with text:=p.text++y.text }) (.inl h3)]at hcut
    have e6:(P++[{ p with text:=p.text++y.text }])++y::B'=P++{ p with text:=p.text++y.text }::y::B':=by simp
    rw[e6]at hcut
    rw[hcut]
    have hj:bM ((A++[x])++[y])=P++[{ p with text:=p.text++y.text }]:=by rw[fQ,hP,bX h1 (hy0 h1) h3]
    exact⟨A++[x],y,B',by simp,hy,by rw[hj],by rw[hj,bC,dA (x:={ p with text:=p.text++y.text }) (.inl h3)]⟩
   ·rw[if_neg (fun h=>hc (hpar.1 h.2.2))]
    exact on (.inl hc)
  ·have hk2:fP p=⟨p.name,aA,p.place,1⟩:=by unfold fP;rw[if_neg (fun h=>h2 (hp1.1 h))]
   have h4:x.kind=2:=by omega
   rw[if_neg (fun h=>by
    have h5:=h.2.1
    rw[hk2,hp3 h4]at h5
    exact ho x (by simp) h4 h5)]
   exact on (.inr (.inr h2))
 ·have h4:y.kind=2:=by omega
  have hk1:fP y=⟨y.name,aA,y.place,1⟩:=by unfold fP;rw[if_neg h1]
  rw[if_neg (fun h=>by
   have h5:=h.1
   rw[hk1]at h5
   exact ho y (by simp) h4 h5)]
  exact on (.inr (.inl h1))
theorem aAU {L:List Ev} {out:List Nd} {i:Nat} (h:TX L out i) (hi:out.length≤i):out=aP (bM L):=by
 obtain⟨A,x,B,rfl,hx,rfl,rfl⟩:=h
 rw[dV,bC]at hi
 have hB:=PI (B:=B) (by omega)
 rw[show A++x::B=(A++[x])++B by simp,vW hB]
end Go.Proofs.YtgpihfacmpbpaaaGreatDoor.Nu
namespace Go.Proofs.YtgpihfacmpbpaaaGreatDoor.Nu
open Go.RowKit Tr
theorem xH {E:List Ev} (h:eR E) {j:Nat} {y:Nd} (hy:(aP E)[j]?=some y):1≤y.size∧(j:Int)+y.size≤((aP E).length:Int):=by
 have g:=good_row (A:=E) h
 have hn:=h.none
 refine g.fits j (by rw[hn];simp) y hy
def zQ (x:Ev):Nat:=if x.kind=1 then x.text.size else 0
def dO:List Ev→Nat
 | []=>0
 | x::l=>zQ x+dO l
theorem mU:∀ A B:List Ev,dO (A++B)=dO A+dO B:=by
 intro A
 induction A with
 | nil=>intro B;show dO B=0+dO B;omega
 | cons x A ih=>intro B;show zQ x+dO (A++B)=zQ x+dO A+dO B;rw[ih];omega
theorem zZ:∀ (L:List Ev) (T:List Nd) (S:List Nat) (B:Nat),(∀ y ∈ T,y.text.size≤B)→∀ y ∈ (L.foldl kB (T,S)).1,y.text.size≤B+dO L:=by
 intro L
 induction L with
 | nil=>intro T S B h y hy;have:=h y hy;unfold dO;omega
 | cons x L ih =>
  intro T S B h y hy
  rw[List.foldl_cons]at hy
  have e0:aA.size=0:=by decide
  have snoc:∀ y ∈ T++[fP x],y.text.size≤B+zQ x:=fun y hy=>by
   rcases List.mem_append.1 hy with h1 | h1
   ·have:=h y h1;omega
   ·simp at h1;subst h1
    unfold fP zQ
    split
    ·exact Nat.le_add_left _ _
    ·show aA.size≤_;omega
  show _≤B+(zQ x+dO L)
  by_cases h1:x.kind=1
  ·rw[gK h1]at hy
   have:=ih _ _ (B+zQ x) snoc y hy;omega
  ·by_cases h2:x.kind=2
   ·rw[jL h2]at hy
    have:=ih _ _ (B+zQ x) snoc y hy;omega
   ·have hb:kB (T,S) x=(T.modify (S.getLastD 0) (aF ((T.length:Int) - (S.getLastD 0:Int))),S.dropLast):=by unfold kB;rw[if_neg h1,if_neg h2]
    rw[hb]at hy
    have:=ih _ _ B (fun z hz=>by
     obtain⟨j,hj⟩:=List.mem_iff_getElem?.1 hz
     rw[gH]at hj
     obtain⟨u,hu,he⟩:=Option.map_eq_some_iff.1 hj
     have hb:=h u (List.mem_of_getElem? hu)
     split at he
     ·subst he;exact hb
     ·subst he;exact hb) y hy
    omega
theorem PJ (L:List Ev):dO (lZ L)≤dO L:=by
 induction L with
 | nil=>exact Nat.le_refl _
 | cons x L ih =>
  unfold lZ at *
  by_cases h:KA x=true
  ·rw[List.filter_cons_of_pos h];show zQ x+_≤zQ x+_;omega
  ·rw[List.filter_cons_of_neg h];show _≤zQ x+_;omega
theorem XA (L:List Ev):bI (lZ L)≤bI L:=by
 rw[B9,B9]
 unfold lZ
 rw[List.filter_filter]
 refine Nat.le_trans (Nat.le_of_eq ?_) (List.length_filter_le KA (L.filter isN))
 rw[List.filter_filter]
 congr 2
 funext x
 exact Bool.and_comm _ _
theorem DO (acc:List Ev) (x:Ev):dO (cD acc x)=dO acc+zQ x∧bI (cD acc x)≤bI acc+bI [x]:=by
 have e1:dO [x]=zQ x:=by unfold dO dO;omega
 have snoc:dO (acc++[x])=dO acc+zQ x∧bI (acc++[x])≤bI acc+bI [x]:=⟨by rw[mU,e1],by rw[bC];omega⟩
 by_cases h:x.kind=1
 ·by_cases h0:x.text.size=0
  ·rw[cI h h0]
   refine⟨?_,by omega⟩
   unfold zQ;rw[if_pos h,h0];rfl
  ·rcases List.eq_nil_or_concat acc with rfl | ⟨B',y,rfl⟩
   ·rw[aI h h0 cC];exact snoc
   ·rw[List.concat_eq_append]at snoc ⊢
    by_cases hy:y.kind=1
    ·rw[bX h h0 hy]
     refine⟨?_,?_⟩
     ·rw[mU,mU]
      show _+(zQ _+0)=_+(zQ y+0)+zQ x
      unfold zQ
      rw[if_pos hy,if_pos hy,if_pos h]
      simp only[ByteArray.size_append];omega
     ·rw[bC,bC,dA (x:={ y with text:=y.text++x.text }) (.inl hy),dA (.inl hy)];omega
    ·rw[aI h h0 (bK hy)];exact snoc
 ·rw[bQ h];exact snoc
theorem vQ:∀ (L acc:List Ev),dO (L.foldl cD acc)=dO acc+dO L∧bI (L.foldl cD acc)≤bI acc+bI L:=by
 intro L
 induction L with
 | nil=>intro acc;exact⟨rfl,Nat.le_refl _⟩
 | cons x L ih =>
  intro acc
  obtain⟨h1,h2⟩:=ih (cD acc x)
  obtain⟨h3,h4⟩:=DO acc x
  rw[List.foldl_cons]
  refine⟨?_,?_⟩
  ·rw[h1,h3];show _=_+(zQ x+dO L);omega
  ·rw[mG];omega
def PK (N B:Nat) (out:List Nd):Prop:=out.length≤N∧(∀ (j:Nat) (y:Nd),out[j]?=some y→1≤y.size∧(j:Int)+y.size≤(out.length:Int))∧∀ y ∈ out,y.text.size≤B
theorem KD {E:List Ev} {N B:Nat} (h:eR E) (hn:bI E≤N) (ht:dO E≤B):PK N B (aP E) :=
 ⟨by rw[dV];exact hn,fun j y hy=>xH h hy,fun y hy=>by
  have:=zZ E [] [] 0 (by simp) y hy;omega⟩
theorem W4.ok {L:List Ev} {out:List Nd} {i:Nat} (hb:eR L) (h:W4 L out i):PK (bI L) (dO L) out:=by
 obtain⟨A,B,rfl,rfl,-⟩:=h
 refine KD hb.NK ?_ ?_
 ·rw[bC,bC];have:=XA A;omega
 ·rw[mU,mU];have:=PJ A;omega
theorem TX.ok {L:List Ev} {out:List Nd} {i:Nat} (hb:eR L) (h:TX L out i):PK (bI L) (dO L) out:=by
 obtain⟨A,x,B,rfl,-,rfl,-⟩:=h
 have e:A++x::B=(A++[x])++B:=by simp
 rw[e]at hb ⊢
 obtain⟨h1,h2⟩:=vQ (A++[x]) []
 have h1:dO (bM (A++[x]))=dO []+dO (A++[x]):=h1
 have h2:bI (bM (A++[x]))≤bI []+bI (A++[x]):=h2
 have z1:dO []=0:=rfl
 have z2:bI []=0:=rfl
 refine KD hb.KB ?_ ?_
 ·rw[bC,bC (A++[x])];omega
 ·rw[mU,mU (A++[x])];omega
theorem GB {t:List Nd} (ht:lN t) (i:Nat):(newText t i).size≤t.length * 9000:=by
 unfold newText
 rw[Lx.c9,List.length_map]
 unfold dP
 split
 ·exact Nat.le_trans (List.length_filter_le _ _) (BZ ht _)
 ·exact Nat.zero_le _
theorem PA {t:List Nd} (ht:lN t) (O:Nat→Int):∀ (L:List Lx.Lx) (p:Nat),dO (iV (asNew t) O p L)≤eC L * (t.length * 9000):=by
 intro L
 induction L with
 | nil=>intro p;exact Nat.zero_le _
 | cons x L ih =>
  intro p
  rw[show eC (x::L)=eC [x]+eC L from mT [x] L,Nat.add_mul]
  by_cases h1:x.kind=1
  ·rw[nY h1,show eC [x]=1 by unfold eC;simp[h1],Nat.one_mul]
   have a:=ih (p+1)
   have b:zQ (jC (asNew t p).1 (asNew t p).2)≤t.length * 9000:=GB ht p
   show zQ _+dO _≤_
   omega
  ·by_cases h2:x.kind=2
   ·rw[uA h2,show eC [x]=1 by unfold eC;simp[h2],Nat.one_mul]
    have a:=ih (p+1)
    show 0+dO _≤_
    omega
   ·rw[wT h1 h2,show eC [x]=0 by unfold eC;simp[h1,h2],Nat.zero_mul]
    have a:=ih p
    show 0+dO _≤_
    omega
theorem F5 (K:Nat→ByteArray × Int) (O:Nat→Int):∀ (L:List Lx.Lx) (p:Nat),bI (iV K O p L)=eC L:=by
 intro L
 induction L with
 | nil=>intro p;rfl
 | cons x L ih =>
  intro p
  rw[show eC (x::L)=eC [x]+eC L from mT [x] L]
  by_cases h1:x.kind=1
  ·rw[nY h1,show eC [x]=1 by unfold eC;simp[h1],mG,ih];rfl
  ·by_cases h2:x.kind=2
   ·rw[uA h2,show eC [x]=1 by unfold eC;simp[h2],mG,ih];rfl
   ·rw[wT h1 h2,show eC [x]=0 by unfold eC;simp[h1,h2],mG,ih];rfl
def r7:Value→Nat | .slice _ n _=>n | _=>0
theorem fL {w:World} {B B' e size n:Nat} {v:Value} {xs:List Value} (h:w.ownsRow B e size v n xs) (hB:B'≤B):w.ownsRow B' e size v n xs:=by
 refine⟨h.1,?_⟩
 rcases h.2 with hn | ⟨g,cap,cur,hv,hb,rest⟩
 ·exact .inl hn
 ·exact .inr ⟨g,cap,cur,hv,by omega,rest⟩
theorem aW {w:World} {B e size n:Nat} {v:Value} {xs:List Value} (h:w.ownsRow B e size v n xs):∃ A c,v=.slice A n c∧c≤maxLen∧n≤c∧(0<n→∃ g,A=some ⟨g,0,none⟩∧B≤g∧g<w.heap.size):=by
 rcases h.2 with⟨hv,h0⟩ | ⟨g,cap,cur,hv,hb,hg,h1,h2,_⟩
 ·exact⟨none,0,by rw[hv,h0],by unfold maxLen;omega,by omega,fun h=>by omega⟩
 ·exact⟨some ⟨g,0,none⟩,cap,hv,h2,h1,fun _=>⟨g,rfl,hb,(Array.getElem?_eq_some_iff.1 hg).1⟩⟩
theorem gT {t:List Nd} (h:aL t=0):∃ L,Wf t L∧fJ t 0 t.length=some L:=by
 obtain⟨h1,L,h2,h3⟩:=(gX t).1 h
 have:=yN t (fun x hx hk=>by
  have:=h1 x hx
  unfold bO at this
  rw[if_neg hk]at this
  simp at this
  exact this.1.1) t.length 0 t.length L (by omega) (by omega) (Nat.le_refl _) h2
 rw[List.take_length,List.drop_zero]at this
 exact⟨L,this,h2⟩
end Go.Proofs.YtgpihfacmpbpaaaGreatDoor.Nu
namespace Go.Proofs.YtgpihfacmpbpaaaGreatDoor.Nu
open Go.RowKit Tr
theorem r8 {t:List Nd} (h:aL t=0) (hk:∀ x ∈ t,x.kind<256) (hx:∀ x ∈ t,x.text.size≤9000):lN t:=fun i x hi=>by
 obtain⟨L,hW,-⟩:=gT h
 obtain⟨a,b,-⟩:=sL hW i x hi
 have hm:=List.mem_of_getElem? hi
 exact⟨hk x hm,hx x hm,x.size.toNat,by omega,by omega,by omega⟩
theorem AW {t:List Nd} (h:aL t=0):(gG t).length≤t.length:=by
 obtain⟨L,hW,-⟩:=gT h
 rw[iJ hW,dV]
 have h2:=(vQ (iV (asNew t) (aU t) 0 L) []).2
 rw[F5,mD hW]at h2
 have z2:bI []=0:=rfl
 have h2:bI (bM (iV (asNew t) (aU t) 0 L))≤bI []+t.length:=h2
 omega
def GY (t:List Nd):List Nd:=if aL t=0 then gG t else []
def zP (t:List Nd):Bool:=decide (aL t=0) && gU t (gG t)
theorem PB (t:List Nd):(GY t).length≤t.length:=by
 unfold GY
 split
 ·rename_i h;exact AW h
 ·exact Nat.zero_le _
def C7 (n:List Nd) (z:Int) (w:World) (e:Ending) (w':World):Prop:=∃ v,e=.returned (.tuple #[v,.int .i64 z])∧w'.ownsRow w.heap.size 41 4 v n.length (Ba.rows cN n)∧Below w.heap.size w w'
end Go.Proofs.YtgpihfacmpbpaaaGreatDoor.Nu
