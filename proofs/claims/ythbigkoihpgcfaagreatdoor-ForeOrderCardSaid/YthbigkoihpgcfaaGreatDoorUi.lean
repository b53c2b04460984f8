/-
  Put together.
-/
import Derived.Test.YthbigkoihpgcfaaGreatDoorEa
import Derived.Lib.IndexLaws
namespace Go.Proofs.YthbigkoihpgcfaaGreatDoor.Ce
open Go.RowKit
def cA:List Nat→List Nat
 | []=>[]
 | [x]=>cE x 6
 | x::y::r=>cE x 6++45::cA (y::r)
theorem yC:∀ l:List Nat,(cA l).length≤7 * l.length
 | []=>by simp[cA]
 | [x]=>by have:=uC x 6;simp only[cA,List.length_cons,List.length_nil];omega
 | x::y::r=>by
  have ih:=yC (y::r)
  have:=uC x 6
  simp only[cA,List.length_append,List.length_cons]at ih ⊢
  omega
def UK (b:Nat):Bool:=decide (b≠0∧b≤63)
def dN (s:ByteArray):Prop:=1≤s.size∧s.size≤4∧vY UK s=s.size
instance (s:ByteArray):Decidable (dN s):=by unfold dN;infer_instance
def eD (s:ByteArray):ByteArray:=if dN s then bytesOf (cA (aA s)) else cJ
def eE (s:ByteArray):Int:=if dN s then 0 else 1
theorem uD {s:ByteArray} (h:¬ dN s):cJ=eD s:=by unfold eD;rw[if_neg h]
theorem uE {s:ByteArray} (h:¬ dN s):1=eE s:=by unfold eE;rw[if_neg h]
def dsh (s:ByteArray):Nat→Nat→Nat
 | 0,e=>e
 | n+1,e=>if e<s.size∧aV s e≠45 then dsh s n (e+1) else e
def dash (s:ByteArray) (f:Nat):Nat:=dsh s s.size f
def yE (s:ByteArray) (f e:Nat):Prop:=f≤e∧e≤s.size∧(∀ j,f≤j→j<e→aV s j≠45)∧(e<s.size→aV s e=45)
theorem UY (s:ByteArray) (f:Nat):∀ n e,s.size - e≤n→f≤e→e≤s.size→(∀ j,f≤j→j<e→aV s j≠45)→yE s f (dsh s n e)
 | 0,e,hn,hf,he,hj=>⟨hf,he,hj,fun h=>by have:dsh s 0 e=e:=rfl;omega⟩
 | n+1,e,hn,hf,he,hj=>by
  unfold dsh
  by_cases h:e<s.size∧aV s e≠45
  ·rw[if_pos h]
   refine UY s f n (e+1) (by omega) (by omega) (by omega) (fun j h1 h2=>?_)
   rcases Nat.lt_or_ge j e with h3 | h3
   ·exact hj j h1 h3
   ·obtain rfl:j=e:=by omega
    exact h.2
  ·rw[if_neg h]
   exact⟨hf,he,hj,fun h3=>Classical.byContradiction fun h4=>h ⟨h3,h4⟩⟩
theorem cK (s:ByteArray) (f:Nat) (h:f≤s.size):yE s f (dash s f):=UY s f s.size f (by omega) (Nat.le_refl _) h (fun j h1 h2=>by omega)
theorem yE.unique {s:ByteArray} {f e e':Nat} (h:yE s f e) (h':yE s f e'):e=e':=by
 obtain⟨a1,a2,a3,a4⟩:=h
 obtain⟨b1,b2,b3,b4⟩:=h'
 rcases Nat.lt_trichotomy e e' with h | h | h
 ·exact absurd (a4 (by omega)) (b3 e (by omega) h)
 ·exact h
 ·exact absurd (b4 (by omega)) (a3 e' (by omega) h)
theorem oS (s:ByteArray) (a b:Nat) (hb:b≤s.size):(s.extract a b).size=b - a:=by
 rw[ByteArray.size_extract];omega
abbrev Pt (s:ByteArray):={ x:Nat × Nat // x.1≤x.2∧x.2≤s.size }
def a8 (s:ByteArray):Nat→Nat→List (Pt s)
 | 0,_=>[]
 | n+1,f=>if h:f≤s.size then ⟨(f,dash s f),(cK s f h).1,(cK s f h).2.1⟩::(if dash s f<s.size then a8 s n (dash s f+1) else []) else []
def bU (s:ByteArray) (f:Nat):List (Pt s):=a8 s (s.size+1) f
theorem vZ (s:ByteArray):∀ n m f,s.size+1 - f≤n→s.size+1 - f≤m→a8 s n f=a8 s m f
 | 0,0,_,_,_=>rfl
 | 0,m+1,f,hn,hm=>by unfold a8;rw[dif_neg (by omega)]
 | n+1,0,f,hn,hm=>by unfold a8;rw[dif_neg (by omega)]
 | n+1,m+1,f,hn,hm=>by
  unfold a8
  by_cases h:f≤s.size
  ·rw[dif_pos h,dif_pos h]
   have:=(cK s f h).1
   congr 1
   split
   ·exact vZ s n m (dash s f+1) (by omega) (by omega)
   ·rfl
  ·rw[dif_neg h,dif_neg h]
theorem dG (s:ByteArray) (f:Nat) (h:f≤s.size):bU s f=⟨(f,dash s f),(cK s f h).1,(cK s f h).2.1⟩::(if dash s f<s.size then bU s (dash s f+1) else []):=by
 have h1:=(cK s f h).1
 have h2:=(cK s f h).2.1
 unfold bU
 conv=>lhs;unfold a8
 rw[dif_pos h]
 congr 1
 split
 ·exact vZ s _ _ _ (by omega) (by omega)
 ·rfl
def dL (s:ByteArray) (pre:List (Pt s)) (f:Nat):Prop:=bU s 0=pre++bU s f
theorem dL.zero (s:ByteArray):dL s [] 0:=rfl
theorem dL.succ {s:ByteArray} {pre:List (Pt s)} {f:Nat} (h:dL s pre f) (hf:f≤s.size) (hd:dash s f<s.size) :
  dL s (pre++[⟨(f,dash s f),(cK s f hf).1,(cK s f hf).2.1⟩]) (dash s f+1):=by
 unfold dL at h ⊢;rw[h,dG s f hf,if_pos hd];simp
theorem dL.last {s:ByteArray} {pre:List (Pt s)} {f:Nat} (h:dL s pre f) (hf:f≤s.size) (hd:¬ dash s f<s.size) :
  bU s 0=pre++[⟨(f,dash s f),(cK s f hf).1,(cK s f hf).2.1⟩]:=by
 unfold dL at h;rw[h,dG s f hf,if_neg hd]
def DZ (s:ByteArray) (x:Pt s):Nat:=FZ (s.extract x.1.1 x.1.2)
def eV (s:ByteArray) (o:Option (List Nat)) (x:Pt s):Option (List Nat):=o.bind fun acc=>if DZ s x=0∨acc.length=4 then none else some (acc++[DZ s x])
def QH (s:ByteArray) (pre:List (Pt s)):Option (List Nat):=pre.foldl (eV s) (some [])
def dY (s:ByteArray):Option (List Nat):=QH s (bU s 0)
def fGo (s:ByteArray):List (Pt s)→Option (List Nat)→Nat
 | [],_=>0
 | x::r,o=>if eV s o x=none then x.1.1 else fGo s r (eV s o x)
def sK (s:ByteArray):Nat:=fGo s (bU s 0) (some [])
def gN (s:ByteArray):ByteArray:=match dY s with | some l=>bytesOf l | none=>cJ
def jR (s:ByteArray):Int:=match dY s with | some _=>0 | none=>2
theorem F8 (s:ByteArray) (pre:List (Pt s)) (x:Pt s):QH s (pre++[x])=eV s (QH s pre) x:=by unfold QH;rw[List.foldl_append];rfl
theorem sL (s:ByteArray) (r:List (Pt s)):r.foldl (eV s) none=none:=by
 induction r with
 | nil=>rfl
 | cons x r ih=>exact ih
theorem pX {s:ByteArray} {acc:List Nat} {x:Pt s} (h:DZ s x≠0) (h4:acc.length≠4):eV s (some acc) x=some (acc++[DZ s x]):=by simp[eV,h,h4]
theorem F9 {s:ByteArray} {acc:List Nat} {x:Pt s} (h:DZ s x=0∨acc.length=4):eV s (some acc) x=none:=by
 unfold eV;rw[Option.bind_some,if_pos h]
theorem yF (s:ByteArray) (x:Pt s) (r:List (Pt s)):∀ (pre:List (Pt s)) (o:Option (List Nat)) (acc:List Nat),pre.foldl (eV s) o=some acc→eV s (some acc) x=none→fGo s (pre++x::r) o=x.1.1
 | [],o,acc,h,hx=>by
  have h':o=some acc:=h
  subst h'
  show (if eV s (some acc) x=none then x.1.1 else _)=_
  rw[if_pos hx]
 | y::pre,o,acc,h,hx=>by
  rw[List.foldl_cons]at h
  have hn:¬ eV s o y=none:=fun e=>by rw[e,sL]at h;cases h
  show (if eV s o y=none then y.1.1 else fGo s (pre++x::r) (eV s o y))=_
  rw[if_neg hn]
  exact yF s x r pre _ acc h hx
def atN {s:ByteArray} (pre:List (Pt s)):Nat:=(pre.map fun x=>x.1.2 - x.1.1+1).sum
theorem uF (s:ByteArray):∀ (n f:Nat) (pre:List (Pt s)) (x:Pt s),pre++[x] <+: a8 s n f→f+atN pre=x.1.1
 | 0,f,pre,x,h=>by
  have:=h.length_le
  simp[a8]at this
 | n+1,f,pre,x,h=>by
  unfold a8 at h
  by_cases hf:f≤s.size
  ·rw[dif_pos hf]at h
   obtain⟨d1,_,_,_⟩:=cK s f hf
   cases pre with
   | nil =>
    rw[List.nil_append,List.cons_prefix_cons]at h
    rw[h.1];simp[atN]
   | cons y pre =>
    rw[List.cons_append,List.cons_prefix_cons]at h
    obtain⟨rfl,h2⟩:=h
    by_cases hd:dash s f<s.size
    ·rw[if_pos hd]at h2
     have ih:=uF s n (dash s f+1) pre x h2
     rw[← ih]
     simp only[atN,List.map_cons,List.sum_cons]
     omega
    ·rw[if_neg hd]at h2
     have:=h2.length_le
     simp at this
  ·rw[dif_neg hf]at h
   have:=h.length_le
   simp at this
theorem LQ (s:ByteArray) (pre:List (Pt s)) (x:Pt s) (acc:List Nat) (h:QH s pre=some acc) (hx:DZ s x=0∨acc.length=4) (hp:pre++[x] <+: bU s 0) :
  gN s=cJ∧sK s=atN pre∧jR s=2:=by
 obtain⟨r,hr⟩:=id hp
 have hn:=F9 hx
 have hL:dY s=none:=by
  unfold dY QH
  rw[← hr,List.foldl_append,show (pre++[x]).foldl (eV s) (some [])=QH s (pre++[x]) from rfl,F8,h,hn]
  exact sL s r
 have ha:=uF s _ 0 pre x hp
 refine⟨by unfold gN;rw[hL],?_,by unfold jR;rw[hL]⟩
 unfold sK
 rw[← hr,List.append_assoc,List.singleton_append,yF s x r pre _ acc h hn]
 omega
theorem U0 (s:ByteArray):∀ (l:List (Pt s)) (o:Option (List Nat)) (acc:List Nat),l.foldl (eV s) o=some acc→fGo s l o=0
 | [],_,_,_=>rfl
 | y::l,o,acc,h=>by
  rw[List.foldl_cons]at h
  have hn:¬ eV s o y=none:=fun e=>by rw[e,sL]at h;cases h
  show (if eV s o y=none then y.1.1 else fGo s l (eV s o y))=_
  rw[if_neg hn]
  exact U0 s l _ acc h
theorem GA (s:ByteArray) (acc:List Nat) (h:QH s (bU s 0)=some acc):gN s=bytesOf acc∧sK s=0∧jR s=0:=by
 have hL:dY s=some acc:=h
 exact⟨by unfold gN;rw[hL],U0 s _ _ acc h,by unfold jR;rw[hL]⟩
theorem QI {s:ByteArray} {o:Option (List Nat)} {x:Pt s} {acc:List Nat} (h:eV s o x=some acc) (ho:∀ a,o=some a→a.length≤4∧∀ y ∈ a,y<64):acc.length≤4∧∀ y ∈ acc,y<64:=by
 unfold eV at h
 obtain⟨a,ha,h2⟩:=Option.bind_eq_some_iff.1 h
 obtain⟨h3,h4⟩:=ho a ha
 split at h2
 ·cases h2
 ·rename_i hc
  cases h2
  refine⟨by rw[List.length_append];simp;omega,fun y hy=>?_⟩
  rcases List.mem_append.1 hy with hy | hy
  ·exact h4 y hy
  ·simp at hy;rw[hy];exact UZ _
theorem OY (s:ByteArray):∀ (l:List (Pt s)) (o:Option (List Nat)) (acc:List Nat),(∀ a,o=some a→a.length≤4∧∀ y ∈ a,y<64)→l.foldl (eV s) o=some acc→acc.length≤4∧∀ y ∈ acc,y<64
 | [],_,acc,ho,h=>ho acc h
 | _::l,_,acc,ho,h=>OY s l _ acc (fun _ ha=>QI ha ho) h
theorem LR {s:ByteArray} {pre:List (Pt s)} {acc:List Nat} (h:QH s pre=some acc):acc.length≤4∧∀ y ∈ acc,y<64 :=
 OY s pre _ acc (fun a ha=>by cases ha;exact⟨by simp,fun y hy=>by simp at hy⟩) h
theorem mM (s:ByteArray) {x:Nat} (h:x ∈ aA s):∃ j,j<s.size∧aV s j=x:=by
 obtain⟨j,hj,rfl⟩:=List.getElem_of_mem h
 refine⟨j,by rw[← aD];exact hj,?_⟩
 unfold aV
 rw[List.getD_eq_getElem?_getD,List.getElem?_eq_getElem hj];rfl
theorem OZ:∀ x:Fin 64,Z0 (cE x.val 6)=x.val:=by decide +kernel
theorem QJ:∀ c:Fin 64,∀ b:Fin 128,c.val<eK b.val→cE (c.val+eK b.val) 6=cE c.val 6++[b.val]:=by decide +kernel
theorem aAD (c b:Nat) (hb:c<eK b):c+eK b<64:=by
 have:=DY b
 omega
theorem GB:∀ (l:List Nat) (c r:Nat),c<64→l.foldl gK (some c)=some r→cE r 6=cE c 6++l
 | [],c,r,_,h=>by cases h;simp
 | b::l,c,r,hc,h=>by
  rw[List.foldl_cons]at h
  by_cases hb:c<eK b
  ·have e:gK (some c) b=some (c+eK b):=by simp[gK,hb]
   rw[e]at h
   have hlt:c+eK b<64:=aAD c b hb
   have hb128:b<128:=by
    rcases LP b with h0 | ⟨h0,_⟩ | ⟨h0,_⟩ | ⟨h0,_⟩ | ⟨h0,_⟩ | ⟨h0,_⟩ | ⟨h0,_⟩<;>omega
   rw[GB l _ r hlt h,QJ ⟨c,hc⟩ ⟨b,hb128⟩ hb]
   simp
  ·have e:gK (some c) b=none:=by simp[gK,hb]
   rw[e,oW]at h;cases h
theorem aAE (l:List Nat) (h:Z0 l≠0):cE (Z0 l) 6=l:=by
 unfold Z0 at h ⊢
 cases hl:DX l with
 | none=>rw[hl]at h;exact absurd rfl h
 | some r =>
  have:=GB l 0 r (by omega) hl
  rw[show (some r).getD 0=r from rfl,this]
  rfl
theorem D6 (x j:Nat) (hj:j<(cE x 6).length):(cE x 6)[j]≠45:=by
 have hm:=List.getElem_mem hj
 simp only[cE,List.mem_map,List.mem_filter,List.mem_range]at hm
 obtain⟨i,_,he⟩:=hm
 have:(cE x 6)[j]=49+i:=by
  simp only[cE];exact he.symm
 omega
theorem GC (s:ByteArray) (f i:Nat):aV s (f+i)=((aA s).drop f).getD i 0:=by
 unfold aV
 rw[List.getD_eq_getElem?_getD,List.getD_eq_getElem?_getD,List.getElem?_drop]
theorem dX (s:ByteArray) (f e:Nat):aA (s.extract f e)=((aA s).drop f).take (e - f):=by
 unfold aA
 rw[ByteArray.data_extract,Array.toList_extract,List.extract_eq_take_drop,List.map_take,List.map_drop]
theorem GD (s:ByteArray) (f:Nat):((aA s).drop f).length=s.size - f:=by rw[List.length_drop,aD]
theorem O0 (s:ByteArray) (f x:Nat) (r:List Nat) (hf:f≤s.size) (h:(aA s).drop f=cE x 6++r) (hr:r=[]∨∃ r',r=45::r') :
  dash s f=f+(cE x 6).length∧aA (s.extract f (dash s f))=cE x 6∧(r=[]→dash s f=s.size)∧(r≠[]→dash s f<s.size):=by
 have hl:=GD s f
 rw[h,List.length_append]at hl
 have he:dash s f=f+(cE x 6).length:=(cK s f hf).unique ⟨by omega,by omega,fun j h1 h2=>by
  obtain⟨i,rfl⟩:∃ i,j=f+i:=⟨j - f,by omega⟩
  have hi:i<(cE x 6).length:=by omega
  rw[GC,h,List.getD_eq_getElem?_getD,List.getElem?_append_left hi,List.getElem?_eq_getElem hi]
  exact D6 x i hi,fun hlt=>by
  rcases hr with rfl | ⟨r',rfl⟩
  ·simp at hl;omega
  ·rw[GC,h,List.getD_eq_getElem?_getD,List.getElem?_append_right (Nat.le_refl _)]
   simp⟩
 refine⟨he,?_,fun h0=>?_,fun h0=>?_⟩
 ·rw[dX,h,he,Nat.add_sub_cancel_left,List.take_left']
  rfl
 ·subst h0;simp at hl;omega
 ·have:0<r.length:=by
   rcases hr with rfl | ⟨r',rfl⟩
   ·exact absurd rfl h0
   ·simp
  omega
theorem yH (s:ByteArray):∀ (l:List Nat) (f:Nat) (acc:List Nat),l≠[]→(∀ x ∈ l,x≠0∧x≤63)→f≤s.size→(aA s).drop f=cA l→acc.length+l.length≤4 →
  (bU s f).foldl (eV s) (some acc)=some (acc++l)
 | [],_,_,h,_,_,_,_=>absurd rfl h
 | [x],f,acc,_,hx,hf,hd,hl=>by
  obtain⟨e1,e2,e3,_⟩:=O0 s f x [] hf (by rw[hd];simp[cA]) (.inl rfl)
  obtain⟨hx0,hx63⟩:=hx x (by simp)
  have hp:DZ s ⟨(f,dash s f),(cK s f hf).1,(cK s f hf).2.1⟩=x:=by
   unfold DZ FZ;simp only[];rw[e2];exact OZ ⟨x,by omega⟩
  rw[dG s f hf,if_neg (by have:=e3 rfl;omega),List.foldl_cons,List.foldl_nil,pX (by rw[hp];exact hx0) (by simp at hl;omega),hp]
 | x::y::r,f,acc,_,hx,hf,hd,hl=>by
  obtain⟨e1,e2,_,e4⟩:=O0 s f x (45::cA (y::r)) hf (by rw[hd];rfl) (.inr ⟨_,rfl⟩)
  have hlt:=e4 (by simp)
  obtain⟨hx0,hx63⟩:=hx x (by simp)
  have hp:DZ s ⟨(f,dash s f),(cK s f hf).1,(cK s f hf).2.1⟩=x:=by
   unfold DZ FZ;simp only[];rw[e2];exact OZ ⟨x,by omega⟩
  have hd2:(aA s).drop (dash s f+1)=cA (y::r):=by
   rw[e1,Nat.add_assoc,← List.drop_drop,hd]
   show (cE x 6++45::cA (y::r)).drop ((cE x 6).length+1)=_
   rw[List.drop_append];simp
  rw[dG s f hf,if_pos hlt,List.foldl_cons,pX (by rw[hp];exact hx0) (by simp at hl;omega),hp,
   yH s (y::r) (dash s f+1) (acc++[x]) (by simp) (fun z hz=>hx z (List.mem_cons_of_mem _ hz)) (by omega) hd2 (by simp at hl ⊢;omega)]
  simp
theorem yI (s:ByteArray):∀ (n f:Nat) (acc r:List Nat),s.size - f<n→f≤s.size→(bU s f).foldl (eV s) (some acc)=some r →
  ∃ l,r=acc++l∧l≠[]∧(∀ x ∈ l,x≠0)∧(aA s).drop f=cA l
 | 0,_,_,_,h,_,_=>by omega
 | n+1,f,acc,r,hn,hf,h=>by
  obtain⟨d1,d2,d3,d4⟩:=cK s f hf
  rw[dG s f hf,List.foldl_cons]at h
  obtain⟨x,hx⟩:∃ x,DZ s ⟨(f,dash s f),d1,d2⟩=x:=⟨_,rfl⟩
  by_cases hbad:x=0∨acc.length=4
  ·rw[F9 (by rw[hx];exact hbad),sL]at h;cases h
  ·have hx0:x≠0:=fun e=>hbad (.inl e)
   have hb:cE x 6=((aA s).drop f).take (dash s f - f):=by
    rw[← dX]
    have:Z0 (aA (s.extract f (dash s f)))=x:=hx
    rw[← this]
    exact aAE _ (by rw[this];exact hx0)
   rw[pX (by rw[hx];exact hx0) (fun e=>hbad (.inr e)),hx]at h
   by_cases hlt:dash s f<s.size
   ·rw[if_pos hlt]at h
    obtain⟨l,h1,h2,h3,h4⟩:=yI s n (dash s f+1) (acc++[x]) r (by omega) (by omega) h
    refine⟨x::l,by rw[h1];simp,by simp,fun z hz=>?_,?_⟩
    ·rcases List.mem_cons.1 hz with rfl | hz
     ·exact hx0
     ·exact h3 z hz
    ·have hsp:(aA s).drop f=cE x 6++45::cA l:=by
      rw[hb,← h4]
      have hl:dash s f<(aA s).length:=by rw[aD];exact hlt
      have e45:(aA s)[dash s f]=45:=by
       have:=d4 hlt
       unfold aV at this
       rw[List.getD_eq_getElem?_getD,List.getElem?_eq_getElem hl]at this
       exact this
      have e2:(aA s).drop (dash s f)=45::(aA s).drop (dash s f+1):=by rw[List.drop_eq_getElem_cons hl,e45]
      rw[← e2]
      have e3:(aA s).drop (dash s f)=((aA s).drop f).drop (dash s f - f):=by rw[List.drop_drop];congr 1;omega
      rw[e3,List.take_append_drop]
     rw[hsp]
     cases l with
     | nil=>exact absurd rfl h2
     | cons y l=>rfl
   ·rw[if_neg hlt,List.foldl_nil]at h
    have hds:dash s f=s.size:=by omega
    refine⟨[x],(Option.some.inj h).symm,by simp,fun z hz=>by simp at hz;rw[hz];exact hx0,?_⟩
    show _=cE x 6
    rw[hb,hds,← GD,List.take_length]
theorem mN:∀ (l:List Nat),∀ x ∈ cA l,x<256
 | [],x,h=>by simp[cA]at h
 | [y],x,h=>by
  simp only[cA,cE,List.mem_map,List.mem_filter,List.mem_range]at h
  obtain⟨i,⟨hi,_⟩,rfl⟩:=h
  omega
 | y::z::r,x,h=>by
  simp only[cA,List.mem_append,List.mem_cons]at h
  rcases h with h | rfl | h
  ·simp only[cE,List.mem_map,List.mem_filter,List.mem_range]at h
   obtain⟨i,⟨hi,_⟩,rfl⟩:=h
   omega
  ·omega
  ·exact mN (z::r) x h
theorem GF (s:ByteArray):(dN s∧eE s=0∧eD s=bytesOf (cA (aA s)))∨eE s=1:=by
 unfold eE eD
 by_cases h:dN s
 ·left;rw[if_pos h,if_pos h];exact⟨h,rfl,rfl⟩
 ·right;rw[if_neg h]
theorem GG (s:ByteArray) (h:dN s):gN (eD s)=s∧sK (eD s)=0∧jR (eD s)=0:=by
 have hV:eD s=bytesOf (cA (aA s)):=by unfold eD;rw[if_pos h]
 obtain⟨h1,h4,hb⟩:=h
 have hA:=Z7 hb
 have hN:aA (eD s)=cA (aA s):=by rw[hV];exact aB _ (mN _)
 have hp:=yH (eD s) (aA s) 0 [] (by intro e;have:=congrArg List.length e;rw[aD]at this;simp only[List.length_nil]at this;omega)
  (fun x hx=>by
   obtain⟨j,hj,rfl⟩:=mM s hx
   have:=hA j hj
   unfold UK at this
   simpa using this) (by omega) (by rw[List.drop_zero];exact hN) (by rw[aD];simp;exact h4)
 obtain⟨r1,r2,r3⟩:=GA (eD s) (aA s) (by rw[List.nil_append]at hp;exact hp)
 exact⟨by rw[r1];exact aP s,r2,r3⟩
theorem GH (s:ByteArray) (h:jR s=0):eD (gN s)=s∧eE (gN s)=0:=by
 unfold jR at h
 cases hL:dY s with
 | none=>rw[hL]at h;cases h
 | some l =>
  have hl:=LR (show QH s (bU s 0)=some l from hL)
  obtain⟨l',h1,h2,h3,h4⟩:=yI s (s.size+1) 0 [] l (by omega) (by omega) hL
  rw[List.nil_append]at h1
  subst h1
  rw[List.drop_zero]at h4
  have hV:gN s=bytesOf l:=by unfold gN;rw[hL]
  have hN:aA (bytesOf l)=l:=aB l (fun x hx=>Nat.lt_trans (hl.2 x hx) (by decide))
  have hok:dN (gN s):=by
   rw[hV]
   refine⟨?_,?_,BS fun j hj=>?_⟩
   ·rw[aF]
    rcases Nat.eq_zero_or_pos l.length with h0 | h0
    ·exact absurd (List.eq_nil_of_length_eq_zero h0) h2
    ·exact h0
   ·rw[aF];exact hl.1
   ·rw[aF]at hj
    have e:aV (bytesOf l) j=l[j]:=by
     unfold aV
     rw[hN,List.getD_eq_getElem?_getD,List.getElem?_eq_getElem hj];rfl
    have hm:=List.getElem_mem hj
    have a1:=h3 _ hm
    have a2:=hl.2 _ hm
    unfold UK
    rw[e]
    simp only[decide_eq_true_eq]
    omega
  unfold eD eE
  rw[if_pos hok,if_pos hok]
  refine⟨?_,rfl⟩
  rw[hV,hN,← h4,aP]
end Go.Proofs.YthbigkoihpgcfaaGreatDoor.Ce
