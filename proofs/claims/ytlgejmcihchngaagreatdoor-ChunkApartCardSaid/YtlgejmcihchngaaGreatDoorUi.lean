/-
  Put together: CeI, CeL, CeO, CeU.
-/
import Derived.Test.YtlgejmcihchngaaGreatDoorEb
import Derived.Lib.IndexLaws
namespace Go.Proofs.YtlgejmcihchngaaGreatDoor.Ce
open Go.RowKit
def printT:List Nat→List Nat
 | []=>[]
 | [x]=>dotsN x 6
 | x::y::r=>dotsN x 6++45::printT (y::r)
theorem printT_snoc (x:Nat):∀ l:List Nat,l≠[]→printT (l++[x])=printT l++45::dotsN x 6
 | [],h=>absurd rfl h
 | [y],_=>rfl
 | y::z::r,_=>by
  have ih:=printT_snoc x (z::r) (by simp)
  show dotsN y 6++45::printT ((z::r)++[x])=(dotsN y 6++45::printT (z::r))++45::dotsN x 6
  rw[ih];simp
theorem printT_len:∀ l:List Nat,(printT l).length≤7 * l.length
 | []=>by simp[printT]
 | [x]=>by have:=dotsN_len x 6;simp only[printT,List.length_cons,List.length_nil];omega
 | x::y::r=>by
  have ih:=printT_len (y::r)
  have:=dotsN_len x 6
  simp only[printT,List.length_append,List.length_cons]at ih ⊢
  omega
def okP (b:Nat):Bool:=decide (b≠0∧b≤63)
def printOK (s:ByteArray):Prop:=1≤s.size∧s.size≤4∧badAt okP s=s.size
instance (s:ByteArray):Decidable (printOK s):=by unfold printOK;infer_instance
def printV (s:ByteArray):ByteArray:=if printOK s then bytesOf (printT (bytesN s)) else emptyS
def printE (s:ByteArray):Int:=if printOK s then 0 else 1
theorem printV_no {s:ByteArray} (h:¬ printOK s):emptyS=printV s:=by unfold printV;rw[if_neg h]
theorem printE_no {s:ByteArray} (h:¬ printOK s):1=printE s:=by unfold printE;rw[if_neg h]
set_option maxRecDepth 100000 in
set_option maxHeartbeats 4000000 in
theorem rprint_any (s:ByteArray) (hs:s.size≤70000) (w:World) :
  Calls Tryz.prog 96 #[.string s] w fun e w'=>e=.returned (.tuple #[.string (printV s),.int .i64 (printE s)])∧Below w.heap.size w w':=by
 by_cases h0:s.size=0
 ·have hn:¬ printOK s:=fun h=>by have:=h.1;omega
  have HV:=Lib.hid (printV_no hn)
  have HE:=Lib.hid (printE_no hn)
  have t1:(((s.size:Nat):Int)==0)=true:=by rw[h0];rfl
  clear hn h0
  go_enter Tryz.func96,Tryz.ntmps96
  go_wp2
  go_ret2
  exact⟨ret_se HV.out HE.out,Below.refl _ _⟩
 by_cases h4:4<s.size
 ·have hn:¬ printOK s:=fun h=>by have:=h.2.1;omega
  have HV:=Lib.hid (printV_no hn)
  have HE:=Lib.hid (printE_no hn)
  have t1:(((s.size:Nat):Int)==0)=false:=beq_eq_false_iff_ne.2 (by omega)
  clear hn h0
  go_enter Tryz.func96,Tryz.ntmps96
  go_wp2
  go_ret2
  exact⟨ret_se HV.out HE.out,Below.refl _ _⟩
 have t1:(((s.size:Nat):Int)==0)=false:=beq_eq_false_iff_ne.2 (by omega)
 have t2:decide (4<s.size)=false:=by simp;omega
 have h1:1≤s.size:=by omega
 have h4':s.size≤4:=by omega
 clear h0 h4
 go_enter Tryz.func96,Tryz.ntmps96
 go_wp2
 go_loopw [4,5] (fun v i wr=>∃ (k:Nat) (t:ByteArray),k≤s.size∧i=.int .i64 k∧v=.string t∧t=bytesOf (printT ((bytesN s).take k))∧allP okP s k∧Below w.heap.size w wr) (fun _ i _=>s.size - (intOf i).toNat)
 case atStart=>exact⟨0,_,by omega,rfl,rfl,rfl,allP.zero _ _,Below.refl _ _⟩
 case round =>
  obtain⟨k,t,hk,rfl,rfl,ht,hA,hB⟩:=hrel
  have htl:t.size≤7 * 4:=by
   rw[ht,bytesOf_size]
   refine Nat.le_trans (printT_len _) ?_
   rw[List.length_take];omega
  by_cases hlt:k<s.size
  ·have h256:=bAt_lt s k
   have E1:=bAt_get s k hlt
   have hT:=take_snoc s k hlt
   by_cases hp:okP (bAt s k)=true
   ·have hA2:=hA.succ hp
    have hb:bAt s k≠0∧bAt s k≤63:=by unfold okP at hp;simpa using hp
    have HT:=Lib.hid ht
    have HT2:=Lib.hid hT
    have hdl:(dotsS (bAt s k)).size≤6:=by rw[dotsS_size];exact popN_le _
    obtain⟨b,hbb⟩:∃ b,bAt s k=b:=⟨_,rfl⟩
    rw[hbb]at E1 hb h256 hdl HT2
    obtain⟨hb0,hb63⟩:=hb
    have u1:((b:Int)==0)=false:=by simp;omega
    have u2:decide (63<(b:Int))=false:=by simp;omega
    clear hp ht hT hb0 hbb
    by_cases hk0:k=0
    ·subst hk0
     have HX:=Lib.hid (show t++dotsS b=bytesOf (printT ((bytesN s).take (0+1))) by
      rw[HT2.out,HT.out]
      simp only[List.take_zero,List.nil_append,printT]
      show bytesOf []++bytesOf (dotsN b 6)=_
      rw[← bytesOf_append];rfl)
     go_wp2_with (go_at_call 130;refine(rdots_any b h256 _).mono ?_;rintro e w' ⟨rfl,hb⟩)
     exact⟨⟨0+1,_,by omega,by go_num,rfl,HX.out,hA2,hB.trans (hb.mono hB.size)⟩,by simp[intOf];omega⟩
    ·have hk1:0<k:=by omega
     have HX:=Lib.hid (show t++{ data:=#[45] }++dotsS b=bytesOf (printT ((bytesN s).take (k+1))) by
      rw[HT2.out,printT_snoc _ _ (by
       intro e
       have:=congrArg List.length e
       rw[List.length_take,bytesN_len]at this
       simp only[List.length_nil]at this
       omega),bytesOf_append,HT.out,ByteArray.append_assoc]
      congr 1)
     have hz:(t++{ data:=#[45] }).size≤7 * 4+1:=by
      rw[ByteArray.size_append]
      show t.size+1≤_
      omega
     clear hk0
     go_wp2_with (go_at_call 130;refine(rdots_any b h256 _).mono ?_;rintro e w' ⟨rfl,hb⟩)
     exact⟨⟨k+1,_,by omega,by go_num,rfl,HX.out,hA2,hB.trans (hb.mono hB.size)⟩,by simp[intOf];omega⟩
   ·have hp':okP (bAt s k)=false:=by simpa using hp
    have hbad:=badAt_at hA hlt hp'
    have hn:¬ printOK s:=fun h=>by have:=h.2.2;omega
    have HV:=Lib.hid (printV_no hn)
    have HE:=Lib.hid (printE_no hn)
    have hb:bAt s k=0∨63<bAt s k:=by
     unfold okP at hp';simp only[ne_eq,decide_eq_false_iff_not]at hp';omega
    obtain⟨b,hbb⟩:∃ b,bAt s k=b:=⟨_,rfl⟩
    rw[hbb]at E1 hb
    clear hp hp' hbad hn ht hT hbb hA
    by_cases hb0:b=0
    ·have u1:((b:Int)==0)=true:=by rw[hb0];rfl
     clear hb0 hb
     go_wp2
     go_ret2
     exact⟨ret_se HV.out HE.out,hB⟩
    ·have u1:((b:Int)==0)=false:=by simp;omega
     have u2:63<b:=by omega
     clear hb0 hb
     go_wp2
     go_ret2
     exact⟨ret_se HV.out HE.out,hB⟩
  ·obtain rfl:k=s.size:=by omega
   have hok:printOK s:=⟨h1,h4',badAt_all hA⟩
   have HV:=Lib.hid (show t=printV s by unfold printV;rw[if_pos hok,ht,← bytesN_len,List.take_length])
   have HE:=Lib.hid (show (0:Int)=printE s by unfold printE;rw[if_pos hok])
   clear ht hok
   go_wp2
   go_ret2
   exact⟨ret_se HV.out HE.out,hB⟩
end Go.Proofs.YtlgejmcihchngaaGreatDoor.Ce
namespace Go.Proofs.YtlgejmcihchngaaGreatDoor.Ce
open Go.RowKit
def dsh (s:ByteArray):Nat→Nat→Nat
 | 0,e=>e
 | n+1,e=>if e<s.size∧bAt s e≠45 then dsh s n (e+1) else e
def dash (s:ByteArray) (f:Nat):Nat:=dsh s s.size f
def IsDash (s:ByteArray) (f e:Nat):Prop:=f≤e∧e≤s.size∧(∀ j,f≤j→j<e→bAt s j≠45)∧(e<s.size→bAt s e=45)
theorem dsh_is (s:ByteArray) (f:Nat):∀ n e,s.size - e≤n→f≤e→e≤s.size→(∀ j,f≤j→j<e→bAt s j≠45)→IsDash s f (dsh s n e)
 | 0,e,hn,hf,he,hj=>⟨hf,he,hj,fun h=>by have:dsh s 0 e=e:=rfl;omega⟩
 | n+1,e,hn,hf,he,hj=>by
  unfold dsh
  by_cases h:e<s.size∧bAt s e≠45
  ·rw[if_pos h]
   refine dsh_is s f n (e+1) (by omega) (by omega) (by omega) (fun j h1 h2=>?_)
   rcases Nat.lt_or_ge j e with h3 | h3
   ·exact hj j h1 h3
   ·obtain rfl:j=e:=by omega
    exact h.2
  ·rw[if_neg h]
   exact⟨hf,he,hj,fun h3=>Classical.byContradiction fun h4=>h ⟨h3,h4⟩⟩
theorem dash_is (s:ByteArray) (f:Nat) (h:f≤s.size):IsDash s f (dash s f):=dsh_is s f s.size f (by omega) (Nat.le_refl _) h (fun j h1 h2=>by omega)
theorem IsDash.unique {s:ByteArray} {f e e':Nat} (h:IsDash s f e) (h':IsDash s f e'):e=e':=by
 obtain⟨a1,a2,a3,a4⟩:=h
 obtain⟨b1,b2,b3,b4⟩:=h'
 rcases Nat.lt_trichotomy e e' with h | h | h
 ·exact absurd (a4 (by omega)) (b3 e (by omega) h)
 ·exact h
 ·exact absurd (b4 (by omega)) (a3 e' (by omega) h)
theorem ext_size (s:ByteArray) (a b:Nat) (hb:b≤s.size):(s.extract a b).size=b - a:=by
 rw[ByteArray.size_extract];omega
abbrev Pt (s:ByteArray):={ x:Nat × Nat // x.1≤x.2∧x.2≤s.size }
def partsF (s:ByteArray):Nat→Nat→List (Pt s)
 | 0,_=>[]
 | n+1,f=>if h:f≤s.size then ⟨(f,dash s f),(dash_is s f h).1,(dash_is s f h).2.1⟩::(if dash s f<s.size then partsF s n (dash s f+1) else []) else []
def partsA (s:ByteArray) (f:Nat):List (Pt s):=partsF s (s.size+1) f
theorem partsF_more (s:ByteArray):∀ n m f,s.size+1 - f≤n→s.size+1 - f≤m→partsF s n f=partsF s m f
 | 0,0,_,_,_=>rfl
 | 0,m+1,f,hn,hm=>by unfold partsF;rw[dif_neg (by omega)]
 | n+1,0,f,hn,hm=>by unfold partsF;rw[dif_neg (by omega)]
 | n+1,m+1,f,hn,hm=>by
  unfold partsF
  by_cases h:f≤s.size
  ·rw[dif_pos h,dif_pos h]
   have:=(dash_is s f h).1
   congr 1
   split
   ·exact partsF_more s n m (dash s f+1) (by omega) (by omega)
   ·rfl
  ·rw[dif_neg h,dif_neg h]
theorem partsA_step (s:ByteArray) (f:Nat) (h:f≤s.size):partsA s f=⟨(f,dash s f),(dash_is s f h).1,(dash_is s f h).2.1⟩::(if dash s f<s.size then partsA s (dash s f+1) else []):=by
 have h1:=(dash_is s f h).1
 have h2:=(dash_is s f h).2.1
 unfold partsA
 conv=>lhs;unfold partsF
 rw[dif_pos h]
 congr 1
 split
 ·exact partsF_more s _ _ _ (by omega) (by omega)
 ·rfl
def ComeP (s:ByteArray) (pre:List (Pt s)) (f:Nat):Prop:=partsA s 0=pre++partsA s f
theorem ComeP.zero (s:ByteArray):ComeP s [] 0:=rfl
theorem ComeP.succ {s:ByteArray} {pre:List (Pt s)} {f:Nat} (h:ComeP s pre f) (hf:f≤s.size) (hd:dash s f<s.size) :
  ComeP s (pre++[⟨(f,dash s f),(dash_is s f hf).1,(dash_is s f hf).2.1⟩]) (dash s f+1):=by
 unfold ComeP at h ⊢;rw[h,partsA_step s f hf,if_pos hd];simp
theorem ComeP.last {s:ByteArray} {pre:List (Pt s)} {f:Nat} (h:ComeP s pre f) (hf:f≤s.size) (hd:¬ dash s f<s.size) :
  partsA s 0=pre++[⟨(f,dash s f),(dash_is s f hf).1,(dash_is s f hf).2.1⟩]:=by
 unfold ComeP at h;rw[h,partsA_step s f hf,if_neg hd]
theorem ComeP.lt {s:ByteArray} {pre:List (Pt s)} {f:Nat} (h:ComeP s pre f) (hf:f≤s.size):pre.length<(partsA s 0).length:=by
 unfold ComeP at h;rw[h,partsA_step s f hf];simp
theorem ComeP.front {s:ByteArray} {pre:List (Pt s)} {f:Nat} (h:ComeP s pre f):pre <+: partsA s 0:=⟨_,h.symm⟩
end Go.Proofs.YtlgejmcihchngaaGreatDoor.Ce
namespace Go.Proofs.YtlgejmcihchngaaGreatDoor.Ce
open Go.RowKit
def ptN (s:ByteArray) (x:Pt s):Nat:=ofS (s.extract x.1.1 x.1.2)
def pStep (s:ByteArray) (o:Option (List Nat)) (x:Pt s):Option (List Nat):=o.bind fun acc=>if ptN s x=0∨acc.length=4 then none else some (acc++[ptN s x])
def pSt (s:ByteArray) (pre:List (Pt s)):Option (List Nat):=pre.foldl (pStep s) (some [])
def parseL (s:ByteArray):Option (List Nat):=pSt s (partsA s 0)
def fGo (s:ByteArray):List (Pt s)→Option (List Nat)→Nat
 | [],_=>0
 | x::r,o=>if pStep s o x=none then x.1.1 else fGo s r (pStep s o x)
def parseAt (s:ByteArray):Nat:=fGo s (partsA s 0) (some [])
def parseV (s:ByteArray):ByteArray:=match parseL s with | some l=>bytesOf l | none=>emptyS
def parseE (s:ByteArray):Int:=match parseL s with | some _=>0 | none=>2
theorem pSt_snoc (s:ByteArray) (pre:List (Pt s)) (x:Pt s):pSt s (pre++[x])=pStep s (pSt s pre) x:=by unfold pSt;rw[List.foldl_append];rfl
theorem pSt_none (s:ByteArray) (r:List (Pt s)):r.foldl (pStep s) none=none:=by
 induction r with
 | nil=>rfl
 | cons x r ih=>exact ih
theorem pStep_yes {s:ByteArray} {acc:List Nat} {x:Pt s} (h:ptN s x≠0) (h4:acc.length≠4):pStep s (some acc) x=some (acc++[ptN s x]):=by simp[pStep,h,h4]
theorem pStep_no {s:ByteArray} {acc:List Nat} {x:Pt s} (h:ptN s x=0∨acc.length=4):pStep s (some acc) x=none:=by
 unfold pStep;rw[Option.bind_some,if_pos h]
theorem fGo_append (s:ByteArray) (x:Pt s) (r:List (Pt s)):∀ (pre:List (Pt s)) (o:Option (List Nat)) (acc:List Nat),pre.foldl (pStep s) o=some acc→pStep s (some acc) x=none→fGo s (pre++x::r) o=x.1.1
 | [],o,acc,h,hx=>by
  have h':o=some acc:=h
  subst h'
  show (if pStep s (some acc) x=none then x.1.1 else _)=_
  rw[if_pos hx]
 | y::pre,o,acc,h,hx=>by
  rw[List.foldl_cons]at h
  have hn:¬ pStep s o y=none:=fun e=>by rw[e,pSt_none]at h;cases h
  show (if pStep s o y=none then y.1.1 else fGo s (pre++x::r) (pStep s o y))=_
  rw[if_neg hn]
  exact fGo_append s x r pre _ acc h hx
def atN {s:ByteArray} (pre:List (Pt s)):Nat:=(pre.map fun x=>x.1.2 - x.1.1+1).sum
theorem atN_front (s:ByteArray):∀ (n f:Nat) (pre:List (Pt s)) (x:Pt s),pre++[x] <+: partsF s n f→f+atN pre=x.1.1
 | 0,f,pre,x,h=>by
  have:=h.length_le
  simp[partsF]at this
 | n+1,f,pre,x,h=>by
  unfold partsF at h
  by_cases hf:f≤s.size
  ·rw[dif_pos hf]at h
   obtain⟨d1,_,_,_⟩:=dash_is s f hf
   cases pre with
   | nil =>
    rw[List.nil_append,List.cons_prefix_cons]at h
    rw[h.1];simp[atN]
   | cons y pre =>
    rw[List.cons_append,List.cons_prefix_cons]at h
    obtain⟨rfl,h2⟩:=h
    by_cases hd:dash s f<s.size
    ·rw[if_pos hd]at h2
     have ih:=atN_front s n (dash s f+1) pre x h2
     rw[← ih]
     simp only[atN,List.map_cons,List.sum_cons]
     omega
    ·rw[if_neg hd]at h2
     have:=h2.length_le
     simp at this
  ·rw[dif_neg hf]at h
   have:=h.length_le
   simp at this
theorem parse_fail (s:ByteArray) (pre:List (Pt s)) (x:Pt s) (acc:List Nat) (h:pSt s pre=some acc) (hx:ptN s x=0∨acc.length=4) (hp:pre++[x] <+: partsA s 0) :
  parseV s=emptyS∧parseAt s=atN pre∧parseE s=2:=by
 obtain⟨r,hr⟩:=id hp
 have hn:=pStep_no hx
 have hL:parseL s=none:=by
  unfold parseL pSt
  rw[← hr,List.foldl_append,show (pre++[x]).foldl (pStep s) (some [])=pSt s (pre++[x]) from rfl,pSt_snoc,h,hn]
  exact pSt_none s r
 have ha:=atN_front s _ 0 pre x hp
 refine⟨by unfold parseV;rw[hL],?_,by unfold parseE;rw[hL]⟩
 unfold parseAt
 rw[← hr,List.append_assoc,List.singleton_append,fGo_append s x r pre _ acc h hn]
 omega
theorem fGo_ok (s:ByteArray):∀ (l:List (Pt s)) (o:Option (List Nat)) (acc:List Nat),l.foldl (pStep s) o=some acc→fGo s l o=0
 | [],_,_,_=>rfl
 | y::l,o,acc,h=>by
  rw[List.foldl_cons]at h
  have hn:¬ pStep s o y=none:=fun e=>by rw[e,pSt_none]at h;cases h
  show (if pStep s o y=none then y.1.1 else fGo s l (pStep s o y))=_
  rw[if_neg hn]
  exact fGo_ok s l _ acc h
theorem parse_ok (s:ByteArray) (acc:List Nat) (h:pSt s (partsA s 0)=some acc):parseV s=bytesOf acc∧parseAt s=0∧parseE s=0:=by
 have hL:parseL s=some acc:=h
 exact⟨by unfold parseV;rw[hL],fGo_ok s _ _ acc h,by unfold parseE;rw[hL]⟩
theorem pStep_len {s:ByteArray} {o:Option (List Nat)} {x:Pt s} {acc:List Nat} (h:pStep s o x=some acc) (ho:∀ a,o=some a→a.length≤4∧∀ y ∈ a,y<64):acc.length≤4∧∀ y ∈ acc,y<64:=by
 unfold pStep at h
 obtain⟨a,ha,h2⟩:=Option.bind_eq_some_iff.1 h
 obtain⟨h3,h4⟩:=ho a ha
 split at h2
 ·cases h2
 ·rename_i hc
  cases h2
  refine⟨by rw[List.length_append];simp;omega,fun y hy=>?_⟩
  rcases List.mem_append.1 hy with hy | hy
  ·exact h4 y hy
  ·simp at hy;rw[hy];exact ofS_lt _
theorem pSt_len (s:ByteArray):∀ (l:List (Pt s)) (o:Option (List Nat)) (acc:List Nat),(∀ a,o=some a→a.length≤4∧∀ y ∈ a,y<64)→l.foldl (pStep s) o=some acc→acc.length≤4∧∀ y ∈ acc,y<64
 | [],_,acc,ho,h=>ho acc h
 | _::l,_,acc,ho,h=>pSt_len s l _ acc (fun _ ha=>pStep_len ha ho) h
theorem pSt_le {s:ByteArray} {pre:List (Pt s)} {acc:List Nat} (h:pSt s pre=some acc):acc.length≤4∧∀ y ∈ acc,y<64 :=
 pSt_len s pre _ acc (fun a ha=>by cases ha;exact⟨by simp,fun y hy=>by simp at hy⟩) h
end Go.Proofs.YtlgejmcihchngaaGreatDoor.Ce
namespace Go.Proofs.YtlgejmcihchngaaGreatDoor.Ce
open Go.RowKit
theorem mem_bytes (s:ByteArray) {x:Nat} (h:x ∈ bytesN s):∃ j,j<s.size∧bAt s j=x:=by
 obtain⟨j,hj,rfl⟩:=List.getElem_of_mem h
 refine⟨j,by rw[← bytesN_len];exact hj,?_⟩
 unfold bAt
 rw[List.getD_eq_getElem?_getD,List.getElem?_eq_getElem hj];rfl
theorem of_dots:∀ x:Fin 64,ofN (dotsN x.val 6)=x.val:=by decide +kernel
theorem dots_step:∀ c:Fin 64,∀ b:Fin 128,c.val<bitN b.val→dotsN (c.val+bitN b.val) 6=dotsN c.val 6++[b.val]:=by decide +kernel
theorem of_lt64 (c b:Nat) (hb:c<bitN b):c+bitN b<64:=by
 have:=bitN_le b
 omega
theorem dots_of':∀ (l:List Nat) (c r:Nat),c<64→l.foldl ofStep (some c)=some r→dotsN r 6=dotsN c 6++l
 | [],c,r,_,h=>by cases h;simp
 | b::l,c,r,hc,h=>by
  rw[List.foldl_cons]at h
  by_cases hb:c<bitN b
  ·have e:ofStep (some c) b=some (c+bitN b):=by simp[ofStep,hb]
   rw[e]at h
   have hlt:c+bitN b<64:=of_lt64 c b hb
   have hb128:b<128:=by
    rcases bitN_cases b with h0 | ⟨h0,_⟩ | ⟨h0,_⟩ | ⟨h0,_⟩ | ⟨h0,_⟩ | ⟨h0,_⟩ | ⟨h0,_⟩<;>omega
   rw[dots_of' l _ r hlt h,dots_step ⟨c,hc⟩ ⟨b,hb128⟩ hb]
   simp
  ·have e:ofStep (some c) b=none:=by simp[ofStep,hb]
   rw[e,ofStep_none]at h;cases h
theorem dots_of (l:List Nat) (h:ofN l≠0):dotsN (ofN l) 6=l:=by
 unfold ofN at h ⊢
 cases hl:ofL l with
 | none=>rw[hl]at h;exact absurd rfl h
 | some r =>
  have:=dots_of' l 0 r (by omega) hl
  rw[show (some r).getD 0=r from rfl,this]
  rfl
theorem dots_no_dash (x j:Nat) (hj:j<(dotsN x 6).length):(dotsN x 6)[j]≠45:=by
 have hm:=List.getElem_mem hj
 simp only[dotsN,List.mem_map,List.mem_filter,List.mem_range]at hm
 obtain⟨i,_,he⟩:=hm
 have:(dotsN x 6)[j]=49+i:=by
  simp only[dotsN];exact he.symm
 omega
theorem bAt_drop (s:ByteArray) (f i:Nat):bAt s (f+i)=((bytesN s).drop f).getD i 0:=by
 unfold bAt
 rw[List.getD_eq_getElem?_getD,List.getD_eq_getElem?_getD,List.getElem?_drop]
theorem bytesN_ext (s:ByteArray) (f e:Nat):bytesN (s.extract f e)=((bytesN s).drop f).take (e - f):=by
 unfold bytesN
 rw[ByteArray.data_extract,Array.toList_extract,List.extract_eq_take_drop,List.map_take,List.map_drop]
theorem drop_len (s:ByteArray) (f:Nat):((bytesN s).drop f).length=s.size - f:=by rw[List.length_drop,bytesN_len]
theorem dash_at (s:ByteArray) (f x:Nat) (r:List Nat) (hf:f≤s.size) (h:(bytesN s).drop f=dotsN x 6++r) (hr:r=[]∨∃ r',r=45::r') :
  dash s f=f+(dotsN x 6).length∧bytesN (s.extract f (dash s f))=dotsN x 6∧(r=[]→dash s f=s.size)∧(r≠[]→dash s f<s.size):=by
 have hl:=drop_len s f
 rw[h,List.length_append]at hl
 have he:dash s f=f+(dotsN x 6).length:=(dash_is s f hf).unique ⟨by omega,by omega,fun j h1 h2=>by
  obtain⟨i,rfl⟩:∃ i,j=f+i:=⟨j - f,by omega⟩
  have hi:i<(dotsN x 6).length:=by omega
  rw[bAt_drop,h,List.getD_eq_getElem?_getD,List.getElem?_append_left hi,List.getElem?_eq_getElem hi]
  exact dots_no_dash x i hi,fun hlt=>by
  rcases hr with rfl | ⟨r',rfl⟩
  ·simp at hl;omega
  ·rw[bAt_drop,h,List.getD_eq_getElem?_getD,List.getElem?_append_right (Nat.le_refl _)]
   simp⟩
 refine⟨he,?_,fun h0=>?_,fun h0=>?_⟩
 ·rw[bytesN_ext,h,he,Nat.add_sub_cancel_left,List.take_left']
  rfl
 ·subst h0;simp at hl;omega
 ·have:0<r.length:=by
   rcases hr with rfl | ⟨r',rfl⟩
   ·exact absurd rfl h0
   ·simp
  omega
theorem parse_from (s:ByteArray):∀ (l:List Nat) (f:Nat) (acc:List Nat),l≠[]→(∀ x ∈ l,x≠0∧x≤63)→f≤s.size→(bytesN s).drop f=printT l→acc.length+l.length≤4 →
  (partsA s f).foldl (pStep s) (some acc)=some (acc++l)
 | [],_,_,h,_,_,_,_=>absurd rfl h
 | [x],f,acc,_,hx,hf,hd,hl=>by
  obtain⟨e1,e2,e3,_⟩:=dash_at s f x [] hf (by rw[hd];simp[printT]) (.inl rfl)
  obtain⟨hx0,hx63⟩:=hx x (by simp)
  have hp:ptN s ⟨(f,dash s f),(dash_is s f hf).1,(dash_is s f hf).2.1⟩=x:=by
   unfold ptN ofS;simp only[];rw[e2];exact of_dots ⟨x,by omega⟩
  rw[partsA_step s f hf,if_neg (by have:=e3 rfl;omega),List.foldl_cons,List.foldl_nil,pStep_yes (by rw[hp];exact hx0) (by simp at hl;omega),hp]
 | x::y::r,f,acc,_,hx,hf,hd,hl=>by
  obtain⟨e1,e2,_,e4⟩:=dash_at s f x (45::printT (y::r)) hf (by rw[hd];rfl) (.inr ⟨_,rfl⟩)
  have hlt:=e4 (by simp)
  obtain⟨hx0,hx63⟩:=hx x (by simp)
  have hp:ptN s ⟨(f,dash s f),(dash_is s f hf).1,(dash_is s f hf).2.1⟩=x:=by
   unfold ptN ofS;simp only[];rw[e2];exact of_dots ⟨x,by omega⟩
  have hd2:(bytesN s).drop (dash s f+1)=printT (y::r):=by
   rw[e1,Nat.add_assoc,← List.drop_drop,hd]
   show (dotsN x 6++45::printT (y::r)).drop ((dotsN x 6).length+1)=_
   rw[List.drop_append];simp
  rw[partsA_step s f hf,if_pos hlt,List.foldl_cons,pStep_yes (by rw[hp];exact hx0) (by simp at hl;omega),hp,
   parse_from s (y::r) (dash s f+1) (acc++[x]) (by simp) (fun z hz=>hx z (List.mem_cons_of_mem _ hz)) (by omega) hd2 (by simp at hl ⊢;omega)]
  simp
theorem parts_back (s:ByteArray):∀ (n f:Nat) (acc r:List Nat),s.size - f<n→f≤s.size→(partsA s f).foldl (pStep s) (some acc)=some r →
  ∃ l,r=acc++l∧l≠[]∧(∀ x ∈ l,x≠0)∧(bytesN s).drop f=printT l
 | 0,_,_,_,h,_,_=>by omega
 | n+1,f,acc,r,hn,hf,h=>by
  obtain⟨d1,d2,d3,d4⟩:=dash_is s f hf
  rw[partsA_step s f hf,List.foldl_cons]at h
  obtain⟨x,hx⟩:∃ x,ptN s ⟨(f,dash s f),d1,d2⟩=x:=⟨_,rfl⟩
  by_cases hbad:x=0∨acc.length=4
  ·rw[pStep_no (by rw[hx];exact hbad),pSt_none]at h;cases h
  ·have hx0:x≠0:=fun e=>hbad (.inl e)
   have hb:dotsN x 6=((bytesN s).drop f).take (dash s f - f):=by
    rw[← bytesN_ext]
    have:ofN (bytesN (s.extract f (dash s f)))=x:=hx
    rw[← this]
    exact dots_of _ (by rw[this];exact hx0)
   rw[pStep_yes (by rw[hx];exact hx0) (fun e=>hbad (.inr e)),hx]at h
   by_cases hlt:dash s f<s.size
   ·rw[if_pos hlt]at h
    obtain⟨l,h1,h2,h3,h4⟩:=parts_back s n (dash s f+1) (acc++[x]) r (by omega) (by omega) h
    refine⟨x::l,by rw[h1];simp,by simp,fun z hz=>?_,?_⟩
    ·rcases List.mem_cons.1 hz with rfl | hz
     ·exact hx0
     ·exact h3 z hz
    ·have hsp:(bytesN s).drop f=dotsN x 6++45::printT l:=by
      rw[hb,← h4]
      have hl:dash s f<(bytesN s).length:=by rw[bytesN_len];exact hlt
      have e45:(bytesN s)[dash s f]=45:=by
       have:=d4 hlt
       unfold bAt at this
       rw[List.getD_eq_getElem?_getD,List.getElem?_eq_getElem hl]at this
       exact this
      have e2:(bytesN s).drop (dash s f)=45::(bytesN s).drop (dash s f+1):=by rw[List.drop_eq_getElem_cons hl,e45]
      rw[← e2]
      have e3:(bytesN s).drop (dash s f)=((bytesN s).drop f).drop (dash s f - f):=by rw[List.drop_drop];congr 1;omega
      rw[e3,List.take_append_drop]
     rw[hsp]
     cases l with
     | nil=>exact absurd rfl h2
     | cons y l=>rfl
   ·rw[if_neg hlt,List.foldl_nil]at h
    have hds:dash s f=s.size:=by omega
    refine⟨[x],(Option.some.inj h).symm,by simp,fun z hz=>by simp at hz;rw[hz];exact hx0,?_⟩
    show _=dotsN x 6
    rw[hb,hds,← drop_len,List.take_length]
theorem printT_lt:∀ (l:List Nat),∀ x ∈ printT l,x<256
 | [],x,h=>by simp[printT]at h
 | [y],x,h=>by
  simp only[printT,dotsN,List.mem_map,List.mem_filter,List.mem_range]at h
  obtain⟨i,⟨hi,_⟩,rfl⟩:=h
  omega
 | y::z::r,x,h=>by
  simp only[printT,List.mem_append,List.mem_cons]at h
  rcases h with h | rfl | h
  ·simp only[dotsN,List.mem_map,List.mem_filter,List.mem_range]at h
   obtain⟨i,⟨hi,_⟩,rfl⟩:=h
   omega
  ·omega
  ·exact printT_lt (z::r) x h
theorem print_cases (s:ByteArray):(printOK s∧printE s=0∧printV s=bytesOf (printT (bytesN s)))∨printE s=1:=by
 unfold printE printV
 by_cases h:printOK s
 ·left;rw[if_pos h,if_pos h];exact⟨h,rfl,rfl⟩
 ·right;rw[if_neg h]
theorem print_there (s:ByteArray) (h:printOK s):parseV (printV s)=s∧parseAt (printV s)=0∧parseE (printV s)=0:=by
 have hV:printV s=bytesOf (printT (bytesN s)):=by unfold printV;rw[if_pos h]
 obtain⟨h1,h4,hb⟩:=h
 have hA:=allP_of hb
 have hN:bytesN (printV s)=printT (bytesN s):=by rw[hV];exact bytesN_bytesOf _ (printT_lt _)
 have hp:=parse_from (printV s) (bytesN s) 0 [] (by intro e;have:=congrArg List.length e;rw[bytesN_len]at this;simp only[List.length_nil]at this;omega)
  (fun x hx=>by
   obtain⟨j,hj,rfl⟩:=mem_bytes s hx
   have:=hA j hj
   unfold okP at this
   simpa using this) (by omega) (by rw[List.drop_zero];exact hN) (by rw[bytesN_len];simp;exact h4)
 obtain⟨r1,r2,r3⟩:=parse_ok (printV s) (bytesN s) (by rw[List.nil_append]at hp;exact hp)
 exact⟨by rw[r1];exact bytesOf_bytesN s,r2,r3⟩
theorem parse_there (s:ByteArray) (h:parseE s=0):printV (parseV s)=s∧printE (parseV s)=0:=by
 unfold parseE at h
 cases hL:parseL s with
 | none=>rw[hL]at h;cases h
 | some l =>
  have hl:=pSt_le (show pSt s (partsA s 0)=some l from hL)
  obtain⟨l',h1,h2,h3,h4⟩:=parts_back s (s.size+1) 0 [] l (by omega) (by omega) hL
  rw[List.nil_append]at h1
  subst h1
  rw[List.drop_zero]at h4
  have hV:parseV s=bytesOf l:=by unfold parseV;rw[hL]
  have hN:bytesN (bytesOf l)=l:=bytesN_bytesOf l (fun x hx=>Nat.lt_trans (hl.2 x hx) (by decide))
  have hok:printOK (parseV s):=by
   rw[hV]
   refine⟨?_,?_,badAt_all fun j hj=>?_⟩
   ·rw[bytesOf_size]
    rcases Nat.eq_zero_or_pos l.length with h0 | h0
    ·exact absurd (List.eq_nil_of_length_eq_zero h0) h2
    ·exact h0
   ·rw[bytesOf_size];exact hl.1
   ·rw[bytesOf_size]at hj
    have e:bAt (bytesOf l) j=l[j]:=by
     unfold bAt
     rw[hN,List.getD_eq_getElem?_getD,List.getElem?_eq_getElem hj];rfl
    have hm:=List.getElem_mem hj
    have a1:=h3 _ hm
    have a2:=hl.2 _ hm
    unfold okP
    rw[e]
    simp only[decide_eq_true_eq]
    omega
  unfold printV printE
  rw[if_pos hok,if_pos hok]
  refine⟨?_,rfl⟩
  rw[hV,hN,← h4,bytesOf_bytesN]
end Go.Proofs.YtlgejmcihchngaaGreatDoor.Ce
