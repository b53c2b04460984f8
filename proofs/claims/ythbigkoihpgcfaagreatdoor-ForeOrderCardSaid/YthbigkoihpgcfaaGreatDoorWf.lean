/-
  Put together.
-/
import Derived.Test.YthbigkoihpgcfaaGreatDoorDaN
import Derived.Test.YthbigkoihpgcfaaGreatDoorSe
import Derived.Test.YthbigkoihpgcfaaGreatDoorUm
import Derived.Test.YthbigkoihpgcfaaGreatDoorWd
import Derived.BigQuiet
open Go.Lib (hid)
set_option maxRecDepth 100000
set_option maxHeartbeats 16000000
namespace Go.Proofs.YthbigkoihpgcfaaGreatDoor.Da
open Go.RowKit Ba Ru Ck Ti Pa Fl Cu
theorem CR {w:World} {B e size n:Nat} {v:Value} {xs:List Value} (h:w.ownsRow B e size v n xs):lS v:=by
 obtain⟨A,c,rfl,h1,h2,-⟩:=aN h
 exact qF h1 h2
def M6 (w:World) (v:Value) (L:List (Int × Int × List Nat)):Prop :=
 ∃ A c,v=.slice A L.length c∧(0<L.length→∃ g,A=some ⟨g,0,none⟩∧g<w.heap.size∧∀ (k:Nat) (x:Int × Int × List Nat),L[k]?=some x→w.cell? ⟨g,k * 6,none⟩=some (.int .i64 x.1)∧w.cell? ⟨g,k * 6+1,none⟩=some (.int .i64 x.2.1)∧w.cell? ⟨g,k * 6+2,none⟩=some (.string (bytesOf x.2.2)))
theorem M6.kept {w w':World} {v:Value} {L:List (Int × Int × List Nat)} (h:M6 w v L) (hb:Below w.heap.size w w'):M6 w' v L:=by
 obtain⟨A,c,e,h⟩:=h
 refine⟨A,c,e,fun h0=>?_⟩
 obtain⟨g,h1,h2,h3⟩:=h h0
 refine⟨g,h1,Nat.lt_of_lt_of_le h2 hb.size,fun k x hx=>?_⟩
 obtain⟨a,b,d⟩:=h3 k x hx
 exact⟨(hb.cell (p:=⟨g,k * 6,none⟩) h2).trans a,(hb.cell (p:=⟨g,k * 6+1,none⟩) h2).trans b,(hb.cell (p:=⟨g,k * 6+2,none⟩) h2).trans d⟩
theorem WH {α:Type} {f:α→List Value} {w:World} {v:Value} {l:List α} {L:List (Int × Int × List Nat)} (h:Reads f 6 0 w w.heap.size v l) (hlen:l.length=L.length)
  (hp:∀ (k:Nat) (x:Int × Int × List Nat),L[k]?=some x→∃ y,l[k]?=some y∧(f y)[0]?=some (.int .i64 x.1)∧(f y)[1]?=some (.int .i64 x.2.1)∧(f y)[2]?=some (.string (bytesOf x.2.2))):M6 w v L:=by
 obtain⟨A,c,e,h⟩:=h
 refine⟨A,c,by rw[← hlen];exact e,fun h0=>?_⟩
 obtain⟨g,h1,h2,h3⟩:=h (by omega)
 refine⟨g,h1,h2,fun k x hx=>?_⟩
 obtain⟨y,hy,a,b,d⟩:=hp k x hx
 have e0:=h3 k y hy 0 _ a
 have e1:=h3 k y hy 1 _ b
 have e2:=h3 k y hy 2 _ d
 simp only[Nat.zero_add,Nat.add_zero]at e0 e1 e2
 exact⟨e0,e1,e2⟩
theorem zK (l:List Rl) (t:List Tk):∀ (fs:List Fw) (vs:List Value),mF l t fs vs=Ba.rows (fun p:Fw × Value=>fH l t p.1 p.2) (fs.zip vs)
 | [],_=>rfl
 | _::_,[]=>rfl
 | f::fs,a::vs=>by
  show fH l t f a++mF l t fs vs=Ba.rows (fun p:Fw × Value=>fH l t p.1 p.2) ((f,a)::fs.zip vs)
  rw[Ba.fV,zK l t fs vs]
def CS (l:List Rl) (t:List Tk) (f:Fw):Int × Int × List Nat:=((f.code:Int),f.depth,(iW l t f).map (·.1))
theorem I6.rdL {B:Nat} {w:World} {v:Value} {l:List Rl} {t:List Tk} {fs:List Fw} (h:I6 B w v l t fs):M6 w v (fs.map (CS l t)):=by
 obtain⟨avs,h1,h2,-⟩:=h
 rw[zK]at h2
 have hz:(fs.zip avs).length=fs.length:=by rw[List.length_zip,h1,Nat.min_self]
 refine WH (Reads.hO (f:=fun p:Fw × Value=>fH l t p.1 p.2) (fun _=>rfl) hz h2) (by rw[hz,List.length_map]) fun k x hx=>?_
 rw[List.getElem?_map]at hx
 cases hf:fs[k]? with
 | none=>rw[hf]at hx;cases hx
 | some f =>
  rw[hf]at hx
  cases hx
  have hk:=(List.getElem?_eq_some_iff.1 hf).1
  obtain⟨a,ha⟩:∃ a,avs[k]?=some a:=⟨_,List.getElem?_eq_getElem (by omega)⟩
  exact⟨(f,a),by rw[List.getElem?_zip_eq_some];exact⟨hf,ha⟩,rfl,rfl,rfl⟩
def aDR (x:Int × Int × List Nat):List Value:=[.int .i64 x.1,.int .i64 x.2.1,.string (bytesOf x.2.2),.slice none 0 0,.int .i64 0,.int .i64 0]
theorem xV (w:World) (L:List (Int × Int × List Nat)) (cs:Array Value) (n:Nat) (hn:L.length=n) (hm:n≤100) (hc:cs.toList=Ba.rows aDR L):M6 (w.alloc (.cells cs 44)) (.slice (some ⟨w.heap.size,0,none⟩) n n) L:=by
 have hs:cs.size=n * 6:=by rw[← Array.length_toList,hc,Ba.dA aDR (n:=6) (fun _=>rfl),hn]
 have h:=World.ownsRow_lit (base:=w.heap.size) (e:=44) (size:=6) w cs n (Nat.le_refl _) (by unfold maxLen;omega) hs
 rw[hc]at h
 exact WH (Reads.hO (f:=aDR) (fun _=>rfl) hn h) rfl fun k x hx=>⟨x,hx,rfl,rfl,rfl⟩
theorem WI (u v:Value) (L:List (Int × Int × List Nat)) (hL:L.length≤1000) (w:World) (hu:M6 w u L) (hv:M6 w v L):Calls Tryz.prog 34 #[u,v] w fun e w'=>e=.returned (.bool true)∧∃ m,w'=w.drewN m:=by
 obtain⟨A,c,rfl,hA⟩:=hu
 obtain⟨A2,c2,rfl,hA2⟩:=hv
 have HA:=hid hA
 have HA2:=hid hA2
 obtain⟨n,hn⟩:∃ n,L.length=n:=⟨_,rfl⟩
 rw[hn]at HA HA2 hL ⊢
 have HN:=hid hn
 clear hA hA2 hn
 go_enter Tryz.func34,Tryz.ntmps34
 go_wp2
 go_loopw [5] (fun i wr=>∃ k m:Nat,i=.int .i64 (k:Int)∧k≤n∧wr=w.drewN m) (fun i _=>n - (intOf i).toNat)
 case atStart=>exact⟨0,0,rfl,Nat.zero_le _,rfl⟩
 case round =>
  obtain⟨k,m,rfl,hk,rfl⟩:=hrel
  have k0:(0:Int)≤(k:Int):=by omega
  by_cases hlt:k<n
  ·obtain⟨g,rfl,-,hc⟩:=HA.out (by omega)
   obtain⟨g2,rfl,-,hc2⟩:=HA2.out (by omega)
   obtain⟨x,hx⟩:∃ x,L[k]?=some x:=⟨_,List.getElem?_eq_getElem (by rw[HN.out];exact hlt)⟩
   obtain⟨p0,p1,p2⟩:=hc k x hx
   obtain⟨q0,q1,q2⟩:=hc2 k x hx
   have k1:(k:Int)<(n:Int):=by omega
   have kt:decide ((k:Int)<(n:Int))=true:=decide_eq_true k1
   obtain⟨S,hS⟩:∃ S,bytesOf x.2.2=S:=⟨_,rfl⟩
   rw[hS]at p2 q2
   obtain⟨xc,hxc⟩:∃ y,x.1=y:=⟨_,rfl⟩
   obtain⟨xd,hxd⟩:∃ y,x.2.1=y:=⟨_,rfl⟩
   rw[hxc]at p0 q0
   rw[hxd]at p1 q1
   have p0':(w.drewN m).cell? ⟨g,k * 6,none⟩=some (.int .i64 xc):=p0
   have p1':(w.drewN m).cell? ⟨g,k * 6+1,none⟩=some (.int .i64 xd):=p1
   have p2':(w.drewN m).cell? ⟨g,k * 6+2,none⟩=some (.string S):=p2
   have q0':(w.drewN m).cell? ⟨g2,k * 6,none⟩=some (.int .i64 xc):=q0
   have q1':(w.drewN m).cell? ⟨g2,k * 6+1,none⟩=some (.int .i64 xd):=q1
   have q2':(w.drewN m).cell? ⟨g2,k * 6+2,none⟩=some (.string S):=q2
   clear hc hc2 hx hS hxc hxd
   go_upto_region 6 with fail
   go_quiet (fail)
   go_wp2
   go_roundw
   case rel=>exact⟨k+1,_,by go_num,by omega,by first | rfl | exact(World.drewN_drewN _ _ _)⟩
   case measure=>simp[intOf];omega
  ·obtain rfl:k=n:=by omega
   have kf:decide ((k:Int)<(k:Int))=false:=decide_eq_false (by omega)
   go_wp2
   go_ret
   exact⟨rfl,m,rfl⟩
theorem SH (S:ByteArray) (hS:S.size≤2000) (w:World):Calls Tryz.prog 33 #[.string S] w fun e w'=>∃ v',e=.returned v'∧w'.ownsRow w.heap.size 37 3 v' (bY (aA S)).length (pD (bY (aA S)))∧Below w.heap.size w w':=by
 have HR:=hid (fun(V:World)=>RI S hS V)
 obtain⟨t,ht⟩:∃ t,bY (aA S)=t:=⟨_,rfl⟩
 rw[ht]at HR ⊢
 clear ht
 go_enter Tryz.func33,Tryz.ntmps33
 go_wp2_with fail
 refine(HR.out _).mono ?_
 rintro e w1 ⟨v,rfl,hown,hb⟩
 have HO:=hid hown
 have HB:=hid hb
 clear hown hb
 go_wp2
 go_ret
 exact⟨_,rfl,HO.out,HB.out⟩
theorem dU (cd dp:Int) (S:ByteArray) (w:World):Calls Tryz.prog 17 #[.int .i64 cd,.int .i64 dp,.string S] w fun e w'=>e=.returned (.agg #[.int .i64 cd,.int .i64 dp,.string S,.slice none 0 0,.int .i64 0,.int .i64 0])∧Below w.heap.size w w':=by
 go_enter Tryz.func17,Tryz.ntmps17
 go_upto_region 1 with fail
 have hx:=heap_alloc_new w (.cells #[.int .i64 0,.int .i64 0,.string { data:=#[] },.slice none 0 0,.int .i64 0,.int .i64 0] 44)
 have hb:=(Below.refl w.heap.size w).alloc (Nat.le_refl _) (.cells #[.int .i64 0,.int .i64 0,.string { data:=#[] },.slice none 0 0,.int .i64 0,.int .i64 0] 44)
 generalize w.alloc _=w1 at hx hb ⊢
 obtain⟨B,hB⟩:∃ B,w.heap.size=B:=⟨_,rfl⟩
 rw[hB]at hx hb ⊢
 obtain⟨z0,z1,z2,z3,z4,z5⟩:=jV hx
 obtain⟨y0,y1,y2,y3,y4,y5⟩:=CT hx
 have HX:=hid hx
 have HB:=hid hb
 have HBW:=hid hB
 clear hx hb hB
 go_wp2
 show bodyPost _ _ _ _ _ (mZ w1 B (.int .i64 cd) (.int .i64 dp) (.string S) (.slice none 0 0) (.int .i64 0) (.int .i64 0))
 have hp:=kM HX.out (.int .i64 cd) (.int .i64 dp) (.string S) (.slice none 0 0) (.int .i64 0) (.int .i64 0)
 have hbb:=iX (w:=w1) (g:=B) HB.out (Nat.le_refl _) (.int .i64 cd) (.int .i64 dp) (.string S) (.slice none 0 0) (.int .i64 0) (.int .i64 0)
 clear z0 z1 z2 z3 z4 z5 y0 y1 y2 y3 y4 y5
 generalize mZ _ _ _ _ _ _ _ _=w9 at hp hbb ⊢
 obtain⟨z0,z1,z2,z3,z4,z5⟩:=jV hp
 refine bodyPost_ret (v:=.agg #[.int .i64 cd,.int .i64 dp,.string S,.slice none 0 0,.int .i64 0,.int .i64 0]) (by simp[results,Tryz.f17,go_sem,z0,z1,z2,z3,z4,z5]) rfl ?_
 exact⟨rfl,HBW.out▸hbb⟩
theorem qM (T:bT) (Q:aDS T) (l:List Rl) (nl cb:Nat) (Ab:Option Addr) (hnl:l.length=nl) (hl:nl≤1000) (hACC:Acc dM l) (hfl:kD l) (hCb:lS (.slice Ab nl cb)) (S:ByteArray) (hS:S.size≤200) (t:List Tk) (ht:bY (aA S)=t) (hk:t.length≤200) (hf:iC t) (h0:z8 t=0) (hG:aHD t) (L:List (Int × Int × List Nat)) (hL:(fR t).map (CS l t)=L) (hLl:L.length≤1000) (v:Value) (w:World) (hw:M6 w v L) (hLd:bH w) (hr:dZ 0 w w.heap.size (.slice Ab nl cb) l) :
  Calls Tryz.prog 16 #[.slice Ab nl cb,.string S,v] w fun e w'=>e=.returned (.bool true)∧Below w.heap.size w w':=by
 have HNE:=hid (T.new (.slice Ab nl cb) l 0 (by omega) hfl hCb w hLd hr)
 have HTR:=hid (fun(V:World)=>SH S (by omega) V)
 rw[ht]at HTR
 have hz:(e9 dM l).2=0:=(pY l).2 hACC
 have HZ:=hid hz
 have HOF:=hid (fun(V:World) (hV:Below w.heap.size w V) (tv u:Value) (hi lo:Nat) (hT:T.Is V tv l lo hi) (hcu:lS u) (hru:bW 0 V V.heap.size u t)=>Q.of u t 0 (by omega) hf hcu (by omega) hACC hfl (fun _=>hG) V (hLd.kept hV) hT hru)
 have HKW:=hid hw
 have H0:=hid h0
 have HLK:=hid (fun(u:Value) (V:World) (hu:M6 V u L) (hv:M6 V v L)=>WI u v L hLl V hu hv)
 have HLL:=hid hL
 obtain⟨A0,c0,rfl,-⟩:=id hw
 obtain⟨m,hm⟩:∃ m,L.length=m:=⟨_,rfl⟩
 rw[hm]at HKW HLK ⊢
 clear hnl hACC hfl hCb ht hf h0 hG hL hLl hw hLd hr hz hm
 go_enter Tryz.func16,Tryz.ntmps16
 go_wp2_with fail
 refine HNE.out.mono ?_
 rintro e w1 ⟨hb1,h1⟩
 rcases h1 with⟨-,tt,rfl,his⟩ | ⟨hno,-⟩
 rotate_left
 ·exact absurd HZ.out hno
 obtain⟨⟨a,rfl⟩,-⟩:=T.ptr his
 have HB1:=hid hb1
 have HIS:=hid his
 clear hb1 his HNE
 go_wp2_with fail
 refine(HTR.out _).mono ?_
 rintro e w2 ⟨u,rfl,hown,hb2⟩
 have hcu:=CR hown
 have hru:=Reads.hO (f:=cT) (n:=3) (fun _=>rfl) rfl hown
 have HB2:=hid (chain HB1.out HB1.out.size hb2)
 have HOF2:=hid (HOF.out w2 HB2.out _ u _ _ (T.xJ HIS.out (Kept.dB hb2 (T.ptr HIS.out).2)) hcu hru)
 obtain⟨Au,cu,rfl,-,-,-⟩:=aN hown
 clear hown hb2 hcu hru HOF HTR
 go_wp2_with fail
 refine HOF2.out.mono ?_
 rintro e w3 ⟨hb3,h3⟩
 have HB3:=hid (chain HB2.out HB2.out.size hb3)
 clear hb3 HOF2
 rcases h3 with⟨-,fv,rfl,hfw⟩ | ⟨hno,-⟩
 rotate_left
 ·exact absurd H0.out hno
 have hrl:=hfw.rdL
 rw[HLL.out]at hrl
 have HLI:=hid (HLK.out fv w3 hrl (HKW.out.kept HB3.out))
 obtain⟨avs,g1,g2,-⟩:=hfw
 obtain⟨Af,cf,rfl,-,-,-⟩:=aN g2
 clear hrl g1 g2 avs
 go_wp2_with fail
 refine HLI.out.mono ?_
 rintro e w4 ⟨rfl,m4,rfl⟩
 have HB4:=hid (Ba.below_drewN HB3.out m4)
 go_wp2
 go_ret
 exact⟨rfl,HB4.out⟩
theorem WJ:(fR (bY [43,49,66,126,49,43,112,98,117,116,32,97,43,101,120,126,101,126,112])).map (CS kS (bY [43,49,66,126,49,43,112,98,117,116,32,97,43,101,120,126,101,126,112]))=[(1,0,[48,48,32,3]),(4,0,[3,0,1,40,1,45,40,4])]:=by decide +kernel
theorem I9:z8 (bY [43,49,66,126,49,43,112,98,117,116,32,97,43,101,120,126,101,126,112])=0∧aHE (bY [43,49,66,126,49,43,112,98,117,116,32,97,43,101,120,126,101,126,112])=true:=by decide +kernel
theorem WK:(fR (bY [43,108,43,105,97,43,108,43,105,98,126,105,126,108,126,105,43,105,99,126,105,126,108])).map (CS kS (bY [43,108,43,105,97,43,108,43,105,98,126,105,126,108,126,105,43,105,99,126,105,126,108]))=[(5,1,[1]),(5,2,[48,48,3]),(6,1,[48,48,9])]:=by decide +kernel
theorem JA:z8 (bY [43,108,43,105,97,43,108,43,105,98,126,105,126,108,126,105,43,105,99,126,105,126,108])=0∧aHE (bY [43,108,43,105,97,43,108,43,105,98,126,105,126,108,126,105,43,105,99,126,105,126,108])=true:=by decide +kernel
theorem WL:(fR (bY [43,116,43,114,43,99,97,126,99,43,99,126,99,126,114,43,114,43,99,126,99,43,99,98,126,99,126,114,126,116,43,107,126,107])).map (CS kS (bY [43,116,43,114,43,99,97,126,99,43,99,126,99,126,114,43,114,43,99,126,99,43,99,98,126,99,126,114,126,116,43,107,126,107]))=[(7,0,[1]),(9,0,[]),(8,0,[]),(9,0,[48,48,3]),(10,0,[])]:=by decide +kernel
theorem JB:z8 (bY [43,116,43,114,43,99,97,126,99,43,99,126,99,126,114,43,114,43,99,126,99,43,99,98,126,99,126,114,126,116,43,107,126,107])=0∧aHE (bY [43,116,43,114,43,99,97,126,99,43,99,126,99,126,114,43,114,43,99,126,99,43,99,98,126,99,126,114,126,116,43,107,126,107])=true:=by decide +kernel
theorem WM:(fR (bY [43,112,126,112,43,108,43,105,126,105,126,108])).map (CS kS (bY [43,112,126,112,43,108,43,105,126,105,126,108]))=[(4,0,[]),(5,1,[])]:=by decide +kernel
theorem JC:z8 (bY [43,112,126,112,43,108,43,105,126,105,126,108])=0∧aHE (bY [43,112,126,112,43,108,43,105,126,105,126,108])=true:=by decide +kernel
theorem nA:∀ (s:List Nat),(∀ c ∈ s,c<256)→iC (bY s)
 | [],_=>fun x hx=>by cases hx
 | [c],h=>fun x hx=>by
  have hx:x ∈ [(⟨1,c,0⟩:Tk)]:=hx
  rw[List.mem_singleton]at hx
  subst hx
  exact⟨by simp,h c (List.mem_cons_self ..),by simp⟩
 | c::d::r,h=>fun x hx=>by
  unfold bY at hx
  split at hx
  ·rcases List.mem_cons.1 hx with rfl | hx
   ·refine⟨?_,h d (by simp),by simp⟩
    show -9223372036854775808≤(if c=126 then (3:Int) else 2)∧(if c=126 then (3:Int) else 2)≤9223372036854775807
    split<;>decide
   ·exact nA r (fun z hz=>h z (by simp[hz])) x hx
  ·rcases List.mem_cons.1 hx with rfl | hx
   ·exact⟨by simp,h c (by simp),by simp⟩
   ·exact nA (d::r) (fun z hz=>h z (by simp at hz ⊢;rcases hz with hz | hz<;>simp[hz])) x hx
theorem aBA (T:bT) (Q:aDS T) (w:World) (hL:bH w):Calls Tryz.prog 7 #[] w fun e w'=>e=.returned (.bool true)∧Below w.heap.size w w':=by
 have HL:=hid hL
 clear hL
 have HACC:=hid (show Acc dM kS from (pY kS).1 (by rw[LV]))
 go_enter Tryz.func7,Tryz.ntmps7
 go_wp2_with fail
 refine(QO _).mono ?_
 rintro e wb ⟨vb,rfl,ownb,hbb⟩
 have hRb:=Reads.hO (f:=cR) (n:=5) iA mO ownb
 have hCb:=CR ownb
 obtain⟨Ab,cb,rfl,-⟩:=aN ownb
 have HWb:=hid hbb
 have hlb:=HL.out.kept hbb
 have HT0:=hid (fun(V:World) (hV:Below wb.heap.size wb V) (v:Value) (hw:M6 V v [(1,0,[48,48,32,3]),(4,0,[3,0,1,40,1,45,40,4])])=>show Calls Tryz.prog 16 #[.slice Ab 106 cb,.string { data:=#[43,49,66,126,49,43,112,98,117,116,32,97,43,101,120,126,101,126,112] },v] V fun e w'=>e=.returned (.bool true)∧Below V.heap.size V w' from
  qM T Q kS 106 cb Ab mO (by decide) HACC.out sN hCb { data:=#[43,49,66,126,49,43,112,98,117,116,32,97,43,101,120,126,101,126,112] } (by decide) (bY [43,49,66,126,49,43,112,98,117,116,32,97,43,101,120,126,101,126,112]) (by rw[show aA { data:=#[43,49,66,126,49,43,112,98,117,116,32,97,43,101,120,126,101,126,112] }=[43,49,66,126,49,43,112,98,117,116,32,97,43,101,120,126,101,126,112] from by decide]) (by decide) (nA _ (by decide)) I9.1 (aG0 I9.2) _ WJ (by decide) v V hw (hlb.kept hV) ((hRb.below hV).mono hV.size))
 have HT1:=hid (fun(V:World) (hV:Below wb.heap.size wb V) (v:Value) (hw:M6 V v [(5,1,[1]),(5,2,[48,48,3]),(6,1,[48,48,9])])=>show Calls Tryz.prog 16 #[.slice Ab 106 cb,.string { data:=#[43,108,43,105,97,43,108,43,105,98,126,105,126,108,126,105,43,105,99,126,105,126,108] },v] V fun e w'=>e=.returned (.bool true)∧Below V.heap.size V w' from
  qM T Q kS 106 cb Ab mO (by decide) HACC.out sN hCb { data:=#[43,108,43,105,97,43,108,43,105,98,126,105,126,108,126,105,43,105,99,126,105,126,108] } (by decide) (bY [43,108,43,105,97,43,108,43,105,98,126,105,126,108,126,105,43,105,99,126,105,126,108]) (by rw[show aA { data:=#[43,108,43,105,97,43,108,43,105,98,126,105,126,108,126,105,43,105,99,126,105,126,108] }=[43,108,43,105,97,43,108,43,105,98,126,105,126,108,126,105,43,105,99,126,105,126,108] from by decide]) (by decide) (nA _ (by decide)) JA.1 (aG0 JA.2) _ WK (by decide) v V hw (hlb.kept hV) ((hRb.below hV).mono hV.size))
 have HT2:=hid (fun(V:World) (hV:Below wb.heap.size wb V) (v:Value) (hw:M6 V v [(7,0,[1]),(9,0,[]),(8,0,[]),(9,0,[48,48,3]),(10,0,[])])=>show Calls Tryz.prog 16 #[.slice Ab 106 cb,.string { data:=#[43,116,43,114,43,99,97,126,99,43,99,126,99,126,114,43,114,43,99,126,99,43,99,98,126,99,126,114,126,116,43,107,126,107] },v] V fun e w'=>e=.returned (.bool true)∧Below V.heap.size V w' from
  qM T Q kS 106 cb Ab mO (by decide) HACC.out sN hCb { data:=#[43,116,43,114,43,99,97,126,99,43,99,126,99,126,114,43,114,43,99,126,99,43,99,98,126,99,126,114,126,116,43,107,126,107] } (by decide) (bY [43,116,43,114,43,99,97,126,99,43,99,126,99,126,114,43,114,43,99,126,99,43,99,98,126,99,126,114,126,116,43,107,126,107]) (by rw[show aA { data:=#[43,116,43,114,43,99,97,126,99,43,99,126,99,126,114,43,114,43,99,126,99,43,99,98,126,99,126,114,126,116,43,107,126,107] }=[43,116,43,114,43,99,97,126,99,43,99,126,99,126,114,43,114,43,99,126,99,43,99,98,126,99,126,114,126,116,43,107,126,107] from by decide]) (by decide) (nA _ (by decide)) JB.1 (aG0 JB.2) _ WL (by decide) v V hw (hlb.kept hV) ((hRb.below hV).mono hV.size))
 have HT3:=hid (fun(V:World) (hV:Below wb.heap.size wb V) (v:Value) (hw:M6 V v [(4,0,[]),(5,1,[])])=>show Calls Tryz.prog 16 #[.slice Ab 106 cb,.string { data:=#[43,112,126,112,43,108,43,105,126,105,126,108] },v] V fun e w'=>e=.returned (.bool true)∧Below V.heap.size V w' from
  qM T Q kS 106 cb Ab mO (by decide) HACC.out sN hCb { data:=#[43,112,126,112,43,108,43,105,126,105,126,108] } (by decide) (bY [43,112,126,112,43,108,43,105,126,105,126,108]) (by rw[show aA { data:=#[43,112,126,112,43,108,43,105,126,105,126,108] }=[43,112,126,112,43,108,43,105,126,105,126,108] from by decide]) (by decide) (nA _ (by decide)) JC.1 (aG0 JC.2) _ WM (by decide) v V hw (hlb.kept hV) ((hRb.below hV).mono hV.size))
 clear ownb hbb hRb hCb hlb HACC
 have hS0:=Below.refl wb.heap.size wb
 go_wp2_with fail
 refine(dU 1 0 { data:=#[48,48,32,3] } _).mono ?_
 rintro e w1 ⟨rfl,hf1⟩
 have hS1:=chain hS0 hS0.size hf1
 clear hf1
 go_wp2_with fail
 refine(dU 4 0 { data:=#[3,0,1,40,1,45,40,4] } _).mono ?_
 rintro e w2 ⟨rfl,hf2⟩
 have hS2:=chain hS1 hS1.size hf2
 clear hf2
 have hrd:=xV w2 [(1,0,[48,48,32,3]),(4,0,[3,0,1,40,1,45,40,4])] #[.int .i64 1,.int .i64 0,.string { data:=#[48,48,32,3] },.slice none 0 0,.int .i64 0,.int .i64 0,.int .i64 4,.int .i64 0,.string { data:=#[3,0,1,40,1,45,40,4] },.slice none 0 0,.int .i64 0,.int .i64 0] 2 rfl (by decide) rfl
 have hal:=(Below.refl w2.heap.size w2).alloc (Nat.le_refl _) (.cells #[.int .i64 1,.int .i64 0,.string { data:=#[48,48,32,3] },.slice none 0 0,.int .i64 0,.int .i64 0,.int .i64 4,.int .i64 0,.string { data:=#[3,0,1,40,1,45,40,4] },.slice none 0 0,.int .i64 0,.int .i64 0] 44)
 have hA:=chain hS2 hS2.size hal
 have HQ:=hid (HT0.out _ hA _ hrd)
 clear hrd
 go_wp2_with fail
 refine HQ.out.mono ?_
 rintro e w3 ⟨rfl,hf3⟩
 have hS3:=chain hA hA.size hf3
 clear hf3 HQ hal hA
 go_wp2_with fail
 refine(dU 5 1 { data:=#[1] } _).mono ?_
 rintro e w4 ⟨rfl,hf4⟩
 have hS4:=chain hS3 hS3.size hf4
 clear hf4
 go_wp2_with fail
 refine(dU 5 2 { data:=#[48,48,3] } _).mono ?_
 rintro e w5 ⟨rfl,hf5⟩
 have hS5:=chain hS4 hS4.size hf5
 clear hf5
 go_wp2_with fail
 refine(dU 6 1 { data:=#[48,48,9] } _).mono ?_
 rintro e w6 ⟨rfl,hf6⟩
 have hS6:=chain hS5 hS5.size hf6
 clear hf6
 have hrd:=xV w6 [(5,1,[1]),(5,2,[48,48,3]),(6,1,[48,48,9])] #[.int .i64 5,.int .i64 1,.string { data:=#[1] },.slice none 0 0,.int .i64 0,.int .i64 0,.int .i64 5,.int .i64 2,.string { data:=#[48,48,3] },.slice none 0 0,.int .i64 0,.int .i64 0,.int .i64 6,.int .i64 1,.string { data:=#[48,48,9] },.slice none 0 0,.int .i64 0,.int .i64 0] 3 rfl (by decide) rfl
 have hal:=(Below.refl w6.heap.size w6).alloc (Nat.le_refl _) (.cells #[.int .i64 5,.int .i64 1,.string { data:=#[1] },.slice none 0 0,.int .i64 0,.int .i64 0,.int .i64 5,.int .i64 2,.string { data:=#[48,48,3] },.slice none 0 0,.int .i64 0,.int .i64 0,.int .i64 6,.int .i64 1,.string { data:=#[48,48,9] },.slice none 0 0,.int .i64 0,.int .i64 0] 44)
 have hA:=chain hS6 hS6.size hal
 have HQ:=hid (HT1.out _ hA _ hrd)
 clear hrd
 go_wp2_with fail
 refine HQ.out.mono ?_
 rintro e w7 ⟨rfl,hf7⟩
 have hS7:=chain hA hA.size hf7
 clear hf7 HQ hal hA
 go_wp2_with fail
 refine(dU 7 0 { data:=#[1] } _).mono ?_
 rintro e w8 ⟨rfl,hf8⟩
 have hS8:=chain hS7 hS7.size hf8
 clear hf8
 go_wp2_with fail
 refine(dU 9 0 { data:=#[] } _).mono ?_
 rintro e w9 ⟨rfl,hf9⟩
 have hS9:=chain hS8 hS8.size hf9
 clear hf9
 go_wp2_with fail
 refine(dU 8 0 { data:=#[] } _).mono ?_
 rintro e w10 ⟨rfl,hf10⟩
 have hS10:=chain hS9 hS9.size hf10
 clear hf10
 go_wp2_with fail
 refine(dU 9 0 { data:=#[48,48,3] } _).mono ?_
 rintro e w11 ⟨rfl,hf11⟩
 have hS11:=chain hS10 hS10.size hf11
 clear hf11
 go_wp2_with fail
 refine(dU 10 0 { data:=#[] } _).mono ?_
 rintro e w12 ⟨rfl,hf12⟩
 have hS12:=chain hS11 hS11.size hf12
 clear hf12
 have hrd:=xV w12 [(7,0,[1]),(9,0,[]),(8,0,[]),(9,0,[48,48,3]),(10,0,[])] #[.int .i64 7,.int .i64 0,.string { data:=#[1] },.slice none 0 0,.int .i64 0,.int .i64 0,.int .i64 9,.int .i64 0,.string { data:=#[] },.slice none 0 0,.int .i64 0,.int .i64 0,.int .i64 8,.int .i64 0,.string { data:=#[] },.slice none 0 0,.int .i64 0,.int .i64 0,.int .i64 9,.int .i64 0,.string { data:=#[48,48,3] },.slice none 0 0,.int .i64 0,.int .i64 0,.int .i64 10,.int .i64 0,.string { data:=#[] },.slice none 0 0,.int .i64 0,.int .i64 0] 5 rfl (by decide) rfl
 have hal:=(Below.refl w12.heap.size w12).alloc (Nat.le_refl _) (.cells #[.int .i64 7,.int .i64 0,.string { data:=#[1] },.slice none 0 0,.int .i64 0,.int .i64 0,.int .i64 9,.int .i64 0,.string { data:=#[] },.slice none 0 0,.int .i64 0,.int .i64 0,.int .i64 8,.int .i64 0,.string { data:=#[] },.slice none 0 0,.int .i64 0,.int .i64 0,.int .i64 9,.int .i64 0,.string { data:=#[48,48,3] },.slice none 0 0,.int .i64 0,.int .i64 0,.int .i64 10,.int .i64 0,.string { data:=#[] },.slice none 0 0,.int .i64 0,.int .i64 0] 44)
 have hA:=chain hS12 hS12.size hal
 have HQ:=hid (HT2.out _ hA _ hrd)
 clear hrd
 go_wp2_with fail
 refine HQ.out.mono ?_
 rintro e w13 ⟨rfl,hf13⟩
 have hS13:=chain hA hA.size hf13
 clear hf13 HQ hal hA
 go_wp2_with fail
 refine(dU 4 0 { data:=#[] } _).mono ?_
 rintro e w14 ⟨rfl,hf14⟩
 have hS14:=chain hS13 hS13.size hf14
 clear hf14
 go_wp2_with fail
 refine(dU 5 1 { data:=#[] } _).mono ?_
 rintro e w15 ⟨rfl,hf15⟩
 have hS15:=chain hS14 hS14.size hf15
 clear hf15
 have hrd:=xV w15 [(4,0,[]),(5,1,[])] #[.int .i64 4,.int .i64 0,.string { data:=#[] },.slice none 0 0,.int .i64 0,.int .i64 0,.int .i64 5,.int .i64 1,.string { data:=#[] },.slice none 0 0,.int .i64 0,.int .i64 0] 2 rfl (by decide) rfl
 have hal:=(Below.refl w15.heap.size w15).alloc (Nat.le_refl _) (.cells #[.int .i64 4,.int .i64 0,.string { data:=#[] },.slice none 0 0,.int .i64 0,.int .i64 0,.int .i64 5,.int .i64 1,.string { data:=#[] },.slice none 0 0,.int .i64 0,.int .i64 0] 44)
 have hA:=chain hS15 hS15.size hal
 have HQ:=hid (HT3.out _ hA _ hrd)
 clear hrd
 go_wp2_with fail
 refine HQ.out.mono ?_
 rintro e w16 ⟨rfl,hf16⟩
 have hS16:=chain hA hA.size hf16
 clear hf16 HQ hal hA
 have HZ:=hid hS16
 clear hS0 hS1 hS2 hS3 hS4 hS5 hS6 hS7 hS8 hS9 hS10 hS11 hS12 hS13 hS14 hS15 hS16
 go_wp2
 go_ret
 exact⟨rfl,chain HWb.out HWb.out.size HZ.out⟩
end Go.Proofs.YthbigkoihpgcfaaGreatDoor.Da
