/-
  ForeOrder answers true whatever it is called with, and turns nothing that lay: the flows' places lie within their texts, in order, one for each cell; the texts stand one behind the other, and each character stands in one; no further condition.
-/
import Derived.Test.YthbigkoihpgcfaaGreatDoorDaX
import Derived.Test.YthbigkoihpgcfaaGreatDoorSf
import Derived.Test.YthbigkoihpgcfaaGreatDoorUb
import Derived.Test.YthbigkoihpgcfaaGreatDoorVo
import Derived.Test.YthbigkoihpgcfaaGreatDoorWf
import Derived.Test.YthbigkoihpgcfaaGreatDoorCards
set_option maxRecDepth 100000
set_option maxHeartbeats 16000000
namespace Go.Proofs.YthbigkoihpgcfaaGreatDoor.Da
open Go.ChangeShapes Go.WideShapes Go.ChangeAt Go.RowKit Ru Ck Ti Cu
theorem aG9 (os:Os) (started:os.Started) (H:Type) (enc:TypeId × Value→H) :
  ReturnsInHanded {} Tryz.checked os 4 .any (fun w args=>(Rows.foreOrderSpec.pre enc Tryz.prog Tryz.f4 [] false w args∧laidMetH Tryz.prog qZ w)∧sizedMet enc Tryz.prog Tryz.f4 (OpenSpec.ofChange Rows.foreOrderSpec) false w args)
   (Rows.foreOrderSpec.post enc Tryz.prog Tryz.f4 false true false false):=by
 refine rH (C:=Tryz.checked) (X:=fun w _=>laidMetH Tryz.prog qZ w) (fun _ _ _ hh h=>h.of_heap hh) own started (by kernel_rfl) Tryz.func4
  (ChangeSpec.witness_shaped (enc:=enc) (C:=Tryz.checked) (os:=os) (X:=fun w _=>laidMetH Tryz.prog qZ w) false (World.laidAll Tryz.prog os qZ) #[.slice none 0 0,.slice none 0 0] 8 (World.laidAll_os _ _ _)
   (World.shaped_of_ZipB (by kernel_rfl) (by kernel_rfl)) (by kernel_rfl) (by kernel_rfl) (by kernel_rfl)
   (by rw[MakeChecks.laidMetH_plain _ _ _ (by kernel_rfl)];exact laidMet_laidAll _ (by kernel_rfl) (by kernel_rfl))) ?_
 intro W base args ds gs before hval0 hW _ _ hL hsh _
 have hval:∀ (j:Nat) t v,Tryz.f4.params[j]?=some t→args[j]?=some v→Value.okWide Tryz.prog W .any base t v:=hval0
 have hW':=hW
 obtain⟨p,q,hA0,hV,rfl,hfz,hnd⟩:=hW
 have hA:DataW.TrodAll enc Tryz.prog W 0 (fun _=>true) true Tryz.f4.params.toList args.toList ds p:=hA0
 rw[Tryz.params4]at hA hval
 obtain⟨v0,v1,d0,d1,p0,p1,rfl,rfl,rfl,h0,h1⟩:=trodAll_two hA
 obtain⟨rfl,rfl⟩:=trodVars_none hV
 have hv0:=hval 0 22 v0 rfl rfl
 obtain⟨t0,A0,o0,c0,rfl,hl0,hc0,hf0,hr0⟩:=NY hv0 h0
 have hv1:=hval 1 23 v1 rfl rfl
 obtain⟨t1,A1,o1,c1,rfl,hl1,hc1,hf1,hr1⟩:=CF hv1 h1
 clear hA0 hval0
 simp only[List.append_nil]at hW'
 refine(aI2 EZ (aF2 EZ) (fun V h=>aBA EZ (aF2 EZ) V h) t0 A0 o0 c0 t1 A1 o1 c1  W (aAG hL hsh) hl0 hc0 hf0 hr0 hl1 hc1 hf1 hr1).mono fun e W' ⟨he,hb⟩=>?_
 subst he
 exact⟨_,rfl,_,_,_,[],_,[],hW',trodAll_mk1 (shut_bool Tryz.underlying4 _),trodAll_mk2 (NZ (by kernel_rfl) (of_decide_eq_true (by kernel_rfl)) h0 hb (fun p hp=>hW'.lt p (by simp[hp])) (fun p hp=>by simpa using hW'.lt p (by simp[hp]))) (NZ (by kernel_rfl) (of_decide_eq_true (by kernel_rfl)) h1 hb (fun p hp=>hW'.lt p (by simp[hp])) (fun p hp=>by simpa using hW'.lt p (by simp[hp]))),rfl,hb.frame _,fun h=>by cases h⟩
theorem aH1:Rows.ForeOrderSaid :=
 OpenClaim.holds_of_wide 4 Tryz.f4 rfl rfl rfl rfl rfl rfl rfl ⟨rfl,rfl,rfl,rfl,rfl⟩ rfl rfl rfl rfl rfl (by kernel_rfl) Tryz.func4 (by kernel_rfl)
  (of_decide_eq_true (by kernel_rfl)) (by unfold Func.isWrapper;first | (rw[if_pos (by decide +kernel)];kernel_rfl) | (rw[if_neg (by decide +kernel)];exact⟨rfl,rfl⟩))
  (fun os started H enc _=>aG9 os started H enc)
theorem foreOrder_holds:Rows.ForeOrderCardSaid :=
 Claim7.holds_tied_plain_at .later [] [.data,.data,.listed,.data,.pinned] true Rows.foreOrderCard.stood.harness false
  aH1 (fun _ h=>by cases h) (by kernel_rfl) (fun _ h=>by cases h) foreOrder_row_tie rfl ⟨rfl,rfl⟩ (by kernel_rfl) rfl
  (fun f fn hf hfn=>by
   obtain rfl:f=4:=Option.some.inj ((show Tryz.prog.funcNamed "stylus/styluslaw13.ForeOrder"=some 4 by kernel_rfl).symm.trans hf) |>.symm
   obtain rfl:fn=Tryz.f4:=(Option.some.inj (Tryz.func4.symm.trans hfn)).symm
   exact⟨by kernel_rfl,fun j t ht=>by
    rw[Tryz.params4]at ht
    have hm:t ∈ [22,23]:=by simpa using Array.mem_of_getElem? ht
    have hall:([22,23].all fun u=>!Tryz.prog.wantsStandIn u)=true:=by kernel_rfl
    exact(show Tryz.prog.wantsStandIn t=false by simpa using List.all_eq_true.1 hall t hm)⟩)
  (by kernel_rfl)
end Go.Proofs.YthbigkoihpgcfaaGreatDoor.Da
namespace Go.Proofs.YthbigkoihpgcfaaGreatDoor
theorem foreOrder_holds:Rows.ForeOrderCardSaid:=Da.foreOrder_holds
#print axioms foreOrder_holds
end Go.Proofs.YthbigkoihpgcfaaGreatDoor
