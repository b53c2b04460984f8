/-
  ChunkPieces answers true whatever it is called with, and turns nothing that lay: the pieces of a chunk, as a word, spelled, and as it is, are the document's; no further condition.
-/
import Derived.Test.YtlgejmcihchngaaGreatDoorSf
import Derived.Test.YtlgejmcihchngaaGreatDoorYd
import Derived.Test.YtlgejmcihchngaaGreatDoorCuX
import Derived.Test.YtlgejmcihchngaaGreatDoorSn
import Derived.Test.YtlgejmcihchngaaGreatDoorCards
namespace Go.Proofs.YtlgejmcihchngaaGreatDoor.Cu
open Go.ChangeShapes Go.WideShapes Go.ChangeAt Go.RowKit Ru Ck Ti
set_option maxRecDepth 100000 in
theorem chunkPieces_lifted (os:Os) (started:os.Started) (H:Type) (enc:TypeId × Value→H) :
  ReturnsInHanded {} Tryz.checked os 3 .any (fun w args=>(Rows.chunkPiecesSpec.pre enc Tryz.prog Tryz.f3 [] false w args∧laidMetH Tryz.prog laidV w)∧sizedMet enc Tryz.prog Tryz.f3 (OpenSpec.ofChange Rows.chunkPiecesSpec) false w args)
   (Rows.chunkPiecesSpec.post enc Tryz.prog Tryz.f3 false true false false):=by
 refine returns_and_shaped (C:=Tryz.checked) (X:=fun w _=>laidMetH Tryz.prog laidV w) (fun _ _ _ hh h=>h.of_heap hh) own started (by kernel_rfl) Tryz.func3
  (ChangeSpec.witness_shaped (enc:=enc) (C:=Tryz.checked) (os:=os) (X:=fun w _=>laidMetH Tryz.prog laidV w) false (World.laidAll Tryz.prog os laidV) #[.slice none 0 0,.slice none 0 0] 8 (World.laidAll_os _ _ _)
   (World.shaped_of_ZipB (by kernel_rfl) (by kernel_rfl)) (by kernel_rfl) (by kernel_rfl) (by kernel_rfl)
   (by rw[MakeChecks.laidMetH_plain _ _ _ (by kernel_rfl)];exact laidMet_laidAll _ (by kernel_rfl) (by kernel_rfl))) ?_
 intro W base args ds gs before hval0 hW _ _ hL hsh _
 have hval:∀ (j:Nat) t v,Tryz.f3.params[j]?=some t→args[j]?=some v→Value.okWide Tryz.prog W .any base t v:=hval0
 have hW':=hW
 obtain⟨p,q,hA0,hV,rfl,hfz,hnd⟩:=hW
 have hA:DataW.TrodAll enc Tryz.prog W 0 (fun _=>true) true Tryz.f3.params.toList args.toList ds p:=hA0
 rw[Tryz.params3]at hA hval
 obtain⟨v0,v1,d0,d1,p0,p1,rfl,rfl,rfl,h0,h1⟩:=trodAll_two hA
 obtain⟨rfl,rfl⟩:=trodVars_none hV
 have hv0:=hval 0 22 v0 rfl rfl
 obtain⟨t0,A0,o0,c0,rfl,hl0,hc0,hf0,hr0⟩:=open_rules hv0 h0
 have hv1:=hval 1 23 v1 rfl rfl
 obtain⟨t1,A1,o1,c1,rfl,hl1,hc1,hf1,hr1⟩:=open_toks hv1 h1
 clear hA0 hval0
 simp only[List.append_nil]at hW'
 refine(pieces_row tlands (qlands tlands) t0 A0 o0 c0 t1 A1 o1 c1  W (laid_of hL hsh) hl0 hc0 hf0 hr0 hl1 hc1 hf1 hr1).mono fun e W' ⟨he,hb⟩=>?_
 subst he
 exact⟨_,rfl,_,_,_,[],_,[],hW',trodAll_mk1 (shut_bool Tryz.underlying4 _),trodAll_mk2 (staysR (by kernel_rfl) (of_decide_eq_true (by kernel_rfl)) h0 hb (fun p hp=>hW'.lt p (by simp[hp])) (fun p hp=>by simpa using hW'.lt p (by simp[hp]))) (staysR (by kernel_rfl) (of_decide_eq_true (by kernel_rfl)) h1 hb (fun p hp=>hW'.lt p (by simp[hp])) (fun p hp=>by simpa using hW'.lt p (by simp[hp]))),rfl,hb.frame _,fun h=>by cases h⟩
theorem chunkPieces_row:Rows.ChunkPiecesSaid :=
 OpenClaim.holds_of_wide 3 Tryz.f3 rfl rfl rfl rfl rfl rfl rfl ⟨rfl,rfl,rfl,rfl,rfl⟩ rfl rfl rfl rfl rfl (by kernel_rfl) Tryz.func3 (by kernel_rfl)
  (of_decide_eq_true (by kernel_rfl)) (by unfold Func.isWrapper;first | (rw[if_pos (by decide +kernel)];kernel_rfl) | (rw[if_neg (by decide +kernel)];exact⟨rfl,rfl⟩))
  (fun os started H enc _=>chunkPieces_lifted os started H enc)
theorem chunkPieces_holds:Rows.ChunkPiecesCardSaid :=
 Claim7.holds_tied_plain_at .later [] [.data,.data,.listed,.data,.pinned] true Rows.chunkPiecesCard.stood.harness false
  chunkPieces_row (fun _ h=>by cases h) (by kernel_rfl) (fun _ h=>by cases h) chunkPieces_row_tie rfl ⟨rfl,rfl⟩ (by kernel_rfl) rfl
  (fun f fn hf hfn=>by
   obtain rfl:f=3:=Option.some.inj ((show Tryz.prog.funcNamed "stylus/styluslaw12.ChunkPieces"=some 3 by kernel_rfl).symm.trans hf) |>.symm
   obtain rfl:fn=Tryz.f3:=(Option.some.inj (Tryz.func3.symm.trans hfn)).symm
   exact⟨by kernel_rfl,fun j t ht=>by
    rw[Tryz.params3]at ht
    have hm:t ∈ [22,23]:=by simpa using Array.mem_of_getElem? ht
    have hall:([22,23].all fun u=>!Tryz.prog.wantsStandIn u)=true:=by kernel_rfl
    exact(show Tryz.prog.wantsStandIn t=false by simpa using List.all_eq_true.1 hall t hm)⟩)
  (by kernel_rfl)
end Go.Proofs.YtlgejmcihchngaaGreatDoor.Cu
namespace Go.Proofs.YtlgejmcihchngaaGreatDoor
theorem chunkPieces_holds:Rows.ChunkPiecesCardSaid:=Cu.chunkPieces_holds
#print axioms chunkPieces_holds
end Go.Proofs.YtlgejmcihchngaaGreatDoor
