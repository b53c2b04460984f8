/-
  CheckOne answers true whatever it is called with, and turns nothing that lay: a table of 450 rules at most, of texts of 50 bytes at most, 40 rules chosen at most; no further condition.
-/
import Derived.Test.YtlibmfflgpkjmaaDoorCkO
import Derived.Test.YtlibmfflgpkjmaaDoorCkClose
import Derived.Test.YtlibmfflgpkjmaaDoorCards
namespace Go.Proofs.YtlibmfflgpkjmaaDoor.Ck
open Go.ChangeShapes Go.WideShapes Go.ChangeAt Go.RowKit Ru

set_option maxRecDepth 100000 in
theorem checkOne_lifted (os : Os) (started : os.Started) (H : Type) (enc : TypeId × Value → H) :
    ReturnsInHanded {} Tryd.checked os 3 .any (fun w args => (Rows.checkOneSpec.pre enc Tryd.prog Tryd.f3 [] false w args ∧ laidMetH Tryd.prog laidV w) ∧ sizedMet enc Tryd.prog Tryd.f3 (OpenSpec.ofChange Rows.checkOneSpec) false w args)
      (Rows.checkOneSpec.post enc Tryd.prog Tryd.f3 false true false false) := by
  refine returns_and_shaped (C := Tryd.checked) (X := fun w _ => laidMetH Tryd.prog laidV w) (fun _ _ _ hh h => h.of_heap hh) own started (by kernel_rfl) Tryd.func3
    (ChangeSpec.witness_shaped (enc := enc) (C := Tryd.checked) (os := os) (X := fun w _ => laidMetH Tryd.prog laidV w) false (World.laidAll Tryd.prog os laidV) #[.slice none 0 0, .int .i64 0, .slice none 0 0, .slice none 0 0] 8 (World.laidAll_os _ _ _)
      (World.shaped_of_ZipB (by kernel_rfl) (by kernel_rfl)) (by kernel_rfl) (by kernel_rfl) (by kernel_rfl)
      (by rw [MakeChecks.laidMetH_plain _ _ _ (by kernel_rfl)]; exact laidMet_laidAll _ (by kernel_rfl) (by kernel_rfl))) ?_
  intro W base args ds gs before hval0 hW _ _ hL hsh _
  have hval : ∀ (j : Nat) t v, Tryd.f3.params[j]? = some t → args[j]? = some v → Value.okWide Tryd.prog W .any base t v := hval0
  have hW' := hW
  obtain ⟨p, q, hA0, hV, rfl, hfz, hnd⟩ := hW
  have hA : DataW.TrodAll enc Tryd.prog W 0 (fun _ => true) true Tryd.f3.params.toList args.toList ds p := hA0
  rw [Tryd.params3] at hA hval
  obtain ⟨v0, v1, v2, v3, d0, d1, d2, d3, p0, p1, p2, p3, rfl, rfl, rfl, h0, h1, h2, h3⟩ := trodAll_four hA
  obtain ⟨rfl, rfl⟩ := trodVars_none hV
  have hv0 := hval 0 22 v0 rfl rfl
  obtain ⟨t0, A0, o0, c0, rfl, hl0, hc0, hf0, hr0⟩ := open_rules hv0 h0
  obtain ⟨x1, rfl, rfl, rfl, y1⟩ := open_int Tryd.underlying3 (hval 1 3 v1 rfl rfl) h1
  have hv2 := hval 2 23 v2 rfl rfl
  obtain ⟨s2, A2, o2, c2, rfl, hl2, hc2, hb2, hr2⟩ := open_bytes hv2 h2
  have hv3 := hval 3 23 v3 rfl rfl
  obtain ⟨s3, A3, o3, c3, rfl, hl3, hc3, hb3, hr3⟩ := open_bytes hv3 h3
  clear hA0 hval0
  simp only [List.append_nil] at hW'
  refine (one_row9 t0 A0 o0 c0 x1 s2 A2 o2 c2 s3 A3 o3 c3  W (laid_of hL hsh) hl0 hc0 hf0 hr0 (Nat.le_trans hl2 hc2) hb2 hr2 (Nat.le_trans hl3 hc3) hb3 hr3).mono fun e W' ⟨he, hb⟩ => ?_
  subst he
  exact ⟨_, rfl, _, _, _, [], _, [], hW', trodAll_mk1 (shut_bool Tryd.underlying4 _), trodAll_mk4 (staysR (by kernel_rfl) (of_decide_eq_true (by kernel_rfl)) h0 hb (fun p hp => hW'.lt p (by simp [hp])) (fun p hp => by simpa using hW'.lt p (by simp [hp]))) (shut_int Tryd.underlying3 y1) (staysR (by kernel_rfl) (of_decide_eq_true (by kernel_rfl)) h2 hb (fun p hp => hW'.lt p (by simp [hp])) (fun p hp => by simpa using hW'.lt p (by simp [hp]))) (staysR (by kernel_rfl) (of_decide_eq_true (by kernel_rfl)) h3 hb (fun p hp => hW'.lt p (by simp [hp])) (fun p hp => by simpa using hW'.lt p (by simp [hp]))), rfl, hb.frame _, fun h => by cases h⟩

theorem checkOne_row : Rows.CheckOneSaid :=
  OpenClaim.holds_of_wide 3 Tryd.f3 rfl rfl rfl rfl rfl rfl rfl ⟨rfl, rfl, rfl, rfl, rfl⟩ rfl rfl rfl rfl rfl (by kernel_rfl) Tryd.func3 (by kernel_rfl)
    (of_decide_eq_true (by kernel_rfl)) (by unfold Func.isWrapper; first | (rw [if_pos (by decide +kernel)]; kernel_rfl) | (rw [if_neg (by decide +kernel)]; exact ⟨rfl, rfl⟩))
    (fun os started H enc _ => checkOne_lifted os started H enc)

theorem checkOne_holds : Rows.CheckOneCardSaid :=
  Claim7.holds_tied_plain_at .later [] [.data, .data, .listed, .data, .pinned] true Rows.checkOneCard.stood.harness false
    checkOne_row (fun _ h => by cases h) (by kernel_rfl) (fun _ h => by cases h) checkOne_row_tie rfl ⟨rfl, rfl⟩ (by kernel_rfl) rfl
    (fun f fn hf hfn => by
      obtain rfl : f = 3 := Option.some.inj ((show Tryd.prog.funcNamed "stylus/styluslaw09.CheckOne" = some 3 by kernel_rfl).symm.trans hf) |>.symm
      obtain rfl : fn = Tryd.f3 := (Option.some.inj (Tryd.func3.symm.trans hfn)).symm
      exact ⟨by kernel_rfl, fun j t ht => by
        rw [Tryd.params3] at ht
        have hm : t ∈ [22, 3, 23] := by simpa using Array.mem_of_getElem? ht
        have hall : ([22, 3, 23].all fun u => !Tryd.prog.wantsStandIn u) = true := by kernel_rfl
        exact (show Tryd.prog.wantsStandIn t = false by simpa using List.all_eq_true.1 hall t hm)⟩)
    (by kernel_rfl)
end Go.Proofs.YtlibmfflgpkjmaaDoor.Ck
namespace Go.Proofs.YtlibmfflgpkjmaaDoor
theorem checkOne_holds : Rows.CheckOneCardSaid := Ck.checkOne_holds
#print axioms checkOne_holds
end Go.Proofs.YtlibmfflgpkjmaaDoor
