/-
  CheckTables, whatever it is called with.
-/
import Derived.Test.YtlibmfflgpkjmaaGreatDoorCkK
import Derived.Test.YtlibmfflgpkjmaaGreatDoorCkI
namespace Go.Proofs.YtlibmfflgpkjmaaGreatDoor.Ck
open Go.RowKit Ba Ru

set_option maxRecDepth 100000 in
set_option maxHeartbeats 16000000 in
/-- styluslaw09.CheckTables -/
theorem tables_row (l : List Rl) (A : Option Addr) (off c : Nat) (w : World) (hL : Laid9 w) (hcl : l.length ≤ c) (hcm : c ≤ maxLen) (hf : ∀ x ∈ l, FitR x) (hl : ReadsR off w w.heap.size (.slice A l.length c) l) :
    Calls Tryz.prog 4 #[.slice A l.length c] w fun e w' => e = .returned (.bool true) ∧ Below w.heap.size w w' := by
  have HL := Lib.hid hL
  have HV := Lib.hid hl
  have hlm : l.length ≤ maxLen := Nat.le_trans hcl hcm
  have HF := Lib.hid hf
  clear hL hl hf hcl hcm
  obtain ⟨nl, hnl⟩ : ∃ nl, l.length = nl := ⟨_, rfl⟩
  rw [hnl] at HV hlm ⊢
  have HNL := Lib.hid hnl
  clear hnl
  obtain ⟨lb, hlb⟩ : ∃ lb, long9 l = lb := ⟨_, rfl⟩
  have HLB := Lib.hid hlb
  clear hlb
  go_enter Tryz.func4, Tryz.ntmps4
  cases lb
  case true =>
    go_wp2_with fail
    refine (long9_at _ l off (by rw [HNL.out]; exact hlm) _ _ HV.out true HLB.out).mono ?_
    rintro e w' ⟨rfl, rfl⟩
    go_wp2_with fail
    refine (awake9 _ HL.out).mono ?_
    rintro e w' ⟨rfl, hb⟩
    go_wp2
    go_ret
    exact ⟨rfl, hb⟩
  case false =>
    obtain ⟨hl5, hl50⟩ := not_long9 HLB.out
    rw [HNL.out] at hl5
    have HFX := Lib.hid (show ∀ x ∈ l, FitR x ∧ x.left.length ≤ 9000 ∧ x.cells.length ≤ 9000 from fun x hx => ⟨HF.out x hx, by have := (hl50 x hx).1; omega, by have := (hl50 x hx).2; omega⟩)
    obtain ⟨z, y, hr⟩ : ∃ z y, tableR prC l = (z, y) := ⟨_, _, rfl⟩
    obtain ⟨m, hm⟩ : ∃ m, missR l = m := ⟨_, rfl⟩
    have HR := Lib.hid hr
    have HM := Lib.hid hm
    obtain ⟨M, hMM⟩ : ∃ M, bytesOf m = M := ⟨_, rfl⟩
    have HMM := Lib.hid hMM
    have s1 : (M.toList == M.toList) = true := by simp
    have s2 : ((y : Int) == (y : Int)) = true := by simp
    have s3 : (z == z) = true := by simp
    clear hl50 hr hm hMM
    go_wp2_with fail
    refine (long9_at _ l off (by rw [HNL.out]; exact hlm) _ _ HV.out false HLB.out).mono ?_
    rintro e w' ⟨rfl, rfl⟩
    go_wp2_with (at_builtin; refine wpList_append_rules _ rfl _ _ rfl (.slice (some ⟨w'.heap.size, 0, none⟩) 0 0) rfl w'.heap.size (World.ownsRow_lit w' #[] 0 (Nat.le_refl _) (by decide) rfl) (by simp) A nl c off w'.heap.size l rfl HNL.out (by omega) (HV.out.below ((Below.refl _ w').alloc (Nat.le_refl _) _)) ?_; intro v4 w4 hown4 hgrow4; have hB4 : Below w'.heap.size w' w4 := ((Below.refl _ w').alloc (Nat.le_refl _) _).grown hgrow4 (by simp) (fun j ej => by have ej : w'.heap.size = j := (by injection ej); omega); have HO4 := Lib.hid (Reads.of_own (f := cR) (n := 5) cR_len HNL.out hown4); have HC4 := Lib.hid (capsR_own hown4); have HB4 := Lib.hid hB4; have HV4 := Lib.hid ((HV.out.below hB4).mono hB4.size); clear hown4 hgrow4 hB4)
    go_wp2_with fail
    refine (table9_at v4 l 0 (by rw [HNL.out]; omega) HFX.out HC4.out (z, y) HR.out _ (HL.out.kept HB4.out).1 (HL.out.kept HB4.out).2 HO4.out).mono ?_
    rintro e w5 ⟨rfl, hb5⟩
    have HB5 := Lib.hid (chain HB4.out HB4.out.size hb5)
    have HV5 := Lib.hid ((HV4.out.below hb5).mono hb5.size)
    have HO5 := Lib.hid ((HO4.out.below hb5).mono hb5.size)
    clear hb5
    go_wp2_with fail
    refine (rtable_any _ l off (by rw [HNL.out]; omega) HFX.out (z, y) HR.out _ HV5.out).mono ?_
    rintro e w6 ⟨rfl, hb6⟩
    have HB6 := Lib.hid (chain HB5.out HB5.out.size hb6)
    have HV6 := Lib.hid ((HV5.out.below hb6).mono hb6.size)
    have HO6 := Lib.hid ((HO5.out.below hb6).mono hb6.size)
    clear hb6
    simp only []
    go_wp2_with fail
    refine (missing9_at v4 l 0 (by rw [HNL.out]; omega) HF.out m HM.out _ (HL.out.kept HB6.out).1 HO6.out).mono ?_
    rintro e w7 ⟨rfl, hb7⟩
    rw [HMM.out]
    have HB7 := Lib.hid (chain HB6.out HB6.out.size hb7)
    have HV7 := Lib.hid ((HV6.out.below hb7).mono hb7.size)
    have HO7 := Lib.hid ((HO6.out.below hb7).mono hb7.size)
    clear hb7
    go_wp2_with fail
    refine (rmissing_any _ l off (by rw [HNL.out]; omega) HF.out m HM.out _ HV7.out).mono ?_
    rintro e w8 ⟨rfl, hb8⟩
    rw [HMM.out]
    have HB8 := Lib.hid (chain HB7.out HB7.out.size hb8)
    have HV8 := Lib.hid ((HV7.out.below hb8).mono hb8.size)
    have HO8 := Lib.hid ((HO7.out.below hb8).mono hb8.size)
    clear hb8
    go_wp2_with fail
    refine (rsame_any _ _ l 0 off (by rw [HNL.out]; omega) _ _ _ HO8.out HV8.out).mono ?_
    rintro e w9 ⟨rfl, nq, hq⟩
    have HB9 := Lib.hid (show Below w'.heap.size w' w9 by rw [hq]; exact Ba.below_drewN HB8.out nq)
    clear hq
    go_wp2_with fail
    refine (awake9 _ (HL.out.kept HB9.out)).mono ?_
    rintro e w10 ⟨rfl, hb10⟩
    have HB10 := Lib.hid (chain HB9.out HB9.out.size hb10)
    clear hb10
    go_wp2
    go_ret
    exact ⟨rfl, HB10.out⟩
end Go.Proofs.YtlibmfflgpkjmaaGreatDoor.Ck
