/-
  styluslaw03.awake: the chapter's examples; LexNames and LexReads.
-/
import Derived.Test.YtgdealdpphcamaaDoorLxV
namespace Go.Proofs.YtgdealdpphcamaaDoor.Lx
open Go.RowKit

instance : DecidableEq Lx := fun a b => match a, b with
  | ⟨a1, a2, a3, a4⟩, ⟨b1, b2, b3, b4⟩ => if h : a1 = b1 ∧ a2 = b2 ∧ a3.data = b3.data ∧ a4 = b4 then .isTrue (by obtain ⟨rfl, rfl, h3, rfl⟩ := h; cases a3; cases b3; simp only at h3; subst h3; rfl) else .isFalse (fun e => h (by injection e with e1 e2 e3 e4; subst e1; subst e2; subst e3; subst e4; exact ⟨rfl, rfl, rfl, rfl⟩))

set_option maxRecDepth 100000 in
set_option maxHeartbeats 4000000 in
/-- styluslaw03.awake -/
theorem awake_any (L : Lands) (w : World) (hL : Ka.Laid w) : Calls Tryd.prog 7 #[] w fun e w' => e = .returned (.bool true) ∧ Below w.heap.size w w' := by
  have HB0 : Below w.heap.size w w := Below.refl _ _
  go_enter Tryd.func7, Tryd.ntmps7
  go_wp2_with fail
  refine (read_at L { data := #[123, 112, 32, 97, 32, 98, 125] } (by decide) [⟨2, 112, { data := #[] }, 0⟩, ⟨1, 0, { data := #[97, 32, 98] }, 3⟩, ⟨3, 0, { data := #[] }, 6⟩] (by decide +kernel) (by decide +kernel) (by decide +kernel) _ _ (hL.below ((Below.refl w.heap.size w).alloc (Nat.le_refl _) _) hL.1) ((Holds.new w _ _ _ _ _ rfl rfl).mono (by simp))).mono ?_
  rintro e w1 ⟨rfl, hb1⟩
  have HB1 := chain (HB0.alloc HB0.size _) (by have := HB0.size; simp <;> omega) hb1
  have hL1 := hL.below HB1 hL.1
  clear hb1 HB0
  go_wp2_with fail
  refine (read_at L { data := #[123, 104, 49, 97, 125, 125] } (by decide) [⟨2, 49, { data := #[] }, 0⟩, ⟨1, 0, { data := #[97] }, 3⟩, ⟨3, 0, { data := #[] }, 4⟩, ⟨3, 0, { data := #[] }, 5⟩] (by decide +kernel) (by decide +kernel) (by decide +kernel) _ _ (hL1.below ((Below.refl w1.heap.size w1).alloc (Nat.le_refl _) _) hL1.1) ((Holds.new w1 _ _ _ _ _ rfl rfl).mono (by simp))).mono ?_
  rintro e w2 ⟨rfl, hb2⟩
  have HB2 := chain (HB1.alloc HB1.size _) (by have := HB1.size; simp <;> omega) hb2
  have hL2 := hL.below HB2 hL.1
  clear hb2 HB1
  clear hL1
  go_wp2_with fail
  refine (read_at L { data := #[] } (by decide) [] (by decide +kernel) (by decide +kernel) (by decide +kernel) _ _ hL2 (Holds.nil _ _ _)).mono ?_
  rintro e w3 ⟨rfl, hb3⟩
  have HB3 := chain HB2 HB2.size hb3
  have hL3 := hL.below HB3 hL.1
  clear hb3 HB2
  clear hL2
  go_wp2_with fail
  refine (spoilt_at L { data := #[123, 113, 125] } (by decide) 0 2 (by decide +kernel) (by decide +kernel) (by decide +kernel) _ hL3).mono ?_
  rintro e w4 ⟨rfl, hb4⟩
  have HB4 := chain HB3 HB3.size hb4
  have hL4 := hL.below HB4 hL.1
  clear hb4 HB3
  clear hL3
  go_wp2_with fail
  refine (spoilt_at L { data := #[97, 123] } (by decide) 1 2 (by decide +kernel) (by decide +kernel) (by decide +kernel) _ hL4).mono ?_
  rintro e w5 ⟨rfl, hb5⟩
  have HB5 := chain HB4 HB4.size hb5
  have hL5 := hL.below HB5 hL.1
  clear hb5 HB4
  clear hL4
  go_wp2_with fail
  refine (spoilt_at L { data := #[97, 126] } (by decide) 1 3 (by decide +kernel) (by decide +kernel) (by decide +kernel) _ hL5).mono ?_
  rintro e w6 ⟨rfl, hb6⟩
  have HB6 := chain HB5 HB5.size hb6
  have hL6 := hL.below HB6 hL.1
  clear hb6 HB5
  clear hL5
  go_wp2_with fail
  refine (spoilt_at L { data := #[123, 104, 52, 125] } (by decide) 0 2 (by decide +kernel) (by decide +kernel) (by decide +kernel) _ hL6).mono ?_
  rintro e w7 ⟨rfl, hb7⟩
  have HB7 := chain HB6 HB6.size hb7
  have hL7 := hL.below HB7 hL.1
  clear hb7 HB6
  clear hL6
  go_wp2
  go_ret
  exact ⟨rfl, HB7⟩

set_option maxRecDepth 100000 in
set_option maxHeartbeats 4000000 in
/-- styluslaw03.LexNames -/
theorem lexNames_any (L : Lands) (c : Nat) (hc : c < 256) (w : World) (hL : Ka.Laid w) :
    Calls Tryd.prog 4 #[.int .u8 (c : Int)] w fun e w' => e = .returned (.bool true) ∧ Below w.heap.size w w' := by
  have HB0 : Below w.heap.size w w := Below.refl _ _
  go_enter Tryd.func4, Tryd.ntmps4
  go_wp2_with fail
  refine (L.name c hc _ hL).mono ?_
  rintro e w1 ⟨rfl, hb1⟩
  have HB1 := chain HB0 HB0.size hb1
  have hL1 := hL.below HB1 hL.1
  clear hb1 HB0
  go_wp2_with fail
  refine (rname_any c hc _).mono ?_
  rintro e w2 ⟨rfl, hb2⟩
  have HB2 := chain HB1 HB1.size hb2
  have hL2 := hL.below HB2 hL.1
  clear hb2 HB1 hL1
  go_wp2_with fail
  refine (L.letters _ hL2).mono ?_
  rintro e w3 ⟨rfl, hb3⟩
  have HB3 := chain HB2 HB2.size hb3
  have hL3 := hL.below HB3 hL.1
  clear hb3 HB2 hL2
  go_wp2_with fail
  refine (rletters_any _).mono ?_
  rintro e w' ⟨rfl, rfl⟩
  go_wp2_with fail
  refine (awake_any L _ hL3).mono ?_
  rintro e w4 ⟨rfl, hb4⟩
  have HB4 := chain HB3 HB3.size hb4
  go_wp2
  go_ret
  exact ⟨rfl, HB4⟩

end Go.Proofs.YtgdealdpphcamaaDoor.Lx
