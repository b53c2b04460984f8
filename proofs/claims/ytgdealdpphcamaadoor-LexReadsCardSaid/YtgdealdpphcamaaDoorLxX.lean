/-
  styluslaw03.LexReads.
-/
import Derived.Test.YtgdealdpphcamaaDoorLxW
namespace Go.Proofs.YtgdealdpphcamaaDoor.Lx
open Go.RowKit

set_option maxRecDepth 100000 in
set_option maxHeartbeats 4000000 in
/-- styluslaw03.LexReads -/
theorem lexReads_any (L : Lands) (s : ByteArray) (hm : s.size ≤ maxLen) (w : World) (hL : Ka.Laid w) :
    Calls Tryd.prog 3 #[.string s] w fun e w' => e = .returned (.bool true) ∧ Below w.heap.size w w' := by
  have HM := Lib.hid hm
  have HB0 : Below w.heap.size w w := Below.refl _ _
  unfold maxLen at hm
  by_cases hs : 9000 < s.size
  · go_enter Tryd.func3, Tryd.ntmps3
    go_wp2_with (go_at_call 7; refine (awake_any L _ hL).mono ?_; rintro e w' ⟨rfl, hb⟩)
    go_ret
    exact ⟨rfl, hb⟩
  go_enter Tryd.func3, Tryd.ntmps3
  go_wp2_with fail
  refine (of_at L s (by omega) _ _ _ rfl rfl rfl _ hL).mono ?_
  rintro e w1 ⟨v, rfl, hv, hb1⟩
  have HB1 := chain HB0 HB0.size hb1
  have hL1 := hL.below HB1 hL.1
  clear hb1 HB0
  go_wp2_with fail
  refine (rof_any s HM.out _).mono ?_
  rintro e w2 ⟨hg, hb2⟩
  obtain ⟨u, rfl, hu⟩ := hg.holds
  clear hg
  have hv2 := hv.below hb2
  have HB2 := chain HB1 HB1.size hb2
  have hL2 := hL.below HB2 hL.1
  clear hb2 HB1 hL1 hv
  go_wp2_with fail
  refine (same_any v u _ (by have := lexV_length s; omega) _ _ _ hv2 hu).mono ?_
  rintro e w' ⟨rfl, n, rfl⟩
  have HB3 := below_drewN HB2 n
  clear HB2
  go_wp2_with fail
  refine (awake_any L _ (show Ka.Laid (w2.drewN n) from hL2)).mono ?_
  rintro e w4 ⟨rfl, hb4⟩
  have HB4 := chain HB3 HB3.size hb4
  go_wp2
  go_ret
  exact ⟨rfl, HB4⟩
end Go.Proofs.YtgdealdpphcamaaDoor.Lx
