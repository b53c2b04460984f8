/-
  styluslaw02.CellOf answers true.
-/
import Derived.Test.YtlnmacgbdienoaaDoorCeR
import Derived.Test.YtlnmacgbdienoaaDoorCeQ
namespace Go.Proofs.YtlnmacgbdienoaaDoor
open Go.RowKit

set_option maxRecDepth 100000 in
set_option maxHeartbeats 4000000 in
theorem cellOf_any (c : Nat) (hc : c < 256) (s : ByteArray) (hm : s.size ≤ maxLen) (w : World) :
    Calls Tryd.prog 3 #[.int .u8 (c : Int), .string s] w fun e w' => e = .returned (.bool true) ∧ Below w.heap.size w w' := by
  unfold maxLen at hm
  by_cases hs : s.size ≤ 200
  · have hs2 : s.size ≤ 70000 := by omega
    have HB0 : Below w.heap.size w w := Below.refl _ _
    go_enter Tryd.func3, Tryd.ntmps3
    go_wp2_with fail
    refine (sign_any c hc _).mono ?_
    rintro e w' ⟨rfl, rfl⟩
    go_wp2_with fail
    refine (rsign_any c hc _).mono ?_
    rintro e w' ⟨rfl, rfl⟩
    go_wp2_with fail
    refine (from_any c hc _).mono ?_
    rintro e w' ⟨rfl, rfl⟩
    go_wp2_with fail
    refine (rfrom_any c hc _).mono ?_
    rintro e w' ⟨rfl, rfl⟩
    go_wp2_with fail
    refine (rof_any s hs2 _).mono ?_
    rintro e w' ⟨rfl, rfl⟩
    go_wp2_with fail
    refine (dots_any c hc _).mono ?_
    rintro e w1 ⟨rfl, hb1⟩
    have HB1 := chain HB0 HB0.size hb1
    go_wp2_with fail
    refine (rdots_any c hc _).mono ?_
    rintro e w2 ⟨rfl, hb2⟩
    have HB2 := chain HB1 HB1.size hb2
    go_wp2_with fail
    refine (lawOf_at s hs2 _ _ rfl rfl _).mono ?_
    rintro e w3 ⟨rfl, hb3⟩
    have HB3 := chain HB2 HB2.size hb3
    go_wp2_with fail
    refine (awake_any _).mono ?_
    rintro e w4 ⟨rfl, hb4⟩
    have HB4 := chain HB3 HB3.size hb4
    go_wp2
    go_ret
    exact ⟨rfl, HB4⟩
  · have hs' : 200 < s.size := by omega
    go_enter Tryd.func3, Tryd.ntmps3
    go_wp2_with (go_at_call 7; refine (awake_any _).mono ?_; rintro e w' ⟨rfl, hb⟩)
    go_ret
    exact ⟨rfl, hb⟩
end Go.Proofs.YtlnmacgbdienoaaDoor
