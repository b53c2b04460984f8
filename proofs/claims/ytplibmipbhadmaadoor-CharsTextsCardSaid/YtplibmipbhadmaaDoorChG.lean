/-
  styluslaw01.awake answers true: the chapter's examples.
-/
import Derived.Test.YtplibmipbhadmaaDoorChE
import Derived.Test.YtplibmipbhadmaaDoorChF
namespace Go.Proofs.YtplibmipbhadmaaDoor
open Go.RowKit Go.Shelf

theorem lower_at (c k : Int) (h0 : 0 ≤ c) (h1 : c < 256) (hk : lowerI c = k) (w : World) (hL : Laid w) :
    Calls Tryd.prog 14 #[.int .u8 c] w fun e w' => e = .returned (.int .u8 k) ∧ w = w' := hk ▸ lower_any c h0 h1 w hL
theorem upper_at (c k : Int) (h0 : 0 ≤ c) (h1 : c < 256) (hk : upperI c = k) (w : World) (hL : Laid w) :
    Calls Tryd.prog 16 #[.int .u8 c] w fun e w' => e = .returned (.int .u8 k) ∧ w = w' := hk ▸ upper_any c h0 h1 w hL
theorem case_at (s : ByteArray) (k : Int) (hs : s.size ≤ 2000) (hk : caseI s = k) (w : World) (hL : Laid w) :
    Calls Tryd.prog 24 #[.string s] w fun e w' => e = .returned (.int .i64 k) ∧ Below w.heap.size w w' := hk ▸ case_any s hs w hL

def exS : ByteArray := { data := #[97, 98, 49, 46, 50] }
def exL : List (Nat × ByteArray) := [(0, { data := #[97, 98] }), (2, { data := #[49] }), (3, { data := #[46] }), (4, { data := #[50] })]
theorem ex_runs : txts exS (runsFrom exS 0) = exL := by decide +kernel

theorem ex_lit (W : World) : HoldsRuns (W.alloc (.cells #[.int .i64 0, .string { data := #[97, 98] }, .int .i64 2, .string { data := #[49] }, .int .i64 3, .string { data := #[46] }, .int .i64 4, .string { data := #[50] }] 36)) (W.heap.size + 1) (.slice (some ⟨W.heap.size, 0, none⟩) 4 4) exL := by
  refine ⟨_, _, rfl, fun _ => ⟨W.heap.size, rfl, by omega, fun k p hp => ?_⟩⟩
  match k, hp with
  | 0, hp => simp [exL] at hp; subst hp; simp
  | 1, hp => simp [exL] at hp; subst hp; simp
  | 2, hp => simp [exL] at hp; subst hp; simp
  | 3, hp => simp [exL] at hp; subst hp; simp
  | n + 4, hp => simp [exL] at hp
theorem below_drewN {B : Nat} {a w : World} (h : Below B a w) (n : Nat) : Below B a (w.drewN n) := h.trans ⟨rfl, rfl, rfl, Nat.le_refl _, fun _ _ => rfl⟩

set_option maxRecDepth 100000 in
set_option maxHeartbeats 4000000 in
theorem awake_any (w : World) (hL : Laid w) : Calls Tryd.prog 20 #[] w fun e w' => e = .returned (.bool true) ∧ Below w.heap.size w w' := by
  go_enter Tryd.func20, Tryd.ntmps20
  go_wp2_with fail
  refine (runs_any exS (by decide) w hL).mono ?_
  rintro e w1 ⟨v, rfl, hown, hb1⟩
  have hH := HoldsRuns.of_own rfl hown
  rw [runsA_val, ex_runs] at hH
  clear hown
  have hL1 := hL.below hb1 hL.1
  go_wp2_with fail
  refine (class_at 97 1 (by decide) (by decide) (by decide +kernel) _ hL1).mono ?_
  rintro e w' ⟨rfl, rfl⟩
  go_wp2_with fail
  refine (class_at 90 2 (by decide) (by decide) (by decide +kernel) _ hL1).mono ?_
  rintro e w' ⟨rfl, rfl⟩
  go_wp2_with fail
  refine (class_at 55 3 (by decide) (by decide) (by decide +kernel) _ hL1).mono ?_
  rintro e w' ⟨rfl, rfl⟩
  go_wp2_with fail
  refine (class_at 47 4 (by decide) (by decide) (by decide +kernel) _ hL1).mono ?_
  rintro e w' ⟨rfl, rfl⟩
  go_wp2_with fail
  refine (class_at 32 5 (by decide) (by decide) (by decide +kernel) _ hL1).mono ?_
  rintro e w' ⟨rfl, rfl⟩
  go_wp2_with fail
  refine (class_at 10 6 (by decide) (by decide) (by decide +kernel) _ hL1).mono ?_
  rintro e w' ⟨rfl, rfl⟩
  go_wp2_with fail
  refine (class_at 123 0 (by decide) (by decide) (by decide +kernel) _ hL1).mono ?_
  rintro e w' ⟨rfl, rfl⟩
  go_wp2_with fail
  refine (lower_at 81 113 (by decide) (by decide) (by decide +kernel) _ hL1).mono ?_
  rintro e w' ⟨rfl, rfl⟩
  go_wp2_with fail
  refine (upper_at 113 81 (by decide) (by decide) (by decide +kernel) _ hL1).mono ?_
  rintro e w' ⟨rfl, rfl⟩
  go_wp2_with fail
  refine (lower_at 63 63 (by decide) (by decide) (by decide +kernel) _ hL1).mono ?_
  rintro e w' ⟨rfl, rfl⟩
  have HB1 : Below w1.heap.size w1 w1 := Below.refl _ _
  go_wp2_with fail
  refine (case_at { data := #[97, 98] } 1 (by decide) (by decide +kernel) _ hL1).mono ?_
  rintro e w2 ⟨rfl, hb2⟩
  have HB2 := HB1.trans (hb2.mono HB1.size)
  have hL2 := hL1.below hb2 hL1.1
  clear hb2 hL1 HB1
  go_wp2_with fail
  refine (case_at { data := #[65, 98] } 2 (by decide) (by decide +kernel) _ hL2).mono ?_
  rintro e w3 ⟨rfl, hb3⟩
  have HB3 := HB2.trans (hb3.mono HB2.size)
  have hL3 := hL2.below hb3 hL2.1
  clear hb3 hL2 HB2
  go_wp2_with fail
  refine (case_at { data := #[65] } 2 (by decide) (by decide +kernel) _ hL3).mono ?_
  rintro e w4 ⟨rfl, hb4⟩
  have HB4 := HB3.trans (hb4.mono HB3.size)
  have hL4 := hL3.below hb4 hL3.1
  clear hb4 hL3 HB3
  go_wp2_with fail
  refine (case_at { data := #[65, 66] } 3 (by decide) (by decide +kernel) _ hL4).mono ?_
  rintro e w5 ⟨rfl, hb5⟩
  have HB5 := HB4.trans (hb5.mono HB4.size)
  have hL5 := hL4.below hb5 hL4.1
  clear hb5 hL4 HB4
  go_wp2_with fail
  refine (case_at { data := #[97, 66] } 4 (by decide) (by decide +kernel) _ hL5).mono ?_
  rintro e w6 ⟨rfl, hb6⟩
  have HB6 := HB5.trans (hb6.mono HB5.size)
  have hL6 := hL5.below hb6 hL5.1
  clear hb6 hL5 HB5
  go_wp2_with fail
  refine (case_at { data := #[97, 49] } 0 (by decide) (by decide +kernel) _ hL6).mono ?_
  rintro e w7 ⟨rfl, hb7⟩
  have HB7 := HB6.trans (hb7.mono HB6.size)
  have hL7 := hL6.below hb7 hL6.1
  clear hb7 hL6 HB6
  go_wp2_with fail
  refine (case_at { data := #[] } 0 (by decide) (by decide +kernel) _ hL7).mono ?_
  rintro e w8 ⟨rfl, hb8⟩
  have HB8 := HB7.trans (hb8.mono HB7.size)
  have hL8 := hL7.below hb8 hL7.1
  clear hb8 hL7 HB7
  have hH2 := hH.below HB8
  clear hH
  go_wp2_with fail
  refine (same_any v _ exL (by decide) _ w1.heap.size (w8.heap.size + 1) (hH2.below ((Below.refl w1.heap.size w8).alloc HB8.size _)) (ex_lit w8)).mono ?_
  rintro e w' ⟨rfl, n, rfl⟩
  go_wp2
  go_ret
  exact ⟨rfl, below_drewN (hb1.trans ((HB8.alloc HB8.size _).mono hb1.size)) n⟩
end Go.Proofs.YtplibmipbhadmaaDoor
