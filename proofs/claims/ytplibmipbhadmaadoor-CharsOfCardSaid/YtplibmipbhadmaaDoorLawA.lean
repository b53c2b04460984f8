/-
  styluslaw01.CharsOf answers true for any byte.
-/
import Derived.Test.YtplibmipbhadmaaDoorChG
namespace Go.Proofs.YtplibmipbhadmaaDoor
open Go.RowKit Go.Shelf

theorem white_all : ∀ n : Fin 256, (cls (n.val : Int) = 5 ∨ cls (n.val : Int) = 6) → n.val = 32 ∨ n.val = 10 := by decide +kernel
theorem white_no (c : Int) (h0 : 0 ≤ c) (h1 : c < 256) (a : ¬ c = 32) (b : ¬ c = 10) : whiteB c = false := by
  obtain ⟨n, rfl⟩ := Int.eq_ofNat_of_zero_le h0
  unfold whiteB
  simp only [decide_eq_false_iff_not]
  intro h
  have := white_all ⟨n, by omega⟩ h
  simp only [] at this
  omega
theorem white_at (c : Int) (v : Bool) (h0 : 0 ≤ c) (h1 : c < 256) (hv : whiteB c = v) (w : World) (hL : Laid w) :
    Calls Tryd.prog 11 #[.int .u8 c] w fun e w' => e = .returned (.bool v) ∧ w = w' := hv ▸ white_any c h0 h1 w hL

set_option maxRecDepth 100000 in
set_option maxHeartbeats 4000000 in
theorem charsOf_any (c : Int) (h0 : 0 ≤ c) (h1 : c < 256) (w : World) (hL : Laid w) :
    Calls Tryd.prog 3 #[.int .u8 c] w fun e w' => e = .returned (.bool true) ∧ Below w.heap.size w w' := by
  by_cases a : c = 32
  · subst a
    go_enter Tryd.func3, Tryd.ntmps3
    go_wp2_with (first
      | (go_at_call 7; refine (class_any 32 h0 h1 _ hL).mono ?_; rintro e w' ⟨rfl, rfl⟩)
      | (go_at_call 8; refine (rclass_any 32 h0 h1 _).mono ?_; rintro e w' ⟨rfl, rfl⟩)
      | (go_at_call 9; refine (is_any 32 h0 h1 _ hL).mono ?_; rintro e w' ⟨rfl, rfl⟩)
      | (go_at_call 10; refine (ris_any 32 h0 h1 _).mono ?_; rintro e w' ⟨rfl, rfl⟩)
      | (go_at_call 11; refine (white_at 32 true h0 h1 (by decide +kernel) _ hL).mono ?_; rintro e w' ⟨rfl, rfl⟩)
      | (go_at_call 12; refine (letter_any 32 h0 h1 _ hL).mono ?_; rintro e w' ⟨rfl, rfl⟩)
      | (go_at_call 13; refine (rletter_any 32 h0 h1 _).mono ?_; rintro e w' ⟨rfl, rfl⟩)
      | (go_at_call 14; refine (lower_any 32 h0 h1 _ hL).mono ?_; rintro e w' ⟨rfl, rfl⟩)
      | (go_at_call 15; refine (rlower_any 32 h0 h1 _).mono ?_; rintro e w' ⟨rfl, rfl⟩)
      | (go_at_call 16; refine (upper_any 32 h0 h1 _ hL).mono ?_; rintro e w' ⟨rfl, rfl⟩)
      | (go_at_call 17; refine (rupper_any 32 h0 h1 _).mono ?_; rintro e w' ⟨rfl, rfl⟩)
      | (go_at_call 18; refine (marks_any _).mono ?_; rintro e w' ⟨rfl, rfl⟩)
      | (go_at_call 19; refine (rmarks_any _).mono ?_; rintro e w' ⟨rfl, rfl⟩)
      | (go_at_call 20; refine (awake_any _ hL).mono ?_; rintro e w' ⟨rfl, hb⟩))
    go_ret
    exact ⟨rfl, hb⟩
  by_cases b : c = 10
  · subst b
    clear a
    go_enter Tryd.func3, Tryd.ntmps3
    go_wp2_with (first
      | (go_at_call 7; refine (class_any 10 h0 h1 _ hL).mono ?_; rintro e w' ⟨rfl, rfl⟩)
      | (go_at_call 8; refine (rclass_any 10 h0 h1 _).mono ?_; rintro e w' ⟨rfl, rfl⟩)
      | (go_at_call 9; refine (is_any 10 h0 h1 _ hL).mono ?_; rintro e w' ⟨rfl, rfl⟩)
      | (go_at_call 10; refine (ris_any 10 h0 h1 _).mono ?_; rintro e w' ⟨rfl, rfl⟩)
      | (go_at_call 11; refine (white_at 10 true h0 h1 (by decide +kernel) _ hL).mono ?_; rintro e w' ⟨rfl, rfl⟩)
      | (go_at_call 12; refine (letter_any 10 h0 h1 _ hL).mono ?_; rintro e w' ⟨rfl, rfl⟩)
      | (go_at_call 13; refine (rletter_any 10 h0 h1 _).mono ?_; rintro e w' ⟨rfl, rfl⟩)
      | (go_at_call 14; refine (lower_any 10 h0 h1 _ hL).mono ?_; rintro e w' ⟨rfl, rfl⟩)
      | (go_at_call 15; refine (rlower_any 10 h0 h1 _).mono ?_; rintro e w' ⟨rfl, rfl⟩)
      | (go_at_call 16; refine (upper_any 10 h0 h1 _ hL).mono ?_; rintro e w' ⟨rfl, rfl⟩)
      | (go_at_call 17; refine (rupper_any 10 h0 h1 _).mono ?_; rintro e w' ⟨rfl, rfl⟩)
      | (go_at_call 18; refine (marks_any _).mono ?_; rintro e w' ⟨rfl, rfl⟩)
      | (go_at_call 19; refine (rmarks_any _).mono ?_; rintro e w' ⟨rfl, rfl⟩)
      | (go_at_call 20; refine (awake_any _ hL).mono ?_; rintro e w' ⟨rfl, hb⟩))
    go_ret
    exact ⟨rfl, hb⟩
  · have HW := Lib.hid (white_no c h0 h1 a b)
    have ha : (c == 32) = false := by simpa using a
    have hb : (c == 10) = false := by simpa using b
    clear a b
    go_enter Tryd.func3, Tryd.ntmps3
    go_wp2_with (first
      | (go_at_call 7; refine (class_any c h0 h1 _ hL).mono ?_; rintro e w' ⟨rfl, rfl⟩)
      | (go_at_call 8; refine (rclass_any c h0 h1 _).mono ?_; rintro e w' ⟨rfl, rfl⟩)
      | (go_at_call 9; refine (is_any c h0 h1 _ hL).mono ?_; rintro e w' ⟨rfl, rfl⟩)
      | (go_at_call 10; refine (ris_any c h0 h1 _).mono ?_; rintro e w' ⟨rfl, rfl⟩)
      | (go_at_call 11; refine (white_at c false h0 h1 HW.out _ hL).mono ?_; rintro e w' ⟨rfl, rfl⟩)
      | (go_at_call 12; refine (letter_any c h0 h1 _ hL).mono ?_; rintro e w' ⟨rfl, rfl⟩)
      | (go_at_call 13; refine (rletter_any c h0 h1 _).mono ?_; rintro e w' ⟨rfl, rfl⟩)
      | (go_at_call 14; refine (lower_any c h0 h1 _ hL).mono ?_; rintro e w' ⟨rfl, rfl⟩)
      | (go_at_call 15; refine (rlower_any c h0 h1 _).mono ?_; rintro e w' ⟨rfl, rfl⟩)
      | (go_at_call 16; refine (upper_any c h0 h1 _ hL).mono ?_; rintro e w' ⟨rfl, rfl⟩)
      | (go_at_call 17; refine (rupper_any c h0 h1 _).mono ?_; rintro e w' ⟨rfl, rfl⟩)
      | (go_at_call 18; refine (marks_any _).mono ?_; rintro e w' ⟨rfl, rfl⟩)
      | (go_at_call 19; refine (rmarks_any _).mono ?_; rintro e w' ⟨rfl, rfl⟩)
      | (go_at_call 20; refine (awake_any _ hL).mono ?_; rintro e w' ⟨rfl, hb⟩))
    go_ret
    exact ⟨rfl, hb⟩
end Go.Proofs.YtplibmipbhadmaaDoor
