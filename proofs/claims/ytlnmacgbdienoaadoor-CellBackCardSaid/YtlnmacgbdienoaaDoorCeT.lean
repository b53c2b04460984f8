/-
  styluslaw02.CellTexts answers true.
-/
import Derived.Test.YtlnmacgbdienoaaDoorCeR
import Derived.Test.YtlnmacgbdienoaaDoorCeQ
namespace Go.Proofs.YtlnmacgbdienoaaDoor
open Go.RowKit

theorem parse_cases (s : ByteArray) : (parseE s = 0 ∧ parseAt s = 0 ∧ placeI s = -1) ∨ (parseE s = 2 ∧ placeI s = ((parseAt s : Nat) : Int)) := by
  unfold parseE placeI
  cases h : parseL s with
  | none => exact .inr ⟨rfl, rfl⟩
  | some l => exact .inl ⟨rfl, (parse_ok s l h).2.1, rfl⟩
theorem parse_at (s : ByteArray) (hs : s.size ≤ 70000) (p e : Int) (h2 : ((parseAt s : Nat) : Int) = p) (h3 : parseE s = e) (w : World) :
    Calls Tryd.prog 16 #[.string s] w fun r w' => r = .returned (.tuple #[.string (parseV s), .int .i64 p, .int .i64 e]) ∧ Below w.heap.size w w' := h2 ▸ h3 ▸ parse_any s hs w
theorem rparse_at (s : ByteArray) (hs : s.size ≤ 70000) (p : Int) (h : placeI s = p) (w : World) :
    Calls Tryd.prog 17 #[.string s] w fun r w' => r = .returned (.tuple #[.string (parseV s), .int .i64 p]) ∧ Below w.heap.size w w' := h ▸ rparse_any s hs w

set_option maxRecDepth 100000 in
set_option maxHeartbeats 4000000 in
theorem cellTexts_short (s t : ByteArray) (hs : s.size ≤ 2000) (ht : t.size ≤ 2000) (w : World) :
    Calls Tryd.prog 4 #[.string s, .string t] w fun e w' => e = .returned (.bool true) ∧ Below w.heap.size w w' := by
  have hs2 : s.size ≤ 70000 := by omega
  have ht2 : t.size ≤ 70000 := by omega
  have u2 : decide (2000 < s.size) = false := decide_eq_false (by omega)
  have u3 : decide (2000 < t.size) = false := decide_eq_false (by omega)
  have HB0 : Below w.heap.size w w := Below.refl _ _
  rcases parse_cases s with ⟨e1, e2, e3⟩ | ⟨e1, e3⟩
  · have E1 := Lib.hid e1
    have E2 := Lib.hid (show ((parseAt s : Nat) : Int) = 0 by rw [e2]; rfl)
    have E3 := Lib.hid e3
    clear e1 e2 e3
    go_enter Tryd.func4, Tryd.ntmps4
    go_wp2_with fail
    refine (parse_at s hs2 0 0 E2.out E1.out _).mono ?_
    rintro e w1 ⟨rfl, hb1⟩
    have HB1 := chain HB0 HB0.size hb1
    go_wp2_with fail
    refine (rparse_at s hs2 (-1) E3.out _).mono ?_
    rintro e w2 ⟨rfl, hb2⟩
    have HB2 := chain HB1 HB1.size hb2
    go_wp2_with fail
    refine (print_any t ht2 _).mono ?_
    rintro e w3 ⟨rfl, hb3⟩
    have HB3 := chain HB2 HB2.size hb3
    clear hb3 HB2
    go_wp2_with fail
    refine (rprint_any t ht2 _).mono ?_
    rintro e w4 ⟨rfl, hb4⟩
    have HB4 := chain HB3 HB3.size hb4
    clear hb4 HB3
    go_wp2_with fail
    refine (signs_any t ht2 _).mono ?_
    rintro e w5 ⟨rfl, hb5⟩
    have HB5 := chain HB4 HB4.size hb5
    clear hb5 HB4
    go_wp2_with fail
    refine (rsigns_any t ht2 _).mono ?_
    rintro e w6 ⟨rfl, hb6⟩
    have HB6 := chain HB5 HB5.size hb6
    clear hb6 HB5
    go_wp2_with fail
    refine (cells_any s hs2 _).mono ?_
    rintro e w7 ⟨rfl, hb7⟩
    have HB7 := chain HB6 HB6.size hb7
    clear hb7 HB6
    go_wp2_with fail
    refine (rcells_any s hs2 _).mono ?_
    rintro e w8 ⟨rfl, hb8⟩
    have HB8 := chain HB7 HB7.size hb8
    clear hb8 HB7
    go_wp2_with fail
    refine (count_any t ht2 _).mono ?_
    rintro e w' ⟨rfl, rfl⟩
    go_wp2_with fail
    refine (rcount_any t ht2 _).mono ?_
    rintro e w9 ⟨rfl, hb9⟩
    have HB9 := chain HB8 HB8.size hb9
    clear hb9 HB8
    go_wp2_with fail
    refine (awake_any _).mono ?_
    rintro e w10 ⟨rfl, hb10⟩
    have HB10 := chain HB9 HB9.size hb10
    clear hb10 HB9
    go_wp2
    go_ret
    exact ⟨rfl, HB10⟩
  · obtain ⟨p, hp⟩ : ∃ p, parseAt s = p := ⟨_, rfl⟩
    have E1 := Lib.hid e1
    have E2 := Lib.hid (show ((parseAt s : Nat) : Int) = (p : Int) by rw [hp])
    have E3 := Lib.hid (show placeI s = (p : Int) by rw [e3, hp])
    have u4 : decide ((p : Int) < 0) = false := decide_eq_false (by omega)
    have u5 : 0 ≤ (p : Int) := by omega
    clear e1 e3 hp
    go_enter Tryd.func4, Tryd.ntmps4
    go_wp2_with fail
    refine (parse_at s hs2 _ 2 E2.out E1.out _).mono ?_
    rintro e w1 ⟨rfl, hb1⟩
    have HB1 := chain HB0 HB0.size hb1
    go_wp2_with fail
    refine (rparse_at s hs2 _ E3.out _).mono ?_
    rintro e w2 ⟨rfl, hb2⟩
    have HB2 := chain HB1 HB1.size hb2
    go_wp2_with fail
    refine (print_any t ht2 _).mono ?_
    rintro e w3 ⟨rfl, hb3⟩
    have HB3 := chain HB2 HB2.size hb3
    clear hb3 HB2
    go_wp2_with fail
    refine (rprint_any t ht2 _).mono ?_
    rintro e w4 ⟨rfl, hb4⟩
    have HB4 := chain HB3 HB3.size hb4
    clear hb4 HB3
    go_wp2_with fail
    refine (signs_any t ht2 _).mono ?_
    rintro e w5 ⟨rfl, hb5⟩
    have HB5 := chain HB4 HB4.size hb5
    clear hb5 HB4
    go_wp2_with fail
    refine (rsigns_any t ht2 _).mono ?_
    rintro e w6 ⟨rfl, hb6⟩
    have HB6 := chain HB5 HB5.size hb6
    clear hb6 HB5
    go_wp2_with fail
    refine (cells_any s hs2 _).mono ?_
    rintro e w7 ⟨rfl, hb7⟩
    have HB7 := chain HB6 HB6.size hb7
    clear hb7 HB6
    go_wp2_with fail
    refine (rcells_any s hs2 _).mono ?_
    rintro e w8 ⟨rfl, hb8⟩
    have HB8 := chain HB7 HB7.size hb8
    clear hb8 HB7
    go_wp2_with fail
    refine (count_any t ht2 _).mono ?_
    rintro e w' ⟨rfl, rfl⟩
    go_wp2_with fail
    refine (rcount_any t ht2 _).mono ?_
    rintro e w9 ⟨rfl, hb9⟩
    have HB9 := chain HB8 HB8.size hb9
    clear hb9 HB8
    go_wp2_with fail
    refine (awake_any _).mono ?_
    rintro e w10 ⟨rfl, hb10⟩
    have HB10 := chain HB9 HB9.size hb10
    clear hb10 HB9
    go_wp2
    go_ret
    exact ⟨rfl, HB10⟩

theorem cellTexts_long (s t : ByteArray) (h : 2000 < s.size ∨ 2000 < t.size) (hs : s.size ≤ maxLen) (ht : t.size ≤ maxLen) (w : World) :
    Calls Tryd.prog 4 #[.string s, .string t] w fun e w' => e = .returned (.bool true) ∧ Below w.heap.size w w' := by
  unfold maxLen at hs ht
  by_cases h1 : 2000 < s.size
  · clear h
    go_enter Tryd.func4, Tryd.ntmps4
    go_wp2_with (go_at_call 7; refine (awake_any _).mono ?_; rintro e w' ⟨rfl, hb⟩)
    go_ret
    exact ⟨rfl, hb⟩
  · have h2 := h.resolve_left h1
    have u2 : decide (2000 < s.size) = false := decide_eq_false h1
    have u3 : s.size ≤ 2000 := by omega
    clear h h1
    go_enter Tryd.func4, Tryd.ntmps4
    go_wp2_with (go_at_call 7; refine (awake_any _).mono ?_; rintro e w' ⟨rfl, hb⟩)
    go_ret
    exact ⟨rfl, hb⟩

theorem cellTexts_any (s : ByteArray) (hs : s.size ≤ maxLen) (t : ByteArray) (ht : t.size ≤ maxLen) (w : World) :
    Calls Tryd.prog 4 #[.string s, .string t] w fun e w' => e = .returned (.bool true) ∧ Below w.heap.size w w' := by
  by_cases h1 : s.size ≤ 2000
  · by_cases h2 : t.size ≤ 2000
    · exact cellTexts_short s t h1 h2 w
    · exact cellTexts_long s t (.inr (by omega)) hs ht w
  · exact cellTexts_long s t (.inl (by omega)) hs ht w
end Go.Proofs.YtlnmacgbdienoaaDoor
