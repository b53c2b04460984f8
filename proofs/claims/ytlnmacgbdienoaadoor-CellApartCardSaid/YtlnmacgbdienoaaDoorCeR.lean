/-
  styluslaw02.of and styluslaw02.awake: the chapter's examples.
-/
import Derived.Test.YtlnmacgbdienoaaDoorCeP
import Derived.Test.YtlnmacgbdienoaaDoorCeG
namespace Go.Proofs.YtlnmacgbdienoaaDoor
open Go.RowKit

theorem chain {B : Nat} {a b c : World} (h : Below B a b) (hB : B ≤ b.heap.size) (k : Below b.heap.size b c) : Below B a c := h.trans (k.mono hB)
set_option maxHeartbeats 1000000 in
/-- styluslaw02.of -/
theorem lawOf_at (t : ByteArray) (ht : t.size ≤ 70000) (c : Nat) (b : Bool) (hc : ofS t = c) (hb : ofB t = b) (w : World) :
    Calls Tryd.prog 15 #[.string t, .int .u8 ((c : Nat) : Int), .bool b] w fun e w' => e = .returned (.bool true) ∧ Below w.heap.size w w' := by
  have HC := Lib.hid hc
  have HB := Lib.hid hb
  clear hc hb
  cases b
  all_goals
    go_enter Tryd.func15, Tryd.ntmps15
    go_wp2_with (go_at_call 26; refine (of_at t ht c _ HC.out HB.out _).mono ?_; rintro e w' ⟨rfl, hb2⟩)
    go_ret
    exact ⟨rfl, hb2⟩
theorem lawOf_lit (t : ByteArray) (ht : t.size ≤ 70000) (c : Int) (b : Bool) (hc : ((ofS t : Nat) : Int) = c) (hb : ofB t = b) (w : World) :
    Calls Tryd.prog 15 #[.string t, .int .u8 c, .bool b] w fun e w' => e = .returned (.bool true) ∧ Below w.heap.size w w' := hc ▸ lawOf_at t ht _ b rfl hb w
theorem parse_lit (s v : ByteArray) (hs : s.size ≤ 70000) (p e : Int) (h1 : parseV s = v) (h2 : ((parseAt s : Nat) : Int) = p) (h3 : parseE s = e) (w : World) :
    Calls Tryd.prog 16 #[.string s] w fun r w' => r = .returned (.tuple #[.string v, .int .i64 p, .int .i64 e]) ∧ Below w.heap.size w w' := h1 ▸ h2 ▸ h3 ▸ parse_any s hs w
theorem sign_lit (c v : Int) (b : Bool) (n : Nat) (hn : (n : Int) = c) (h : n < 256) (h1 : ((signR n : Nat) : Int) = v) (h2 : signB n = b) (w : World) :
    Calls Tryd.prog 8 #[.int .u8 c] w fun r w' => r = .returned (.tuple #[.int .u8 v, .bool b]) ∧ w = w' := hn ▸ h1 ▸ h2 ▸ sign_any n h w
theorem from_lit (c v : Int) (b : Bool) (n : Nat) (hn : (n : Int) = c) (h : n < 256) (h1 : ((fromR n : Nat) : Int) = v) (h2 : fromB n = b) (w : World) :
    Calls Tryd.prog 10 #[.int .u8 c] w fun r w' => r = .returned (.tuple #[.int .u8 v, .bool b]) ∧ w = w' := hn ▸ h1 ▸ h2 ▸ from_any n h w
theorem signs_lit (s v : ByteArray) (hs : s.size ≤ 70000) (e : Int) (h1 : signsV s = v) (h3 : signsE s = e) (w : World) :
    Calls Tryd.prog 20 #[.string s] w fun r w' => r = .returned (.tuple #[.string v, .int .i64 e]) ∧ Below w.heap.size w w' := h1 ▸ h3 ▸ signs_any s hs w
theorem dots_lit (c : Int) (n : Nat) (v : ByteArray) (hn : (n : Int) = c) (h : n < 256) (h1 : dotsS n = v) (w : World) :
    Calls Tryd.prog 13 #[.int .u8 c] w fun r w' => r = .returned (.string v) ∧ Below w.heap.size w w' := hn ▸ h1 ▸ dots_any n h w
theorem count_lit (s : ByteArray) (hs : s.size ≤ 70000) (n : Int) (h1 : ((popS s : Nat) : Int) = n) (w : World) :
    Calls Tryd.prog 24 #[.string s] w fun r w' => r = .returned (.int .i64 n) ∧ w = w' := h1 ▸ count_any s hs w

set_option maxRecDepth 100000 in
set_option maxHeartbeats 4000000 in
/-- styluslaw02.awake -/
theorem awake_any (w : World) : Calls Tryd.prog 7 #[] w fun e w' => e = .returned (.bool true) ∧ Below w.heap.size w w' := by
  have HB0 : Below w.heap.size w w := Below.refl _ _
  go_enter Tryd.func7, Tryd.ntmps7
  go_wp2_with fail
  refine (parse_lit { data := #[53, 45, 49, 52, 53] } { data := #[16, 25] } (by decide) 0 0 (by decide +kernel) (by decide +kernel) (by decide +kernel) _).mono ?_
  rintro e w1 ⟨rfl, hb1⟩
  have HB1 := chain HB0 HB0.size hb1
  clear hb1 HB0
  go_wp2_with fail
  refine (parse_lit { data := #[49, 45, 45, 50] } { data := #[] } (by decide) 2 2 (by decide +kernel) (by decide +kernel) (by decide +kernel) _).mono ?_
  rintro e w2 ⟨rfl, hb2⟩
  have HB2 := chain HB1 HB1.size hb2
  clear hb2 HB1
  go_wp2_with fail
  refine (parse_lit { data := #[] } { data := #[] } (by decide) 0 2 (by decide +kernel) (by decide +kernel) (by decide +kernel) _).mono ?_
  rintro e w3 ⟨rfl, hb3⟩
  have HB3 := chain HB2 HB2.size hb3
  clear hb3 HB2
  go_wp2_with fail
  refine (sign_lit 1 65 true 1 rfl (by decide) (by decide +kernel) (by decide +kernel) _).mono ?_
  rintro e w' ⟨rfl, rfl⟩
  go_wp2_with fail
  refine (sign_lit 0 32 true 0 rfl (by decide) (by decide +kernel) (by decide +kernel) _).mono ?_
  rintro e w' ⟨rfl, rfl⟩
  go_wp2_with fail
  refine (sign_lit 63 61 true 63 rfl (by decide) (by decide +kernel) (by decide +kernel) _).mono ?_
  rintro e w' ⟨rfl, rfl⟩
  go_wp2_with fail
  refine (from_lit 87 58 true 87 rfl (by decide) (by decide +kernel) (by decide +kernel) _).mono ?_
  rintro e w' ⟨rfl, rfl⟩
  go_wp2_with fail
  refine (from_lit 97 0 false 97 rfl (by decide) (by decide +kernel) (by decide +kernel) _).mono ?_
  rintro e w' ⟨rfl, rfl⟩
  go_wp2_with fail
  refine (signs_lit { data := #[19, 1, 37] } { data := #[72, 65, 85] } (by decide) 0 (by decide +kernel) (by decide +kernel) _).mono ?_
  rintro e w4 ⟨rfl, hb4⟩
  have HB4 := chain HB3 HB3.size hb4
  clear hb4 HB3
  go_wp2_with fail
  refine (lawOf_lit { data := #[49] } (by decide) 1 true (by decide +kernel) (by decide +kernel) _).mono ?_
  rintro e w5 ⟨rfl, hb5⟩
  have HB5 := chain HB4 HB4.size hb5
  clear hb5 HB4
  go_wp2_with fail
  refine (lawOf_lit { data := #[50, 52, 54] } (by decide) 42 true (by decide +kernel) (by decide +kernel) _).mono ?_
  rintro e w6 ⟨rfl, hb6⟩
  have HB6 := chain HB5 HB5.size hb6
  clear hb6 HB5
  go_wp2_with fail
  refine (lawOf_lit { data := #[50, 49] } (by decide) 0 false (by decide +kernel) (by decide +kernel) _).mono ?_
  rintro e w7 ⟨rfl, hb7⟩
  have HB7 := chain HB6 HB6.size hb7
  clear hb7 HB6
  go_wp2_with fail
  refine (lawOf_lit { data := #[55] } (by decide) 0 false (by decide +kernel) (by decide +kernel) _).mono ?_
  rintro e w8 ⟨rfl, hb8⟩
  have HB8 := chain HB7 HB7.size hb8
  clear hb8 HB7
  go_wp2_with fail
  refine (lawOf_lit { data := #[] } (by decide) 0 false (by decide +kernel) (by decide +kernel) _).mono ?_
  rintro e w9 ⟨rfl, hb9⟩
  have HB9 := chain HB8 HB8.size hb9
  clear hb9 HB8
  go_wp2_with fail
  refine (dots_lit 63 63 { data := #[49, 50, 51, 52, 53, 54] } rfl (by decide) (by decide +kernel) _).mono ?_
  rintro e w10 ⟨rfl, hb10⟩
  have HB10 := chain HB9 HB9.size hb10
  clear hb10 HB9
  go_wp2_with fail
  refine (dots_lit 0 0 { data := #[] } rfl (by decide) (by decide +kernel) _).mono ?_
  rintro e w11 ⟨rfl, hb11⟩
  have HB11 := chain HB10 HB10.size hb11
  clear hb11 HB10
  go_wp2_with fail
  refine (count_lit { data := #[19, 1, 37] } (by decide) 7 (by decide +kernel) _).mono ?_
  rintro e w' ⟨rfl, rfl⟩
  go_wp2
  go_ret
  exact ⟨rfl, HB11⟩
end Go.Proofs.YtlnmacgbdienoaaDoor
