/-
  styluslaw02.CellBack answers true.
-/
import Derived.Test.YtlnmacgbdienoaaDoorCeT
import Derived.Test.YtlnmacgbdienoaaDoorCeU
namespace Go.Proofs.YtlnmacgbdienoaaDoor
open Go.RowKit

theorem print_lit (s v : ByteArray) (hs : s.size ≤ 70000) (e : Int) (h1 : printV s = v) (h3 : printE s = e) (w : World) :
    Calls Tryd.prog 18 #[.string s] w fun r w' => r = .returned (.tuple #[.string v, .int .i64 e]) ∧ Below w.heap.size w w' := h1 ▸ h3 ▸ print_any s hs w
theorem cells_lit (s v : ByteArray) (hs : s.size ≤ 70000) (p e : Int) (h1 : cellsV s = v) (h2 : ((cellsAt s : Nat) : Int) = p) (h3 : cellsE s = e) (w : World) :
    Calls Tryd.prog 22 #[.string s] w fun r w' => r = .returned (.tuple #[.string v, .int .i64 p, .int .i64 e]) ∧ Below w.heap.size w w' := h1 ▸ h2 ▸ h3 ▸ cells_any s hs w
theorem printV_size (s : ByteArray) : (printV s).size ≤ 28 := by
  unfold printV
  by_cases h : printOK s
  · rw [if_pos h, bytesOf_size]
    have := printT_len (bytesN s)
    rw [bytesN_len] at this
    have := h.2.1
    omega
  · rw [if_neg h]; show (0 : Nat) ≤ 28; omega
theorem parseV_size (s : ByteArray) : (parseV s).size ≤ 4 := by
  unfold parseV
  cases h : parseL s with
  | none => show (0 : Nat) ≤ 4; omega
  | some l => simp only []; rw [bytesOf_size]; exact (pSt_le (show pSt s (partsA s 0) = some l from h)).1
theorem signsV_size (s : ByteArray) : (signsV s).size ≤ s.size := by
  unfold signsV; split
  · rw [mapS_size]; exact Nat.le_refl _
  · show 0 ≤ _; omega
theorem cellsV_size (s : ByteArray) : (cellsV s).size ≤ s.size := by
  unfold cellsV; split
  · rw [mapS_size]; exact Nat.le_refl _
  · show 0 ≤ _; omega
theorem nat0 {n : Nat} (h : n = 0) : ((n : Nat) : Int) = 0 := by rw [h]; rfl

set_option maxRecDepth 100000 in
set_option maxHeartbeats 4000000 in
theorem cellBack_1111 (c s : ByteArray) (hc : c.size ≤ 2000) (hs : s.size ≤ 2000) (hA : printOK c) (hB : parseE s = 0) (hC : badAt signB c = c.size) (hD : badAt fromB s = s.size) (w : World) :
    Calls Tryd.prog 5 #[.string c, .string s] w fun e w' => e = .returned (.bool true) ∧ Below w.heap.size w w' := by
  have hc2 : c.size ≤ 70000 := by omega
  have hs2 : s.size ≤ 70000 := by omega
  have z1 : (printV c).size ≤ 70000 := Nat.le_trans (printV_size c) (by decide)
  have z2 : (parseV s).size ≤ 70000 := Nat.le_trans (parseV_size s) (by decide)
  have z3 : (signsV c).size ≤ 70000 := Nat.le_trans (signsV_size c) hc2
  have z4 : (cellsV s).size ≤ 70000 := Nat.le_trans (cellsV_size s) hs2
  have A0 := Lib.hid (show printE c = 0 by unfold printE; rw [if_pos hA])
  have A1 := Lib.hid (print_there c hA)
  have B0 := Lib.hid hB
  have B1 := Lib.hid (parse_there s hB)
  have C0 := Lib.hid (show signsE c = 0 by unfold signsE; rw [if_pos hC])
  have C2 := Lib.hid (show signsV c = mapS signR c by unfold signsV; rw [if_pos hC])
  have C1 := Lib.hid (C2.out ▸ signs_there c hC : cellsV (signsV c) = c ∧ cellsAt (signsV c) = 0 ∧ cellsE (signsV c) = 0)
  have D0 := Lib.hid (show cellsE s = 0 by unfold cellsE; rw [if_pos hD])
  have D2 := Lib.hid (show cellsV s = mapS fromR s by unfold cellsV; rw [if_pos hD])
  have D1 := Lib.hid (D2.out ▸ cells_there s hD : signsV (cellsV s) = s ∧ signsE (cellsV s) = 0)
  have HB0 : Below w.heap.size w w := Below.refl _ _
  clear hA hB hC hD
  go_enter Tryd.func5, Tryd.ntmps5
  go_wp2_with fail
  refine (print_lit c _ hc2 0 rfl A0.out _).mono ?_
  rintro e w1 ⟨rfl, hb1⟩
  have HB1 := chain HB0 HB0.size hb1
  clear hb1 HB0
  go_wp2_with fail
  refine (parse_lit (printV c) c z1 0 0 A1.out.1 (nat0 A1.out.2.1) A1.out.2.2 _).mono ?_
  rintro e w2 ⟨rfl, hb2⟩
  have HB2 := chain HB1 HB1.size hb2
  clear hb2 HB1
  go_wp2_with fail
  refine (parse_lit s _ hs2 _ 0 rfl rfl B0.out _).mono ?_
  rintro e w3 ⟨rfl, hb3⟩
  have HB3 := chain HB2 HB2.size hb3
  clear hb3 HB2
  go_wp2_with fail
  refine (print_lit (parseV s) s z2 0 B1.out.1 B1.out.2 _).mono ?_
  rintro e w4 ⟨rfl, hb4⟩
  have HB4 := chain HB3 HB3.size hb4
  clear hb4 HB3
  go_wp2_with fail
  refine (signs_lit c _ hc2 0 rfl C0.out _).mono ?_
  rintro e w5 ⟨rfl, hb5⟩
  have HB5 := chain HB4 HB4.size hb5
  clear hb5 HB4
  go_wp2_with fail
  refine (cells_lit (signsV c) c z3 0 0 C1.out.1 (nat0 C1.out.2.1) C1.out.2.2 _).mono ?_
  rintro e w6 ⟨rfl, hb6⟩
  have HB6 := chain HB5 HB5.size hb6
  clear hb6 HB5
  go_wp2_with fail
  refine (cells_lit s _ hs2 _ 0 rfl rfl D0.out _).mono ?_
  rintro e w7 ⟨rfl, hb7⟩
  have HB7 := chain HB6 HB6.size hb7
  clear hb7 HB6
  go_wp2_with fail
  refine (signs_lit (cellsV s) s z4 0 D1.out.1 D1.out.2 _).mono ?_
  rintro e w8 ⟨rfl, hb8⟩
  have HB8 := chain HB7 HB7.size hb8
  clear hb8 HB7
  go_wp2_with fail
  refine (awake_any _).mono ?_
  rintro e w9 ⟨rfl, hb9⟩
  have HB9 := chain HB8 HB8.size hb9
  clear hb9 HB8
  go_wp2
  go_ret
  exact ⟨rfl, HB9⟩

set_option maxRecDepth 100000 in
set_option maxHeartbeats 4000000 in
theorem cellBack_1110 (c s : ByteArray) (hc : c.size ≤ 2000) (hs : s.size ≤ 2000) (hA : printOK c) (hB : parseE s = 0) (hC : badAt signB c = c.size) (hD : cellsE s = 2) (w : World) :
    Calls Tryd.prog 5 #[.string c, .string s] w fun e w' => e = .returned (.bool true) ∧ Below w.heap.size w w' := by
  have hc2 : c.size ≤ 70000 := by omega
  have hs2 : s.size ≤ 70000 := by omega
  have z1 : (printV c).size ≤ 70000 := Nat.le_trans (printV_size c) (by decide)
  have z2 : (parseV s).size ≤ 70000 := Nat.le_trans (parseV_size s) (by decide)
  have z3 : (signsV c).size ≤ 70000 := Nat.le_trans (signsV_size c) hc2
  have z4 : (cellsV s).size ≤ 70000 := Nat.le_trans (cellsV_size s) hs2
  have A0 := Lib.hid (show printE c = 0 by unfold printE; rw [if_pos hA])
  have A1 := Lib.hid (print_there c hA)
  have B0 := Lib.hid hB
  have B1 := Lib.hid (parse_there s hB)
  have C0 := Lib.hid (show signsE c = 0 by unfold signsE; rw [if_pos hC])
  have C2 := Lib.hid (show signsV c = mapS signR c by unfold signsV; rw [if_pos hC])
  have C1 := Lib.hid (C2.out ▸ signs_there c hC : cellsV (signsV c) = c ∧ cellsAt (signsV c) = 0 ∧ cellsE (signsV c) = 0)
  have D0 := Lib.hid hD
  have HB0 : Below w.heap.size w w := Below.refl _ _
  clear hA hB hC hD
  go_enter Tryd.func5, Tryd.ntmps5
  go_wp2_with fail
  refine (print_lit c _ hc2 0 rfl A0.out _).mono ?_
  rintro e w1 ⟨rfl, hb1⟩
  have HB1 := chain HB0 HB0.size hb1
  clear hb1 HB0
  go_wp2_with fail
  refine (parse_lit (printV c) c z1 0 0 A1.out.1 (nat0 A1.out.2.1) A1.out.2.2 _).mono ?_
  rintro e w2 ⟨rfl, hb2⟩
  have HB2 := chain HB1 HB1.size hb2
  clear hb2 HB1
  go_wp2_with fail
  refine (parse_lit s _ hs2 _ 0 rfl rfl B0.out _).mono ?_
  rintro e w3 ⟨rfl, hb3⟩
  have HB3 := chain HB2 HB2.size hb3
  clear hb3 HB2
  go_wp2_with fail
  refine (print_lit (parseV s) s z2 0 B1.out.1 B1.out.2 _).mono ?_
  rintro e w4 ⟨rfl, hb4⟩
  have HB4 := chain HB3 HB3.size hb4
  clear hb4 HB3
  go_wp2_with fail
  refine (signs_lit c _ hc2 0 rfl C0.out _).mono ?_
  rintro e w5 ⟨rfl, hb5⟩
  have HB5 := chain HB4 HB4.size hb5
  clear hb5 HB4
  go_wp2_with fail
  refine (cells_lit (signsV c) c z3 0 0 C1.out.1 (nat0 C1.out.2.1) C1.out.2.2 _).mono ?_
  rintro e w6 ⟨rfl, hb6⟩
  have HB6 := chain HB5 HB5.size hb6
  clear hb6 HB5
  go_wp2_with fail
  refine (cells_lit s _ hs2 _ 2 rfl rfl D0.out _).mono ?_
  rintro e w7 ⟨rfl, hb7⟩
  have HB7 := chain HB6 HB6.size hb7
  clear hb7 HB6
  go_wp2_with fail
  refine (awake_any _).mono ?_
  rintro e w8 ⟨rfl, hb8⟩
  have HB8 := chain HB7 HB7.size hb8
  clear hb8 HB7
  go_wp2
  go_ret
  exact ⟨rfl, HB8⟩

set_option maxRecDepth 100000 in
set_option maxHeartbeats 4000000 in
theorem cellBack_1101 (c s : ByteArray) (hc : c.size ≤ 2000) (hs : s.size ≤ 2000) (hA : printOK c) (hB : parseE s = 0) (hC : signsE c = 1) (hD : badAt fromB s = s.size) (w : World) :
    Calls Tryd.prog 5 #[.string c, .string s] w fun e w' => e = .returned (.bool true) ∧ Below w.heap.size w w' := by
  have hc2 : c.size ≤ 70000 := by omega
  have hs2 : s.size ≤ 70000 := by omega
  have z1 : (printV c).size ≤ 70000 := Nat.le_trans (printV_size c) (by decide)
  have z2 : (parseV s).size ≤ 70000 := Nat.le_trans (parseV_size s) (by decide)
  have z3 : (signsV c).size ≤ 70000 := Nat.le_trans (signsV_size c) hc2
  have z4 : (cellsV s).size ≤ 70000 := Nat.le_trans (cellsV_size s) hs2
  have A0 := Lib.hid (show printE c = 0 by unfold printE; rw [if_pos hA])
  have A1 := Lib.hid (print_there c hA)
  have B0 := Lib.hid hB
  have B1 := Lib.hid (parse_there s hB)
  have C0 := Lib.hid hC
  have D0 := Lib.hid (show cellsE s = 0 by unfold cellsE; rw [if_pos hD])
  have D2 := Lib.hid (show cellsV s = mapS fromR s by unfold cellsV; rw [if_pos hD])
  have D1 := Lib.hid (D2.out ▸ cells_there s hD : signsV (cellsV s) = s ∧ signsE (cellsV s) = 0)
  have HB0 : Below w.heap.size w w := Below.refl _ _
  clear hA hB hC hD
  go_enter Tryd.func5, Tryd.ntmps5
  go_wp2_with fail
  refine (print_lit c _ hc2 0 rfl A0.out _).mono ?_
  rintro e w1 ⟨rfl, hb1⟩
  have HB1 := chain HB0 HB0.size hb1
  clear hb1 HB0
  go_wp2_with fail
  refine (parse_lit (printV c) c z1 0 0 A1.out.1 (nat0 A1.out.2.1) A1.out.2.2 _).mono ?_
  rintro e w2 ⟨rfl, hb2⟩
  have HB2 := chain HB1 HB1.size hb2
  clear hb2 HB1
  go_wp2_with fail
  refine (parse_lit s _ hs2 _ 0 rfl rfl B0.out _).mono ?_
  rintro e w3 ⟨rfl, hb3⟩
  have HB3 := chain HB2 HB2.size hb3
  clear hb3 HB2
  go_wp2_with fail
  refine (print_lit (parseV s) s z2 0 B1.out.1 B1.out.2 _).mono ?_
  rintro e w4 ⟨rfl, hb4⟩
  have HB4 := chain HB3 HB3.size hb4
  clear hb4 HB3
  go_wp2_with fail
  refine (signs_lit c _ hc2 1 rfl C0.out _).mono ?_
  rintro e w5 ⟨rfl, hb5⟩
  have HB5 := chain HB4 HB4.size hb5
  clear hb5 HB4
  go_wp2_with fail
  refine (cells_lit s _ hs2 _ 0 rfl rfl D0.out _).mono ?_
  rintro e w6 ⟨rfl, hb6⟩
  have HB6 := chain HB5 HB5.size hb6
  clear hb6 HB5
  go_wp2_with fail
  refine (signs_lit (cellsV s) s z4 0 D1.out.1 D1.out.2 _).mono ?_
  rintro e w7 ⟨rfl, hb7⟩
  have HB7 := chain HB6 HB6.size hb7
  clear hb7 HB6
  go_wp2_with fail
  refine (awake_any _).mono ?_
  rintro e w8 ⟨rfl, hb8⟩
  have HB8 := chain HB7 HB7.size hb8
  clear hb8 HB7
  go_wp2
  go_ret
  exact ⟨rfl, HB8⟩

set_option maxRecDepth 100000 in
set_option maxHeartbeats 4000000 in
theorem cellBack_1100 (c s : ByteArray) (hc : c.size ≤ 2000) (hs : s.size ≤ 2000) (hA : printOK c) (hB : parseE s = 0) (hC : signsE c = 1) (hD : cellsE s = 2) (w : World) :
    Calls Tryd.prog 5 #[.string c, .string s] w fun e w' => e = .returned (.bool true) ∧ Below w.heap.size w w' := by
  have hc2 : c.size ≤ 70000 := by omega
  have hs2 : s.size ≤ 70000 := by omega
  have z1 : (printV c).size ≤ 70000 := Nat.le_trans (printV_size c) (by decide)
  have z2 : (parseV s).size ≤ 70000 := Nat.le_trans (parseV_size s) (by decide)
  have z3 : (signsV c).size ≤ 70000 := Nat.le_trans (signsV_size c) hc2
  have z4 : (cellsV s).size ≤ 70000 := Nat.le_trans (cellsV_size s) hs2
  have A0 := Lib.hid (show printE c = 0 by unfold printE; rw [if_pos hA])
  have A1 := Lib.hid (print_there c hA)
  have B0 := Lib.hid hB
  have B1 := Lib.hid (parse_there s hB)
  have C0 := Lib.hid hC
  have D0 := Lib.hid hD
  have HB0 : Below w.heap.size w w := Below.refl _ _
  clear hA hB hC hD
  go_enter Tryd.func5, Tryd.ntmps5
  go_wp2_with fail
  refine (print_lit c _ hc2 0 rfl A0.out _).mono ?_
  rintro e w1 ⟨rfl, hb1⟩
  have HB1 := chain HB0 HB0.size hb1
  clear hb1 HB0
  go_wp2_with fail
  refine (parse_lit (printV c) c z1 0 0 A1.out.1 (nat0 A1.out.2.1) A1.out.2.2 _).mono ?_
  rintro e w2 ⟨rfl, hb2⟩
  have HB2 := chain HB1 HB1.size hb2
  clear hb2 HB1
  go_wp2_with fail
  refine (parse_lit s _ hs2 _ 0 rfl rfl B0.out _).mono ?_
  rintro e w3 ⟨rfl, hb3⟩
  have HB3 := chain HB2 HB2.size hb3
  clear hb3 HB2
  go_wp2_with fail
  refine (print_lit (parseV s) s z2 0 B1.out.1 B1.out.2 _).mono ?_
  rintro e w4 ⟨rfl, hb4⟩
  have HB4 := chain HB3 HB3.size hb4
  clear hb4 HB3
  go_wp2_with fail
  refine (signs_lit c _ hc2 1 rfl C0.out _).mono ?_
  rintro e w5 ⟨rfl, hb5⟩
  have HB5 := chain HB4 HB4.size hb5
  clear hb5 HB4
  go_wp2_with fail
  refine (cells_lit s _ hs2 _ 2 rfl rfl D0.out _).mono ?_
  rintro e w6 ⟨rfl, hb6⟩
  have HB6 := chain HB5 HB5.size hb6
  clear hb6 HB5
  go_wp2_with fail
  refine (awake_any _).mono ?_
  rintro e w7 ⟨rfl, hb7⟩
  have HB7 := chain HB6 HB6.size hb7
  clear hb7 HB6
  go_wp2
  go_ret
  exact ⟨rfl, HB7⟩

set_option maxRecDepth 100000 in
set_option maxHeartbeats 4000000 in
theorem cellBack_1011 (c s : ByteArray) (hc : c.size ≤ 2000) (hs : s.size ≤ 2000) (hA : printOK c) (hB : parseE s = 2) (hC : badAt signB c = c.size) (hD : badAt fromB s = s.size) (w : World) :
    Calls Tryd.prog 5 #[.string c, .string s] w fun e w' => e = .returned (.bool true) ∧ Below w.heap.size w w' := by
  have hc2 : c.size ≤ 70000 := by omega
  have hs2 : s.size ≤ 70000 := by omega
  have z1 : (printV c).size ≤ 70000 := Nat.le_trans (printV_size c) (by decide)
  have z2 : (parseV s).size ≤ 70000 := Nat.le_trans (parseV_size s) (by decide)
  have z3 : (signsV c).size ≤ 70000 := Nat.le_trans (signsV_size c) hc2
  have z4 : (cellsV s).size ≤ 70000 := Nat.le_trans (cellsV_size s) hs2
  have A0 := Lib.hid (show printE c = 0 by unfold printE; rw [if_pos hA])
  have A1 := Lib.hid (print_there c hA)
  have B0 := Lib.hid hB
  have C0 := Lib.hid (show signsE c = 0 by unfold signsE; rw [if_pos hC])
  have C2 := Lib.hid (show signsV c = mapS signR c by unfold signsV; rw [if_pos hC])
  have C1 := Lib.hid (C2.out ▸ signs_there c hC : cellsV (signsV c) = c ∧ cellsAt (signsV c) = 0 ∧ cellsE (signsV c) = 0)
  have D0 := Lib.hid (show cellsE s = 0 by unfold cellsE; rw [if_pos hD])
  have D2 := Lib.hid (show cellsV s = mapS fromR s by unfold cellsV; rw [if_pos hD])
  have D1 := Lib.hid (D2.out ▸ cells_there s hD : signsV (cellsV s) = s ∧ signsE (cellsV s) = 0)
  have HB0 : Below w.heap.size w w := Below.refl _ _
  clear hA hB hC hD
  go_enter Tryd.func5, Tryd.ntmps5
  go_wp2_with fail
  refine (print_lit c _ hc2 0 rfl A0.out _).mono ?_
  rintro e w1 ⟨rfl, hb1⟩
  have HB1 := chain HB0 HB0.size hb1
  clear hb1 HB0
  go_wp2_with fail
  refine (parse_lit (printV c) c z1 0 0 A1.out.1 (nat0 A1.out.2.1) A1.out.2.2 _).mono ?_
  rintro e w2 ⟨rfl, hb2⟩
  have HB2 := chain HB1 HB1.size hb2
  clear hb2 HB1
  go_wp2_with fail
  refine (parse_lit s _ hs2 _ 2 rfl rfl B0.out _).mono ?_
  rintro e w3 ⟨rfl, hb3⟩
  have HB3 := chain HB2 HB2.size hb3
  clear hb3 HB2
  go_wp2_with fail
  refine (signs_lit c _ hc2 0 rfl C0.out _).mono ?_
  rintro e w4 ⟨rfl, hb4⟩
  have HB4 := chain HB3 HB3.size hb4
  clear hb4 HB3
  go_wp2_with fail
  refine (cells_lit (signsV c) c z3 0 0 C1.out.1 (nat0 C1.out.2.1) C1.out.2.2 _).mono ?_
  rintro e w5 ⟨rfl, hb5⟩
  have HB5 := chain HB4 HB4.size hb5
  clear hb5 HB4
  go_wp2_with fail
  refine (cells_lit s _ hs2 _ 0 rfl rfl D0.out _).mono ?_
  rintro e w6 ⟨rfl, hb6⟩
  have HB6 := chain HB5 HB5.size hb6
  clear hb6 HB5
  go_wp2_with fail
  refine (signs_lit (cellsV s) s z4 0 D1.out.1 D1.out.2 _).mono ?_
  rintro e w7 ⟨rfl, hb7⟩
  have HB7 := chain HB6 HB6.size hb7
  clear hb7 HB6
  go_wp2_with fail
  refine (awake_any _).mono ?_
  rintro e w8 ⟨rfl, hb8⟩
  have HB8 := chain HB7 HB7.size hb8
  clear hb8 HB7
  go_wp2
  go_ret
  exact ⟨rfl, HB8⟩

set_option maxRecDepth 100000 in
set_option maxHeartbeats 4000000 in
theorem cellBack_1010 (c s : ByteArray) (hc : c.size ≤ 2000) (hs : s.size ≤ 2000) (hA : printOK c) (hB : parseE s = 2) (hC : badAt signB c = c.size) (hD : cellsE s = 2) (w : World) :
    Calls Tryd.prog 5 #[.string c, .string s] w fun e w' => e = .returned (.bool true) ∧ Below w.heap.size w w' := by
  have hc2 : c.size ≤ 70000 := by omega
  have hs2 : s.size ≤ 70000 := by omega
  have z1 : (printV c).size ≤ 70000 := Nat.le_trans (printV_size c) (by decide)
  have z2 : (parseV s).size ≤ 70000 := Nat.le_trans (parseV_size s) (by decide)
  have z3 : (signsV c).size ≤ 70000 := Nat.le_trans (signsV_size c) hc2
  have z4 : (cellsV s).size ≤ 70000 := Nat.le_trans (cellsV_size s) hs2
  have A0 := Lib.hid (show printE c = 0 by unfold printE; rw [if_pos hA])
  have A1 := Lib.hid (print_there c hA)
  have B0 := Lib.hid hB
  have C0 := Lib.hid (show signsE c = 0 by unfold signsE; rw [if_pos hC])
  have C2 := Lib.hid (show signsV c = mapS signR c by unfold signsV; rw [if_pos hC])
  have C1 := Lib.hid (C2.out ▸ signs_there c hC : cellsV (signsV c) = c ∧ cellsAt (signsV c) = 0 ∧ cellsE (signsV c) = 0)
  have D0 := Lib.hid hD
  have HB0 : Below w.heap.size w w := Below.refl _ _
  clear hA hB hC hD
  go_enter Tryd.func5, Tryd.ntmps5
  go_wp2_with fail
  refine (print_lit c _ hc2 0 rfl A0.out _).mono ?_
  rintro e w1 ⟨rfl, hb1⟩
  have HB1 := chain HB0 HB0.size hb1
  clear hb1 HB0
  go_wp2_with fail
  refine (parse_lit (printV c) c z1 0 0 A1.out.1 (nat0 A1.out.2.1) A1.out.2.2 _).mono ?_
  rintro e w2 ⟨rfl, hb2⟩
  have HB2 := chain HB1 HB1.size hb2
  clear hb2 HB1
  go_wp2_with fail
  refine (parse_lit s _ hs2 _ 2 rfl rfl B0.out _).mono ?_
  rintro e w3 ⟨rfl, hb3⟩
  have HB3 := chain HB2 HB2.size hb3
  clear hb3 HB2
  go_wp2_with fail
  refine (signs_lit c _ hc2 0 rfl C0.out _).mono ?_
  rintro e w4 ⟨rfl, hb4⟩
  have HB4 := chain HB3 HB3.size hb4
  clear hb4 HB3
  go_wp2_with fail
  refine (cells_lit (signsV c) c z3 0 0 C1.out.1 (nat0 C1.out.2.1) C1.out.2.2 _).mono ?_
  rintro e w5 ⟨rfl, hb5⟩
  have HB5 := chain HB4 HB4.size hb5
  clear hb5 HB4
  go_wp2_with fail
  refine (cells_lit s _ hs2 _ 2 rfl rfl D0.out _).mono ?_
  rintro e w6 ⟨rfl, hb6⟩
  have HB6 := chain HB5 HB5.size hb6
  clear hb6 HB5
  go_wp2_with fail
  refine (awake_any _).mono ?_
  rintro e w7 ⟨rfl, hb7⟩
  have HB7 := chain HB6 HB6.size hb7
  clear hb7 HB6
  go_wp2
  go_ret
  exact ⟨rfl, HB7⟩

set_option maxRecDepth 100000 in
set_option maxHeartbeats 4000000 in
theorem cellBack_1001 (c s : ByteArray) (hc : c.size ≤ 2000) (hs : s.size ≤ 2000) (hA : printOK c) (hB : parseE s = 2) (hC : signsE c = 1) (hD : badAt fromB s = s.size) (w : World) :
    Calls Tryd.prog 5 #[.string c, .string s] w fun e w' => e = .returned (.bool true) ∧ Below w.heap.size w w' := by
  have hc2 : c.size ≤ 70000 := by omega
  have hs2 : s.size ≤ 70000 := by omega
  have z1 : (printV c).size ≤ 70000 := Nat.le_trans (printV_size c) (by decide)
  have z2 : (parseV s).size ≤ 70000 := Nat.le_trans (parseV_size s) (by decide)
  have z3 : (signsV c).size ≤ 70000 := Nat.le_trans (signsV_size c) hc2
  have z4 : (cellsV s).size ≤ 70000 := Nat.le_trans (cellsV_size s) hs2
  have A0 := Lib.hid (show printE c = 0 by unfold printE; rw [if_pos hA])
  have A1 := Lib.hid (print_there c hA)
  have B0 := Lib.hid hB
  have C0 := Lib.hid hC
  have D0 := Lib.hid (show cellsE s = 0 by unfold cellsE; rw [if_pos hD])
  have D2 := Lib.hid (show cellsV s = mapS fromR s by unfold cellsV; rw [if_pos hD])
  have D1 := Lib.hid (D2.out ▸ cells_there s hD : signsV (cellsV s) = s ∧ signsE (cellsV s) = 0)
  have HB0 : Below w.heap.size w w := Below.refl _ _
  clear hA hB hC hD
  go_enter Tryd.func5, Tryd.ntmps5
  go_wp2_with fail
  refine (print_lit c _ hc2 0 rfl A0.out _).mono ?_
  rintro e w1 ⟨rfl, hb1⟩
  have HB1 := chain HB0 HB0.size hb1
  clear hb1 HB0
  go_wp2_with fail
  refine (parse_lit (printV c) c z1 0 0 A1.out.1 (nat0 A1.out.2.1) A1.out.2.2 _).mono ?_
  rintro e w2 ⟨rfl, hb2⟩
  have HB2 := chain HB1 HB1.size hb2
  clear hb2 HB1
  go_wp2_with fail
  refine (parse_lit s _ hs2 _ 2 rfl rfl B0.out _).mono ?_
  rintro e w3 ⟨rfl, hb3⟩
  have HB3 := chain HB2 HB2.size hb3
  clear hb3 HB2
  go_wp2_with fail
  refine (signs_lit c _ hc2 1 rfl C0.out _).mono ?_
  rintro e w4 ⟨rfl, hb4⟩
  have HB4 := chain HB3 HB3.size hb4
  clear hb4 HB3
  go_wp2_with fail
  refine (cells_lit s _ hs2 _ 0 rfl rfl D0.out _).mono ?_
  rintro e w5 ⟨rfl, hb5⟩
  have HB5 := chain HB4 HB4.size hb5
  clear hb5 HB4
  go_wp2_with fail
  refine (signs_lit (cellsV s) s z4 0 D1.out.1 D1.out.2 _).mono ?_
  rintro e w6 ⟨rfl, hb6⟩
  have HB6 := chain HB5 HB5.size hb6
  clear hb6 HB5
  go_wp2_with fail
  refine (awake_any _).mono ?_
  rintro e w7 ⟨rfl, hb7⟩
  have HB7 := chain HB6 HB6.size hb7
  clear hb7 HB6
  go_wp2
  go_ret
  exact ⟨rfl, HB7⟩

set_option maxRecDepth 100000 in
set_option maxHeartbeats 4000000 in
theorem cellBack_1000 (c s : ByteArray) (hc : c.size ≤ 2000) (hs : s.size ≤ 2000) (hA : printOK c) (hB : parseE s = 2) (hC : signsE c = 1) (hD : cellsE s = 2) (w : World) :
    Calls Tryd.prog 5 #[.string c, .string s] w fun e w' => e = .returned (.bool true) ∧ Below w.heap.size w w' := by
  have hc2 : c.size ≤ 70000 := by omega
  have hs2 : s.size ≤ 70000 := by omega
  have z1 : (printV c).size ≤ 70000 := Nat.le_trans (printV_size c) (by decide)
  have z2 : (parseV s).size ≤ 70000 := Nat.le_trans (parseV_size s) (by decide)
  have z3 : (signsV c).size ≤ 70000 := Nat.le_trans (signsV_size c) hc2
  have z4 : (cellsV s).size ≤ 70000 := Nat.le_trans (cellsV_size s) hs2
  have A0 := Lib.hid (show printE c = 0 by unfold printE; rw [if_pos hA])
  have A1 := Lib.hid (print_there c hA)
  have B0 := Lib.hid hB
  have C0 := Lib.hid hC
  have D0 := Lib.hid hD
  have HB0 : Below w.heap.size w w := Below.refl _ _
  clear hA hB hC hD
  go_enter Tryd.func5, Tryd.ntmps5
  go_wp2_with fail
  refine (print_lit c _ hc2 0 rfl A0.out _).mono ?_
  rintro e w1 ⟨rfl, hb1⟩
  have HB1 := chain HB0 HB0.size hb1
  clear hb1 HB0
  go_wp2_with fail
  refine (parse_lit (printV c) c z1 0 0 A1.out.1 (nat0 A1.out.2.1) A1.out.2.2 _).mono ?_
  rintro e w2 ⟨rfl, hb2⟩
  have HB2 := chain HB1 HB1.size hb2
  clear hb2 HB1
  go_wp2_with fail
  refine (parse_lit s _ hs2 _ 2 rfl rfl B0.out _).mono ?_
  rintro e w3 ⟨rfl, hb3⟩
  have HB3 := chain HB2 HB2.size hb3
  clear hb3 HB2
  go_wp2_with fail
  refine (signs_lit c _ hc2 1 rfl C0.out _).mono ?_
  rintro e w4 ⟨rfl, hb4⟩
  have HB4 := chain HB3 HB3.size hb4
  clear hb4 HB3
  go_wp2_with fail
  refine (cells_lit s _ hs2 _ 2 rfl rfl D0.out _).mono ?_
  rintro e w5 ⟨rfl, hb5⟩
  have HB5 := chain HB4 HB4.size hb5
  clear hb5 HB4
  go_wp2_with fail
  refine (awake_any _).mono ?_
  rintro e w6 ⟨rfl, hb6⟩
  have HB6 := chain HB5 HB5.size hb6
  clear hb6 HB5
  go_wp2
  go_ret
  exact ⟨rfl, HB6⟩

set_option maxRecDepth 100000 in
set_option maxHeartbeats 4000000 in
theorem cellBack_0111 (c s : ByteArray) (hc : c.size ≤ 2000) (hs : s.size ≤ 2000) (hA : printE c = 1) (hB : parseE s = 0) (hC : badAt signB c = c.size) (hD : badAt fromB s = s.size) (w : World) :
    Calls Tryd.prog 5 #[.string c, .string s] w fun e w' => e = .returned (.bool true) ∧ Below w.heap.size w w' := by
  have hc2 : c.size ≤ 70000 := by omega
  have hs2 : s.size ≤ 70000 := by omega
  have z1 : (printV c).size ≤ 70000 := Nat.le_trans (printV_size c) (by decide)
  have z2 : (parseV s).size ≤ 70000 := Nat.le_trans (parseV_size s) (by decide)
  have z3 : (signsV c).size ≤ 70000 := Nat.le_trans (signsV_size c) hc2
  have z4 : (cellsV s).size ≤ 70000 := Nat.le_trans (cellsV_size s) hs2
  have A0 := Lib.hid hA
  have B0 := Lib.hid hB
  have B1 := Lib.hid (parse_there s hB)
  have C0 := Lib.hid (show signsE c = 0 by unfold signsE; rw [if_pos hC])
  have C2 := Lib.hid (show signsV c = mapS signR c by unfold signsV; rw [if_pos hC])
  have C1 := Lib.hid (C2.out ▸ signs_there c hC : cellsV (signsV c) = c ∧ cellsAt (signsV c) = 0 ∧ cellsE (signsV c) = 0)
  have D0 := Lib.hid (show cellsE s = 0 by unfold cellsE; rw [if_pos hD])
  have D2 := Lib.hid (show cellsV s = mapS fromR s by unfold cellsV; rw [if_pos hD])
  have D1 := Lib.hid (D2.out ▸ cells_there s hD : signsV (cellsV s) = s ∧ signsE (cellsV s) = 0)
  have HB0 : Below w.heap.size w w := Below.refl _ _
  clear hA hB hC hD
  go_enter Tryd.func5, Tryd.ntmps5
  go_wp2_with fail
  refine (print_lit c _ hc2 1 rfl A0.out _).mono ?_
  rintro e w1 ⟨rfl, hb1⟩
  have HB1 := chain HB0 HB0.size hb1
  clear hb1 HB0
  go_wp2_with fail
  refine (parse_lit s _ hs2 _ 0 rfl rfl B0.out _).mono ?_
  rintro e w2 ⟨rfl, hb2⟩
  have HB2 := chain HB1 HB1.size hb2
  clear hb2 HB1
  go_wp2_with fail
  refine (print_lit (parseV s) s z2 0 B1.out.1 B1.out.2 _).mono ?_
  rintro e w3 ⟨rfl, hb3⟩
  have HB3 := chain HB2 HB2.size hb3
  clear hb3 HB2
  go_wp2_with fail
  refine (signs_lit c _ hc2 0 rfl C0.out _).mono ?_
  rintro e w4 ⟨rfl, hb4⟩
  have HB4 := chain HB3 HB3.size hb4
  clear hb4 HB3
  go_wp2_with fail
  refine (cells_lit (signsV c) c z3 0 0 C1.out.1 (nat0 C1.out.2.1) C1.out.2.2 _).mono ?_
  rintro e w5 ⟨rfl, hb5⟩
  have HB5 := chain HB4 HB4.size hb5
  clear hb5 HB4
  go_wp2_with fail
  refine (cells_lit s _ hs2 _ 0 rfl rfl D0.out _).mono ?_
  rintro e w6 ⟨rfl, hb6⟩
  have HB6 := chain HB5 HB5.size hb6
  clear hb6 HB5
  go_wp2_with fail
  refine (signs_lit (cellsV s) s z4 0 D1.out.1 D1.out.2 _).mono ?_
  rintro e w7 ⟨rfl, hb7⟩
  have HB7 := chain HB6 HB6.size hb7
  clear hb7 HB6
  go_wp2_with fail
  refine (awake_any _).mono ?_
  rintro e w8 ⟨rfl, hb8⟩
  have HB8 := chain HB7 HB7.size hb8
  clear hb8 HB7
  go_wp2
  go_ret
  exact ⟨rfl, HB8⟩

set_option maxRecDepth 100000 in
set_option maxHeartbeats 4000000 in
theorem cellBack_0110 (c s : ByteArray) (hc : c.size ≤ 2000) (hs : s.size ≤ 2000) (hA : printE c = 1) (hB : parseE s = 0) (hC : badAt signB c = c.size) (hD : cellsE s = 2) (w : World) :
    Calls Tryd.prog 5 #[.string c, .string s] w fun e w' => e = .returned (.bool true) ∧ Below w.heap.size w w' := by
  have hc2 : c.size ≤ 70000 := by omega
  have hs2 : s.size ≤ 70000 := by omega
  have z1 : (printV c).size ≤ 70000 := Nat.le_trans (printV_size c) (by decide)
  have z2 : (parseV s).size ≤ 70000 := Nat.le_trans (parseV_size s) (by decide)
  have z3 : (signsV c).size ≤ 70000 := Nat.le_trans (signsV_size c) hc2
  have z4 : (cellsV s).size ≤ 70000 := Nat.le_trans (cellsV_size s) hs2
  have A0 := Lib.hid hA
  have B0 := Lib.hid hB
  have B1 := Lib.hid (parse_there s hB)
  have C0 := Lib.hid (show signsE c = 0 by unfold signsE; rw [if_pos hC])
  have C2 := Lib.hid (show signsV c = mapS signR c by unfold signsV; rw [if_pos hC])
  have C1 := Lib.hid (C2.out ▸ signs_there c hC : cellsV (signsV c) = c ∧ cellsAt (signsV c) = 0 ∧ cellsE (signsV c) = 0)
  have D0 := Lib.hid hD
  have HB0 : Below w.heap.size w w := Below.refl _ _
  clear hA hB hC hD
  go_enter Tryd.func5, Tryd.ntmps5
  go_wp2_with fail
  refine (print_lit c _ hc2 1 rfl A0.out _).mono ?_
  rintro e w1 ⟨rfl, hb1⟩
  have HB1 := chain HB0 HB0.size hb1
  clear hb1 HB0
  go_wp2_with fail
  refine (parse_lit s _ hs2 _ 0 rfl rfl B0.out _).mono ?_
  rintro e w2 ⟨rfl, hb2⟩
  have HB2 := chain HB1 HB1.size hb2
  clear hb2 HB1
  go_wp2_with fail
  refine (print_lit (parseV s) s z2 0 B1.out.1 B1.out.2 _).mono ?_
  rintro e w3 ⟨rfl, hb3⟩
  have HB3 := chain HB2 HB2.size hb3
  clear hb3 HB2
  go_wp2_with fail
  refine (signs_lit c _ hc2 0 rfl C0.out _).mono ?_
  rintro e w4 ⟨rfl, hb4⟩
  have HB4 := chain HB3 HB3.size hb4
  clear hb4 HB3
  go_wp2_with fail
  refine (cells_lit (signsV c) c z3 0 0 C1.out.1 (nat0 C1.out.2.1) C1.out.2.2 _).mono ?_
  rintro e w5 ⟨rfl, hb5⟩
  have HB5 := chain HB4 HB4.size hb5
  clear hb5 HB4
  go_wp2_with fail
  refine (cells_lit s _ hs2 _ 2 rfl rfl D0.out _).mono ?_
  rintro e w6 ⟨rfl, hb6⟩
  have HB6 := chain HB5 HB5.size hb6
  clear hb6 HB5
  go_wp2_with fail
  refine (awake_any _).mono ?_
  rintro e w7 ⟨rfl, hb7⟩
  have HB7 := chain HB6 HB6.size hb7
  clear hb7 HB6
  go_wp2
  go_ret
  exact ⟨rfl, HB7⟩

set_option maxRecDepth 100000 in
set_option maxHeartbeats 4000000 in
theorem cellBack_0101 (c s : ByteArray) (hc : c.size ≤ 2000) (hs : s.size ≤ 2000) (hA : printE c = 1) (hB : parseE s = 0) (hC : signsE c = 1) (hD : badAt fromB s = s.size) (w : World) :
    Calls Tryd.prog 5 #[.string c, .string s] w fun e w' => e = .returned (.bool true) ∧ Below w.heap.size w w' := by
  have hc2 : c.size ≤ 70000 := by omega
  have hs2 : s.size ≤ 70000 := by omega
  have z1 : (printV c).size ≤ 70000 := Nat.le_trans (printV_size c) (by decide)
  have z2 : (parseV s).size ≤ 70000 := Nat.le_trans (parseV_size s) (by decide)
  have z3 : (signsV c).size ≤ 70000 := Nat.le_trans (signsV_size c) hc2
  have z4 : (cellsV s).size ≤ 70000 := Nat.le_trans (cellsV_size s) hs2
  have A0 := Lib.hid hA
  have B0 := Lib.hid hB
  have B1 := Lib.hid (parse_there s hB)
  have C0 := Lib.hid hC
  have D0 := Lib.hid (show cellsE s = 0 by unfold cellsE; rw [if_pos hD])
  have D2 := Lib.hid (show cellsV s = mapS fromR s by unfold cellsV; rw [if_pos hD])
  have D1 := Lib.hid (D2.out ▸ cells_there s hD : signsV (cellsV s) = s ∧ signsE (cellsV s) = 0)
  have HB0 : Below w.heap.size w w := Below.refl _ _
  clear hA hB hC hD
  go_enter Tryd.func5, Tryd.ntmps5
  go_wp2_with fail
  refine (print_lit c _ hc2 1 rfl A0.out _).mono ?_
  rintro e w1 ⟨rfl, hb1⟩
  have HB1 := chain HB0 HB0.size hb1
  clear hb1 HB0
  go_wp2_with fail
  refine (parse_lit s _ hs2 _ 0 rfl rfl B0.out _).mono ?_
  rintro e w2 ⟨rfl, hb2⟩
  have HB2 := chain HB1 HB1.size hb2
  clear hb2 HB1
  go_wp2_with fail
  refine (print_lit (parseV s) s z2 0 B1.out.1 B1.out.2 _).mono ?_
  rintro e w3 ⟨rfl, hb3⟩
  have HB3 := chain HB2 HB2.size hb3
  clear hb3 HB2
  go_wp2_with fail
  refine (signs_lit c _ hc2 1 rfl C0.out _).mono ?_
  rintro e w4 ⟨rfl, hb4⟩
  have HB4 := chain HB3 HB3.size hb4
  clear hb4 HB3
  go_wp2_with fail
  refine (cells_lit s _ hs2 _ 0 rfl rfl D0.out _).mono ?_
  rintro e w5 ⟨rfl, hb5⟩
  have HB5 := chain HB4 HB4.size hb5
  clear hb5 HB4
  go_wp2_with fail
  refine (signs_lit (cellsV s) s z4 0 D1.out.1 D1.out.2 _).mono ?_
  rintro e w6 ⟨rfl, hb6⟩
  have HB6 := chain HB5 HB5.size hb6
  clear hb6 HB5
  go_wp2_with fail
  refine (awake_any _).mono ?_
  rintro e w7 ⟨rfl, hb7⟩
  have HB7 := chain HB6 HB6.size hb7
  clear hb7 HB6
  go_wp2
  go_ret
  exact ⟨rfl, HB7⟩

set_option maxRecDepth 100000 in
set_option maxHeartbeats 4000000 in
theorem cellBack_0100 (c s : ByteArray) (hc : c.size ≤ 2000) (hs : s.size ≤ 2000) (hA : printE c = 1) (hB : parseE s = 0) (hC : signsE c = 1) (hD : cellsE s = 2) (w : World) :
    Calls Tryd.prog 5 #[.string c, .string s] w fun e w' => e = .returned (.bool true) ∧ Below w.heap.size w w' := by
  have hc2 : c.size ≤ 70000 := by omega
  have hs2 : s.size ≤ 70000 := by omega
  have z1 : (printV c).size ≤ 70000 := Nat.le_trans (printV_size c) (by decide)
  have z2 : (parseV s).size ≤ 70000 := Nat.le_trans (parseV_size s) (by decide)
  have z3 : (signsV c).size ≤ 70000 := Nat.le_trans (signsV_size c) hc2
  have z4 : (cellsV s).size ≤ 70000 := Nat.le_trans (cellsV_size s) hs2
  have A0 := Lib.hid hA
  have B0 := Lib.hid hB
  have B1 := Lib.hid (parse_there s hB)
  have C0 := Lib.hid hC
  have D0 := Lib.hid hD
  have HB0 : Below w.heap.size w w := Below.refl _ _
  clear hA hB hC hD
  go_enter Tryd.func5, Tryd.ntmps5
  go_wp2_with fail
  refine (print_lit c _ hc2 1 rfl A0.out _).mono ?_
  rintro e w1 ⟨rfl, hb1⟩
  have HB1 := chain HB0 HB0.size hb1
  clear hb1 HB0
  go_wp2_with fail
  refine (parse_lit s _ hs2 _ 0 rfl rfl B0.out _).mono ?_
  rintro e w2 ⟨rfl, hb2⟩
  have HB2 := chain HB1 HB1.size hb2
  clear hb2 HB1
  go_wp2_with fail
  refine (print_lit (parseV s) s z2 0 B1.out.1 B1.out.2 _).mono ?_
  rintro e w3 ⟨rfl, hb3⟩
  have HB3 := chain HB2 HB2.size hb3
  clear hb3 HB2
  go_wp2_with fail
  refine (signs_lit c _ hc2 1 rfl C0.out _).mono ?_
  rintro e w4 ⟨rfl, hb4⟩
  have HB4 := chain HB3 HB3.size hb4
  clear hb4 HB3
  go_wp2_with fail
  refine (cells_lit s _ hs2 _ 2 rfl rfl D0.out _).mono ?_
  rintro e w5 ⟨rfl, hb5⟩
  have HB5 := chain HB4 HB4.size hb5
  clear hb5 HB4
  go_wp2_with fail
  refine (awake_any _).mono ?_
  rintro e w6 ⟨rfl, hb6⟩
  have HB6 := chain HB5 HB5.size hb6
  clear hb6 HB5
  go_wp2
  go_ret
  exact ⟨rfl, HB6⟩

set_option maxRecDepth 100000 in
set_option maxHeartbeats 4000000 in
theorem cellBack_0011 (c s : ByteArray) (hc : c.size ≤ 2000) (hs : s.size ≤ 2000) (hA : printE c = 1) (hB : parseE s = 2) (hC : badAt signB c = c.size) (hD : badAt fromB s = s.size) (w : World) :
    Calls Tryd.prog 5 #[.string c, .string s] w fun e w' => e = .returned (.bool true) ∧ Below w.heap.size w w' := by
  have hc2 : c.size ≤ 70000 := by omega
  have hs2 : s.size ≤ 70000 := by omega
  have z1 : (printV c).size ≤ 70000 := Nat.le_trans (printV_size c) (by decide)
  have z2 : (parseV s).size ≤ 70000 := Nat.le_trans (parseV_size s) (by decide)
  have z3 : (signsV c).size ≤ 70000 := Nat.le_trans (signsV_size c) hc2
  have z4 : (cellsV s).size ≤ 70000 := Nat.le_trans (cellsV_size s) hs2
  have A0 := Lib.hid hA
  have B0 := Lib.hid hB
  have C0 := Lib.hid (show signsE c = 0 by unfold signsE; rw [if_pos hC])
  have C2 := Lib.hid (show signsV c = mapS signR c by unfold signsV; rw [if_pos hC])
  have C1 := Lib.hid (C2.out ▸ signs_there c hC : cellsV (signsV c) = c ∧ cellsAt (signsV c) = 0 ∧ cellsE (signsV c) = 0)
  have D0 := Lib.hid (show cellsE s = 0 by unfold cellsE; rw [if_pos hD])
  have D2 := Lib.hid (show cellsV s = mapS fromR s by unfold cellsV; rw [if_pos hD])
  have D1 := Lib.hid (D2.out ▸ cells_there s hD : signsV (cellsV s) = s ∧ signsE (cellsV s) = 0)
  have HB0 : Below w.heap.size w w := Below.refl _ _
  clear hA hB hC hD
  go_enter Tryd.func5, Tryd.ntmps5
  go_wp2_with fail
  refine (print_lit c _ hc2 1 rfl A0.out _).mono ?_
  rintro e w1 ⟨rfl, hb1⟩
  have HB1 := chain HB0 HB0.size hb1
  clear hb1 HB0
  go_wp2_with fail
  refine (parse_lit s _ hs2 _ 2 rfl rfl B0.out _).mono ?_
  rintro e w2 ⟨rfl, hb2⟩
  have HB2 := chain HB1 HB1.size hb2
  clear hb2 HB1
  go_wp2_with fail
  refine (signs_lit c _ hc2 0 rfl C0.out _).mono ?_
  rintro e w3 ⟨rfl, hb3⟩
  have HB3 := chain HB2 HB2.size hb3
  clear hb3 HB2
  go_wp2_with fail
  refine (cells_lit (signsV c) c z3 0 0 C1.out.1 (nat0 C1.out.2.1) C1.out.2.2 _).mono ?_
  rintro e w4 ⟨rfl, hb4⟩
  have HB4 := chain HB3 HB3.size hb4
  clear hb4 HB3
  go_wp2_with fail
  refine (cells_lit s _ hs2 _ 0 rfl rfl D0.out _).mono ?_
  rintro e w5 ⟨rfl, hb5⟩
  have HB5 := chain HB4 HB4.size hb5
  clear hb5 HB4
  go_wp2_with fail
  refine (signs_lit (cellsV s) s z4 0 D1.out.1 D1.out.2 _).mono ?_
  rintro e w6 ⟨rfl, hb6⟩
  have HB6 := chain HB5 HB5.size hb6
  clear hb6 HB5
  go_wp2_with fail
  refine (awake_any _).mono ?_
  rintro e w7 ⟨rfl, hb7⟩
  have HB7 := chain HB6 HB6.size hb7
  clear hb7 HB6
  go_wp2
  go_ret
  exact ⟨rfl, HB7⟩

set_option maxRecDepth 100000 in
set_option maxHeartbeats 4000000 in
theorem cellBack_0010 (c s : ByteArray) (hc : c.size ≤ 2000) (hs : s.size ≤ 2000) (hA : printE c = 1) (hB : parseE s = 2) (hC : badAt signB c = c.size) (hD : cellsE s = 2) (w : World) :
    Calls Tryd.prog 5 #[.string c, .string s] w fun e w' => e = .returned (.bool true) ∧ Below w.heap.size w w' := by
  have hc2 : c.size ≤ 70000 := by omega
  have hs2 : s.size ≤ 70000 := by omega
  have z1 : (printV c).size ≤ 70000 := Nat.le_trans (printV_size c) (by decide)
  have z2 : (parseV s).size ≤ 70000 := Nat.le_trans (parseV_size s) (by decide)
  have z3 : (signsV c).size ≤ 70000 := Nat.le_trans (signsV_size c) hc2
  have z4 : (cellsV s).size ≤ 70000 := Nat.le_trans (cellsV_size s) hs2
  have A0 := Lib.hid hA
  have B0 := Lib.hid hB
  have C0 := Lib.hid (show signsE c = 0 by unfold signsE; rw [if_pos hC])
  have C2 := Lib.hid (show signsV c = mapS signR c by unfold signsV; rw [if_pos hC])
  have C1 := Lib.hid (C2.out ▸ signs_there c hC : cellsV (signsV c) = c ∧ cellsAt (signsV c) = 0 ∧ cellsE (signsV c) = 0)
  have D0 := Lib.hid hD
  have HB0 : Below w.heap.size w w := Below.refl _ _
  clear hA hB hC hD
  go_enter Tryd.func5, Tryd.ntmps5
  go_wp2_with fail
  refine (print_lit c _ hc2 1 rfl A0.out _).mono ?_
  rintro e w1 ⟨rfl, hb1⟩
  have HB1 := chain HB0 HB0.size hb1
  clear hb1 HB0
  go_wp2_with fail
  refine (parse_lit s _ hs2 _ 2 rfl rfl B0.out _).mono ?_
  rintro e w2 ⟨rfl, hb2⟩
  have HB2 := chain HB1 HB1.size hb2
  clear hb2 HB1
  go_wp2_with fail
  refine (signs_lit c _ hc2 0 rfl C0.out _).mono ?_
  rintro e w3 ⟨rfl, hb3⟩
  have HB3 := chain HB2 HB2.size hb3
  clear hb3 HB2
  go_wp2_with fail
  refine (cells_lit (signsV c) c z3 0 0 C1.out.1 (nat0 C1.out.2.1) C1.out.2.2 _).mono ?_
  rintro e w4 ⟨rfl, hb4⟩
  have HB4 := chain HB3 HB3.size hb4
  clear hb4 HB3
  go_wp2_with fail
  refine (cells_lit s _ hs2 _ 2 rfl rfl D0.out _).mono ?_
  rintro e w5 ⟨rfl, hb5⟩
  have HB5 := chain HB4 HB4.size hb5
  clear hb5 HB4
  go_wp2_with fail
  refine (awake_any _).mono ?_
  rintro e w6 ⟨rfl, hb6⟩
  have HB6 := chain HB5 HB5.size hb6
  clear hb6 HB5
  go_wp2
  go_ret
  exact ⟨rfl, HB6⟩

set_option maxRecDepth 100000 in
set_option maxHeartbeats 4000000 in
theorem cellBack_0001 (c s : ByteArray) (hc : c.size ≤ 2000) (hs : s.size ≤ 2000) (hA : printE c = 1) (hB : parseE s = 2) (hC : signsE c = 1) (hD : badAt fromB s = s.size) (w : World) :
    Calls Tryd.prog 5 #[.string c, .string s] w fun e w' => e = .returned (.bool true) ∧ Below w.heap.size w w' := by
  have hc2 : c.size ≤ 70000 := by omega
  have hs2 : s.size ≤ 70000 := by omega
  have z1 : (printV c).size ≤ 70000 := Nat.le_trans (printV_size c) (by decide)
  have z2 : (parseV s).size ≤ 70000 := Nat.le_trans (parseV_size s) (by decide)
  have z3 : (signsV c).size ≤ 70000 := Nat.le_trans (signsV_size c) hc2
  have z4 : (cellsV s).size ≤ 70000 := Nat.le_trans (cellsV_size s) hs2
  have A0 := Lib.hid hA
  have B0 := Lib.hid hB
  have C0 := Lib.hid hC
  have D0 := Lib.hid (show cellsE s = 0 by unfold cellsE; rw [if_pos hD])
  have D2 := Lib.hid (show cellsV s = mapS fromR s by unfold cellsV; rw [if_pos hD])
  have D1 := Lib.hid (D2.out ▸ cells_there s hD : signsV (cellsV s) = s ∧ signsE (cellsV s) = 0)
  have HB0 : Below w.heap.size w w := Below.refl _ _
  clear hA hB hC hD
  go_enter Tryd.func5, Tryd.ntmps5
  go_wp2_with fail
  refine (print_lit c _ hc2 1 rfl A0.out _).mono ?_
  rintro e w1 ⟨rfl, hb1⟩
  have HB1 := chain HB0 HB0.size hb1
  clear hb1 HB0
  go_wp2_with fail
  refine (parse_lit s _ hs2 _ 2 rfl rfl B0.out _).mono ?_
  rintro e w2 ⟨rfl, hb2⟩
  have HB2 := chain HB1 HB1.size hb2
  clear hb2 HB1
  go_wp2_with fail
  refine (signs_lit c _ hc2 1 rfl C0.out _).mono ?_
  rintro e w3 ⟨rfl, hb3⟩
  have HB3 := chain HB2 HB2.size hb3
  clear hb3 HB2
  go_wp2_with fail
  refine (cells_lit s _ hs2 _ 0 rfl rfl D0.out _).mono ?_
  rintro e w4 ⟨rfl, hb4⟩
  have HB4 := chain HB3 HB3.size hb4
  clear hb4 HB3
  go_wp2_with fail
  refine (signs_lit (cellsV s) s z4 0 D1.out.1 D1.out.2 _).mono ?_
  rintro e w5 ⟨rfl, hb5⟩
  have HB5 := chain HB4 HB4.size hb5
  clear hb5 HB4
  go_wp2_with fail
  refine (awake_any _).mono ?_
  rintro e w6 ⟨rfl, hb6⟩
  have HB6 := chain HB5 HB5.size hb6
  clear hb6 HB5
  go_wp2
  go_ret
  exact ⟨rfl, HB6⟩

set_option maxRecDepth 100000 in
set_option maxHeartbeats 4000000 in
theorem cellBack_0000 (c s : ByteArray) (hc : c.size ≤ 2000) (hs : s.size ≤ 2000) (hA : printE c = 1) (hB : parseE s = 2) (hC : signsE c = 1) (hD : cellsE s = 2) (w : World) :
    Calls Tryd.prog 5 #[.string c, .string s] w fun e w' => e = .returned (.bool true) ∧ Below w.heap.size w w' := by
  have hc2 : c.size ≤ 70000 := by omega
  have hs2 : s.size ≤ 70000 := by omega
  have z1 : (printV c).size ≤ 70000 := Nat.le_trans (printV_size c) (by decide)
  have z2 : (parseV s).size ≤ 70000 := Nat.le_trans (parseV_size s) (by decide)
  have z3 : (signsV c).size ≤ 70000 := Nat.le_trans (signsV_size c) hc2
  have z4 : (cellsV s).size ≤ 70000 := Nat.le_trans (cellsV_size s) hs2
  have A0 := Lib.hid hA
  have B0 := Lib.hid hB
  have C0 := Lib.hid hC
  have D0 := Lib.hid hD
  have HB0 : Below w.heap.size w w := Below.refl _ _
  clear hA hB hC hD
  go_enter Tryd.func5, Tryd.ntmps5
  go_wp2_with fail
  refine (print_lit c _ hc2 1 rfl A0.out _).mono ?_
  rintro e w1 ⟨rfl, hb1⟩
  have HB1 := chain HB0 HB0.size hb1
  clear hb1 HB0
  go_wp2_with fail
  refine (parse_lit s _ hs2 _ 2 rfl rfl B0.out _).mono ?_
  rintro e w2 ⟨rfl, hb2⟩
  have HB2 := chain HB1 HB1.size hb2
  clear hb2 HB1
  go_wp2_with fail
  refine (signs_lit c _ hc2 1 rfl C0.out _).mono ?_
  rintro e w3 ⟨rfl, hb3⟩
  have HB3 := chain HB2 HB2.size hb3
  clear hb3 HB2
  go_wp2_with fail
  refine (cells_lit s _ hs2 _ 2 rfl rfl D0.out _).mono ?_
  rintro e w4 ⟨rfl, hb4⟩
  have HB4 := chain HB3 HB3.size hb4
  clear hb4 HB3
  go_wp2_with fail
  refine (awake_any _).mono ?_
  rintro e w5 ⟨rfl, hb5⟩
  have HB5 := chain HB4 HB4.size hb5
  clear hb5 HB4
  go_wp2
  go_ret
  exact ⟨rfl, HB5⟩

theorem cellBack_long (s t : ByteArray) (h : 2000 < s.size ∨ 2000 < t.size) (hs : s.size ≤ maxLen) (ht : t.size ≤ maxLen) (w : World) :
    Calls Tryd.prog 5 #[.string s, .string t] w fun e w' => e = .returned (.bool true) ∧ Below w.heap.size w w' := by
  unfold maxLen at hs ht
  by_cases h1 : 2000 < s.size
  · clear h
    go_enter Tryd.func5, Tryd.ntmps5
    go_wp2_with (go_at_call 7; refine (awake_any _).mono ?_; rintro e w' ⟨rfl, hb⟩)
    go_ret
    exact ⟨rfl, hb⟩
  · have h2 := h.resolve_left h1
    have u3 : s.size ≤ 2000 := by omega
    clear h h1
    go_enter Tryd.func5, Tryd.ntmps5
    go_wp2_with (go_at_call 7; refine (awake_any _).mono ?_; rintro e w' ⟨rfl, hb⟩)
    go_ret
    exact ⟨rfl, hb⟩
theorem parseE_cases (s : ByteArray) : parseE s = 0 ∨ parseE s = 2 := (parse_cases s).elim (fun h => .inl h.1) (fun h => .inr h.1)

theorem cellBack_any (c : ByteArray) (hc : c.size ≤ maxLen) (s : ByteArray) (hs : s.size ≤ maxLen) (w : World) :
    Calls Tryd.prog 5 #[.string c, .string s] w fun e w' => e = .returned (.bool true) ∧ Below w.heap.size w w' := by
  by_cases h1 : c.size ≤ 2000
  · by_cases h2 : s.size ≤ 2000
    · rcases print_cases c with ⟨a, -⟩ | a <;> rcases parseE_cases s with b | b <;> rcases signs_cases c with ⟨d, -⟩ | d <;> rcases cells_cases s with ⟨e, -⟩ | e
      · exact cellBack_1111 c s h1 h2 a b d e w
      · exact cellBack_1110 c s h1 h2 a b d e w
      · exact cellBack_1101 c s h1 h2 a b d e w
      · exact cellBack_1100 c s h1 h2 a b d e w
      · exact cellBack_1011 c s h1 h2 a b d e w
      · exact cellBack_1010 c s h1 h2 a b d e w
      · exact cellBack_1001 c s h1 h2 a b d e w
      · exact cellBack_1000 c s h1 h2 a b d e w
      · exact cellBack_0111 c s h1 h2 a b d e w
      · exact cellBack_0110 c s h1 h2 a b d e w
      · exact cellBack_0101 c s h1 h2 a b d e w
      · exact cellBack_0100 c s h1 h2 a b d e w
      · exact cellBack_0011 c s h1 h2 a b d e w
      · exact cellBack_0010 c s h1 h2 a b d e w
      · exact cellBack_0001 c s h1 h2 a b d e w
      · exact cellBack_0000 c s h1 h2 a b d e w
    · exact cellBack_long c s (.inr (by omega)) hc hs w
  · exact cellBack_long c s (.inl (by omega)) hc hs w
end Go.Proofs.YtlnmacgbdienoaaDoor
