/-
  The calls of cell that look at one byte (bitOf, Sign, From), and the document's (weight, Table, Sign, From).
-/
import Derived.Test.YtlnmacgbdienoaaDoorCeM
import Derived.Test.YtlnmacgbdienoaaDoorShelf
namespace Go.Proofs.YtlnmacgbdienoaaDoor
open Go.RowKit

set_option maxHeartbeats 400000 in
/-- cell.bitOf -/
theorem bitOf_any (d : Int) (h0 : 0 ≤ d) (h1 : d < 2147483648) (w : World) :
    Calls Tryd.prog 30 #[.int .i32 d] w fun e w' => e = .returned (.int .u8 ((bitN d.toNat : Nat) : Int)) ∧ w = w' := by
  by_cases a : d < 49
  · have HR := Lib.hid (show (0 : Int) = ((bitN d.toNat : Nat) : Int) by unfold bitN; rw [if_neg (by omega)]; rfl)
    go_enter Tryd.func30, Tryd.ntmps30
    go_wp2
    go_ret
    exact ⟨ret_int HR.out, rfl⟩
  by_cases b : 54 < d
  · have HR := Lib.hid (show (0 : Int) = ((bitN d.toNat : Nat) : Int) by unfold bitN; rw [if_neg (by omega)]; rfl)
    have ha : decide (d < 49) = false := by simpa using a
    go_enter Tryd.func30, Tryd.ntmps30
    go_wp2
    go_ret
    exact ⟨ret_int HR.out, rfl⟩
  have hd : d = 49 ∨ d = 50 ∨ d = 51 ∨ d = 52 ∨ d = 53 ∨ d = 54 := by omega
  clear a b h0 h1
  rcases hd with rfl | rfl | rfl | rfl | rfl | rfl
  all_goals
    go_enter Tryd.func30, Tryd.ntmps30
    go_wp2
    go_ret
    exact ⟨rfl, rfl⟩

theorem bitOf_at (d : Int) (k : Nat) (h0 : 0 ≤ d) (h1 : d < 2147483648) (hk : bitN d.toNat = k) (w : World) :
    Calls Tryd.prog 30 #[.int .i32 d] w fun e w' => e = .returned (.int .u8 ((k : Nat) : Int)) ∧ w = w' := hk ▸ bitOf_any d h0 h1 w

set_option maxHeartbeats 400000 in
/-- cell.Sign -/
theorem sign_any (c : Nat) (_h : c < 256) (w : World) :
    Calls Tryd.prog 8 #[.int .u8 (c : Int)] w fun e w' => e = .returned (.tuple #[.int .u8 ((signR c : Nat) : Int), .bool (signB c)]) ∧ w = w' := by
  by_cases a : 63 < c
  · have HR := Lib.hid (show (0 : Int) = ((signR c : Nat) : Int) by unfold signR; rw [if_neg (by omega)]; rfl)
    have HB := Lib.hid (show false = signB c by unfold signB; simp; omega)
    go_enter Tryd.func8, Tryd.ntmps8
    go_wp2
    go_ret2
    exact ⟨ret_ib HR.out HB.out, rfl⟩
  · have hc : c < 64 := by omega
    have HR := Lib.hid (show (((signsS[c]'hc).toNat : Nat) : Int) = ((signR c : Nat) : Int) by unfold signR; rw [if_pos (by omega)]; exact signs_at ⟨c, hc⟩)
    have HB := Lib.hid (show true = signB c by unfold signB; simp; omega)
    have ha : decide (63 < (c : Int)) = false := by simp; omega
    go_enter Tryd.func8, Tryd.ntmps8
    go_wp2
    go_ret2
    exact ⟨ret_ib HR.out HB.out, rfl⟩

set_option maxHeartbeats 400000 in
/-- stylusref02.Table -/
theorem table_any (w : World) : Calls Tryd.prog 27 #[] w fun e w' => e = .returned (.string signsS) ∧ w = w' := by
  go_enter Tryd.func27, Tryd.ntmps27
  go_wp2
  go_ret
  exact ⟨rfl, rfl⟩

set_option maxHeartbeats 400000 in
/-- stylusref02.Sign -/
theorem rsign_any (c : Nat) (_h : c < 256) (w : World) :
    Calls Tryd.prog 9 #[.int .u8 (c : Int)] w fun e w' => e = .returned (.tuple #[.int .u8 ((signR c : Nat) : Int), .bool (signB c)]) ∧ w = w' := by
  by_cases a : 63 < c
  · have HR := Lib.hid (show (0 : Int) = ((signR c : Nat) : Int) by unfold signR; rw [if_neg (by omega)]; rfl)
    have HB := Lib.hid (show false = signB c by unfold signB; simp; omega)
    go_enter Tryd.func9, Tryd.ntmps9
    go_wp2
    go_ret2
    exact ⟨ret_ib HR.out HB.out, rfl⟩
  · have hc : c < 64 := by omega
    have hc' : c < signsS.size := hc
    have HR := Lib.hid (show (((signsS[c]'hc).toNat : Nat) : Int) = ((signR c : Nat) : Int) by unfold signR; rw [if_pos (by omega)]; exact signs_at ⟨c, hc⟩)
    have HB := Lib.hid (show true = signB c by unfold signB; simp; omega)
    have ha : decide (63 < (c : Int)) = false := by simp; omega
    go_enter Tryd.func9, Tryd.ntmps9
    go_wp2_with (go_at_call 27; refine (table_any _).mono ?_; rintro e w' ⟨rfl, rfl⟩)
    go_ret2
    exact ⟨ret_ib HR.out HB.out, rfl⟩
end Go.Proofs.YtlnmacgbdienoaaDoor
