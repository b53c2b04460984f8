/-
  cell.From, and the document's From and weight.
-/
import Derived.Test.YtlnmacgbdienoaaDoorCeA
namespace Go.Proofs.YtlnmacgbdienoaaDoor
open Go.RowKit

theorem indexByte_all : ∀ b : Fin 256, Lib.indexByte signsS.data.toList (((b.val : Nat) : Int).toNat.toUInt8) = if fromN b.val < 64 then ((fromN b.val : Nat) : Int) else -1 := by decide +kernel
theorem indexByte_yes (b : Nat) (h : b < 256) (hf : fromN b < 64) : Lib.indexByte signsS.data.toList ((b : Int).toNat.toUInt8) = ((fromN b : Nat) : Int) := by
  have := indexByte_all ⟨b, h⟩
  simp only [if_pos hf] at this
  exact this
theorem indexByte_no (b : Nat) (h : b < 256) (hf : ¬ fromN b < 64) : Lib.indexByte signsS.data.toList ((b : Int).toNat.toUInt8) = -1 := by
  have := indexByte_all ⟨b, h⟩
  simp only [if_neg hf] at this
  exact this
theorem indexByte_at (b : Nat) (z : Int) (hz : Lib.indexByte signsS.data.toList ((b : Int).toNat.toUInt8) = z) (w : World) :
    Calls Tryd.prog 28 #[.string signsS, .int .u8 (b : Int)] w fun e w' => e = .returned (.int .i64 z) ∧ w = w' :=
  (Tryd.strings_IndexByte signsS b w).mono fun _ _ ⟨he, hw⟩ => ⟨by rw [he, hz], hw.symm⟩

set_option maxHeartbeats 400000 in
/-- cell.From -/
theorem from_any (b : Nat) (h : b < 256) (w : World) :
    Calls Tryd.prog 10 #[.int .u8 (b : Int)] w fun e w' => e = .returned (.tuple #[.int .u8 ((fromR b : Nat) : Int), .bool (fromB b)]) ∧ w = w' := by
  by_cases a : fromN b < 64
  · have HR := Lib.hid (show ((fromN b : Nat) : Int) = ((fromR b : Nat) : Int) by unfold fromR; rw [if_pos a])
    have HB := Lib.hid (show true = fromB b by unfold fromB; simp [a])
    have HI := Lib.hid (indexByte_yes b h a)
    go_enter Tryd.func10, Tryd.ntmps10
    go_wp2_with (go_at_call 28; refine (indexByte_at b _ HI.out _).mono ?_; rintro e w' ⟨rfl, rfl⟩)
    go_ret2
    exact ⟨ret_ib HR.out HB.out, rfl⟩
  · have HR := Lib.hid (show (0 : Int) = ((fromR b : Nat) : Int) by unfold fromR; rw [if_neg a]; rfl)
    have HB := Lib.hid (show false = fromB b by unfold fromB; simp; omega)
    have HI := Lib.hid (indexByte_no b h a)
    go_enter Tryd.func10, Tryd.ntmps10
    go_wp2_with (go_at_call 28; refine (indexByte_at b _ HI.out _).mono ?_; rintro e w' ⟨rfl, rfl⟩)
    go_ret2
    exact ⟨ret_ib HR.out HB.out, rfl⟩

set_option maxHeartbeats 1000000 in
/-- stylusref02.From -/
theorem rfrom_any (b : Nat) (_h : b < 256) (w : World) :
    Calls Tryd.prog 11 #[.int .u8 (b : Int)] w fun e w' => e = .returned (.tuple #[.int .u8 ((fromR b : Nat) : Int), .bool (fromB b)]) ∧ w = w' := by
  go_enter Tryd.func11, Tryd.ntmps11
  go_wp2_with (go_at_call 27; refine (table_any _).mono ?_; rintro e w' ⟨rfl, rfl⟩)
  go_loop [5] (fun i => ∃ k : Nat, k ≤ 64 ∧ i = .int .i64 k ∧ Past b k) (fun i => 64 - (intOf i).toNat)
  case atStart => exact ⟨0, by omega, rfl, Past.zero b⟩
  case round =>
    obtain ⟨k, hk, rfl, hp⟩ := hrel
    by_cases hlt : k < 64
    · have hs' : k < signsS.size := hlt
      have hm : (((signsS[k]'hs').toNat : Nat) : Int) = (signN k : Int) := signs_at ⟨k, hlt⟩
      by_cases hc : signN k = b
      · have hfb := past_at hp hlt hc
        have HR := Lib.hid (show (k : Int) = ((fromR b : Nat) : Int) by unfold fromR; rw [if_pos (by omega)]; omega)
        have HB := Lib.hid (show true = fromB b by unfold fromB; simp; omega)
        have hb : ((((signsS[k]'hs').toNat : Nat) : Int) == (b : Int)) = true := by rw [hm, hc]; simp
        clear hm hc hfb
        go_wp2
        go_ret2
        exact ⟨ret_ib HR.out HB.out, rfl⟩
      · have HP := Lib.hid (past_succ hp hlt hc)
        have hb : ((((signsS[k]'hs').toNat : Nat) : Int) == (b : Int)) = false := by rw [hm]; simp; omega
        clear hm hc
        go_wp2
        exact ⟨⟨k + 1, by omega, by go_num, HP.out⟩, by simp [intOf]; omega⟩
    · obtain rfl : k = 64 := by omega
      have hn := past_all hp
      have HR := Lib.hid (show (0 : Int) = ((fromR b : Nat) : Int) by unfold fromR; rw [if_neg hn]; rfl)
      have HB := Lib.hid (show false = fromB b by unfold fromB; simp; omega)
      clear hn
      go_wp2
      go_ret2
      exact ⟨ret_ib HR.out HB.out, rfl⟩

def powN (d : Nat) : Nat := 2 ^ (d - 1)
theorem powN_le (d : Nat) (h : d ≤ 6) : powN d ≤ 32 := by
  have : d = 0 ∨ d = 1 ∨ d = 2 ∨ d = 3 ∨ d = 4 ∨ d = 5 ∨ d = 6 := by omega
  rcases this with rfl | rfl | rfl | rfl | rfl | rfl | rfl <;> decide
theorem powN_succ (d : Nat) (h : 1 ≤ d) : powN (d + 1) = 2 * powN d := by
  unfold powN
  obtain ⟨e, rfl⟩ : ∃ e, d = e + 1 := ⟨d - 1, by omega⟩
  show 2 ^ (e + 1) = 2 * 2 ^ e
  rw [Nat.pow_succ, Nat.mul_comm]

set_option maxHeartbeats 1000000 in
/-- stylusref02.weight -/
theorem weight_any (d : Nat) (h1 : 1 ≤ d) (h6 : d ≤ 6) (w : World) :
    Calls Tryd.prog 29 #[.int .i64 (d : Int)] w fun e w' => e = .returned (.int .i64 ((powN d : Nat) : Int)) ∧ w = w' := by
  go_enter Tryd.func29, Tryd.ntmps29
  go_wp2
  go_loop [3, 4] (fun n i => ∃ k p : Nat, 1 ≤ k ∧ k ≤ d ∧ i = .int .i64 k ∧ n = .int .i64 p ∧ p ≤ 32 ∧ powN k = p) (fun _ i => d - (intOf i).toNat)
  case atStart => exact ⟨1, 1, by omega, by omega, rfl, rfl, by omega, rfl⟩
  case round =>
    obtain ⟨k, p, hk1, hk2, rfl, rfl, hp, hpk⟩ := hrel
    by_cases hlt : k < d
    · have HP := Lib.hid (show powN (k + 1) = 2 * p by rw [powN_succ k hk1, hpk])
      have hle := powN_le (k + 1) (by omega)
      have hp2 : 2 * p ≤ 32 := by have := HP.out; omega
      clear hle hpk
      go_wp2
      exact ⟨⟨k + 1, 2 * p, by omega, by omega, by go_num, by go_num, by omega, HP.out⟩, by simp [intOf]; omega⟩
    · obtain rfl : k = d := by omega
      have HP := Lib.hid hpk; clear hpk
      go_wp2
      go_ret
      exact ⟨ret_int (by rw [HP.out]), rfl⟩
end Go.Proofs.YtlnmacgbdienoaaDoor
