/-
  cell.From, and the document's From and weight.
-/
import Derived.Test.YtlibmfflgpkjmaaGreatDoorCeA
namespace Go.Proofs.YtlibmfflgpkjmaaGreatDoor.Ce
open Go.RowKit

theorem indexByte_all : ∀ b : Fin 256, Lib.indexByte signsS.data.toList (((b.val : Nat) : Int).toNat.toUInt8) = if fromN b.val < 64 then ((fromN b.val : Nat) : Int) else -1 := by decide +kernel
theorem indexByte_yes (b : Nat) (h : b < 256) (hf : fromN b < 64) : Lib.indexByte signsS.data.toList ((b : Int).toNat.toUInt8) = ((fromN b : Nat) : Int) := by
  have := indexByte_all ⟨b, h⟩
  simp only [if_pos hf] at this
  exact this
theorem indexByte_no (b : Nat) (h : b < 256) (hf : ¬ fromN b < 64) : Lib.indexByte signsS.data.toList ((b : Int).toNat.toUInt8) = -1 := by
  have := indexByte_all ⟨b, h⟩
  simp only [if_neg hf] at this
  exact this



def powN (d : Nat) : Nat := 2 ^ (d - 1)
theorem powN_le (d : Nat) (h : d ≤ 6) : powN d ≤ 32 := by
  have : d = 0 ∨ d = 1 ∨ d = 2 ∨ d = 3 ∨ d = 4 ∨ d = 5 ∨ d = 6 := by omega
  rcases this with rfl | rfl | rfl | rfl | rfl | rfl | rfl <;> decide
theorem powN_succ (d : Nat) (h : 1 ≤ d) : powN (d + 1) = 2 * powN d := by
  unfold powN
  obtain ⟨e, rfl⟩ : ∃ e, d = e + 1 := ⟨d - 1, by omega⟩
  show 2 ^ (e + 1) = 2 * 2 ^ e
  rw [Nat.pow_succ, Nat.mul_comm]

set_option maxHeartbeats 1000000 in
/-- stylusref02.weight -/
theorem weight_any (d : Nat) (h1 : 1 ≤ d) (h6 : d ≤ 6) (w : World) :
    Calls Tryz.prog 85 #[.int .i64 (d : Int)] w fun e w' => e = .returned (.int .i64 ((powN d : Nat) : Int)) ∧ w = w' := by
  go_enter Tryz.func85, Tryz.ntmps85
  go_wp2
  go_loop [3, 4] (fun n i => ∃ k p : Nat, 1 ≤ k ∧ k ≤ d ∧ i = .int .i64 k ∧ n = .int .i64 p ∧ p ≤ 32 ∧ powN k = p) (fun _ i => d - (intOf i).toNat)
  case atStart => exact ⟨1, 1, by omega, by omega, rfl, rfl, by omega, rfl⟩
  case round =>
    obtain ⟨k, p, hk1, hk2, rfl, rfl, hp, hpk⟩ := hrel
    by_cases hlt : k < d
    · have HP := Lib.hid (show powN (k + 1) = 2 * p by rw [powN_succ k hk1, hpk])
      have hle := powN_le (k + 1) (by omega)
      have hp2 : 2 * p ≤ 32 := by have := HP.out; omega
      clear hle hpk
      go_wp2
      exact ⟨⟨k + 1, 2 * p, by omega, by omega, by go_num, by go_num, by omega, HP.out⟩, by simp [intOf]; omega⟩
    · obtain rfl : k = d := by omega
      have HP := Lib.hid hpk; clear hpk
      go_wp2
      go_ret
      exact ⟨ret_int (by rw [HP.out]), rfl⟩
end Go.Proofs.YtlibmfflgpkjmaaGreatDoor.Ce
