/-
  cell.From, and the document's From and weight.
-/
import Derived.Test.YtkhfingenjlpfaaDoorCeA
namespace Go.Proofs.YtkhfingenjlpfaaDoor.Ce
open Go.RowKit

theorem indexByte_all : ∀ b : Fin 256, Lib.indexByte signsS.data.toList (((b.val : Nat) : Int).toNat.toUInt8) = if fromN b.val < 64 then ((fromN b.val : Nat) : Int) else -1 := by decide +kernel
theorem indexByte_yes (b : Nat) (h : b < 256) (hf : fromN b < 64) : Lib.indexByte signsS.data.toList ((b : Int).toNat.toUInt8) = ((fromN b : Nat) : Int) := by
  have := indexByte_all ⟨b, h⟩
  simp only [if_pos hf] at this
  exact this
theorem indexByte_no (b : Nat) (h : b < 256) (hf : ¬ fromN b < 64) : Lib.indexByte signsS.data.toList ((b : Int).toNat.toUInt8) = -1 := by
  have := indexByte_all ⟨b, h⟩
  simp only [if_neg hf] at this
  exact this



def powN (d : Nat) : Nat := 2 ^ (d - 1)
theorem powN_le (d : Nat) (h : d ≤ 6) : powN d ≤ 32 := by
  have : d = 0 ∨ d = 1 ∨ d = 2 ∨ d = 3 ∨ d = 4 ∨ d = 5 ∨ d = 6 := by omega
  rcases this with rfl | rfl | rfl | rfl | rfl | rfl | rfl <;> decide
theorem powN_succ (d : Nat) (h : 1 ≤ d) : powN (d + 1) = 2 * powN d := by
  unfold powN
  obtain ⟨e, rfl⟩ : ∃ e, d = e + 1 := ⟨d - 1, by omega⟩
  show 2 ^ (e + 1) = 2 * 2 ^ e
  rw [Nat.pow_succ, Nat.mul_comm]

end Go.Proofs.YtkhfingenjlpfaaDoor.Ce
