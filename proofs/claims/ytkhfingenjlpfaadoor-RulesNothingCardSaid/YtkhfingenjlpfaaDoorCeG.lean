/-
  The document's Signs, Cells, Of, Dots and Count of layer 2.
-/
import Derived.Test.YtkhfingenjlpfaaDoorCeF
namespace Go.Proofs.YtkhfingenjlpfaaDoor.Ce
open Go.RowKit
theorem bAt_idx (s : ByteArray) (k : Nat) (h : k < s.size) : ((s[k].toNat : Nat) : Int) = ((bAt s k : Nat) : Int) := by rw [bAt_get s k h]
theorem mapK_lt2 {g : Nat → Nat} (hg : ∀ b, g b < 256) (s : ByteArray) (k : Nat) : ∀ x ∈ mapK g s k, x < 256 := mapK_lt g hg s k



/-- Where the document's Of stands: the cell so far, and the last dot. -/
def LastD (c l : Nat) : Prop := l ≤ 6 ∧ c < 2 ^ l ∧ (l = 0 ∨ 2 ^ (l - 1) ≤ c)
theorem last_all : ∀ l : Fin 7, ∀ d : Fin 7, ∀ c : Fin 64, 1 ≤ d.val → LastD c.val l.val → (c.val < 2 ^ (d.val - 1) ↔ l.val < d.val) ∧ (l.val < d.val → LastD (c.val + 2 ^ (d.val - 1)) d.val) := by
  unfold LastD; decide +kernel
theorem bit_dig (b : Nat) (h1 : 49 ≤ b) (h2 : b ≤ 54) : bitN b = powN (b - 48) := by
  unfold bitN powN; rw [if_pos ⟨h1, h2⟩, show b - 48 - 1 = b - 49 from by omega]

end Go.Proofs.YtkhfingenjlpfaaDoor.Ce
