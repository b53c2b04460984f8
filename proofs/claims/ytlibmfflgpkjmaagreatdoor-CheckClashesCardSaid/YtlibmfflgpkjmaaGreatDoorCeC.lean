/-
  cell.Of, and the document's Of.
-/
import Derived.Test.YtlibmfflgpkjmaaGreatDoorCeB
import Derived.Lib.OthersKept
import Derived.BigCall
namespace Go.Proofs.YtlibmfflgpkjmaaGreatDoor.Ce
open Go.RowKit

theorem or_all : ∀ c : Fin 64, ∀ j : Fin 6, c.val < 2 ^ j.val → bits .or .u8 ((c.val : Nat) : Int) ((2 ^ j.val : Nat) : Int) = ((c.val + 2 ^ j.val : Nat) : Int) := by decide +kernel
theorem or_bit (c d : Nat) (hc : c < 64) (h : c < bitN d) : bits .or .u8 ((c : Nat) : Int) ((bitN d : Nat) : Int) = ((c + bitN d : Nat) : Int) := by
  rcases bitN_cases d with e | ⟨_, e⟩ | ⟨_, e⟩ | ⟨_, e⟩ | ⟨_, e⟩ | ⟨_, e⟩ | ⟨_, e⟩
  · omega
  all_goals rw [e] at h ⊢
  · exact or_all ⟨c, hc⟩ 0 h
  · exact or_all ⟨c, hc⟩ 1 h
  · exact or_all ⟨c, hc⟩ 2 h
  · exact or_all ⟨c, hc⟩ 3 h
  · exact or_all ⟨c, hc⟩ 4 h
  · exact or_all ⟨c, hc⟩ 5 h
theorem ofL_next (s : ByteArray) (k c : Nat) (hk : k < s.size) (h : ofL ((bytesN s).take k) = some c) (hb : c < bitN (bAt s k)) : ofL ((bytesN s).take (k + 1)) = some (c + bitN (bAt s k)) := by
  rw [take_snoc s k hk, ofL_snoc, h]; simp [ofStep, hb]
theorem ofS_fail (s : ByteArray) (k c : Nat) (hk : k < s.size) (h : ofL ((bytesN s).take k) = some c) (hb : ¬ c < bitN (bAt s k)) : ofS s = 0 := by
  have h1 : ofL ((bytesN s).take (k + 1)) = none := by rw [take_snoc s k hk, ofL_snoc, h]; simp [ofStep, hb]
  have h2 := ofL_stop _ ((bytesN s).drop (k + 1)) h1
  rw [List.take_append_drop] at h2
  unfold ofS ofN; rw [h2]; rfl
theorem ofS_end (s : ByteArray) (c : Nat) (h : ofL ((bytesN s).take s.size) = some c) : ofS s = c := by
  unfold ofS ofN
  rw [← bytesN_len, List.take_length] at h
  rw [h]; rfl

end Go.Proofs.YtlibmfflgpkjmaaGreatDoor.Ce
