/-
  The document's Parse of layer 2.
-/
import Derived.Test.YtkhfingenjlpfaaDoorCeO
import Derived.Test.YtkhfingenjlpfaaDoorCeJ
namespace Go.Proofs.YtkhfingenjlpfaaDoor.Ce
open Go.RowKit

/-- The place that the document's Parse tells. -/
def placeI (s : ByteArray) : Int := match parseL s with | some _ => -1 | none => ((parseAt s : Nat) : Int)
theorem ComeP.pre {s : ByteArray} {pre : List (Pt s)} {f : Nat} (h : ComeP s pre f) (hf : f ≤ s.size) (x : Pt s) (hx : x.1 = (f, dash s f)) : pre ++ [x] <+: partsA s 0 := by
  have e : x = ⟨(f, dash s f), (dash_is s f hf).1, (dash_is s f hf).2.1⟩ := Subtype.ext hx
  unfold ComeP at h
  rw [h, partsA_step s f hf, ← e]
  exact ⟨if dash s f < s.size then partsA s (dash s f + 1) else [], by simp⟩
/-- Where the document's Parse stands. -/
def StandsP (s : ByteArray) (pre : List (Pt s)) (f k : Nat) : Prop :=
  (f ≤ k ∧ k ≤ s.size ∧ ComeP s pre f ∧ ∀ j, f ≤ j → j < k → bAt s j ≠ 45) ∨ (k = s.size + 1 ∧ pre = partsA s 0)
theorem ret_si {x y : ByteArray} {a b : Int} (h : x = y) (h' : a = b) : Ending.returned (.tuple #[.string x, .int .i64 a]) = .returned (.tuple #[.string y, .int .i64 b]) := by rw [h, h']

end Go.Proofs.YtkhfingenjlpfaaDoor.Ce
