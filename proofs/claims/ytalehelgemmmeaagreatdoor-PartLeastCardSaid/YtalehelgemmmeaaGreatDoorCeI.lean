/-
  cell.Print, and the document's.
-/
import Derived.Test.YtalehelgemmmeaaGreatDoorEb
namespace Go.Proofs.YtalehelgemmmeaaGreatDoor.Ce
open Go.RowKit

/-- The text of cells. -/
def printT : List Nat → List Nat
  | [] => []
  | [x] => dotsN x 6
  | x :: y :: r => dotsN x 6 ++ 45 :: printT (y :: r)
theorem printT_snoc (x : Nat) : ∀ l : List Nat, l ≠ [] → printT (l ++ [x]) = printT l ++ 45 :: dotsN x 6
  | [], h => absurd rfl h
  | [y], _ => rfl
  | y :: z :: r, _ => by
    have ih := printT_snoc x (z :: r) (by simp)
    show dotsN y 6 ++ 45 :: printT ((z :: r) ++ [x]) = (dotsN y 6 ++ 45 :: printT (z :: r)) ++ 45 :: dotsN x 6
    rw [ih]; simp
theorem printT_len : ∀ l : List Nat, (printT l).length ≤ 7 * l.length
  | [] => by simp [printT]
  | [x] => by have := dotsN_len x 6; simp only [printT, List.length_cons, List.length_nil]; omega
  | x :: y :: r => by
    have ih := printT_len (y :: r)
    have := dotsN_len x 6
    simp only [printT, List.length_append, List.length_cons] at ih ⊢
    omega
def okP (b : Nat) : Bool := decide (b ≠ 0 ∧ b ≤ 63)
def printOK (s : ByteArray) : Prop := 1 ≤ s.size ∧ s.size ≤ 4 ∧ badAt okP s = s.size
instance (s : ByteArray) : Decidable (printOK s) := by unfold printOK; infer_instance
def printV (s : ByteArray) : ByteArray := if printOK s then bytesOf (printT (bytesN s)) else emptyS
def printE (s : ByteArray) : Int := if printOK s then 0 else 1
theorem printV_no {s : ByteArray} (h : ¬ printOK s) : emptyS = printV s := by unfold printV; rw [if_neg h]
theorem printE_no {s : ByteArray} (h : ¬ printOK s) : 1 = printE s := by unfold printE; rw [if_neg h]

end Go.Proofs.YtalehelgemmmeaaGreatDoor.Ce
