/-
  Layer 8's document: whether a rule may be.
-/
import Derived.Test.YtalehelgemmmeaaGreatDoorRuD
namespace Go.Proofs.YtalehelgemmmeaaGreatDoor.Ru
open Go.RowKit Ba

theorem prC_some {c : List Nat} (h : ∀ x ∈ c, x < 256) : (prC c).isSome = decide (Ce.printE (bytesOf c) = 0) := by
  unfold prC Ce.printE
  by_cases hk : Ce.printOK (bytesOf c)
  · rw [if_pos ⟨h, hk⟩, if_pos hk]; rfl
  · rw [if_neg (fun e => hk e.2), if_neg hk]; rfl
/-- The last of the four: the Prio. -/
def prioB (what prio : Int) : Bool := if what ≤ 5 then decide (0 ≤ prio ∧ prio ≤ 99) else decide (prio = 0)
theorem mayR_is {what : Int} {left cells : List Nat} {prio line : Int} (hc : ∀ x ∈ cells, x < 256) :
    mayR prC ⟨what, left, cells, prio, line⟩ = (decide (1 ≤ what ∧ what ≤ 8) && leftB what.toNat left && decide (Ce.printE (bytesOf cells) = 0) && prioB what prio) := by
  unfold mayR prioB
  rw [← prC_some hc]
end Go.Proofs.YtalehelgemmmeaaGreatDoor.Ru
