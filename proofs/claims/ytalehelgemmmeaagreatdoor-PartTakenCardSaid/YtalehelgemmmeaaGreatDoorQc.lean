/-
  Put together: CkC, CkD, CkE, CkF.
-/
import Derived.Test.YtalehelgemmmeaaGreatDoorCkB
import Derived.Test.YtalehelgemmmeaaGreatDoorRuE
import Derived.Test.YtalehelgemmmeaaGreatDoorCkP
namespace Go.Proofs.YtalehelgemmmeaaGreatDoor.Ck
open Go.RowKit Ba Ru

theorem bytesOf_inj' {a b : List Nat} (ha : ∀ x ∈ a, x < 256) (hb : ∀ x ∈ b, x < 256) (h : bytesOf a = bytesOf b) : a = b := by
  rw [← bytesN_bytesOf a ha, ← bytesN_bytesOf b hb, h]
theorem kept_is {what : Int} {left cells : List Nat} {prio line : Int} (hl : ∀ x ∈ left, x < 256) (S : ByteArray) (hS : bytesOf left = S) :
    keptB ⟨what, left, cells, prio, line⟩ = (decide (what = 8) && (decide (S = { data := #[98, 108, 107] }) || decide (S = { data := #[99, 111, 110, 116] }) || decide (S = { data := #[105, 110, 100] }))) := by
  have e : ∀ (t : List Nat), (∀ x ∈ t, x < 256) → (left = t ↔ S = bytesOf t) := fun t ht => ⟨fun h => by rw [← hS, h], fun h => bytesOf_inj' hl ht (hS.trans h)⟩
  have e1 := e [98, 108, 107] (by decide)
  have e2 := e [99, 111, 110, 116] (by decide)
  have e3 := e [105, 110, 100] (by decide)
  have c1 : bytesOf [98, 108, 107] = { data := #[98, 108, 107] } := rfl
  have c2 : bytesOf [99, 111, 110, 116] = { data := #[99, 111, 110, 116] } := rfl
  have c3 : bytesOf [105, 110, 100] = { data := #[105, 110, 100] } := rfl
  rw [c1] at e1
  rw [c2] at e2
  rw [c3] at e3
  unfold keptB
  simp only [e1, e2, e3]
  rw [Bool.eq_iff_iff]
  simp [or_assoc]
end Go.Proofs.YtalehelgemmmeaaGreatDoor.Ck
namespace Go.Proofs.YtalehelgemmmeaaGreatDoor.Ck
open Go.RowKit Ba Ru

theorem ne_lit {S : ByteArray} (l : List UInt8) (h : S ≠ ⟨l.toArray⟩) : (S.toList == l) = false := by
  rw [beq_eq_false_iff_ne]
  intro e
  apply h
  rw [← e, ByteArray.toList_eq, Array.toArray_toList]
end Go.Proofs.YtalehelgemmmeaaGreatDoor.Ck
namespace Go.Proofs.YtalehelgemmmeaaGreatDoor.Ck
open Go.RowKit Ba Ru

end Go.Proofs.YtalehelgemmmeaaGreatDoor.Ck
namespace Go.Proofs.YtalehelgemmmeaaGreatDoor.Ck
open Go.RowKit Ba Ru

/-- A rule in a box. -/
def BoxS (w : World) (b : Nat) (q : Int) (S T : ByteArray) (p n : Int) : Prop :=
  w.cell? ⟨b, 0, none⟩ = some (.int .i64 q) ∧ w.cell? ⟨b, 1, none⟩ = some (.string S) ∧ w.cell? ⟨b, 2, none⟩ = some (.string T) ∧ w.cell? ⟨b, 3, none⟩ = some (.int .i64 p) ∧ w.cell? ⟨b, 4, none⟩ = some (.int .i64 n) ∧ b < w.heap.size
theorem BoxS.below {w w' : World} {b : Nat} {q : Int} {S T : ByteArray} {p n : Int} {B : Nat} (h : BoxS w b q S T p n) (hb : Below B w w') (hB : b < B) : BoxS w' b q S T p n :=
  ⟨(hb.cell (p := ⟨b, 0, none⟩) hB).trans h.1, (hb.cell (p := ⟨b, 1, none⟩) hB).trans h.2.1, (hb.cell (p := ⟨b, 2, none⟩) hB).trans h.2.2.1, (hb.cell (p := ⟨b, 3, none⟩) hB).trans h.2.2.2.1, (hb.cell (p := ⟨b, 4, none⟩) hB).trans h.2.2.2.2.1, Nat.lt_of_lt_of_le h.2.2.2.2.2 hb.size⟩
theorem BoxS.kept {w w' : World} {b : Nat} {q : Int} {S T : ByteArray} {p n : Int} (h : BoxS w b q S T p n) (hb : Below w.heap.size w w') : BoxS w' b q S T p n := h.below hb h.2.2.2.2.2
theorem BoxS.new (w : World) (q : Int) (S T : ByteArray) (p n : Int) (t : TypeId) : BoxS (w.alloc (.cells #[.int .i64 q, .string S, .string T, .int .i64 p, .int .i64 n] t)) w.heap.size q S T p n := by
  refine ⟨?_, ?_, ?_, ?_, ?_, ?_⟩ <;> simp
theorem eq_lit {S : ByteArray} (l : List Nat) (h : bytesN S = l) : S = bytesOf l := by rw [← h, bytesOf_bytesN]
end Go.Proofs.YtalehelgemmmeaaGreatDoor.Ck
