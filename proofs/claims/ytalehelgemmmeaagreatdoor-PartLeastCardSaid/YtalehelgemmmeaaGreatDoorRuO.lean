/-
  A rule's line as the landed package reads it: cut at blanks, then told anew. Plain facts: the same rules as the document's.
-/
import Derived.Test.YtalehelgemmmeaaGreatDoorRuB
namespace Go.Proofs.YtalehelgemmmeaaGreatDoor.Ru
open Go.RowKit Ba

/-- What stands ahead of the first c, and what stands behind it. -/
def cutL (c : Nat) : List Nat → List Nat × List Nat
  | [] => ([], [])
  | x :: r => if x = c then ([], r) else (x :: (cutL c r).1, (cutL c r).2)
theorem cut_at {c : Nat} (b : List Nat) : ∀ {a : List Nat}, c ∉ a → cutL c (a ++ c :: b) = (a, b)
  | [], _ => by show (if c = c then _ else _) = _; rw [if_pos rfl]
  | x :: a, h => by
    have hx : x ≠ c := fun e => h (by rw [e]; exact List.mem_cons_self ..)
    show (if x = c then _ else (x :: (cutL c (a ++ c :: b)).1, (cutL c (a ++ c :: b)).2)) = _
    rw [if_neg hx, cut_at b fun k => h (List.mem_cons_of_mem _ k)]
theorem cut_no {c : Nat} : ∀ {a : List Nat}, c ∉ a → cutL c a = (a, [])
  | [], _ => rfl
  | x :: a, h => by
    have hx : x ≠ c := fun e => h (by rw [e]; exact List.mem_cons_self ..)
    show (if x = c then _ else (x :: (cutL c a).1, (cutL c a).2)) = _
    rw [if_neg hx, cut_no fun k => h (List.mem_cons_of_mem _ k)]
theorem cut_mem (c : Nat) : ∀ (L : List Nat), (∀ x ∈ (cutL c L).1, x ∈ L) ∧ (∀ x ∈ (cutL c L).2, x ∈ L) ∧ (cutL c L).1.length ≤ L.length ∧ (cutL c L).2.length ≤ L.length
  | [] => ⟨fun _ h => h, fun _ h => h, Nat.le_refl _, Nat.le_refl _⟩
  | x :: r => by
    obtain ⟨h1, h2, h3, h4⟩ := cut_mem c r
    by_cases hx : x = c
    · have e : cutL c (x :: r) = ([], r) := by show (if x = c then _ else _) = _; rw [if_pos hx]
      rw [e]
      exact ⟨fun y hy => (by cases hy), fun y hy => List.mem_cons_of_mem _ hy, Nat.zero_le _, Nat.le_succ _⟩
    · have e : cutL c (x :: r) = (x :: (cutL c r).1, (cutL c r).2) := by show (if x = c then _ else _) = _; rw [if_neg hx]
      rw [e]
      refine ⟨fun y hy => ?_, fun y hy => List.mem_cons_of_mem _ (h2 y hy), Nat.succ_le_succ h3, Nat.le_succ_of_le h4⟩
      rcases List.mem_cons.1 hy with rfl | hy
      · exact List.mem_cons_self ..
      · exact List.mem_cons_of_mem _ (h1 y hy)
/-- What a line's parts say. -/
def readR (ps : List Nat → Option (List Nat)) (pz : List Nat → Int) (L : List Nat) : Rl :=
  ⟨whatN (cutL 32 L).1, (cutL 32 (cutL 32 L).2).1, (ps (cutL 32 (cutL 32 (cutL 32 L).2).2).1).getD [], pz (cutL 32 (cutL 32 (cutL 32 L).2).2).2, 0⟩
section
variable {pr ps : List Nat → Option (List Nat)} {pz : List Nat → Int}
theorem read_line (K : CellLaw pr ps) (hz : ∀ n : Nat, n < 100 → pz (digL n) = (n : Int)) (h0 : pz [] = 0) {x : Rl} (h : mayR pr x = true) : readR ps pz (lineR pr x) = { x with line := 0 } := by
  obtain ⟨what, left, cells, prio, line⟩ := x
  unfold mayR at h
  simp only [Bool.and_eq_true, decide_eq_true_eq] at h
  obtain ⟨⟨⟨⟨h1, h8⟩, hl⟩, hc⟩, hp⟩ := h
  obtain ⟨k, rfl⟩ := Int.eq_ofNat_of_zero_le (show 0 ≤ what by omega)
  rw [Int.toNat_natCast] at hl
  obtain ⟨t, ht⟩ := Option.isSome_iff_exists.1 hc
  obtain ⟨w1, w2, -, -, -⟩ := what_word ⟨k, by omega⟩ (by show 1 ≤ k; omega)
  have w1 : whatN (wordL k) = k := w1
  have w2 : 32 ∉ wordL k := w2
  have l2 := (left_free hl).1
  have c2 := (K.free _ _ ht).1
  have hps := K.there _ _ ht
  unfold lineR readR
  simp only [Int.toNat_natCast, ht, Option.getD_some]
  rw [cut_at _ w2]
  simp only []
  rw [cut_at _ l2, w1]
  by_cases h5 : (k : Int) ≤ 5
  · rw [if_pos h5] at hp ⊢
    have hp : 0 ≤ prio ∧ prio ≤ 99 := by simpa using hp
    obtain ⟨p, rfl⟩ := Int.eq_ofNat_of_zero_le hp.1
    simp only []
    rw [cut_at _ c2, Int.toNat_natCast, hps, hz p (by omega)]
    rfl
  · rw [if_neg h5] at hp ⊢
    have hp : prio = 0 := by simpa using hp
    subst hp
    rw [List.append_nil]
    simp only []
    rw [cut_no c2, hps, h0]
    rfl
/-- A line is a rule's just if what it says may be, and is told by it. -/
theorem read_rule (K : CellLaw pr ps) (hz : ∀ n : Nat, n < 100 → pz (digL n) = (n : Int)) (h0 : pz [] = 0) (L : List Nat) (n : Int) :
    ruleA ps L n = if (mayR pr (readR ps pz L) && (lineR pr (readR ps pz L) == L)) = true then some { readR ps pz L with line := n } else none := by
  by_cases h : (mayR pr (readR ps pz L) && (lineR pr (readR ps pz L) == L)) = true
  · rw [if_pos h]
    rw [Bool.and_eq_true, beq_iff_eq] at h
    have := rule_line K h.1 n
    rwa [h.2] at this
  · rw [if_neg h]
    cases e : ruleA ps L n with
    | none => rfl
    | some y =>
      obtain ⟨l1, l2, l3⟩ := line_rule K e
      have hr := read_line K hz h0 l1
      rw [l2] at hr
      refine absurd ?_ h
      rw [hr, Bool.and_eq_true, beq_iff_eq]
      exact ⟨l1, l2⟩
end
end Go.Proofs.YtalehelgemmmeaaGreatDoor.Ru
