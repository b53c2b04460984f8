/-
  Rules that bytes choose of a row; texts that begin texts. Plain facts.
-/
import Derived.Test.YtalehelgemmmeaaGreatDoorCkA
import Derived.Test.YtalehelgemmmeaaGreatDoorRuC
namespace Go.Proofs.YtalehelgemmmeaaGreatDoor.Ck
open Go.RowKit Ba Ru

/-! ### texts that begin texts -/
theorem begins_size {a b : ByteArray} (h : bytesN a <+: bytesN b) : a.size ≤ b.size := by
  rw [← bytesN_len, ← bytesN_len]; exact h.length_le
theorem begins_iff (a b : ByteArray) : b.extract 0 a.size = a ↔ bytesN a <+: bytesN b := by
  constructor
  · intro h
    rw [← h, bytesN_ext, List.drop_zero]
    exact List.take_prefix _ _
  · intro h
    apply bytes_ext
    rw [bytesN_ext, List.drop_zero, Nat.sub_zero, ← bytesN_len]
    exact (List.prefix_iff_eq_take.1 h).symm
/-- The document's Begins. -/
theorem begins_is (a b : ByteArray) : (decide (a.size ≤ b.size) && decide (b.extract 0 a.size = a)) = (bytesN a).isPrefixOf (bytesN b) := by
  rw [Bool.eq_iff_iff, Bool.and_eq_true, decide_eq_true_eq, decide_eq_true_eq, List.isPrefixOf_iff_prefix, begins_iff]
  exact ⟨fun h => h.2, fun h => ⟨begins_size h, h⟩⟩
/-- Two rules that a program can hold are the same just if their fields are. -/
theorem rl_same {x y : Rl} (hx : FitR x) (hy : FitR y) : (x.what = y.what ∧ bytesOf x.left = bytesOf y.left ∧ bytesOf x.cells = bytesOf y.cells ∧ x.prio = y.prio ∧ x.line = y.line) ↔ x = y := by
  obtain ⟨-, -, -, hl, hc, -, -⟩ := hx
  obtain ⟨-, -, -, kl, kc, -, -⟩ := hy
  constructor
  · rintro ⟨h1, h2, h3, h4, h5⟩
    have e2 := congrArg bytesN h2
    have e3 := congrArg bytesN h3
    rw [bytesN_bytesOf _ hl, bytesN_bytesOf _ kl] at e2
    rw [bytesN_bytesOf _ hc, bytesN_bytesOf _ kc] at e3
    obtain ⟨a, b, c, d, e⟩ := x
    obtain ⟨a', b', c', d', e'⟩ := y
    simp only [] at h1 e2 e3 h4 h5
    subst h1; subst e2; subst e3; subst h4; subst h5
    rfl
  · rintro rfl
    exact ⟨rfl, rfl, rfl, rfl, rfl⟩

/-! ### chosen rules -/
/-- The rules of a table's row. -/
def inL (l : List Rl) (row : Int) : List Rl := l.filter fun x => inB x row
theorem inL_step (l : List Rl) (row : Int) (k : Nat) (x : Rl) (hx : l[k]? = some x) : inL (l.take (k + 1)) row = inL (l.take k) row ++ (if inB x row = true then [x] else []) := by
  unfold inL
  rw [List.take_add_one, hx, Option.toList_some, List.filter_append]
  congr 1
  by_cases h : inB x row = true
  · rw [if_pos h]; simp [h]
  · rw [if_neg h]; simp [h]
theorem inL_mem {l : List Rl} {row : Int} {x : Rl} (h : x ∈ inL l row) : x ∈ l ∧ inB x row = true := List.mem_filter.1 h
/-- The rule that a byte chooses. -/
def pickR (m : List Rl) (b : Nat) : List Rl := (m[b % m.length]?).toList
/-- The rules that bytes choose. -/
def chosenL (m : List Rl) (bs : List Nat) : List Rl := bs.flatMap (pickR m)
theorem pick_some {m : List Rl} (h : m ≠ []) (b : Nat) : ∃ x, m[b % m.length]? = some x ∧ pickR m b = [x] := by
  have hl : b % m.length < m.length := Nat.mod_lt _ (List.length_pos_iff.2 h)
  exact ⟨m[b % m.length], List.getElem?_eq_getElem hl, by unfold pickR; rw [List.getElem?_eq_getElem hl]; rfl⟩
theorem chosen_mem {m : List Rl} {bs : List Nat} {x : Rl} (h : x ∈ chosenL m bs) : x ∈ m := by
  unfold chosenL at h
  obtain ⟨b, _, hb⟩ := List.mem_flatMap.1 h
  unfold pickR at hb
  rw [Option.mem_toList] at hb
  exact List.mem_of_getElem? hb
theorem chosen_nil (bs : List Nat) : chosenL [] bs = [] := by
  unfold chosenL
  induction bs with
  | nil => rfl
  | cons b bs ih => rw [List.flatMap_cons, ih]; rfl
theorem chosen_step (m : List Rl) (bs : List Nat) (k b : Nat) (hb : bs[k]? = some b) : chosenL m (bs.take (k + 1)) = chosenL m (bs.take k) ++ pickR m b := by
  unfold chosenL
  rw [List.take_add_one, hb, Option.toList_some, List.flatMap_append, List.flatMap_cons, List.flatMap_nil, List.append_nil]
theorem cells_step (a b : List Rl) : cellsR (a ++ b) = cellsR a ++ cellsR b := by unfold cellsR; rw [List.flatMap_append]
theorem prC_nil : prC [] = none := by
  have h : ¬ Ce.printOK (bytesOf []) := by decide +kernel
  unfold prC
  rw [if_neg (fun k => h k.2)]
theorem acc_cells {l : List Rl} (A : Acc prC l) : ∀ x ∈ l, x.cells ≠ [] := fun x hx => may_cells prC_nil (A.alone x hx)
/-- P9.5, as truth values. -/
theorem one_bools {l : List Rl} (A : Acc prC l) {row : Int} {xs ys : List Rl} (hx : ∀ x ∈ xs, x ∈ l ∧ inB x row = true) (hy : ∀ y ∈ ys, y ∈ l ∧ inB y row = true) (hl : xs.length ≤ ys.length) :
    (cellsR xs).isPrefixOf (cellsR ys) = xs.isPrefixOf ys ∧ ((cellsR ys).isPrefixOf (cellsR xs) = true → xs.isPrefixOf ys = true) ∧ decide (cellsR xs = cellsR ys) = (xs.isPrefixOf ys && decide (xs.length = ys.length)) := by
  obtain ⟨h1, h2, h3⟩ := one_law A.apart (acc_cells A) hx hy hl
  refine ⟨?_, fun h => ?_, ?_⟩
  · rw [Bool.eq_iff_iff, List.isPrefixOf_iff_prefix, List.isPrefixOf_iff_prefix]; exact h1
  · rw [List.isPrefixOf_iff_prefix] at h ⊢; exact h2 h
  · rw [Bool.eq_iff_iff, Bool.and_eq_true, decide_eq_true_eq, decide_eq_true_eq, List.isPrefixOf_iff_prefix]; exact h3

/-! ### the document's words, a piece at a time -/
/-- One text stands in another one: from place i on. -/
def withinFrom (a b : List Nat) (i : Nat) : Bool := ((List.range (b.length + 1)).drop i).any fun i => a.isPrefixOf (b.drop i)
theorem within_zero (a b : List Nat) : withinFrom a b 0 = withinB a b := rfl
theorem within_step (a b : List Nat) (i : Nat) (h : i ≤ b.length) : withinFrom a b i = (a.isPrefixOf (b.drop i) || withinFrom a b (i + 1)) := by
  unfold withinFrom
  have hi : i < (List.range (b.length + 1)).length := by rw [List.length_range]; omega
  rw [List.drop_eq_getElem_cons hi, List.any_cons, List.getElem_range]
theorem within_end (a b : List Nat) : withinFrom a b (b.length + 1) = false := by
  unfold withinFrom
  rw [List.drop_of_length_le (by rw [List.length_range]; exact Nat.le_refl _)]
  rfl
theorem has_cons (x : Rl) (l : List Rl) (w : Int × List Nat) : hasB (x :: l) w = (decide (x.what = w.1 ∧ x.left = w.2) || hasB l w) := rfl
/-- What is missing among some that are wanted. -/
def missIn (l : List Rl) (ws : List (Int × List Nat)) : List Nat := match ws.find? fun w => !hasB l w with | some w => w.2 | none => []
theorem miss_cons (l : List Rl) (w : Int × List Nat) (ws : List (Int × List Nat)) : missIn l (w :: ws) = if hasB l w = true then missIn l ws else w.2 := by
  unfold missIn
  rw [List.find?_cons]
  cases hasB l w <;> rfl
theorem miss_all (l : List Rl) : missR l = missIn l wantL := rfl
/-- The first k rules are in order. -/
def goodTo (pr : List Nat → Option (List Nat)) (l : List Rl) (k : Nat) : Prop := badF pr [] l = badF pr (l.take k) (l.drop k)
theorem good_zero (pr : List Nat → Option (List Nat)) (l : List Rl) : goodTo pr l 0 := rfl
theorem bad_here {pr : List Nat → Option (List Nat)} {l : List Rl} {k : Nat} {x : Rl} (hx : l[k]? = some x) (hg : goodTo pr l k) (h : aloneB pr x = false ∨ ∃ y ∈ l.take k, clashB x y = true) : badF pr [] l = some x := by
  have hd : l.drop k = x :: l.drop (k + 1) := by
    obtain ⟨hk, e⟩ := List.getElem?_eq_some_iff.1 hx
    rw [List.drop_eq_getElem_cons hk, e]
  rw [hg, hd]
  show (if (!aloneB pr x || (l.take k).any (clashB x)) = true then some x else _) = _
  refine if_pos ?_
  rw [Bool.or_eq_true]
  rcases h with h | ⟨y, hy, hc⟩
  · exact .inl (by rw [h]; rfl)
  · exact .inr (List.any_eq_true.2 ⟨y, hy, hc⟩)
theorem good_step {pr : List Nat → Option (List Nat)} {l : List Rl} {k : Nat} {x : Rl} (hx : l[k]? = some x) (hg : goodTo pr l k) (ha : aloneB pr x = true) (hc : ∀ y ∈ l.take k, clashB x y = false) : goodTo pr l (k + 1) := by
  have hd : l.drop k = x :: l.drop (k + 1) := by
    obtain ⟨hk, e⟩ := List.getElem?_eq_some_iff.1 hx
    rw [List.drop_eq_getElem_cons hk, e]
  have ht : l.take (k + 1) = l.take k ++ [x] := by rw [List.take_add_one, hx, Option.toList_some]
  unfold goodTo at hg ⊢
  rw [hg, hd, ht]
  show (if (!aloneB pr x || (l.take k).any (clashB x)) = true then some x else _) = _
  refine if_neg ?_
  rw [ha, List.any_eq_false.2 (fun y hy => by rw [hc y hy]; exact Bool.false_ne_true)]
  exact Bool.false_ne_true
theorem good_end {pr : List Nat → Option (List Nat)} {l : List Rl} (hg : goodTo pr l l.length) : badF pr [] l = none := by
  unfold goodTo at hg
  rw [hg, List.drop_length]
  rfl
end Go.Proofs.YtalehelgemmmeaaGreatDoor.Ck
