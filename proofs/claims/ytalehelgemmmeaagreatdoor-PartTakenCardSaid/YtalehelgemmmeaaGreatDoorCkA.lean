/-
  Which tables are accepted; what follows: rules' cells are read in one way; a part of a table. Plain facts.
-/
import Derived.Test.YtalehelgemmmeaaGreatDoorRuB
namespace Go.Proofs.YtalehelgemmmeaaGreatDoor.Ck
open Go.RowKit Ba Ru

def inB (x : Rl) (row : Int) : Bool :=
  decide (1 ≤ row ∧ row ≤ 3) && (decide (x.what = 6 ∨ x.what = 8) || (if row = 1 then decide (x.what = 1 ∨ x.what = 2) else if row = 2 then decide (x.what = 1 ∨ x.what = 3 ∨ x.what = 4) else decide (x.what = 7)))
def keptB (x : Rl) : Bool := decide (x.what = 8 ∧ (x.left = [98, 108, 107] ∨ x.left = [99, 111, 110, 116] ∨ x.left = [105, 110, 100]))
def aloneB (pr : List Nat → Option (List Nat)) (x : Rl) : Bool :=
  !((keptB x || decide (x.what = 7 ∨ x.what = 1 ∧ x.left.length = 1)) && decide (x.cells.length ≠ 1)) && !(decide (x.what = 8 ∧ (x.left = [110, 117, 109] ∨ x.left = [108, 101, 116]) ∧ 2 < x.cells.length)) && mayR pr x
def withinB (a b : List Nat) : Bool := (List.range (b.length + 1)).any fun i => a.isPrefixOf (b.drop i)
def rowsB (x y : Rl) : Bool := (inB x 1 && inB y 1) || (inB x 2 && inB y 2) || (inB x 3 && inB y 3)
def overB (a b : List Nat) : Bool := a.isPrefixOf b || b.isPrefixOf a
def clashB (x y : Rl) : Bool :=
  decide (x.what = y.what ∧ x.left = y.left) || decide (x.what = 5 ∧ y.what = 5 ∧ x.cells = y.cells) || (rowsB x y && overB x.cells y.cells)
    || (keptB x && withinB x.cells y.cells) || (keptB y && withinB y.cells x.cells)
    || (decide (x.what = 8 ∧ y.what = 5) && x.cells.isPrefixOf y.cells) || (decide (y.what = 8 ∧ x.what = 5) && y.cells.isPrefixOf x.cells)
theorem clash_symm (x y : Rl) : clashB x y = clashB y x := by
  have h1 : decide (x.what = y.what ∧ x.left = y.left) = decide (y.what = x.what ∧ y.left = x.left) := decide_eq_decide.2 ⟨fun h => ⟨h.1.symm, h.2.symm⟩, fun h => ⟨h.1.symm, h.2.symm⟩⟩
  have h2 : decide (x.what = 5 ∧ y.what = 5 ∧ x.cells = y.cells) = decide (y.what = 5 ∧ x.what = 5 ∧ y.cells = x.cells) := decide_eq_decide.2 ⟨fun h => ⟨h.2.1, h.1, h.2.2.symm⟩, fun h => ⟨h.2.1, h.1, h.2.2.symm⟩⟩
  have h3 : rowsB x y = rowsB y x := by unfold rowsB; rw [Bool.and_comm (inB x 1), Bool.and_comm (inB x 2), Bool.and_comm (inB x 3)]
  have h4 : overB x.cells y.cells = overB y.cells x.cells := Bool.or_comm ..
  unfold clashB
  rw [h1, h2, h3, h4]
  generalize decide (y.what = x.what ∧ y.left = x.left) = a
  generalize decide (y.what = 5 ∧ x.what = 5 ∧ y.cells = x.cells) = b
  generalize (rowsB y x && overB y.cells x.cells) = c
  generalize (keptB x && withinB x.cells y.cells) = d
  generalize (keptB y && withinB y.cells x.cells) = e
  generalize (decide (x.what = 8 ∧ y.what = 5) && x.cells.isPrefixOf y.cells) = f
  generalize (decide (y.what = 8 ∧ x.what = 5) && y.cells.isPrefixOf x.cells) = g
  revert a b c d e f g
  decide
def hasB (l : List Rl) (w : Int × List Nat) : Bool := l.any fun x => decide (x.what = w.1 ∧ x.left = w.2)
def wantL : List (Int × List Nat) := (List.range 26).map (fun i => (1, [97 + i])) ++ (Ka.markL.map (fun c => (6, [c])) ++ ((List.range 10).map (fun i => (7, [48 + i])) ++ namesL.map fun s => (8, s)))
def missR (l : List Rl) : List Nat := match wantL.find? fun w => !hasB l w with | some w => w.2 | none => []
/-- The first rule that may not stand alone, or clashes with one ahead. -/
def badF (pr : List Nat → Option (List Nat)) : List Rl → List Rl → Option Rl
  | _, [] => none
  | acc, x :: l => if (!aloneB pr x || acc.any (clashB x)) = true then some x else badF pr (acc ++ [x]) l
def tableR (pr : List Nat → Option (List Nat)) (l : List Rl) : Int × Nat := match badF pr [] l with
  | some x => (x.line, 6)
  | none => if 400 < l.length then (0, 4) else if missR l ≠ [] then (0, 6) else (0, 0)
/-- Nothing clashes. -/
def Apart (l : List Rl) : Prop := l.Pairwise fun x y => clashB x y = false
section
variable {pr : List Nat → Option (List Nat)}
theorem bad_none : ∀ (l acc : List Rl), badF pr acc l = none ↔ (∀ x ∈ l, aloneB pr x = true) ∧ Apart l ∧ ∀ x ∈ l, ∀ y ∈ acc, clashB x y = false
  | [], acc => ⟨fun _ => ⟨fun x h => (by cases h), .nil, fun x h => (by cases h)⟩, fun _ => rfl⟩
  | x :: l, acc => by
    have ih := bad_none l (acc ++ [x])
    show (if _ then some x else badF pr (acc ++ [x]) l) = none ↔ _
    by_cases h : (!aloneB pr x || acc.any (clashB x)) = true
    · rw [if_pos h]
      refine ⟨fun e => (by cases e), fun ⟨h1, _, h3⟩ => ?_⟩
      rw [h1 x (List.mem_cons_self ..), Bool.not_true, Bool.false_or, List.any_eq_true] at h
      obtain ⟨y, hy, hc⟩ := h
      rw [h3 x (List.mem_cons_self ..) y hy] at hc
      cases hc
    · rw [if_neg h, ih]
      have h : (!aloneB pr x || acc.any (clashB x)) = false := by simpa using h
      rw [Bool.or_eq_false_iff] at h
      obtain ⟨ha, hc⟩ := h
      have ha : aloneB pr x = true := by simpa using ha
      have hc : ∀ y ∈ acc, clashB x y = false := fun y hy => by
        rw [List.any_eq_false] at hc
        simpa using hc y hy
      constructor
      · rintro ⟨h1, h2, h3⟩
        refine ⟨fun y hy => ?_, List.pairwise_cons.2 ⟨fun y hy => ?_, h2⟩, fun y hy z hz => ?_⟩
        · rcases List.mem_cons.1 hy with rfl | hy
          · exact ha
          · exact h1 y hy
        · rw [clash_symm]; exact h3 y hy x (List.mem_append_right _ (List.mem_cons_self ..))
        · rcases List.mem_cons.1 hy with rfl | hy
          · exact hc z hz
          · exact h3 y hy z (List.mem_append_left _ hz)
      · rintro ⟨h1, h2, h3⟩
        obtain ⟨p1, p2⟩ := List.pairwise_cons.1 h2
        refine ⟨fun y hy => h1 y (List.mem_cons_of_mem _ hy), p2, fun y hy z hz => ?_⟩
        rcases List.mem_append.1 hz with hz | hz
        · exact h3 y (List.mem_cons_of_mem _ hy) z hz
        · rw [List.mem_singleton.1 hz, clash_symm]; exact p1 y hy
/-- An accepted table. -/
structure Acc (pr : List Nat → Option (List Nat)) (l : List Rl) : Prop where
  alone : ∀ x ∈ l, aloneB pr x = true
  apart : Apart l
  few : l.length ≤ 400
  all : missR l = []
theorem table_acc (l : List Rl) : (tableR pr l).2 = 0 ↔ Acc pr l := by
  have hb := bad_none (pr := pr) l []
  unfold tableR
  cases h : badF pr [] l with
  | some x =>
    refine ⟨fun e => (by cases e), fun A => ?_⟩
    rw [hb.2 ⟨A.alone, A.apart, fun x _ y hy => (by cases hy)⟩] at h
    cases h
  | none =>
    obtain ⟨h1, h2, -⟩ := hb.1 h
    show (if 400 < l.length then ((0 : Int), 4) else if missR l ≠ [] then (0, 6) else (0, 0)).2 = 0 ↔ _
    by_cases h4 : 400 < l.length
    · rw [if_pos h4]; exact ⟨fun e => (by cases e), fun A => by have := A.few; omega⟩
    rw [if_neg h4]
    by_cases hm : missR l ≠ []
    · rw [if_pos hm]; exact ⟨fun e => (by cases e), fun A => absurd A.all hm⟩
    · rw [if_neg hm]; exact ⟨fun _ => ⟨h1, h2, by omega, Classical.byContradiction hm⟩, fun _ => rfl⟩
theorem apart_ne {l : List Rl} (h : Apart l) : ∀ x ∈ l, ∀ y ∈ l, x ≠ y → clashB x y = false := by
  induction l with
  | nil => intro x hx; cases hx
  | cons z l ih =>
    obtain ⟨p1, p2⟩ := List.pairwise_cons.1 h
    intro x hx y hy hn
    rcases List.mem_cons.1 hx with ex | hx2
    · rcases List.mem_cons.1 hy with ey | hy2
      · exact absurd (ex.trans ey.symm) hn
      · rw [ex]; exact p1 y hy2
    · rcases List.mem_cons.1 hy with ey | hy2
      · rw [ey, clash_symm]; exact p1 x hx2
      · exact ih p2 x hx2 y hy2 hn
theorem row_three {x : Rl} {row : Int} (h : inB x row = true) : row = 1 ∨ row = 2 ∨ row = 3 := by
  unfold inB at h
  rw [Bool.and_eq_true, decide_eq_true_eq] at h
  omega
theorem rows_of {x y : Rl} {row : Int} (hx : inB x row = true) (hy : inB y row = true) : rowsB x y = true := by
  unfold rowsB
  rcases row_three hx with rfl | rfl | rfl <;> rw [hx, hy] <;> simp
theorem may_cells {K : List Nat → Option (List Nat)} (hK : K [] = none) {x : Rl} (h : aloneB K x = true) : x.cells ≠ [] := by
  unfold aloneB mayR at h
  simp only [Bool.and_eq_true] at h
  intro e
  have := h.2.1.2
  rw [e, hK] at this
  cases this
/-- P9.5: two rules of one row, of which one's cells begin the other one's. -/
theorem same_of {l : List Rl} (A : Apart l) {row : Int} {x y : Rl} (hx : x ∈ l) (hy : y ∈ l) (rx : inB x row = true) (ry : inB y row = true) (h : overB x.cells y.cells = true) : x = y :=
  Classical.byContradiction fun hn => by
    have := apart_ne A x hx y hy hn
    unfold clashB at this
    rw [rows_of rx ry, h] at this
    simp at this
def cellsR (l : List Rl) : List Nat := l.flatMap (·.cells)
theorem over_of {a b c d : List Nat} (h : a ++ b <+: c ++ d) : overB a c = true := by
  unfold overB
  rw [Bool.or_eq_true, List.isPrefixOf_iff_prefix, List.isPrefixOf_iff_prefix]
  exact List.prefix_or_prefix_of_prefix ((List.prefix_append a b).trans h) (List.prefix_append c d)
/-- P9.5 -/
theorem one_way {l : List Rl} (A : Apart l) (hc : ∀ x ∈ l, x.cells ≠ []) {row : Int} : ∀ (xs ys : List Rl), (∀ x ∈ xs, x ∈ l ∧ inB x row = true) → (∀ y ∈ ys, y ∈ l ∧ inB y row = true) → cellsR xs <+: cellsR ys → xs <+: ys
  | [], ys, _, _, _ => List.nil_prefix
  | x :: xs, [], hx, _, h => by
    have e : cellsR (x :: xs) = [] := List.prefix_nil.1 h
    have e : x.cells ++ cellsR xs = [] := e
    exact absurd (List.append_eq_nil_iff.1 e).1 (hc x (hx x (List.mem_cons_self ..)).1)
  | x :: xs, y :: ys, hx, hy, h => by
    have h : x.cells ++ cellsR xs <+: y.cells ++ cellsR ys := h
    obtain ⟨x1, x2⟩ := hx x (List.mem_cons_self ..)
    obtain ⟨y1, y2⟩ := hy y (List.mem_cons_self ..)
    obtain rfl := same_of A x1 y1 x2 y2 (over_of h)
    have ih := one_way A hc xs ys (fun z hz => hx z (List.mem_cons_of_mem _ hz)) (fun z hz => hy z (List.mem_cons_of_mem _ hz)) ((List.prefix_append_right_inj _).1 h)
    exact (List.prefix_cons_inj x).2 ih
/-- P9.5, as it is asked. -/
theorem one_law {l : List Rl} (A : Apart l) (hc : ∀ x ∈ l, x.cells ≠ []) {row : Int} {xs ys : List Rl} (hx : ∀ x ∈ xs, x ∈ l ∧ inB x row = true) (hy : ∀ y ∈ ys, y ∈ l ∧ inB y row = true) (hl : xs.length ≤ ys.length) :
    (cellsR xs <+: cellsR ys ↔ xs <+: ys) ∧ (cellsR ys <+: cellsR xs → xs <+: ys) ∧ (cellsR xs = cellsR ys ↔ xs <+: ys ∧ xs.length = ys.length) := by
  have h2 : cellsR ys <+: cellsR xs → xs = ys := fun h => by
    have h := one_way A hc ys xs hy hx h
    exact (h.eq_of_length (Nat.le_antisymm h.length_le hl)).symm
  refine ⟨⟨one_way A hc xs ys hx hy, ?_⟩, fun h => by rw [h2 h]; exact List.prefix_rfl, ⟨fun h => ?_, fun ⟨h, k⟩ => by rw [h.eq_of_length k]⟩⟩
  · rintro ⟨r, rfl⟩
    exact ⟨cellsR r, by unfold cellsR; rw [List.flatMap_append]⟩
  · have e := h2 (by rw [h]; exact List.prefix_rfl)
    rw [e]; exact ⟨List.prefix_rfl, rfl⟩
/-! ### a part of a table -/
theorem has_iff (l : List Rl) (w : Int × List Nat) : hasB l w = true ↔ ∃ x ∈ l, x.what = w.1 ∧ x.left = w.2 := by
  unfold hasB
  rw [List.any_eq_true]
  exact ⟨fun ⟨x, h, k⟩ => ⟨x, h, by simpa using k⟩, fun ⟨x, h, k⟩ => ⟨x, h, by simpa using k⟩⟩
theorem want_ne : ∀ w ∈ wantL, w.2 ≠ [] := by decide +kernel
theorem miss_nil (l : List Rl) : missR l = [] ↔ ∀ w ∈ wantL, hasB l w = true := by
  unfold missR
  cases h : wantL.find? fun w => !hasB l w with
  | none =>
    rw [List.find?_eq_none] at h
    exact ⟨fun _ w hw => by simpa using h w hw, fun _ => rfl⟩
  | some w =>
    have hm := List.mem_of_find?_eq_some h
    have hp := List.find?_some h
    have hp : hasB l w = false := by simpa using hp
    exact ⟨fun e => absurd e (want_ne w hm), fun k => by rw [k w hm] at hp; cases hp⟩
/-- In any other order. -/
theorem acc_turn {l : List Rl} (A : Acc pr l) : Acc pr l.reverse where
  alone x hx := A.alone x (List.mem_reverse.1 hx)
  apart := by
    have h : l.reverse.Pairwise fun x y => clashB x y = false := List.pairwise_reverse.2 (A.apart.imp fun h => by rw [clash_symm]; exact h)
    exact h
  few := by rw [List.length_reverse]; exact A.few
  all := (miss_nil _).2 fun w hw => by
    obtain ⟨x, h1, h2⟩ := (has_iff _ _).1 ((miss_nil _).1 A.all w hw)
    exact (has_iff _ _).2 ⟨x, List.mem_reverse.2 h1, h2⟩
def wantedB (x : Rl) : Bool := decide (6 ≤ x.what ∨ x.what = 1 ∧ x.left.length = 1)
theorem cls_one {b : Nat} (h : Ka.clsN b = 1) : 97 ≤ b ∧ b ≤ 122 := by
  unfold Ka.clsN at h
  split at h
  · assumption
  · exfalso
    repeat' split at h
    all_goals omega
theorem cls_three {b : Nat} (h : Ka.clsN b = 3) : 48 ≤ b ∧ b ≤ 57 := by
  unfold Ka.clsN at h
  repeat' split at h
  all_goals (first | assumption | omega)
theorem cls_four {b : Nat} (h : Ka.clsN b = 4) : b ∈ Ka.markL := by
  unfold Ka.clsN at h
  repeat' split at h
  all_goals (first | omega | (rename_i k; exact List.contains_iff_mem.1 k))
theorem left_one {k : Nat} (hk : k = 6 ∨ k = 7) {s : List Nat} (h : leftB k s = true) : ∃ b, s = [b] ∧ (k = 6 → Ka.clsN b = 4) ∧ (k = 7 → Ka.clsN b = 3) := by
  rcases hk with rfl | rfl
  · match s with
    | [] => cases h
    | [b] => exact ⟨b, rfl, fun _ => by simpa using (show (Ka.clsN b == 4) = true from h), fun e => (by cases e)⟩
    | _ :: _ :: _ => cases h
  · match s with
    | [] => cases h
    | [b] => exact ⟨b, rfl, fun e => (by cases e), fun _ => by simpa using (show (Ka.clsN b == 3) = true from h)⟩
    | _ :: _ :: _ => cases h
theorem wanted_in {x : Rl} (h : aloneB pr x = true) : wantedB x = true ↔ (x.what, x.left) ∈ wantL := by
  unfold aloneB mayR at h
  simp only [Bool.and_eq_true, decide_eq_true_eq] at h
  obtain ⟨-, ⟨⟨⟨h1, h8⟩, hl⟩, -⟩, -⟩ := h
  obtain ⟨what, left, cells, prio, line⟩ := x
  simp only [] at h1 h8 hl
  unfold wantedB wantL
  simp only [decide_eq_true_eq, List.mem_append, List.mem_map, Prod.mk.injEq, List.mem_range]
  constructor
  · rintro (k | ⟨k, k1⟩)
    · rcases (show what = 6 ∨ what = 7 ∨ what = 8 by omega) with rfl | rfl | rfl
      · obtain ⟨b, rfl, hb⟩ := left_one (k := 6) (.inl rfl) hl
        exact .inr (.inl ⟨b, cls_four (hb.1 rfl), rfl, rfl⟩)
      · obtain ⟨b, rfl, hb⟩ := left_one (k := 7) (.inr rfl) hl
        obtain ⟨c1, c2⟩ := cls_three (hb.2 rfl)
        exact .inr (.inr (.inl ⟨b - 48, by omega, rfl, by rw [show 48 + (b - 48) = b by omega]⟩))
      · have hl : namesL.contains left = true := hl
        exact .inr (.inr (.inr ⟨left, List.contains_iff_mem.1 hl, rfl, rfl⟩))
    · subst k
      match left, k1, hl with
      | [b], _, hl =>
        have hl : (decide (0 < [b].length ∧ [b].length ≤ 12) && [b].all fun b => Ka.clsN b == 1) = true := hl
        rw [Bool.and_eq_true, List.all_eq_true] at hl
        obtain ⟨c1, c2⟩ := cls_one (b := b) (by simpa using hl.2 b (List.mem_cons_self ..))
        exact .inl ⟨b - 97, by omega, rfl, by rw [show 97 + (b - 97) = b by omega]⟩
  · rintro (⟨i, _, e, rfl⟩ | ⟨i, _, e, _⟩ | ⟨i, _, e, _⟩ | ⟨i, _, e, _⟩)
    · exact .inr ⟨e.symm, rfl⟩
    all_goals exact .inl (by omega)
theorem apart_what {a b : List Rl} {x : Rl} (h : Apart (a ++ x :: b)) : ∀ y ∈ a ++ b, ¬ (y.what = x.what ∧ y.left = x.left) := by
  obtain ⟨-, h2, h3⟩ := List.pairwise_append.1 h
  obtain ⟨h4, -⟩ := List.pairwise_cons.1 h2
  have key : ∀ y, clashB y x = false → ¬ (y.what = x.what ∧ y.left = x.left) := fun y hy e => by
    unfold clashB at hy
    rw [decide_eq_true e] at hy
    simp at hy
  intro y hy
  rcases List.mem_append.1 hy with hy | hy
  · exact key y (h3 y hy x (List.mem_cons_self ..))
  · exact key y (by rw [clash_symm]; exact h4 y hy)
theorem has_less (a b : List Rl) (x : Rl) (w : Int × List Nat) (h : ¬ (x.what = w.1 ∧ x.left = w.2)) : hasB (a ++ b) w = hasB (a ++ x :: b) w := by
  unfold hasB
  rw [List.any_append, List.any_append, List.any_cons, decide_eq_false h, Bool.false_or]
theorem bad_less {a b : List Rl} {x : Rl} (A : Acc pr (a ++ x :: b)) : badF pr [] (a ++ b) = none :=
  (bad_none _ _).2 ⟨fun y hy => A.alone y ((List.mem_append.1 hy).elim (List.mem_append_left _) fun h => List.mem_append_right _ (List.mem_cons_of_mem _ h)), A.apart.sublist (List.Sublist.append (List.Sublist.refl a) (List.sublist_cons_self x b)), fun y _ z hz => (by cases hz)⟩
/-- P9.6: without a rule that is not wanted; without one that is. -/
theorem acc_less {a b : List Rl} {x : Rl} (A : Acc pr (a ++ x :: b)) :
    if wantedB x = true then tableR pr (a ++ b) = (0, 6) ∧ missR (a ++ b) = x.left else (tableR pr (a ++ b)) = (0, 0) := by
  have hx := wanted_in (A.alone x (List.mem_append_right _ (List.mem_cons_self ..)))
  have hall := (miss_nil _).1 A.all
  have hf := A.few
  have hlen : ¬ 400 < (a ++ b).length := by simp only [List.length_append, List.length_cons] at hf ⊢; omega
  have hw := apart_what A.apart
  by_cases hwd : wantedB x = true
  · rw [if_pos hwd]
    have hm := hx.1 hwd
    have hno : hasB (a ++ b) (x.what, x.left) = false := by
      rw [Bool.eq_false_iff]
      intro k
      obtain ⟨y, hy, e⟩ := (has_iff _ _).1 k
      exact hw y hy e
    have hms : missR (a ++ b) = x.left := by
      unfold missR
      cases h : wantL.find? fun w => !hasB (a ++ b) w with
      | none =>
        rw [List.find?_eq_none] at h
        have := h _ hm
        rw [hno] at this
        exact absurd rfl this
      | some w =>
        have hp := List.find?_some h
        have hp : hasB (a ++ b) w = false := by simpa using hp
        by_cases e : x.what = w.1 ∧ x.left = w.2
        · exact e.2.symm
        · rw [has_less a b x w e, hall w (List.mem_of_find?_eq_some h)] at hp
          cases hp
    refine ⟨?_, hms⟩
    unfold tableR
    rw [bad_less A]
    show (if 400 < (a ++ b).length then ((0 : Int), 4) else _) = _
    rw [if_neg hlen, if_pos (by rw [hms]; exact want_ne _ hm)]
  · rw [if_neg hwd]
    have hms : missR (a ++ b) = [] := (miss_nil _).2 fun w hw => by
      rw [has_less a b x w fun e => hwd (hx.2 (by rw [e.1, e.2]; exact hw))]
      exact hall w hw
    unfold tableR
    rw [bad_less A]
    show (if 400 < (a ++ b).length then ((0 : Int), 4) else _) = _
    rw [if_neg hlen, if_neg (fun k => k hms)]
theorem bad_snoc : ∀ (l acc : List Rl) (x : Rl), badF pr acc l = none → (∃ y ∈ acc ++ l, clashB x y = true) → badF pr acc (l ++ [x]) = some x
  | [], acc, x, _, ⟨y, hy, hc⟩ => by
    rw [List.append_nil] at hy
    show (if (!aloneB pr x || acc.any (clashB x)) = true then some x else _) = _
    rw [if_pos (by rw [Bool.or_eq_true]; exact .inr (List.any_eq_true.2 ⟨y, hy, hc⟩))]
  | z :: l, acc, x, h, ⟨y, hy, hc⟩ => by
    have h : (if (!aloneB pr z || acc.any (clashB z)) = true then some z else badF pr (acc ++ [z]) l) = none := h
    show (if (!aloneB pr z || acc.any (clashB z)) = true then some z else badF pr (acc ++ [z]) (l ++ [x])) = _
    by_cases k : (!aloneB pr z || acc.any (clashB z)) = true
    · rw [if_pos k] at h; cases h
    · rw [if_neg k] at h ⊢
      exact bad_snoc l (acc ++ [z]) x h ⟨y, by rw [List.append_assoc]; exact hy, hc⟩
/-- Doubled. -/
theorem acc_twice {l : List Rl} (A : Acc pr l) {x : Rl} (hx : x ∈ l) : tableR pr (l ++ [x]) = (x.line, 6) := by
  have h1 := (bad_none (pr := pr) l []).2 ⟨A.alone, A.apart, fun y _ z hz => (by cases hz)⟩
  have hc : clashB x x = true := by unfold clashB; simp
  unfold tableR
  rw [bad_snoc l [] x h1 ⟨x, hx, hc⟩]
end
end Go.Proofs.YtalehelgemmmeaaGreatDoor.Ck
