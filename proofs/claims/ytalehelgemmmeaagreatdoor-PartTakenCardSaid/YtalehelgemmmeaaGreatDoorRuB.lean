/-
  Tables of rules and their texts: what Parse and Print answer; there and back; lines that say nothing. Plain facts.
-/
import Derived.Test.YtalehelgemmmeaaGreatDoorRuA
namespace Go.Proofs.YtalehelgemmmeaaGreatDoor.Ru
open Go.RowKit Ba

/-- The rules of lines from the n-th on, put to others; the line, the error. -/
def goP (ps : List Nat → Option (List Nat)) : List (List Nat) → Nat → List Rl → List Rl × Nat × Nat
  | [], _, acc => (acc, 0, 0)
  | t :: m, n, acc => if t = [] ∨ t.head? = some 35 then goP ps m (n + 1) acc else
    match ruleA ps t n with
    | none => ([], n, 6)
    | some x => if acc.length = 400 then ([], n, 4) else goP ps m (n + 1) (acc ++ [x])
def parseR (ps : List Nat → Option (List Nat)) (L : List Nat) : List Rl × Nat × Nat := if 65536 < L.length then ([], 0, 4) else goP ps (splitL 10 L) 1 []
def textR (pr : List Nat → Option (List Nat)) (l : List Rl) : List Nat := l.flatMap fun x => lineR pr x ++ [10]
def printR (pr : List Nat → Option (List Nat)) (l : List Rl) : List Nat × Nat := if 400 < l.length then ([], 4) else if l.all (mayR pr) then (textR pr l, 0) else ([], 1)
/-- Rules, their Lines by their places from n on. -/
def numL : Nat → List Rl → List Rl
  | _, [] => []
  | n, x :: l => { x with line := n } :: numL (n + 1) l
theorem numL_len : ∀ (l : List Rl) (n : Nat), (numL n l).length = l.length
  | [], _ => rfl
  | _ :: l, n => congrArg (· + 1) (numL_len l (n + 1))
section
variable {pr ps : List Nat → Option (List Nat)}
theorem go_skip {t : List Nat} (h : t = [] ∨ t.head? = some 35) (m : List (List Nat)) (n : Nat) (acc : List Rl) : goP ps (t :: m) n acc = goP ps m (n + 1) acc := by
  show (if t = [] ∨ t.head? = some 35 then _ else _) = _
  rw [if_pos h]
theorem go_bad {t : List Nat} (h : ¬ (t = [] ∨ t.head? = some 35)) {n : Nat} (k : ruleA ps t n = none) (m : List (List Nat)) (acc : List Rl) : goP ps (t :: m) n acc = ([], n, 6) := by
  show (if t = [] ∨ t.head? = some 35 then _ else _) = _
  rw [if_neg h, k]
theorem go_rule {t : List Nat} (h : ¬ (t = [] ∨ t.head? = some 35)) {n : Nat} {x : Rl} (k : ruleA ps t n = some x) (m : List (List Nat)) (acc : List Rl) : goP ps (t :: m) n acc = if acc.length = 400 then ([], n, 4) else goP ps m (n + 1) (acc ++ [x]) := by
  show (if t = [] ∨ t.head? = some 35 then _ else _) = _
  rw [if_neg h, k]
/-! ### what was printed -/
theorem go_lines (K : CellLaw pr ps) : ∀ (l : List Rl) (n : Nat) (acc : List Rl), (∀ x ∈ l, mayR pr x = true) → acc.length + l.length ≤ 400 → goP ps (l.map (lineR pr) ++ [[]]) n acc = (acc ++ numL n l, 0, 0)
  | [], n, acc, _, _ => by
    show goP ps ([] :: []) n acc = _
    rw [go_skip (.inl rfl)]
    show (acc, 0, 0) = (acc ++ [], 0, 0)
    rw [List.append_nil]
  | x :: l, n, acc, h, hl => by
    have hx := h x (List.mem_cons_self ..)
    obtain ⟨-, f2, f3⟩ := line_free K hx
    show goP ps (lineR pr x :: (l.map (lineR pr) ++ [[]])) n acc = _
    rw [go_rule (fun k => k.elim f3 f2) (rule_line K hx n), if_neg (by simp only [List.length_cons] at hl; omega),
      go_lines K l (n + 1) _ (fun y hy => h y (List.mem_cons_of_mem _ hy)) (by simp only [List.length_cons, List.length_append, List.length_nil] at hl ⊢; omega), List.append_assoc]
    rfl
theorem split_text (K : CellLaw pr ps) : ∀ l : List Rl, (∀ x ∈ l, mayR pr x = true) → splitL 10 (textR pr l) = l.map (lineR pr) ++ [[]]
  | [], _ => rfl
  | x :: l, h => by
    have f1 := (line_free K (h x (List.mem_cons_self ..))).1
    have e : textR pr (x :: l) = lineR pr x ++ 10 :: textR pr l := by unfold textR; rw [List.flatMap_cons, List.append_assoc]; rfl
    rw [e, split_at _ f1, split_text K l (fun y hy => h y (List.mem_cons_of_mem _ hy))]
    rfl
/-- P8.6, of rules -/
theorem print_parse (K : CellLaw pr ps) {l : List Rl} {s : List Nat} (h : printR pr l = (s, 0)) : parseR ps s = if 65536 < s.length then ([], 0, 4) else (numL 1 l, 0, 0) := by
  unfold printR at h
  by_cases h4 : 400 < l.length
  · rw [if_pos h4] at h; cases h
  rw [if_neg h4] at h
  by_cases hm : l.all (mayR pr) = true
  · rw [if_pos hm] at h
    have hm := List.all_eq_true.1 hm
    cases h
    unfold parseR
    split
    · rfl
    · rw [split_text K l hm, go_lines K l 1 [] hm (by simpa using h4)]
      rfl
  · rw [if_neg hm] at h; cases h
/-! ### what was parsed -/
theorem go_ok (K : CellLaw pr ps) : ∀ (m : List (List Nat)) (n : Nat) (acc r : List Rl) (p : Nat), acc.length ≤ 400 → goP ps m n acc = (r, p, 0) →
    p = 0 ∧ r.length ≤ 400 ∧ ∃ s, r = acc ++ s ∧ (∀ x ∈ s, mayR pr x = true ∧ (n : Int) ≤ x.line) ∧ (s.Pairwise fun a b => a.line < b.line) ∧ (textR pr s).length ≤ (m.map fun t => t.length + 1).sum
  | [], n, acc, r, p, ha, h => by
    have h : (acc, 0, 0) = (r, p, 0) := h
    cases h
    exact ⟨rfl, ha, [], (List.append_nil _).symm, fun x hx => (by cases hx), .nil, Nat.le_refl _⟩
  | t :: m, n, acc, r, p, ha, h => by
    by_cases hs : t = [] ∨ t.head? = some 35
    · rw [go_skip hs] at h
      obtain ⟨h1, h2, s, h3, h4, h5, h6⟩ := go_ok K m (n + 1) acc r p ha h
      exact ⟨h1, h2, s, h3, fun x hx => ⟨(h4 x hx).1, by have := (h4 x hx).2; omega⟩, h5, by rw [List.map_cons, List.sum_cons]; omega⟩
    · cases hr : ruleA ps t n with
      | none => rw [go_bad hs hr] at h; cases h
      | some x =>
        rw [go_rule hs hr] at h
        by_cases h4 : acc.length = 400
        · rw [if_pos h4] at h; cases h
        · rw [if_neg h4] at h
          obtain ⟨h1, h2, s, h3, h5, h6, h7⟩ := go_ok K m (n + 1) (acc ++ [x]) r p (by simp only [List.length_append, List.length_cons, List.length_nil]; omega) h
          obtain ⟨l1, l2, l3⟩ := line_rule K hr
          refine ⟨h1, h2, x :: s, by rw [h3, List.append_assoc]; rfl, fun y hy => ?_, List.pairwise_cons.2 ⟨fun y hy => ?_, h6⟩, ?_⟩
          · rcases List.mem_cons.1 hy with rfl | hy
            · exact ⟨l1, by rw [l3]; exact Int.le_refl _⟩
            · exact ⟨(h5 y hy).1, by have := (h5 y hy).2; omega⟩
          · have := (h5 y hy).2
            rw [l3]; omega
          · have e : textR pr (x :: s) = lineR pr x ++ 10 :: textR pr s := by unfold textR; rw [List.flatMap_cons, List.append_assoc]; rfl
            rw [e, l2, List.map_cons, List.sum_cons, List.length_append, List.length_cons]
            omega
theorem split_sum (c : Nat) : ∀ L : List Nat, ((splitL c L).map fun t => t.length + 1).sum = L.length + 1
  | [] => rfl
  | x :: r => by
    have ih := split_sum c r
    obtain ⟨a, m, hr⟩ := split_ne c r
    by_cases h : x = c
    · show ((if x = c then [] :: splitL c r else _).map fun t => t.length + 1).sum = _
      rw [if_pos h, List.map_cons, List.sum_cons, ih, List.length_cons]
      simp only [List.length_nil]; omega
    · rw [split_x h hr]
      rw [hr, List.map_cons, List.sum_cons] at ih
      rw [List.map_cons, List.sum_cons, List.length_cons, List.length_cons]
      omega
/-- P8.6, of a text -/
theorem parse_print (K : CellLaw pr ps) {L : List Nat} {r : List Rl} {p : Nat} (h : parseR ps L = (r, p, 0)) :
    p = 0 ∧ (∀ x ∈ r, mayR pr x = true ∧ 1 ≤ x.line) ∧ (r.Pairwise fun a b => a.line < b.line) ∧ printR pr r = (textR pr r, 0) ∧ (textR pr r).length ≤ L.length + 1 ∧ (L.length ≤ 65535 → parseR ps (textR pr r) = (numL 1 r, 0, 0)) := by
  unfold parseR at h
  by_cases hb : 65536 < L.length
  · rw [if_pos hb] at h; cases h
  rw [if_neg hb] at h
  obtain ⟨h1, h2, s, h3, h4, h5, h6⟩ := go_ok K _ 1 [] r p (Nat.zero_le _) h
  have h3 : r = s := h3
  subst h3
  rw [split_sum] at h6
  have hp : printR pr r = (textR pr r, 0) := by
    unfold printR
    rw [if_neg (by omega), if_pos (List.all_eq_true.2 fun x hx => (h4 x hx).1)]
  refine ⟨h1, h4, h5, hp, h6, fun hL => ?_⟩
  rw [print_parse K hp, if_neg (by omega)]
/-! ### lines that say nothing; what stands behind -/
def up (x : Rl) : Rl := { x with line := x.line + 1 }
theorem rule_up (t : List Nat) (n : Nat) : ruleA ps t ((n + 1 : Nat) : Int) = (ruleA ps t n).map up := by
  unfold ruleA
  split
  · split
    · split <;> rfl
    · rfl
  · split
    · split <;> rfl
    · rfl
  · rfl
theorem go_up : ∀ (m : List (List Nat)) (n : Nat) (acc : List Rl), goP ps m (n + 1) (acc.map up) = ((goP ps m n acc).1.map up, if (goP ps m n acc).2.2 = 0 then (goP ps m n acc).2.1 else (goP ps m n acc).2.1 + 1, (goP ps m n acc).2.2)
  | [], n, acc => rfl
  | t :: m, n, acc => by
    by_cases hs : t = [] ∨ t.head? = some 35
    · rw [go_skip hs, go_skip hs]; exact go_up m (n + 1) acc
    · cases hr : ruleA ps t n with
      | none =>
        rw [go_bad hs hr, go_bad hs (by rw [rule_up, hr]; rfl)]
        rfl
      | some x =>
        rw [go_rule hs hr, go_rule (x := up x) hs (by rw [rule_up, hr]; rfl), List.length_map]
        by_cases h4 : acc.length = 400
        · rw [if_pos h4, if_pos h4]; rfl
        · rw [if_neg h4, if_neg h4]
          have := go_up m (n + 1) (acc ++ [x])
          rw [List.map_append] at this
          exact this
theorem go_app : ∀ (m m' : List (List Nat)) (n : Nat) (acc : List Rl), (goP ps m n acc).2.2 ≠ 0 → goP ps (m ++ m') n acc = goP ps m n acc ∧ (goP ps m n acc).1 = []
  | [], m', n, acc, h => absurd rfl h
  | t :: m, m', n, acc, h => by
    show goP ps (t :: (m ++ m')) n acc = _ ∧ _
    by_cases hs : t = [] ∨ t.head? = some 35
    · rw [go_skip hs] at h ⊢
      rw [go_skip hs]
      exact go_app m m' (n + 1) acc h
    · cases hr : ruleA ps t n with
      | none => rw [go_bad hs hr, go_bad hs hr]; exact ⟨rfl, rfl⟩
      | some x =>
        rw [go_rule hs hr] at h ⊢
        rw [go_rule hs hr]
        by_cases h4 : acc.length = 400
        · rw [if_pos h4, if_pos h4]; exact ⟨rfl, rfl⟩
        · rw [if_neg h4] at h ⊢
          rw [if_neg h4]
          exact go_app m m' (n + 1) _ h
theorem split_app (c : Nat) : ∀ a b : List Nat, splitL c (a ++ c :: b) = splitL c a ++ splitL c b
  | [], b => by show (if c = c then _ else _) = _; rw [if_pos rfl]; rfl
  | x :: a, b => by
    have ih := split_app c a b
    obtain ⟨d, m, hr⟩ := split_ne c a
    by_cases h : x = c
    · subst h
      show (if x = x then [] :: splitL x (a ++ x :: b) else _) = (if x = x then [] :: splitL x a else _) ++ _
      rw [if_pos rfl, if_pos rfl, ih]; rfl
    · rw [hr] at ih
      rw [split_x h hr]
      exact split_x h ih
/-- A line ahead that says nothing. -/
theorem parse_ahead {L t : List Nat} (ht : 10 ∉ t) (h : t = [] ∨ t.head? = some 35) (hL : (t ++ 10 :: L).length ≤ 65536) :
    parseR ps (t ++ 10 :: L) = ((parseR ps L).1.map up, if (parseR ps L).2.2 = 0 then (parseR ps L).2.1 else (parseR ps L).2.1 + 1, (parseR ps L).2.2) := by
  have hl : L.length ≤ 65536 := by simp only [List.length_append, List.length_cons] at hL; omega
  unfold parseR
  rw [if_neg (by omega), if_neg (by omega), split_at _ ht, go_skip h]
  exact go_up (splitL 10 L) 1 []
/-- What stands behind a line that is refused. -/
theorem parse_behind {L M : List Nat} (h : (parseR ps L).2.2 ≠ 0) (hL : (L ++ 10 :: M).length ≤ 65536) : parseR ps (L ++ 10 :: M) = parseR ps L ∧ (parseR ps L).1 = [] := by
  have hl : L.length ≤ 65536 := by simp only [List.length_append, List.length_cons] at hL; omega
  unfold parseR at h ⊢
  rw [if_neg (by omega)] at h ⊢
  rw [if_neg (by omega), split_app]
  exact go_app _ _ _ _ h
theorem num_up : ∀ (l : List Rl) (n : Nat), numL n (l.map up) = numL n l
  | [], _ => rfl
  | x :: l, n => by
    show { up x with line := (n : Int) } :: numL (n + 1) (l.map up) = _
    rw [num_up l (n + 1)]; rfl
theorem parse_zero (L : List Nat) (h : (parseR ps L).2.2 = 0) : (parseR ps L).2.1 = 0 := by
  have go_zero : ∀ (m : List (List Nat)) (n : Nat) (acc : List Rl), (goP ps m n acc).2.2 = 0 → (goP ps m n acc).2.1 = 0 := by
    intro m
    induction m with
    | nil => intro n acc _; rfl
    | cons t m ih =>
      intro n acc h
      by_cases hs : t = [] ∨ t.head? = some 35
      · rw [go_skip hs] at h ⊢; exact ih _ _ h
      · cases hr : ruleA ps t n with
        | none => rw [go_bad hs hr] at h; cases h
        | some x =>
          rw [go_rule hs hr] at h ⊢
          by_cases h4 : acc.length = 400
          · rw [if_pos h4] at h; cases h
          · rw [if_neg h4] at h ⊢; exact ih _ _ h
  unfold parseR at h ⊢
  split at h
  · cases h
  · rename_i hb
    rw [if_neg hb]; exact go_zero _ _ _ h
end
end Go.Proofs.YtalehelgemmmeaaGreatDoor.Ru
