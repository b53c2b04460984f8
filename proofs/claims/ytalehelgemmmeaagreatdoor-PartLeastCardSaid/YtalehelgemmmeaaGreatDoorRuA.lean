/-
  Tables of rules and their texts, as bytes: parts between a byte, words, digits, a rule's line; there and back. Plain facts; what cells are as a text is a premise (CellLaw).
-/
import Derived.Test.YtalehelgemmmeaaGreatDoorVg
import Derived.Test.YtalehelgemmmeaaGreatDoorVa
namespace Go.Proofs.YtalehelgemmmeaaGreatDoor.Ru
open Go.RowKit Ba

/-! ### parts between a byte -/
def splitL (c : Nat) : List Nat → List (List Nat)
  | [] => [[]]
  | x :: r => if x = c then [] :: splitL c r else match splitL c r with
    | [] => [[x]]
    | a :: m => (x :: a) :: m
theorem split_ne (c : Nat) (L : List Nat) : ∃ a m, splitL c L = a :: m := by
  cases L with
  | nil => exact ⟨[], [], rfl⟩
  | cons x r =>
    unfold splitL
    split
    · exact ⟨_, _, rfl⟩
    · split <;> exact ⟨_, _, rfl⟩
theorem split_x {c x : Nat} (h : x ≠ c) {r a : List Nat} {m : List (List Nat)} (hr : splitL c r = a :: m) : splitL c (x :: r) = (x :: a) :: m := by
  show (if x = c then _ else _) = _
  rw [if_neg h, hr]
theorem split_no {c : Nat} : ∀ {a : List Nat}, c ∉ a → splitL c a = [a]
  | [], _ => rfl
  | x :: a, h => split_x (fun e => h (by rw [e]; exact List.mem_cons_self ..)) (split_no fun k => h (List.mem_cons_of_mem _ k))
theorem split_at {c : Nat} (b : List Nat) : ∀ {a : List Nat}, c ∉ a → splitL c (a ++ c :: b) = a :: splitL c b
  | [], _ => by show (if c = c then _ else _) = _; rw [if_pos rfl]
  | x :: a, h => split_x (fun e => h (by rw [e]; exact List.mem_cons_self ..)) (split_at b fun k => h (List.mem_cons_of_mem _ k))
def joinL (c : Nat) : List (List Nat) → List Nat
  | [] => []
  | [a] => a
  | a :: b :: m => a ++ c :: joinL c (b :: m)
theorem join_cons (c : Nat) (a : List Nat) {m : List (List Nat)} (h : m ≠ []) : joinL c (a :: m) = a ++ c :: joinL c m := by
  cases m with
  | nil => exact absurd rfl h
  | cons b m => rfl
theorem join_split (c : Nat) : ∀ L : List Nat, joinL c (splitL c L) = L
  | [] => rfl
  | x :: r => by
    have ih := join_split c r
    obtain ⟨a, m, hr⟩ := split_ne c r
    by_cases h : x = c
    · subst h
      show joinL x (if x = x then _ else _) = _
      rw [if_pos rfl, join_cons _ _ (by rw [hr]; simp), ih, List.nil_append]
    · rw [split_x h hr]
      rw [hr] at ih
      cases m with
      | nil => rw [← ih]; rfl
      | cons b m => rw [← ih]; rfl
theorem split_free (c : Nat) : ∀ L : List Nat, ∀ a ∈ splitL c L, c ∉ a
  | [], a, h => by rw [List.mem_singleton.1 h]; simp
  | x :: r, a, h => by
    have ih := split_free c r
    obtain ⟨b, m, hr⟩ := split_ne c r
    by_cases hx : x = c
    · have h : a ∈ (if x = c then [] :: splitL c r else _) := h
      rw [if_pos hx] at h
      rcases List.mem_cons.1 h with rfl | h
      · simp
      · exact ih a h
    · rw [split_x hx hr] at h
      rw [hr] at ih
      rcases List.mem_cons.1 h with rfl | h
      · intro k
        rcases List.mem_cons.1 k with e | k
        · exact hx e.symm
        · exact ih b (List.mem_cons_self ..) k
      · exact ih a (List.mem_cons_of_mem _ h)

/-! ### words, names, digits -/
def wordsL : List (List Nat) := [[97, 110, 121], [98, 101, 103, 105, 110], [105, 110, 110, 101, 114], [101, 110, 100], [119, 111, 114, 100], [109, 97, 114, 107], [100, 105, 103, 105, 116], [115, 105, 103, 110]]
def wordL (k : Nat) : List Nat := wordsL.getD (k - 1) []
def namesL : List (List Nat) := [[99, 97, 112], [99, 97, 112, 115], [110, 117, 109], [108, 101, 116], [101, 43], [101, 45], [115, 43], [115, 45], [110, 43], [110, 45], [98, 108, 107], [99, 111, 110, 116], [105, 110, 100]]
/-- The What of a word; 0: none's. -/
def whatN (w : List Nat) : Nat := if wordsL.idxOf w < 8 then wordsL.idxOf w + 1 else 0
theorem what_word : ∀ k : Fin 9, 1 ≤ k.val → whatN (wordL k.val) = k.val ∧ 32 ∉ wordL k.val ∧ 10 ∉ wordL k.val ∧ (wordL k.val).head? ≠ some 35 ∧ wordL k.val ≠ [] := by decide +kernel
theorem whatN_le (w : List Nat) : whatN w ≤ 8 := by unfold whatN; split <;> omega
theorem word_what {w : List Nat} (h : whatN w ≠ 0) : wordL (whatN w) = w := by
  unfold whatN at h ⊢
  by_cases h8 : wordsL.idxOf w < 8
  · rw [if_pos h8]
    unfold wordL
    have h' : wordsL.idxOf w < wordsL.length := h8
    rw [Nat.add_sub_cancel, List.getD_eq_getElem?_getD, List.getElem?_eq_getElem h', Option.getD_some]
    exact List.getElem_idxOf h'
  · rw [if_neg h8] at h; exact absurd rfl h
/-- May a text stand on the left of one of What k? -/
def leftB (k : Nat) (s : List Nat) : Bool :=
  if k ≤ 5 then decide (0 < s.length ∧ s.length ≤ 12) && s.all fun b => Ka.clsN b == 1
  else if k = 6 then match s with | [b] => Ka.clsN b == 4 | _ => false
  else if k = 7 then match s with | [b] => Ka.clsN b == 3 | _ => false
  else namesL.contains s
theorem names_free : ∀ s ∈ namesL, 32 ∉ s ∧ 10 ∉ s := by decide +kernel
theorem cls_free {b : Nat} (h : Ka.clsN b = 1 ∨ Ka.clsN b = 3 ∨ Ka.clsN b = 4) : b ≠ 32 ∧ b ≠ 10 := by
  refine ⟨?_, ?_⟩
  · rintro rfl
    have : Ka.clsN 32 = 5 := by decide
    omega
  · rintro rfl
    have : Ka.clsN 10 = 6 := by decide
    omega
theorem left_free {k : Nat} {s : List Nat} (h : leftB k s = true) : 32 ∉ s ∧ 10 ∉ s := by
  unfold leftB at h
  by_cases h5 : k ≤ 5
  · rw [if_pos h5, Bool.and_eq_true, List.all_eq_true] at h
    have h2 : ∀ b ∈ s, b ≠ 32 ∧ b ≠ 10 := fun b hb => cls_free (.inl (by simpa using h.2 b hb))
    exact ⟨fun k => (h2 _ k).1 rfl, fun k => (h2 _ k).2 rfl⟩
  rw [if_neg h5] at h
  by_cases h6 : k = 6
  · rw [if_pos h6] at h
    match s, h with
    | [b], h =>
      have := cls_free (b := b) (.inr (.inr (by simpa using h)))
      simp only [List.mem_singleton]
      exact ⟨fun e => this.1 e.symm, fun e => this.2 e.symm⟩
  rw [if_neg h6] at h
  by_cases h7 : k = 7
  · rw [if_pos h7] at h
    match s, h with
    | [b], h =>
      have := cls_free (b := b) (.inr (.inl (by simpa using h)))
      simp only [List.mem_singleton]
      exact ⟨fun e => this.1 e.symm, fun e => this.2 e.symm⟩
  rw [if_neg h7, List.contains_iff_mem] at h
  exact names_free s h
def digL (n : Nat) : List Nat := if 9 < n then [48 + n / 10, 48 + n % 10] else [48 + n % 10]
def digA : List Nat → Option Nat
  | [a] => if 48 ≤ a ∧ a ≤ 57 then some (a - 48) else none
  | [a, b] => if (49 ≤ a ∧ a ≤ 57) ∧ 48 ≤ b ∧ b ≤ 57 then some (10 * (a - 48) + (b - 48)) else none
  | _ => none
theorem dig_there : ∀ n : Fin 100, digA (digL n.val) = some n.val ∧ 32 ∉ digL n.val ∧ 10 ∉ digL n.val := by decide +kernel
theorem dig_back {l : List Nat} {n : Nat} (h : digA l = some n) : digL n = l ∧ n ≤ 99 := by
  unfold digA at h
  split at h
  · rename_i a
    by_cases k : 48 ≤ a ∧ a ≤ 57
    · rw [if_pos k] at h
      cases h
      unfold digL
      rw [if_neg (by omega), show 48 + (a - 48) % 10 = a by omega]
      exact ⟨rfl, by omega⟩
    · rw [if_neg k] at h; cases h
  · rename_i a b
    by_cases k : (49 ≤ a ∧ a ≤ 57) ∧ 48 ≤ b ∧ b ≤ 57
    · rw [if_pos k] at h
      cases h
      unfold digL
      rw [if_pos (by omega), show 48 + (10 * (a - 48) + (b - 48)) / 10 = a by omega, show 48 + (10 * (a - 48) + (b - 48)) % 10 = b by omega]
      exact ⟨rfl, by omega⟩
    · rw [if_neg k] at h; cases h
  · cases h

/-! ### a rule's line -/
structure Rl where
  what : Int
  left : List Nat
  cells : List Nat
  prio : Int
  line : Int
deriving DecidableEq
/-- Cells and their texts. -/
structure CellLaw (pr ps : List Nat → Option (List Nat)) : Prop where
  there : ∀ c t, pr c = some t → ps t = some c
  back : ∀ t c, ps t = some c → pr c = some t
  free : ∀ c t, pr c = some t → 32 ∉ t ∧ 10 ∉ t
def mayR (pr : List Nat → Option (List Nat)) (x : Rl) : Bool :=
  decide (1 ≤ x.what ∧ x.what ≤ 8) && leftB x.what.toNat x.left && (pr x.cells).isSome && (if x.what ≤ 5 then decide (0 ≤ x.prio ∧ x.prio ≤ 99) else decide (x.prio = 0))
def lineR (pr : List Nat → Option (List Nat)) (x : Rl) : List Nat :=
  wordL x.what.toNat ++ 32 :: (x.left ++ 32 :: ((pr x.cells).getD [] ++ if x.what ≤ 5 then 32 :: digL x.prio.toNat else []))
def ruleA (ps : List Nat → Option (List Nat)) (l : List Nat) (n : Int) : Option Rl :=
  match splitL 32 l with
  | [w, a, c, d] => if whatN w ≠ 0 ∧ whatN w ≤ 5 ∧ leftB (whatN w) a = true then (match ps c, digA d with | some cc, some p => some ⟨whatN w, a, cc, p, n⟩ | _, _ => none) else none
  | [w, a, c] => if 5 < whatN w ∧ leftB (whatN w) a = true then (match ps c with | some cc => some ⟨whatN w, a, cc, 0, n⟩ | _ => none) else none
  | _ => none
theorem rule_line {pr ps : List Nat → Option (List Nat)} (K : CellLaw pr ps) {x : Rl} (h : mayR pr x = true) (n : Int) : ruleA ps (lineR pr x) n = some { x with line := n } := by
  obtain ⟨what, left, cells, prio, line⟩ := x
  unfold mayR at h
  simp only [Bool.and_eq_true, decide_eq_true_eq] at h
  obtain ⟨⟨⟨⟨h1, h8⟩, hl⟩, hc⟩, hp⟩ := h
  obtain ⟨k, rfl⟩ := Int.eq_ofNat_of_zero_le (show 0 ≤ what by omega)
  rw [Int.toNat_natCast] at hl
  obtain ⟨t, ht⟩ := Option.isSome_iff_exists.1 hc
  obtain ⟨w1, w2, -, -, -⟩ := what_word ⟨k, by omega⟩ (by show 1 ≤ k; omega)
  have w1 : whatN (wordL k) = k := w1
  have w2 : 32 ∉ wordL k := w2
  have l2 := (left_free hl).1
  have c2 := (K.free _ _ ht).1
  have hps := K.there _ _ ht
  unfold lineR ruleA
  simp only [Int.toNat_natCast, ht, Option.getD_some]
  rw [split_at _ w2, split_at _ l2]
  by_cases h5 : (k : Int) ≤ 5
  · rw [if_pos h5] at hp ⊢
    have hp : 0 ≤ prio ∧ prio ≤ 99 := by simpa using hp
    obtain ⟨p, rfl⟩ := Int.eq_ofNat_of_zero_le hp.1
    obtain ⟨d1, d2, -⟩ := dig_there ⟨p, by omega⟩
    have d1 : digA (digL p) = some p := d1
    have d2 : 32 ∉ digL p := d2
    rw [split_at _ c2, Int.toNat_natCast, split_no d2]
    show (if whatN (wordL k) ≠ 0 ∧ whatN (wordL k) ≤ 5 ∧ leftB (whatN (wordL k)) left = true then _ else _) = _
    rw [w1, if_pos ⟨by omega, by omega, hl⟩, hps, d1]
  · rw [if_neg h5] at hp ⊢
    have hp : prio = 0 := by simpa using hp
    subst hp
    rw [List.append_nil, split_no c2]
    show (if 5 < whatN (wordL k) ∧ leftB (whatN (wordL k)) left = true then _ else _) = _
    rw [w1, if_pos ⟨by omega, hl⟩, hps]
theorem line_rule {pr ps : List Nat → Option (List Nat)} (K : CellLaw pr ps) {l : List Nat} {n : Int} {x : Rl} (h : ruleA ps l n = some x) : mayR pr x = true ∧ lineR pr x = l ∧ x.line = n := by
  have hj := join_split 32 l
  unfold ruleA at h
  split at h
  · rename_i w a c d e
    rw [e] at hj
    split at h
    · rename_i hw
      obtain ⟨h0, h5, hl⟩ := hw
      split at h
      · rename_i cc p e1 e2
        cases h
        have hb := K.back _ _ e1
        obtain ⟨d1, d2⟩ := dig_back e2
        refine ⟨?_, ?_, rfl⟩
        · unfold mayR
          simp only [Int.toNat_natCast, hl, hb, Option.isSome_some]
          rw [if_pos (by omega), decide_eq_true (by omega), decide_eq_true (by omega)]; rfl
        · unfold lineR
          simp only [Int.toNat_natCast, hb, Option.getD_some]
          rw [if_pos (by omega), word_what h0, d1, ← hj]
          rfl
      · cases h
    · cases h
  · rename_i w a c e
    rw [e] at hj
    split at h
    · rename_i hw
      obtain ⟨h5, hl⟩ := hw
      split at h
      · rename_i cc e1
        cases h
        have hb := K.back _ _ e1
        have h8 := whatN_le w
        refine ⟨?_, ?_, rfl⟩
        · unfold mayR
          simp only [Int.toNat_natCast, hl, hb, Option.isSome_some]
          rw [if_neg (by omega), decide_eq_true (by omega)]; rfl
        · unfold lineR
          simp only [Int.toNat_natCast, hb, Option.getD_some]
          rw [if_neg (by omega), word_what (by omega), List.append_nil, ← hj]
          rfl
      · cases h
    · cases h
  · cases h
theorem line_free {pr ps : List Nat → Option (List Nat)} (K : CellLaw pr ps) {x : Rl} (h : mayR pr x = true) : 10 ∉ lineR pr x ∧ (lineR pr x).head? ≠ some 35 ∧ lineR pr x ≠ [] := by
  obtain ⟨what, left, cells, prio, line⟩ := x
  unfold mayR at h
  simp only [Bool.and_eq_true, decide_eq_true_eq] at h
  obtain ⟨⟨⟨⟨h1, h8⟩, hl⟩, hc⟩, hp⟩ := h
  obtain ⟨k, rfl⟩ := Int.eq_ofNat_of_zero_le (show 0 ≤ what by omega)
  rw [Int.toNat_natCast] at hl
  obtain ⟨t, ht⟩ := Option.isSome_iff_exists.1 hc
  obtain ⟨-, -, w3, w4, w5⟩ := what_word ⟨k, by omega⟩ (by show 1 ≤ k; omega)
  have w3 : 10 ∉ wordL k := w3
  have w4 : (wordL k).head? ≠ some 35 := w4
  have w5 : wordL k ≠ [] := w5
  have l2 := (left_free hl).2
  have c2 := (K.free _ _ ht).2
  unfold lineR
  simp only [Int.toNat_natCast, ht, Option.getD_some]
  obtain ⟨a, r, hw⟩ := List.exists_cons_of_ne_nil w5
  refine ⟨?_, ?_, ?_⟩
  · have hd : 10 ∉ (if (k : Int) ≤ 5 then 32 :: digL prio.toNat else []) := by
      by_cases h5 : (k : Int) ≤ 5
      · rw [if_pos h5] at hp ⊢
        have hp : 0 ≤ prio ∧ prio ≤ 99 := by simpa using hp
        obtain ⟨-, -, d3⟩ := dig_there ⟨prio.toNat, by omega⟩
        have d3 : 10 ∉ digL prio.toNat := d3
        simp [d3]
      · rw [if_neg h5]; simp
    simp only [List.mem_append, List.mem_cons, not_or]
    exact ⟨w3, by decide, l2, by decide, c2, hd⟩
  · rw [hw] at w4 ⊢; exact w4
  · rw [hw]; simp
end Go.Proofs.YtalehelgemmmeaaGreatDoor.Ru
