/-
  Put together: RuI, RuJ, RuK, RuP.
-/
import Derived.Test.YtalehelgemmmeaaGreatDoorRuH
import Derived.Lib.SliceRun
import Derived.Lib.AppendZerosOnto
namespace Go.Proofs.YtalehelgemmmeaaGreatDoor.Ru
open Go.RowKit Ba

theorem bytesOf_app (a b : List Nat) : bytesOf (a ++ b) = bytesOf a ++ bytesOf b := Ce.bytesOf_append a b
theorem textR_step (l : List Rl) (k : Nat) (x : Rl) (h : l[k]? = some x) : textR prC (l.take (k + 1)) = textR prC (l.take k) ++ (lineR prC x ++ [10]) := by
  unfold textR
  rw [List.take_add_one, h, Option.toList_some, List.flatMap_append, List.flatMap_singleton]
/-- A rule that may be: its parts. -/
theorem may_parts {x : Rl} (h : mayR prC x = true) : ∃ (q : Nat) (t : List Nat), x.what = (q : Int) ∧ 1 ≤ q ∧ q ≤ 8 ∧ leftB q x.left = true ∧ prC x.cells = some t ∧ (q ≤ 5 → ∃ p : Nat, x.prio = (p : Int) ∧ p ≤ 99) ∧ (5 < q → x.prio = 0) := by
  unfold mayR at h
  simp only [Bool.and_eq_true, decide_eq_true_eq] at h
  obtain ⟨⟨⟨⟨h1, h8⟩, hl⟩, hc⟩, hp⟩ := h
  obtain ⟨q, hq⟩ := Int.eq_ofNat_of_zero_le (show 0 ≤ x.what by omega)
  obtain ⟨t, ht⟩ := Option.isSome_iff_exists.1 hc
  rw [hq, Int.toNat_natCast] at hl
  refine ⟨q, t, hq, by omega, by omega, hl, ht, fun h5 => ?_, fun h5 => ?_⟩
  · rw [if_pos (by omega)] at hp
    have hp : 0 ≤ x.prio ∧ x.prio ≤ 99 := by simpa using hp
    obtain ⟨p, hp2⟩ := Int.eq_ofNat_of_zero_le hp.1
    exact ⟨p, hp2, by omega⟩
  · rw [if_neg (by omega)] at hp
    simpa using hp
theorem left_len {q : Nat} {s : List Nat} (h : leftB q s = true) : s.length ≤ 12 := by
  unfold leftB at h
  by_cases h5 : q ≤ 5
  · rw [if_pos h5, Bool.and_eq_true, decide_eq_true_eq] at h
    exact h.1.2
  rw [if_neg h5] at h
  by_cases h6 : q = 6
  · rw [if_pos h6] at h
    match s, h with
    | [b], _ => simp
  rw [if_neg h6] at h
  by_cases h7 : q = 7
  · rw [if_pos h7] at h
    match s, h with
    | [b], _ => simp
  rw [if_neg h7, List.contains_iff_mem] at h
  have : ∀ s ∈ namesL, s.length ≤ 12 := by decide +kernel
  exact this s h
theorem prC_len {c t : List Nat} (h : prC c = some t) : t.length ≤ 28 ∧ Ce.printV (bytesOf c) = bytesOf t := by
  unfold prC at h
  split at h
  · rename_i hk
    cases h
    refine ⟨?_, ?_⟩
    · have h1 := Ce.printT_len c
      have h2 := hk.2.2.1
      have h3 : (Ce.bytesOf c).size = c.length := Ce.bytesOf_size c
      omega
    · show (if Ce.printOK (Ce.bytesOf c) then Ce.bytesOf (Ce.printT (Ce.bytesN (Ce.bytesOf c))) else _) = _
      rw [if_pos hk.2, Ce.bytesN_bytesOf c hk.1]; rfl
  · cases h
theorem word_len : ∀ q : Fin 9, (wordL q.val).length ≤ 5 := by decide +kernel
theorem digL_len (p : Nat) : (digL p).length ≤ 2 := by unfold digL; split <;> simp
theorem line_len {x : Rl} (h : mayR prC x = true) : (lineR prC x ++ [10]).length ≤ 60 := by
  obtain ⟨q, t, hq, h1, h8, hl, hc, h5, -⟩ := may_parts h
  have e1 := left_len hl
  have e2 := (prC_len hc).1
  have e3 : (wordL q).length ≤ 5 := word_len ⟨q, by omega⟩
  have e4 := digL_len x.prio.toNat
  unfold lineR
  rw [hq, Int.toNat_natCast, hc, Option.getD_some]
  split <;> simp only [List.length_append, List.length_cons, List.length_nil] <;> omega
theorem text_len : ∀ (l : List Rl), (∀ x ∈ l, mayR prC x = true) → (textR prC l).length ≤ 60 * l.length
  | [], _ => Nat.le_refl _
  | x :: l, h => by
    have ih := text_len l fun y hy => h y (List.mem_cons_of_mem _ hy)
    have hx := line_len (h x (List.mem_cons_self ..))
    unfold textR at ih ⊢
    rw [List.flatMap_cons, List.length_append, List.length_cons]
    omega
theorem printZ_many {l : List Rl} (h : 400 < l.length) : printZ l = ([], 4) := by unfold printZ printR; rw [if_pos h]
theorem printZ_bad {l : List Rl} {k : Nat} {x : Rl} (h : l.length ≤ 400) (hx : l[k]? = some x) (hn : mayR prC x = false) : printZ l = ([], 1) := by
  unfold printZ printR
  rw [if_neg (by omega), if_neg]
  intro ha
  have := List.all_eq_true.1 ha x (List.mem_of_getElem? hx)
  rw [hn] at this; cases this
theorem printZ_ok {l : List Rl} (h : l.length ≤ 400) (ha : ∀ x ∈ l, mayR prC x = true) : printZ l = (textR prC l, 0) := by
  unfold printZ printR
  rw [if_neg (by omega), if_pos (List.all_eq_true.2 ha)]
theorem take_may {l : List Rl} {k : Nat} {x : Rl} (h : ∀ y ∈ l.take k, mayR prC y = true) (hx : l[k]? = some x) (hn : mayR prC x = true) : ∀ y ∈ l.take (k + 1), mayR prC y = true := fun y hy => by
  rw [List.take_add_one, hx, List.mem_append] at hy
  rcases hy with hy | hy
  · exact h y hy
  · rw [Option.toList_some, List.mem_singleton] at hy
    rw [hy]; exact hn
/-- What the next line adds to the text. -/
def lineS (q : Nat) (L D : ByteArray) : ByteArray := bytesOf (wordL q) ++ { data := #[32] } ++ L ++ { data := #[32] } ++ D
theorem line_short {x : Rl} {q : Nat} {t : List Nat} (hq : x.what = (q : Int)) (hc : prC x.cells = some t) (h5 : 5 < q) : bytesOf (lineR prC x) = bytesOf (wordL q) ++ ({ data := #[32] } ++ (bytesOf x.left ++ ({ data := #[32] } ++ bytesOf t))) := by
  unfold lineR
  rw [hq, Int.toNat_natCast, hc, Option.getD_some, if_neg (by omega), List.append_nil, bytesOf_app, show (32 :: (x.left ++ 32 :: t) : List Nat) = [32] ++ (x.left ++ ([32] ++ t)) from rfl, bytesOf_app, bytesOf_app, bytesOf_app]
  rfl
theorem line_prio {x : Rl} {q p : Nat} {t : List Nat} (hq : x.what = (q : Int)) (hc : prC x.cells = some t) (h5 : q ≤ 5) (hp : x.prio = (p : Int)) : bytesOf (lineR prC x) = bytesOf (wordL q) ++ ({ data := #[32] } ++ (bytesOf x.left ++ ({ data := #[32] } ++ (bytesOf t ++ ({ data := #[32] } ++ bytesOf (digL p)))))) := by
  unfold lineR
  rw [hq, Int.toNat_natCast, hc, Option.getD_some, if_pos (by omega), hp, Int.toNat_natCast, bytesOf_app, show (32 :: (x.left ++ 32 :: (t ++ 32 :: digL p)) : List Nat) = [32] ++ (x.left ++ ([32] ++ (t ++ ([32] ++ digL p)))) from rfl, bytesOf_app, bytesOf_app, bytesOf_app, bytesOf_app, bytesOf_app]
  rfl
def StrTo (r : List Nat × Nat) (w : World) (e : Ending) (w' : World) : Prop := e = .returned (.tuple #[.string (bytesOf r.1), .int .i64 ((r.2 : Nat) : Int)]) ∧ Below w.heap.size w w'
theorem word_cell {W : World} {B gw cw q : Nat} {wd : ByteArray} (h : W.ownsRow B 9 1 (.slice (some ⟨gw, 0, none⟩) 9 cw) 9 (rows cS ([] :: wordsL))) (q1 : 1 ≤ q) (q8 : q ≤ 8) (hw : bytesOf (wordL q) = wd) : W.cell? ⟨gw, q, none⟩ = some (.string wd) := by
  rw [← hw]
  exact part_at h (words_at q1 q8) (by omega)
end Go.Proofs.YtalehelgemmmeaaGreatDoor.Ru
namespace Go.Proofs.YtalehelgemmmeaaGreatDoor.Ru
open Go.RowKit Ba

def twoL : List Rl := [⟨1, [97, 110, 100], [47], 1, 1⟩, ⟨6, [46], [50], 0, 3⟩]
theorem two_row : rows cR twoL = [.int .i64 1, .string { data := #[97, 110, 100] }, .string { data := #[47] }, .int .i64 1, .int .i64 1, .int .i64 6, .string { data := #[46] }, .string { data := #[50] }, .int .i64 0, .int .i64 3] := by kernel_rfl
theorem two_fit : ∀ x ∈ twoL, FitR x ∧ x.left.length ≤ 9000 ∧ x.cells.length ≤ 9000 := by
  intro x hx
  rcases List.mem_cons.1 hx with rfl | hx
  · refine ⟨⟨⟨by decide, by decide⟩, ⟨by decide, by decide⟩, ⟨by decide, by decide⟩, by decide, by decide, by decide, by decide⟩, by decide, by decide⟩
  · rw [List.mem_singleton.1 hx]
    refine ⟨⟨⟨by decide, by decide⟩, ⟨by decide, by decide⟩, ⟨by decide, by decide⟩, by decide, by decide, by decide, by decide⟩, by decide, by decide⟩
def ex1 : ByteArray := { data := #[97, 110, 121, 32, 97, 110, 100, 32, 49, 50, 51, 52, 54, 32, 49, 10, 35, 32, 120, 10, 109, 97, 114, 107, 32, 46, 32, 50, 53, 54] }
def ex2 : ByteArray := { data := #[97, 110, 121, 32, 97, 110, 100, 32, 49, 50, 51, 52, 54, 32, 49, 10, 119, 111, 114, 100, 32, 97] }
theorem ex1_is : parseZ ex1 = (twoL, 0, 0) := by decide +kernel
theorem ex2_is : parseZ ex2 = ([], 2, 6) := by decide +kernel
theorem two_print : printZ twoL = ([97, 110, 121, 32, 97, 110, 100, 32, 49, 50, 51, 52, 54, 32, 49, 10, 109, 97, 114, 107, 32, 46, 32, 50, 53, 54, 10], 0) := by decide +kernel
theorem two_mark : firstR twoL 6 [46] = [50] := by decide +kernel
theorem two_sign : firstR twoL 8 (bytesN { data := #[99, 97, 112] }) = [] := by decide +kernel
theorem own_caps {w : World} {base : Nat} {e : TypeId} {size : Nat} {v : Value} {n : Nat} {xs : List Value} (h : w.ownsRow base e size v n xs) : CapsR v := fun A m c hv => by
  rcases h.2 with ⟨h1, h0⟩ | ⟨g, c', _, h1, _, _, hc, hc2, _⟩
  · rw [h1] at hv; injection hv with _ a b; subst a; subst b; exact ⟨Nat.le_refl _, by decide⟩
  · rw [h1] at hv; injection hv with _ a b; subst a; subst b; exact ⟨hc, hc2⟩
theorem go_len : ∀ (m : List (List Nat)) (n : Nat) (acc : List Rl), acc.length ≤ 400 → (goP psC m n acc).1.length ≤ 400
  | [], n, acc, h => h
  | t :: m, n, acc, h => by
    by_cases hs : t = [] ∨ t.head? = some 35
    · rw [go_skip hs]; exact go_len m (n + 1) acc h
    · cases hr : ruleA psC t n with
      | none => rw [go_bad hs hr]; exact Nat.zero_le _
      | some x =>
        rw [go_rule hs hr]
        by_cases h4 : acc.length = 400
        · rw [if_pos h4]; exact Nat.zero_le _
        · rw [if_neg h4]
          exact go_len m (n + 1) _ (by rw [List.length_append]; simp only [List.length_cons, List.length_nil]; omega)
theorem parse_len {s : ByteArray} {l : List Rl} {n z : Nat} (h : parseZ s = (l, n, z)) : l.length ≤ 400 := by
  have h2 := go_len (splitL 10 (bytesN s)) 1 [] (Nat.zero_le _)
  have h3 : (parseZ s).1 = l := by rw [h]
  rw [← h3]
  unfold parseZ parseR
  split
  · exact Nat.zero_le _
  · exact h2
end Go.Proofs.YtalehelgemmmeaaGreatDoor.Ru
namespace Go.Proofs.YtalehelgemmmeaaGreatDoor.Ru
open Go.RowKit Ba

def longX (x : Rl) : Bool := decide (50 < x.left.length) || decide (50 < x.cells.length)
def longV (l : List Rl) : Bool := decide (500 < l.length) || l.any longX
theorem not_long {l : List Rl} (h : longV l = false) : l.length ≤ 500 ∧ ∀ x ∈ l, x.left.length ≤ 50 ∧ x.cells.length ≤ 50 := by
  unfold longV at h
  rw [Bool.or_eq_false_iff, decide_eq_false_iff_not, List.any_eq_false] at h
  refine ⟨by omega, fun x hx => ?_⟩
  have := h.2 x hx
  unfold longX at this
  rw [Bool.or_eq_true, decide_eq_true_eq, decide_eq_true_eq] at this
  omega
theorem prC_lt {c t : List Nat} (h : prC c = some t) : (∀ b ∈ t, b < 256) ∧ (∀ b ∈ c, b < 256) ∧ c.length ≤ 4 := by
  unfold prC at h
  split at h
  · rename_i hk
    cases h
    exact ⟨Ce.printT_lt c, hk.1, by have h2 := hk.2.2.1; have h3 : (Ce.bytesOf c).size = c.length := Ce.bytesOf_size c; omega⟩
  · cases h
theorem word_lt : ∀ q : Fin 9, ∀ b ∈ wordL q.val, b < 256 := by decide +kernel
theorem digL_lt : ∀ p : Fin 100, ∀ b ∈ digL p.val, b < 256 := by decide +kernel
theorem line_lt {x : Rl} (h : mayR prC x = true) (hl : ∀ b ∈ x.left, b < 256) : ∀ b ∈ lineR prC x, b < 256 := by
  obtain ⟨q, t, hq, h1, h8, -, hc, h5, -⟩ := may_parts h
  intro b hb
  unfold lineR at hb
  rw [hq, Int.toNat_natCast, hc, Option.getD_some] at hb
  simp only [List.mem_append, List.mem_cons] at hb
  rcases hb with hb | rfl | hb | rfl | hb | hb
  · exact word_lt ⟨q, by omega⟩ b hb
  · decide
  · exact hl b hb
  · decide
  · exact (prC_lt hc).1 b hb
  · by_cases hq5 : (q : Int) ≤ 5
    · rw [if_pos hq5] at hb
      obtain ⟨p, hp, hp9⟩ := h5 (by omega)
      rw [hp, Int.toNat_natCast] at hb
      rcases List.mem_cons.1 hb with rfl | hb
      · decide
      · exact digL_lt ⟨p, by omega⟩ b hb
    · rw [if_neg hq5] at hb; cases hb
theorem text_lt {l : List Rl} (h : ∀ x ∈ l, mayR prC x = true ∧ ∀ b ∈ x.left, b < 256) : ∀ b ∈ textR prC l, b < 256 := by
  intro b hb
  unfold textR at hb
  obtain ⟨x, hx, hb⟩ := List.mem_flatMap.1 hb
  rcases List.mem_append.1 hb with hb | hb
  · exact line_lt (h x hx).1 (h x hx).2 b hb
  · rw [List.mem_singleton.1 hb]; decide
theorem printZ_ok_may {l : List Rl} {t : List Nat} (h : printZ l = (t, 0)) : (∀ x ∈ l, mayR prC x = true) ∧ t = textR prC l := by
  unfold printZ printR at h
  by_cases h4 : 400 < l.length
  · rw [if_pos h4] at h; cases h
  rw [if_neg h4] at h
  by_cases ha : l.all (mayR prC) = true
  · rw [if_pos ha] at h
    exact ⟨List.all_eq_true.1 ha, (Prod.mk.inj h).1.symm⟩
  · rw [if_neg ha] at h; cases h
/-- P8.6, of rules -/
theorem back_rules {l : List Rl} {t : List Nat} (h : printZ l = (t, 0)) (hf : ∀ x ∈ l, FitR x) : parseZ (bytesOf t) = if 65536 < (bytesOf t).size then ([], 0, 4) else (numL 1 l, 0, 0) := by
  obtain ⟨hm, ht⟩ := printZ_ok_may h
  have hlt : ∀ b ∈ t, b < 256 := by rw [ht]; exact text_lt fun x hx => ⟨hm x hx, (hf x hx).2.2.2.1⟩
  unfold parseZ
  rw [bytesN_bytesOf t hlt, print_parse cellLaw h, bytesOf_size]
/-- What is parsed fits its types. -/
theorem rule_fits {t : List Nat} (ht : ∀ b ∈ t, b < 256) {n : Nat} (hn : n ≤ 100000) {x : Rl} (h : ruleA psC t n = some x) : FitR x ∧ x.left.length ≤ 9000 ∧ x.cells.length ≤ 9000 := by
  obtain ⟨hm, hl, hx⟩ := line_rule cellLaw h
  obtain ⟨q, d, hq, h1, h8, hlf, hc, h5, h6⟩ := may_parts hm
  have e1 := left_len hlf
  obtain ⟨-, e2, e3⟩ := prC_lt hc
  have hb : ∀ b ∈ x.left, b < 256 := fun b hb => ht b (by
    rw [← hl]; unfold lineR
    simp only [List.mem_append, List.mem_cons]
    exact .inr (.inr (.inl hb)))
  refine ⟨⟨⟨by rw [hq]; omega, by rw [hq]; omega⟩, ?_, ⟨by rw [hx]; omega, by rw [hx]; omega⟩, hb, e2, Nat.le_trans e1 (by decide), Nat.le_trans e3 (by decide)⟩, by omega, by omega⟩
  rcases Nat.lt_or_ge 5 q with hq5 | hq5
  · rw [h6 hq5]; exact ⟨by decide, by decide⟩
  · obtain ⟨p, hp, hp9⟩ := h5 hq5
    rw [hp]; exact ⟨by omega, by omega⟩
theorem go_fits : ∀ (m : List (List Nat)) (n : Nat) (acc : List Rl), (∀ t ∈ m, ∀ b ∈ t, b < 256) → n + m.length ≤ 100000 → (∀ x ∈ acc, FitR x ∧ x.left.length ≤ 9000 ∧ x.cells.length ≤ 9000) → ∀ x ∈ (goP psC m n acc).1, FitR x ∧ x.left.length ≤ 9000 ∧ x.cells.length ≤ 9000
  | [], n, acc, _, _, h => h
  | t :: m, n, acc, hm, hn, h => by
    rw [List.length_cons] at hn
    have hm2 := fun t' ht' => hm t' (List.mem_cons_of_mem _ ht')
    by_cases hs : t = [] ∨ t.head? = some 35
    · rw [go_skip hs]; exact go_fits m (n + 1) acc hm2 (by omega) h
    · cases hr : ruleA psC t n with
      | none => rw [go_bad hs hr]; intro x hx; cases hx
      | some x =>
        rw [go_rule hs hr]
        by_cases h4 : acc.length = 400
        · rw [if_pos h4]; intro x hx; cases hx
        · rw [if_neg h4]
          refine go_fits m (n + 1) _ hm2 (by omega) fun y hy => ?_
          rcases List.mem_append.1 hy with hy | hy
          · exact h y hy
          · rw [List.mem_singleton.1 hy]
            exact rule_fits (hm t (List.mem_cons_self ..)) (by omega) hr
theorem split_length (c : Nat) (L : List Nat) : (splitL c L).length ≤ L.length + 1 := by
  rw [← split_sum c L]
  induction splitL c L with
  | nil => exact Nat.le_refl _
  | cons a m ih => rw [List.map_cons, List.sum_cons, List.length_cons]; omega
theorem parse_fits {s : ByteArray} {r : List Rl × Nat × Nat} (h : parseZ s = r) : ∀ x ∈ r.1, FitR x ∧ x.left.length ≤ 9000 ∧ x.cells.length ≤ 9000 := by
  subst h
  unfold parseZ parseR
  by_cases h6 : 65536 < (bytesN s).length
  · rw [if_pos h6]; intro x hx; cases hx
  · rw [if_neg h6]
    exact go_fits _ 1 [] (split_lt (bytesN_lt s)) (by have := split_length 10 (bytesN s); omega) (fun x hx => by cases hx)
theorem parse_none {s : ByteArray} {l : List Rl} {n z : Nat} (h : parseZ s = (l, n, z)) (hz : z ≠ 0) : l = [] := by
  unfold parseZ parseR at h
  by_cases h6 : 65536 < (bytesN s).length
  · rw [if_pos h6] at h; exact (Prod.mk.inj h).1.symm
  · rw [if_neg h6] at h
    have := (go_app (ps := psC) (splitL 10 (bytesN s)) [] 1 [] (by rw [h]; exact hz)).2
    rw [h] at this; exact this
/-- P8.6, of a text -/
theorem back_text {s : ByteArray} (hs : s.size ≤ 5000) {l : List Rl} {n : Nat} (h : parseZ s = (l, n, 0)) :
    (∀ x ∈ l, mayR prC x = true ∧ 1 ≤ x.line) ∧ (∀ i a b, l[i]? = some a → l[i + 1]? = some b → a.line < b.line) ∧ ∃ t, printZ l = (t, 0) ∧ parseZ (bytesOf t) = (numL 1 l, 0, 0) ∧ (bytesOf t).size ≤ 5001 := by
  obtain ⟨-, h2, h3, h4, h5, -⟩ := parse_print cellLaw (show parseR psC (bytesN s) = (l, n, 0) from h)
  rw [bytesN_len] at h5
  refine ⟨h2, fun i a b ha hb => ?_, textR prC l, h4, ?_, by rw [bytesOf_size]; omega⟩
  · obtain ⟨hi, ea⟩ := List.getElem?_eq_some_iff.1 ha
    obtain ⟨hj, eb⟩ := List.getElem?_eq_some_iff.1 hb
    have := List.pairwise_iff_getElem.1 h3 i (i + 1) hi hj (by omega)
    rw [ea, eb] at this; exact this
  · rw [back_rules h4 (fun x hx => (parse_fits h x hx).1), if_neg (by rw [bytesOf_size]; omega)]
end Go.Proofs.YtalehelgemmmeaaGreatDoor.Ru
namespace Go.Proofs.YtalehelgemmmeaaGreatDoor.Ru
open Go.RowKit Ba

/-- Nothing appended. -/
theorem wpList_append_zero {P : Program} (w : World) {ops : Array Oper} {rest : List Oper} {o : Oper} {a : Act} {Q : Exit → Act → World → Prop} (hg : o.guard = none) (s x : Operand) (t : TypeId) (hop : o.op = Op.call { callee := Callee.builtin Builtin.append, args := #[s, x], argTypes := #[t, t] })
    (base : Nat) (e : TypeId) (i : TypeInfo) (size : Nat) (h1 : P.underlying t = some (.slice e)) (h2 : P.info? e = some i) (v : Value) (n : Nat) (xs : List Value) (hs : a.eval s = v) (hown : w.ownsRow base e size v n xs) (A : Option Addr) (c : Nat) (hx : a.eval x = .slice A 0 c) (hK : wpList P ops Q rest (a.put o.dst v) w) :
    wpList P ops Q (o :: rest) a w := by
  refine wpList_plain hg fun K hK' => ?_
  have hrun : (Builtin.append_ #[t, t] o.type #[v, .slice A 0 c]).run P w = .ok v w := by
    rcases hown.2 with ⟨rfl, rfl⟩ | ⟨g, cap, cur, rfl, _, _, hnc, _⟩ <;> cases A <;>
      simp [Builtin.append_, run_underlying h1, sizeOf, typeInfo, Builtin.lenOf, Builtin.firstCells, storeCells, loadCells, loadCellsFrom, *]
  unfold Oper.wp
  simp [execOp, hop, resolve, invoke, builtin, hs, hx, hrun, Result.andThen]
  exact hK' _ _ hK
theorem below_cells {B b : Nat} (hb : B ≤ b) : ∀ (vs : List Value) (o : Nat) (w : World), Below B w (w.setCells b o vs)
  | [], _, _w => Below.refl _ _
  | v :: r, o, w => ((Below.refl B w).setCell (p := ⟨b, o, none⟩) hb v).trans (below_cells hb r (o + 1) _)
/-- 'clear(s)', of whatever elements. -/
theorem run_clear_any {P : Program} (w : World) (t e ty : TypeId) (z : Value) (ht : P.underlying t = some (.slice e)) (hv : ∀ w, (zeroValue e).run P w = .ok z w) (b n c : Nat) (hn : 0 < n)
    (hc : ∀ j, j < n * z.cells.size → (w.cell? ⟨b, j, none⟩).isSome = true) (hf : ∀ j, w.frozen? ⟨b, j, none⟩ = false) (h1 : ∀ v ∈ (Builtin.zeroCells z.cells n).toList, v.oneCell' = true) :
    (Builtin.clear_ #[t] ty #[.slice (some ⟨b, 0, none⟩) n c]).run P w = .ok (.tuple #[]) (w.setCells b 0 (Builtin.zeroCells z.cells n).toList) := by
  have hst := run_storeCells_cells (P := P) b 0 (Builtin.zeroCells z.cells n).toList 0 w (fun j hj => by
    rw [Array.length_toList] at hj
    simp only [Nat.zero_add]
    exact hc j (by simpa [Builtin.zeroCells] using hj)) (fun j _ => hf _) h1
  simp only [Nat.add_zero] at hst
  obtain ⟨m, rfl⟩ : ∃ m, n = m + 1 := ⟨n - 1, by omega⟩
  simp [Builtin.clear_, run_underlying ht, hv, hst]
theorem zero_string (w : World) : (zeroValue 9).run Tryz.prog w = .ok (.string { data := #[] }) w := by
  obtain ⟨i0, hi0, hz0, -, -⟩ := info_parts infoS
  simp [zeroValue, typeInfo, hi0, hz0]
theorem own_formR {w : World} {B e size n : Nat} {v : Value} {xs : List Value} (h : w.ownsRow B e size v n xs) : ∃ A c, v = .slice A n c ∧ n ≤ c ∧ c ≤ maxLen ∧ (0 < n → ∃ g, A = some ⟨g, 0, none⟩ ∧ B ≤ g) := by
  rcases h.2 with ⟨rfl, rfl⟩ | ⟨g, cap, cur, rfl, h0, _, h1, h2, _⟩
  · exact ⟨none, 0, rfl, Nat.le_refl _, Nat.zero_le _, fun h => by omega⟩
  · exact ⟨_, _, rfl, h1, h2, fun _ => ⟨g, rfl, h0⟩⟩
theorem capsR_own {w : World} {B e size n : Nat} {v : Value} {xs : List Value} (h : w.ownsRow B e size v n xs) : CapsR v := by
  obtain ⟨A, c, rfl, h1, h2, -⟩ := own_formR h
  intro A' n' c' e
  injection e with _ e1 e2
  subst e1; subst e2
  exact ⟨h1, h2⟩
/-- 'clear(names)'. -/
theorem run_clear_strings (w : World) (ty : TypeId) (B : Nat) (v : Value) (n : Nat) (l : List (List Nat)) (hl : l.length = n) (hown : w.ownsRow B 9 1 v n (rows cS l)) :
    ∃ w', (Builtin.clear_ #[70] ty #[v]).run Tryz.prog w = .ok (.tuple #[]) w' ∧ Below B w w' := by
  obtain ⟨A, c, rfl, -, -, hA⟩ := own_formR hown
  rcases Nat.eq_zero_or_pos n with h0 | h0
  · subst h0
    refine ⟨w, ?_, Below.refl _ _⟩
    cases A <;> simp [Builtin.clear_, run_underlying Tryz.underlying70]
  · obtain ⟨g, rfl, hBg⟩ := hA h0
    refine ⟨_, run_clear_any w _ _ ty _ Tryz.underlying70 zero_string g n c h0 (fun j hj => ?_) (fun j => hown.frozenAt j) ?_, below_cells hBg _ _ _⟩
    · have hj : j < n * 1 := hj
      rw [hown.cellAt j hj, List.getElem?_eq_getElem (by rw [rows_length cS cS_len, hl]; exact hj)]; rfl
    · intro u hu
      unfold Builtin.zeroCells at hu
      rw [Array.toList_map, List.mem_map] at hu
      obtain ⟨i, -, rfl⟩ := hu
      have e : (Value.string { data := #[] }).cells = #[.string { data := #[] }] := rfl
      rw [e, Array.size_singleton, Nat.mod_one]
      rfl
theorem cells_newsR {g off : Nat} {w : World} {l : List Rl} (h : ∀ k x, l[k]? = some x → ∀ j u, (cR x)[j]? = some u → w.cell? ⟨g, off + (k * 5 + j), none⟩ = some u) :
    ∀ j u, (rows cR l)[j]? = some u → w.cell? ((⟨g, off, none⟩ : Addr).add j) = some u := by
  intro j u hu
  have hj : j < (rows cR l).length := (List.getElem?_eq_some_iff.1 hu).1
  rw [rows_length cR cR_len] at hj
  have hk : j / 5 < l.length := by omega
  have e := rows_at cR cR_len l (j / 5) _ (List.getElem?_eq_getElem hk) (j % 5) (Nat.mod_lt _ (by omega))
  have e2 : j / 5 * 5 + j % 5 = j := by omega
  rw [e2, hu] at e
  have := h (j / 5) _ (List.getElem?_eq_getElem hk) (j % 5) u e.symm
  rw [e2] at this
  have e3 : (⟨g, off, none⟩ : Addr).add j = ⟨g, off + j, none⟩ := by unfold Addr.add; split <;> simp_all
  rw [e3]; exact this
theorem rows_cellsR (l : List Rl) : ∀ u ∈ rows cR l, u.oneCell' = true := by
  intro u hu
  unfold rows at hu
  rw [List.mem_flatMap] at hu
  obtain ⟨x, _, hx⟩ := hu
  simp [cR] at hx
  rcases hx with rfl | rfl | rfl | rfl | rfl <;> rfl
theorem str_cell {W : World} {B g n c k : Nat} {l : List (List Nat)} {s : List Nat} (h : W.ownsRow B 9 1 (.slice (some ⟨g, 0, none⟩) n c) n (rows cS l)) (hk : k < n) (hs : l[k]? = some s) : W.cell? ⟨g, k, none⟩ = some (.string (bytesOf s)) := by
  rw [h.cellAt k (by omega)]
  have := rows_at cS cS_len l k s hs 0 (by omega)
  rw [Nat.mul_one, Nat.add_zero] at this
  exact this
/-- 'append([]Rule{}, l...)'. -/
theorem wpList_append_rules (w : World) {ops : Array Oper} {rest : List Oper} {o : Oper} {a : Act} {Q : Exit → Act → World → Prop} (hgd : o.guard = none) (s x : Operand)
    (ho : o.op = .call { callee := .builtin .append, args := #[s, x], argTypes := #[22, 22] })
    (v0 : Value) (hs : a.eval s = v0) (B : Nat) (hown : w.ownsRow B 36 5 v0 0 []) (hB : B ≤ w.heap.size) (A : Option Addr) (n c off B' : Nat) (l : List Rl) (hx : a.eval x = .slice A n c) (hl : l.length = n) (hn : n ≤ 9000) (hr : ReadsR off w B' (.slice A n c) l)
    (h : ∀ v' w', w'.ownsRow B 36 5 v' n (rows cR l) → w.grownBy w' v0.ownBlock → wpList Tryz.prog ops Q rest (a.put o.dst v') w') : wpList Tryz.prog ops Q (o :: rest) a w := by
  obtain ⟨i0, hi0, hz0, hz1, hz2⟩ := info_parts infoR
  rcases Nat.eq_zero_or_pos n with h0 | h0
  · subst h0
    have : l = [] := List.length_eq_zero_iff.1 hl
    subst this
    exact wpList_append_zero w hgd s x _ ho B _ i0 5 Tryz.underlying22 hi0 v0 0 [] hs hown A c hx (h v0 w hown ⟨rfl, rfl, rfl, Nat.le_refl _, fun _ _ _ => rfl⟩)
  · obtain ⟨A', c', e, hA⟩ := hr
    injection e with e1 e2 e3
    subst e1
    obtain ⟨g, rfl, -, hc⟩ := hA (by omega)
    refine wpList_append_own w hgd s x _ ho B _ i0 _ 5 56 Tryz.underlying22 hi0 hz0 hz1 hz2 rfl (by decide) v0 0 [] hs hown ⟨g, off, none⟩ n c (rows cR l) hx (by rw [rows_length cR cR_len, hl]) (cells_newsR hc) (rows_cellsR l) (by unfold maxLen; omega) (by omega) hB ?_
    intro v' w' h1 h2 _
    rw [Nat.zero_add, List.nil_append] at h1
    exact h v' w' h1 h2
/-- 'append(own, l...)', of whatever rules. -/
theorem wpList_append_more (w : World) {ops : Array Oper} {rest : List Oper} {o : Oper} {a : Act} {Q : Exit → Act → World → Prop} (hgd : o.guard = none) (s x : Operand)
    (ho : o.op = .call { callee := .builtin .append, args := #[s, x], argTypes := #[22, 22] })
    (v0 : Value) (hs : a.eval s = v0) (B k : Nat) (xs : List Rl) (_hk : xs.length = k) (hown : w.ownsRow B 36 5 v0 k (rows cR xs)) (hB : B ≤ w.heap.size) (A : Option Addr) (n c off B' : Nat) (l : List Rl) (hx : a.eval x = .slice A n c) (hl : l.length = n) (hn : k + n ≤ 9000) (hr : ReadsR off w B' (.slice A n c) l)
    (h : ∀ v' w', w'.ownsRow B 36 5 v' (k + n) (rows cR (xs ++ l)) → w.grownBy w' v0.ownBlock → wpList Tryz.prog ops Q rest (a.put o.dst v') w') : wpList Tryz.prog ops Q (o :: rest) a w := by
  obtain ⟨i0, hi0, hz0, hz1, hz2⟩ := info_parts infoR
  rcases Nat.eq_zero_or_pos n with h0 | h0
  · subst h0
    have : l = [] := List.length_eq_zero_iff.1 hl
    subst this
    exact wpList_append_zero w hgd s x _ ho B _ i0 5 Tryz.underlying22 hi0 v0 k _ hs hown A c hx (h v0 w (by rw [List.append_nil]; exact hown) ⟨rfl, rfl, rfl, Nat.le_refl _, fun _ _ _ => rfl⟩)
  · obtain ⟨A', c', e, hA⟩ := hr
    injection e with e1 e2 e3
    subst e1
    obtain ⟨g, rfl, -, hc⟩ := hA (by omega)
    refine wpList_append_own w hgd s x _ ho B _ i0 _ 5 56 Tryz.underlying22 hi0 hz0 hz1 hz2 rfl (by decide) v0 k _ hs hown ⟨g, off, none⟩ n c (rows cR l) hx (by rw [rows_length cR cR_len, hl]) (cells_newsR hc) (rows_cellsR l) (by unfold maxLen; omega) (by omega) hB ?_
    intro v' w' h1 h2 _
    rw [← rows_append] at h1
    exact h v' w' h1 h2
/-- An append whose run is known. -/
theorem wpList_append_by {P : Program} (w w' : World) {ops : Array Oper} {rest : List Oper} {o : Oper} {a : Act} {Q : Exit → Act → World → Prop} (hg : o.guard = none) (s x : Operand) (t1 t2 : TypeId) (hop : o.op = Op.call { callee := Callee.builtin Builtin.append, args := #[s, x], argTypes := #[t1, t2] })
    (v y r : Value) (hs : a.eval s = v) (hx : a.eval x = y) (hrun : (Builtin.append_ #[t1, t2] o.type #[v, y]).run P w = .ok r w') (hK : wpList P ops Q rest (a.put o.dst r) w') : wpList P ops Q (o :: rest) a w := by
  refine wpList_plain hg fun K hK' => ?_
  unfold Oper.wp
  simp [execOp, hop, resolve, invoke, builtin, hs, hx, hrun, Result.andThen]
  exact hK' _ _ hK
end Go.Proofs.YtalehelgemmmeaaGreatDoor.Ru
