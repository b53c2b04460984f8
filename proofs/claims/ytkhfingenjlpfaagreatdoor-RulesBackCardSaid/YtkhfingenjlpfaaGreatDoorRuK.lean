/-
  styluslaw08's long; RulesBack, whatever it is called with.
-/
import Derived.Test.YtkhfingenjlpfaaGreatDoorRuJ
namespace Go.Proofs.YtkhfingenjlpfaaGreatDoor.Ru
open Go.RowKit Ba

def longX (x : Rl) : Bool := decide (50 < x.left.length) || decide (50 < x.cells.length)
def longV (l : List Rl) : Bool := decide (500 < l.length) || l.any longX
theorem not_long {l : List Rl} (h : longV l = false) : l.length ≤ 500 ∧ ∀ x ∈ l, x.left.length ≤ 50 ∧ x.cells.length ≤ 50 := by
  unfold longV at h
  rw [Bool.or_eq_false_iff, decide_eq_false_iff_not, List.any_eq_false] at h
  refine ⟨by omega, fun x hx => ?_⟩
  have := h.2 x hx
  unfold longX at this
  rw [Bool.or_eq_true, decide_eq_true_eq, decide_eq_true_eq] at this
  omega
set_option maxHeartbeats 4000000 in
/-- styluslaw08.long -/
theorem long8_at (v : Value) (l : List Rl) (off : Nat) (_hl : l.length ≤ maxLen) (w : World) (B : Nat) (hv : ReadsR off w B v l) (b : Bool) (hb : longV l = b) :
    Calls Tryz.prog 10 #[v] w fun e w' => e = .returned (.bool b) ∧ w' = w := by
  obtain ⟨A, c, rfl, hA⟩ := hv
  have HA := Lib.hid hA; clear hA
  have HB := Lib.hid hb; clear hb
  go_enter Tryz.func10, Tryz.ntmps10
  by_cases h500 : 500 < l.length
  · have HV := Lib.hid (show true = b by rw [← HB.out]; unfold longV; rw [decide_eq_true h500, Bool.true_or])
    go_wp2
    go_ret
    rw [← HV.out]
    exact ⟨rfl, rfl⟩
  have t500 : decide (500 < (l.length : Int)) = false := decide_eq_false (by omega)
  have h501 : l.length ≤ 500 := by omega
  clear h500
  go_wp2
  go_loopw [3] (fun i wr => ∃ k : Nat, k ≤ l.length ∧ i = .int .i64 k ∧ (∀ x ∈ l.take k, longX x = false) ∧ wr = w) (fun i _ => l.length - (intOf i).toNat)
  case atStart => exact ⟨0, by omega, rfl, fun x hx => by simp at hx, rfl⟩
  case round =>
    obtain ⟨k, hk, rfl, hN, rfl⟩ := hrel
    by_cases hlt : k < l.length
    · obtain ⟨g, rfl, -, hg⟩ := HA.out (by omega)
      obtain ⟨x, hx⟩ : ∃ x, l[k]? = some x := ⟨_, List.getElem?_eq_getElem hlt⟩
      obtain ⟨-, g1, g2, -, -⟩ := rcell hg k x hx
      have s1 : (bytesOf x.left).size = x.left.length := bytesOf_size _
      have s2 : (bytesOf x.cells).size = x.cells.length := bytesOf_size _
      have HX := Lib.hid hx
      obtain ⟨L, hL⟩ : ∃ L, bytesOf x.left = L := ⟨_, rfl⟩
      obtain ⟨C, hC⟩ : ∃ C, bytesOf x.cells = C := ⟨_, rfl⟩
      rw [hL] at g1 s1
      rw [hC] at g2 s2
      have hyes : longX x = true → true = b := fun h => by
        rw [← HB.out]; unfold longV
        rw [List.any_eq_true.2 ⟨x, List.mem_of_getElem? hx, h⟩, Bool.or_true]
      have hno : longX x = false → ∀ y ∈ l.take (k + 1), longX y = false := fun h y hy => by
        rw [List.take_add_one, HX.out, List.mem_append] at hy
        rcases hy with hy | hy
        · exact hN y hy
        · rw [Option.toList_some, List.mem_singleton] at hy
          rw [hy]; exact h
      clear hg hx hL hC hN HA
      by_cases c1 : 50 < L.size
      · have HV := Lib.hid (hyes (by unfold longX; rw [decide_eq_true (by omega), Bool.true_or]))
        clear hyes hno s1 s2
        go_wp2
        go_ret
        rw [← HV.out]
        exact ⟨rfl, rfl⟩
      · have u1 : decide (50 < (L.size : Int)) = false := decide_eq_false (by omega)
        by_cases c2 : 50 < C.size
        · have HV := Lib.hid (hyes (by unfold longX; rw [decide_eq_true (p := 50 < x.cells.length) (by omega), Bool.or_true]))
          clear hyes hno s1 s2 c1
          go_wp2
          go_ret
          rw [← HV.out]
          exact ⟨rfl, rfl⟩
        · have u2 : decide (50 < (C.size : Int)) = false := decide_eq_false (by omega)
          have HV := Lib.hid (hno (by unfold longX; rw [decide_eq_false (by omega), decide_eq_false (by omega)]; rfl))
          clear hyes hno s1 s2 c1 c2
          go_wp2
          go_roundw
          case rel => exact ⟨k + 1, by omega, by go_num, HV.out, trivial⟩
          case measure => simp [intOf]; omega
    · obtain rfl : k = l.length := by omega
      rw [List.take_length] at hN
      have HV := Lib.hid (show false = b by
        rw [← HB.out]; unfold longV
        rw [decide_eq_false (by omega), List.any_eq_false.2 (fun x hx => by rw [hN x hx]; exact Bool.false_ne_true)]; rfl)
      clear hN
      go_wp2
      go_ret
      rw [← HV.out]
      exact ⟨rfl, rfl⟩
/-! ### there and back, of bytes -/
theorem prC_lt {c t : List Nat} (h : prC c = some t) : (∀ b ∈ t, b < 256) ∧ (∀ b ∈ c, b < 256) ∧ c.length ≤ 4 := by
  unfold prC at h
  split at h
  · rename_i hk
    cases h
    exact ⟨Ce.printT_lt c, hk.1, by have h2 := hk.2.2.1; have h3 : (Ce.bytesOf c).size = c.length := Ce.bytesOf_size c; omega⟩
  · cases h
theorem word_lt : ∀ q : Fin 9, ∀ b ∈ wordL q.val, b < 256 := by decide +kernel
theorem digL_lt : ∀ p : Fin 100, ∀ b ∈ digL p.val, b < 256 := by decide +kernel
theorem line_lt {x : Rl} (h : mayR prC x = true) (hl : ∀ b ∈ x.left, b < 256) : ∀ b ∈ lineR prC x, b < 256 := by
  obtain ⟨q, t, hq, h1, h8, -, hc, h5, -⟩ := may_parts h
  intro b hb
  unfold lineR at hb
  rw [hq, Int.toNat_natCast, hc, Option.getD_some] at hb
  simp only [List.mem_append, List.mem_cons] at hb
  rcases hb with hb | rfl | hb | rfl | hb | hb
  · exact word_lt ⟨q, by omega⟩ b hb
  · decide
  · exact hl b hb
  · decide
  · exact (prC_lt hc).1 b hb
  · by_cases hq5 : (q : Int) ≤ 5
    · rw [if_pos hq5] at hb
      obtain ⟨p, hp, hp9⟩ := h5 (by omega)
      rw [hp, Int.toNat_natCast] at hb
      rcases List.mem_cons.1 hb with rfl | hb
      · decide
      · exact digL_lt ⟨p, by omega⟩ b hb
    · rw [if_neg hq5] at hb; cases hb
theorem text_lt {l : List Rl} (h : ∀ x ∈ l, mayR prC x = true ∧ ∀ b ∈ x.left, b < 256) : ∀ b ∈ textR prC l, b < 256 := by
  intro b hb
  unfold textR at hb
  obtain ⟨x, hx, hb⟩ := List.mem_flatMap.1 hb
  rcases List.mem_append.1 hb with hb | hb
  · exact line_lt (h x hx).1 (h x hx).2 b hb
  · rw [List.mem_singleton.1 hb]; decide
theorem printZ_ok_may {l : List Rl} {t : List Nat} (h : printZ l = (t, 0)) : (∀ x ∈ l, mayR prC x = true) ∧ t = textR prC l := by
  unfold printZ printR at h
  by_cases h4 : 400 < l.length
  · rw [if_pos h4] at h; cases h
  rw [if_neg h4] at h
  by_cases ha : l.all (mayR prC) = true
  · rw [if_pos ha] at h
    exact ⟨List.all_eq_true.1 ha, (Prod.mk.inj h).1.symm⟩
  · rw [if_neg ha] at h; cases h
/-- P8.6, of rules -/
theorem back_rules {l : List Rl} {t : List Nat} (h : printZ l = (t, 0)) (hf : ∀ x ∈ l, FitR x) : parseZ (bytesOf t) = if 65536 < (bytesOf t).size then ([], 0, 4) else (numL 1 l, 0, 0) := by
  obtain ⟨hm, ht⟩ := printZ_ok_may h
  have hlt : ∀ b ∈ t, b < 256 := by rw [ht]; exact text_lt fun x hx => ⟨hm x hx, (hf x hx).2.2.2.1⟩
  unfold parseZ
  rw [bytesN_bytesOf t hlt, print_parse cellLaw h, bytesOf_size]
/-- What is parsed fits its types. -/
theorem rule_fits {t : List Nat} (ht : ∀ b ∈ t, b < 256) {n : Nat} (hn : n ≤ 100000) {x : Rl} (h : ruleA psC t n = some x) : FitR x ∧ x.left.length ≤ 9000 ∧ x.cells.length ≤ 9000 := by
  obtain ⟨hm, hl, hx⟩ := line_rule cellLaw h
  obtain ⟨q, d, hq, h1, h8, hlf, hc, h5, h6⟩ := may_parts hm
  have e1 := left_len hlf
  obtain ⟨-, e2, e3⟩ := prC_lt hc
  have hb : ∀ b ∈ x.left, b < 256 := fun b hb => ht b (by
    rw [← hl]; unfold lineR
    simp only [List.mem_append, List.mem_cons]
    exact .inr (.inr (.inl hb)))
  refine ⟨⟨⟨by rw [hq]; omega, by rw [hq]; omega⟩, ?_, ⟨by rw [hx]; omega, by rw [hx]; omega⟩, hb, e2, Nat.le_trans e1 (by decide), Nat.le_trans e3 (by decide)⟩, by omega, by omega⟩
  rcases Nat.lt_or_ge 5 q with hq5 | hq5
  · rw [h6 hq5]; exact ⟨by decide, by decide⟩
  · obtain ⟨p, hp, hp9⟩ := h5 hq5
    rw [hp]; exact ⟨by omega, by omega⟩
theorem go_fits : ∀ (m : List (List Nat)) (n : Nat) (acc : List Rl), (∀ t ∈ m, ∀ b ∈ t, b < 256) → n + m.length ≤ 100000 → (∀ x ∈ acc, FitR x ∧ x.left.length ≤ 9000 ∧ x.cells.length ≤ 9000) → ∀ x ∈ (goP psC m n acc).1, FitR x ∧ x.left.length ≤ 9000 ∧ x.cells.length ≤ 9000
  | [], n, acc, _, _, h => h
  | t :: m, n, acc, hm, hn, h => by
    rw [List.length_cons] at hn
    have hm2 := fun t' ht' => hm t' (List.mem_cons_of_mem _ ht')
    by_cases hs : t = [] ∨ t.head? = some 35
    · rw [go_skip hs]; exact go_fits m (n + 1) acc hm2 (by omega) h
    · cases hr : ruleA psC t n with
      | none => rw [go_bad hs hr]; intro x hx; cases hx
      | some x =>
        rw [go_rule hs hr]
        by_cases h4 : acc.length = 400
        · rw [if_pos h4]; intro x hx; cases hx
        · rw [if_neg h4]
          refine go_fits m (n + 1) _ hm2 (by omega) fun y hy => ?_
          rcases List.mem_append.1 hy with hy | hy
          · exact h y hy
          · rw [List.mem_singleton.1 hy]
            exact rule_fits (hm t (List.mem_cons_self ..)) (by omega) hr
theorem split_length (c : Nat) (L : List Nat) : (splitL c L).length ≤ L.length + 1 := by
  rw [← split_sum c L]
  induction splitL c L with
  | nil => exact Nat.le_refl _
  | cons a m ih => rw [List.map_cons, List.sum_cons, List.length_cons]; omega
theorem parse_fits {s : ByteArray} {r : List Rl × Nat × Nat} (h : parseZ s = r) : ∀ x ∈ r.1, FitR x ∧ x.left.length ≤ 9000 ∧ x.cells.length ≤ 9000 := by
  subst h
  unfold parseZ parseR
  by_cases h6 : 65536 < (bytesN s).length
  · rw [if_pos h6]; intro x hx; cases hx
  · rw [if_neg h6]
    exact go_fits _ 1 [] (split_lt (bytesN_lt s)) (by have := split_length 10 (bytesN s); omega) (fun x hx => by cases hx)
theorem parse_none {s : ByteArray} {l : List Rl} {n z : Nat} (h : parseZ s = (l, n, z)) (hz : z ≠ 0) : l = [] := by
  unfold parseZ parseR at h
  by_cases h6 : 65536 < (bytesN s).length
  · rw [if_pos h6] at h; exact (Prod.mk.inj h).1.symm
  · rw [if_neg h6] at h
    have := (go_app (ps := psC) (splitL 10 (bytesN s)) [] 1 [] (by rw [h]; exact hz)).2
    rw [h] at this; exact this
/-- P8.6, of a text -/
theorem back_text {s : ByteArray} (hs : s.size ≤ 5000) {l : List Rl} {n : Nat} (h : parseZ s = (l, n, 0)) :
    (∀ x ∈ l, mayR prC x = true ∧ 1 ≤ x.line) ∧ (∀ i a b, l[i]? = some a → l[i + 1]? = some b → a.line < b.line) ∧ ∃ t, printZ l = (t, 0) ∧ parseZ (bytesOf t) = (numL 1 l, 0, 0) ∧ (bytesOf t).size ≤ 5001 := by
  obtain ⟨-, h2, h3, h4, h5, -⟩ := parse_print cellLaw (show parseR psC (bytesN s) = (l, n, 0) from h)
  rw [bytesN_len] at h5
  refine ⟨h2, fun i a b ha hb => ?_, textR prC l, h4, ?_, by rw [bytesOf_size]; omega⟩
  · obtain ⟨hi, ea⟩ := List.getElem?_eq_some_iff.1 ha
    obtain ⟨hj, eb⟩ := List.getElem?_eq_some_iff.1 hb
    have := List.pairwise_iff_getElem.1 h3 i (i + 1) hi hj (by omega)
    rw [ea, eb] at this; exact this
  · rw [back_rules h4 (fun x hx => (parse_fits h x hx).1), if_neg (by rw [bytesOf_size]; omega)]
end Go.Proofs.YtkhfingenjlpfaaGreatDoor.Ru
