/-
  Layer 8's document: a table, printed.
-/
import Derived.Test.YtkhfingenjlpfaaDoorRuH
namespace Go.Proofs.YtkhfingenjlpfaaDoor.Ru
open Go.RowKit Ba

theorem bytesOf_app (a b : List Nat) : bytesOf (a ++ b) = bytesOf a ++ bytesOf b := Ce.bytesOf_append a b
theorem textR_step (l : List Rl) (k : Nat) (x : Rl) (h : l[k]? = some x) : textR prC (l.take (k + 1)) = textR prC (l.take k) ++ (lineR prC x ++ [10]) := by
  unfold textR
  rw [List.take_add_one, h, Option.toList_some, List.flatMap_append, List.flatMap_singleton]
/-- A rule that may be: its parts. -/
theorem may_parts {x : Rl} (h : mayR prC x = true) : ∃ (q : Nat) (t : List Nat), x.what = (q : Int) ∧ 1 ≤ q ∧ q ≤ 8 ∧ leftB q x.left = true ∧ prC x.cells = some t ∧ (q ≤ 5 → ∃ p : Nat, x.prio = (p : Int) ∧ p ≤ 99) ∧ (5 < q → x.prio = 0) := by
  unfold mayR at h
  simp only [Bool.and_eq_true, decide_eq_true_eq] at h
  obtain ⟨⟨⟨⟨h1, h8⟩, hl⟩, hc⟩, hp⟩ := h
  obtain ⟨q, hq⟩ := Int.eq_ofNat_of_zero_le (show 0 ≤ x.what by omega)
  obtain ⟨t, ht⟩ := Option.isSome_iff_exists.1 hc
  rw [hq, Int.toNat_natCast] at hl
  refine ⟨q, t, hq, by omega, by omega, hl, ht, fun h5 => ?_, fun h5 => ?_⟩
  · rw [if_pos (by omega)] at hp
    have hp : 0 ≤ x.prio ∧ x.prio ≤ 99 := by simpa using hp
    obtain ⟨p, hp2⟩ := Int.eq_ofNat_of_zero_le hp.1
    exact ⟨p, hp2, by omega⟩
  · rw [if_neg (by omega)] at hp
    simpa using hp
theorem left_len {q : Nat} {s : List Nat} (h : leftB q s = true) : s.length ≤ 12 := by
  unfold leftB at h
  by_cases h5 : q ≤ 5
  · rw [if_pos h5, Bool.and_eq_true, decide_eq_true_eq] at h
    exact h.1.2
  rw [if_neg h5] at h
  by_cases h6 : q = 6
  · rw [if_pos h6] at h
    match s, h with
    | [b], _ => simp
  rw [if_neg h6] at h
  by_cases h7 : q = 7
  · rw [if_pos h7] at h
    match s, h with
    | [b], _ => simp
  rw [if_neg h7, List.contains_iff_mem] at h
  have : ∀ s ∈ namesL, s.length ≤ 12 := by decide +kernel
  exact this s h
theorem prC_len {c t : List Nat} (h : prC c = some t) : t.length ≤ 28 ∧ Ce.printV (bytesOf c) = bytesOf t := by
  unfold prC at h
  split at h
  · rename_i hk
    cases h
    refine ⟨?_, ?_⟩
    · have h1 := Ce.printT_len c
      have h2 := hk.2.2.1
      have h3 : (Ce.bytesOf c).size = c.length := Ce.bytesOf_size c
      omega
    · show (if Ce.printOK (Ce.bytesOf c) then Ce.bytesOf (Ce.printT (Ce.bytesN (Ce.bytesOf c))) else _) = _
      rw [if_pos hk.2, Ce.bytesN_bytesOf c hk.1]; rfl
  · cases h
theorem word_len : ∀ q : Fin 9, (wordL q.val).length ≤ 5 := by decide +kernel
theorem digL_len (p : Nat) : (digL p).length ≤ 2 := by unfold digL; split <;> simp
theorem line_len {x : Rl} (h : mayR prC x = true) : (lineR prC x ++ [10]).length ≤ 60 := by
  obtain ⟨q, t, hq, h1, h8, hl, hc, h5, -⟩ := may_parts h
  have e1 := left_len hl
  have e2 := (prC_len hc).1
  have e3 : (wordL q).length ≤ 5 := word_len ⟨q, by omega⟩
  have e4 := digL_len x.prio.toNat
  unfold lineR
  rw [hq, Int.toNat_natCast, hc, Option.getD_some]
  split <;> simp only [List.length_append, List.length_cons, List.length_nil] <;> omega
theorem text_len : ∀ (l : List Rl), (∀ x ∈ l, mayR prC x = true) → (textR prC l).length ≤ 60 * l.length
  | [], _ => Nat.le_refl _
  | x :: l, h => by
    have ih := text_len l fun y hy => h y (List.mem_cons_of_mem _ hy)
    have hx := line_len (h x (List.mem_cons_self ..))
    unfold textR at ih ⊢
    rw [List.flatMap_cons, List.length_append, List.length_cons]
    omega
theorem printZ_many {l : List Rl} (h : 400 < l.length) : printZ l = ([], 4) := by unfold printZ printR; rw [if_pos h]
theorem printZ_bad {l : List Rl} {k : Nat} {x : Rl} (h : l.length ≤ 400) (hx : l[k]? = some x) (hn : mayR prC x = false) : printZ l = ([], 1) := by
  unfold printZ printR
  rw [if_neg (by omega), if_neg]
  intro ha
  have := List.all_eq_true.1 ha x (List.mem_of_getElem? hx)
  rw [hn] at this; cases this
theorem printZ_ok {l : List Rl} (h : l.length ≤ 400) (ha : ∀ x ∈ l, mayR prC x = true) : printZ l = (textR prC l, 0) := by
  unfold printZ printR
  rw [if_neg (by omega), if_pos (List.all_eq_true.2 ha)]
theorem take_may {l : List Rl} {k : Nat} {x : Rl} (h : ∀ y ∈ l.take k, mayR prC y = true) (hx : l[k]? = some x) (hn : mayR prC x = true) : ∀ y ∈ l.take (k + 1), mayR prC y = true := fun y hy => by
  rw [List.take_add_one, hx, List.mem_append] at hy
  rcases hy with hy | hy
  · exact h y hy
  · rw [Option.toList_some, List.mem_singleton] at hy
    rw [hy]; exact hn
/-- What the next line adds to the text. -/
def lineS (q : Nat) (L D : ByteArray) : ByteArray := bytesOf (wordL q) ++ { data := #[32] } ++ L ++ { data := #[32] } ++ D
theorem line_short {x : Rl} {q : Nat} {t : List Nat} (hq : x.what = (q : Int)) (hc : prC x.cells = some t) (h5 : 5 < q) : bytesOf (lineR prC x) = bytesOf (wordL q) ++ ({ data := #[32] } ++ (bytesOf x.left ++ ({ data := #[32] } ++ bytesOf t))) := by
  unfold lineR
  rw [hq, Int.toNat_natCast, hc, Option.getD_some, if_neg (by omega), List.append_nil, bytesOf_app, show (32 :: (x.left ++ 32 :: t) : List Nat) = [32] ++ (x.left ++ ([32] ++ t)) from rfl, bytesOf_app, bytesOf_app, bytesOf_app]
  rfl
theorem line_prio {x : Rl} {q p : Nat} {t : List Nat} (hq : x.what = (q : Int)) (hc : prC x.cells = some t) (h5 : q ≤ 5) (hp : x.prio = (p : Int)) : bytesOf (lineR prC x) = bytesOf (wordL q) ++ ({ data := #[32] } ++ (bytesOf x.left ++ ({ data := #[32] } ++ (bytesOf t ++ ({ data := #[32] } ++ bytesOf (digL p)))))) := by
  unfold lineR
  rw [hq, Int.toNat_natCast, hc, Option.getD_some, if_pos (by omega), hp, Int.toNat_natCast, bytesOf_app, show (32 :: (x.left ++ 32 :: (t ++ 32 :: digL p)) : List Nat) = [32] ++ (x.left ++ ([32] ++ (t ++ ([32] ++ digL p)))) from rfl, bytesOf_app, bytesOf_app, bytesOf_app, bytesOf_app, bytesOf_app]
  rfl
def StrTo (r : List Nat × Nat) (w : World) (e : Ending) (w' : World) : Prop := e = .returned (.tuple #[.string (bytesOf r.1), .int .i64 ((r.2 : Nat) : Int)]) ∧ Below w.heap.size w w'
theorem word_cell {W : World} {B gw cw q : Nat} {wd : ByteArray} (h : W.ownsRow B 9 1 (.slice (some ⟨gw, 0, none⟩) 9 cw) 9 (rows cS ([] :: wordsL))) (q1 : 1 ≤ q) (q8 : q ≤ 8) (hw : bytesOf (wordL q) = wd) : W.cell? ⟨gw, q, none⟩ = some (.string wd) := by
  rw [← hw]
  exact part_at h (words_at q1 q8) (by omega)
end Go.Proofs.YtkhfingenjlpfaaDoor.Ru
