/-
  Plain: what is read of two sources, one behind the other.
-/
import Derived.Test.YtgdealdpphcamaaDoorLxY
namespace Go.Proofs.YtgdealdpphcamaaDoor.Lx
open Go.RowKit

theorem bytesN_append (u t : ByteArray) : bytesN (u ++ t) = bytesN u ++ bytesN t := by
  unfold bytesN; rw [ByteArray.data_append, Array.toList_append, List.map_append]
theorem bAt_left (u t : ByteArray) (i : Nat) (h : i < u.size) : bAt (u ++ t) i = bAt u i := by
  unfold bAt
  rw [bytesN_append, List.getD_eq_getElem?_getD, List.getD_eq_getElem?_getD, List.getElem?_append_left (by rw [bytesN_len]; exact h)]
theorem bAt_right (u t : ByteArray) (i : Nat) : bAt (u ++ t) (u.size + i) = bAt t i := by
  unfold bAt
  rw [bytesN_append, List.getD_eq_getElem?_getD, List.getD_eq_getElem?_getD, List.getElem?_append_right (by rw [bytesN_len]; omega), bytesN_len, Nat.add_sub_cancel_left]
theorem ext_left (u t : ByteArray) (p e : Nat) (h : e ≤ u.size) : (u ++ t).extract p e = u.extract p e := by
  apply bytes_ext
  rw [bytesN_ext, bytesN_ext, bytesN_append]
  have hl := bytesN_len u
  rcases Nat.lt_or_ge e p with h1 | h1
  · rw [show e - p = 0 from by omega]; simp
  · rw [List.drop_append_of_le_length (by omega), List.take_append_of_le_length (by rw [List.length_drop]; omega)]
theorem ext_right (u t : ByteArray) (p e : Nat) : (u ++ t).extract (u.size + p) (u.size + e) = t.extract p e := by
  apply bytes_ext
  rw [bytesN_ext, bytesN_ext, bytesN_append, show u.size + e - (u.size + p) = e - p from by omega]
  congr 1
  have hl := bytesN_len u
  rw [← hl, List.drop_append]
  simp
theorem size_app (u t : ByteArray) : (u ++ t).size = u.size + t.size := ByteArray.size_append

theorem fits_left {u t : ByteArray} {q c : Nat} (h : q + (nameS c).size ≤ u.size) : fits (u ++ t) q c ↔ fits u q c := by
  unfold fits
  rw [ext_left u t q _ h, size_app]
  exact ⟨fun x => ⟨h, x.2⟩, fun x => ⟨by omega, x.2⟩⟩
theorem fits_right (u t : ByteArray) (q c : Nat) : fits (u ++ t) (u.size + q) c ↔ fits t q c := by
  unfold fits
  rw [show u.size + q + (nameS c).size = u.size + (q + (nameS c).size) from by omega, ext_right, size_app]
  exact ⟨fun x => ⟨by omega, x.2⟩, fun x => ⟨by omega, x.2⟩⟩
theorem name_no : ∀ k : Fin 13, ∀ x ∈ nameL (letterN k.val), x ≠ 125 ∧ x < 256 := by decide +kernel
/-- No name reaches over a closing. -/
theorem fits_stop {s : ByteArray} {q z k : Nat} (hk : k < 13) (hq : q ≤ z) (hz : bAt s z = 125) (h : fits s q (letterN k)) : q + (nameS (letterN k)).size ≤ z := by
  rcases Nat.lt_or_ge z (q + (nameS (letterN k)).size) with h1 | h1
  · exfalso
    have hn := name_no ⟨k, hk⟩
    have hb := congrArg bytesN h.2
    unfold nameS at hb
    rw [bytesN_bytesOf _ (fun x hx => (hn x hx).2), bytesN_ext, bytesOf_size] at hb
    rw [nameS_size] at h1
    have hl := bytesN_len s
    have hs := h.1
    rw [nameS_size] at hs
    have h2 : (nameL (letterN k))[z - q]? = some (bAt s z) := by
      rw [← hb, List.getElem?_take_of_lt (by omega), List.getElem?_drop, show q + (z - q) = z from by omega]
      unfold bAt
      rw [List.getD_eq_getElem?_getD, List.getElem?_eq_getElem (by omega)]; rfl
    have h3 := List.mem_of_getElem? h2
    exact (hn _ h3).1 hz
  · exact h1
theorem find_congr {α : Type} {f g : α → Bool} : ∀ l : List α, (∀ x ∈ l, f x = g x) → l.find? f = l.find? g
  | [], _ => rfl
  | x :: l, h => by
    rw [List.find?_cons, List.find?_cons, h x (List.mem_cons_self ..), find_congr l (fun y hy => h y (List.mem_cons_of_mem _ hy))]
theorem openC_congr {s s' : ByteArray} {q q' : Nat} (h : ∀ k, k < 13 → (fits s q (letterN k) ↔ fits s' q' (letterN k))) : openC s q = openC s' q' := by
  unfold openC
  have : (List.range 13).find? (fun k => decide (fits s q (letterN k))) = (List.range 13).find? (fun k => decide (fits s' q' (letterN k))) := by
    apply find_congr
    intro k hk
    have := h k (List.mem_range.1 hk)
    simp only [this]
  rw [this]
theorem tend_left {u t : ByteArray} {p z : Nat} (hp : p ≤ z) (hz : z < u.size) (h : bAt u z = 125) : tend (u ++ t) p = tend u p ∧ tend u p ≤ z := by
  obtain ⟨a1, a2, a3, a4⟩ := tend_is u p (by omega)
  have hle : tend u p ≤ z := by
    rcases Nat.lt_or_ge z (tend u p) with h1 | h1
    · have := a3 z hp h1
      rw [h, okT_not.2] at this; cases this
    · exact h1
  refine ⟨(tend_is (u ++ t) p (by rw [size_app]; omega)).unique ⟨a1, by rw [size_app]; omega, fun j h1 h2 => ?_, fun _ => ?_⟩, hle⟩
  · rw [bAt_left u t j (by omega)]; exact a3 j h1 h2
  · rw [bAt_left u t _ (by omega)]; exact a4 (by omega)
theorem tend_right (u t : ByteArray) (p : Nat) (hp : p ≤ t.size) : tend (u ++ t) (u.size + p) = u.size + tend t p := by
  obtain ⟨a1, a2, a3, a4⟩ := tend_is t p hp
  refine (tend_is (u ++ t) (u.size + p) (by rw [size_app]; omega)).unique ⟨by omega, by rw [size_app]; omega, fun j h1 h2 => ?_, fun h => ?_⟩
  · obtain ⟨i, rfl⟩ : ∃ i, j = u.size + i := ⟨j - u.size, by omega⟩
    rw [bAt_right]; exact a3 i (by omega) (by omega)
  · rw [bAt_right]; exact a4 (by rw [size_app] at h; omega)
theorem skip_left {u t : ByteArray} {q : Nat} (h : q < u.size) : skip (u ++ t) q = skip u q := by
  unfold skip
  rw [bAt_left u t q h, size_app]
  by_cases hw : white (bAt u q) = true
  · rw [if_pos ⟨by omega, hw⟩, if_pos ⟨h, hw⟩]
  · rw [if_neg (fun x => hw x.2), if_neg (fun x => hw x.2)]
theorem skip_right (u t : ByteArray) (q : Nat) : skip (u ++ t) (u.size + q) = u.size + skip t q := by
  unfold skip
  rw [bAt_right, size_app]
  by_cases hw : q < t.size ∧ white (bAt t q) = true
  · rw [if_pos ⟨by omega, hw.2⟩, if_pos hw]; omega
  · rw [if_neg (fun x => hw ⟨by omega, x.2⟩), if_neg hw]
/-- u ends with a closing: ahead of its end both are read alike. -/
theorem step_left {u t : ByteArray} {p z : Nat} (hz : u.size = z + 1) (h : bAt u z = 125) (hp : p ≤ z) : stepF (u ++ t) p = stepF u p ∧ ∀ x q, stepF u p = .inl (x, q) → q ≤ u.size := by
  have hB := bAt_left u t p (by omega)
  have hT := tend_left (u := u) (t := t) hp (by omega) h
  by_cases h1 : bAt u p = 125
  · rw [step_close h1, step_close (hB.trans h1)]
    exact ⟨rfl, fun x q e => by simp only [Sum.inl.injEq, Prod.mk.injEq] at e; omega⟩
  by_cases h2 : bAt u p = 123
  · have hpz : p < z := by
      rcases Nat.eq_or_lt_of_le hp with h3 | h3
      · rw [h3] at h2; omega
      · exact h3
    have hO : openC (u ++ t) (p + 1) = openC u (p + 1) := by
      apply openC_congr
      intro k hk
      constructor
      · intro hf
        have h3 := fits_stop hk (q := p + 1) (z := z) (by omega) (by rw [bAt_left u t z (by omega)]; exact h) hf
        exact (fits_left (by omega)).1 hf
      · intro hf
        exact (fits_left (by have := hf.1; omega)).2 hf
    by_cases h3 : openC u (p + 1) = 0
    · rw [step_none h2 h3, step_none (hB.trans h2) (hO.trans h3)]
      exact ⟨rfl, fun x q e => by cases e⟩
    · have h4 : openC (u ++ t) (p + 1) ≠ 0 := by rw [hO]; exact h3
      rw [step_open h2 h3, step_open (hB.trans h2) h4, hO]
      have hst : p + 1 + (nameS (openC u (p + 1))).size ≤ z := by
        have hf := openC_fits h3
        obtain ⟨k, hk⟩ : ∃ k : Fin 13, letterN k.val = openC u (p + 1) := by
          unfold openC at h3 ⊢
          cases hff : (List.range 13).find? (fun k => decide (fits u (p + 1) (letterN k))) with
          | none => rw [hff] at h3; exact absurd rfl h3
          | some k => exact ⟨⟨k, List.mem_range.1 (List.mem_of_find?_eq_some hff)⟩, rfl⟩
        rw [← hk] at hf ⊢
        exact fits_stop k.isLt (by omega) h hf
      rw [skip_left (by omega)]
      refine ⟨rfl, fun x q e => ?_⟩
      simp only [Sum.inl.injEq, Prod.mk.injEq] at e
      rw [← e.2]
      unfold skip; split <;> omega
  · by_cases h3 : okT (bAt u p) = true
    · rw [step_text h3, step_text (by rw [hB]; exact h3), hT.1, ext_left u t p _ (by omega)]
      exact ⟨rfl, fun x q e => by simp only [Sum.inl.injEq, Prod.mk.injEq] at e; omega⟩
    · have h4 : okT (bAt u p) = false := by simpa using h3
      rw [step_bad h1 h2 h4, step_bad (by rw [hB]; exact h1) (by rw [hB]; exact h2) (by rw [hB]; exact h4)]
      exact ⟨rfl, fun x q e => by cases e⟩
def shiftX (n : Nat) (x : Lx) : Lx := { x with place := n + x.place }
def shiftS (n : Nat) : (Lx × Nat) ⊕ Nat → (Lx × Nat) ⊕ Nat
  | .inl (x, q) => .inl (shiftX n x, n + q)
  | .inr e => .inr e
theorem step_right (u t : ByteArray) (p : Nat) (hp : p < t.size) : stepF (u ++ t) (u.size + p) = shiftS u.size (stepF t p) := by
  have hB := bAt_right u t p
  by_cases h1 : bAt t p = 125
  · rw [step_close h1, step_close (hB.trans h1)]; rfl
  by_cases h2 : bAt t p = 123
  · have hO : openC (u ++ t) (u.size + p + 1) = openC t (p + 1) := openC_congr fun k _ => fits_right u t (p + 1) (letterN k)
    by_cases h3 : openC t (p + 1) = 0
    · rw [step_none h2 h3, step_none (hB.trans h2) (hO.trans h3)]; rfl
    · have h4 : openC (u ++ t) (u.size + p + 1) ≠ 0 := by rw [hO]; exact h3
      rw [step_open h2 h3, step_open (hB.trans h2) h4, hO, show u.size + p + 1 + (nameS (openC t (p + 1))).size = u.size + (p + 1 + (nameS (openC t (p + 1))).size) from by omega, skip_right]
      rfl
  · by_cases h3 : okT (bAt t p) = true
    · rw [step_text h3, step_text (by rw [hB]; exact h3), tend_right u t p (by omega), ext_right]; rfl
    · have h4 : okT (bAt t p) = false := by simpa using h3
      rw [step_bad h1 h2 h4, step_bad (by rw [hB]; exact h1) (by rw [hB]; exact h2) (by rw [hB]; exact h4)]; rfl
theorem lex_right (u t : ByteArray) : ∀ n p, t.size - p ≤ n → lexA (u ++ t) (u.size + p) = ((lexA t p).1.map (shiftX u.size), (lexA t p).2.map fun z => (u.size + z.1, z.2)) := by
  intro n
  induction n with
  | zero =>
    intro p h
    rw [lexA_end _ _ (by rw [size_app]; omega), lexA_end t p (by omega)]; rfl
  | succ n ih =>
    intro p h
    rcases Nat.lt_or_ge p t.size with hp | hp
    · rw [lexA_step _ _ (by rw [size_app]; omega), lexA_step t p hp, step_right u t p hp]
      cases hs : stepF t p with
      | inr e => rfl
      | inl xq =>
        obtain ⟨x, q⟩ := xq
        have := stepF_lt hp hs
        simp only [shiftS]
        rw [ih q (by omega)]
        rfl
    · rw [lexA_end _ _ (by rw [size_app]; omega), lexA_end t p hp]; rfl
theorem lex_left {u t : ByteArray} {z : Nat} (hz : u.size = z + 1) (h : bAt u z = 125) : ∀ n p, u.size - p ≤ n → p ≤ u.size →
    lexA (u ++ t) p = (match (lexA u p).2 with | none => ((lexA u p).1 ++ (lexA (u ++ t) u.size).1, (lexA (u ++ t) u.size).2) | some w => ((lexA u p).1, some w)) := by
  intro n
  induction n with
  | zero =>
    intro p h1 h2
    obtain rfl : p = u.size := by omega
    rw [lexA_end u u.size (Nat.le_refl _)]; simp
  | succ n ih =>
    intro p h1 h2
    rcases Nat.lt_or_ge p u.size with hp | hp
    · obtain ⟨hst, hq⟩ := step_left (t := t) hz h (show p ≤ z by omega)
      rw [lexA_step _ p (by rw [size_app]; omega), lexA_step u p hp, hst]
      cases hs : stepF u p with
      | inr e => rfl
      | inl xq =>
        obtain ⟨x, q⟩ := xq
        have h3 := stepF_lt hp hs
        have h4 := hq x q hs
        simp only []
        rw [ih q (by omega) h4]
        cases (lexA u q).2 <;> rfl
    · obtain rfl : p = u.size := by omega
      rw [lexA_end u u.size (Nat.le_refl _)]; simp
def closeS (a : ByteArray) : ByteArray := a ++ { data := #[125] }
theorem close_ends (a : ByteArray) : (closeS a).size = a.size + 1 ∧ bAt (closeS a) a.size = 125 := by
  refine ⟨size_app a _, ?_⟩
  have := bAt_right a { data := #[125] } 0
  rw [Nat.add_zero] at this
  exact this.trans (by decide +kernel)
/-- What is read of both, by what is read of each. -/
theorem lex_both (a b : ByteArray) (ha : a.size ≤ 4000) (hb : b.size ≤ 4000) :
    (lexE (closeS a) ≠ 0 → lexV (closeS a ++ b) = [] ∧ lexAt (closeS a ++ b) = lexAt (closeS a) ∧ lexE (closeS a ++ b) = lexE (closeS a)) ∧
    (lexE (closeS a) = 0 → lexE b ≠ 0 → lexV (closeS a ++ b) = [] ∧ lexAt (closeS a ++ b) = a.size + 1 + lexAt b ∧ lexE (closeS a ++ b) = lexE b) ∧
    (lexE (closeS a) = 0 → lexE b = 0 → lexV (closeS a ++ b) = lexV (closeS a) ++ (lexV b).map (shiftX (a.size + 1)) ∧ lexAt (closeS a ++ b) = 0 ∧ lexE (closeS a ++ b) = 0) := by
  obtain ⟨hz, hc⟩ := close_ends a
  have h1 : ¬ 8192 < (closeS a).size := by omega
  have h2 : ¬ 8192 < b.size := by omega
  have h3 : ¬ 8192 < (closeS a ++ b).size := by rw [size_app]; omega
  have hL := lex_left (t := b) hz hc _ 0 (Nat.le_refl _) (Nat.zero_le _)
  have hR := lex_right (closeS a) b _ 0 (Nat.le_refl _)
  rw [Nat.add_zero] at hR
  rw [hR] at hL
  refine ⟨fun he => ?_, fun he hf => ?_, fun he hf => ?_⟩
  · unfold lexE at he
    rw [if_neg h1] at he
    cases hx : (lexA (closeS a) 0).2 with
    | none => rw [hx] at he; exact absurd rfl he
    | some w =>
      rw [hx] at hL
      obtain ⟨x1, x2, x3⟩ := lex_bad (p := w.1) (e := w.2) h1 hx
      obtain ⟨y1, y2, y3⟩ := lex_bad (p := w.1) (e := w.2) h3 (by rw [hL])
      exact ⟨y1, y2.trans x2.symm, y3.trans x3.symm⟩
  · have hA := lex_all he
    rw [hA] at hL
    unfold lexE at hf
    rw [if_neg h2] at hf
    cases hx : (lexA b 0).2 with
    | none => rw [hx] at hf; exact absurd rfl hf
    | some w =>
      rw [hx] at hL
      obtain ⟨x1, x2, x3⟩ := lex_bad (p := w.1) (e := w.2) h2 hx
      obtain ⟨y1, y2, y3⟩ := lex_bad (p := (closeS a).size + w.1) (e := w.2) h3 (by rw [hL]; rfl)
      exact ⟨y1, by rw [y2, x2, hz], y3.trans x3.symm⟩
  · have hA := lex_all he
    have hB := lex_all hf
    rw [hA, hB, hz] at hL
    exact lex_ok h3 hL
end Go.Proofs.YtgdealdpphcamaaDoor.Lx
