/-
  Plain: going through what is read, place by place.
-/
import Derived.Test.YtgdealdpphcamaaDoorLxV
namespace Go.Proofs.YtgdealdpphcamaaDoor.Lx
open Go.RowKit

theorem ext_one (s : ByteArray) (p : Nat) (h : p < s.size) : s.extract p (p + 1) = bytesOf [bAt s p] := by
  apply bytes_ext
  rw [bytesN_ext, bytesN_bytesOf _ (by intro x hx; simp at hx; subst hx; exact bAt_lt s p), Nat.add_sub_cancel_left]
  have hl := bytesN_len s
  unfold bAt
  rw [List.take_one, List.head?_drop, List.getD_eq_getElem?_getD, List.getElem?_eq_getElem (by omega)]
  rfl
theorem step_cases {s : ByteArray} {p q : Nat} {x : Lx} (hp : p < s.size) (h : stepF s p = .inl (x, q)) :
    (x = ⟨3, 0, emptyS, p⟩ ∧ q = p + 1 ∧ bAt s p = 125 ∧ s.extract p (p + 1) = { data := #[125] }) ∨
    (∃ c n, c < 256 ∧ nameS c = n ∧ 0 < n.size ∧ n.size ≤ 2 ∧ x = ⟨2, c, emptyS, p⟩ ∧ bAt s p = 123 ∧ p + 1 + n.size ≤ s.size ∧ s.extract p (p + 1 + n.size) = { data := #[123] } ++ n ∧ q = skip s (p + 1 + n.size)) ∨
    (∃ e, p < e ∧ e ≤ s.size ∧ x = ⟨1, 0, s.extract p e, p⟩ ∧ q = e ∧ okT (bAt s p) = true ∧ (e < s.size → okT (bAt s e) = false)) := by
  have hlt := stepF_lt hp h
  unfold stepF at h
  split at h
  · rename_i h1
    simp only [Sum.inl.injEq, Prod.mk.injEq] at h
    exact .inl ⟨h.1.symm, h.2.symm, h1, by rw [ext_one s p hp, h1]; decide +kernel⟩
  · split at h
    · rename_i h1 h2
      split at h
      · cases h
      · rename_i h3
        simp only [Sum.inl.injEq, Prod.mk.injEq] at h
        obtain ⟨c, hc⟩ : ∃ c, openC s (p + 1) = c := ⟨_, rfl⟩
        have hf := openC_fits h3
        have h256 := openC_lt s (p + 1)
        rw [hc] at h h3 hf h256
        refine .inr (.inl ⟨c, nameS c, h256, rfl, ?_, by rw [nameS_size]; exact nameL_len _, h.1.symm, h2, hf.1, ?_, h.2.symm⟩)
        · rw [nameS_size]
          have : ∀ c : Fin 256, (c.val = 0 → nameL c.val = []) ∧ (nameL c.val = [] → c.val ∉ lettersL) := by decide +kernel
          have hm : c ∈ lettersL := by
            unfold openC at hc
            cases hff : (List.range 13).find? (fun k => decide (fits s (p + 1) (letterN k))) with
            | none => rw [hff] at hc; exact absurd hc.symm h3
            | some k =>
              rw [hff] at hc
              have hk := List.mem_range.1 (List.mem_of_find?_eq_some hff)
              exact (letter_mem ⟨c, h256⟩).2 ⟨⟨k, hk⟩, hc⟩
          rcases Nat.eq_zero_or_pos (nameL c).length with h0 | h0
          · exact absurd hm ((this ⟨c, h256⟩).2 (List.eq_nil_of_length_eq_zero h0))
          · exact h0
        · have e : s.extract p (p + 1) = { data := #[123] } := by rw [ext_one s p hp, h2]; decide +kernel
          rw [← ext_cat s p (p + 1) (p + 1 + (nameS c).size) (by omega) (by omega), e, hf.2]
    · rename_i h1 h2
      split at h
      · rename_i h3
        simp only [Sum.inl.injEq, Prod.mk.injEq] at h
        obtain ⟨_, t2, _, t4⟩ := tend_is s p (by omega)
        exact .inr (.inr ⟨tend s p, by omega, t2, h.1.symm, h.2.symm, h3, t4⟩)
      · cases h

/-- k of what is read lie behind place p. -/
def At (s : ByteArray) (l : List Lx) (k p : Nat) : Prop :=
  p ≤ s.size ∧ k ≤ l.length ∧ lexA s p = (l.drop k, none) ∧ (∀ y, 0 < k → l[k - 1]? = some y → y.kind = 1 → p < s.size → okT (bAt s p) = false)
theorem At.zero {s : ByteArray} {l : List Lx} (h : lexA s 0 = (l, none)) : At s l 0 0 := ⟨Nat.zero_le _, Nat.zero_le _, h, fun _ h0 => absurd h0 (by omega)⟩
theorem At.lt {s : ByteArray} {l : List Lx} {k p : Nat} (h : At s l k p) (hk : k < l.length) : p < s.size := by
  rcases Nat.lt_or_ge p s.size with h1 | h1
  · exact h1
  · have h2 := h.2.2.1
    rw [lexA_end s p h1] at h2
    have := congrArg (fun z => z.1.length) h2
    simp only [List.length_nil, List.length_drop] at this
    omega
theorem At.all {s : ByteArray} {l : List Lx} {p : Nat} (h : At s l l.length p) : p = s.size := by
  rcases Nat.lt_or_ge p s.size with h1 | h1
  · have h2 := h.2.2.1
    rw [List.drop_length, lexA_step s p h1] at h2
    cases hs : stepF s p with
    | inr e => rw [hs] at h2; simp at h2
    | inl xq => rw [hs] at h2; simp at h2
  · have := h.1; omega
theorem At.step {s : ByteArray} {l : List Lx} {k p : Nat} (h : At s l k p) (hk : k < l.length) : ∃ x q, l[k]? = some x ∧ stepF s p = .inl (x, q) ∧ At s l (k + 1) q := by
  have hp := h.lt hk
  have h2 := h.2.2.1
  rw [lexA_step s p hp] at h2
  cases hs : stepF s p with
  | inr e => rw [hs] at h2; simp at h2
  | inl xq =>
    obtain ⟨x, q⟩ := xq
    rw [hs] at h2
    simp only [Prod.mk.injEq] at h2
    have hd : l.drop k = l[k] :: l.drop (k + 1) := List.drop_eq_getElem_cons hk
    rw [hd] at h2
    simp only [List.cons.injEq] at h2
    obtain ⟨⟨h3, h4⟩, h5⟩ := h2
    have hq : q ≤ s.size ∧ (x.kind = 1 → q < s.size → okT (bAt s q) = false) := by
      rcases step_cases hp hs with ⟨rfl, rfl, _⟩ | ⟨c, n, _, _, _, _, rfl, _, hn, _, rfl⟩ | ⟨e, _, he, rfl, rfl, _, ht⟩
      · exact ⟨by omega, fun h => by cases h⟩
      · refine ⟨?_, fun h => by cases h⟩
        unfold skip; split <;> omega
      · exact ⟨he, fun _ => ht⟩
    refine ⟨x, q, by rw [List.getElem?_eq_getElem hk, h3], rfl, hq.1, by omega, ?_, fun y _ hy hy1 => ?_⟩
    · rw [← h4, ← h5]
    · rw [Nat.add_sub_cancel, List.getElem?_eq_getElem hk, ← h3] at hy
      injection hy with hy
      subst hy
      exact hq.2 hy1
theorem lex_all {s : ByteArray} (h : lexE s = 0) : lexA s 0 = (lexV s, none) := by
  by_cases hs : 8192 < s.size
  · rw [(lex_long hs).2.2] at h; cases h
  · unfold lexE at h
    rw [if_neg hs] at h
    unfold lexV
    rw [if_neg hs]
    have hb : ∀ p e, (lexA s 0).2 = some (p, e) → e ≠ 0 := by
      have : ∀ n p x y, (lexF s n p).2 = some (x, y) → y ≠ 0 := by
        intro n
        induction n with
        | zero => intro p x y h; simp [lexF] at h
        | succ n ih =>
          intro p x y h
          unfold lexF at h
          split at h
          · cases hst : stepF s p with
            | inr e =>
              rw [hst] at h
              simp only [Option.some.injEq, Prod.mk.injEq] at h
              obtain ⟨_, rfl⟩ := h
              unfold stepF at hst
              split at hst
              · cases hst
              · split at hst
                · split at hst
                  · injection hst with hst; omega
                  · cases hst
                · split at hst
                  · cases hst
                  · injection hst with hst; omega
            | inl xq =>
              obtain ⟨x', q⟩ := xq
              rw [hst] at h
              exact ih q x y h
          · cases h
      exact fun p e => this _ _ p e
    cases h2 : (lexA s 0).2 with
    | none => exact Prod.ext rfl h2
    | some z => rw [h2] at h; exact absurd h (hb z.1 z.2 h2)
theorem lex_none {s : ByteArray} (h : lexE s ≠ 0) : lexV s = [] := by
  unfold lexE at h
  unfold lexV
  split
  · rfl
  · rename_i h1
    rw [if_neg h1] at h
    cases h2 : (lexA s 0).2 with
    | none => rw [h2] at h; exact absurd rfl h
    | some z => rfl
theorem lexE_le (s : ByteArray) : lexE s ≤ 4 := by
  by_cases h : lexE s = 0
  · omega
  · unfold lexE
    split
    · omega
    · cases h2 : (lexA s 0).2 with
      | none => simp
      | some z =>
        have : ∀ n p x y, (lexF s n p).2 = some (x, y) → y ≤ 4 := by
          intro n
          induction n with
          | zero => intro p x y h; simp [lexF] at h
          | succ n ih =>
            intro p x y h
            unfold lexF at h
            split at h
            · cases hst : stepF s p with
              | inr e =>
                rw [hst] at h
                simp only [Option.some.injEq, Prod.mk.injEq] at h
                obtain ⟨_, rfl⟩ := h
                unfold stepF at hst
                split at hst
                · cases hst
                · split at hst
                  · split at hst
                    · injection hst with hst; omega
                    · cases hst
                  · split at hst
                    · cases hst
                    · injection hst with hst; omega
              | inl xq =>
                obtain ⟨x', q⟩ := xq
                rw [hst] at h
                exact ih q x y h
            · cases h
        exact this _ _ z.1 z.2 h2
end Go.Proofs.YtgdealdpphcamaaDoor.Lx
