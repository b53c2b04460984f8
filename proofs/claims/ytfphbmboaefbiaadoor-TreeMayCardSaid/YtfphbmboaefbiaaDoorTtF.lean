/-
  styluslaw04.TreeMay, over what the landed package answers.
-/
import Derived.Test.YtfphbmboaefbiaaDoorTrW
import Derived.Test.YtfphbmboaefbiaaDoorTrJ
import Derived.Test.YtfphbmboaefbiaaDoorTsV
import Derived.Test.YtfphbmboaefbiaaDoorVf
namespace Go.Proofs.YtfphbmboaefbiaaDoor.Tr
open Go.RowKit

theorem lexF_end (s : ByteArray) : ∀ n p, (∀ q e, (Lx.lexF s n p).2 = some (q, e) → q ≤ s.size) := by
  intro n
  induction n with
  | zero => intro p q e h; simp [Lx.lexF] at h
  | succ n ih =>
    intro p q e h
    unfold Lx.lexF at h
    by_cases hp : p < s.size
    · rw [if_pos hp] at h
      cases hs : Lx.stepF s p with
      | inr e' =>
        rw [hs] at h
        simp only [Option.some.injEq, Prod.mk.injEq] at h
        omega
      | inl xq =>
        obtain ⟨x, p'⟩ := xq
        rw [hs] at h
        exact ih p' q e h
    · rw [if_neg hp] at h; simp at h
theorem lexAt_end (s : ByteArray) : Lx.lexAt s ≤ s.size := by
  unfold Lx.lexAt
  split
  · omega
  · cases h : (Lx.lexA s 0).2 with
    | none => simp
    | some z => exact lexF_end s s.size 0 z.1 z.2 h
theorem part_end {s : ByteArray} (h : Lx.lexE s = 0) {x : Lx.Lx} (hx : x ∈ Lx.lexV s) : x.place + x.text.size ≤ s.size := by
  obtain ⟨k, hk⟩ := List.mem_iff_getElem?.1 hx
  have hlt := (List.getElem?_eq_some_iff.1 hk).1
  obtain ⟨p, hp⟩ := lex_reach (Lx.lex_all h) k (by omega)
  obtain ⟨y, q, hy, hst, _⟩ := hp.step hlt
  rw [hk] at hy
  cases hy
  have hps := hp.lt hlt
  rcases Lx.step_cases hps hst with ⟨rfl, _⟩ | ⟨c, n, _, _, _, _, rfl, _⟩ | ⟨e, he1, he2, rfl, _⟩
  · show p + 0 ≤ s.size; omega
  · show p + 0 ≤ s.size; omega
  · show p + (s.extract p e).size ≤ s.size
    rw [Lx.ext_size _ _ _ he2]; omega
theorem err_end (t : List Nd) (p : List Op) (x : Lx.Lx) : (errStep t p x).1 ≤ x.place + x.text.size := by
  unfold errStep
  dsimp only
  cases hd : darkAt x.text with
  | none => (repeat' split) <;> simp_all
  | some i =>
    have : i < x.text.size := List.mem_range.1 (List.mem_of_find?_eq_some hd)
    (repeat' split) <;> simp_all <;> omega
theorem from_end {s : ByteArray} : ∀ (l : List Lx.Lx) (st : List Nd × List Op) (z : Nat × Nat), (∀ x ∈ l, x.place + x.text.size ≤ s.size) → errFrom st l = some z → z.1 ≤ s.size ∧ z.2 ≠ 0
  | [], st, z, _, h => by cases h
  | x :: l, st, z, hx, h => by
    unfold errFrom at h
    split at h
    · exact from_end l _ z (fun y hy => hx y (List.mem_cons_of_mem _ hy)) h
    · next he =>
      cases h
      exact ⟨Nat.le_trans (err_end _ _ _) (hx x List.mem_cons_self), he⟩
/-- Where there is an error there is no tree, and a place within the source, or at its end. -/
theorem parseA_bad {s : ByteArray} (h : (parseA s).2.2 ≠ 0) : (parseA s).1 = [] ∧ (parseA s).2.1 ≤ s.size := by
  unfold parseA at h ⊢
  by_cases h1 : Lx.lexE s ≠ 0
  · rw [if_pos h1]
    exact ⟨rfl, lexAt_end s⟩
  · rw [if_neg h1] at h ⊢
    cases he : errFrom ([], [root]) (Lx.lexV s) with
    | some z => exact ⟨rfl, (from_end _ _ z (fun x hx => part_end (by simpa using h1) hx) he).1⟩
    | none =>
      rw [he] at h
      simp only [] at h ⊢
      by_cases h2 : 1 < (readL (Lx.lexV s)).2.length
      · rw [if_pos h2]; exact ⟨rfl, Nat.le_refl _⟩
      · rw [if_neg h2] at h; exact absurd rfl h
/-- A tree that is parsed. -/
structure MayT (s : ByteArray) (t : List Nd) : Prop where
  check : checkV t = 0
  len : t.length ≤ 2000
  one : ∀ (i : Nat) (x : Nd), t[i]? = some x → NodeP s (core x) ∧ 1 ≤ x.size ∧ x.size ≤ (t.length : Int) - (i : Int) ∧ (x.kind = 46 → x.size = 1)
  up : (t.map core).Pairwise fun a b => a.2.2 < b.2.2
  small : s.size ≤ 8192
theorem parseA_may {s : ByteArray} (h : (parseA s).2.2 = 0) : MayT s (parseA s).1 ∧ (parseA s).2.1 = 0 := by
  have hp := parsed_of h
  rw [parseA_ok hp]
  obtain ⟨a, b, c, d⟩ := parse_may s hp.1 hp.2.1 hp.2.2
  exact ⟨⟨a, b, c, d, lex_size hp.1⟩, rfl⟩
theorem MayT.next {s : ByteArray} {t : List Nd} (h : MayT s t) {m : Nat} {x y : Nd} (hx : t[m]? = some x) (hy : t[m + 1]? = some y) : x.place < y.place := by
  have hp := List.pairwise_iff_getElem.1 h.up
  obtain ⟨lx, ex⟩ := List.getElem?_eq_some_iff.1 hx
  obtain ⟨ly, ey⟩ := List.getElem?_eq_some_iff.1 hy
  have := hp m (m + 1) (by simpa using lx) (by simpa using ly) (by omega)
  simp only [List.getElem_map, ex, ey] at this
  exact this
theorem starts_at {s x : ByteArray} {p : Nat} (h : p + x.size ≤ s.size) (e : s.extract p (p + x.size) = x) : Lib.hasPrefix (s.extract p s.size).data.toList x.data.toList = true := by
  rw [← Lib.hasPrefix_raw]
  have h1 : (s.extract p s.size).size = s.size - p := Lx.ext_size _ _ _ (Nat.le_refl _)
  have h2 : (s.extract p s.size).extract 0 x.size = x := by
    have : (s.extract p s.size).extract 0 x.size = s.extract p (p + x.size) := by
      rw [ByteArray.extract_extract]
      congr 1 <;> omega
    rw [this, e]
  rw [h2]
  simp
  omega
end Go.Proofs.YtfphbmboaefbiaaDoor.Tr
