/-
  What a source is read as, step by step: plain facts.
-/
import Derived.Test.YtgdealdpphcamaaDoorLxO
namespace Go.Proofs.YtgdealdpphcamaaDoor.Lx
open Go.RowKit

/-- What is read: a text, an opening, a closing. -/
structure Lx where
  kind : Nat
  name : Nat
  text : ByteArray
  place : Nat
def white (b : Nat) : Bool := Ka.whiteB (b : Int)
/-- A byte that a text may have. -/
def okT (b : Nat) : Bool := Ka.isB (b : Int) || Ka.whiteB (b : Int)
theorem okT_not : okT 123 = false ∧ okT 125 = false := by decide +kernel
def tnd (s : ByteArray) : Nat → Nat → Nat
  | 0, e => e
  | n + 1, e => if e < s.size ∧ okT (bAt s e) = true then tnd s n (e + 1) else e
/-- The place behind the text that begins at f. -/
def tend (s : ByteArray) (f : Nat) : Nat := tnd s s.size f
def IsTend (s : ByteArray) (f e : Nat) : Prop := f ≤ e ∧ e ≤ s.size ∧ (∀ j, f ≤ j → j < e → okT (bAt s j) = true) ∧ (e < s.size → okT (bAt s e) = false)
theorem tnd_is (s : ByteArray) (f : Nat) : ∀ n e, s.size - e ≤ n → f ≤ e → e ≤ s.size → (∀ j, f ≤ j → j < e → okT (bAt s j) = true) → IsTend s f (tnd s n e)
  | 0, e, hn, hf, he, hj => ⟨hf, he, hj, fun h => by have : tnd s 0 e = e := rfl; omega⟩
  | n + 1, e, hn, hf, he, hj => by
    unfold tnd
    by_cases h : e < s.size ∧ okT (bAt s e) = true
    · rw [if_pos h]
      refine tnd_is s f n (e + 1) (by omega) (by omega) (by omega) (fun j h1 h2 => ?_)
      rcases Nat.lt_or_ge j e with h3 | h3
      · exact hj j h1 h3
      · obtain rfl : j = e := by omega
        exact h.2
    · rw [if_neg h]
      exact ⟨hf, he, hj, fun h3 => by
        cases h4 : okT (bAt s e) with
        | false => rfl
        | true => exact absurd ⟨h3, h4⟩ h⟩
theorem tend_is (s : ByteArray) (f : Nat) (h : f ≤ s.size) : IsTend s f (tend s f) := tnd_is s f s.size f (by omega) (Nat.le_refl _) h (fun j h1 h2 => by omega)
theorem IsTend.unique {s : ByteArray} {f e e' : Nat} (h : IsTend s f e) (h' : IsTend s f e') : e = e' := by
  obtain ⟨a1, a2, a3, a4⟩ := h
  obtain ⟨b1, b2, b3, b4⟩ := h'
  rcases Nat.lt_trichotomy e e' with h | h | h
  · have := b3 e (by omega) h
    rw [a4 (by omega)] at this; cases this
  · exact h
  · have := a3 e' (by omega) h
    rw [b4 (by omega)] at this; cases this
/-- The place behind an opening at p whose name has letter c: a white byte that follows belongs to it. -/
def skip (s : ByteArray) (q : Nat) : Nat := if q < s.size ∧ white (bAt s q) = true then q + 1 else q
/-- One step at p: what is read, and the place behind it; or the error. -/
def stepF (s : ByteArray) (p : Nat) : (Lx × Nat) ⊕ Nat :=
  if bAt s p = 125 then .inl (⟨3, 0, emptyS, p⟩, p + 1)
  else if bAt s p = 123 then
    if openC s (p + 1) = 0 then .inr 2 else .inl (⟨2, openC s (p + 1), emptyS, p⟩, skip s (p + 1 + (nameS (openC s (p + 1))).size))
  else if okT (bAt s p) = true then .inl (⟨1, 0, s.extract p (tend s p), p⟩, tend s p)
  else .inr 3
theorem skip_ge (s : ByteArray) (q : Nat) : q ≤ skip s q := by unfold skip; split <;> omega
theorem stepF_lt {s : ByteArray} {p q : Nat} {x : Lx} (hp : p < s.size) (h : stepF s p = .inl (x, q)) : p < q := by
  unfold stepF at h
  split at h
  · simp only [Sum.inl.injEq, Prod.mk.injEq] at h; omega
  · split at h
    · split at h
      · cases h
      · simp only [Sum.inl.injEq, Prod.mk.injEq] at h
        have := skip_ge s (p + 1 + (nameS (openC s (p + 1))).size)
        omega
    · split at h
      · rename_i h3
        simp only [Sum.inl.injEq, Prod.mk.injEq] at h
        obtain ⟨t1, t2, t3, t4⟩ := tend_is s p (by omega)
        rcases Nat.eq_or_lt_of_le t1 with h5 | h5
        · have := t4 (by omega)
          rw [← h5, h3] at this; cases this
        · omega
      · cases h
/-- All that is read from p on; and the place and the error at which it ends, if it does. -/
def lexF (s : ByteArray) : Nat → Nat → List Lx × Option (Nat × Nat)
  | 0, _ => ([], none)
  | n + 1, p => if p < s.size then (match stepF s p with
      | .inr e => ([], some (p, e))
      | .inl (x, q) => (x :: (lexF s n q).1, (lexF s n q).2)) else ([], none)
def lexA (s : ByteArray) (p : Nat) : List Lx × Option (Nat × Nat) := lexF s s.size p
theorem lexF_more (s : ByteArray) : ∀ n m p, s.size - p ≤ n → s.size - p ≤ m → lexF s n p = lexF s m p
  | 0, 0, _, _, _ => rfl
  | 0, m + 1, p, hn, hm => by unfold lexF; rw [if_neg (by omega)]
  | n + 1, 0, p, hn, hm => by unfold lexF; rw [if_neg (by omega)]
  | n + 1, m + 1, p, hn, hm => by
    unfold lexF
    by_cases h : p < s.size
    · rw [if_pos h, if_pos h]
      cases hs : stepF s p with
      | inr e => rfl
      | inl xq =>
        obtain ⟨x, q⟩ := xq
        have := stepF_lt h hs
        simp only []
        rw [lexF_more s n m q (by omega) (by omega)]
    · rw [if_neg h, if_neg h]
theorem lexA_end (s : ByteArray) (p : Nat) (h : s.size ≤ p) : lexA s p = ([], none) := by
  unfold lexA
  cases s.size with
  | zero => rfl
  | succ n => unfold lexF; rw [if_neg (by omega)]
theorem lexA_step (s : ByteArray) (p : Nat) (h : p < s.size) : lexA s p = (match stepF s p with | .inr e => ([], some (p, e)) | .inl (x, q) => (x :: (lexA s q).1, (lexA s q).2)) := by
  unfold lexA
  obtain ⟨n, hn⟩ : ∃ n, s.size = n + 1 := ⟨s.size - 1, by omega⟩
  conv => lhs; rw [hn]; unfold lexF
  rw [if_pos h]
  cases hs : stepF s p with
  | inr e => rfl
  | inl xq =>
    obtain ⟨x, q⟩ := xq
    have := stepF_lt h hs
    simp only []
    rw [lexF_more s n s.size q (by omega) (by omega)]
/-- What has been read ahead of p. -/
def Reach (s : ByteArray) (p : Nat) (pre : List Lx) : Prop := p ≤ s.size ∧ lexA s 0 = (pre ++ (lexA s p).1, (lexA s p).2)
theorem Reach.zero (s : ByteArray) : Reach s 0 [] := ⟨Nat.zero_le _, rfl⟩
theorem Reach.step {s : ByteArray} {p q : Nat} {pre : List Lx} {x : Lx} (h : Reach s p pre) (hp : p < s.size) (hs : stepF s p = .inl (x, q)) (hq : q ≤ s.size) : Reach s q (pre ++ [x]) := by
  obtain ⟨_, h⟩ := h
  refine ⟨hq, ?_⟩
  rw [lexA_step s p hp, hs] at h
  simp only [] at h
  rw [h]; simp
theorem Reach.bad {s : ByteArray} {p e : Nat} {pre : List Lx} (h : Reach s p pre) (hp : p < s.size) (hs : stepF s p = .inr e) : (lexA s 0).2 = some (p, e) := by
  obtain ⟨_, h⟩ := h
  rw [lexA_step s p hp, hs] at h
  simp only [] at h
  rw [h]
theorem Reach.all {s : ByteArray} {pre : List Lx} (h : Reach s s.size pre) : lexA s 0 = (pre, none) := by
  obtain ⟨_, h⟩ := h
  rw [lexA_end s s.size (Nat.le_refl _)] at h
  simpa using h
/-- What Of answers. -/
def lexV (s : ByteArray) : List Lx := if 8192 < s.size then [] else match (lexA s 0).2 with | none => (lexA s 0).1 | some _ => []
def lexAt (s : ByteArray) : Nat := if 8192 < s.size then 0 else match (lexA s 0).2 with | none => 0 | some x => x.1
def lexE (s : ByteArray) : Nat := if 8192 < s.size then 4 else match (lexA s 0).2 with | none => 0 | some x => x.2
theorem lex_long {s : ByteArray} (h : 8192 < s.size) : lexV s = [] ∧ lexAt s = 0 ∧ lexE s = 4 := by
  unfold lexV lexAt lexE; rw [if_pos h, if_pos h, if_pos h]; exact ⟨rfl, rfl, rfl⟩
theorem lex_bad {s : ByteArray} {p e : Nat} (hs : ¬ 8192 < s.size) (h : (lexA s 0).2 = some (p, e)) : lexV s = [] ∧ lexAt s = p ∧ lexE s = e := by
  unfold lexV lexAt lexE; rw [if_neg hs, if_neg hs, if_neg hs, h]; exact ⟨rfl, rfl, rfl⟩
theorem lex_ok {s : ByteArray} {l : List Lx} (hs : ¬ 8192 < s.size) (h : lexA s 0 = (l, none)) : lexV s = l ∧ lexAt s = 0 ∧ lexE s = 0 := by
  unfold lexV lexAt lexE; rw [if_neg hs, if_neg hs, if_neg hs, h]; exact ⟨rfl, rfl, rfl⟩

theorem openC_fits {s : ByteArray} {p : Nat} (h : openC s p ≠ 0) : fits s p (openC s p) := by
  unfold openC at h ⊢
  cases hf : (List.range 13).find? (fun k => decide (fits s p (letterN k))) with
  | none => rw [hf] at h; exact absurd rfl h
  | some k =>
    have := List.find?_some hf
    simpa using this
theorem openC_lt (s : ByteArray) (p : Nat) : openC s p < 256 := by
  unfold openC
  cases hf : (List.range 13).find? (fun k => decide (fits s p (letterN k))) with
  | none => simp
  | some k =>
    have hk := List.mem_of_find?_eq_some hf
    exact (letterN_lt ⟨k, List.mem_range.1 hk⟩).1

/-! ### where a reader stands that goes byte by byte -/
/-- Ahead of place k: t tells whether it is within a text, whose bytes up to k stand in the last of what has been read. -/
def Stands (s : ByteArray) (k t : Nat) (out : List Lx) : Prop :=
  (t = 0 ∧ Reach s k out) ∨ (t = 1 ∧ ∃ p pre, out = pre ++ [⟨1, 0, s.extract p k, p⟩] ∧ p < k ∧ k ≤ s.size ∧ Reach s p pre ∧ ∀ j, p ≤ j → j < k → okT (bAt s j) = true)
theorem Stands.le {s : ByteArray} {k t : Nat} {out : List Lx} (h : Stands s k t out) : k ≤ s.size := by
  rcases h with ⟨_, h⟩ | ⟨_, p, pre, _, _, h, _⟩
  · exact h.1
  · exact h
theorem step_text {s : ByteArray} {p : Nat} (h : okT (bAt s p) = true) : stepF s p = .inl (⟨1, 0, s.extract p (tend s p), p⟩, tend s p) := by
  unfold stepF
  have h1 : bAt s p ≠ 125 := fun e => by rw [e, okT_not.2] at h; cases h
  have h2 : bAt s p ≠ 123 := fun e => by rw [e, okT_not.1] at h; cases h
  rw [if_neg h1, if_neg h2, if_pos h]
theorem Stands.settle {s : ByteArray} {k t : Nat} {out : List Lx} (h : Stands s k t out) (hk : k < s.size → okT (bAt s k) = false) : Reach s k out := by
  rcases h with ⟨_, h⟩ | ⟨_, p, pre, rfl, hp, hks, hR, hj⟩
  · exact h
  · have he : tend s p = k := (tend_is s p (by omega)).unique ⟨by omega, hks, hj, hk⟩
    have hs := step_text (s := s) (hj p (Nat.le_refl _) hp)
    rw [he] at hs
    exact hR.step (by omega) hs hks
theorem Stands.first {s : ByteArray} {k : Nat} {out : List Lx} (h : Stands s k 0 out) (hk : k < s.size) (hb : okT (bAt s k) = true) : Stands s (k + 1) 1 (out ++ [⟨1, 0, s.extract k (k + 1), k⟩]) := by
  rcases h with ⟨_, h⟩ | ⟨h, _⟩
  · refine .inr ⟨rfl, k, out, rfl, by omega, by omega, h, fun j h1 h2 => ?_⟩
    obtain rfl : j = k := by omega
    exact hb
  · cases h
theorem Stands.more {s : ByteArray} {k : Nat} {p : Nat} {pre : List Lx} (h : Stands s k 1 (pre ++ [⟨1, 0, s.extract p k, p⟩])) (hk : k < s.size) (hb : okT (bAt s k) = true) : Stands s (k + 1) 1 (pre ++ [⟨1, 0, s.extract p (k + 1), p⟩]) := by
  rcases h with ⟨h, _⟩ | ⟨_, p', pre', he, hp, hks, hR, hj⟩
  · cases h
  · obtain ⟨rfl, h6⟩ := List.append_inj' he rfl
    simp only [List.cons.injEq, Lx.mk.injEq, and_true, true_and] at h6
    obtain ⟨_, rfl⟩ := h6
    refine .inr ⟨rfl, p, pre, rfl, by omega, by omega, hR, fun j h1 h2 => ?_⟩
    rcases Nat.lt_or_ge j k with h3 | h3
    · exact hj j h1 h3
    · obtain rfl : j = k := by omega
      exact hb
theorem Stands.text {s : ByteArray} {k : Nat} {out : List Lx} (h : Stands s k 1 out) : ∃ p pre, out = pre ++ [⟨1, 0, s.extract p k, p⟩] ∧ p < k ∧ k ≤ s.size := by
  rcases h with ⟨h, _⟩ | ⟨_, p, pre, he, hp, hks, _⟩
  · cases h
  · exact ⟨p, pre, he, hp, hks⟩
theorem Stands.cases {s : ByteArray} {k t : Nat} {out : List Lx} (h : Stands s k t out) : t = 0 ∨ t = 1 := by
  rcases h with ⟨h, _⟩ | ⟨h, _⟩ <;> omega
theorem step_close {s : ByteArray} {p : Nat} (h : bAt s p = 125) : stepF s p = .inl (⟨3, 0, emptyS, p⟩, p + 1) := by unfold stepF; rw [if_pos h]
theorem step_open {s : ByteArray} {p : Nat} (h : bAt s p = 123) (hc : openC s (p + 1) ≠ 0) : stepF s p = .inl (⟨2, openC s (p + 1), emptyS, p⟩, skip s (p + 1 + (nameS (openC s (p + 1))).size)) := by
  unfold stepF; rw [if_neg (by omega), if_pos h, if_neg hc]
theorem step_none {s : ByteArray} {p : Nat} (h : bAt s p = 123) (hc : openC s (p + 1) = 0) : stepF s p = .inr 2 := by
  unfold stepF; rw [if_neg (by omega), if_pos h, if_pos hc]
theorem step_bad {s : ByteArray} {p : Nat} (h1 : bAt s p ≠ 125) (h2 : bAt s p ≠ 123) (h : okT (bAt s p) = false) : stepF s p = .inr 3 := by
  unfold stepF; rw [if_neg h1, if_neg h2, if_neg (by rw [h]; simp)]
theorem skip_le {s : ByteArray} {p : Nat} (hc : openC s (p + 1) ≠ 0) : skip s (p + 1 + (nameS (openC s (p + 1))).size) ≤ s.size := by
  have := (openC_fits hc).1
  unfold skip; split <;> omega
end Go.Proofs.YtgdealdpphcamaaDoor.Lx
