/-
  Layer 8's document: a table's text, parsed.
-/
import Derived.Test.YtkhfingenjlpfaaDoorRuG
namespace Go.Proofs.YtkhfingenjlpfaaDoor.Ru
open Go.RowKit Ba

/-- Where Parse stands: lines are gone over, the next one from f on, at byte k; acc: their rules. -/
def PsAt (s : ByteArray) (n : Nat) (acc : List Rl) (f k : Nat) : Prop :=
  (k ≤ s.size ∧ f ≤ k ∧ (∀ j, f ≤ j → j < k → bAt s j ≠ 10) ∧ goP psC (splitL 10 (bytesN s)) 1 [] = goP psC (splitL 10 ((bytesN s).drop f)) n acc) ∨ (k = s.size + 1 ∧ goP psC (splitL 10 (bytesN s)) 1 [] = (acc, 0, 0))
theorem PsAt.zero (s : ByteArray) : PsAt s 1 [] 0 0 := .inl ⟨Nat.zero_le _, Nat.le_refl _, fun j h1 h2 => by omega, rfl⟩
theorem PsAt.step {s : ByteArray} {n : Nat} {acc : List Rl} {f k : Nat} (h : PsAt s n acc f k) (hk : k < s.size) (hn : bAt s k ≠ 10) : PsAt s n acc f (k + 1) := by
  rcases h with ⟨h1, h2, h3, h4⟩ | ⟨h1, _⟩
  · refine .inl ⟨by omega, by omega, fun j j1 j2 => ?_, h4⟩
    rcases Nat.lt_or_ge j k with j3 | j3
    · exact h3 j j1 j3
    · obtain rfl : j = k := by omega
      exact hn
  · omega
theorem PsAt.from {s : ByteArray} {n : Nat} {acc : List Rl} {f k : Nat} (h : PsAt s n acc f k) (hk : k ≤ s.size) : f ≤ k := by
  rcases h with ⟨_, h2, _⟩ | ⟨h1, _⟩ <;> omega
/-- A line ends: what is left of the lines. -/
theorem PsAt.piece {s : ByteArray} {n : Nat} {acc : List Rl} {f k : Nat} (h : PsAt s n acc f k) (hk : k ≤ s.size) (hc : k < s.size → bAt s k = 10) :
    ∃ rest, goP psC (splitL 10 (bytesN s)) 1 [] = goP psC (bytesN (s.extract f k) :: rest) n acc ∧ ∀ acc', goP psC (bytesN (s.extract f k) :: rest) n acc = goP psC rest (n + 1) acc' → PsAt s (n + 1) acc' (k + 1) (k + 1) := by
  rcases h with ⟨h1, h2, h3, h4⟩ | ⟨h1, _⟩
  · have hl := bytesN_len s
    rw [bytesN_ext]
    rcases Nat.lt_or_ge k s.size with hlt | hge
    · have hd := split_drop h2 (by omega) (hc hlt) h3
      refine ⟨splitL 10 ((bytesN s).drop (k + 1)), by rw [h4, hd], fun acc' ha => .inl ⟨by omega, Nat.le_refl _, fun j j1 j2 => by omega, ?_⟩⟩
      rw [h4, hd, ha]
    · have hd := split_last (c := 10) (L := bytesN s) (f := f) fun j j1 j2 => h3 j j1 (by omega)
      rw [List.take_of_length_le (by rw [List.length_drop]; omega)]
      refine ⟨[], by rw [h4, hd], fun acc' ha => .inr ⟨by omega, ?_⟩⟩
      rw [h4, hd, ha]; rfl
  · omega
theorem PsAt.done {s : ByteArray} {n : Nat} {acc : List Rl} {f : Nat} (h : PsAt s n acc f (s.size + 1)) : goP psC (splitL 10 (bytesN s)) 1 [] = (acc, 0, 0) := by
  rcases h with ⟨h1, _⟩ | ⟨_, h2⟩
  · omega
  · exact h2
theorem parseZ_is {s : ByteArray} (h : s.size ≤ 65536) : parseZ s = goP psC (splitL 10 (bytesN s)) 1 [] := by
  unfold parseZ parseR
  rw [if_neg (by rw [bytesN_len]; omega)]
theorem parseZ_big {s : ByteArray} (h : 65536 < s.size) : parseZ s = ([], 0, 4) := by
  unfold parseZ parseR
  rw [if_pos (by rw [bytesN_len]; omega)]
theorem Tu_own_form {w : World} {base : Nat} {e : TypeId} {size : Nat} {v : Value} {n : Nat} {xs : List Value} (h : w.ownsRow base e size v n xs) : ∃ A c, v = .slice A n c ∧ n ≤ c := by
  rcases h.2 with ⟨h1, h0⟩ | ⟨g, c, _, h1, _, _, hc, _⟩
  · exact ⟨none, 0, by rw [h1, h0], by omega⟩
  · exact ⟨_, _, h1, hc⟩
def ParsTo (r : List Rl × Nat × Nat) (w : World) (e : Ending) (w' : World) : Prop := ∃ v, e = .returned (.tuple #[v, .int .i64 ((r.2.1 : Nat) : Int), .int .i64 ((r.2.2 : Nat) : Int)]) ∧ w'.ownsRow w.heap.size 30 5 v r.1.length (rows cR r.1) ∧ Below w.heap.size w w'
theorem ParsTo.bad {r : List Rl × Nat × Nat} {w w' : World} {n e : Nat} (h : r = ([], n, e)) (hb : Below w.heap.size w w') : ParsTo r w (.returned (.tuple #[.slice none 0 0, .int .i64 (n : Int), .int .i64 (e : Int)])) w' := by
  subst h
  exact ⟨_, rfl, World.ownsRow_nil _ _ _ _, hb⟩
theorem ext_nil {s : ByteArray} {f k : Nat} (hk : k ≤ s.size) (h : f = k) : s.extract f k = { data := #[] } := by
  have : (s.extract f k).size = 0 := by rw [ext_size _ _ _ hk]; omega
  exact ByteArray.ext (Array.eq_empty_of_size_eq_zero this)
end Go.Proofs.YtkhfingenjlpfaaDoor.Ru
