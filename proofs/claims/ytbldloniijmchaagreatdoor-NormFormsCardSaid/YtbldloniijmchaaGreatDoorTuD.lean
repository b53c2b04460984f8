/-
  The document's Parse of layer 4.
-/
import Derived.Test.YtbldloniijmchaaGreatDoorTuB
import Derived.Test.YtbldloniijmchaaGreatDoorTuC
import Derived.Test.YtbldloniijmchaaGreatDoorTsV
namespace Go.Proofs.YtbldloniijmchaaGreatDoor.Tr
open Go.RowKit

theorem cX_len (x : Lx.Lx) : (Lx.cellsX x).length = 4 := rfl
theorem own_form {w : World} {base : Nat} {e : TypeId} {size : Nat} {v : Value} {n : Nat} {xs : List Value} (h : w.ownsRow base e size v n xs) : ∃ A c, v = .slice A n c ∧ n ≤ c := by
  rcases h.2 with ⟨h', h0⟩ | ⟨g', c', _, h', _, _, hc, _⟩
  · exact ⟨none, 0, by rw [h', h0], by omega⟩
  · exact ⟨_, _, h', hc⟩
theorem partOk_lex {s : ByteArray} (h : Lx.lexE s = 0) : ∀ x ∈ Lx.lexV s, PartOk x := fun x hx => by
  obtain ⟨k, hk⟩ := List.mem_iff_getElem?.1 hx
  obtain ⟨a, b, c, d⟩ := lex_part h hk
  refine ⟨c, by omega, by omega, ?_⟩
  rcases d with d | ⟨d, -⟩ | ⟨d, -⟩ <;> omega
/-- Nothing is wrong with the first k parts. -/
def OkTo (l : List Lx.Lx) (k : Nat) : Prop := ∀ i x, i < k → l[i]? = some x → (errStep (readL (l.take i)).1 (readL (l.take i)).2 x).2 = 0
theorem OkTo.zero (l : List Lx.Lx) : OkTo l 0 := fun i x h => absurd h (by omega)
theorem OkTo.succ {l : List Lx.Lx} {k : Nat} (h : OkTo l k) {x : Lx.Lx} (hx : l[k]? = some x) (he : (errStep (readL (l.take k)).1 (readL (l.take k)).2 x).2 = 0) : OkTo l (k + 1) := fun i y hi hy => by
  rcases Nat.lt_or_ge i k with h1 | h1
  · exact h i y h1 hy
  · obtain rfl : i = k := by omega
    rw [hx] at hy; cases hy; exact he
theorem safe_of {l : List Lx.Lx} (hp : ∀ x ∈ l, PartOk x) (k : Nat) : k ≤ l.length → (∀ i x, i < k → l[i]? = some x → (readL (l.take i)).2.length = 1 → x.kind = 1 ∨ x.kind = 2) → SafeL (l.take k) := by
  induction k using Nat.strongRecOn with
  | _ k ih =>
    intro hk hc
    refine ⟨fun x hx => hp x (List.mem_of_mem_take hx), fun i x hx => ?_⟩
    rw [List.getElem?_take] at hx
    split at hx
    · next hi =>
      rw [List.take_take, Nat.min_eq_left (by omega)]
      have hs := ih i hi (by omega) (fun j y hj => hc j y (by omega))
      have hg := hs.good i (by rw [List.length_take]; omega)
      rw [List.take_take, Nat.min_self] at hg
      have hpos := hg.pos
      by_cases h1 : (readL (l.take i)).2.length = 1
      · rcases hc i x hi hx h1 with h | h
        · exact .inl h
        · exact .inr (.inl h)
      · exact .inr (.inr (by omega))
    · cases hx
theorem safe_ok {l : List Lx.Lx} (hp : ∀ x ∈ l, PartOk x) {k : Nat} (hk : k ≤ l.length) (h : OkTo l k) : SafeL (l.take k) := safe_of hp k hk fun i x hi hx h1 => by
  have he := h i x hi hx
  by_cases e1 : x.kind = 1
  · exact .inl e1
  by_cases e2 : x.kind = 2
  · exact .inr e2
  rw [errS_close e1 e2, if_pos (.inl h1)] at he
  cases he
theorem errFrom_at {l : List Lx.Lx} : ∀ k, k ≤ l.length → OkTo l k → errFrom ([], [root]) l = errFrom (readL (l.take k)) (l.drop k)
  | 0, _, _ => by rw [List.take_zero, List.drop_zero]; rfl
  | k + 1, hk, h => by
    obtain ⟨x, hx⟩ := at_some (l := l) (i := k) (by omega)
    rw [errFrom_at k (by omega) (fun i y hi => h i y (by omega)), errFrom_drop hx, if_pos (h k x (by omega) hx), readL_take hx]
theorem parse_bad {s : ByteArray} (h0 : Lx.lexE s = 0) {z : Nat × Nat} (h : errFrom ([], [root]) (Lx.lexV s) = some z) : parseA s = ([], z.1, z.2) := by
  unfold parseA; rw [if_neg (by omega), h]
theorem parse_left {s : ByteArray} (h0 : Lx.lexE s = 0) (h : errFrom ([], [root]) (Lx.lexV s) = none) (h1 : 1 < (readL (Lx.lexV s)).2.length) : parseA s = ([], s.size, 2) := by
  unfold parseA; rw [if_neg (by omega), h]; simp only []; rw [if_pos h1]
theorem parse_good {s : ByteArray} (h0 : Lx.lexE s = 0) (h : errFrom ([], [root]) (Lx.lexV s) = none) (h1 : ¬ 1 < (readL (Lx.lexV s)).2.length) : parseA s = ((readL (Lx.lexV s)).1, 0, 0) := by
  unfold parseA; rw [if_neg (by omega), h]; simp only []; rw [if_neg h1]
def ParsesTo (s : ByteArray) (w : World) (e : Ending) (w' : World) : Prop := ∃ v, e = .returned (.tuple #[v, .int .i64 (((parseA s).2.1 : Nat) : Int), .int .i64 (((parseA s).2.2 : Nat) : Int)]) ∧ ReadsN 0 w' w'.heap.size v (parseA s).1 ∧ Below w.heap.size w w'
theorem ParsesTo.nil {s : ByteArray} {w w' : World} {p e : Nat} (h : parseA s = ([], p, e)) (hb : Below w.heap.size w w') : ParsesTo s w (.returned (.tuple #[.slice none 0 0, .int .i64 (p : Int), .int .i64 (e : Int)])) w' := by
  refine ⟨.slice none 0 0, ?_, ?_, hb⟩
  · rw [h]
  · rw [h]; exact Ba.Reads.nil _ _ _
/-- The row that is read, and the first parts of it. -/
theorem row_take {w : World} {l : List Lx.Lx} {g c : Nat} (hg : g < w.heap.size) (h : ∀ k x, l[k]? = some x → ∀ j u, (Lx.cellsX x)[j]? = some u → w.cell? ⟨g, 0 + (k * 4 + j), none⟩ = some u) (k : Nat) (hk : k ≤ l.length) : Ba.Reads Lx.cellsX 4 0 w w.heap.size (.slice (some ⟨g, 0, none⟩) k c) (l.take k) := by
  refine ⟨some ⟨g, 0, none⟩, c, by rw [List.length_take, Nat.min_eq_left hk], fun _ => ⟨g, rfl, hg, fun i x hx => ?_⟩⟩
  rw [List.getElem?_take] at hx
  split at hx
  · exact h i x hx
  · cases hx

end Go.Proofs.YtbldloniijmchaaGreatDoor.Tr
