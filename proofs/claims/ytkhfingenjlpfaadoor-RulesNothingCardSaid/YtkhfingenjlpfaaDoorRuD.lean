/-
  Layer 8's document: parts between bytes, digits, names, words, what may stand on the left.
-/
import Derived.Test.YtkhfingenjlpfaaDoorRuC
import Derived.Test.YtkhfingenjlpfaaDoorVg
import Derived.Test.YtkhfingenjlpfaaDoorVa
import Derived.Test.YtkhfingenjlpfaaDoorCeQ
import Derived.BigQuiet
import Derived.Deep.DeepCutAuto
import Derived.BigRegion
import Derived.Deep.RegionLaw
import Derived.Deep.RegionWith
import Derived.Deep.RegionHeld3
import Derived.Deep.QuietTactic
import Derived.Deep.AppendLies
namespace Go.Proofs.YtkhfingenjlpfaaDoor.Ru
open Go.RowKit Ba

theorem infoS : (Tryd.prog.info? 9).map (fun i => (i.zero, i.size, i.bytes)) = some (some (.string { data := #[] }), 1, 16) := by kernel_rfl
theorem split_last {c : Nat} {L : List Nat} {f : Nat} (hn : ∀ j, f ≤ j → j < L.length → L.getD j 0 ≠ c) : splitL c (L.drop f) = [L.drop f] := by
  refine split_no fun h => ?_
  obtain ⟨j, hj⟩ := List.mem_iff_getElem?.1 h
  rw [List.getElem?_drop] at hj
  exact hn (f + j) (by omega) (List.getElem?_eq_some_iff.1 hj).1 (by rw [List.getD_eq_getElem?_getD, hj]; rfl)
theorem split_drop {c : Nat} {L : List Nat} {f i : Nat} (hfi : f ≤ i) (hi : i < L.length) (hc : L.getD i 0 = c) (hn : ∀ j, f ≤ j → j < i → L.getD j 0 ≠ c) : splitL c (L.drop f) = (L.drop f).take (i - f) :: splitL c (L.drop (i + 1)) := by
  have hL : L.drop f = (L.drop f).take (i - f) ++ c :: L.drop (i + 1) := by
    conv => lhs; rw [← List.take_append_drop (i - f) (L.drop f)]
    congr 1
    rw [List.drop_drop, show f + (i - f) = i by omega, List.drop_eq_getElem_cons hi]
    congr 1
    rw [← hc, List.getD_eq_getElem?_getD, List.getElem?_eq_getElem hi]; rfl
  conv => lhs; rw [hL]
  refine split_at _ fun h => ?_
  obtain ⟨j, hj⟩ := List.mem_iff_getElem?.1 h
  rw [List.getElem?_take] at hj
  split at hj
  · rename_i hlt
    rw [List.getElem?_drop] at hj
    exact hn (f + j) (by omega) (by omega) (by rw [List.getD_eq_getElem?_getD, hj]; rfl)
  · cases hj
/-- Where one who goes over a text's parts stands: P behind, the next one from f on, at byte k. -/
def FldAt (c : Nat) (s : ByteArray) (P : List (List Nat)) (f k : Nat) : Prop :=
  (k ≤ s.size ∧ f ≤ k ∧ (∀ j, f ≤ j → j < k → bAt s j ≠ c) ∧ splitL c (bytesN s) = P ++ splitL c ((bytesN s).drop f)) ∨ (k = s.size + 1 ∧ splitL c (bytesN s) = P)
theorem FldAt.zero (c : Nat) (s : ByteArray) : FldAt c s [] 0 0 := .inl ⟨Nat.zero_le _, Nat.le_refl _, fun j h1 h2 => by omega, rfl⟩
theorem FldAt.step {c : Nat} {s : ByteArray} {P : List (List Nat)} {f k : Nat} (h : FldAt c s P f k) (hk : k < s.size) (hn : bAt s k ≠ c) : FldAt c s P f (k + 1) := by
  rcases h with ⟨h1, h2, h3, h4⟩ | ⟨h1, _⟩
  · refine .inl ⟨by omega, by omega, fun j j1 j2 => ?_, h4⟩
    rcases Nat.lt_or_ge j k with j3 | j3
    · exact h3 j j1 j3
    · obtain rfl : j = k := by omega
      exact hn
  · omega
theorem FldAt.from {c : Nat} {s : ByteArray} {P : List (List Nat)} {f k : Nat} (h : FldAt c s P f k) (hk : k ≤ s.size) : f ≤ k := by
  rcases h with ⟨_, h2, _⟩ | ⟨h1, _⟩ <;> omega
theorem FldAt.cut {c : Nat} {s : ByteArray} {P : List (List Nat)} {f k : Nat} (h : FldAt c s P f k) (hk : k ≤ s.size) (hc : k < s.size → bAt s k = c) : FldAt c s (P ++ [bytesN (s.extract f k)]) (k + 1) (k + 1) := by
  rcases h with ⟨h1, h2, h3, h4⟩ | ⟨h1, _⟩
  · have hl := bytesN_len s
    rw [bytesN_ext]
    rcases Nat.lt_or_ge k s.size with hlt | hge
    · refine .inl ⟨by omega, Nat.le_refl _, fun j j1 j2 => by omega, ?_⟩
      rw [h4, split_drop h2 (by omega) (hc hlt) h3, List.append_assoc]; rfl
    · refine .inr ⟨by omega, ?_⟩
      rw [h4, split_last fun j j1 j2 => h3 j j1 (by omega)]
      congr 2
      rw [List.take_of_length_le (by rw [List.length_drop]; omega)]
  · omega
theorem FldAt.done {c : Nat} {s : ByteArray} {P : List (List Nat)} {f : Nat} (h : FldAt c s P f (s.size + 1)) : splitL c (bytesN s) = P := by
  rcases h with ⟨h1, _⟩ | ⟨_, h2⟩
  · omega
  · exact h2
theorem rowsS_snoc (P : List (List Nat)) (t : ByteArray) : rows cS (P ++ [bytesN t]) = rows cS P ++ [.string t] := by
  rw [rows_snoc]
  show _ ++ [Value.string (bytesOf (bytesN t))] = _
  rw [bytesOf_bytesN]
theorem cS_len (x : List Nat) : (cS x).length = 1 := rfl
def FldsTo (P : List (List Nat)) (w : World) (e : Ending) (w' : World) : Prop := ∃ v, e = .returned v ∧ w'.ownsRow w.heap.size 9 1 v P.length (rows cS P) ∧ Below w.heap.size w w'


/-- A Prio's digits, told; -1: none. -/
def digI (l : List Nat) : Int := match digA l with | some n => ((n : Nat) : Int) | none => -1
theorem bytes1 {s : ByteArray} (h : s.size = 1) : bytesN s = [bAt s 0] := by
  have hl := bytesN_len s
  unfold bAt
  cases hL : bytesN s with
  | nil => rw [hL, h] at hl; cases hl
  | cons x r =>
    rw [hL, h] at hl
    obtain rfl : r = [] := List.length_eq_zero_iff.1 (by simpa using hl)
    rfl
theorem bytes2 {s : ByteArray} (h : s.size = 2) : bytesN s = [bAt s 0, bAt s 1] := by
  have hl := bytesN_len s
  unfold bAt
  cases hL : bytesN s with
  | nil => rw [hL, h] at hl; cases hl
  | cons x r =>
    rw [hL, h, List.length_cons] at hl
    cases r with
    | nil => simp at hl
    | cons y q =>
      obtain rfl : q = [] := List.length_eq_zero_iff.1 (by simpa using hl)
      rfl
theorem digI_else {l : List Nat} (h1 : l.length ≠ 1) (h2 : l.length ≠ 2) : digI l = -1 := by
  unfold digI digA
  match l, h1, h2 with
  | [], _, _ => rfl
  | [a], h, _ => exact absurd rfl h
  | [a, b], _, h => exact absurd rfl h
  | a :: b :: c :: r, _, _ => rfl
theorem digI_1 (b : Nat) : digI [b] = if 48 ≤ b ∧ b ≤ 57 then ((b - 48 : Nat) : Int) else -1 := by
  unfold digI digA
  by_cases h : 48 ≤ b ∧ b ≤ 57
  · simp only [if_pos h]
  · simp only [if_neg h]
theorem digI_2 (a b : Nat) : digI [a, b] = if (49 ≤ a ∧ a ≤ 57) ∧ 48 ≤ b ∧ b ≤ 57 then ((10 * (a - 48) + (b - 48) : Nat) : Int) else -1 := by
  unfold digI digA
  by_cases h : (49 ≤ a ∧ a ≤ 57) ∧ 48 ≤ b ∧ b ≤ 57
  · simp only [if_pos h]
  · simp only [if_neg h]
theorem names_row : rows cS namesL = [.string { data := #[99, 97, 112] }, .string { data := #[99, 97, 112, 115] }, .string { data := #[110, 117, 109] }, .string { data := #[108, 101, 116] }, .string { data := #[101, 43] }, .string { data := #[101, 45] }, .string { data := #[115, 43] }, .string { data := #[115, 45] }, .string { data := #[110, 43] }, .string { data := #[110, 45] }, .string { data := #[98, 108, 107] }, .string { data := #[99, 111, 110, 116] }, .string { data := #[105, 110, 100] }] := by kernel_rfl
theorem words_row : rows cS ([] :: wordsL) = [.string { data := #[] }, .string { data := #[97, 110, 121] }, .string { data := #[98, 101, 103, 105, 110] }, .string { data := #[105, 110, 110, 101, 114] }, .string { data := #[101, 110, 100] }, .string { data := #[119, 111, 114, 100] }, .string { data := #[109, 97, 114, 107] }, .string { data := #[100, 105, 103, 105, 116] }, .string { data := #[115, 105, 103, 110] }] := by kernel_rfl
/-- Where one who looks among names stands: s is none of the first k. -/
def NoneOf (s : List Nat) (k : Nat) : Prop := ∀ j, j < k → namesL[j]? ≠ some s
theorem NoneOf.step {s : List Nat} {k : Nat} (h : NoneOf s k) (hn : namesL[k]? ≠ some s) : NoneOf s (k + 1) := fun j hj => by
  rcases Nat.lt_or_ge j k with j3 | j3
  · exact h j j3
  · obtain rfl : j = k := by omega
    exact hn
theorem noneOf_all {s : List Nat} (h : NoneOf s 13) : leftB 8 s = false := by
  show namesL.contains s = false
  rw [Bool.eq_false_iff]
  intro hc
  obtain ⟨j, hj⟩ := List.mem_iff_getElem?.1 (List.contains_iff_mem.1 hc)
  exact h j (List.getElem?_eq_some_iff.1 hj).1 hj
theorem oneOf {s : List Nat} {k : Nat} (h : namesL[k]? = some s) : leftB 8 s = true := List.contains_iff_mem.2 (List.mem_of_getElem? h)
/-- left of a text that is no one byte, or is one. -/
theorem left_one_no {k c : Nat} {s : ByteArray} (hk : k = 6 ∧ c = 4 ∨ k = 7 ∧ c = 3) (h : s.size ≠ 1) : leftB k (bytesN s) = false := by
  have hl := bytesN_len s
  have e : ∀ l : List Nat, l.length ≠ 1 → (match l with | [b] => Ka.clsN b == c | _ => false) = false := fun l hl => by
    match l, hl with
    | [], _ => rfl
    | [a], h => exact absurd rfl h
    | a :: b :: r, _ => rfl
  rcases hk with ⟨rfl, rfl⟩ | ⟨rfl, rfl⟩
  · unfold leftB
    rw [if_neg (by decide), if_pos rfl]
    exact e _ (by omega)
  · unfold leftB
    rw [if_neg (by decide), if_neg (by decide), if_pos rfl]
    exact e _ (by omega)
theorem left_one {k c : Nat} {s : ByteArray} (hk : k = 6 ∧ c = 4 ∨ k = 7 ∧ c = 3) (h : s.size = 1) : leftB k (bytesN s) = (Ka.clsN (bAt s 0) == c) := by
  rw [bytes1 h]
  rcases hk with ⟨rfl, rfl⟩ | ⟨rfl, rfl⟩ <;> rfl
/-- The first k bytes are small letters. -/
def SmallTo (s : ByteArray) (k : Nat) : Prop := ∀ j, j < k → Ka.clsN (bAt s j) = 1
theorem SmallTo.step {s : ByteArray} {k : Nat} (h : SmallTo s k) (hn : Ka.clsN (bAt s k) = 1) : SmallTo s (k + 1) := fun j hj => by
  rcases Nat.lt_or_ge j k with j3 | j3
  · exact h j j3
  · obtain rfl : j = k := by omega
    exact hn
theorem small_all {s : ByteArray} {k : Nat} (hk : k ≤ 5) (h : SmallTo s s.size) : leftB k (bytesN s) = decide (0 < s.size ∧ s.size ≤ 12) := by
  unfold leftB
  rw [if_pos hk, bytesN_len, show ((bytesN s).all fun b => Ka.clsN b == 1) = true from List.all_eq_true.2 fun x hx => by
    obtain ⟨j, hj, rfl⟩ := Ce.mem_bytes s hx
    rw [beq_iff_eq]; exact h j hj, Bool.and_true]
theorem small_no {s : ByteArray} {k j : Nat} (hk : k ≤ 5) (hj : j < s.size) (h : Ka.clsN (bAt s j) ≠ 1) : leftB k (bytesN s) = false := by
  unfold leftB
  rw [if_pos hk, show ((bytesN s).all fun b => Ka.clsN b == 1) = false from by
    rw [Bool.eq_false_iff]
    intro ha
    have := List.all_eq_true.1 ha (bAt s j) (by
      have hl : j < (bytesN s).length := by rw [bytesN_len]; exact hj
      unfold bAt
      rw [List.getD_eq_getElem?_getD, List.getElem?_eq_getElem hl]
      exact List.getElem_mem hl)
    exact h (by simpa using this), Bool.and_false]
end Go.Proofs.YtkhfingenjlpfaaDoor.Ru
