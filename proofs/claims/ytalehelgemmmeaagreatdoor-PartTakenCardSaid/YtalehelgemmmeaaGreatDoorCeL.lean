/-
  A text's parts, between its dashes: plain facts.
-/
import Derived.Test.YtalehelgemmmeaaGreatDoorCeI
import Derived.Lib.IndexLaws
namespace Go.Proofs.YtalehelgemmmeaaGreatDoor.Ce
open Go.RowKit

def dsh (s : ByteArray) : Nat → Nat → Nat
  | 0, e => e
  | n + 1, e => if e < s.size ∧ bAt s e ≠ 45 then dsh s n (e + 1) else e
/-- The place of the first dash from f on; the text's size: none. -/
def dash (s : ByteArray) (f : Nat) : Nat := dsh s s.size f
def IsDash (s : ByteArray) (f e : Nat) : Prop := f ≤ e ∧ e ≤ s.size ∧ (∀ j, f ≤ j → j < e → bAt s j ≠ 45) ∧ (e < s.size → bAt s e = 45)
theorem dsh_is (s : ByteArray) (f : Nat) : ∀ n e, s.size - e ≤ n → f ≤ e → e ≤ s.size → (∀ j, f ≤ j → j < e → bAt s j ≠ 45) → IsDash s f (dsh s n e)
  | 0, e, hn, hf, he, hj => ⟨hf, he, hj, fun h => by have : dsh s 0 e = e := rfl; omega⟩
  | n + 1, e, hn, hf, he, hj => by
    unfold dsh
    by_cases h : e < s.size ∧ bAt s e ≠ 45
    · rw [if_pos h]
      refine dsh_is s f n (e + 1) (by omega) (by omega) (by omega) (fun j h1 h2 => ?_)
      rcases Nat.lt_or_ge j e with h3 | h3
      · exact hj j h1 h3
      · obtain rfl : j = e := by omega
        exact h.2
    · rw [if_neg h]
      exact ⟨hf, he, hj, fun h3 => Classical.byContradiction fun h4 => h ⟨h3, h4⟩⟩
theorem dash_is (s : ByteArray) (f : Nat) (h : f ≤ s.size) : IsDash s f (dash s f) := dsh_is s f s.size f (by omega) (Nat.le_refl _) h (fun j h1 h2 => by omega)
theorem IsDash.unique {s : ByteArray} {f e e' : Nat} (h : IsDash s f e) (h' : IsDash s f e') : e = e' := by
  obtain ⟨a1, a2, a3, a4⟩ := h
  obtain ⟨b1, b2, b3, b4⟩ := h'
  rcases Nat.lt_trichotomy e e' with h | h | h
  · exact absurd (a4 (by omega)) (b3 e (by omega) h)
  · exact h
  · exact absurd (b4 (by omega)) (a3 e' (by omega) h)

theorem bAt_ext (s : ByteArray) (f e j : Nat) (he : e ≤ s.size) (hj : f + j < e) : bAt (s.extract f e) j = bAt s (f + j) := by
  have h1 : j < (s.extract f e).size := by rw [ByteArray.size_extract]; omega
  rw [← bAt_get _ j h1, ← bAt_get s (f + j) (by omega), ByteArray.getElem_extract]
theorem ext_size (s : ByteArray) (a b : Nat) (hb : b ≤ s.size) : (s.extract a b).size = b - a := by
  rw [ByteArray.size_extract]; omega
theorem ext_all (s : ByteArray) : s.extract 0 s.size = s := by simp
theorem ext_front (s : ByteArray) (f e : Nat) (h1 : f ≤ e) (h2 : e ≤ s.size) : (s.extract f s.size).extract 0 (e - f) = s.extract f e := by
  rw [ByteArray.extract_extract]
  congr 1
  omega
theorem ext_back (s : ByteArray) (f k : Nat) (h2 : f ≤ s.size) : (s.extract f s.size).extract k (s.extract f s.size).size = s.extract (f + k) s.size := by
  rw [ByteArray.extract_extract, ext_size _ _ _ (Nat.le_refl _)]
  congr 1
  omega
theorem toList_at (t : ByteArray) (k : Nat) (h : k < t.size) : t.data.toList[k]? = some (t[k]'h) := by
  have hl : k < t.data.toList.length := by simpa using h
  rw [List.getElem?_eq_getElem hl]; rfl
/-- What strings.Index finds in the rest. -/
theorem index_rest (s : ByteArray) (f : Nat) (hf : f ≤ s.size) :
    Lib.indexByte (s.extract f s.size).data.toList 45 = if dash s f < s.size then (((dash s f - f : Nat)) : Int) else -1 := by
  have hD := dash_is s f hf
  have hz := ext_size s f s.size (Nat.le_refl _)
  have hge := Lib.indexByte_ge (s.extract f s.size).data.toList 45
  have u45 : (45 : UInt8).toNat = 45 := rfl
  have val : ∀ k (hk : k < (s.extract f s.size).size), ((s.extract f s.size)[k]'hk).toNat = bAt s (f + k) := fun k hk => by
    rw [bAt_get _ k hk, bAt_ext s f s.size k (Nat.le_refl _) (by omega)]
  by_cases h1 : Lib.indexByte (s.extract f s.size).data.toList 45 = -1
  · have hn := Lib.indexByte_none h1
    have he : dash s f = s.size := hD.unique ⟨hf, Nat.le_refl _, fun j h2 h3 h4 => by
      have hk : j - f < (s.extract f s.size).size := by omega
      refine hn (j - f) ?_
      rw [toList_at _ _ hk]
      have := val (j - f) hk
      rw [show f + (j - f) = j from by omega, h4] at this
      exact congrArg some (UInt8.toNat_inj.1 (this.trans u45.symm)), fun h => absurd h (by omega)⟩
    rw [h1, if_neg (by omega)]
  · obtain ⟨o, ho⟩ : ∃ o : Nat, Lib.indexByte (s.extract f s.size).data.toList 45 = o := ⟨_, (Int.toNat_of_nonneg (by omega)).symm⟩
    obtain ⟨hs1, hs2⟩ := Lib.indexByte_some ho
    have hlt : o < (s.extract f s.size).size := by
      have := (List.getElem?_eq_some_iff.1 hs1).1
      simpa using this
    have e1 : bAt s (f + o) = 45 := by
      rw [toList_at _ _ hlt] at hs1
      rw [← val o hlt, Option.some.inj hs1]; rfl
    have he : dash s f = f + o := hD.unique ⟨by omega, by omega, fun j h2 h3 h4 => by
      have hk : j - f < (s.extract f s.size).size := by omega
      refine hs2 (j - f) (by omega) ?_
      rw [toList_at _ _ hk]
      have := val (j - f) hk
      rw [show f + (j - f) = j from by omega, h4] at this
      exact congrArg some (UInt8.toNat_inj.1 (this.trans u45.symm)), fun _ => e1⟩
    rw [ho, if_pos (by omega), he, Nat.add_sub_cancel_left]

/-- A part: where it begins, and the place behind it. -/
abbrev Pt (s : ByteArray) := { x : Nat × Nat // x.1 ≤ x.2 ∧ x.2 ≤ s.size }
def partsF (s : ByteArray) : Nat → Nat → List (Pt s)
  | 0, _ => []
  | n + 1, f => if h : f ≤ s.size then ⟨(f, dash s f), (dash_is s f h).1, (dash_is s f h).2.1⟩ :: (if dash s f < s.size then partsF s n (dash s f + 1) else []) else []
/-- The parts from f on. -/
def partsA (s : ByteArray) (f : Nat) : List (Pt s) := partsF s (s.size + 1) f
theorem partsF_more (s : ByteArray) : ∀ n m f, s.size + 1 - f ≤ n → s.size + 1 - f ≤ m → partsF s n f = partsF s m f
  | 0, 0, _, _, _ => rfl
  | 0, m + 1, f, hn, hm => by unfold partsF; rw [dif_neg (by omega)]
  | n + 1, 0, f, hn, hm => by unfold partsF; rw [dif_neg (by omega)]
  | n + 1, m + 1, f, hn, hm => by
    unfold partsF
    by_cases h : f ≤ s.size
    · rw [dif_pos h, dif_pos h]
      have := (dash_is s f h).1
      congr 1
      split
      · exact partsF_more s n m (dash s f + 1) (by omega) (by omega)
      · rfl
    · rw [dif_neg h, dif_neg h]
theorem partsA_step (s : ByteArray) (f : Nat) (h : f ≤ s.size) : partsA s f = ⟨(f, dash s f), (dash_is s f h).1, (dash_is s f h).2.1⟩ :: (if dash s f < s.size then partsA s (dash s f + 1) else []) := by
  have h1 := (dash_is s f h).1
  have h2 := (dash_is s f h).2.1
  unfold partsA
  conv => lhs; unfold partsF
  rw [dif_pos h]
  congr 1
  split
  · exact partsF_more s _ _ _ (by omega) (by omega)
  · rfl
theorem partsF_len (s : ByteArray) : ∀ n f, (partsF s n f).length ≤ n
  | 0, f => by simp [partsF]
  | n + 1, f => by
    unfold partsF
    by_cases h : f ≤ s.size
    · rw [dif_pos h]
      have := partsF_len s n (dash s f + 1)
      split <;> simp <;> omega
    · rw [dif_neg h]; simp
theorem partsA_len (s : ByteArray) (f : Nat) : (partsA s f).length ≤ s.size + 1 := partsF_len s _ f

/-- The parts in pre have come; those from f on are still to come. -/
def ComeP (s : ByteArray) (pre : List (Pt s)) (f : Nat) : Prop := partsA s 0 = pre ++ partsA s f
theorem ComeP.zero (s : ByteArray) : ComeP s [] 0 := rfl
theorem ComeP.succ {s : ByteArray} {pre : List (Pt s)} {f : Nat} (h : ComeP s pre f) (hf : f ≤ s.size) (hd : dash s f < s.size) :
    ComeP s (pre ++ [⟨(f, dash s f), (dash_is s f hf).1, (dash_is s f hf).2.1⟩]) (dash s f + 1) := by
  unfold ComeP at h ⊢; rw [h, partsA_step s f hf, if_pos hd]; simp
theorem ComeP.last {s : ByteArray} {pre : List (Pt s)} {f : Nat} (h : ComeP s pre f) (hf : f ≤ s.size) (hd : ¬ dash s f < s.size) :
    partsA s 0 = pre ++ [⟨(f, dash s f), (dash_is s f hf).1, (dash_is s f hf).2.1⟩] := by
  unfold ComeP at h; rw [h, partsA_step s f hf, if_neg hd]
theorem ComeP.lt {s : ByteArray} {pre : List (Pt s)} {f : Nat} (h : ComeP s pre f) (hf : f ≤ s.size) : pre.length < (partsA s 0).length := by
  unfold ComeP at h; rw [h, partsA_step s f hf]; simp
theorem ComeP.front {s : ByteArray} {pre : List (Pt s)} {f : Nat} (h : ComeP s pre f) : pre <+: partsA s 0 := ⟨_, h.symm⟩
end Go.Proofs.YtalehelgemmmeaaGreatDoor.Ce
