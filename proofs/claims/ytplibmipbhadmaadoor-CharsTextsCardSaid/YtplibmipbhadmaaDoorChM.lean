/-
  Plain facts on a text's runs: where each ends, and all of them, one behind the other. No program stands in it.
-/
import Derived.Test.YtplibmipbhadmaaDoorChB
namespace Go.Proofs.YtplibmipbhadmaaDoor
open Go.RowKit

/-- The byte at i, as a number. -/
def bAt (s : ByteArray) (i : Nat) : Int := ((s.data.toList.getD i 0).toNat : Int)
/-- Its class. -/
def kc (s : ByteArray) (i : Nat) : Int := cls (bAt s i)
theorem bAt_lt (s : ByteArray) (i : Nat) : 0 ≤ bAt s i ∧ bAt s i < 256 := by
  unfold bAt; have := UInt8.toNat_lt (s.data.toList.getD i 0); omega
theorem bAt_get (s : ByteArray) (k : Nat) (h : k < s.size) : ((s[k].toNat : Nat) : Int) = bAt s k := by
  unfold bAt
  have hl : k < s.data.toList.length := by simpa using h
  rw [List.getD_eq_getElem?_getD, List.getElem?_eq_getElem hl]
  rfl
theorem cls_get (s : ByteArray) (k : Nat) (h : k < s.size) : cls ((s[k].toNat : Nat) : Int) = kc s k := by rw [bAt_get s k h]; rfl

def nxt (s : ByteArray) (f : Nat) : Nat → Nat → Nat
  | 0, e => e
  | n + 1, e => if e < s.size ∧ kc s e = kc s f then nxt s f n (e + 1) else e
/-- The place behind the run that begins at f. -/
def nextEnd (s : ByteArray) (f : Nat) : Nat := nxt s f s.size (f + 1)
def IsEnd (s : ByteArray) (f e : Nat) : Prop := f < e ∧ e ≤ s.size ∧ (∀ j, f ≤ j → j < e → kc s j = kc s f) ∧ (e < s.size → kc s e ≠ kc s f)
theorem nxt_is (s : ByteArray) (f : Nat) : ∀ n e, s.size - e ≤ n → f < e → e ≤ s.size → (∀ j, f ≤ j → j < e → kc s j = kc s f) → IsEnd s f (nxt s f n e)
  | 0, e, hn, hf, he, hj => by
    show IsEnd s f e
    exact ⟨hf, he, hj, fun h => by omega⟩
  | n + 1, e, hn, hf, he, hj => by
    unfold nxt
    by_cases h : e < s.size ∧ kc s e = kc s f
    · rw [if_pos h]
      refine nxt_is s f n (e + 1) (by omega) (by omega) (by omega) (fun j h1 h2 => ?_)
      rcases Nat.lt_or_ge j e with h3 | h3
      · exact hj j h1 h3
      · obtain rfl : j = e := by omega
        exact h.2
    · rw [if_neg h]
      exact ⟨hf, he, hj, fun h3 h4 => h ⟨h3, h4⟩⟩
theorem nextEnd_is (s : ByteArray) (f : Nat) (h : f < s.size) : IsEnd s f (nextEnd s f) :=
  nxt_is s f s.size (f + 1) (by omega) (by omega) (by omega) (fun j h1 h2 => by
    have e : j = f := by omega
    rw [e])
theorem IsEnd.unique {s : ByteArray} {f e e' : Nat} (h : IsEnd s f e) (h' : IsEnd s f e') : e = e' := by
  obtain ⟨a1, a2, a3, a4⟩ := h
  obtain ⟨b1, b2, b3, b4⟩ := h'
  rcases Nat.lt_trichotomy e e' with h | h | h
  · exact absurd (b3 e (by omega) h) (a4 (by omega))
  · exact h
  · exact absurd (a3 e' (by omega) h) (b4 (by omega))

def runsF (s : ByteArray) : Nat → Nat → List (Nat × Nat)
  | 0, _ => []
  | n + 1, f => if f < s.size then (f, nextEnd s f) :: runsF s n (nextEnd s f) else []
/-- The runs from f on. -/
def runsFrom (s : ByteArray) (f : Nat) : List (Nat × Nat) := runsF s s.size f
/-- A text's runs: where each begins, and the place behind it. -/
def runsL (s : ByteArray) : List (Nat × Nat) := runsFrom s 0
theorem runsF_fuel (s : ByteArray) : ∀ n m f, s.size - f ≤ n → s.size - f ≤ m → runsF s n f = runsF s m f
  | 0, 0, _, _, _ => rfl
  | 0, m + 1, f, h, _ => by unfold runsF; rw [if_neg (by omega)]
  | n + 1, 0, f, _, h => by unfold runsF; rw [if_neg (by omega)]
  | n + 1, m + 1, f, h1, h2 => by
    unfold runsF
    by_cases h : f < s.size
    · rw [if_pos h, if_pos h]
      have := (nextEnd_is s f h).1
      rw [runsF_fuel s n m (nextEnd s f) (by omega) (by omega)]
    · rw [if_neg h, if_neg h]
theorem runsFrom_step (s : ByteArray) (f : Nat) (h : f < s.size) : runsFrom s f = (f, nextEnd s f) :: runsFrom s (nextEnd s f) := by
  have h' := (nextEnd_is s f h).1
  unfold runsFrom
  rw [runsF_fuel s s.size (s.size + 1) f (by omega) (by omega), runsF, if_pos h]
theorem runsFrom_end (s : ByteArray) (f : Nat) (h : s.size ≤ f) : runsFrom s f = [] := by
  unfold runsFrom
  rw [runsF_fuel s s.size 0 f (by omega) (by omega)]
  rfl
theorem runsF_mem (s : ByteArray) : ∀ n f x, x ∈ runsF s n f → x.1 < x.2 ∧ x.2 ≤ s.size
  | 0, f, x, h => by simp [runsF] at h
  | n + 1, f, x, h => by
    unfold runsF at h
    by_cases hf : f < s.size
    · rw [if_pos hf] at h
      rcases List.mem_cons.1 h with rfl | h
      · exact ⟨(nextEnd_is s f hf).1, (nextEnd_is s f hf).2.1⟩
      · exact runsF_mem s n _ x h
    · rw [if_neg hf] at h; simp at h
theorem runsF_len (s : ByteArray) : ∀ n f, (runsF s n f).length ≤ s.size - f
  | 0, f => by simp [runsF]
  | n + 1, f => by
    unfold runsF
    by_cases hf : f < s.size
    · rw [if_pos hf]
      have h1 := (nextEnd_is s f hf).1
      have h2 := (nextEnd_is s f hf).2.1
      have := runsF_len s n (nextEnd s f)
      simp only [List.length_cons]; omega
    · rw [if_neg hf]; simp
theorem runsL_len (s : ByteArray) : (runsL s).length ≤ s.size := by have := runsF_len s s.size 0; unfold runsL runsFrom; omega

/-- A piece of a text: from a place on, up to another one behind it. -/
abbrev Rn (s : ByteArray) := { x : Nat × Nat // x.1 < x.2 ∧ x.2 ≤ s.size }
def runsA (s : ByteArray) (f : Nat) : List (Rn s) := (runsFrom s f).attachWith _ (fun x h => runsF_mem s s.size f x h)
theorem runsA_val (s : ByteArray) (f : Nat) : (runsA s f).map (·.1) = runsFrom s f := by unfold runsA; exact List.attachWith_map_subtype_val _
theorem runsA_len (s : ByteArray) : (runsA s 0).length ≤ s.size := by have := runsL_len s; have h := congrArg List.length (runsA_val s 0); simp at h; unfold runsL at this; omega
theorem runsA_step (s : ByteArray) (f : Nat) (h : f < s.size) : runsA s f = ⟨(f, nextEnd s f), (nextEnd_is s f h).1, (nextEnd_is s f h).2.1⟩ :: runsA s (nextEnd s f) := by
  have e : ∀ (l l' : List (Rn s)), l.map (·.1) = l'.map (·.1) → l = l' := fun l l' h => (List.map_inj_right (fun a b h => Subtype.ext h)).1 h
  apply e
  rw [runsA_val, List.map_cons, runsA_val, runsFrom_step s f h]
theorem runsA_end (s : ByteArray) (f : Nat) (h : s.size ≤ f) : runsA s f = [] := by
  have := congrArg List.length (runsA_val s f); rw [runsFrom_end s f h] at this; simp at this; exact this
end Go.Proofs.YtplibmipbhadmaaDoor
