/-
  What a text of cells is parsed as: plain facts.
-/
import Derived.Test.YtalehelgemmmeaaGreatDoorCeL
import Derived.Test.YtalehelgemmmeaaGreatDoorEb
namespace Go.Proofs.YtalehelgemmmeaaGreatDoor.Ce
open Go.RowKit

/-- The cell of a part. -/
def ptN (s : ByteArray) (x : Pt s) : Nat := ofS (s.extract x.1.1 x.1.2)
/-- What has been read; none: a part was wrong, or a fifth one. -/
def pStep (s : ByteArray) (o : Option (List Nat)) (x : Pt s) : Option (List Nat) := o.bind fun acc => if ptN s x = 0 ∨ acc.length = 4 then none else some (acc ++ [ptN s x])
def pSt (s : ByteArray) (pre : List (Pt s)) : Option (List Nat) := pre.foldl (pStep s) (some [])
def parseL (s : ByteArray) : Option (List Nat) := pSt s (partsA s 0)
def fGo (s : ByteArray) : List (Pt s) → Option (List Nat) → Nat
  | [], _ => 0
  | x :: r, o => if pStep s o x = none then x.1.1 else fGo s r (pStep s o x)
/-- The place of the first wrong part. -/
def parseAt (s : ByteArray) : Nat := fGo s (partsA s 0) (some [])
def parseV (s : ByteArray) : ByteArray := match parseL s with | some l => bytesOf l | none => emptyS
def parseE (s : ByteArray) : Int := match parseL s with | some _ => 0 | none => 2
theorem pSt_snoc (s : ByteArray) (pre : List (Pt s)) (x : Pt s) : pSt s (pre ++ [x]) = pStep s (pSt s pre) x := by unfold pSt; rw [List.foldl_append]; rfl
theorem pSt_none (s : ByteArray) (r : List (Pt s)) : r.foldl (pStep s) none = none := by
  induction r with
  | nil => rfl
  | cons x r ih => exact ih
theorem pStep_yes {s : ByteArray} {acc : List Nat} {x : Pt s} (h : ptN s x ≠ 0) (h4 : acc.length ≠ 4) : pStep s (some acc) x = some (acc ++ [ptN s x]) := by simp [pStep, h, h4]
theorem pStep_no {s : ByteArray} {acc : List Nat} {x : Pt s} (h : ptN s x = 0 ∨ acc.length = 4) : pStep s (some acc) x = none := by
  unfold pStep; rw [Option.bind_some, if_pos h]
theorem fGo_append (s : ByteArray) (x : Pt s) (r : List (Pt s)) : ∀ (pre : List (Pt s)) (o : Option (List Nat)) (acc : List Nat), pre.foldl (pStep s) o = some acc → pStep s (some acc) x = none → fGo s (pre ++ x :: r) o = x.1.1
  | [], o, acc, h, hx => by
    have h' : o = some acc := h
    subst h'
    show (if pStep s (some acc) x = none then x.1.1 else _) = _
    rw [if_pos hx]
  | y :: pre, o, acc, h, hx => by
    rw [List.foldl_cons] at h
    have hn : ¬ pStep s o y = none := fun e => by rw [e, pSt_none] at h; cases h
    show (if pStep s o y = none then y.1.1 else fGo s (pre ++ x :: r) (pStep s o y)) = _
    rw [if_neg hn]
    exact fGo_append s x r pre _ acc h hx
/-- Where the parts in pre end. -/
def atN {s : ByteArray} (pre : List (Pt s)) : Nat := (pre.map fun x => x.1.2 - x.1.1 + 1).sum
theorem atN_snoc {s : ByteArray} (pre : List (Pt s)) (x : Pt s) : atN (pre ++ [x]) = atN pre + (x.1.2 - x.1.1 + 1) := by simp [atN]
theorem atN_le {s : ByteArray} : ∀ pre : List (Pt s), atN pre ≤ pre.length * (s.size + 1)
  | [] => by simp [atN]
  | x :: pre => by
    have ih := atN_le pre
    have e : atN (x :: pre) = (x.1.2 - x.1.1 + 1) + atN pre := by simp [atN]
    rw [e, List.length_cons, Nat.succ_mul]
    have := x.2
    omega
theorem atN_front (s : ByteArray) : ∀ (n f : Nat) (pre : List (Pt s)) (x : Pt s), pre ++ [x] <+: partsF s n f → f + atN pre = x.1.1
  | 0, f, pre, x, h => by
    have := h.length_le
    simp [partsF] at this
  | n + 1, f, pre, x, h => by
    unfold partsF at h
    by_cases hf : f ≤ s.size
    · rw [dif_pos hf] at h
      obtain ⟨d1, _, _, _⟩ := dash_is s f hf
      cases pre with
      | nil =>
        rw [List.nil_append, List.cons_prefix_cons] at h
        rw [h.1]; simp [atN]
      | cons y pre =>
        rw [List.cons_append, List.cons_prefix_cons] at h
        obtain ⟨rfl, h2⟩ := h
        by_cases hd : dash s f < s.size
        · rw [if_pos hd] at h2
          have ih := atN_front s n (dash s f + 1) pre x h2
          rw [← ih]
          simp only [atN, List.map_cons, List.sum_cons]
          omega
        · rw [if_neg hd] at h2
          have := h2.length_le
          simp at this
    · rw [dif_neg hf] at h
      have := h.length_le
      simp at this
theorem parse_fail (s : ByteArray) (pre : List (Pt s)) (x : Pt s) (acc : List Nat) (h : pSt s pre = some acc) (hx : ptN s x = 0 ∨ acc.length = 4) (hp : pre ++ [x] <+: partsA s 0) :
    parseV s = emptyS ∧ parseAt s = atN pre ∧ parseE s = 2 := by
  obtain ⟨r, hr⟩ := id hp
  have hn := pStep_no hx
  have hL : parseL s = none := by
    unfold parseL pSt
    rw [← hr, List.foldl_append, show (pre ++ [x]).foldl (pStep s) (some []) = pSt s (pre ++ [x]) from rfl, pSt_snoc, h, hn]
    exact pSt_none s r
  have ha := atN_front s _ 0 pre x hp
  refine ⟨by unfold parseV; rw [hL], ?_, by unfold parseE; rw [hL]⟩
  unfold parseAt
  rw [← hr, List.append_assoc, List.singleton_append, fGo_append s x r pre _ acc h hn]
  omega
theorem fGo_ok (s : ByteArray) : ∀ (l : List (Pt s)) (o : Option (List Nat)) (acc : List Nat), l.foldl (pStep s) o = some acc → fGo s l o = 0
  | [], _, _, _ => rfl
  | y :: l, o, acc, h => by
    rw [List.foldl_cons] at h
    have hn : ¬ pStep s o y = none := fun e => by rw [e, pSt_none] at h; cases h
    show (if pStep s o y = none then y.1.1 else fGo s l (pStep s o y)) = _
    rw [if_neg hn]
    exact fGo_ok s l _ acc h
theorem parse_ok (s : ByteArray) (acc : List Nat) (h : pSt s (partsA s 0) = some acc) : parseV s = bytesOf acc ∧ parseAt s = 0 ∧ parseE s = 0 := by
  have hL : parseL s = some acc := h
  exact ⟨by unfold parseV; rw [hL], fGo_ok s _ _ acc h, by unfold parseE; rw [hL]⟩
theorem pStep_len {s : ByteArray} {o : Option (List Nat)} {x : Pt s} {acc : List Nat} (h : pStep s o x = some acc) (ho : ∀ a, o = some a → a.length ≤ 4 ∧ ∀ y ∈ a, y < 64) : acc.length ≤ 4 ∧ ∀ y ∈ acc, y < 64 := by
  unfold pStep at h
  obtain ⟨a, ha, h2⟩ := Option.bind_eq_some_iff.1 h
  obtain ⟨h3, h4⟩ := ho a ha
  split at h2
  · cases h2
  · rename_i hc
    cases h2
    refine ⟨by rw [List.length_append]; simp; omega, fun y hy => ?_⟩
    rcases List.mem_append.1 hy with hy | hy
    · exact h4 y hy
    · simp at hy; rw [hy]; exact ofS_lt _
theorem pSt_len (s : ByteArray) : ∀ (l : List (Pt s)) (o : Option (List Nat)) (acc : List Nat), (∀ a, o = some a → a.length ≤ 4 ∧ ∀ y ∈ a, y < 64) → l.foldl (pStep s) o = some acc → acc.length ≤ 4 ∧ ∀ y ∈ acc, y < 64
  | [], _, acc, ho, h => ho acc h
  | _ :: l, _, acc, ho, h => pSt_len s l _ acc (fun _ ha => pStep_len ha ho) h
theorem pSt_le {s : ByteArray} {pre : List (Pt s)} {acc : List Nat} (h : pSt s pre = some acc) : acc.length ≤ 4 ∧ ∀ y ∈ acc, y < 64 :=
  pSt_len s pre _ acc (fun a ha => by cases ha; exact ⟨by simp, fun y hy => by simp at hy⟩) h

end Go.Proofs.YtalehelgemmmeaaGreatDoor.Ce
