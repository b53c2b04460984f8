/-
  The document's Same of two rows of nodes, wherever they lie.
-/
import Derived.Test.YtmldpkigfhoalaaDoorVc
import Derived.Test.YtmldpkigfhoalaaDoorTrA
namespace Go.Proofs.YtmldpkigfhoalaaDoor.Tr
open Go.RowKit

abbrev ReadsN (off : Nat) (w : World) (B : Nat) (v : Value) (t : List Nd) : Prop := Ba.Reads cN 4 off w B v t
/-- What stands in the cells of one node. -/
theorem cells_of {off g : Nat} {w : World} {t : List Nd} (h : ∀ k x, t[k]? = some x → ∀ j u, (cN x)[j]? = some u → w.cell? ⟨g, off + (k * 4 + j), none⟩ = some u) (k : Nat) (x : Nd) (hx : t[k]? = some x) :
    w.cell? ⟨g, off + k * 4, none⟩ = some (.int .u8 (x.kind : Int)) ∧ w.cell? ⟨g, off + k * 4 + 1, none⟩ = some (.string x.text) ∧ w.cell? ⟨g, off + k * 4 + 2, none⟩ = some (.int .i64 x.place) ∧
      w.cell? ⟨g, off + k * 4 + 3, none⟩ = some (.int .i64 x.size) := by
  have e := h k x hx
  simp only [← Nat.add_assoc] at e
  exact ⟨e 0 _ rfl, e 1 _ rfl, e 2 _ rfl, e 3 _ rfl⟩
theorem _root_.Go.Proofs.YtmldpkigfhoalaaDoor.Ba.Reads.drewN {α : Type} {f : α → List Value} {n off : Nat} {w : World} {B : Nat} {v : Value} {l : List α} (h : Ba.Reads f n off w B v l) (m : Nat) : Ba.Reads f n off (w.drewN m) B v l := h
theorem sameV_yes : ∀ (t s : List Nd), t.length = s.length → (∀ (j : Nat) (x y : Nd), t[j]? = some x → s[j]? = some y → sameNd x y = true) → sameV t s = true
  | [], [], _, _ => rfl
  | [], _ :: _, h, _ => by simp at h
  | _ :: _, [], h, _ => by simp at h
  | x :: t, y :: s, h, hj => by
    have ih := sameV_yes t s (by simpa using h) (fun j a b ha hb => hj (j + 1) a b (by simpa using ha) (by simpa using hb))
    have h0 := hj 0 x y rfl rfl
    unfold sameV at ih ⊢
    rw [Bool.and_eq_true] at ih ⊢
    refine ⟨decide_eq_true h, ?_⟩
    rw [List.zip_cons_cons, List.all_cons, h0, ih.2]; rfl
theorem sameV_no : ∀ (t s : List Nd) (j : Nat) (x y : Nd), t[j]? = some x → s[j]? = some y → sameNd x y = false → sameV t s = false
  | [], _, j, x, y, h, _, _ => by simp at h
  | _ :: _, [], j, x, y, _, h, _ => by simp at h
  | a :: t, b :: s, 0, x, y, h1, h2, hj => by
    simp at h1 h2; subst h1 h2
    unfold sameV
    rw [List.zip_cons_cons, List.all_cons, hj, Bool.false_and, Bool.and_false]
  | a :: t, b :: s, j + 1, x, y, h1, h2, hj => by
    have ih := sameV_no t s j x y (by simpa using h1) (by simpa using h2) hj
    unfold sameV at ih ⊢
    rw [List.zip_cons_cons, List.all_cons]
    rw [Bool.and_eq_false_iff] at ih ⊢
    rcases ih with ih | ih
    · exact .inl (by rw [decide_eq_false_iff_not] at ih ⊢; intro h; exact ih (by simpa using h))
    · exact .inr (by rw [ih, Bool.and_false])
theorem sameV_len {t s : List Nd} (h : t.length ≠ s.length) : sameV t s = false := by
  unfold sameV
  rw [decide_eq_false h, Bool.false_and]
theorem unlike {a b : ByteArray} (h : a ≠ b) : (a.toList == b.toList) = false := by
  rw [beq_eq_false_iff_ne]
  intro e
  refine h (ByteArray.ext ?_)
  rw [ByteArray.toList_eq, ByteArray.toList_eq] at e
  exact Array.ext' e


end Go.Proofs.YtmldpkigfhoalaaDoor.Tr
