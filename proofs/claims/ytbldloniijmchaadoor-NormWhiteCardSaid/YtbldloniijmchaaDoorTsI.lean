/-
  The landed tree's ranks: the map of who may stand in whom.
-/
import Derived.Test.YtbldloniijmchaaDoorTsH
namespace Go.Proofs.YtbldloniijmchaaDoor.Tr
open Go.RowKit

/-- The rows of ranks: outer kinds, inner kinds, how late. -/
structure Gr where
  outs : ByteArray
  inns : ByteArray
  rank : Nat
def s_ (k : Nat) : ByteArray := oneS k
def groups : List Gr := [⟨{ data := #[95] }, { data := #[49, 50, 51, 112, 108, 116, 107] }, 1⟩, ⟨{ data := #[49, 50, 51, 112, 99, 110, 101, 115] }, { data := #[46, 101, 115, 110] }, 1⟩, ⟨{ data := #[108] }, { data := #[105] }, 1⟩,
  ⟨{ data := #[105] }, { data := #[46, 101, 115, 110] }, 1⟩, ⟨{ data := #[105] }, { data := #[108] }, 2⟩, ⟨{ data := #[116] }, { data := #[114] }, 1⟩, ⟨{ data := #[114] }, { data := #[99] }, 1⟩]
def cG (g : Gr) : List Value := [.string g.outs, .string g.inns, .int .i64 (g.rank : Int)]
theorem cG_len (g : Gr) : (cG g).length = 3 := rfl
/-- Behind i outer kinds, and j inner ones of the next. -/
def fG (g : Gr) (f : Nat → Nat → Nat) (i j : Nat) : Nat → Nat → Nat := fun a b =>
  if (a ∈ (Lx.bytesN g.outs).take i ∧ b ∈ Lx.bytesN g.inns) ∨ ((Lx.bytesN g.outs)[i]? = some a ∧ b ∈ (Lx.bytesN g.inns).take j) then g.rank else f a b
def fS (f : Nat → Nat → Nat) (g : Gr) : Nat → Nat → Nat := fun a b => if a ∈ Lx.bytesN g.outs ∧ b ∈ Lx.bytesN g.inns then g.rank else f a b
def fK (k : Nat) : Nat → Nat → Nat := (groups.take k).foldl fS fun _ _ => 0
theorem fG_zero (g : Gr) (f : Nat → Nat → Nat) : fG g f 0 0 = f := by
  funext a b; unfold fG; simp
theorem bAt_list {s : ByteArray} {i : Nat} (h : i < s.size) : (Lx.bytesN s)[i]? = some (Lx.bAt s i) := by
  unfold Lx.bAt
  rw [List.getD_eq_getElem?_getD, List.getElem?_eq_getElem (by rw [Lx.bytesN_len]; exact h)]; rfl
theorem fG_step (g : Gr) (f : Nat → Nat → Nat) {i j : Nat} (hi : i < g.outs.size) (hj : j < g.inns.size) : Ts.upd (fG g f i j) (Lx.bAt g.outs i) (Lx.bAt g.inns j) g.rank = fG g f i (j + 1) := by
  funext a b
  unfold Ts.upd fG
  rw [List.take_add_one, bAt_list hj, bAt_list hi]
  simp only [Option.toList_some, List.mem_append, List.mem_singleton, Option.some.injEq]
  by_cases h1 : a = Lx.bAt g.outs i ∧ b = Lx.bAt g.inns j
  · rw [if_pos h1, if_pos (.inr ⟨h1.1.symm, .inr h1.2⟩)]
  · rw [if_neg h1]
    congr 1
    apply propext
    constructor
    · rintro (h | ⟨h, h'⟩)
      · exact .inl h
      · exact .inr ⟨h, .inl h'⟩
    · rintro (h | ⟨h, h' | h'⟩)
      · exact .inl h
      · exact .inr ⟨h, h'⟩
      · exact absurd ⟨h.symm, h'⟩ h1
theorem fG_next (g : Gr) (f : Nat → Nat → Nat) {i : Nat} (hi : i < g.outs.size) : fG g f i g.inns.size = fG g f (i + 1) 0 := by
  funext a b
  unfold fG
  rw [List.take_add_one, bAt_list hi, List.take_of_length_le (l := Lx.bytesN g.inns) (by rw [Lx.bytesN_len]; exact Nat.le_refl _)]
  congr 1
  apply propext
  simp only [Option.toList_some, List.mem_append, List.mem_singleton, Option.some.injEq, List.take_zero, List.not_mem_nil, and_false, or_false]
  constructor
  · rintro (⟨h, h'⟩ | ⟨h, h'⟩)
    · exact ⟨.inl h, h'⟩
    · exact ⟨.inr h.symm, h'⟩
  · rintro ⟨h | h, h'⟩
    · exact .inl ⟨h, h'⟩
    · exact .inr ⟨h.symm, h'⟩
theorem fG_end (g : Gr) (f : Nat → Nat → Nat) : fG g f g.outs.size 0 = fS f g := by
  funext a b
  unfold fG fS
  rw [List.take_of_length_le (by rw [Lx.bytesN_len]; exact Nat.le_refl _)]
  simp
theorem fK_step {k : Nat} {g : Gr} (h : groups[k]? = some g) : fS (fK k) g = fK (k + 1) := by
  unfold fK
  rw [List.take_add_one, h, List.foldl_append]; rfl
def outK : List Nat := [95, 49, 50, 51, 112, 99, 110, 101, 115, 108, 105, 116, 114]
theorem fK_in : ∀ a ∈ outK, ∀ b : Fin 256, fK 7 a b.val = rk a b.val := by decide +kernel
theorem outs_in : ∀ g ∈ groups, ∀ x ∈ Lx.bytesN g.outs, x ∈ outK := by decide +kernel
theorem flow_in : ∀ x ∈ Lx.bytesN flowS, x ∈ outK := by decide +kernel
theorem fold_out (a b : Nat) : ∀ (l : List Gr) (f : Nat → Nat → Nat), (∀ g ∈ l, a ∉ Lx.bytesN g.outs) → (l.foldl fS f) a b = f a b
  | [], _, _ => rfl
  | g :: l, f, h => by
    rw [List.foldl_cons, fold_out a b l _ (fun g' hg => h g' (List.mem_cons_of_mem _ hg))]
    unfold fS
    rw [if_neg (fun e => h g (List.mem_cons_self ..) e.1)]
theorem fK_rk {a b : Nat} (_ha : a < 256) (hb : b < 256) : fK 7 a b = rk a b := by
  by_cases h : a ∈ outK
  · exact fK_in a h ⟨b, hb⟩
  · have h1 : fK 7 a b = 0 := fold_out a b (groups.take 7) _ fun g hg hm => h (outs_in g (List.mem_of_mem_take hg) a hm)
    rw [h1]
    have h2 : inK a flowS = false := by
      unfold inK
      rw [← Bool.not_eq_true, List.contains_iff_mem]
      exact fun hm => h (flow_in a hm)
    unfold outK at h
    simp only [List.mem_cons, List.not_mem_nil, or_false, not_or] at h
    obtain ⟨n1, -, -, -, -, -, -, -, -, n2, n3, n4, n5⟩ := h
    unfold rk
    rw [if_neg n1, h2, if_neg (by simp), if_neg n2, if_neg n3, if_neg n4, if_neg n5]
theorem groups_ok : ∀ g ∈ groups, g.outs.size ≤ 8 ∧ g.inns.size ≤ 8 ∧ g.rank < 1000 := by decide +kernel
end Go.Proofs.YtbldloniijmchaaDoor.Tr
