/-
  Two cells: signs and dots told apart, dots of both: plain facts.
-/
import Derived.Test.YtlnmacgbdienoaaDoorCeU
import Derived.Test.YtlnmacgbdienoaaDoorCeR
namespace Go.Proofs.YtlnmacgbdienoaaDoor
open Go.RowKit
def disjointB (a b : Nat) : Bool := (bits .and .u8 (a : Int) (b : Int) != 0) || (decide (popN (bits .or .u8 (a : Int) (b : Int)).toNat = popN a + popN b) && decide ((bits .or .u8 (a : Int) (b : Int)).toNat < 256) && decide (0 ≤ bits .or .u8 (a : Int) (b : Int)))
theorem disjoint_all : ((List.range 256).all fun a => (List.range 256).all fun b => disjointB a b) = true := by decide +kernel
theorem disjoint_at (a b : Nat) (ha : a < 256) (hb : b < 256) (h : bits .and .u8 (a : Int) (b : Int) = 0) : ∃ u : Nat, bits .or .u8 (a : Int) (b : Int) = (u : Int) ∧ u < 256 ∧ popN u = popN a + popN b := by
  have h1 := List.all_eq_true.1 (List.all_eq_true.1 disjoint_all a (List.mem_range.2 ha)) b (List.mem_range.2 hb)
  unfold disjointB at h1
  rw [h] at h1
  simp only [bne_self_eq_false, Bool.false_or, Bool.and_eq_true, decide_eq_true_eq] at h1
  obtain ⟨⟨h2, h3⟩, h4⟩ := h1
  exact ⟨_, (Int.toNat_of_nonneg h4).symm, h3, h2⟩
theorem sign_inj (a b : Nat) (ha : a < 64) (hb : b < 64) (h : signR a = signR b) : a = b := by
  unfold signR at h
  rw [if_pos (by omega), if_pos (by omega)] at h
  have h1 := from_sign ⟨a, ha⟩
  have h2 := from_sign ⟨b, hb⟩
  simp only [] at h1 h2
  rw [← h1, h, h2]
theorem of_dotsS (x : Nat) (hx : x < 64) : ofS (dotsS x) = x := by
  unfold ofS dotsS
  rw [bytesN_bytesOf _ (fun y hy => Nat.lt_trans (dotsN_lt x 6 (Nat.le_refl _) y hy) (by decide))]
  exact of_dots ⟨x, hx⟩
theorem dots_inj (a b : Nat) (ha : a < 64) (hb : b < 64) (h : dotsS a = dotsS b) : a = b := by
  rw [← of_dotsS a ha, h, of_dotsS b hb]
theorem and63 (a : Nat) (ha : a < 256) : bits .and .u8 (a : Int) 63 = ((a % 64 : Nat) : Int) := (u8_and ⟨a, ha⟩).1
theorem pop_one (u : Nat) (hu : u < 256) : popS (bytesOf [u]) = popN u := by
  have hN : bytesN (bytesOf [u]) = [u] := bytesN_bytesOf _ (by intro x hx; simp at hx; omega)
  unfold popS
  rw [bytesOf_size]
  show popK _ 0 + popN (bAt (bytesOf [u]) 0) = _
  unfold bAt
  rw [hN]; simp [popK]
theorem pop_two (a b : Nat) (ha : a < 256) (hb : b < 256) : popS (bytesOf [a, b]) = popN a + popN b := by
  have hN : bytesN (bytesOf [a, b]) = [a, b] := bytesN_bytesOf _ (by intro x hx; simp at hx; omega)
  unfold popS
  rw [bytesOf_size]
  show (popK _ 0 + popN (bAt (bytesOf [a, b]) 0)) + popN (bAt (bytesOf [a, b]) 1) = _
  unfold bAt
  rw [hN]; simp [popK]
theorem back_one (W : World) (g : Nat) (x : Nat) (hx : x < 256) (h : W.cell? ⟨g, 0, none⟩ = some (.int .u8 (x : Int))) :
    (convert 38 9 (.slice (some ⟨g, 0, none⟩) 1 1)).run Tryd.prog W = .ok (.string (bytesOf [x])) W := by
  exact run_convert_bytes_back (P := Tryd.prog) W 38 9 5 ⟨g, 0, none⟩ 1 [UInt8.ofNat x] Tryd.underlying38 Tryd.underlying5 Tryd.underlying9 (fun j hj => by
    obtain rfl : j = 0 := by simp at hj; omega
    have e : (⟨g, 0, none⟩ : Addr).add 0 = ⟨g, 0, none⟩ := by unfold Addr.add; split <;> simp_all
    have e3 : (UInt8.ofNat x).toNat = x := by simp [Nat.mod_eq_of_lt hx]
    rw [e]
    simp only [List.getElem_cons_zero, e3, h])
theorem back_two (W : World) (g : Nat) (x y : Nat) (hx : x < 256) (hy : y < 256) (h : W.cell? ⟨g, 0, none⟩ = some (.int .u8 (x : Int))) (h' : W.cell? ⟨g, 1, none⟩ = some (.int .u8 (y : Int))) :
    (convert 38 9 (.slice (some ⟨g, 0, none⟩) 2 2)).run Tryd.prog W = .ok (.string (bytesOf [x, y])) W := by
  exact run_convert_bytes_back (P := Tryd.prog) W 38 9 5 ⟨g, 0, none⟩ 2 [UInt8.ofNat x, UInt8.ofNat y] Tryd.underlying38 Tryd.underlying5 Tryd.underlying9 (fun j hj => by
    have e : ∀ i, (⟨g, 0, none⟩ : Addr).add i = ⟨g, i, none⟩ := fun i => by unfold Addr.add; split <;> simp_all
    have e3 : (UInt8.ofNat x).toNat = x := by simp [Nat.mod_eq_of_lt hx]
    have e4 : (UInt8.ofNat y).toNat = y := by simp [Nat.mod_eq_of_lt hy]
    have hj' : j = 0 ∨ j = 1 := by simp at hj; omega
    rcases hj' with rfl | rfl
    · rw [e]; simp only [List.getElem_cons_zero, e3, h]
    · rw [e]; simp only [List.getElem_cons_succ, List.getElem_cons_zero, e4, h'])
end Go.Proofs.YtlnmacgbdienoaaDoor
