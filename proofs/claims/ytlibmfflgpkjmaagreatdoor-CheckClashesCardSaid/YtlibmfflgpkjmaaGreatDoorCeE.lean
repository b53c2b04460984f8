/-
  cell.become at Sign and at From, cell.Signs and cell.Cells; the document's Signs and Cells.
-/
import Derived.Test.YtlibmfflgpkjmaaGreatDoorCeD
import Derived.Lib.ConvBytes
import Derived.Laws.IdiomStrings
namespace Go.Proofs.YtlibmfflgpkjmaaGreatDoor.Ce
open Go.RowKit

/-- The first byte that p does not let; the text's size: none. -/
def badAt (p : Nat → Bool) (s : ByteArray) : Nat := (List.range s.size).findIdx fun j => !p (bAt s j)
def allP (p : Nat → Bool) (s : ByteArray) (k : Nat) : Prop := ∀ j, j < k → p (bAt s j) = true
theorem allP.zero (p : Nat → Bool) (s : ByteArray) : allP p s 0 := fun _ h => absurd h (by omega)
theorem allP.succ {p : Nat → Bool} {s : ByteArray} {k : Nat} (h : allP p s k) (hp : p (bAt s k) = true) : allP p s (k + 1) := fun j hj => by
  rcases Nat.lt_or_ge j k with h1 | h1
  · exact h j h1
  · have e : j = k := by omega
    rw [e]; exact hp
theorem badAt_all {p : Nat → Bool} {s : ByteArray} (h : allP p s s.size) : badAt p s = s.size := by
  unfold badAt
  have : (List.range s.size).findIdx (fun j => !p (bAt s j)) = (List.range s.size).length := List.findIdx_eq_length.2 (fun x hx => by simp [h x (List.mem_range.1 hx)])
  rw [this, List.length_range]
theorem badAt_at {p : Nat → Bool} {s : ByteArray} {k : Nat} (h : allP p s k) (hk : k < s.size) (hp : p (bAt s k) = false) : badAt p s = k := by
  unfold badAt
  refine (List.findIdx_eq (by simpa using hk)).2 ⟨by simp [hp], fun j hj => ?_⟩
  simp [h j hj]
theorem badAt_le (p : Nat → Bool) (s : ByteArray) : badAt p s ≤ s.size := by
  unfold badAt
  have := List.findIdx_le_length (p := fun j => !p (bAt s j)) (xs := List.range s.size)
  simpa using this
theorem allP_of {p : Nat → Bool} {s : ByteArray} (h : badAt p s = s.size) : allP p s s.size := fun j hj => by
  unfold badAt at h
  have h1 : (List.range s.size).findIdx (fun j => !p (bAt s j)) = (List.range s.size).length := by rw [h, List.length_range]
  have := List.findIdx_eq_length.1 h1 j (List.mem_range.2 hj)
  simpa using this
/-- What has become of the first k bytes. -/
def mapK (g : Nat → Nat) (s : ByteArray) (k : Nat) : List Nat := (List.range k).map fun j => g (bAt s j)
def mapS (g : Nat → Nat) (s : ByteArray) : ByteArray := bytesOf (mapK g s s.size)
theorem mapK_succ (g : Nat → Nat) (s : ByteArray) (k : Nat) : mapK g s (k + 1) = mapK g s k ++ [g (bAt s k)] := by simp [mapK, List.range_succ]
theorem mapK_len (g : Nat → Nat) (s : ByteArray) (k : Nat) : (mapK g s k).length = k := by simp [mapK]
theorem mapK_lt (g : Nat → Nat) (hg : ∀ b, g b < 256) (s : ByteArray) (k : Nat) : ∀ x ∈ mapK g s k, x < 256 := by
  intro x hx
  simp only [mapK, List.mem_map] at hx
  obtain ⟨j, _, rfl⟩ := hx
  exact hg _
theorem mapS_size (g : Nat → Nat) (s : ByteArray) : (mapS g s).size = s.size := by unfold mapS; rw [bytesOf_size, mapK_len]
theorem ret3 {x y : ByteArray} {a b : Int} {u v : Bool} (h : x = y) (h' : a = b) (h2 : u = v) : Ending.returned (.tuple #[.string x, .int .i64 a, .bool u]) = .returned (.tuple #[.string y, .int .i64 b, .bool v]) := by rw [h, h', h2]
theorem signR_lt (b : Nat) : signR b < 256 := by
  unfold signR; split
  · rename_i h
    have := signN_lt ⟨b, by omega⟩
    simp only [] at this; omega
  · omega
theorem fromR_lt (b : Nat) : fromR b < 256 := by unfold fromR; split <;> omega


/-- After k rounds: the first k bytes have become what they become, the others stand as they stood. -/
def BecInv (g : Nat → Nat) (w : World) (s : ByteArray) (k : Nat) (wr : World) : Prop :=
  (∀ j, j < s.size → wr.cell? ⟨w.heap.size, j, none⟩ = some (.int .u8 (((if j < k then g (bAt s j) else bAt s j) : Nat) : Int))) ∧ (∀ j, j < s.size → wr.frozen? ⟨w.heap.size, j, none⟩ = false) ∧ Below w.heap.size w wr
theorem bAt_toList (s : ByteArray) (j : Nat) (hj : j < s.data.size) : ((s.data[j].toNat : Nat) : Int) = ((bAt s j : Nat) : Int) := by
  rw [← bAt_get s j hj]; rfl
theorem BecInv.zero (g : Nat → Nat) (w : World) (s : ByteArray) : BecInv g w s 0 (Lib.bytesWorld w 5 s) := by
  refine ⟨fun j hj => ?_, fun j hj => ?_, ?_⟩
  · rw [Lib.bytesWorld_cell w _ s j hj, if_neg (by omega)]
    have hl : j < s.data.toList.length := by simpa using hj
    simp only [bAt, bytesN, List.getD_eq_getElem?_getD, List.getElem?_map, List.getElem?_eq_getElem hl, Option.getD_some, Option.map_some]
  · have hs : s.size ≤ (Lib.bytesCells w 5 s).size := by simp [Lib.bytesCells]
    simp [World.frozen?, Lib.bytesWorld_at_new]
    omega
  · exact ⟨rfl, rfl, rfl, by rw [Lib.bytesWorld_size]; omega, fun k hk => Lib.bytesWorld_at_old w _ s k hk⟩
theorem BecInv.succ {g : Nat → Nat} {w : World} {s : ByteArray} {k : Nat} {wr : World} (h : BecInv g w s k wr) (hk : k < s.size) : BecInv g w s (k + 1) (wr.setCell ⟨w.heap.size, k, none⟩ (.int .u8 ((g (bAt s k) : Nat) : Int))) := by
  refine ⟨fun j hj => ?_, fun j hj => by rw [World.frozen?_setCell]; exact h.2.1 j hj, h.2.2.setCell (p := ⟨w.heap.size, k, none⟩) (Nat.le_refl _) _⟩
  by_cases e : j = k
  · subst e
    rw [if_pos (by omega)]
    exact World.cell?_setCell_same' _ _ _ (by rw [h.1 j hj]; rfl)
  · rw [World.cell?_setCell_other _ _ _ _ (fun he => e (by injection he with _ h2; exact h2.symm)), h.1 j hj]
    by_cases h1 : j < k
    · rw [if_pos h1, if_pos (by omega)]
    · rw [if_neg h1, if_neg (by omega)]
theorem back_of_bec {g : Nat → Nat} (hg : ∀ b, g b < 256) {w : World} {s : ByteArray} {wr : World} (hI : BecInv g w s s.size wr) (cap : Nat) :
    (convert 44 9 (.slice (some ⟨w.heap.size, 0, none⟩) s.size cap)).run Tryz.prog wr = .ok (.string (mapS g s)) wr := by
  have hback := run_convert_bytes_back (P := Tryz.prog) wr 44 9 5 ⟨w.heap.size, 0, none⟩ cap ((mapK g s s.size).map UInt8.ofNat) Tryz.underlying44 Tryz.underlying5 Tryz.underlying9 (fun j hj => by
    have hj' : j < s.size := by simpa [mapK_len] using hj
    have e : (⟨w.heap.size, 0, none⟩ : Addr).add j = ⟨w.heap.size, j, none⟩ := by unfold Addr.add; split <;> simp_all
    rw [e, hI.1 j hj', if_pos hj']
    have e3 : (UInt8.ofNat (g (bAt s j))).toNat = g (bAt s j) := by simp [Nat.mod_eq_of_lt (hg (bAt s j))]
    simp only [mapK, List.getElem_map, List.getElem_range, e3])
  rw [List.length_map, mapK_len] at hback
  exact hback


end Go.Proofs.YtlibmfflgpkjmaaGreatDoor.Ce
