/-
  chars.Low answers the text with small letters for its capitals.
-/
import Derived.Test.YtplibmipbhadmaaDoorChM
import Derived.Lib.ConvBytes
import Derived.Laws.IdiomStrings
namespace Go.Proofs.YtplibmipbhadmaaDoor
open Go.RowKit

def lowB (b : UInt8) : UInt8 := if clsN b.toNat = 2 then b + 32 else b
def lowL (s : ByteArray) : List UInt8 := s.data.toList.map lowB
/-- The text with small letters. -/
def lowS (s : ByteArray) : ByteArray := ⟨(lowL s).toArray⟩
theorem lowL_length (s : ByteArray) : (lowL s).length = s.size := by simp [lowL]
theorem lowS_size (s : ByteArray) : (lowS s).size = s.size := by
  show (lowL s).toArray.size = s.size
  simp [lowL]
theorem lowB_all : ∀ n : Fin 256, ((lowB (UInt8.ofNat n.val)).toNat : Int) = lowerI (n.val : Int) := by decide +kernel
theorem lowB_toNat (b : UInt8) : ((lowB b).toNat : Int) = lowerI (b.toNat : Int) := by
  have h := lowB_all ⟨b.toNat, UInt8.toNat_lt b⟩
  simp only [UInt8.ofNat_toNat] at h
  exact h
theorem lowL_get (s : ByteArray) (j : Nat) (hj : j < (lowL s).length) : ((lowL s)[j].toNat : Int) = lowerI (bAt s j) := by
  have hj' : j < s.data.toList.length := by simpa [lowL] using hj
  have e : (lowL s)[j] = lowB s.data.toList[j] := by simp [lowL]
  rw [e, lowB_toNat]
  unfold bAt
  rw [List.getD_eq_getElem?_getD, List.getElem?_eq_getElem hj']
  rfl

/-- After k rounds: the first k bytes are lowered, the others stand as they stood. -/
def LowInv (w : World) (s : ByteArray) (k : Nat) (wr : World) : Prop :=
  (∀ j, j < s.size → wr.cell? ⟨w.heap.size, j, none⟩ = some (.int .u8 (if j < k then lowerI (bAt s j) else bAt s j))) ∧ (∀ j, j < s.size → wr.frozen? ⟨w.heap.size, j, none⟩ = false) ∧ Below w.heap.size w wr
theorem LowInv.zero (w : World) (s : ByteArray) : LowInv w s 0 (Lib.bytesWorld w 5 s) := by
  refine ⟨fun j hj => ?_, fun j hj => ?_, ?_⟩
  · rw [Lib.bytesWorld_cell w _ s j hj, if_neg (by omega)]; rfl
  · have hs : s.size ≤ (Lib.bytesCells w 5 s).size := by simp [Lib.bytesCells]
    simp [World.frozen?, Lib.bytesWorld_at_new]
    omega
  · exact ⟨rfl, rfl, rfl, by rw [Lib.bytesWorld_size]; omega, fun k hk => Lib.bytesWorld_at_old w _ s k hk⟩
theorem LowInv.succ {w : World} {s : ByteArray} {k : Nat} {wr : World} (h : LowInv w s k wr) (hk : k < s.size) : LowInv w s (k + 1) (wr.setCell ⟨w.heap.size, k, none⟩ (.int .u8 (lowerI (bAt s k)))) := by
  refine ⟨fun j hj => ?_, fun j hj => by rw [World.frozen?_setCell]; exact h.2.1 j hj, h.2.2.setCell (p := ⟨w.heap.size, k, none⟩) (Nat.le_refl _) _⟩
  by_cases e : j = k
  · subst e
    rw [if_pos (by omega)]
    exact World.cell?_setCell_same' _ _ _ (by rw [h.1 j hj]; rfl)
  · rw [World.cell?_setCell_other _ _ _ _ (fun he => e (by injection he with _ h2; exact h2.symm)), h.1 j hj]
    by_cases h1 : j < k
    · rw [if_pos h1, if_pos (by omega)]
    · rw [if_neg h1, if_neg (by omega)]

set_option maxHeartbeats 1000000 in
/-- chars.Low -/
theorem low_any (s : ByteArray) (hs : s.size ≤ 2000) (w : World) (hL : Laid w) :
    Calls Tryd.prog 22 #[.string s] w fun e w' => e = .returned (.string (lowS s)) ∧ Below w.heap.size w w' := by
  have hcv := Lib.run_convert_string_bytes (P := Tryd.prog) w 9 44 5 s (u := .string) Tryd.underlying9 Tryd.underlying44 Tryd.underlying5
  have hI0 := LowInv.zero w s
  have hsz := Lib.bytesWorld_size w 5 s
  have HSZ := Lib.hid hsz; clear hsz
  go_enter Tryd.func22, Tryd.ntmps22
  go_wp2
  clear hcv
  go_loopw [10, 4, 5] (fun i _ _ wr => ∃ k : Nat, k ≤ s.size ∧ i = .int .i64 k ∧ LowInv w s k wr) (fun i _ _ _ => s.size - (intOf i).toNat)
  case atStart => exact ⟨0, by omega, rfl, hI0⟩
  case round =>
    obtain ⟨k, hk, rfl, hI⟩ := hrel
    have hLr := hL.below hI.2.2 hL.1
    by_cases hlt : k < s.size
    · have hc := hI.1 k hlt
      rw [if_neg (by omega)] at hc
      have hf := hI.2.1 k hlt
      obtain ⟨b0, b1⟩ := bAt_lt s k
      have hN := hI.succ hlt
      go_wp2_with (go_at_call 14; refine (lower_any (bAt s k) b0 b1 _ hLr).mono ?_; rintro e w' ⟨rfl, rfl⟩)
      go_roundw
      case rel => exact ⟨k + 1, by omega, by go_num, hN⟩
      case measure => simp [intOf]; omega
    · obtain rfl : k = s.size := by omega
      have hback := run_convert_bytes_back (P := Tryd.prog) wr 44 9 5 ⟨w.heap.size, 0, none⟩ (grownCap w s.size 0 5) (lowL s) Tryd.underlying44 Tryd.underlying5 Tryd.underlying9 (fun j hj => by
        have hj' : j < s.size := by rw [← lowL_length]; exact hj
        rw [lowL_get s j hj]
        have e : (⟨w.heap.size, 0, none⟩ : Addr).add j = ⟨w.heap.size, j, none⟩ := by unfold Addr.add; split <;> simp_all
        rw [e, hI.1 j hj', if_pos hj'])
      rw [lowL_length] at hback
      have hb := hI.2.2
      go_wp2
      go_ret
      exact ⟨rfl, hb⟩
end Go.Proofs.YtplibmipbhadmaaDoor
