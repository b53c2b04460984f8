/-
  The document's Dots and Count of layer 2.
-/
import Derived.Test.YtlibmfflgpkjmaaGreatDoorCeG
namespace Go.Proofs.YtlibmfflgpkjmaaGreatDoor.Ce
open Go.RowKit

theorem bytesOf_append (a b : List Nat) : bytesOf (a ++ b) = bytesOf a ++ bytesOf b := by
  apply ByteArray.ext
  simp [bytesOf]
theorem bytesOf_one (x : Nat) : bytesOf [x] = { data := #[UInt8.ofNat x] } := rfl
/-- One fresh cell, turned into a string. -/
theorem back_of_one (wr : World) (x : Nat) (hx : x < 256) (v : Int) (hv : v = (x : Int)) :
    (convert 44 9 (.slice (some ⟨wr.heap.size, 0, none⟩) 1 1)).run Tryz.prog (wr.alloc (.cells #[.int .u8 v] 5)) = .ok (.string (bytesOf [x])) (wr.alloc (.cells #[.int .u8 v] 5)) := by
  have hback := run_convert_bytes_back (P := Tryz.prog) (wr.alloc (.cells #[.int .u8 v] 5)) 44 9 5 ⟨wr.heap.size, 0, none⟩ 1 [UInt8.ofNat x] Tryz.underlying44 Tryz.underlying5 Tryz.underlying9 (fun j hj => by
    obtain rfl : j = 0 := by simp at hj; omega
    have e : (⟨wr.heap.size, 0, none⟩ : Addr).add 0 = ⟨wr.heap.size, 0, none⟩ := by unfold Addr.add; split <;> simp_all
    have e3 : (UInt8.ofNat x).toNat = x := by simp [Nat.mod_eq_of_lt hx]
    rw [e]
    simp only [List.getElem_cons_zero, e3, hv]
    simp)
  exact hback

set_option maxRecDepth 100000 in
set_option maxHeartbeats 4000000 in
/-- stylusref02.Dots -/
theorem rdots_any (c : Nat) (hc : c < 256) (w : World) :
    Calls Tryz.prog 68 #[.int .u8 (c : Int)] w fun e w' => e = .returned (.string (dotsS c)) ∧ Below w.heap.size w w' := by
  go_enter Tryz.func68, Tryz.ntmps68
  go_wp2
  go_loopw [3, 4] (fun v i wr => ∃ (k d : Nat) (s : ByteArray), k ≤ 6 ∧ d = k + 1 ∧ i = .int .i64 d ∧ v = .string s ∧ s = bytesOf (dotsN c k) ∧ Below w.heap.size w wr) (fun _ i _ => 7 - (intOf i).toNat)
  case atStart => exact ⟨0, 1, _, by omega, rfl, rfl, rfl, rfl, Below.refl _ _⟩
  case round =>
    obtain ⟨k, d, s, hk, hd, rfl, rfl, hs, hB⟩ := hrel
    have hsz := hB.size
    have hd1 : 1 ≤ d := by omega
    have hsl : s.size ≤ 6 := by rw [hs, bytesOf_size]; exact Nat.le_trans (dotsN_len c k) hk
    by_cases hp : d ≤ 6
    · have HW := Lib.hid (show powN d = 2 ^ k by unfold powN; rw [hd, Nat.add_sub_cancel])
      obtain ⟨q, hq⟩ : ∃ q, 2 ^ k = q := ⟨_, rfl⟩
      have hq1 : 1 ≤ q := by rw [← hq]; exact Nat.one_le_two_pow
      have hq2 : q ≤ 32 := by rw [← hq, ← HW.out]; exact powN_le d hp
      have hx0 : 0 ≤ (c : Int) / (q : Int) := Int.ediv_nonneg (by omega) (by omega)
      have hx1 : (c : Int) / (q : Int) ≤ 255 := by
        have := Int.ediv_le_self (q : Int) (show (0 : Int) ≤ (c : Int) by omega)
        omega
      have hcd : (c : Int) / (q : Int) % 2 = ((c / q % 2 : Nat) : Int) := by simp
      have HCD := Lib.hid hcd; clear hcd
      by_cases hb : c / 2 ^ k % 2 = 1
      · have HD := Lib.hid (dotsN_yes c k hb)
        have ht : ((c : Int) / (q : Int) % 2 == 1) = true := by rw [HCD.out, ← hq, hb]; rfl
        have hz1 : (bytesOf [49 + k]).size ≤ 1 := by rw [bytesOf_size]; simp
        have hcv := back_of_one wr (49 + k) (by omega) (48 + (d : Int)) (by omega)
        have HS := Lib.hid hs
        rw [hq] at HW
        have HK := Lib.hid hd
        clear hb hq hs hd
        go_wp2_with (go_at_call 85; refine ((weight_any d hd1 hp _).mono (fun _ _ h => (HW.out ▸ h))).mono ?_; rintro e w' ⟨rfl, rfl⟩)
        exact ⟨⟨k + 1, d + 1, _, by have := HK.out; omega, by rw [HK.out], by go_num, rfl, by rw [HD.out, bytesOf_append, HS.out], hB.alloc hsz _⟩, by simp [intOf]; omega⟩
      · have HD := Lib.hid (dotsN_no c k hb)
        have ht : ((c : Int) / (q : Int) % 2 == 1) = false := by
          have hb2 : c / q % 2 = 0 := by rw [← hq]; omega
          rw [HCD.out, hb2]; rfl
        have HS := Lib.hid hs
        rw [hq] at HW
        have HK := Lib.hid hd
        clear hb hq hs hd
        go_wp2_with (go_at_call 85; refine ((weight_any d hd1 hp _).mono (fun _ _ h => (HW.out ▸ h))).mono ?_; rintro e w' ⟨rfl, rfl⟩)
        exact ⟨⟨k + 1, d + 1, s, by have := HK.out; omega, by rw [HK.out], by go_num, rfl, by rw [HD.out, HS.out], hB⟩, by simp [intOf]; omega⟩
    · obtain rfl : k = 6 := by omega
      have HS := Lib.hid hs
      clear hs
      go_wp2
      go_ret
      exact ⟨by rw [HS.out]; rfl, hB⟩

theorem dotsS_size (c : Nat) : (dotsS c).size = popN c := by unfold dotsS popN; rw [bytesOf_size]

end Go.Proofs.YtlibmfflgpkjmaaGreatDoor.Ce
