/-
  The document's Dots and Count of layer 2.
-/
import Derived.Test.YtlibmfflgpkjmaaDoorCeG
namespace Go.Proofs.YtlibmfflgpkjmaaDoor.Ce
open Go.RowKit

theorem bytesOf_append (a b : List Nat) : bytesOf (a ++ b) = bytesOf a ++ bytesOf b := by
  apply ByteArray.ext
  simp [bytesOf]
theorem bytesOf_one (x : Nat) : bytesOf [x] = { data := #[UInt8.ofNat x] } := rfl
/-- One fresh cell, turned into a string. -/
theorem back_of_one (wr : World) (x : Nat) (hx : x < 256) (v : Int) (hv : v = (x : Int)) :
    (convert 23 9 (.slice (some ⟨wr.heap.size, 0, none⟩) 1 1)).run Tryd.prog (wr.alloc (.cells #[.int .u8 v] 5)) = .ok (.string (bytesOf [x])) (wr.alloc (.cells #[.int .u8 v] 5)) := by
  have hback := run_convert_bytes_back (P := Tryd.prog) (wr.alloc (.cells #[.int .u8 v] 5)) 23 9 5 ⟨wr.heap.size, 0, none⟩ 1 [UInt8.ofNat x] Tryd.underlying23 Tryd.underlying5 Tryd.underlying9 (fun j hj => by
    obtain rfl : j = 0 := by simp at hj; omega
    have e : (⟨wr.heap.size, 0, none⟩ : Addr).add 0 = ⟨wr.heap.size, 0, none⟩ := by unfold Addr.add; split <;> simp_all
    have e3 : (UInt8.ofNat x).toNat = x := by simp [Nat.mod_eq_of_lt hx]
    rw [e]
    simp only [List.getElem_cons_zero, e3, hv]
    simp)
  exact hback


theorem dotsS_size (c : Nat) : (dotsS c).size = popN c := by unfold dotsS popN; rw [bytesOf_size]

end Go.Proofs.YtlibmfflgpkjmaaDoor.Ce
