/-
  The calls of cell that look at one byte (bitOf, Sign, From), and the document's (weight, Table, Sign, From).
-/
import Derived.Test.YtlibmfflgpkjmaaGreatDoorCeM
import Derived.Test.YtlibmfflgpkjmaaGreatDoorShelf
namespace Go.Proofs.YtlibmfflgpkjmaaGreatDoor.Ce
open Go.RowKit

set_option maxHeartbeats 400000 in
/-- cell.bitOf -/
theorem bitOf_any (d : Int) (h0 : 0 ≤ d) (h1 : d < 2147483648) (w : World) :
    Calls Tryz.prog 77 #[.int .i32 d] w fun e w' => e = .returned (.int .u8 ((bitN d.toNat : Nat) : Int)) ∧ w = w' := by
  by_cases a : d < 49
  · have HR := Lib.hid (show (0 : Int) = ((bitN d.toNat : Nat) : Int) by unfold bitN; rw [if_neg (by omega)]; rfl)
    go_enter Tryz.func77, Tryz.ntmps77
    go_wp2
    go_ret
    exact ⟨ret_int HR.out, rfl⟩
  by_cases b : 54 < d
  · have HR := Lib.hid (show (0 : Int) = ((bitN d.toNat : Nat) : Int) by unfold bitN; rw [if_neg (by omega)]; rfl)
    have ha : decide (d < 49) = false := by simpa using a
    go_enter Tryz.func77, Tryz.ntmps77
    go_wp2
    go_ret
    exact ⟨ret_int HR.out, rfl⟩
  have hd : d = 49 ∨ d = 50 ∨ d = 51 ∨ d = 52 ∨ d = 53 ∨ d = 54 := by omega
  clear a b h0 h1
  rcases hd with rfl | rfl | rfl | rfl | rfl | rfl
  all_goals
    go_enter Tryz.func77, Tryz.ntmps77
    go_wp2
    go_ret
    exact ⟨rfl, rfl⟩

theorem bitOf_at (d : Int) (k : Nat) (h0 : 0 ≤ d) (h1 : d < 2147483648) (hk : bitN d.toNat = k) (w : World) :
    Calls Tryz.prog 77 #[.int .i32 d] w fun e w' => e = .returned (.int .u8 ((k : Nat) : Int)) ∧ w = w' := hk ▸ bitOf_any d h0 h1 w



end Go.Proofs.YtlibmfflgpkjmaaGreatDoor.Ce
