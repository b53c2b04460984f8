/-
  The calls of chars that say of what class a byte is (Class, Is, White), each answer what the byte's class says; the class table must read as it was laid. (The part of ChA that later layers use, in a namespace of its own.)
-/
import Derived.Test.YtgdealdpphcamaaDoorRows
import Derived.WalkKit
import Derived.WalkSpells
import Derived.WalkLawsBesides
import Derived.Lib.Hide
import Derived.Outline
namespace Go.Proofs.YtgdealdpphcamaaDoor.Ka
open Go.RowKit

/-- The marks' codes. -/
def markL : List Nat := [46, 44, 59, 58, 33, 63, 39, 34, 45, 40, 41, 47]
/-- A byte's class. -/
def clsN (n : Nat) : Nat :=
  if 97 ≤ n ∧ n ≤ 122 then 1 else if 65 ≤ n ∧ n ≤ 90 then 2 else if 48 ≤ n ∧ n ≤ 57 then 3
  else if n = 32 then 5 else if n = 10 then 6 else if markL.contains n then 4 else 0
def cls (c : Int) : Int := (clsN c.toNat : Int)
def tabN (i : Nat) : Nat := [6597069766656, 0, 4919056986126943301, 4611761005120402227, 2459565876494606880, 2345624805922, 1229782938247303440, 1172812402961, 0, 0, 0, 0, 0, 0, 0, 0].getD i 0
/-- The class table lies in its block. -/
def Laid (w : World) : Prop := 3 < w.heap.size ∧ ∀ i : Nat, i < 16 → w.cell? ⟨3, i, none⟩ = some (.int .u64 (tabN i : Int))
theorem Laid.below {w w' : World} {B : Nat} (h : Laid w) (hb : Below B w w') (hB : 3 < B) : Laid w' :=
  ⟨Nat.lt_of_lt_of_le h.1 hb.size, fun i hi => (hb.cell (p := ⟨3, i, none⟩) hB).trans (h.2 i hi)⟩
theorem Laid.cell {w : World} (h : Laid w) {i : Nat} (hi : i < 16) : w.cell? ⟨3, i, none⟩ = some (.int .u64 (tabN i : Int)) := h.2 i hi

theorem clsN_le (n : Nat) : clsN n ≤ 6 := by
  unfold clsN; repeat' split
  all_goals omega
theorem cls_cases (c : Int) : cls c = 0 ∨ cls c = 1 ∨ cls c = 2 ∨ cls c = 3 ∨ cls c = 4 ∨ cls c = 5 ∨ cls c = 6 := by
  have := clsN_le c.toNat; unfold cls; omega
theorem tab_all : ∀ n : Fin 256, wrap64 (bits .and .u64 ((tabN ((((n.val : Nat) : Int) / 16).toNat) : Int) / 2 ^ (((n.val : Nat) : Int) % 16 * 4).toNat) 15) = cls (n.val : Int) := by decide +kernel
theorem tab_cls (c : Int) (h0 : 0 ≤ c) (h1 : c < 256) : wrap64 (bits .and .u64 ((tabN ((c / 16).toNat) : Int) / 2 ^ (c % 16 * 4).toNat) 15) = cls c := by
  obtain ⟨n, rfl⟩ := Int.eq_ofNat_of_zero_le h0
  exact tab_all ⟨n, by omega⟩
theorem ret_int {k : IntKind} {a b : Int} (h : a = b) : Ending.returned (.int k a) = .returned (.int k b) := by rw [h]
theorem ret_bool {a b : Bool} (h : a = b) : Ending.returned (.bool a) = .returned (.bool b) := by rw [h]

set_option maxHeartbeats 400000 in
/-- chars.Class -/
theorem class_at (c k : Int) (h0 : 0 ≤ c) (h1 : c < 256) (hk : cls c = k) (w : World) (hL : Laid w) :
    Calls Tryd.prog 42 #[.int .u8 c] w fun e w' => e = .returned (.int .i64 k) ∧ w = w' := by
  have hc := hL.cell (i := (c / 16).toNat) (by omega)
  have HK := Lib.hid hk; clear hk
  have HT := Lib.hid (tab_cls c h0 h1)
  go_enter Tryd.func42, Tryd.ntmps42
  go_wp2
  go_ret
  exact ⟨ret_int (HT.out.trans HK.out), rfl⟩
theorem class_any (c : Int) (h0 : 0 ≤ c) (h1 : c < 256) (w : World) (hL : Laid w) :
    Calls Tryd.prog 42 #[.int .u8 c] w fun e w' => e = .returned (.int .i64 (cls c)) ∧ w = w' := class_at c _ h0 h1 rfl w hL

def isB (c : Int) : Bool := decide (1 ≤ cls c ∧ cls c ≤ 5)
def whiteB (c : Int) : Bool := decide (cls c = 5 ∨ cls c = 6)
def letterB (c : Int) : Bool := decide (cls c = 1 ∨ cls c = 2)
def lowerI (c : Int) : Int := if cls c = 2 then c + 32 else c
def upperI (c : Int) : Int := if cls c = 1 then c - 32 else c

set_option maxHeartbeats 1000000 in
/-- chars.Is -/
theorem is_any (c : Int) (h0 : 0 ≤ c) (h1 : c < 256) (w : World) (hL : Laid w) :
    Calls Tryd.prog 37 #[.int .u8 c] w fun e w' => e = .returned (.bool (isB c)) ∧ w = w' := by
  rcases cls_cases c with h | h | h | h | h | h | h
  all_goals
    have hB := Lib.hid (show isB c = _ from by unfold isB; rw [h])
    have HK := Lib.hid h; clear h
    go_enter Tryd.func37, Tryd.ntmps37
    go_wp2_with (go_at_call 42; refine (class_at c _ h0 h1 HK.out w hL).mono ?_; rintro e w' ⟨rfl, rfl⟩)
    go_ret
    exact ⟨ret_bool hB.out.symm, rfl⟩
set_option maxHeartbeats 1000000 in
/-- chars.White -/
theorem white_any (c : Int) (h0 : 0 ≤ c) (h1 : c < 256) (w : World) (hL : Laid w) :
    Calls Tryd.prog 36 #[.int .u8 c] w fun e w' => e = .returned (.bool (whiteB c)) ∧ w = w' := by
  rcases cls_cases c with h | h | h | h | h | h | h
  all_goals
    have hB := Lib.hid (show whiteB c = _ from by unfold whiteB; rw [h])
    have HK := Lib.hid h; clear h
    go_enter Tryd.func36, Tryd.ntmps36
    go_wp2_with (go_at_call 42; refine (class_at c _ h0 h1 HK.out w hL).mono ?_; rintro e w' ⟨rfl, rfl⟩)
    go_ret
    exact ⟨ret_bool hB.out.symm, rfl⟩
end Go.Proofs.YtgdealdpphcamaaDoor.Ka
