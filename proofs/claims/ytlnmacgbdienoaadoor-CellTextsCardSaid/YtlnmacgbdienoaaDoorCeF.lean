/-
  cell.Signs, cell.Cells, cell.Count, and the document's.
-/
import Derived.Test.YtlnmacgbdienoaaDoorCeE
namespace Go.Proofs.YtlnmacgbdienoaaDoor
open Go.RowKit

def emptyS : ByteArray := ⟨#[]⟩
def signsV (s : ByteArray) : ByteArray := if badAt signB s = s.size then mapS signR s else emptyS
def signsE (s : ByteArray) : Int := if badAt signB s = s.size then 0 else 1
def cellsV (s : ByteArray) : ByteArray := if badAt fromB s = s.size then mapS fromR s else emptyS
def cellsAt (s : ByteArray) : Nat := if badAt fromB s = s.size then 0 else badAt fromB s
def cellsE (s : ByteArray) : Int := if badAt fromB s = s.size then 0 else 2
theorem ret_se {x y : ByteArray} {a b : Int} (h : x = y) (h' : a = b) : Ending.returned (.tuple #[.string x, .int .i64 a]) = .returned (.tuple #[.string y, .int .i64 b]) := by rw [h, h']
theorem ret_sie {x y : ByteArray} {a b c d : Int} (h : x = y) (h' : a = b) (h2 : c = d) : Ending.returned (.tuple #[.string x, .int .i64 a, .int .i64 c]) = .returned (.tuple #[.string y, .int .i64 b, .int .i64 d]) := by rw [h, h', h2]

set_option maxHeartbeats 1000000 in
/-- cell.Signs -/
theorem signs_any (s : ByteArray) (hs : s.size ≤ 70000) (w : World) :
    Calls Tryd.prog 20 #[.string s] w fun e w' => e = .returned (.tuple #[.string (signsV s), .int .i64 (signsE s)]) ∧ Below w.heap.size w w' := by
  go_enter Tryd.func20, Tryd.ntmps20
  go_wp2_with fail
  refine (become_sign s hs _).mono ?_
  rintro e w' ⟨⟨h, rfl⟩ | ⟨h, rfl⟩, hb⟩
  · have HV := Lib.hid (show mapS signR s = signsV s by unfold signsV; rw [if_pos h])
    have HE := Lib.hid (show (0 : Int) = signsE s by unfold signsE; rw [if_pos h])
    clear h
    go_wp2
    go_ret2
    exact ⟨ret_se HV.out HE.out, hb⟩
  · have HV := Lib.hid (show emptyS = signsV s by unfold signsV; rw [if_neg (by omega)])
    have HE := Lib.hid (show (1 : Int) = signsE s by unfold signsE; rw [if_neg (by omega)])
    clear h
    go_wp2
    go_ret2
    exact ⟨ret_se HV.out HE.out, hb⟩

set_option maxHeartbeats 1000000 in
/-- cell.Cells -/
theorem cells_any (s : ByteArray) (hs : s.size ≤ 70000) (w : World) :
    Calls Tryd.prog 22 #[.string s] w fun e w' => e = .returned (.tuple #[.string (cellsV s), .int .i64 ((cellsAt s : Nat) : Int), .int .i64 (cellsE s)]) ∧ Below w.heap.size w w' := by
  go_enter Tryd.func22, Tryd.ntmps22
  go_wp2_with fail
  refine (become_from s hs _).mono ?_
  rintro e w' ⟨⟨h, rfl⟩ | ⟨h, rfl⟩, hb⟩
  · have HV := Lib.hid (show mapS fromR s = cellsV s by unfold cellsV; rw [if_pos h])
    have HE := Lib.hid (show (0 : Int) = cellsE s by unfold cellsE; rw [if_pos h])
    have HA := Lib.hid (show (0 : Int) = ((cellsAt s : Nat) : Int) by unfold cellsAt; rw [if_pos h]; rfl)
    clear h
    go_wp2
    go_ret3
    exact ⟨ret_sie HV.out HA.out HE.out, hb⟩
  · have HV := Lib.hid (show emptyS = cellsV s by unfold cellsV; rw [if_neg (by omega)])
    have HE := Lib.hid (show (2 : Int) = cellsE s by unfold cellsE; rw [if_neg (by omega)])
    have HA := Lib.hid (show ((badAt fromB s : Nat) : Int) = ((cellsAt s : Nat) : Int) by unfold cellsAt; rw [if_neg (by omega)])
    clear h
    go_wp2
    go_ret3
    exact ⟨ret_sie HV.out HA.out HE.out, hb⟩

theorem u8_and : ∀ b : Fin 256, bits .and .u8 ((b.val : Nat) : Int) 63 = ((b.val % 64 : Nat) : Int) ∧ Lib.onesCount (b.val % 64) = popN b.val := by decide +kernel
theorem ones_at (b : Nat) (h : b < 256) (x : Int) (hx : x = bits .and .u8 ((b : Nat) : Int) 63) (w : World) :
    Calls Tryd.prog 34 #[.int .u8 x] w fun e w' => e = .returned (.int .i64 ((popN b : Nat) : Int)) ∧ w = w' := by
  obtain ⟨h1, h2⟩ := u8_and ⟨b, h⟩
  simp only [] at h1 h2
  rw [h1] at hx
  refine (Tryd.bits_OnesCount8 x w (by omega) (by omega)).mono fun _ _ ⟨he, hw⟩ => ⟨?_, hw.symm⟩
  rw [he, hx, Int.toNat_natCast, h2]
/-- How many dots the first k bytes have. -/
def popK (s : ByteArray) : Nat → Nat
  | 0 => 0
  | k + 1 => popK s k + popN (bAt s k)
theorem popN_le (c : Nat) : popN c ≤ 6 := dotsN_len c 6
theorem popK_le (s : ByteArray) : ∀ k, popK s k ≤ 6 * k
  | 0 => Nat.le_refl _
  | k + 1 => by have := popK_le s k; have := popN_le (bAt s k); unfold popK; omega
def popS (s : ByteArray) : Nat := popK s s.size

set_option maxHeartbeats 1000000 in
/-- cell.Count -/
theorem count_any (s : ByteArray) (hs : s.size ≤ 70000) (w : World) :
    Calls Tryd.prog 24 #[.string s] w fun e w' => e = .returned (.int .i64 ((popS s : Nat) : Int)) ∧ w = w' := by
  go_enter Tryd.func24, Tryd.ntmps24
  go_wp2
  go_loop [3, 7] (fun n i => ∃ k p : Nat, k ≤ s.size ∧ i = .int .i64 k ∧ n = .int .i64 p ∧ popK s k = p) (fun _ i => s.size - (intOf i).toNat)
  case atStart => exact ⟨0, 0, by omega, rfl, rfl, rfl⟩
  case round =>
    obtain ⟨k, p, hk, rfl, rfl, hp⟩ := hrel
    have hle := popK_le s k
    rw [hp] at hle
    by_cases hlt : k < s.size
    · have h256 := bAt_lt s k
      have hp6 := popN_le (bAt s k)
      have hget := Lib.hid (show ((s[k].toNat : Nat) : Int) = ((bAt s k : Nat) : Int) by rw [bAt_get s k hlt])
      have HP := Lib.hid (show popK s (k + 1) = p + popN (bAt s k) by unfold popK; rw [hp])
      obtain ⟨q, hq⟩ : ∃ q, popN (bAt s k) = q := ⟨_, rfl⟩
      rw [hq] at hp6 HP
      have HQ := Lib.hid hq; clear hq hp
      go_wp2_with (go_at_call 34; refine ((ones_at (bAt s k) h256 _ (by rw [hget.out]) _).mono (fun _ _ h => (HQ.out ▸ h))).mono ?_; rintro e w' ⟨rfl, rfl⟩)
      exact ⟨⟨k + 1, p + q, by omega, by go_num, by go_num, HP.out⟩, by simp [intOf]; omega⟩
    · obtain rfl : k = s.size := by omega
      have HP := Lib.hid hp; clear hp
      go_wp2
      go_ret
      exact ⟨ret_int (by unfold popS; rw [HP.out]), rfl⟩
end Go.Proofs.YtlnmacgbdienoaaDoor
