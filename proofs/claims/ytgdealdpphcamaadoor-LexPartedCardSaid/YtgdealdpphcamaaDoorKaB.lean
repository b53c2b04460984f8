/-
  The document's answers of layer 1 on a byte's class (Class, Is, White).
-/
import Derived.Test.YtgdealdpphcamaaDoorKaA
namespace Go.Proofs.YtgdealdpphcamaaDoor.Ka
open Go.RowKit

theorem spec_all : ∀ n : Fin 256,
    ((97 ≤ n.val ∧ n.val ≤ 122) → clsN n.val = 1) ∧ ((65 ≤ n.val ∧ n.val ≤ 90) → clsN n.val = 2) ∧ ((48 ≤ n.val ∧ n.val ≤ 57) → clsN n.val = 3) ∧ (n.val = 32 → clsN n.val = 5) ∧ (n.val = 10 → clsN n.val = 6) ∧
    ((n.val = 46 ∨ n.val = 44 ∨ n.val = 59 ∨ n.val = 58 ∨ n.val = 33 ∨ n.val = 63 ∨ n.val = 39 ∨ n.val = 34 ∨ n.val = 45 ∨ n.val = 40 ∨ n.val = 41 ∨ n.val = 47) → clsN n.val = 4) ∧
    ((¬ (97 ≤ n.val ∧ n.val ≤ 122) ∧ ¬ (65 ≤ n.val ∧ n.val ≤ 90) ∧ ¬ (48 ≤ n.val ∧ n.val ≤ 57) ∧ n.val ≠ 32 ∧ n.val ≠ 10 ∧
      ¬ (n.val = 46 ∨ n.val = 44 ∨ n.val = 59 ∨ n.val = 58 ∨ n.val = 33 ∨ n.val = 63 ∨ n.val = 39 ∨ n.val = 34 ∨ n.val = 45 ∨ n.val = 40 ∨ n.val = 41 ∨ n.val = 47)) → clsN n.val = 0) := by decide +kernel
theorem cls_spec (c : Int) (h0 : 0 ≤ c) (h1 : c < 256) :
    ((97 ≤ c ∧ c ≤ 122) → cls c = 1) ∧ ((65 ≤ c ∧ c ≤ 90) → cls c = 2) ∧ ((48 ≤ c ∧ c ≤ 57) → cls c = 3) ∧ (c = 32 → cls c = 5) ∧ (c = 10 → cls c = 6) ∧
    ((c = 46 ∨ c = 44 ∨ c = 59 ∨ c = 58 ∨ c = 33 ∨ c = 63 ∨ c = 39 ∨ c = 34 ∨ c = 45 ∨ c = 40 ∨ c = 41 ∨ c = 47) → cls c = 4) ∧
    ((¬ (97 ≤ c ∧ c ≤ 122) ∧ ¬ (65 ≤ c ∧ c ≤ 90) ∧ ¬ (48 ≤ c ∧ c ≤ 57) ∧ c ≠ 32 ∧ c ≠ 10 ∧
      ¬ (c = 46 ∨ c = 44 ∨ c = 59 ∨ c = 58 ∨ c = 33 ∨ c = 63 ∨ c = 39 ∨ c = 34 ∨ c = 45 ∨ c = 40 ∨ c = 41 ∨ c = 47)) → cls c = 0) := by
  obtain ⟨n, rfl⟩ := Int.eq_ofNat_of_zero_le h0
  have h := spec_all ⟨n, by omega⟩
  simp only [] at h
  unfold cls
  simp only [Int.toNat_natCast]
  omega

def markAt (k : Nat) : Int := ((markL.getD k 0 : Nat) : Int)
/-- None of the first k marks is c. -/
def Past (c : Int) (k : Nat) : Prop := ∀ j, j < k → c ≠ markAt j
theorem Past.zero (c : Int) : Past c 0 := fun _ h => absurd h (by omega)
theorem Past.succ {c : Int} {k : Nat} (h : Past c k) (hne : c ≠ markAt k) : Past c (k + 1) := fun j hj => by
  rcases Nat.lt_or_ge j k with h' | h'
  · exact h j h'
  · obtain rfl : j = k := by omega
    exact hne
theorem mark_all : ∀ k : Fin 12, cls (markAt k.val) = 4 := by decide +kernel
theorem mark_cls (c : Int) (k : Nat) (hk : k < 12) (h : c = markAt k) : cls c = 4 := by rw [h]; exact mark_all ⟨k, hk⟩
def marksS : ByteArray := { data := #[46, 44, 59, 58, 33, 63, 39, 34, 45, 40, 41, 47] }
set_option maxHeartbeats 400000 in
/-- stylusref01.Marks -/
theorem rmarks_any (w : World) : Calls Tryd.prog 30 #[] w fun e w' => e = .returned (.string marksS) ∧ w = w' := by
  go_enter Tryd.func30, Tryd.ntmps30
  go_wp2
  go_ret
  exact ⟨rfl, rfl⟩
theorem mark_at : ∀ k : Fin 12, ((marksS[k.val]'(k.isLt)).toNat : Int) = markAt k.val := by decide +kernel
theorem past_cls (c : Int) (h0 : 0 ≤ c) (h1 : c < 256) (h : Past c 12) (a1 : ¬ (97 ≤ c ∧ c ≤ 122)) (a2 : ¬ (65 ≤ c ∧ c ≤ 90)) (a3 : ¬ (48 ≤ c ∧ c ≤ 57)) (a4 : c ≠ 32) (a5 : c ≠ 10) : cls c = 0 := by
  have p0 : c ≠ 46 := h 0 (by omega)
  have p1 : c ≠ 44 := h 1 (by omega)
  have p2 : c ≠ 59 := h 2 (by omega)
  have p3 : c ≠ 58 := h 3 (by omega)
  have p4 : c ≠ 33 := h 4 (by omega)
  have p5 : c ≠ 63 := h 5 (by omega)
  have p6 : c ≠ 39 := h 6 (by omega)
  have p7 : c ≠ 34 := h 7 (by omega)
  have p8 : c ≠ 45 := h 8 (by omega)
  have p9 : c ≠ 40 := h 9 (by omega)
  have p10 : c ≠ 41 := h 10 (by omega)
  have p11 : c ≠ 47 := h 11 (by omega)
  have := cls_spec c h0 h1
  omega

set_option maxHeartbeats 2000000 in
/-- stylusref01.Class -/
theorem rclass_any (c : Int) (h0 : 0 ≤ c) (h1 : c < 256) (w : World) :
    Calls Tryd.prog 26 #[.int .u8 c] w fun e w' => e = .returned (.int .i64 (cls c)) ∧ w = w' := by
  have hs := cls_spec c h0 h1
  by_cases a1 : 97 ≤ c ∧ c ≤ 122
  · obtain ⟨b1, b2⟩ := a1
    have HR := Lib.hid (show (1 : Int) = cls c by omega)
    clear hs
    go_enter Tryd.func26, Tryd.ntmps26
    go_wp2
    go_ret
    exact ⟨ret_int HR.out, rfl⟩
  by_cases a2 : 65 ≤ c ∧ c ≤ 90
  · obtain ⟨b1, b2⟩ := a2
    have HR := Lib.hid (show (2 : Int) = cls c by omega)
    have d1 : decide (97 ≤ c) = false := by simp; omega
    clear hs a1
    go_enter Tryd.func26, Tryd.ntmps26
    go_wp2
    go_ret
    exact ⟨ret_int HR.out, rfl⟩
  by_cases a3 : 48 ≤ c ∧ c ≤ 57
  · obtain ⟨b1, b2⟩ := a3
    have HR := Lib.hid (show (3 : Int) = cls c by omega)
    have d1 : decide (97 ≤ c) = false := by simp; omega
    have d2 : decide (65 ≤ c) = false := by simp; omega
    clear hs a1 a2
    go_enter Tryd.func26, Tryd.ntmps26
    go_wp2
    go_ret
    exact ⟨ret_int HR.out, rfl⟩
  by_cases a4 : c = 32
  · subst a4
    have HR := Lib.hid (show (5 : Int) = cls 32 by omega)
    clear hs a1 a2 a3
    go_enter Tryd.func26, Tryd.ntmps26
    go_wp2
    go_ret
    exact ⟨ret_int HR.out, rfl⟩
  by_cases a5 : c = 10
  · subst a5
    have HR := Lib.hid (show (6 : Int) = cls 10 by omega)
    clear hs a1 a2 a3 a4
    go_enter Tryd.func26, Tryd.ntmps26
    go_wp2
    go_ret
    exact ⟨ret_int HR.out, rfl⟩
  have HN := Lib.hid (fun hp => (past_cls c h0 h1 hp a1 a2 a3 a4 a5).symm)
  have e4 : (c == 32) = false := by simpa using a4
  have e5 : (c == 10) = false := by simpa using a5
  have hcase : c < 48 ∨ (57 < c ∧ c < 65) ∨ (90 < c ∧ c < 97) ∨ 122 < c := by omega
  clear hs a4 a5 a1 a2 a3
  rcases hcase with b1 | ⟨b1, b2⟩ | ⟨b1, b2⟩ | b1
  all_goals
    go_enter Tryd.func26, Tryd.ntmps26
    go_wp2_with (go_at_call 30; refine (rmarks_any _).mono ?_; rintro e w' ⟨rfl, rfl⟩)
    go_loop [4] (fun i => ∃ k : Nat, k ≤ 12 ∧ i = .int .i64 k ∧ Past c k) (fun i => 12 - (intOf i).toNat)
    case atStart => exact ⟨0, by omega, rfl, Past.zero c⟩
    case round =>
      obtain ⟨k, hk, rfl, hp⟩ := hrel
      by_cases hlt : k < 12
      · have hs' : k < marksS.size := hlt
        have hm : (((marksS[k]'hs').toNat : Nat) : Int) = markAt k := mark_at ⟨k, hlt⟩
        by_cases hc : c = markAt k
        · have HR := Lib.hid (mark_cls c k hlt hc)
          have hb : ((((marksS[k]'hs').toNat : Nat) : Int) == c) = true := by rw [hm, hc]; simp
          clear hm hc
          go_wp2
          go_ret
          exact ⟨ret_int HR.out.symm, rfl⟩
        · have HP := Lib.hid (hp.succ hc)
          have hb : ((((marksS[k]'hs').toNat : Nat) : Int) == c) = false := by rw [hm]; simp; exact fun e => hc e.symm
          clear hm hc
          go_wp2
          exact ⟨⟨k + 1, by omega, by go_num, HP.out⟩, by simp [intOf]; omega⟩
      · obtain rfl : k = 12 := by omega
        have HR := Lib.hid (HN.out hp)
        go_wp2
        go_ret
        exact ⟨ret_int HR.out, rfl⟩

/-- The class is one thing, whatever is asked of it. -/
theorem rclass_at (c k : Int) (h0 : 0 ≤ c) (h1 : c < 256) (hk : cls c = k) (w : World) :
    Calls Tryd.prog 26 #[.int .u8 c] w fun e w' => e = .returned (.int .i64 k) ∧ w = w' := hk ▸ rclass_any c h0 h1 w

set_option maxHeartbeats 1000000 in
/-- stylusref01.Is -/
theorem ris_any (c : Int) (h0 : 0 ≤ c) (h1 : c < 256) (w : World) :
    Calls Tryd.prog 20 #[.int .u8 c] w fun e w' => e = .returned (.bool (isB c)) ∧ w = w' := by
  rcases cls_cases c with h | h | h | h | h | h | h
  all_goals
    have hB := Lib.hid (show isB c = _ from by unfold isB; rw [h])
    have HK := Lib.hid h; clear h
    go_enter Tryd.func20, Tryd.ntmps20
    go_wp2_with (go_at_call 26; refine (rclass_at c _ h0 h1 HK.out w).mono ?_; rintro e w' ⟨rfl, rfl⟩)
    go_ret
    exact ⟨ret_bool hB.out.symm, rfl⟩

theorem white_all : ∀ n : Fin 256, ((cls (n.val : Int) = 5 ∨ cls (n.val : Int) = 6) ↔ (n.val = 32 ∨ n.val = 10)) := by decide +kernel
theorem whiteB_iff (b : Nat) (h : b < 256) : whiteB (b : Int) = decide (b = 32 ∨ b = 10) := by
  unfold whiteB
  rw [decide_eq_decide]
  exact white_all ⟨b, h⟩
set_option maxHeartbeats 1000000 in
/-- stylusref01.White -/
theorem rwhite_any (b : Nat) (h : b < 256) (w : World) :
    Calls Tryd.prog 19 #[.int .u8 (b : Int)] w fun e w' => e = .returned (.bool (whiteB (b : Int))) ∧ w = w' := by
  have HW := Lib.hid (whiteB_iff b h)
  by_cases a : b = 32
  · subst a
    have HV := Lib.hid (show true = whiteB ((32 : Nat) : Int) by rw [HW.out]; rfl)
    go_enter Tryd.func19, Tryd.ntmps19
    go_wp2
    go_ret
    exact ⟨ret_bool HV.out, rfl⟩
  by_cases c : b = 10
  · subst c
    have HV := Lib.hid (show true = whiteB ((10 : Nat) : Int) by rw [HW.out]; rfl)
    go_enter Tryd.func19, Tryd.ntmps19
    go_wp2
    go_ret
    exact ⟨ret_bool HV.out, rfl⟩
  have HV := Lib.hid (show false = whiteB (b : Int) by rw [HW.out]; simp [a, c])
  have t1 : ((b : Int) == 32) = false := beq_eq_false_iff_ne.2 (by omega)
  have t2 : ((b : Int) == 10) = false := beq_eq_false_iff_ne.2 (by omega)
  clear a c
  go_enter Tryd.func19, Tryd.ntmps19
  go_wp2
  go_ret
  exact ⟨ret_bool HV.out, rfl⟩
theorem rwhite_at (b : Nat) (v : Bool) (h : b < 256) (hv : whiteB (b : Int) = v) (w : World) :
    Calls Tryd.prog 19 #[.int .u8 (b : Int)] w fun e w' => e = .returned (.bool v) ∧ w = w' := hv ▸ rwhite_any b h w
theorem ris_at (b : Nat) (v : Bool) (h : b < 256) (hv : isB (b : Int) = v) (w : World) :
    Calls Tryd.prog 20 #[.int .u8 (b : Int)] w fun e w' => e = .returned (.bool v) ∧ w = w' := hv ▸ ris_any (b : Int) (by omega) (by omega) w
end Go.Proofs.YtgdealdpphcamaaDoor.Ka
