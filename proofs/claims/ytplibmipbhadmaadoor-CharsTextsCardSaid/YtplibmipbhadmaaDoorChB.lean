/-
  The document's answers of layer 1 that look at one byte (Class, Is, Letter, Lower, Upper) answer what the byte's class says.
-/
import Derived.Test.YtplibmipbhadmaaDoorChA
namespace Go.Proofs.YtplibmipbhadmaaDoor
open Go.RowKit

theorem spec_all : ∀ n : Fin 256,
    ((97 ≤ n.val ∧ n.val ≤ 122) → clsN n.val = 1) ∧ ((65 ≤ n.val ∧ n.val ≤ 90) → clsN n.val = 2) ∧ ((48 ≤ n.val ∧ n.val ≤ 57) → clsN n.val = 3) ∧ (n.val = 32 → clsN n.val = 5) ∧ (n.val = 10 → clsN n.val = 6) ∧
    ((n.val = 46 ∨ n.val = 44 ∨ n.val = 59 ∨ n.val = 58 ∨ n.val = 33 ∨ n.val = 63 ∨ n.val = 39 ∨ n.val = 34 ∨ n.val = 45 ∨ n.val = 40 ∨ n.val = 41 ∨ n.val = 47) → clsN n.val = 4) ∧
    ((¬ (97 ≤ n.val ∧ n.val ≤ 122) ∧ ¬ (65 ≤ n.val ∧ n.val ≤ 90) ∧ ¬ (48 ≤ n.val ∧ n.val ≤ 57) ∧ n.val ≠ 32 ∧ n.val ≠ 10 ∧
      ¬ (n.val = 46 ∨ n.val = 44 ∨ n.val = 59 ∨ n.val = 58 ∨ n.val = 33 ∨ n.val = 63 ∨ n.val = 39 ∨ n.val = 34 ∨ n.val = 45 ∨ n.val = 40 ∨ n.val = 41 ∨ n.val = 47)) → clsN n.val = 0) := by decide +kernel
theorem cls_spec (c : Int) (h0 : 0 ≤ c) (h1 : c < 256) :
    ((97 ≤ c ∧ c ≤ 122) → cls c = 1) ∧ ((65 ≤ c ∧ c ≤ 90) → cls c = 2) ∧ ((48 ≤ c ∧ c ≤ 57) → cls c = 3) ∧ (c = 32 → cls c = 5) ∧ (c = 10 → cls c = 6) ∧
    ((c = 46 ∨ c = 44 ∨ c = 59 ∨ c = 58 ∨ c = 33 ∨ c = 63 ∨ c = 39 ∨ c = 34 ∨ c = 45 ∨ c = 40 ∨ c = 41 ∨ c = 47) → cls c = 4) ∧
    ((¬ (97 ≤ c ∧ c ≤ 122) ∧ ¬ (65 ≤ c ∧ c ≤ 90) ∧ ¬ (48 ≤ c ∧ c ≤ 57) ∧ c ≠ 32 ∧ c ≠ 10 ∧
      ¬ (c = 46 ∨ c = 44 ∨ c = 59 ∨ c = 58 ∨ c = 33 ∨ c = 63 ∨ c = 39 ∨ c = 34 ∨ c = 45 ∨ c = 40 ∨ c = 41 ∨ c = 47)) → cls c = 0) := by
  obtain ⟨n, rfl⟩ := Int.eq_ofNat_of_zero_le h0
  have h := spec_all ⟨n, by omega⟩
  simp only [] at h
  unfold cls
  simp only [Int.toNat_natCast]
  omega

def markAt (k : Nat) : Int := ((markL.getD k 0 : Nat) : Int)
/-- None of the first k marks is c. -/
def Past (c : Int) (k : Nat) : Prop := ∀ j, j < k → c ≠ markAt j
theorem Past.zero (c : Int) : Past c 0 := fun _ h => absurd h (by omega)
theorem Past.succ {c : Int} {k : Nat} (h : Past c k) (hne : c ≠ markAt k) : Past c (k + 1) := fun j hj => by
  rcases Nat.lt_or_ge j k with h' | h'
  · exact h j h'
  · obtain rfl : j = k := by omega
    exact hne
theorem mark_all : ∀ k : Fin 12, cls (markAt k.val) = 4 := by decide +kernel
theorem mark_cls (c : Int) (k : Nat) (hk : k < 12) (h : c = markAt k) : cls c = 4 := by rw [h]; exact mark_all ⟨k, hk⟩
theorem mark_at : ∀ k : Fin 12, ((marksS[k.val]'(k.isLt)).toNat : Int) = markAt k.val := by decide +kernel
theorem past_cls (c : Int) (h0 : 0 ≤ c) (h1 : c < 256) (h : Past c 12) (a1 : ¬ (97 ≤ c ∧ c ≤ 122)) (a2 : ¬ (65 ≤ c ∧ c ≤ 90)) (a3 : ¬ (48 ≤ c ∧ c ≤ 57)) (a4 : c ≠ 32) (a5 : c ≠ 10) : cls c = 0 := by
  have p0 : c ≠ 46 := h 0 (by omega)
  have p1 : c ≠ 44 := h 1 (by omega)
  have p2 : c ≠ 59 := h 2 (by omega)
  have p3 : c ≠ 58 := h 3 (by omega)
  have p4 : c ≠ 33 := h 4 (by omega)
  have p5 : c ≠ 63 := h 5 (by omega)
  have p6 : c ≠ 39 := h 6 (by omega)
  have p7 : c ≠ 34 := h 7 (by omega)
  have p8 : c ≠ 45 := h 8 (by omega)
  have p9 : c ≠ 40 := h 9 (by omega)
  have p10 : c ≠ 41 := h 10 (by omega)
  have p11 : c ≠ 47 := h 11 (by omega)
  have := cls_spec c h0 h1
  omega

set_option maxHeartbeats 2000000 in
/-- stylusref01.Class -/
theorem rclass_any (c : Int) (h0 : 0 ≤ c) (h1 : c < 256) (w : World) :
    Calls Tryd.prog 8 #[.int .u8 c] w fun e w' => e = .returned (.int .i64 (cls c)) ∧ w = w' := by
  have hs := cls_spec c h0 h1
  by_cases a1 : 97 ≤ c ∧ c ≤ 122
  · obtain ⟨b1, b2⟩ := a1
    have HR := Lib.hid (show (1 : Int) = cls c by omega)
    clear hs
    go_enter Tryd.func8, Tryd.ntmps8
    go_wp2
    go_ret
    exact ⟨ret_int HR.out, rfl⟩
  by_cases a2 : 65 ≤ c ∧ c ≤ 90
  · obtain ⟨b1, b2⟩ := a2
    have HR := Lib.hid (show (2 : Int) = cls c by omega)
    have d1 : decide (97 ≤ c) = false := by simp; omega
    clear hs a1
    go_enter Tryd.func8, Tryd.ntmps8
    go_wp2
    go_ret
    exact ⟨ret_int HR.out, rfl⟩
  by_cases a3 : 48 ≤ c ∧ c ≤ 57
  · obtain ⟨b1, b2⟩ := a3
    have HR := Lib.hid (show (3 : Int) = cls c by omega)
    have d1 : decide (97 ≤ c) = false := by simp; omega
    have d2 : decide (65 ≤ c) = false := by simp; omega
    clear hs a1 a2
    go_enter Tryd.func8, Tryd.ntmps8
    go_wp2
    go_ret
    exact ⟨ret_int HR.out, rfl⟩
  by_cases a4 : c = 32
  · subst a4
    have HR := Lib.hid (show (5 : Int) = cls 32 by omega)
    clear hs a1 a2 a3
    go_enter Tryd.func8, Tryd.ntmps8
    go_wp2
    go_ret
    exact ⟨ret_int HR.out, rfl⟩
  by_cases a5 : c = 10
  · subst a5
    have HR := Lib.hid (show (6 : Int) = cls 10 by omega)
    clear hs a1 a2 a3 a4
    go_enter Tryd.func8, Tryd.ntmps8
    go_wp2
    go_ret
    exact ⟨ret_int HR.out, rfl⟩
  have HN := Lib.hid (fun hp => (past_cls c h0 h1 hp a1 a2 a3 a4 a5).symm)
  have e4 : (c == 32) = false := by simpa using a4
  have e5 : (c == 10) = false := by simpa using a5
  have hcase : c < 48 ∨ (57 < c ∧ c < 65) ∨ (90 < c ∧ c < 97) ∨ 122 < c := by omega
  clear hs a4 a5 a1 a2 a3
  rcases hcase with b1 | ⟨b1, b2⟩ | ⟨b1, b2⟩ | b1
  all_goals
    go_enter Tryd.func8, Tryd.ntmps8
    go_wp2_with (go_at_call 19; refine (rmarks_any _).mono ?_; rintro e w' ⟨rfl, rfl⟩)
    go_loop [4] (fun i => ∃ k : Nat, k ≤ 12 ∧ i = .int .i64 k ∧ Past c k) (fun i => 12 - (intOf i).toNat)
    case atStart => exact ⟨0, by omega, rfl, Past.zero c⟩
    case round =>
      obtain ⟨k, hk, rfl, hp⟩ := hrel
      by_cases hlt : k < 12
      · have hs' : k < marksS.size := hlt
        have hm : (((marksS[k]'hs').toNat : Nat) : Int) = markAt k := mark_at ⟨k, hlt⟩
        by_cases hc : c = markAt k
        · have HR := Lib.hid (mark_cls c k hlt hc)
          have hb : ((((marksS[k]'hs').toNat : Nat) : Int) == c) = true := by rw [hm, hc]; simp
          clear hm hc
          go_wp2
          go_ret
          exact ⟨ret_int HR.out.symm, rfl⟩
        · have HP := Lib.hid (hp.succ hc)
          have hb : ((((marksS[k]'hs').toNat : Nat) : Int) == c) = false := by rw [hm]; simp; exact fun e => hc e.symm
          clear hm hc
          go_wp2
          exact ⟨⟨k + 1, by omega, by go_num, HP.out⟩, by simp [intOf]; omega⟩
      · obtain rfl : k = 12 := by omega
        have HR := Lib.hid (HN.out hp)
        go_wp2
        go_ret
        exact ⟨ret_int HR.out, rfl⟩

/-- The class is one thing, whatever is asked of it. -/
theorem rclass_at (c k : Int) (h0 : 0 ≤ c) (h1 : c < 256) (hk : cls c = k) (w : World) :
    Calls Tryd.prog 8 #[.int .u8 c] w fun e w' => e = .returned (.int .i64 k) ∧ w = w' := hk ▸ rclass_any c h0 h1 w

set_option maxHeartbeats 1000000 in
/-- stylusref01.Is -/
theorem ris_any (c : Int) (h0 : 0 ≤ c) (h1 : c < 256) (w : World) :
    Calls Tryd.prog 10 #[.int .u8 c] w fun e w' => e = .returned (.bool (isB c)) ∧ w = w' := by
  rcases cls_cases c with h | h | h | h | h | h | h
  all_goals
    have hB := Lib.hid (show isB c = _ from by unfold isB; rw [h])
    have HK := Lib.hid h; clear h
    go_enter Tryd.func10, Tryd.ntmps10
    go_wp2_with (go_at_call 8; refine (rclass_at c _ h0 h1 HK.out w).mono ?_; rintro e w' ⟨rfl, rfl⟩)
    go_ret
    exact ⟨ret_bool hB.out.symm, rfl⟩
set_option maxHeartbeats 1000000 in
/-- stylusref01.Letter -/
theorem rletter_any (c : Int) (h0 : 0 ≤ c) (h1 : c < 256) (w : World) :
    Calls Tryd.prog 13 #[.int .u8 c] w fun e w' => e = .returned (.bool (letterB c)) ∧ w = w' := by
  rcases cls_cases c with h | h | h | h | h | h | h
  all_goals
    have hB := Lib.hid (show letterB c = _ from by unfold letterB; rw [h])
    have HK := Lib.hid h; clear h
    go_enter Tryd.func13, Tryd.ntmps13
    go_wp2_with (go_at_call 8; refine (rclass_at c _ h0 h1 HK.out w).mono ?_; rintro e w' ⟨rfl, rfl⟩)
    go_ret
    exact ⟨ret_bool hB.out.symm, rfl⟩

theorem cls_two : ∀ n : Fin 256, cls (n.val : Int) = 2 → 65 ≤ n.val ∧ n.val ≤ 90 := by decide +kernel
theorem cls_one : ∀ n : Fin 256, cls (n.val : Int) = 1 → 97 ≤ n.val ∧ n.val ≤ 122 := by decide +kernel
theorem two_range (c : Int) (h0 : 0 ≤ c) (h1 : c < 256) (h : cls c = 2) : 65 ≤ c ∧ c ≤ 90 := by
  obtain ⟨n, rfl⟩ := Int.eq_ofNat_of_zero_le h0
  have := cls_two ⟨n, by omega⟩ h
  simp only [] at this; omega
theorem one_range (c : Int) (h0 : 0 ≤ c) (h1 : c < 256) (h : cls c = 1) : 97 ≤ c ∧ c ≤ 122 := by
  obtain ⟨n, rfl⟩ := Int.eq_ofNat_of_zero_le h0
  have := cls_one ⟨n, by omega⟩ h
  simp only [] at this; omega

set_option maxHeartbeats 1000000 in
/-- stylusref01.Lower -/
theorem rlower_any (c : Int) (h0 : 0 ≤ c) (h1 : c < 256) (w : World) :
    Calls Tryd.prog 15 #[.int .u8 c] w fun e w' => e = .returned (.int .u8 (lowerI c)) ∧ w = w' := by
  by_cases h : cls c = 2
  · obtain ⟨b1, b2⟩ := two_range c h0 h1 h
    have hB := Lib.hid (show c - 65 + 97 = lowerI c from by unfold lowerI; rw [if_pos h]; omega)
    have HK := Lib.hid h; clear h
    go_enter Tryd.func15, Tryd.ntmps15
    go_wp2_with (go_at_call 8; refine (rclass_at c _ h0 h1 HK.out w).mono ?_; rintro e w' ⟨rfl, rfl⟩)
    go_ret
    exact ⟨ret_int hB.out, rfl⟩
  · have hB := Lib.hid (show lowerI c = c from by unfold lowerI; rw [if_neg h])
    have hd : (cls c == 2) = false := by simpa using h
    clear h
    go_enter Tryd.func15, Tryd.ntmps15
    go_wp2_with (go_at_call 8; refine (rclass_any c h0 h1 w).mono ?_; rintro e w' ⟨rfl, rfl⟩)
    go_ret
    exact ⟨ret_int hB.out.symm, rfl⟩
set_option maxHeartbeats 1000000 in
/-- stylusref01.Upper -/
theorem rupper_any (c : Int) (h0 : 0 ≤ c) (h1 : c < 256) (w : World) :
    Calls Tryd.prog 17 #[.int .u8 c] w fun e w' => e = .returned (.int .u8 (upperI c)) ∧ w = w' := by
  by_cases h : cls c = 1
  · obtain ⟨b1, b2⟩ := one_range c h0 h1 h
    have hB := Lib.hid (show c - 97 + 65 = upperI c from by unfold upperI; rw [if_pos h]; omega)
    have HK := Lib.hid h; clear h
    go_enter Tryd.func17, Tryd.ntmps17
    go_wp2_with (go_at_call 8; refine (rclass_at c _ h0 h1 HK.out w).mono ?_; rintro e w' ⟨rfl, rfl⟩)
    go_ret
    exact ⟨ret_int hB.out, rfl⟩
  · have hB := Lib.hid (show upperI c = c from by unfold upperI; rw [if_neg h])
    have hd : (cls c == 1) = false := by simpa using h
    clear h
    go_enter Tryd.func17, Tryd.ntmps17
    go_wp2_with (go_at_call 8; refine (rclass_any c h0 h1 w).mono ?_; rintro e w' ⟨rfl, rfl⟩)
    go_ret
    exact ⟨ret_int hB.out.symm, rfl⟩
end Go.Proofs.YtplibmipbhadmaaDoor
