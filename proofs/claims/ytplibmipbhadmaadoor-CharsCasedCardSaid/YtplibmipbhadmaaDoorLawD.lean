/-
  styluslaw01.CharsCased answers true for any text.
-/
import Derived.Test.YtplibmipbhadmaaDoorChG
import Derived.Test.YtplibmipbhadmaaDoorChL
import Derived.Deep.QuietTactic
import Derived.BigQuiet
namespace Go.Proofs.YtplibmipbhadmaaDoor
open Go.RowKit Go.Shelf

theorem low_cls : ∀ n : Fin 256, cls (lowerI (n.val : Int)) = if cls (n.val : Int) = 2 then 1 else cls (n.val : Int) := by decide +kernel
theorem cls_low (c : Int) (h0 : 0 ≤ c) (h1 : c < 256) : cls (lowerI c) = if cls c = 2 then 1 else cls c := by
  obtain ⟨n, rfl⟩ := Int.eq_ofNat_of_zero_le h0
  exact low_cls ⟨n, by omega⟩
theorem low_low : ∀ n : Fin 256, lowerI (lowerI (n.val : Int)) = lowerI (n.val : Int) := by decide +kernel
theorem lowerI_twice (c : Int) (h0 : 0 ≤ c) (h1 : c < 256) : lowerI (lowerI c) = lowerI c := by
  obtain ⟨n, rfl⟩ := Int.eq_ofNat_of_zero_le h0
  exact low_low ⟨n, by omega⟩
theorem bAt_low (s : ByteArray) (j : Nat) (hj : j < s.size) : bAt (lowS s) j = lowerI (bAt s j) := by
  have hj' : j < (lowL s).length := by rw [lowL_length]; exact hj
  rw [← lowL_get s j hj']
  unfold bAt
  show (((lowL s).toArray.toList.getD j 0).toNat : Int) = _
  rw [List.getD_eq_getElem?_getD]
  simp [List.getElem?_eq_getElem hj']
theorem kc_low (s : ByteArray) (j : Nat) (hj : j < s.size) : kc (lowS s) j = if kc s j = 2 then 1 else kc s j := by
  unfold kc
  rw [bAt_low s j hj]
  exact cls_low _ (bAt_lt s j).1 (bAt_lt s j).2
theorem byte_ext (s t : ByteArray) (h : s.size = t.size) (hb : ∀ j, j < s.size → bAt s j = bAt t j) : s = t := by
  have e : s.data.toList = t.data.toList := by
    apply List.ext_getElem
    · simpa using h
    · intro i h1 h2
      have hi : i < s.size := by simpa using h1
      have := hb i hi
      unfold bAt at this
      rw [List.getD_eq_getElem?_getD, List.getD_eq_getElem?_getD, List.getElem?_eq_getElem h1, List.getElem?_eq_getElem h2] at this
      simp only [Option.getD_some] at this
      exact UInt8.toNat_inj.1 (by omega)
  cases s; cases t
  exact congrArg _ (Array.toList_inj.1 e)
theorem lowS_twice (s : ByteArray) : lowS (lowS s) = lowS s := by
  apply byte_ext
  · rw [lowS_size]
  · intro j hj
    rw [lowS_size, lowS_size] at hj
    rw [bAt_low _ j (by rw [lowS_size]; exact hj), bAt_low s j hj]
    exact lowerI_twice _ (bAt_lt s j).1 (bAt_lt s j).2
theorem allL_low (s : ByteArray) : allL (lowS s) s.size ↔ allL s s.size := by
  constructor
  · intro h j hj
    have := h j hj
    rw [kc_low s j hj] at this
    by_cases e : kc s j = 2
    · exact .inr e
    · rw [if_neg e] at this; exact this
  · intro h j hj
    rw [kc_low s j hj]
    rcases h j hj with e | e
    · rw [if_neg (by omega)]; exact .inl e
    · rw [if_pos e]; exact .inl rfl
theorem up_low (s : ByteArray) : ∀ n, n ≤ s.size → up (lowS s) n = 0
  | 0, _ => rfl
  | n + 1, hn => by
    unfold up
    rw [up_low s n (by omega), kc_low s n (by omega)]
    by_cases e : kc s n = 2
    · rw [if_pos e, if_neg (by omega)]
    · rw [if_neg e, if_neg e]
theorem caseV_ne (s : ByteArray) (k : Nat) (h : s.size ≠ 0) : caseV s k ≠ 0 := by
  unfold caseV; rw [if_neg h]; repeat' split
  all_goals omega
theorem case_low_zero (s : ByteArray) (h : caseI s = 0) : caseI (lowS s) = 0 := by
  by_cases h0 : s.size = 0
  · unfold caseI; rw [if_pos (by rw [lowS_size]; exact h0)]
  · by_cases ha : allL s s.size
    · rw [caseI_yes s ha] at h; exact absurd h (caseV_ne s _ h0)
    · exact caseI_no _ (fun hb => ha ((allL_low s).1 (by rw [lowS_size] at hb; exact hb)))
theorem case_low_one (s : ByteArray) (h : caseI s ≠ 0) : caseI (lowS s) = 1 := by
  have h0 : s.size ≠ 0 := fun e => h (by unfold caseI; rw [if_pos e])
  have ha : allL s s.size := Classical.byContradiction fun hb => h (caseI_no s hb)
  rw [caseI_yes _ (by rw [lowS_size]; exact (allL_low s).2 ha)]
  unfold caseV
  rw [lowS_size, if_neg h0, if_pos (up_low s s.size (Nat.le_refl _))]

theorem up_back : ∀ n : Fin 256, 65 ≤ n.val → n.val ≤ 90 → upperI ((n.val : Int) + 32) = (n.val : Int) := by decide +kernel
theorem upper_back (c : Int) (h0 : 65 ≤ c) (h1 : c ≤ 90) : upperI (c + 32) = c := by
  obtain ⟨n, rfl⟩ := Int.eq_ofNat_of_zero_le (show 0 ≤ c by omega)
  exact up_back ⟨n, by omega⟩ (by show 65 ≤ n; omega) (by show n ≤ 90; omega)
theorem Laid.drewN {w : World} (h : Laid w) (n : Nat) : Laid (w.drewN n) := h
section
variable {W : World} {n : Nat}
theorem q_class (c v : Int) (hv : cls c = v) (h0 : 0 ≤ c) (h1 : c < 256) (hL : Laid W) :
    Calls Tryd.prog 7 #[.int .u8 c] (W.drewN n) fun e w' => e = .returned (.int .i64 v) ∧ ∃ m, w' = W.drewN m := hv ▸ (class_any c h0 h1 _ (hL.drewN n)).mono fun _ _ ⟨he, hm⟩ => ⟨he, n, hm.symm⟩
theorem q_is (c : Int) (v : Bool) (hv : isB c = v) (h0 : 0 ≤ c) (h1 : c < 256) (hL : Laid W) :
    Calls Tryd.prog 9 #[.int .u8 c] (W.drewN n) fun e w' => e = .returned (.bool v) ∧ ∃ m, w' = W.drewN m := hv ▸ (is_any c h0 h1 _ (hL.drewN n)).mono fun _ _ ⟨he, hm⟩ => ⟨he, n, hm.symm⟩
theorem q_letter (c : Int) (v : Bool) (hv : letterB c = v) (h0 : 0 ≤ c) (h1 : c < 256) (hL : Laid W) :
    Calls Tryd.prog 12 #[.int .u8 c] (W.drewN n) fun e w' => e = .returned (.bool v) ∧ ∃ m, w' = W.drewN m := hv ▸ (letter_any c h0 h1 _ (hL.drewN n)).mono fun _ _ ⟨he, hm⟩ => ⟨he, n, hm.symm⟩
theorem q_lower (c v : Int) (hv : lowerI c = v) (h0 : 0 ≤ c) (h1 : c < 256) (hL : Laid W) :
    Calls Tryd.prog 14 #[.int .u8 c] (W.drewN n) fun e w' => e = .returned (.int .u8 v) ∧ ∃ m, w' = W.drewN m := hv ▸ (lower_any c h0 h1 _ (hL.drewN n)).mono fun _ _ ⟨he, hm⟩ => ⟨he, n, hm.symm⟩
theorem q_upper (c v : Int) (hv : upperI c = v) (h0 : 0 ≤ c) (h1 : c < 256) (hL : Laid W) :
    Calls Tryd.prog 16 #[.int .u8 c] (W.drewN n) fun e w' => e = .returned (.int .u8 v) ∧ ∃ m, w' = W.drewN m := hv ▸ (upper_any c h0 h1 _ (hL.drewN n)).mono fun _ _ ⟨he, hm⟩ => ⟨he, n, hm.symm⟩
end

set_option maxRecDepth 100000 in
set_option maxHeartbeats 4000000 in
theorem charsCased_long (s : ByteArray) (hs : 2000 < s.size) (hm : s.size ≤ maxLen) (w : World) (hL : Laid w) :
    Calls Tryd.prog 6 #[.string s] w fun e w' => e = .returned (.bool true) ∧ Below w.heap.size w w' := by
  unfold maxLen at hm
  go_enter Tryd.func6, Tryd.ntmps6
  go_wp2_with (go_at_call 20; refine (awake_any _ hL).mono ?_; rintro e w' ⟨rfl, hb⟩)
  go_ret
  exact ⟨rfl, hb⟩

theorem low_back : ∀ n : Fin 256, 97 ≤ n.val → n.val ≤ 122 → lowerI ((n.val : Int) - 32) = (n.val : Int) := by decide +kernel
theorem lower_back (c : Int) (h0 : 97 ≤ c) (h1 : c ≤ 122) : lowerI (c - 32) = c := by
  obtain ⟨n, rfl⟩ := Int.eq_ofNat_of_zero_le (show 0 ≤ c by omega)
  exact low_back ⟨n, by omega⟩ (by show 97 ≤ n; omega) (by show n ≤ 122; omega)

set_option maxRecDepth 100000 in
set_option maxHeartbeats 16000000 in
theorem charsCased_zero (s : ByteArray) (hs : s.size ≤ 2000) (hz : caseI s = 0) (w : World) (hL : Laid w) :
    Calls Tryd.prog 6 #[.string s] w fun e w' => e = .returned (.bool true) ∧ Below w.heap.size w w' := by
  have HZ := Lib.hid hz
  have HZ2 := Lib.hid (case_low_zero s hz)
  have HT := lowS_twice s
  have hls := lowS_size s
  clear hz
  go_enter Tryd.func6, Tryd.ntmps6
  go_wp2_with fail
  refine (low_any s hs w hL).mono ?_
  rintro e w1 ⟨rfl, hb1⟩
  have hL1 := hL.below hb1 hL.1
  go_wp2_with fail
  refine (low_any (lowS s) (by rw [lowS_size]; exact hs) w1 hL1).mono ?_
  rintro e w2 ⟨rfl, hb2⟩
  have hL2 := hL1.below hb2 hL1.1
  have HB2 := hb1.trans (hb2.mono hb1.size)
  clear hL1 hb1 hb2
  go_wp2_with fail
  refine (case_at s 0 hs HZ.out w2 hL2).mono ?_
  rintro e w3 ⟨rfl, hb3⟩
  have hL3 := hL2.below hb3 hL2.1
  have HB3 := HB2.trans (hb3.mono HB2.size)
  clear hL2 HB2 hb3
  go_wp2_with fail
  refine (case_at (lowS s) 0 (by rw [lowS_size]; exact hs) HZ2.out w3 hL3).mono ?_
  rintro e w4 ⟨rfl, hb4⟩
  have hL4 := hL3.below hb4 hL3.1
  have HB4 := HB3.trans (hb4.mono HB3.size)
  clear hL3 HB3 hb4
  go_wp2_with fail
  refine (case_at s 0 hs HZ.out w4 hL4).mono ?_
  rintro e w5 ⟨rfl, hb5⟩
  have hL5 := hL4.below hb5 hL4.1
  have HB5 := HB4.trans (hb5.mono HB4.size)
  clear hL4 HB4 hb5 HT HZ HZ2
  go_wp2_with fail
  go_loopw [4] (fun i wr => ∃ k : Nat, k ≤ s.size ∧ i = .int .i64 k ∧ Laid wr ∧ Below w.heap.size w wr) (fun i _ => s.size - (intOf i).toNat)
  case atStart => exact ⟨0, by omega, rfl, hL5, HB5⟩
  case round =>
    obtain ⟨k, hk, rfl, hLr, hBr⟩ := hrel
    by_cases hlt : k < s.size
    · have hlt2 : k < (lowS s).size := by rw [lowS_size]; exact hlt
      have E1 := bAt_get s k hlt
      have E2 := (bAt_get (lowS s) k hlt2).trans (bAt_low s k hlt)
      have hc := bAt_lt s k
      obtain ⟨c, hcc⟩ : ∃ c, bAt s k = c := ⟨_, rfl⟩
      rw [hcc] at E1 E2 hc
      clear hcc
      obtain ⟨c0, c1⟩ := hc
      by_cases k1 : cls c = 1
      · obtain ⟨r0, r1⟩ := one_range c c0 c1 k1
        have F1 : lowerI c = c := by unfold lowerI; rw [if_neg (by omega)]
        rw [F1] at E2
        have L1 := Lib.hid F1; clear F1
        have L2 := Lib.hid (show upperI c = c - 32 by unfold upperI; rw [if_pos k1])
        have L3 := Lib.hid (lower_back c r0 r1)
        have L4 := Lib.hid (show letterB c = true by unfold letterB; simp [k1])
        have L5 := Lib.hid (show isB c = true by unfold isB; simp [k1])
        have L6 := Lib.hid k1; clear k1
        have F6 : (c - 32 == c) = false := by simp; omega
        go_wp2
        go_big_quiet ((first
          | (go_at_call 14; first | with_reducible exact q_lower c c L1.out (by omega) (by omega) hLr | with_reducible exact q_lower (c - 32) c L3.out (by omega) (by omega) hLr)
          | (go_at_call 16; first | with_reducible exact q_upper c (c - 32) L2.out (by omega) (by omega) hLr)
          | (go_at_call 12; with_reducible exact q_letter c true L4.out (by omega) (by omega) hLr)
          | (go_at_call 9; with_reducible exact q_is c true L5.out (by omega) (by omega) hLr)
          | (go_at_call 7; with_reducible exact q_class c 1 L6.out (by omega) (by omega) hLr)))
        go_wp2
        go_roundw
        case rel => exact ⟨k + 1, by omega, by go_num, hLr.drewN nq, below_drewN hBr nq⟩
        case measure => simp [intOf]; omega
      by_cases k2 : cls c = 2
      · obtain ⟨r0, r1⟩ := two_range c c0 c1 k2
        have F1 : lowerI c = c + 32 := by unfold lowerI; rw [if_pos k2]
        rw [F1] at E2
        have L1 := Lib.hid F1; clear F1
        have L2 := Lib.hid (show upperI c = c by unfold upperI; rw [if_neg k1])
        have L3 := Lib.hid (upper_back c r0 r1)
        have L4 := Lib.hid (show letterB c = true by unfold letterB; simp [k2])
        have L5 := Lib.hid (show isB c = true by unfold isB; simp [k2])
        have L6 := Lib.hid k2; clear k1 k2
        have F6 : (c == c + 32) = false := by simp; omega
        go_wp2
        go_big_quiet ((first
          | (go_at_call 14; first | with_reducible exact q_lower c (c + 32) L1.out (by omega) (by omega) hLr)
          | (go_at_call 16; first | with_reducible exact q_upper c c L2.out (by omega) (by omega) hLr | with_reducible exact q_upper (c + 32) c L3.out (by omega) (by omega) hLr)
          | (go_at_call 12; with_reducible exact q_letter c true L4.out (by omega) (by omega) hLr)
          | (go_at_call 9; with_reducible exact q_is c true L5.out (by omega) (by omega) hLr)
          | (go_at_call 7; with_reducible exact q_class c 2 L6.out (by omega) (by omega) hLr)))
        go_wp2
        go_roundw
        case rel => exact ⟨k + 1, by omega, by go_num, hLr.drewN nq, below_drewN hBr nq⟩
        case measure => simp [intOf]; omega
      have F1 : lowerI c = c := by unfold lowerI; rw [if_neg k2]
      rw [F1] at E2
      have L1 := Lib.hid F1; clear F1
      have L2 := Lib.hid (show upperI c = c by unfold upperI; rw [if_neg k1])
      have L4 := Lib.hid (show letterB c = false by unfold letterB; simp [k1, k2])
      have hk5 := cls_cases c
      have hk6 : cls c = 0 ∨ cls c = 3 ∨ cls c = 4 ∨ cls c = 5 ∨ cls c = 6 := by omega
      clear hk5 k1 k2
      rcases hk6 with e | e | e | e | e
      · have L5 := Lib.hid (show isB c = false by unfold isB; simp [e])
        have L6 := Lib.hid e; clear e
        go_wp2
        go_big_quiet ((first
          | (go_at_call 14; first | with_reducible exact q_lower c c L1.out (by omega) (by omega) hLr)
          | (go_at_call 16; first | with_reducible exact q_upper c c L2.out (by omega) (by omega) hLr)
          | (go_at_call 12; with_reducible exact q_letter c false L4.out (by omega) (by omega) hLr)
          | (go_at_call 9; with_reducible exact q_is c false L5.out (by omega) (by omega) hLr)
          | (go_at_call 7; with_reducible exact q_class c 0 L6.out (by omega) (by omega) hLr)))
        go_wp2
        go_roundw
        case rel => exact ⟨k + 1, by omega, by go_num, hLr.drewN nq, below_drewN hBr nq⟩
        case measure => simp [intOf]; omega
      · have L5 := Lib.hid (show isB c = true by unfold isB; simp [e])
        have L6 := Lib.hid e; clear e
        go_wp2
        go_big_quiet ((first
          | (go_at_call 14; first | with_reducible exact q_lower c c L1.out (by omega) (by omega) hLr)
          | (go_at_call 16; first | with_reducible exact q_upper c c L2.out (by omega) (by omega) hLr)
          | (go_at_call 12; with_reducible exact q_letter c false L4.out (by omega) (by omega) hLr)
          | (go_at_call 9; with_reducible exact q_is c true L5.out (by omega) (by omega) hLr)
          | (go_at_call 7; with_reducible exact q_class c 3 L6.out (by omega) (by omega) hLr)))
        go_wp2
        go_roundw
        case rel => exact ⟨k + 1, by omega, by go_num, hLr.drewN nq, below_drewN hBr nq⟩
        case measure => simp [intOf]; omega
      · have L5 := Lib.hid (show isB c = true by unfold isB; simp [e])
        have L6 := Lib.hid e; clear e
        go_wp2
        go_big_quiet ((first
          | (go_at_call 14; first | with_reducible exact q_lower c c L1.out (by omega) (by omega) hLr)
          | (go_at_call 16; first | with_reducible exact q_upper c c L2.out (by omega) (by omega) hLr)
          | (go_at_call 12; with_reducible exact q_letter c false L4.out (by omega) (by omega) hLr)
          | (go_at_call 9; with_reducible exact q_is c true L5.out (by omega) (by omega) hLr)
          | (go_at_call 7; with_reducible exact q_class c 4 L6.out (by omega) (by omega) hLr)))
        go_wp2
        go_roundw
        case rel => exact ⟨k + 1, by omega, by go_num, hLr.drewN nq, below_drewN hBr nq⟩
        case measure => simp [intOf]; omega
      · have L5 := Lib.hid (show isB c = true by unfold isB; simp [e])
        have L6 := Lib.hid e; clear e
        go_wp2
        go_big_quiet ((first
          | (go_at_call 14; first | with_reducible exact q_lower c c L1.out (by omega) (by omega) hLr)
          | (go_at_call 16; first | with_reducible exact q_upper c c L2.out (by omega) (by omega) hLr)
          | (go_at_call 12; with_reducible exact q_letter c false L4.out (by omega) (by omega) hLr)
          | (go_at_call 9; with_reducible exact q_is c true L5.out (by omega) (by omega) hLr)
          | (go_at_call 7; with_reducible exact q_class c 5 L6.out (by omega) (by omega) hLr)))
        go_wp2
        go_roundw
        case rel => exact ⟨k + 1, by omega, by go_num, hLr.drewN nq, below_drewN hBr nq⟩
        case measure => simp [intOf]; omega
      · have L5 := Lib.hid (show isB c = false by unfold isB; simp [e])
        have L6 := Lib.hid e; clear e
        go_wp2
        go_big_quiet ((first
          | (go_at_call 14; first | with_reducible exact q_lower c c L1.out (by omega) (by omega) hLr)
          | (go_at_call 16; first | with_reducible exact q_upper c c L2.out (by omega) (by omega) hLr)
          | (go_at_call 12; with_reducible exact q_letter c false L4.out (by omega) (by omega) hLr)
          | (go_at_call 9; with_reducible exact q_is c false L5.out (by omega) (by omega) hLr)
          | (go_at_call 7; with_reducible exact q_class c 6 L6.out (by omega) (by omega) hLr)))
        go_wp2
        go_roundw
        case rel => exact ⟨k + 1, by omega, by go_num, hLr.drewN nq, below_drewN hBr nq⟩
        case measure => simp [intOf]; omega
    · go_wp2_with (go_at_call 20; refine (awake_any _ hLr).mono ?_; rintro e w' ⟨rfl, hb⟩)
      go_ret
      exact ⟨rfl, hBr.trans (hb.mono hBr.size)⟩

set_option maxRecDepth 100000 in
set_option maxHeartbeats 16000000 in
theorem charsCased_not (s : ByteArray) (hs : s.size ≤ 2000) (hz : ¬ caseI s = 0) (w : World) (hL : Laid w) :
    Calls Tryd.prog 6 #[.string s] w fun e w' => e = .returned (.bool true) ∧ Below w.heap.size w w' := by
  have HZ2 := Lib.hid (case_low_one s hz)
  have b0 : (caseI s == 0) = false := by simpa using hz
  have b1 : (caseI s != 0) = true := by simpa using hz
  have HT := lowS_twice s
  have hls := lowS_size s
  clear hz
  go_enter Tryd.func6, Tryd.ntmps6
  go_wp2_with fail
  refine (low_any s hs w hL).mono ?_
  rintro e w1 ⟨rfl, hb1⟩
  have hL1 := hL.below hb1 hL.1
  go_wp2_with fail
  refine (low_any (lowS s) (by rw [lowS_size]; exact hs) w1 hL1).mono ?_
  rintro e w2 ⟨rfl, hb2⟩
  have hL2 := hL1.below hb2 hL1.1
  have HB2 := hb1.trans (hb2.mono hb1.size)
  clear hL1 hb1 hb2
  go_wp2_with fail
  refine (case_any s hs w2 hL2).mono ?_
  rintro e w3 ⟨rfl, hb3⟩
  have hL3 := hL2.below hb3 hL2.1
  have HB3 := HB2.trans (hb3.mono HB2.size)
  clear hL2 HB2 hb3
  go_wp2_with fail
  refine (case_at (lowS s) 1 (by rw [lowS_size]; exact hs) HZ2.out w3 hL3).mono ?_
  rintro e w4 ⟨rfl, hb4⟩
  have hL4 := hL3.below hb4 hL3.1
  have HB4 := HB3.trans (hb4.mono HB3.size)
  clear hL3 HB3 hb4
  go_wp2_with fail
  refine (case_any s hs w4 hL4).mono ?_
  rintro e w5' ⟨rfl, hb5⟩
  have hL5' := hL4.below hb5 hL4.1
  have HB5' := HB4.trans (hb5.mono HB4.size)
  clear hL4 HB4 hb5
  go_wp2_with fail
  refine (case_at (lowS s) 1 (by rw [lowS_size]; exact hs) HZ2.out w5' hL5').mono ?_
  rintro e w5 ⟨rfl, hb6⟩
  have hL5 := hL5'.below hb6 hL5'.1
  have HB5 := HB5'.trans (hb6.mono HB5'.size)
  clear hL5' HB5' hb6 HT HZ2 b0 b1
  go_wp2_with fail
  go_loopw [4] (fun i wr => ∃ k : Nat, k ≤ s.size ∧ i = .int .i64 k ∧ Laid wr ∧ Below w.heap.size w wr) (fun i _ => s.size - (intOf i).toNat)
  case atStart => exact ⟨0, by omega, rfl, hL5, HB5⟩
  case round =>
    obtain ⟨k, hk, rfl, hLr, hBr⟩ := hrel
    by_cases hlt : k < s.size
    · have hlt2 : k < (lowS s).size := by rw [lowS_size]; exact hlt
      have E1 := bAt_get s k hlt
      have E2 := (bAt_get (lowS s) k hlt2).trans (bAt_low s k hlt)
      have hc := bAt_lt s k
      obtain ⟨c, hcc⟩ : ∃ c, bAt s k = c := ⟨_, rfl⟩
      rw [hcc] at E1 E2 hc
      clear hcc
      obtain ⟨c0, c1⟩ := hc
      by_cases k1 : cls c = 1
      · obtain ⟨r0, r1⟩ := one_range c c0 c1 k1
        have F1 : lowerI c = c := by unfold lowerI; rw [if_neg (by omega)]
        rw [F1] at E2
        have L1 := Lib.hid F1; clear F1
        have L2 := Lib.hid (show upperI c = c - 32 by unfold upperI; rw [if_pos k1])
        have L3 := Lib.hid (lower_back c r0 r1)
        have L4 := Lib.hid (show letterB c = true by unfold letterB; simp [k1])
        have L5 := Lib.hid (show isB c = true by unfold isB; simp [k1])
        have L6 := Lib.hid k1; clear k1
        have F6 : (c - 32 == c) = false := by simp; omega
        go_wp2
        go_big_quiet ((first
          | (go_at_call 14; first | with_reducible exact q_lower c c L1.out (by omega) (by omega) hLr | with_reducible exact q_lower (c - 32) c L3.out (by omega) (by omega) hLr)
          | (go_at_call 16; first | with_reducible exact q_upper c (c - 32) L2.out (by omega) (by omega) hLr)
          | (go_at_call 12; with_reducible exact q_letter c true L4.out (by omega) (by omega) hLr)
          | (go_at_call 9; with_reducible exact q_is c true L5.out (by omega) (by omega) hLr)
          | (go_at_call 7; with_reducible exact q_class c 1 L6.out (by omega) (by omega) hLr)))
        go_wp2
        go_roundw
        case rel => exact ⟨k + 1, by omega, by go_num, hLr.drewN nq, below_drewN hBr nq⟩
        case measure => simp [intOf]; omega
      by_cases k2 : cls c = 2
      · obtain ⟨r0, r1⟩ := two_range c c0 c1 k2
        have F1 : lowerI c = c + 32 := by unfold lowerI; rw [if_pos k2]
        rw [F1] at E2
        have L1 := Lib.hid F1; clear F1
        have L2 := Lib.hid (show upperI c = c by unfold upperI; rw [if_neg k1])
        have L3 := Lib.hid (upper_back c r0 r1)
        have L4 := Lib.hid (show letterB c = true by unfold letterB; simp [k2])
        have L5 := Lib.hid (show isB c = true by unfold isB; simp [k2])
        have L6 := Lib.hid k2; clear k1 k2
        have F6 : (c == c + 32) = false := by simp; omega
        go_wp2
        go_big_quiet ((first
          | (go_at_call 14; first | with_reducible exact q_lower c (c + 32) L1.out (by omega) (by omega) hLr)
          | (go_at_call 16; first | with_reducible exact q_upper c c L2.out (by omega) (by omega) hLr | with_reducible exact q_upper (c + 32) c L3.out (by omega) (by omega) hLr)
          | (go_at_call 12; with_reducible exact q_letter c true L4.out (by omega) (by omega) hLr)
          | (go_at_call 9; with_reducible exact q_is c true L5.out (by omega) (by omega) hLr)
          | (go_at_call 7; with_reducible exact q_class c 2 L6.out (by omega) (by omega) hLr)))
        go_wp2
        go_roundw
        case rel => exact ⟨k + 1, by omega, by go_num, hLr.drewN nq, below_drewN hBr nq⟩
        case measure => simp [intOf]; omega
      have F1 : lowerI c = c := by unfold lowerI; rw [if_neg k2]
      rw [F1] at E2
      have L1 := Lib.hid F1; clear F1
      have L2 := Lib.hid (show upperI c = c by unfold upperI; rw [if_neg k1])
      have L4 := Lib.hid (show letterB c = false by unfold letterB; simp [k1, k2])
      have hk5 := cls_cases c
      have hk6 : cls c = 0 ∨ cls c = 3 ∨ cls c = 4 ∨ cls c = 5 ∨ cls c = 6 := by omega
      clear hk5 k1 k2
      rcases hk6 with e | e | e | e | e
      · have L5 := Lib.hid (show isB c = false by unfold isB; simp [e])
        have L6 := Lib.hid e; clear e
        go_wp2
        go_big_quiet ((first
          | (go_at_call 14; first | with_reducible exact q_lower c c L1.out (by omega) (by omega) hLr)
          | (go_at_call 16; first | with_reducible exact q_upper c c L2.out (by omega) (by omega) hLr)
          | (go_at_call 12; with_reducible exact q_letter c false L4.out (by omega) (by omega) hLr)
          | (go_at_call 9; with_reducible exact q_is c false L5.out (by omega) (by omega) hLr)
          | (go_at_call 7; with_reducible exact q_class c 0 L6.out (by omega) (by omega) hLr)))
        go_wp2
        go_roundw
        case rel => exact ⟨k + 1, by omega, by go_num, hLr.drewN nq, below_drewN hBr nq⟩
        case measure => simp [intOf]; omega
      · have L5 := Lib.hid (show isB c = true by unfold isB; simp [e])
        have L6 := Lib.hid e; clear e
        go_wp2
        go_big_quiet ((first
          | (go_at_call 14; first | with_reducible exact q_lower c c L1.out (by omega) (by omega) hLr)
          | (go_at_call 16; first | with_reducible exact q_upper c c L2.out (by omega) (by omega) hLr)
          | (go_at_call 12; with_reducible exact q_letter c false L4.out (by omega) (by omega) hLr)
          | (go_at_call 9; with_reducible exact q_is c true L5.out (by omega) (by omega) hLr)
          | (go_at_call 7; with_reducible exact q_class c 3 L6.out (by omega) (by omega) hLr)))
        go_wp2
        go_roundw
        case rel => exact ⟨k + 1, by omega, by go_num, hLr.drewN nq, below_drewN hBr nq⟩
        case measure => simp [intOf]; omega
      · have L5 := Lib.hid (show isB c = true by unfold isB; simp [e])
        have L6 := Lib.hid e; clear e
        go_wp2
        go_big_quiet ((first
          | (go_at_call 14; first | with_reducible exact q_lower c c L1.out (by omega) (by omega) hLr)
          | (go_at_call 16; first | with_reducible exact q_upper c c L2.out (by omega) (by omega) hLr)
          | (go_at_call 12; with_reducible exact q_letter c false L4.out (by omega) (by omega) hLr)
          | (go_at_call 9; with_reducible exact q_is c true L5.out (by omega) (by omega) hLr)
          | (go_at_call 7; with_reducible exact q_class c 4 L6.out (by omega) (by omega) hLr)))
        go_wp2
        go_roundw
        case rel => exact ⟨k + 1, by omega, by go_num, hLr.drewN nq, below_drewN hBr nq⟩
        case measure => simp [intOf]; omega
      · have L5 := Lib.hid (show isB c = true by unfold isB; simp [e])
        have L6 := Lib.hid e; clear e
        go_wp2
        go_big_quiet ((first
          | (go_at_call 14; first | with_reducible exact q_lower c c L1.out (by omega) (by omega) hLr)
          | (go_at_call 16; first | with_reducible exact q_upper c c L2.out (by omega) (by omega) hLr)
          | (go_at_call 12; with_reducible exact q_letter c false L4.out (by omega) (by omega) hLr)
          | (go_at_call 9; with_reducible exact q_is c true L5.out (by omega) (by omega) hLr)
          | (go_at_call 7; with_reducible exact q_class c 5 L6.out (by omega) (by omega) hLr)))
        go_wp2
        go_roundw
        case rel => exact ⟨k + 1, by omega, by go_num, hLr.drewN nq, below_drewN hBr nq⟩
        case measure => simp [intOf]; omega
      · have L5 := Lib.hid (show isB c = false by unfold isB; simp [e])
        have L6 := Lib.hid e; clear e
        go_wp2
        go_big_quiet ((first
          | (go_at_call 14; first | with_reducible exact q_lower c c L1.out (by omega) (by omega) hLr)
          | (go_at_call 16; first | with_reducible exact q_upper c c L2.out (by omega) (by omega) hLr)
          | (go_at_call 12; with_reducible exact q_letter c false L4.out (by omega) (by omega) hLr)
          | (go_at_call 9; with_reducible exact q_is c false L5.out (by omega) (by omega) hLr)
          | (go_at_call 7; with_reducible exact q_class c 6 L6.out (by omega) (by omega) hLr)))
        go_wp2
        go_roundw
        case rel => exact ⟨k + 1, by omega, by go_num, hLr.drewN nq, below_drewN hBr nq⟩
        case measure => simp [intOf]; omega
    · go_wp2_with (go_at_call 20; refine (awake_any _ hLr).mono ?_; rintro e w' ⟨rfl, hb⟩)
      go_ret
      exact ⟨rfl, hBr.trans (hb.mono hBr.size)⟩

set_option maxRecDepth 100000 in
set_option maxHeartbeats 4000000 in
theorem charsCased_short (s : ByteArray) (hs : s.size ≤ 2000) (w : World) (hL : Laid w) :
    Calls Tryd.prog 6 #[.string s] w fun e w' => e = .returned (.bool true) ∧ Below w.heap.size w w' := by
  by_cases hz : caseI s = 0
  · exact charsCased_zero s hs hz w hL
  · exact charsCased_not s hs hz w hL

theorem charsCased_any (s : ByteArray) (hm : s.size ≤ maxLen) (w : World) (hL : Laid w) :
    Calls Tryd.prog 6 #[.string s] w fun e w' => e = .returned (.bool true) ∧ Below w.heap.size w w' := by
  by_cases hs : s.size ≤ 2000
  · exact charsCased_short s hs w hL
  · exact charsCased_long s (by omega) hm w hL
end Go.Proofs.YtplibmipbhadmaaDoor
