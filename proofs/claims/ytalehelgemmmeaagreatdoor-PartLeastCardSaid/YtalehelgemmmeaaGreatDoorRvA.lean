/-
  The landed package rules: which Whats are of letters, texts of one byte, the signs' names, whether a rule may be.
-/
import Derived.Test.YtalehelgemmmeaaGreatDoorRuE
import Derived.Test.YtalehelgemmmeaaGreatDoorRuF
import Derived.Test.YtalehelgemmmeaaGreatDoorRuO
import Derived.Test.YtalehelgemmmeaaGreatDoorHcA
import Derived.Test.YtalehelgemmmeaaGreatDoorCeJ
import Derived.Lib.SlicesS
import Derived.BigQuiet
import Derived.Deep.RegionHeld3
namespace Go.Proofs.YtalehelgemmmeaaGreatDoor.Ru
open Go.RowKit Ba

/-! ### how a text is cased -/
theorem hc_laid {w : World} (h : LaidR w) : Hc.Laid w := h.ka
theorem hc_cls (n : Nat) : Hc.clsN n = Ka.clsN n := rfl
theorem hc_kc (s : ByteArray) (k : Nat) : Hc.kc s k = ((Ka.clsN (bAt s k) : Nat) : Int) := by
  have : Hc.bAt s k = ((bAt s k : Nat) : Int) := by
    unfold Hc.bAt bAt bytesN
    rw [List.getD_eq_getElem?_getD, List.getD_eq_getElem?_getD, List.getElem?_map]
    cases s.data.toList[k]? <;> rfl
  unfold Hc.kc Hc.cls
  rw [this, Int.toNat_natCast]
  rfl
theorem hc_up {s : ByteArray} : ∀ n, (∀ j, j < n → Hc.kc s j ≠ 2) → Hc.up s n = 0
  | 0, _ => rfl
  | n + 1, h => by
    unfold Hc.up
    rw [hc_up n (fun j hj => h j (by omega)), if_neg (h n (by omega))]
theorem hc_up_pos {s : ByteArray} {j : Nat} (h : Hc.kc s j = 2) : ∀ n, j < n → 0 < Hc.up s n
  | 0, hj => absurd hj (by omega)
  | n + 1, hj => by
    unfold Hc.up
    by_cases e : j = n
    · subst e; rw [if_pos h]; omega
    · have := hc_up_pos h n (by omega)
      omega
/-- Small letters alone, and one at least. -/
def smallB (s : List Nat) : Bool := decide (0 < s.length) && s.all fun b => Ka.clsN b == 1
theorem case_small (s : ByteArray) : decide (Hc.caseI s = 1) = smallB (bytesN s) := by
  unfold smallB
  by_cases h0 : s.size = 0
  · have : Hc.caseI s = 0 := by unfold Hc.caseI; rw [if_pos h0]
    rw [this, decide_eq_false (by decide), bytesN_len, decide_eq_false (by omega), Bool.false_and]
  rw [bytesN_len, decide_eq_true (show 0 < s.size by omega), Bool.true_and]
  have hall : (bytesN s).all (fun b => Ka.clsN b == 1) = true ↔ ∀ j, j < s.size → Hc.kc s j = 1 := by
    rw [List.all_eq_true]
    constructor
    · intro h j hj
      have hm : bAt s j ∈ bytesN s := by
        unfold bAt
        rw [List.getD_eq_getElem?_getD, List.getElem?_eq_getElem (by rw [bytesN_len]; exact hj), Option.getD_some]
        exact List.getElem_mem ..
      have := h _ hm
      rw [hc_kc, beq_iff_eq.1 this]; rfl
    · intro h b hb
      obtain ⟨j, hj, rfl⟩ := Ce.mem_bytes s hb
      have := h j hj
      rw [hc_kc] at this
      rw [beq_iff_eq]
      show Ka.clsN (bAt s j) = 1
      omega
  by_cases hs : ∀ j, j < s.size → Hc.kc s j = 1
  · rw [hall.2 hs, Hc.caseI_yes s (fun j hj => .inl (hs j hj))]
    unfold Hc.caseV
    rw [if_neg h0, if_pos (hc_up s.size (fun j hj e => by rw [hs j hj] at e; cases e))]
    rfl
  · have e : (bytesN s).all (fun b => Ka.clsN b == 1) = false := by
      rw [Bool.eq_false_iff]; exact fun k => hs (hall.1 k)
    rw [e, decide_eq_false]
    intro k
    by_cases hl : Hc.allL s s.size
    · rw [Hc.caseI_yes s hl] at k
      obtain ⟨j, hj, hk⟩ : ∃ j, j < s.size ∧ Hc.kc s j = 2 := by
        refine Classical.byContradiction fun hn => hs fun j hj => ?_
        rcases hl j hj with h | h
        · exact h
        · exact absurd ⟨j, hj, h⟩ hn
      have hp := hc_up_pos hk s.size hj
      unfold Hc.caseV at k
      rw [if_neg h0, if_neg (by omega)] at k
      split at k
      · cases k
      · split at k <;> cases k
    · rw [Hc.caseI_no s hl] at k; cases k

/-! ### Whats of letters, one byte -/
set_option maxHeartbeats 1000000 in
/-- rules.ofLetters -/
theorem ofLetters_at (z : Int) (b : Bool) (hb : decide (1 ≤ z ∧ z ≤ 5) = b) (w : World) :
    Calls Tryz.prog 75 #[.int .i64 z] w fun e w' => e = .returned (.bool b) ∧ w = w' := by
  by_cases h1 : 1 ≤ z
  · have u1 : decide ((1 : Int) ≤ z) = true := decide_eq_true h1
    have HB := Lib.hid (show decide (z ≤ 5) = b by rw [← hb]; by_cases h5 : z ≤ 5
                                                   · rw [decide_eq_true h5, decide_eq_true ⟨h1, h5⟩]
                                                   · rw [decide_eq_false h5, decide_eq_false (fun k => h5 k.2)])
    clear hb h1
    go_enter Tryz.func75, Tryz.ntmps75
    go_wp2
    go_ret
    exact ⟨ret_bool HB.out, rfl⟩
  · have u1 : decide ((1 : Int) ≤ z) = false := decide_eq_false h1
    obtain rfl : false = b := by rw [← hb, decide_eq_false (fun k => h1 k.1)]
    clear hb h1
    go_enter Tryz.func75, Tryz.ntmps75
    go_wp2
    go_ret
    exact ⟨rfl, rfl⟩
/-- One byte of a class. -/
def oneB (k : Nat) (s : List Nat) : Bool := match s with | [b] => Ka.clsN b == k | _ => false
set_option maxHeartbeats 1000000 in
/-- rules.isOne -/
theorem isOne_at (k : Nat) (s : ByteArray) (_hs : s.size ≤ maxLen) (b : Bool) (hb : oneB k (bytesN s) = b) (w : World) (hL : LaidR w) :
    Calls Tryz.prog 76 #[.string s, .int .i64 (k : Int)] w fun e w' => e = .returned (.bool b) ∧ w = w' := by
  unfold maxLen at _hs
  by_cases h1 : s.size = 1
  · have u1 : ((s.size : Int) == 1) = true := by rw [beq_iff_eq]; omega
    have hk : (0 : Nat) < s.size := by omega
    have hb2 : (((Ka.clsN (bAt s 0) : Nat) : Int) == (k : Int)) = b := by
      have e : bytesN s = [bAt s 0] := by
        have hl := bytesN_len s
        rw [h1] at hl
        match hm : bytesN s, hl with
        | [x], _ => unfold bAt; rw [hm]; rfl
      rw [e] at hb
      rw [← hb]
      show _ = (Ka.clsN (bAt s 0) == k)
      by_cases e2 : Ka.clsN (bAt s 0) = k
      · rw [e2]; simp
      · rw [beq_eq_false_iff_ne.2 e2, beq_eq_false_iff_ne.2 (by omega)]
    have HB := Lib.hid hb2
    have hg := bAt_get s 0 hk
    have HC := Lib.hid (show Ka.cls ((s[0].toNat : Nat) : Int) = ((Ka.clsN (bAt s 0) : Nat) : Int) by rw [hg]; rfl)
    have hlt := bAt_lt s 0
    have hl2 : s[0].toNat < 256 := by rw [hg]; exact hlt
    have HK := Lib.hid hL.ka
    clear hb hb2 hg hL
    go_enter Tryz.func76, Tryz.ntmps76
    go_wp2_with (go_at_call 22; refine (Ka.class_at _ _ (by omega) (by omega) HC.out _ HK.out).mono ?_; rintro e w' ⟨rfl, rfl⟩)
    go_ret
    exact ⟨ret_bool HB.out, rfl⟩
  · have u1 : ((s.size : Int) == 1) = false := beq_eq_false_iff_ne.2 (by omega)
    obtain rfl : false = b := by
      rw [← hb]
      have hl := bytesN_len s
      unfold oneB
      split
      · rename_i e; rw [e] at hl; exact absurd hl.symm h1
      · rfl
    clear hb h1 hL
    go_enter Tryz.func76, Tryz.ntmps76
    go_wp2
    go_ret
    exact ⟨rfl, rfl⟩

def namesS : ByteArray := { data := #[99, 97, 112, 32, 99, 97, 112, 115, 32, 110, 117, 109, 32, 108, 101, 116, 32, 101, 43, 32, 101, 45, 32, 115, 43, 32, 115, 45, 32, 110, 43, 32, 110, 45, 32, 98, 108, 107, 32, 99, 111, 110, 116, 32, 105, 110, 100] }
theorem fields_names : Lib.fields namesS.data.toList = namesL.map (·.map UInt8.ofNat) := by decide +kernel
theorem names_ascii : ∀ (j : Nat) (b : UInt8), namesS.data.toList[j]? = some b → b.toNat < 128 := fun j b h => by
  have hall : ∀ b ∈ namesS.data.toList, b.toNat < 128 := by decide +kernel
  exact hall b (List.mem_of_getElem? h)
set_option maxRecDepth 100000 in
set_option maxHeartbeats 2000000 in
/-- rules.Names -/
theorem names_at (w : World) (hL : LaidR w) :
    Calls Tryz.prog 68 #[] w fun e w' => ∃ v, e = .returned v ∧ w'.ownsRow w.heap.size 9 1 v 13 (rows cS namesL) ∧ Below w.heap.size w w' := by
  have HF := Lib.hid (show Calls Tryz.prog 82 #[.string namesS] w fun e w' => e = .returned (.slice (some ⟨w.heap.size, 0, none⟩) 13 13) ∧ w' = w.alloc (.cells (rows cS namesL).toArray 9) from by
    have h := Tryz.strings_Fields namesS w (by decide) names_ascii hL.space
    rw [fields_names] at h
    exact h)
  clear hL
  go_enter Tryz.func68, Tryz.ntmps68
  go_wp2_with fail
  refine HF.out.mono ?_
  rintro e w1 ⟨rfl, rfl⟩
  have HB := Lib.hid ((Below.refl w.heap.size w).alloc (Nat.le_refl _) (.cells (rows cS namesL).toArray 9))
  have HO := Lib.hid (World.ownsRow_lit (base := w.heap.size) (e := 9) (size := 1) w (rows cS namesL).toArray 13 (Nat.le_refl _) (by decide) rfl)
  generalize w.alloc (.cells (rows cS namesL).toArray 9) = w1 at HB HO ⊢
  go_wp2
  go_ret
  exact ⟨_, rfl, HO.out, HB.out⟩
/-- How slices.Index ends. -/
def IdxTo (l : List (List Nat)) (s : List Nat) (w : World) (e : Ending) (w' : World) : Prop := ∃ z : Int, e = .returned (.int .i64 z) ∧ decide (0 ≤ z) = l.contains s ∧ w = w'
set_option maxHeartbeats 4000000 in
/-- slices.Index of texts -/
theorem indexS_at (B g c n : Nat) (l : List (List Nat)) (s : ByteArray) (hn : l.length = n) (hn9 : n ≤ 1000) (hl : ∀ x ∈ l, ∀ b ∈ x, b < 256) (w : World) (hown : w.ownsRow B 9 1 (.slice (some ⟨g, 0, none⟩) n c) n (rows cS l)) :
    Calls Tryz.prog 89 #[.slice (some ⟨g, 0, none⟩) n c, .string s] w (IdxTo l (bytesN s) w) := by
  have HO := Lib.hid hown
  have HN := Lib.hid hn
  have HLT := Lib.hid hl
  clear hown hn hl
  go_enter Tryz.func89, Tryz.ntmps89
  go_wp2
  go_loop [8] (fun u8 => ∃ k : Nat, u8 = .int .i64 (k : Int) ∧ k ≤ n ∧ ∀ j x, j < k → l[j]? = some x → x ≠ bytesN s) (fun u8 => n - (intOf u8).toNat)
  case atStart => exact ⟨0, rfl, Nat.zero_le _, fun j x h => by omega⟩
  case round =>
    obtain ⟨k, rfl, hk, hj⟩ := hrel
    have HJ := Lib.hid hj
    have k0 : (0 : Int) ≤ (k : Int) := by omega
    clear hj
    by_cases hlt : k < n
    · obtain ⟨x, hx⟩ : ∃ x, l[k]? = some x := ⟨_, List.getElem?_eq_getElem (by rw [HN.out]; exact hlt)⟩
      have HX := Lib.hid hx
      have hc : w.cell? ⟨g, k, none⟩ = some (.string (bytesOf x)) := by
        rw [HO.out.cellAt k (show k < n * 1 by omega)]
        have := rows_at cS (fun _ => rfl) l k x hx 0 (by decide)
        rw [Nat.mul_one, Nat.add_zero] at this
        exact this
      have k1 : (k : Int) < (n : Int) := by omega
      have hb : ∀ b ∈ x, b < 256 := HLT.out x (List.mem_of_getElem? hx)
      clear hx
      by_cases he : x = bytesN s
      · have e2 : bytesOf x = s := by rw [he]; exact bytesOf_bytesN s
        rw [e2] at hc
        have HC := Lib.hid (show l.contains (bytesN s) = true by rw [List.contains_iff_mem, ← he]; exact List.mem_of_getElem? HX.out)
        have z1 : (s.toList == s.toList) = true := by simp
        clear he e2
        go_wp2
        go_ret
        exact ⟨_, rfl, by rw [HC.out]; exact decide_eq_true (by omega), rfl⟩
      · have e2 : s ≠ bytesOf x := fun e => he (by rw [e, bytesN_bytesOf _ hb])
        have z1 : (s.toList == (bytesOf x).toList) = false := toList_ne e2
        have HNX := Lib.hid (show ∀ j x, j < k + 1 → l[j]? = some x → x ≠ bytesN s from fun j y h1 h2 => by
          rcases Nat.lt_or_ge j k with h | h
          · exact HJ.out j y h h2
          · obtain rfl : j = k := by omega
            rw [HX.out] at h2; cases h2; exact he)
        clear he e2
        go_wp2
        go_round
        case rel => exact ⟨k + 1, by go_num, by omega, HNX.out⟩
        case measure => simp [intOf]; omega
    · obtain rfl : k = n := by omega
      have HC := Lib.hid (show l.contains (bytesN s) = false by
        rw [Bool.eq_false_iff]
        intro h
        rw [List.contains_iff_mem] at h
        obtain ⟨j, hj, e⟩ := List.getElem_of_mem h
        exact HJ.out j (bytesN s) (by rw [← HN.out]; exact hj) (by rw [List.getElem?_eq_getElem hj, e]) rfl)
      go_wp2
      go_ret
      exact ⟨_, rfl, by rw [HC.out]; rfl, rfl⟩
theorem names_lt : ∀ x ∈ namesL, ∀ b ∈ x, b < 256 := by decide +kernel
set_option maxHeartbeats 1000000 in
/-- slices.Contains, of the names -/
theorem containsN_at (B g c : Nat) (s : ByteArray) (b : Bool) (hb : namesL.contains (bytesN s) = b) (w : World) (hown : w.ownsRow B 9 1 (.slice (some ⟨g, 0, none⟩) 13 c) 13 (rows cS namesL)) :
    Calls Tryz.prog 77 #[.slice (some ⟨g, 0, none⟩) 13 c, .string s] w fun e w' => e = .returned (.bool b) ∧ w = w' := by
  have HI := Lib.hid (indexS_at B g c 13 namesL s rfl (by decide) names_lt w hown)
  have HB := Lib.hid hb
  clear hown hb
  go_enter Tryz.func77, Tryz.ntmps77
  go_wp2_with fail
  refine HI.out.mono ?_
  rintro e w1 ⟨z, rfl, hz, rfl⟩
  rw [HB.out] at hz
  have HZ := Lib.hid hz
  clear hz
  go_wp2
  go_ret
  exact ⟨ret_bool HZ.out, rfl⟩

/-! ### a rule's Left, its Prio -/
def leftX (z : Int) (s : List Nat) : Bool := decide (1 ≤ z ∧ z ≤ 8) && leftB z.toNat s
def prioX (z p : Int) : Bool := if 1 ≤ z ∧ z ≤ 5 then decide (0 ≤ p ∧ p ≤ 99) else decide (p = 0)
theorem left_letters {z : Int} (h : 1 ≤ z ∧ z ≤ 5) (s : List Nat) : leftX z s = (decide (s.length ≤ 12) && smallB s) := by
  unfold leftX leftB smallB
  rw [decide_eq_true (by omega), Bool.true_and, if_pos (by omega)]
  by_cases h0 : 0 < s.length
  · by_cases h1 : s.length ≤ 12
    · rw [decide_eq_true h0, decide_eq_true h1, decide_eq_true ⟨h0, h1⟩]; simp
    · rw [decide_eq_false h1, decide_eq_false (fun k => h1 k.2)]; simp
  · rw [decide_eq_false h0, decide_eq_false (fun k => h0 k.1)]; simp
theorem left_6 (s : List Nat) : leftX 6 s = oneB 4 s := by unfold leftX leftB oneB; rfl
theorem left_7 (s : List Nat) : leftX 7 s = oneB 3 s := by unfold leftX leftB oneB; rfl
theorem left_8 (s : List Nat) : leftX 8 s = namesL.contains s := by unfold leftX leftB; rfl
theorem left_none {z : Int} (h : ¬ (1 ≤ z ∧ z ≤ 8)) (s : List Nat) : leftX z s = false := by unfold leftX; rw [decide_eq_false h, Bool.false_and]
theorem mayR_x {what : Int} {left cells : List Nat} {prio line : Int} (hc : ∀ x ∈ cells, x < 256) :
    mayR prC ⟨what, left, cells, prio, line⟩ = (decide (Ce.printE (bytesOf cells) = 0) && leftX what left && prioX what prio) := by
  rw [mayR_is hc]
  unfold leftX prioB prioX
  by_cases h : 1 ≤ what ∧ what ≤ 8
  · rw [decide_eq_true h]
    by_cases h5 : what ≤ 5
    · rw [if_pos h5, if_pos ⟨h.1, h5⟩]
      cases leftB what.toNat left <;> cases decide (Ce.printE (bytesOf cells) = 0) <;> rfl
    · rw [if_neg h5, if_neg (fun k => h5 k.2)]
      cases leftB what.toNat left <;> cases decide (Ce.printE (bytesOf cells) = 0) <;> rfl
  · rw [decide_eq_false h]
    cases decide (Ce.printE (bytesOf cells) = 0) <;> rfl
set_option maxRecDepth 100000 in
set_option maxHeartbeats 2000000 in
/-- rules.mayPrio -/
theorem mayPrio_at (z : Int) (S T : ByteArray) (p l : Int) (b : Bool) (hb : prioX z p = b) (w : World) :
    Calls Tryz.prog 58 #[.agg #[.int .i64 z, .string S, .string T, .int .i64 p, .int .i64 l]] w fun e w' => e = .returned (.bool b) ∧ Below w.heap.size w w' := by
  have HBW := Lib.hid ((Below.refl w.heap.size w).alloc (Nat.le_refl _) (.cells #[.int .i64 z, .string S, .string T, .int .i64 p, .int .i64 l] 36))
  unfold prioX at hb
  by_cases h5 : 1 ≤ z ∧ z ≤ 5
  · rw [if_pos h5] at hb
    have HO := Lib.hid (fun W => ofLetters_at z true (decide_eq_true h5) W)
    by_cases p0 : 0 ≤ p
    · have u0 : decide ((0 : Int) ≤ p) = true := decide_eq_true p0
      have HB := Lib.hid (show decide (p ≤ 99) = b by rw [← hb]; by_cases h9 : p ≤ 99
                                                      · rw [decide_eq_true h9, decide_eq_true ⟨p0, h9⟩]
                                                      · rw [decide_eq_false h9, decide_eq_false (fun k => h9 k.2)])
      clear hb h5 p0
      go_enter Tryz.func58, Tryz.ntmps58
      go_wp2_with (go_at_call 75; refine (HO.out _).mono ?_; rintro e w' ⟨rfl, rfl⟩)
      go_ret
      exact ⟨ret_bool HB.out, HBW.out⟩
    · have u0 : decide ((0 : Int) ≤ p) = false := decide_eq_false p0
      obtain rfl : false = b := by rw [← hb, decide_eq_false (fun k => p0 k.1)]
      clear hb h5 p0
      go_enter Tryz.func58, Tryz.ntmps58
      go_wp2_with (go_at_call 75; refine (HO.out _).mono ?_; rintro e w' ⟨rfl, rfl⟩)
      go_ret
      exact ⟨rfl, HBW.out⟩
  · rw [if_neg h5] at hb
    have HO := Lib.hid (fun W => ofLetters_at z false (decide_eq_false h5) W)
    have HB := Lib.hid (show (p == 0) = b by rw [← hb]; by_cases h9 : p = 0
                                             · rw [h9]; rfl
                                             · rw [decide_eq_false h9]; exact beq_eq_false_iff_ne.2 h9)
    clear hb h5
    go_enter Tryz.func58, Tryz.ntmps58
    go_wp2_with (go_at_call 75; refine (HO.out _).mono ?_; rintro e w' ⟨rfl, rfl⟩)
    go_ret
    exact ⟨ret_bool HB.out, HBW.out⟩
/-- The Left in its box, and what lies. -/
abbrev SL (w : World) (S : ByteArray) (W : World) : Prop := W.cell? ⟨w.heap.size, 1, none⟩ = some (.string S) ∧ w.heap.size < W.heap.size ∧ LaidR W ∧ Below w.heap.size w W
theorem SL.laid {w : World} {S : ByteArray} {W : World} (h : SL w S W) : LaidR W := h.2.2.1
set_option maxRecDepth 100000 in
set_option maxHeartbeats 4000000 in
/-- rules.mayLeft -/
theorem mayLeft_at (z : Int) (S T : ByteArray) (hS : S.size ≤ 70000) (p l : Int) (b : Bool) (hb : leftX z (bytesN S) = b) (w : World) (hL : LaidR w) :
    Calls Tryz.prog 57 #[.agg #[.int .i64 z, .string S, .string T, .int .i64 p, .int .i64 l]] w fun e w' => e = .returned (.bool b) ∧ Below w.heap.size w w' := by
  have hbw := (Below.refl w.heap.size w).alloc (Nat.le_refl _) (.cells #[.int .i64 z, .string S, .string T, .int .i64 p, .int .i64 l] 36)
  have HLW := Lib.hid (hL.below hbw hL.1)
  have HBW := Lib.hid hbw
  clear hbw hL
  by_cases h5 : 1 ≤ z ∧ z ≤ 5
  · rw [left_letters h5, bytesN_len] at hb
    have HO := Lib.hid (fun W => ofLetters_at z true (decide_eq_true h5) W)
    by_cases h12 : S.size ≤ 12
    · rw [decide_eq_true h12, Bool.true_and, ← case_small] at hb
      have u0 : decide ((S.size : Int) ≤ 12) = true := decide_eq_true (by omega)
      have HB := Lib.hid (show (Hc.caseI S == 1) = b by rw [← hb]; rfl)
      clear hb h5
      go_enter Tryz.func57, Tryz.ntmps57
      go_wp2_with (first
        | (go_at_call 75; refine (HO.out _).mono ?_; rintro e w' ⟨rfl, rfl⟩)
        | (go_at_call 9; refine (Hc.case_any S (by omega) _ (hc_laid HLW.out)).mono ?_; rintro e w2 ⟨rfl, hb2⟩; have HB2 := Lib.hid (chain HBW.out HBW.out.size hb2); clear hb2))
      go_ret
      exact ⟨ret_bool HB.out, HB2.out⟩
    · have u0 : decide ((S.size : Int) ≤ 12) = false := decide_eq_false (by omega)
      obtain rfl : false = b := by rw [← hb, decide_eq_false h12, Bool.false_and]
      clear hb h5
      go_enter Tryz.func57, Tryz.ntmps57
      go_wp2_with (go_at_call 75; refine (HO.out _).mono ?_; rintro e w' ⟨rfl, rfl⟩)
      go_ret
      exact ⟨rfl, HBW.out⟩
  have HO := Lib.hid (fun W => ofLetters_at z false (decide_eq_false h5) W)
  by_cases h6 : z = 6
  · subst h6
    rw [left_6] at hb
    have HI := Lib.hid (fun W hW => isOne_at 4 S (by unfold maxLen; omega) b hb W hW)
    clear hb h5
    go_enter Tryz.func57, Tryz.ntmps57
    go_wp2_with (first
      | (go_at_call 75; refine (HO.out _).mono ?_; rintro e w' ⟨rfl, rfl⟩)
      | (go_at_call 76; refine (HI.out _ HLW.out).mono ?_; rintro e w2 ⟨rfl, rfl⟩))
    go_ret
    exact ⟨rfl, HBW.out⟩
  by_cases h7 : z = 7
  · subst h7
    rw [left_7] at hb
    have HI := Lib.hid (fun W hW => isOne_at 3 S (by unfold maxLen; omega) b hb W hW)
    clear hb h5
    go_enter Tryz.func57, Tryz.ntmps57
    go_wp2_with (first
      | (go_at_call 75; refine (HO.out _).mono ?_; rintro e w' ⟨rfl, rfl⟩)
      | (go_at_call 76; refine (HI.out _ HLW.out).mono ?_; rintro e w2 ⟨rfl, rfl⟩))
    go_ret
    exact ⟨rfl, HBW.out⟩
  have v6 : (z == 6) = false := beq_eq_false_iff_ne.2 h6
  have v7 : (z == 7) = false := beq_eq_false_iff_ne.2 h7
  by_cases h8 : z = 8
  · subst h8
    rw [left_8] at hb
    have HN := Lib.hid hb
    clear hb h5 h6 h7
    go_enter Tryz.func57, Tryz.ntmps57
    go_wp2_with (go_at_call 75; refine (HO.out _).mono ?_; rintro e w' ⟨rfl, rfl⟩)
    generalize hw1 : w.alloc _ = w1 at HLW HBW ⊢
    have C1 : w1.cell? ⟨w.heap.size, 1, none⟩ = some (.string S) := by rw [← hw1]; simp
    have hs1 : w.heap.size < w1.heap.size := by rw [← hw1]; simp
    clear hw1
    have HKC := Lib.hid (show ∀ W : World, Below w1.heap.size w1 W → SL w S W from fun W hW => ⟨(hW.cell (p := ⟨w.heap.size, 1, none⟩) hs1).trans C1, Nat.lt_of_lt_of_le hs1 hW.size, HLW.out.kept hW, chain HBW.out HBW.out.size hW⟩)
    have HCC := Lib.hid (show ∀ W W' : World, SL w S W → Below W.heap.size W W' → SL w S W' from fun W W' h hb => ⟨(hb.cell (p := ⟨w.heap.size, 1, none⟩) h.2.1).trans h.1, Nat.lt_of_lt_of_le h.2.1 hb.size, h.2.2.1.kept hb, chain h.2.2.2 h.2.2.2.size hb⟩)
    go_region_held3 (fun W => W.cell? ⟨w.heap.size, 1, none⟩ = some (.string S) ∧ w.heap.size < W.heap.size ∧ LaidR W ∧ Below w.heap.size w W)
      (first | assumption | exact HKC.out _ (Below.refl _ _) | exact HKC.out _ (Below.refl _ _).drew)
      (first
        | (go_at_call 68; refine (names_at _ (SL.laid (by assumption))).mono ?_; rintro en w2 ⟨v2, rfl, own2, hb2⟩; obtain ⟨g2, c2, rfl, -⟩ := own_slice own2 (by decide); have hS2 := HCC.out _ _ (by assumption) hb2)
        | (go_at_call 77; refine (containsN_at _ _ _ _ _ HN.out _ own2).mono ?_; rintro en w3 ⟨rfl, rfl⟩))
    have HBX := Lib.hid hS2.2.2.2
    go_wp2
    go_ret
    exact ⟨rfl, HBX.out⟩
  · have v8 : (z == 8) = false := beq_eq_false_iff_ne.2 h8
    obtain rfl : false = b := by rw [← hb, left_none (by omega)]
    clear hb h5 h6 h7 h8
    go_enter Tryz.func57, Tryz.ntmps57
    go_wp2_with (go_at_call 75; refine (HO.out _).mono ?_; rintro e w' ⟨rfl, rfl⟩)
    go_ret
    exact ⟨rfl, HBW.out⟩
end Go.Proofs.YtalehelgemmmeaaGreatDoor.Ru
