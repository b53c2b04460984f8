/-
  Layer 8's document: parts between bytes, digits, names, words, what may stand on the left.
-/
import Derived.Test.YtalehelgemmmeaaGreatDoorRuC
import Derived.Test.YtalehelgemmmeaaGreatDoorVg
import Derived.Test.YtalehelgemmmeaaGreatDoorVa
import Derived.Test.YtalehelgemmmeaaGreatDoorCeQ
import Derived.BigQuiet
import Derived.Deep.DeepCutAuto
import Derived.BigRegion
import Derived.Deep.RegionLaw
import Derived.Deep.RegionWith
import Derived.Deep.RegionHeld3
import Derived.Deep.QuietTactic
import Derived.Deep.AppendLies
namespace Go.Proofs.YtalehelgemmmeaaGreatDoor.Ru
open Go.RowKit Ba

theorem infoS : (Tryz.prog.info? 9).map (fun i => (i.zero, i.size, i.bytes)) = some (some (.string { data := #[] }), 1, 16) := by kernel_rfl
theorem split_last {c : Nat} {L : List Nat} {f : Nat} (hn : ∀ j, f ≤ j → j < L.length → L.getD j 0 ≠ c) : splitL c (L.drop f) = [L.drop f] := by
  refine split_no fun h => ?_
  obtain ⟨j, hj⟩ := List.mem_iff_getElem?.1 h
  rw [List.getElem?_drop] at hj
  exact hn (f + j) (by omega) (List.getElem?_eq_some_iff.1 hj).1 (by rw [List.getD_eq_getElem?_getD, hj]; rfl)
theorem split_drop {c : Nat} {L : List Nat} {f i : Nat} (hfi : f ≤ i) (hi : i < L.length) (hc : L.getD i 0 = c) (hn : ∀ j, f ≤ j → j < i → L.getD j 0 ≠ c) : splitL c (L.drop f) = (L.drop f).take (i - f) :: splitL c (L.drop (i + 1)) := by
  have hL : L.drop f = (L.drop f).take (i - f) ++ c :: L.drop (i + 1) := by
    conv => lhs; rw [← List.take_append_drop (i - f) (L.drop f)]
    congr 1
    rw [List.drop_drop, show f + (i - f) = i by omega, List.drop_eq_getElem_cons hi]
    congr 1
    rw [← hc, List.getD_eq_getElem?_getD, List.getElem?_eq_getElem hi]; rfl
  conv => lhs; rw [hL]
  refine split_at _ fun h => ?_
  obtain ⟨j, hj⟩ := List.mem_iff_getElem?.1 h
  rw [List.getElem?_take] at hj
  split at hj
  · rename_i hlt
    rw [List.getElem?_drop] at hj
    exact hn (f + j) (by omega) (by omega) (by rw [List.getD_eq_getElem?_getD, hj]; rfl)
  · cases hj
/-- Where one who goes over a text's parts stands: P behind, the next one from f on, at byte k. -/
def FldAt (c : Nat) (s : ByteArray) (P : List (List Nat)) (f k : Nat) : Prop :=
  (k ≤ s.size ∧ f ≤ k ∧ (∀ j, f ≤ j → j < k → bAt s j ≠ c) ∧ splitL c (bytesN s) = P ++ splitL c ((bytesN s).drop f)) ∨ (k = s.size + 1 ∧ splitL c (bytesN s) = P)
theorem FldAt.zero (c : Nat) (s : ByteArray) : FldAt c s [] 0 0 := .inl ⟨Nat.zero_le _, Nat.le_refl _, fun j h1 h2 => by omega, rfl⟩
theorem FldAt.step {c : Nat} {s : ByteArray} {P : List (List Nat)} {f k : Nat} (h : FldAt c s P f k) (hk : k < s.size) (hn : bAt s k ≠ c) : FldAt c s P f (k + 1) := by
  rcases h with ⟨h1, h2, h3, h4⟩ | ⟨h1, _⟩
  · refine .inl ⟨by omega, by omega, fun j j1 j2 => ?_, h4⟩
    rcases Nat.lt_or_ge j k with j3 | j3
    · exact h3 j j1 j3
    · obtain rfl : j = k := by omega
      exact hn
  · omega
theorem FldAt.from {c : Nat} {s : ByteArray} {P : List (List Nat)} {f k : Nat} (h : FldAt c s P f k) (hk : k ≤ s.size) : f ≤ k := by
  rcases h with ⟨_, h2, _⟩ | ⟨h1, _⟩ <;> omega
theorem FldAt.cut {c : Nat} {s : ByteArray} {P : List (List Nat)} {f k : Nat} (h : FldAt c s P f k) (hk : k ≤ s.size) (hc : k < s.size → bAt s k = c) : FldAt c s (P ++ [bytesN (s.extract f k)]) (k + 1) (k + 1) := by
  rcases h with ⟨h1, h2, h3, h4⟩ | ⟨h1, _⟩
  · have hl := bytesN_len s
    rw [bytesN_ext]
    rcases Nat.lt_or_ge k s.size with hlt | hge
    · refine .inl ⟨by omega, Nat.le_refl _, fun j j1 j2 => by omega, ?_⟩
      rw [h4, split_drop h2 (by omega) (hc hlt) h3, List.append_assoc]; rfl
    · refine .inr ⟨by omega, ?_⟩
      rw [h4, split_last fun j j1 j2 => h3 j j1 (by omega)]
      congr 2
      rw [List.take_of_length_le (by rw [List.length_drop]; omega)]
  · omega
theorem FldAt.done {c : Nat} {s : ByteArray} {P : List (List Nat)} {f : Nat} (h : FldAt c s P f (s.size + 1)) : splitL c (bytesN s) = P := by
  rcases h with ⟨h1, _⟩ | ⟨_, h2⟩
  · omega
  · exact h2
theorem rowsS_snoc (P : List (List Nat)) (t : ByteArray) : rows cS (P ++ [bytesN t]) = rows cS P ++ [.string t] := by
  rw [rows_snoc]
  show _ ++ [Value.string (bytesOf (bytesN t))] = _
  rw [bytesOf_bytesN]
theorem cS_len (x : List Nat) : (cS x).length = 1 := rfl
def FldsTo (P : List (List Nat)) (w : World) (e : Ending) (w' : World) : Prop := ∃ v, e = .returned v ∧ w'.ownsRow w.heap.size 9 1 v P.length (rows cS P) ∧ Below w.heap.size w w'

set_option maxRecDepth 100000 in
set_option maxHeartbeats 4000000 in
/-- stylusref08.fields -/
theorem rfields_any (s : ByteArray) (hs : s.size ≤ 70000) (w : World) : Calls Tryz.prog 51 #[.string s] w (FldsTo (splitL 32 (bytesN s)) w) := by
  obtain ⟨i0, hi0, hz0, hz1, hz2⟩ := info_parts infoS
  go_enter Tryz.func51, Tryz.ntmps51
  go_wp2
  go_loopw [3, 4, 5] (fun v u i wr => ∃ (k f m : Nat) (P : List (List Nat)), i = .int .i64 k ∧ u = .int .i64 f ∧ k ≤ s.size + 1 ∧ FldAt 32 s P f k ∧ P.length = m ∧ m ≤ k ∧ wr.ownsRow w.heap.size 9 1 v m (rows cS P) ∧ Below w.heap.size w wr) (fun _ _ i _ => s.size + 1 - (intOf i).toNat)
  case atStart => exact ⟨0, 0, 0, [], rfl, rfl, by omega, FldAt.zero _ _, rfl, Nat.le_refl _, World.ownsRow_nil _ _ _ _, Below.refl _ _⟩
  case round =>
    obtain ⟨k, f, m, P, rfl, rfl, hk, hS, hm, hmk, hown, hB⟩ := hrel
    have hsz := hB.size
    by_cases hk2 : k ≤ s.size
    · have hfk := hS.from hk2
      by_cases hgo : k < s.size ∧ bAt s k ≠ 32
      · obtain ⟨hlt, hne⟩ := hgo
        have E1 := bAt_get s k hlt
        have HEND := Lib.hid (show FldAt 32 s P f (k + 1) ∧ P.length = m ∧ wr.ownsRow w.heap.size 9 1 u3 m (rows cS P) ∧ Below w.heap.size w wr from ⟨hS.step hlt hne, hm, hown, hB⟩)
        obtain ⟨b, hb⟩ : ∃ b, bAt s k = b := ⟨_, rfl⟩
        rw [hb] at E1 hne
        have t1 : ((b : Int) == 32) = false := beq_eq_false_iff_ne.2 (by omega)
        have t2 : ((k : Int) == (s.size : Int)) = false := beq_eq_false_iff_ne.2 (by omega)
        clear hb hne hS hm hown hB
        go_wp2
        go_roundw
        case rel => exact ⟨k + 1, f, m, P, by go_num, rfl, by omega, HEND.out.1, HEND.out.2.1, by omega, HEND.out.2.2.1, HEND.out.2.2.2⟩
        case measure => simp [intOf]; omega
      · have HOWN := Lib.hid hown
        have HB := Lib.hid hB
        have HLT := Lib.hid hown.lt
        have HEND := Lib.hid (show FldAt 32 s (P ++ [bytesN (s.extract f k)]) (k + 1) (k + 1) ∧ (P ++ [bytesN (s.extract f k)]).length = m + 1 ∧ rows cS (P ++ [bytesN (s.extract f k)]) = rows cS P ++ [.string (s.extract f k)] from
          ⟨hS.cut hk2 (fun h => Classical.byContradiction fun h2 => hgo ⟨h, h2⟩), by rw [List.length_append, hm]; rfl, rowsS_snoc P _⟩)
        clear hS hm
        by_cases hlt : k < s.size
        · have E1 := bAt_get s k hlt
          have hb : bAt s k = 32 := Classical.byContradiction fun h => hgo ⟨hlt, h⟩
          rw [hb] at E1
          have t2 : ((k : Int) == (s.size : Int)) = false := beq_eq_false_iff_ne.2 (by omega)
          clear hgo hb hB
          rcases hown.2 with ⟨rfl, -⟩ | ⟨g, cap, cur, rfl, -⟩
          all_goals
           clear hown
           go_wp2_with (at_builtin; go_loud (refine wpList_append_own _ rfl _ _ 70 rfl w.heap.size 9 i0 _ 1 16 Tryz.underlying70 hi0 hz0 hz1 hz2 rfl (by decide) _ _ _ rfl (HOWN.out.alloc _) ⟨wr.heap.size, 0, none⟩ 1 1 [.string (s.extract f k)] rfl rfl (cell_one_new _ _ _) (by simp [Value.oneCell']) (by unfold maxLen; omega) (by omega) (by simp; omega) ?_); intro v' w1 hown' hgrow _; have HF := Lib.hid (show w1.ownsRow w.heap.size 9 1 v' (m + 1) (rows cS (P ++ [bytesN (s.extract f k)])) ∧ Below w.heap.size w w1 from ⟨by rw [HEND.out.2.2]; exact hown', (HB.out.alloc (by omega) _).grown hgrow (by simp; omega) (fun j ej => (HLT.out j ej).1)⟩); clear hown' hgrow)
           go_roundw
           case rel => exact ⟨k + 1, k + 1, m + 1, _, by go_num, by go_num, by omega, HEND.out.1, HEND.out.2.1, by omega, HF.out.1, HF.out.2⟩
           case measure => simp [intOf]; omega
        · obtain rfl : k = s.size := by omega
          clear hgo hlt hB
          rcases hown.2 with ⟨rfl, -⟩ | ⟨g, cap, cur, rfl, -⟩
          all_goals
           clear hown
           go_wp2_with (at_builtin; go_loud (refine wpList_append_own _ rfl _ _ 70 rfl w.heap.size 9 i0 _ 1 16 Tryz.underlying70 hi0 hz0 hz1 hz2 rfl (by decide) _ _ _ rfl (HOWN.out.alloc _) ⟨wr.heap.size, 0, none⟩ 1 1 [.string (s.extract f s.size)] rfl rfl (cell_one_new _ _ _) (by simp [Value.oneCell']) (by unfold maxLen; omega) (by omega) (by simp; omega) ?_); intro v' w1 hown' hgrow _; have HF := Lib.hid (show w1.ownsRow w.heap.size 9 1 v' (m + 1) (rows cS (P ++ [bytesN (s.extract f s.size)])) ∧ Below w.heap.size w w1 from ⟨by rw [HEND.out.2.2]; exact hown', (HB.out.alloc (by omega) _).grown hgrow (by simp; omega) (fun j ej => (HLT.out j ej).1)⟩); clear hown' hgrow)
           go_roundw
           case rel => exact ⟨s.size + 1, s.size + 1, m + 1, _, by go_num, by go_num, by omega, HEND.out.1, HEND.out.2.1, by omega, HF.out.1, HF.out.2⟩
           case measure => simp [intOf]
    · obtain rfl : k = s.size + 1 := by omega
      have HFIN := Lib.hid (show FldsTo (splitL 32 (bytesN s)) w (.returned u3) wr from ⟨u3, rfl, by rw [hS.done, hm]; exact hown, hB⟩)
      clear hS hm hown hB
      go_wp2
      go_ret
      exact HFIN.out

/-- A Prio's digits, told; -1: none. -/
def digI (l : List Nat) : Int := match digA l with | some n => ((n : Nat) : Int) | none => -1
theorem bytes1 {s : ByteArray} (h : s.size = 1) : bytesN s = [bAt s 0] := by
  have hl := bytesN_len s
  unfold bAt
  cases hL : bytesN s with
  | nil => rw [hL, h] at hl; cases hl
  | cons x r =>
    rw [hL, h] at hl
    obtain rfl : r = [] := List.length_eq_zero_iff.1 (by simpa using hl)
    rfl
theorem bytes2 {s : ByteArray} (h : s.size = 2) : bytesN s = [bAt s 0, bAt s 1] := by
  have hl := bytesN_len s
  unfold bAt
  cases hL : bytesN s with
  | nil => rw [hL, h] at hl; cases hl
  | cons x r =>
    rw [hL, h, List.length_cons] at hl
    cases r with
    | nil => simp at hl
    | cons y q =>
      obtain rfl : q = [] := List.length_eq_zero_iff.1 (by simpa using hl)
      rfl
theorem digI_else {l : List Nat} (h1 : l.length ≠ 1) (h2 : l.length ≠ 2) : digI l = -1 := by
  unfold digI digA
  match l, h1, h2 with
  | [], _, _ => rfl
  | [a], h, _ => exact absurd rfl h
  | [a, b], _, h => exact absurd rfl h
  | a :: b :: c :: r, _, _ => rfl
theorem digI_1 (b : Nat) : digI [b] = if 48 ≤ b ∧ b ≤ 57 then ((b - 48 : Nat) : Int) else -1 := by
  unfold digI digA
  by_cases h : 48 ≤ b ∧ b ≤ 57
  · simp only [if_pos h]
  · simp only [if_neg h]
theorem digI_2 (a b : Nat) : digI [a, b] = if (49 ≤ a ∧ a ≤ 57) ∧ 48 ≤ b ∧ b ≤ 57 then ((10 * (a - 48) + (b - 48) : Nat) : Int) else -1 := by
  unfold digI digA
  by_cases h : (49 ≤ a ∧ a ≤ 57) ∧ 48 ≤ b ∧ b ≤ 57
  · simp only [if_pos h]
  · simp only [if_neg h]
set_option maxHeartbeats 2000000 in
/-- stylusref08.digits -/
theorem rdigits_any (s : ByteArray) (hs : s.size ≤ 70000) (w : World) : Calls Tryz.prog 55 #[.string s] w fun e w' => e = .returned (.int .i64 (digI (bytesN s))) ∧ ∃ n, w' = w.drewN n := by
  by_cases h1 : s.size = 1
  · have hlt : 0 < s.size := by omega
    have E0 := bAt_get s 0 hlt
    have hb2 := bAt_lt s 0
    have HZ := Lib.hid (show digI (bytesN s) = digI [bAt s 0] by rw [bytes1 h1])
    obtain ⟨b, hb⟩ : ∃ b, bAt s 0 = b := ⟨_, rfl⟩
    rw [hb] at E0 hb2 HZ
    have HD := Lib.hid (digI_1 b)
    have t1 : ((s.size : Int) == 1) = true := by rw [h1]; rfl
    have t2 : ((s.size : Int) == 2) = false := by rw [h1]; rfl
    clear h1 hb
    by_cases c1 : 48 ≤ b
    · by_cases c2 : b ≤ 57
      · go_enter Tryz.func55, Tryz.ntmps55
        go_wp2
        go_ret
        rw [HZ.out, HD.out, if_pos ⟨c1, c2⟩]
        exact ⟨ret_int (by go_num), 0, rfl⟩
      · have u2 : decide ((b : Int) ≤ 57) = false := by simp; omega
        go_enter Tryz.func55, Tryz.ntmps55
        go_wp2
        go_ret
        rw [HZ.out, HD.out, if_neg (by omega)]
        exact ⟨rfl, 0, rfl⟩
    · have u1 : decide (48 ≤ (b : Int)) = false := by simp; omega
      go_enter Tryz.func55, Tryz.ntmps55
      go_wp2
      go_ret
      rw [HZ.out, HD.out, if_neg (by omega)]
      exact ⟨rfl, 0, rfl⟩
  have t1 : ((s.size : Int) == 1) = false := beq_eq_false_iff_ne.2 (by omega)
  by_cases h2 : s.size = 2
  · have hlt : 0 < s.size := by omega
    have hlt1 : 1 < s.size := by omega
    have E0 := bAt_get s 0 hlt
    have E1 := bAt_get s 1 hlt1
    have hb2 := bAt_lt s 0
    have hc2 := bAt_lt s 1
    have HZ := Lib.hid (show digI (bytesN s) = digI [bAt s 0, bAt s 1] by rw [bytes2 h2])
    obtain ⟨a, ha⟩ : ∃ a, bAt s 0 = a := ⟨_, rfl⟩
    obtain ⟨b, hb⟩ : ∃ b, bAt s 1 = b := ⟨_, rfl⟩
    rw [ha] at E0 hb2 HZ
    rw [hb] at E1 hc2 HZ
    have HD := Lib.hid (digI_2 a b)
    have t2 : ((s.size : Int) == 2) = true := by rw [h2]; rfl
    clear h1 h2 ha hb
    by_cases hok : (49 ≤ a ∧ a ≤ 57) ∧ 48 ≤ b ∧ b ≤ 57
    · have HV := Lib.hid (HD.out.trans (if_pos hok))
      obtain ⟨⟨c1, c2⟩, c3, c4⟩ := hok
      clear HD
      go_enter Tryz.func55, Tryz.ntmps55
      go_wp2_with fail
      go_quiet (fail)
      go_wp2
      go_ret
      rw [HZ.out, HV.out]
      exact ⟨ret_int (by go_num), _, rfl⟩
    · have HV := Lib.hid (HD.out.trans (if_neg hok))
      clear HD
      by_cases c1 : 49 ≤ a
      · by_cases c2 : a ≤ 57
        · by_cases c3 : 48 ≤ b
          · have u4 : decide ((b : Int) ≤ 57) = false := by simp; omega
            clear hok
            go_enter Tryz.func55, Tryz.ntmps55
            go_wp2
            go_ret
            rw [HZ.out, HV.out]
            exact ⟨rfl, 0, rfl⟩
          · have u4 : decide (48 ≤ (b : Int)) = false := by simp; omega
            clear hok
            go_enter Tryz.func55, Tryz.ntmps55
            go_wp2
            go_ret
            rw [HZ.out, HV.out]
            exact ⟨rfl, 0, rfl⟩
        · have u4 : decide ((a : Int) ≤ 57) = false := by simp; omega
          clear hok
          go_enter Tryz.func55, Tryz.ntmps55
          go_wp2
          go_ret
          rw [HZ.out, HV.out]
          exact ⟨rfl, 0, rfl⟩
      · have u4 : decide (49 ≤ (a : Int)) = false := by simp; omega
        clear hok
        go_enter Tryz.func55, Tryz.ntmps55
        go_wp2
        go_ret
        rw [HZ.out, HV.out]
        exact ⟨rfl, 0, rfl⟩
  · have t2 : ((s.size : Int) == 2) = false := beq_eq_false_iff_ne.2 (by omega)
    have HZ := Lib.hid (digI_else (l := bytesN s) (by rw [bytesN_len]; exact h1) (by rw [bytesN_len]; exact h2))
    clear h1 h2
    go_enter Tryz.func55, Tryz.ntmps55
    go_wp2
    go_ret
    rw [HZ.out]
    exact ⟨rfl, 0, rfl⟩
theorem names_row : rows cS namesL = [.string { data := #[99, 97, 112] }, .string { data := #[99, 97, 112, 115] }, .string { data := #[110, 117, 109] }, .string { data := #[108, 101, 116] }, .string { data := #[101, 43] }, .string { data := #[101, 45] }, .string { data := #[115, 43] }, .string { data := #[115, 45] }, .string { data := #[110, 43] }, .string { data := #[110, 45] }, .string { data := #[98, 108, 107] }, .string { data := #[99, 111, 110, 116] }, .string { data := #[105, 110, 100] }] := by kernel_rfl
/-- stylusref08.Names -/
theorem rnames_any (w : World) : Calls Tryz.prog 71 #[] w (FldsTo namesL w) := by
  go_enter Tryz.func71, Tryz.ntmps71
  go_wp2
  go_ret
  refine ⟨_, rfl, ?_, (Below.refl _ _).alloc (Nat.le_refl _) _⟩
  rw [names_row]
  exact World.ownsRow_lit w _ 13 (Nat.le_refl _) (by decide) rfl
theorem words_row : rows cS ([] :: wordsL) = [.string { data := #[] }, .string { data := #[97, 110, 121] }, .string { data := #[98, 101, 103, 105, 110] }, .string { data := #[105, 110, 110, 101, 114] }, .string { data := #[101, 110, 100] }, .string { data := #[119, 111, 114, 100] }, .string { data := #[109, 97, 114, 107] }, .string { data := #[100, 105, 103, 105, 116] }, .string { data := #[115, 105, 103, 110] }] := by kernel_rfl
/-- stylusref08.Words -/
theorem rwords_any (w : World) : Calls Tryz.prog 52 #[] w (FldsTo ([] :: wordsL) w) := by
  go_enter Tryz.func52, Tryz.ntmps52
  go_wp2
  go_ret
  refine ⟨_, rfl, ?_, (Below.refl _ _).alloc (Nat.le_refl _) _⟩
  rw [words_row]
  exact World.ownsRow_lit w _ 9 (Nat.le_refl _) (by decide) rfl
/-- Where one who looks among names stands: s is none of the first k. -/
def NoneOf (s : List Nat) (k : Nat) : Prop := ∀ j, j < k → namesL[j]? ≠ some s
theorem NoneOf.step {s : List Nat} {k : Nat} (h : NoneOf s k) (hn : namesL[k]? ≠ some s) : NoneOf s (k + 1) := fun j hj => by
  rcases Nat.lt_or_ge j k with j3 | j3
  · exact h j j3
  · obtain rfl : j = k := by omega
    exact hn
theorem noneOf_all {s : List Nat} (h : NoneOf s 13) : leftB 8 s = false := by
  show namesL.contains s = false
  rw [Bool.eq_false_iff]
  intro hc
  obtain ⟨j, hj⟩ := List.mem_iff_getElem?.1 (List.contains_iff_mem.1 hc)
  exact h j (List.getElem?_eq_some_iff.1 hj).1 hj
theorem oneOf {s : List Nat} {k : Nat} (h : namesL[k]? = some s) : leftB 8 s = true := List.contains_iff_mem.2 (List.mem_of_getElem? h)
set_option maxRecDepth 100000 in
set_option maxHeartbeats 4000000 in
/-- stylusref08.left, of a sign -/
theorem rleft_sign (s : ByteArray) (hs : s.size ≤ 70000) (b : Bool) (hb : leftB 8 (bytesN s) = b) (w : World) :
    Calls Tryz.prog 53 #[.int .i64 8, .string s] w fun e w' => e = .returned (.bool b) ∧ Below w.heap.size w w' := by
  have HB := Lib.hid hb
  clear hb
  go_enter Tryz.func53, Tryz.ntmps53
  go_wp2_with fail
  refine (rnames_any w).mono ?_
  rintro e w1 ⟨v, rfl, own, hb1⟩
  have HOWN := Lib.hid own
  have HB1 := Lib.hid hb1
  obtain ⟨g, cap, rfl, hg, hgb, hcap⟩ := own_slice own (by decide)
  clear own hb1
  go_wp2
  go_loopw [6] (fun u6 wr => ∃ k : Nat, u6 = .int .i64 k ∧ k ≤ 13 ∧ NoneOf (bytesN s) k ∧ wr = w1) (fun u6 _ => 13 - (intOf u6).toNat)
  case atStart => exact ⟨0, rfl, by omega, fun j hj => by omega, rfl⟩
  case round =>
    obtain ⟨k, rfl, hk, hN, rfl⟩ := hrel
    by_cases hlt : k < 13
    · obtain ⟨d, hd⟩ : ∃ d, namesL[k]? = some d := ⟨_, List.getElem?_eq_getElem (show k < namesL.length from hlt)⟩
      have C1 : wr.cell? ⟨g, k, none⟩ = some (.string (bytesOf d)) := by
        have := HOWN.out.cellAt (k * 1 + 0) (by show k * 1 + 0 < 13 * 1; omega)
        rw [rows_at cS cS_len namesL k d hd 0 (by omega)] at this
        simpa [cS] using this
      by_cases heq : bytesOf d = s
      · have HT := Lib.hid (show leftB 8 (bytesN s) = true from oneOf (k := k) (by
          rw [hd, ← heq]
          have hx : ∀ j : Fin 13, ∀ x ∈ namesL[j.val]?.getD [], x < 256 := by decide +kernel
          have := hx ⟨k, hlt⟩
          rw [hd] at this
          rw [bytesN_bytesOf d this]))
        subst heq
        clear hN hd
        go_wp2
        go_ret
        rw [← HB.out, HT.out]
        exact ⟨rfl, HB1.out⟩
      · have HT := Lib.hid (show NoneOf (bytesN s) (k + 1) from hN.step fun e => heq (by rw [hd] at e; rw [Option.some.inj e]; exact bytesOf_bytesN s))
        have hne := toList_ne heq
        clear hN hd heq
        go_wp2
        go_roundw
        case rel => exact ⟨k + 1, by go_num, by omega, HT.out, trivial⟩
        case measure => simp [intOf]; omega
    · obtain rfl : k = 13 := by omega
      have HT := Lib.hid (noneOf_all hN)
      clear hN hlt
      go_wp2
      go_ret
      rw [← HB.out, HT.out]
      exact ⟨rfl, HB1.out⟩
/-- left of a text that is no one byte, or is one. -/
theorem left_one_no {k c : Nat} {s : ByteArray} (hk : k = 6 ∧ c = 4 ∨ k = 7 ∧ c = 3) (h : s.size ≠ 1) : leftB k (bytesN s) = false := by
  have hl := bytesN_len s
  have e : ∀ l : List Nat, l.length ≠ 1 → (match l with | [b] => Ka.clsN b == c | _ => false) = false := fun l hl => by
    match l, hl with
    | [], _ => rfl
    | [a], h => exact absurd rfl h
    | a :: b :: r, _ => rfl
  rcases hk with ⟨rfl, rfl⟩ | ⟨rfl, rfl⟩
  · unfold leftB
    rw [if_neg (by decide), if_pos rfl]
    exact e _ (by omega)
  · unfold leftB
    rw [if_neg (by decide), if_neg (by decide), if_pos rfl]
    exact e _ (by omega)
theorem left_one {k c : Nat} {s : ByteArray} (hk : k = 6 ∧ c = 4 ∨ k = 7 ∧ c = 3) (h : s.size = 1) : leftB k (bytesN s) = (Ka.clsN (bAt s 0) == c) := by
  rw [bytes1 h]
  rcases hk with ⟨rfl, rfl⟩ | ⟨rfl, rfl⟩ <;> rfl
set_option maxHeartbeats 4000000 in
/-- stylusref08.left, of a mark, of a digit -/
theorem rleft_one (k c : Nat) (hk : k = 6 ∧ c = 4 ∨ k = 7 ∧ c = 3) (s : ByteArray) (_hs : s.size ≤ 70000) (b : Bool) (hb : leftB k (bytesN s) = b) (w : World) :
    Calls Tryz.prog 53 #[.int .i64 k, .string s] w fun e w' => e = .returned (.bool b) ∧ w = w' := by
  by_cases h1 : s.size = 1
  · have hlt : 0 < s.size := by omega
    have E0 := bAt_get s 0 hlt
    have hb2 := bAt_lt s 0
    rw [left_one hk h1] at hb
    obtain ⟨d, hd⟩ : ∃ d, bAt s 0 = d := ⟨_, rfl⟩
    rw [hd] at E0 hb2 hb
    have t1 : ((s.size : Int) == 1) = true := by rw [h1]; rfl
    clear h1 hd
    rcases hk with ⟨rfl, rfl⟩ | ⟨rfl, rfl⟩
    · by_cases e : Ka.clsN d = 4
      · have HC := Lib.hid (show Ka.cls (d : Int) = 4 by unfold Ka.cls; rw [Int.toNat_natCast, e]; rfl)
        obtain rfl : true = b := by rw [← hb, e]; rfl
        clear e hb
        go_enter Tryz.func53, Tryz.ntmps53
        go_wp2_with (go_at_call 70; refine (Ka.rclass_at _ _ (by omega) (by omega) HC.out _).mono ?_; rintro e w' ⟨rfl, rfl⟩)
        go_ret
        exact ⟨rfl, rfl⟩
      · obtain rfl : false = b := by rw [← hb]; exact (beq_eq_false_iff_ne.2 e).symm
        obtain ⟨q, hq⟩ : ∃ q : Int, Ka.cls (d : Int) = q := ⟨_, rfl⟩
        have HC := Lib.hid hq
        have t2 : (q == 4) = false := beq_eq_false_iff_ne.2 (fun h => e (by unfold Ka.cls at hq; rw [Int.toNat_natCast] at hq; omega))
        clear e hb hq
        go_enter Tryz.func53, Tryz.ntmps53
        go_wp2_with (go_at_call 70; refine (Ka.rclass_at _ _ (by omega) (by omega) HC.out _).mono ?_; rintro e w' ⟨rfl, rfl⟩)
        go_ret
        exact ⟨rfl, rfl⟩
    · by_cases e : Ka.clsN d = 3
      · have HC := Lib.hid (show Ka.cls (d : Int) = 3 by unfold Ka.cls; rw [Int.toNat_natCast, e]; rfl)
        obtain rfl : true = b := by rw [← hb, e]; rfl
        clear e hb
        go_enter Tryz.func53, Tryz.ntmps53
        go_wp2_with (go_at_call 70; refine (Ka.rclass_at _ _ (by omega) (by omega) HC.out _).mono ?_; rintro e w' ⟨rfl, rfl⟩)
        go_ret
        exact ⟨rfl, rfl⟩
      · obtain rfl : false = b := by rw [← hb]; exact (beq_eq_false_iff_ne.2 e).symm
        obtain ⟨q, hq⟩ : ∃ q : Int, Ka.cls (d : Int) = q := ⟨_, rfl⟩
        have HC := Lib.hid hq
        have t2 : (q == 3) = false := beq_eq_false_iff_ne.2 (fun h => e (by unfold Ka.cls at hq; rw [Int.toNat_natCast] at hq; omega))
        clear e hb hq
        go_enter Tryz.func53, Tryz.ntmps53
        go_wp2_with (go_at_call 70; refine (Ka.rclass_at _ _ (by omega) (by omega) HC.out _).mono ?_; rintro e w' ⟨rfl, rfl⟩)
        go_ret
        exact ⟨rfl, rfl⟩
  · obtain rfl : false = b := by rw [← hb, left_one_no hk h1]
    have t1 : ((s.size : Int) == 1) = false := beq_eq_false_iff_ne.2 (by omega)
    clear h1 hb
    rcases hk with ⟨rfl, rfl⟩ | ⟨rfl, rfl⟩
    · go_enter Tryz.func53, Tryz.ntmps53
      go_wp2
      go_ret
      exact ⟨rfl, rfl⟩
    · go_enter Tryz.func53, Tryz.ntmps53
      go_wp2
      go_ret
      exact ⟨rfl, rfl⟩
/-- The first k bytes are small letters. -/
def SmallTo (s : ByteArray) (k : Nat) : Prop := ∀ j, j < k → Ka.clsN (bAt s j) = 1
theorem SmallTo.step {s : ByteArray} {k : Nat} (h : SmallTo s k) (hn : Ka.clsN (bAt s k) = 1) : SmallTo s (k + 1) := fun j hj => by
  rcases Nat.lt_or_ge j k with j3 | j3
  · exact h j j3
  · obtain rfl : j = k := by omega
    exact hn
theorem small_all {s : ByteArray} {k : Nat} (hk : k ≤ 5) (h : SmallTo s s.size) : leftB k (bytesN s) = decide (0 < s.size ∧ s.size ≤ 12) := by
  unfold leftB
  rw [if_pos hk, bytesN_len, show ((bytesN s).all fun b => Ka.clsN b == 1) = true from List.all_eq_true.2 fun x hx => by
    obtain ⟨j, hj, rfl⟩ := Ce.mem_bytes s hx
    rw [beq_iff_eq]; exact h j hj, Bool.and_true]
theorem small_no {s : ByteArray} {k j : Nat} (hk : k ≤ 5) (hj : j < s.size) (h : Ka.clsN (bAt s j) ≠ 1) : leftB k (bytesN s) = false := by
  unfold leftB
  rw [if_pos hk, show ((bytesN s).all fun b => Ka.clsN b == 1) = false from by
    rw [Bool.eq_false_iff]
    intro ha
    have := List.all_eq_true.1 ha (bAt s j) (by
      have hl : j < (bytesN s).length := by rw [bytesN_len]; exact hj
      unfold bAt
      rw [List.getD_eq_getElem?_getD, List.getElem?_eq_getElem hl]
      exact List.getElem_mem hl)
    exact h (by simpa using this), Bool.and_false]
set_option maxHeartbeats 4000000 in
/-- stylusref08.left, of letters -/
theorem rleft_small (k : Nat) (hk : k ≤ 5) (s : ByteArray) (hs : s.size ≤ 70000) (b : Bool) (hb : leftB k (bytesN s) = b) (w : World) :
    Calls Tryz.prog 53 #[.int .i64 k, .string s] w fun e w' => e = .returned (.bool b) ∧ w = w' := by
  have HB := Lib.hid hb
  have k0 : (0 : Int) ≤ (k : Int) := by omega
  have t6 : ((k : Int) == 6) = false := beq_eq_false_iff_ne.2 (by omega)
  have t7 : ((k : Int) == 7) = false := beq_eq_false_iff_ne.2 (by omega)
  have t8 : ((k : Int) == 8) = false := beq_eq_false_iff_ne.2 (by omega)
  clear hb
  go_enter Tryz.func53, Tryz.ntmps53
  go_wp2
  go_loopw [7] (fun u7 wr => ∃ i : Nat, u7 = .int .i64 i ∧ i ≤ s.size ∧ SmallTo s i ∧ wr = w) (fun u7 _ => s.size - (intOf u7).toNat)
  case atStart => exact ⟨0, rfl, by omega, fun j hj => by omega, rfl⟩
  case round =>
    obtain ⟨i, rfl, hi, hN, rfl⟩ := hrel
    by_cases hlt : i < s.size
    · have E1 := bAt_get s i hlt
      have hb2 := bAt_lt s i
      obtain ⟨q, hq⟩ : ∃ q, Ka.clsN (bAt s i) = q := ⟨_, rfl⟩
      have HC := Lib.hid (show Ka.cls ((bAt s i : Nat) : Int) = (q : Int) by unfold Ka.cls; rw [Int.toNat_natCast, hq])
      by_cases hq1 : q = 1
      · subst hq1
        have HT := Lib.hid (hN.step hq)
        obtain ⟨d, hd⟩ : ∃ d, bAt s i = d := ⟨_, rfl⟩
        rw [hd] at E1 hb2 HC
        clear hN hq hd
        go_wp2_with (go_at_call 70; refine (Ka.rclass_at _ _ (by omega) (by omega) HC.out _).mono ?_; rintro e w' ⟨rfl, rfl⟩)
        go_roundw
        case rel => exact ⟨i + 1, by go_num, by omega, HT.out, trivial⟩
        case measure => simp [intOf]; omega
      · have HT := Lib.hid (small_no hk hlt (by rw [hq]; exact hq1))
        have t9 : ((q : Int) != 1) = true := by rw [bne, beq_eq_false_iff_ne.2 (by omega)]; rfl
        obtain ⟨d, hd⟩ : ∃ d, bAt s i = d := ⟨_, rfl⟩
        rw [hd] at E1 hb2 HC
        clear hN hq hd hq1
        go_wp2_with (go_at_call 70; refine (Ka.rclass_at _ _ (by omega) (by omega) HC.out _).mono ?_; rintro e w' ⟨rfl, rfl⟩)
        go_ret
        rw [← HB.out, HT.out]
        exact ⟨rfl, rfl⟩
    · obtain rfl : i = s.size := by omega
      have HT := Lib.hid (small_all hk hN)
      clear hN hlt
      by_cases h0 : 0 < s.size
      · by_cases h12 : s.size ≤ 12
        · have HV := Lib.hid (HT.out.trans (decide_eq_true ⟨h0, h12⟩))
          clear HT
          go_wp2
          go_ret
          rw [← HB.out, HV.out]
          exact ⟨ret_bool (decide_eq_true (by omega)), rfl⟩
        · have HV := Lib.hid (HT.out.trans (decide_eq_false fun h => h12 h.2))
          have u1 : decide ((s.size : Int) ≤ 12) = false := by simp; omega
          clear HT
          go_wp2
          go_ret
          rw [← HB.out, HV.out]
          exact ⟨rfl, rfl⟩
      · have HV := Lib.hid (HT.out.trans (decide_eq_false fun h => h0 h.1))
        have u1 : decide (0 < (s.size : Int)) = false := decide_eq_false (by omega)
        clear HT
        go_wp2
        go_ret
        rw [← HB.out, HV.out]
        exact ⟨rfl, rfl⟩
/-- stylusref08.left, of what is no sign -/
theorem rleft_plain (k : Nat) (h7 : k ≤ 7) (s : ByteArray) (hs : s.size ≤ 70000) (b : Bool) (hb : leftB k (bytesN s) = b) (w : World) :
    Calls Tryz.prog 53 #[.int .i64 k, .string s] w fun e w' => e = .returned (.bool b) ∧ w = w' := by
  rcases Nat.lt_or_ge 5 k with h5 | h5
  · obtain rfl | rfl : k = 6 ∨ k = 7 := by omega
    · exact rleft_one 6 4 (.inl ⟨rfl, rfl⟩) s hs b hb w
    · exact rleft_one 7 3 (.inr ⟨rfl, rfl⟩) s hs b hb w
  · exact rleft_small k h5 s hs b hb w
/-- stylusref08.left -/
theorem rleft_any (k : Nat) (h8 : k ≤ 8) (s : ByteArray) (hs : s.size ≤ 70000) (b : Bool) (hb : leftB k (bytesN s) = b) (w : World) :
    Calls Tryz.prog 53 #[.int .i64 k, .string s] w fun e w' => e = .returned (.bool b) ∧ Below w.heap.size w w' := by
  rcases Nat.lt_or_ge 7 k with h7 | h7
  · obtain rfl : k = 8 := by omega
    exact rleft_sign s hs b hb w
  · exact (rleft_plain k h7 s hs b hb w).mono fun _ _ h => ⟨h.1, h.2 ▸ Below.refl _ _⟩
end Go.Proofs.YtalehelgemmmeaaGreatDoor.Ru
