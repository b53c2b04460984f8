/-
  The landed package rules: cutting at a byte, the What of a word, a rule's line.
-/
import Derived.Test.YtkhfingenjlpfaaGreatDoorRvB
import Derived.Lib.AtoiErrMem
import Derived.StillTailTactics
namespace Go.Proofs.YtkhfingenjlpfaaGreatDoor.Ru
open Go.RowKit Ba

/-! ### strings.Cut -/
theorem cut_take (c : Nat) : ∀ (L : List Nat) (i : Nat), i < L.length → L[i]? = some c → (∀ j, j < i → L[j]? ≠ some c) → cutL c L = (L.take i, L.drop (i + 1))
  | [], i, h, _, _ => absurd h (by simp)
  | x :: r, 0, _, h, _ => by
    have h : x = c := by simpa using h
    show (if x = c then _ else _) = _
    rw [if_pos h]; rfl
  | x :: r, i + 1, h, h1, h2 => by
    have hx : x ≠ c := fun e => h2 0 (by omega) (by rw [e]; rfl)
    show (if x = c then _ else (x :: (cutL c r).1, (cutL c r).2)) = _
    rw [if_neg hx, cut_take c r i (by simpa using h) (by simpa using h1) (fun j hj => by simpa using h2 (j + 1) (by omega))]
    rfl
theorem bytes_at (s : ByteArray) (i : Nat) : (bytesN s)[i]? = (s.data.toList[i]?).map UInt8.toNat := by unfold bytesN; rw [List.getElem?_map]
theorem cut_index (s : ByteArray) (c : UInt8) :
    (Lib.indexByte s.data.toList c = -1 ∧ cutL c.toNat (bytesN s) = (bytesN s, [])) ∨ ∃ i : Nat, Lib.indexByte s.data.toList c = (i : Int) ∧ i < s.size ∧ cutL c.toNat (bytesN s) = (bytesN (s.extract 0 i), bytesN (s.extract (i + 1) s.size)) := by
  have hge := Lib.indexByte_ge s.data.toList c
  by_cases h1 : Lib.indexByte s.data.toList c = -1
  · refine .inl ⟨h1, cut_no fun hm => ?_⟩
    obtain ⟨j, hj, e⟩ := List.getElem_of_mem hm
    have h2 : (bytesN s)[j]? = some c.toNat := by rw [List.getElem?_eq_getElem hj, e]
    rw [bytes_at] at h2
    cases h3 : s.data.toList[j]? with
    | none => rw [h3] at h2; cases h2
    | some x =>
      rw [h3] at h2
      have h2 : x.toNat = c.toNat := by simpa using h2
      exact Lib.indexByte_none h1 j (by rw [h3, UInt8.toNat_inj.1 h2])
  · obtain ⟨i, hi⟩ : ∃ i : Nat, Lib.indexByte s.data.toList c = i := ⟨_, (Int.toNat_of_nonneg (by omega)).symm⟩
    obtain ⟨hs1, hs2⟩ := Lib.indexByte_some hi
    have hlt : i < s.size := by
      have := (List.getElem?_eq_some_iff.1 hs1).1
      simpa using this
    refine .inr ⟨i, hi, hlt, ?_⟩
    rw [cut_take c.toNat (bytesN s) i (by rw [bytesN_len]; exact hlt) (by rw [bytes_at, hs1]; rfl) (fun j hj h2 => by
      rw [bytes_at] at h2
      cases h3 : s.data.toList[j]? with
      | none => rw [h3] at h2; cases h2
      | some x =>
        rw [h3] at h2
        have h2 : x.toNat = c.toNat := by simpa using h2
        exact hs2 j hj (by rw [h3, UInt8.toNat_inj.1 h2]))]
    rw [bytesN_ext, bytesN_ext, List.drop_zero, Nat.sub_zero]
    congr 1
    rw [List.take_of_length_le (by rw [List.length_drop, bytesN_len]; omega)]
theorem sindex_at (c : UInt8) (s : ByteArray) (z : Int) (hz : Lib.indexByte s.data.toList c = z) (w : World) :
    Calls Tryz.prog 88 #[.string s, .string { data := #[c] }] w fun e w' => e = .returned (.int .i64 z) ∧ w = w' :=
  (Go.Proofs.Any.stringslite_Index_one (P := Tryz.prog) (ρ := Tryz.lays143_ren) { Tryz.lays143 with } s c w).mono fun _ _ ⟨he, hw⟩ => ⟨by rw [he, hz], hw.symm⟩
set_option maxRecDepth 100000 in
set_option maxHeartbeats 4000000 in
/-- stringslite.Cut, at a blank -/
theorem cutl_at (s : ByteArray) (hs : s.size ≤ 70000) (a b : ByteArray) (hc : cutL 32 (bytesN s) = (bytesN a, bytesN b)) (w : World) :
    Calls Tryz.prog 68 #[.string s, .string { data := #[32] }] w fun e w' => ∃ f, e = .returned (.tuple #[.string a, .string b, .bool f]) ∧ ∃ n, w' = w.drewN n := by
  rcases cut_index s 32 with ⟨h1, h2⟩ | ⟨i, h1, h2, h3⟩
  · have h2 : cutL 32 (bytesN s) = (bytesN s, []) := h2
    rw [h2] at hc
    obtain rfl : s = a := bytes_ext (Prod.mk.inj hc).1
    obtain rfl : ({ data := #[] } : ByteArray) = b := bytes_ext (Prod.mk.inj hc).2
    have HI := Lib.hid (fun W => sindex_at 32 s (-1) h1 W)
    clear h1 h2 hc
    go_enter Tryz.func68, Tryz.ntmps68
    go_wp2_with (go_at_call 88; refine (HI.out _).mono ?_; rintro e w' ⟨rfl, rfl⟩)
    refine bodyPost_ret (v := .tuple #[.string s, .string { data := #[] }, .bool false]) (by simp [results, Tryz.f68, go_sem]) rfl ?_
    exact ⟨false, rfl, 0, rfl⟩
  · have h3 : cutL 32 (bytesN s) = (bytesN (s.extract 0 i), bytesN (s.extract (i + 1) s.size)) := h3
    rw [h3] at hc
    obtain rfl := bytes_ext (Prod.mk.inj hc).1
    obtain rfl := bytes_ext (Prod.mk.inj hc).2
    have HI := Lib.hid (fun W => sindex_at 32 s (i : Int) h1 W)
    have i0 : (0 : Int) ≤ (i : Int) := by omega
    have i1 : (i : Int) ≤ (s.size : Int) := by omega
    have i2 : (i : Int) + 1 ≤ (s.size : Int) := by omega
    have i3 : IntKind.i64.wrap ((i : Int) + 1) = (i : Int) + 1 := IntWalk.i64_in _ (by omega)
    clear h1 h3 hc
    go_enter Tryz.func68, Tryz.ntmps68
    go_wp2_with (go_at_call 88; refine (HI.out _).mono ?_; rintro e w' ⟨rfl, rfl⟩)
    go_quiet (fail)
    go_wp2
    refine bodyPost_ret (v := .tuple #[.string (s.extract 0 i), .string (s.extract (i + 1) s.size), .bool true]) (by simp [results, Tryz.f68, go_sem]) rfl ?_
    exact ⟨true, rfl, _, rfl⟩
set_option maxRecDepth 100000 in
set_option maxHeartbeats 4000000 in
/-- strings.Cut, at a blank -/
theorem cut_call (s : ByteArray) (hs : s.size ≤ 70000) (a b : ByteArray) (hc : cutL 32 (bytesN s) = (bytesN a, bytesN b)) (w : World) :
    Calls Tryz.prog 44 #[.string s, .string { data := #[32] }] w fun e w' => ∃ f, e = .returned (.tuple #[.string a, .string b, .bool f]) ∧ Below w.heap.size w w' := by
  have HC := Lib.hid (cutl_at s hs a b hc w)
  clear hc
  go_enter Tryz.func44, Tryz.ntmps44
  go_wp2_with fail
  refine HC.out.mono ?_
  rintro e w1 ⟨f, rfl, n, rfl⟩
  have HB := Lib.hid (Ba.below_drewN (Below.refl w.heap.size w) n)
  generalize w.drewN n = w1 at HB ⊢
  go_wp2
  refine bodyPost_ret (v := .tuple #[.string a, .string b, .bool f]) (by simp [results, Tryz.f44, go_sem]) rfl ?_
  exact ⟨f, rfl, HB.out⟩

/-! ### the What of a word -/
def wordsA : Array Value := #[.string (bytesOf []), .string (bytesOf [97, 110, 121]), .string (bytesOf [98, 101, 103, 105, 110]), .string (bytesOf [105, 110, 110, 101, 114]), .string (bytesOf [101, 110, 100]), .string (bytesOf [119, 111, 114, 100]), .string (bytesOf [109, 97, 114, 107]), .string (bytesOf [100, 105, 103, 105, 116]), .string (bytesOf [115, 105, 103, 110])]
theorem wordsA_at : ∀ (m : Nat) (p : List Nat), wordsT[m]? = some p → wordsA[m]? = some (.string (bytesOf p))
  | 0, _, h => by cases h; rfl
  | 1, _, h => by cases h; rfl
  | 2, _, h => by cases h; rfl
  | 3, _, h => by cases h; rfl
  | 4, _, h => by cases h; rfl
  | 5, _, h => by cases h; rfl
  | 6, _, h => by cases h; rfl
  | 7, _, h => by cases h; rfl
  | 8, _, h => by cases h; rfl
  | m + 9, _, h => by simp [wordsT, wordsL] at h
theorem wordsT_what : ∀ (m : Nat) (p : List Nat), wordsT[m]? = some p → whatN p = m
  | 0, _, h => by cases h; rfl
  | 1, _, h => by cases h; rfl
  | 2, _, h => by cases h; rfl
  | 3, _, h => by cases h; rfl
  | 4, _, h => by cases h; rfl
  | 5, _, h => by cases h; rfl
  | 6, _, h => by cases h; rfl
  | 7, _, h => by cases h; rfl
  | 8, _, h => by cases h; rfl
  | m + 9, _, h => by simp [wordsT, wordsL] at h
theorem wordsT_lt : ∀ p ∈ wordsT, ∀ b ∈ p, b < 256 := by decide +kernel
theorem what_none {p : List Nat} (h : ∀ j y, j < 9 → wordsT[j]? = some y → y ≠ p) : whatN p = 0 := by
  by_cases h0 : whatN p = 0
  · exact h0
  · have hw := word_what h0
    have hl := whatN_le p
    refine absurd hw (h (whatN p) _ (by omega) ?_)
    exact words_at (by omega) hl
theorem string_size : (Tryz.prog.info? 9).map (fun i => i.size) = some 1 := by kernel_rfl
/-- An index of an array of nine strings. -/
theorem wpList_index9 (w : World) {ops : Array Oper} {rest : List Oper} {o : Oper} {a : Act} {Q : Exit → Act → World → Prop} (hg : o.guard = none) (x y : Operand) (hop : o.op = Op.index 77 x y) (cs : Array Value) (hx : a.eval x = .agg cs) (z : Int) (hy : a.eval y = .int .i64 z) (m : Nat) (hz : z = (m : Int)) (hm : m < 9) (v : Value) (hv : cs[m]? = some v)
    (hK : wpList Tryz.prog ops Q rest (a.put o.dst v) w) : wpList Tryz.prog ops Q (o :: rest) a w := by
  refine wpList_plain hg fun K hK' => ?_
  obtain ⟨i0, hi0, hsz⟩ := Option.map_eq_some_iff.1 string_size
  have hsz : i0.size = 1 := hsz
  have hrun : (Instr.index 77 (.agg cs) (.int .i64 (m : Int))).run Tryz.prog w = .ok v w := by
    simp [Instr.index, run_underlying Tryz.underlying77, sizeOf, typeInfo, hi0, hsz, part]
    show (if 0 ≤ (m : Int) ∧ (m : Int) < 9 then Sem.run _ (match cs[((m : Int)).toNat]? with | some v => pure v | none => _) w else _) = _
    rw [if_pos ⟨by omega, by omega⟩, Int.toNat_natCast, hv]; rfl
  unfold Oper.wp
  simp [execOp, hop, hx, hy, hz, hrun, Result.andThen]
  exact hK' _ _ hK
set_option maxRecDepth 100000 in
set_option maxHeartbeats 4000000 in
/-- rules.whatOf -/
theorem whatOf_at (s : ByteArray) (w : World) (hL : LaidR w) :
    Calls Tryz.prog 45 #[.string s] w fun e w' => e = .returned (.int .i64 ((whatN (bytesN s) : Nat) : Int)) ∧ w = w' := by
  obtain ⟨q, hq⟩ : ∃ q, whatN (bytesN s) = q := ⟨_, rfl⟩
  have HQ := Lib.hid hq
  rw [hq]
  have hW := hL.2.2.1
  have c0 := hW 0 _ rfl
  have c1 := hW 1 _ rfl
  have c2 := hW 2 _ rfl
  have c3 := hW 3 _ rfl
  have c4 := hW 4 _ rfl
  have c5 := hW 5 _ rfl
  have c6 := hW 6 _ rfl
  have c7 := hW 7 _ rfl
  have c8 := hW 8 _ rfl
  clear hW hL hq
  go_enter Tryz.func45, Tryz.ntmps45
  go_wp2
  clear c0 c1 c2 c3 c4 c5 c6 c7 c8
  go_loop [6] (fun u6 => ∃ j : Nat, u6 = .int .i64 (j : Int) ∧ j ≤ 9 ∧ ∀ i y, i < j → wordsT[i]? = some y → y ≠ bytesN s) (fun u6 => 9 - (intOf u6).toNat)
  case atStart => exact ⟨0, rfl, Nat.zero_le _, fun i y h => by omega⟩
  case round =>
    obtain ⟨j, rfl, hj, hn⟩ := hrel
    have HN := Lib.hid hn
    have j0 : (0 : Int) ≤ (j : Int) := by omega
    clear hn
    by_cases hlt : j < 9
    · obtain ⟨p, hp⟩ : ∃ p, wordsT[j]? = some p := ⟨_, List.getElem?_eq_getElem (show j < wordsT.length from hlt)⟩
      have HP := Lib.hid hp
      have HV := Lib.hid (wordsA_at j p hp)
      have hpl := wordsT_lt p (List.mem_of_getElem? hp)
      have j1 : (j : Int) < 9 := by omega
      clear hp
      by_cases he : p = bytesN s
      · have e2 : bytesOf p = s := by rw [he]; exact bytesOf_bytesN s
        rw [e2] at HV
        have HW := Lib.hid (show ((j : Nat) : Int) = (q : Int) by rw [← HQ.out, ← he, wordsT_what j p HP.out])
        have z1 : (s.toList == s.toList) = true := by simp
        clear he e2
        go_wp2_with (refine wpList_index9 _ rfl _ _ rfl _ rfl _ rfl j rfl hlt _ HV.out ?_)
        go_ret
        exact ⟨ret_int HW.out, rfl⟩
      · have e2 : bytesOf p ≠ s := fun e => he (by rw [← e, bytesN_bytesOf _ hpl])
        have z1 : ((bytesOf p).toList == s.toList) = false := toList_ne e2
        have HNX := Lib.hid (show ∀ i y, i < j + 1 → wordsT[i]? = some y → y ≠ bytesN s from fun i y h1 h2 => by
          rcases Nat.lt_or_ge i j with h | h
          · exact HN.out i y h h2
          · obtain rfl : i = j := by omega
            rw [HP.out] at h2; cases h2; exact he)
        clear he e2
        go_wp2_with (refine wpList_index9 _ rfl _ _ rfl _ rfl _ rfl j rfl hlt _ HV.out ?_)
        go_round
        case rel => exact ⟨j + 1, by go_num, by omega, HNX.out⟩
        case measure => simp [intOf]; omega
    · obtain rfl : j = 9 := by omega
      have HW := Lib.hid (show (0 : Int) = (q : Int) by rw [← HQ.out, what_none HN.out]; rfl)
      go_wp2
      go_ret
      exact ⟨ret_int HW.out, rfl⟩
end Go.Proofs.YtkhfingenjlpfaaGreatDoor.Ru
