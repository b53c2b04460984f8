/-
  Cells and their texts, signs and cells, there and back: plain facts.
-/
import Derived.Test.YtalehelgemmmeaaGreatDoorCeO
import Derived.Test.YtalehelgemmmeaaGreatDoorCeI
import Derived.Test.YtalehelgemmmeaaGreatDoorEb
namespace Go.Proofs.YtalehelgemmmeaaGreatDoor.Ce
open Go.RowKit

/-! ### signs -/
theorem mem_bytes (s : ByteArray) {x : Nat} (h : x ∈ bytesN s) : ∃ j, j < s.size ∧ bAt s j = x := by
  obtain ⟨j, hj, rfl⟩ := List.getElem_of_mem h
  refine ⟨j, by rw [← bytesN_len]; exact hj, ?_⟩
  unfold bAt
  rw [List.getD_eq_getElem?_getD, List.getElem?_eq_getElem hj]; rfl
theorem bytes_ext {s t : ByteArray} (h : bytesN s = bytesN t) : s = t := by rw [← bytesOf_bytesN s, h, bytesOf_bytesN]
theorem mapK_eq (g : Nat → Nat) (s : ByteArray) : mapK g s s.size = (bytesN s).map g := by
  apply List.ext_getElem
  · rw [mapK_len, List.length_map, bytesN_len]
  · intro j h1 h2
    have hj : j < (bytesN s).length := by simpa using h2
    simp only [mapK, List.getElem_map, List.getElem_range]
    unfold bAt
    rw [List.getD_eq_getElem?_getD, List.getElem?_eq_getElem hj]; rfl
theorem bytesN_mapS (g : Nat → Nat) (hg : ∀ b, g b < 256) (s : ByteArray) : bytesN (mapS g s) = (bytesN s).map g := by
  unfold mapS
  rw [bytesN_bytesOf _ (mapK_lt g hg s s.size), mapK_eq]
theorem bAt_mapS (g : Nat → Nat) (hg : ∀ b, g b < 256) (s : ByteArray) (j : Nat) (hj : j < s.size) : bAt (mapS g s) j = g (bAt s j) := by
  have hl : j < (bytesN s).length := by rw [bytesN_len]; exact hj
  unfold bAt
  rw [bytesN_mapS g hg, List.getD_eq_getElem?_getD, List.getD_eq_getElem?_getD, List.getElem?_map, List.getElem?_eq_getElem hl]; rfl
theorem mapS_back {g g' : Nat → Nat} (hg : ∀ b, g b < 256) (hg' : ∀ b, g' b < 256) (s : ByteArray) (h : ∀ j, j < s.size → g' (g (bAt s j)) = bAt s j) : mapS g' (mapS g s) = s := by
  apply bytes_ext
  rw [bytesN_mapS g' hg', bytesN_mapS g hg, List.map_map]
  conv => rhs; rw [← List.map_id (bytesN s)]
  apply List.map_congr_left
  intro x hx
  obtain ⟨j, hj, rfl⟩ := mem_bytes s hx
  exact h j hj
theorem sign_back : ∀ b : Fin 256, signB b.val = true → fromB (signR b.val) = true ∧ fromR (signR b.val) = b.val := by decide +kernel
theorem from_back : ∀ b : Fin 256, fromB b.val = true → signB (fromR b.val) = true ∧ signR (fromR b.val) = b.val := by decide +kernel
theorem signs_cases (s : ByteArray) : (badAt signB s = s.size ∧ signsE s = 0 ∧ signsV s = mapS signR s) ∨ signsE s = 1 := by
  unfold signsE signsV
  by_cases h : badAt signB s = s.size
  · left; rw [if_pos h, if_pos h]; exact ⟨h, rfl, rfl⟩
  · right; rw [if_neg h]
theorem cells_cases (s : ByteArray) : (badAt fromB s = s.size ∧ cellsE s = 0 ∧ cellsV s = mapS fromR s) ∨ cellsE s = 2 := by
  unfold cellsE cellsV
  by_cases h : badAt fromB s = s.size
  · left; rw [if_pos h, if_pos h]; exact ⟨h, rfl, rfl⟩
  · right; rw [if_neg h]
theorem signs_there (s : ByteArray) (h : badAt signB s = s.size) : cellsV (mapS signR s) = s ∧ cellsAt (mapS signR s) = 0 ∧ cellsE (mapS signR s) = 0 := by
  have hA := allP_of h
  have hb : badAt fromB (mapS signR s) = (mapS signR s).size := badAt_all fun j hj => by
    rw [mapS_size] at hj
    rw [bAt_mapS signR signR_lt s j hj]
    exact (sign_back ⟨bAt s j, bAt_lt s j⟩ (hA j hj)).1
  unfold cellsV cellsAt cellsE
  rw [if_pos hb, if_pos hb, if_pos hb]
  exact ⟨mapS_back signR_lt fromR_lt s fun j hj => (sign_back ⟨bAt s j, bAt_lt s j⟩ (hA j hj)).2, rfl, rfl⟩
theorem cells_there (s : ByteArray) (h : badAt fromB s = s.size) : signsV (mapS fromR s) = s ∧ signsE (mapS fromR s) = 0 := by
  have hA := allP_of h
  have hb : badAt signB (mapS fromR s) = (mapS fromR s).size := badAt_all fun j hj => by
    rw [mapS_size] at hj
    rw [bAt_mapS fromR fromR_lt s j hj]
    exact (from_back ⟨bAt s j, bAt_lt s j⟩ (hA j hj)).1
  unfold signsV signsE
  rw [if_pos hb, if_pos hb]
  exact ⟨mapS_back fromR_lt signR_lt s fun j hj => (from_back ⟨bAt s j, bAt_lt s j⟩ (hA j hj)).2, rfl⟩

/-! ### texts -/
theorem of_dots : ∀ x : Fin 64, ofN (dotsN x.val 6) = x.val := by decide +kernel
theorem dots_step : ∀ c : Fin 64, ∀ b : Fin 128, c.val < bitN b.val → dotsN (c.val + bitN b.val) 6 = dotsN c.val 6 ++ [b.val] := by decide +kernel
theorem of_lt64 (c b : Nat) (hb : c < bitN b) : c + bitN b < 64 := by
  have := bitN_le b
  omega
theorem dots_of' : ∀ (l : List Nat) (c r : Nat), c < 64 → l.foldl ofStep (some c) = some r → dotsN r 6 = dotsN c 6 ++ l
  | [], c, r, _, h => by cases h; simp
  | b :: l, c, r, hc, h => by
    rw [List.foldl_cons] at h
    by_cases hb : c < bitN b
    · have e : ofStep (some c) b = some (c + bitN b) := by simp [ofStep, hb]
      rw [e] at h
      have hlt : c + bitN b < 64 := of_lt64 c b hb
      have hb128 : b < 128 := by
        rcases bitN_cases b with h0 | ⟨h0, _⟩ | ⟨h0, _⟩ | ⟨h0, _⟩ | ⟨h0, _⟩ | ⟨h0, _⟩ | ⟨h0, _⟩ <;> omega
      rw [dots_of' l _ r hlt h, dots_step ⟨c, hc⟩ ⟨b, hb128⟩ hb]
      simp
    · have e : ofStep (some c) b = none := by simp [ofStep, hb]
      rw [e, ofStep_none] at h; cases h
theorem dots_of (l : List Nat) (h : ofN l ≠ 0) : dotsN (ofN l) 6 = l := by
  unfold ofN at h ⊢
  cases hl : ofL l with
  | none => rw [hl] at h; exact absurd rfl h
  | some r =>
    have := dots_of' l 0 r (by omega) hl
    rw [show (some r).getD 0 = r from rfl, this]
    rfl
theorem dots_no_dash (x j : Nat) (hj : j < (dotsN x 6).length) : (dotsN x 6)[j] ≠ 45 := by
  have hm := List.getElem_mem hj
  simp only [dotsN, List.mem_map, List.mem_filter, List.mem_range] at hm
  obtain ⟨i, _, he⟩ := hm
  have : (dotsN x 6)[j] = 49 + i := by
    simp only [dotsN]; exact he.symm
  omega
theorem bAt_drop (s : ByteArray) (f i : Nat) : bAt s (f + i) = ((bytesN s).drop f).getD i 0 := by
  unfold bAt
  rw [List.getD_eq_getElem?_getD, List.getD_eq_getElem?_getD, List.getElem?_drop]
theorem bytesN_ext (s : ByteArray) (f e : Nat) : bytesN (s.extract f e) = ((bytesN s).drop f).take (e - f) := by
  unfold bytesN
  rw [ByteArray.data_extract, Array.toList_extract, List.extract_eq_take_drop, List.map_take, List.map_drop]
theorem drop_len (s : ByteArray) (f : Nat) : ((bytesN s).drop f).length = s.size - f := by rw [List.length_drop, bytesN_len]
/-- Where the rest begins with dots, the part ends behind them. -/
theorem dash_at (s : ByteArray) (f x : Nat) (r : List Nat) (hf : f ≤ s.size) (h : (bytesN s).drop f = dotsN x 6 ++ r) (hr : r = [] ∨ ∃ r', r = 45 :: r') :
    dash s f = f + (dotsN x 6).length ∧ bytesN (s.extract f (dash s f)) = dotsN x 6 ∧ (r = [] → dash s f = s.size) ∧ (r ≠ [] → dash s f < s.size) := by
  have hl := drop_len s f
  rw [h, List.length_append] at hl
  have he : dash s f = f + (dotsN x 6).length := (dash_is s f hf).unique ⟨by omega, by omega, fun j h1 h2 => by
    obtain ⟨i, rfl⟩ : ∃ i, j = f + i := ⟨j - f, by omega⟩
    have hi : i < (dotsN x 6).length := by omega
    rw [bAt_drop, h, List.getD_eq_getElem?_getD, List.getElem?_append_left hi, List.getElem?_eq_getElem hi]
    exact dots_no_dash x i hi, fun hlt => by
    rcases hr with rfl | ⟨r', rfl⟩
    · simp at hl; omega
    · rw [bAt_drop, h, List.getD_eq_getElem?_getD, List.getElem?_append_right (Nat.le_refl _)]
      simp⟩
  refine ⟨he, ?_, fun h0 => ?_, fun h0 => ?_⟩
  · rw [bytesN_ext, h, he, Nat.add_sub_cancel_left, List.take_left']
    rfl
  · subst h0; simp at hl; omega
  · have : 0 < r.length := by
      rcases hr with rfl | ⟨r', rfl⟩
      · exact absurd rfl h0
      · simp
    omega
/-- What is printed is parsed. -/
theorem parse_from (s : ByteArray) : ∀ (l : List Nat) (f : Nat) (acc : List Nat), l ≠ [] → (∀ x ∈ l, x ≠ 0 ∧ x ≤ 63) → f ≤ s.size → (bytesN s).drop f = printT l → acc.length + l.length ≤ 4 →
    (partsA s f).foldl (pStep s) (some acc) = some (acc ++ l)
  | [], _, _, h, _, _, _, _ => absurd rfl h
  | [x], f, acc, _, hx, hf, hd, hl => by
    obtain ⟨e1, e2, e3, _⟩ := dash_at s f x [] hf (by rw [hd]; simp [printT]) (.inl rfl)
    obtain ⟨hx0, hx63⟩ := hx x (by simp)
    have hp : ptN s ⟨(f, dash s f), (dash_is s f hf).1, (dash_is s f hf).2.1⟩ = x := by
      unfold ptN ofS; simp only []; rw [e2]; exact of_dots ⟨x, by omega⟩
    rw [partsA_step s f hf, if_neg (by have := e3 rfl; omega), List.foldl_cons, List.foldl_nil, pStep_yes (by rw [hp]; exact hx0) (by simp at hl; omega), hp]
  | x :: y :: r, f, acc, _, hx, hf, hd, hl => by
    obtain ⟨e1, e2, _, e4⟩ := dash_at s f x (45 :: printT (y :: r)) hf (by rw [hd]; rfl) (.inr ⟨_, rfl⟩)
    have hlt := e4 (by simp)
    obtain ⟨hx0, hx63⟩ := hx x (by simp)
    have hp : ptN s ⟨(f, dash s f), (dash_is s f hf).1, (dash_is s f hf).2.1⟩ = x := by
      unfold ptN ofS; simp only []; rw [e2]; exact of_dots ⟨x, by omega⟩
    have hd2 : (bytesN s).drop (dash s f + 1) = printT (y :: r) := by
      rw [e1, Nat.add_assoc, ← List.drop_drop, hd]
      show (dotsN x 6 ++ 45 :: printT (y :: r)).drop ((dotsN x 6).length + 1) = _
      rw [List.drop_append]; simp
    rw [partsA_step s f hf, if_pos hlt, List.foldl_cons, pStep_yes (by rw [hp]; exact hx0) (by simp at hl; omega), hp,
      parse_from s (y :: r) (dash s f + 1) (acc ++ [x]) (by simp) (fun z hz => hx z (List.mem_cons_of_mem _ hz)) (by omega) hd2 (by simp at hl ⊢; omega)]
    simp
/-- What is parsed is printed. -/
theorem parts_back (s : ByteArray) : ∀ (n f : Nat) (acc r : List Nat), s.size - f < n → f ≤ s.size → (partsA s f).foldl (pStep s) (some acc) = some r →
    ∃ l, r = acc ++ l ∧ l ≠ [] ∧ (∀ x ∈ l, x ≠ 0) ∧ (bytesN s).drop f = printT l
  | 0, _, _, _, h, _, _ => by omega
  | n + 1, f, acc, r, hn, hf, h => by
    obtain ⟨d1, d2, d3, d4⟩ := dash_is s f hf
    rw [partsA_step s f hf, List.foldl_cons] at h
    obtain ⟨x, hx⟩ : ∃ x, ptN s ⟨(f, dash s f), d1, d2⟩ = x := ⟨_, rfl⟩
    by_cases hbad : x = 0 ∨ acc.length = 4
    · rw [pStep_no (by rw [hx]; exact hbad), pSt_none] at h; cases h
    · have hx0 : x ≠ 0 := fun e => hbad (.inl e)
      have hb : dotsN x 6 = ((bytesN s).drop f).take (dash s f - f) := by
        rw [← bytesN_ext]
        have : ofN (bytesN (s.extract f (dash s f))) = x := hx
        rw [← this]
        exact dots_of _ (by rw [this]; exact hx0)
      rw [pStep_yes (by rw [hx]; exact hx0) (fun e => hbad (.inr e)), hx] at h
      by_cases hlt : dash s f < s.size
      · rw [if_pos hlt] at h
        obtain ⟨l, h1, h2, h3, h4⟩ := parts_back s n (dash s f + 1) (acc ++ [x]) r (by omega) (by omega) h
        refine ⟨x :: l, by rw [h1]; simp, by simp, fun z hz => ?_, ?_⟩
        · rcases List.mem_cons.1 hz with rfl | hz
          · exact hx0
          · exact h3 z hz
        · have hsp : (bytesN s).drop f = dotsN x 6 ++ 45 :: printT l := by
            rw [hb, ← h4]
            have hl : dash s f < (bytesN s).length := by rw [bytesN_len]; exact hlt
            have e45 : (bytesN s)[dash s f] = 45 := by
              have := d4 hlt
              unfold bAt at this
              rw [List.getD_eq_getElem?_getD, List.getElem?_eq_getElem hl] at this
              exact this
            have e2 : (bytesN s).drop (dash s f) = 45 :: (bytesN s).drop (dash s f + 1) := by rw [List.drop_eq_getElem_cons hl, e45]
            rw [← e2]
            have e3 : (bytesN s).drop (dash s f) = ((bytesN s).drop f).drop (dash s f - f) := by rw [List.drop_drop]; congr 1; omega
            rw [e3, List.take_append_drop]
          rw [hsp]
          cases l with
          | nil => exact absurd rfl h2
          | cons y l => rfl
      · rw [if_neg hlt, List.foldl_nil] at h
        have hds : dash s f = s.size := by omega
        refine ⟨[x], (Option.some.inj h).symm, by simp, fun z hz => by simp at hz; rw [hz]; exact hx0, ?_⟩
        show _ = dotsN x 6
        rw [hb, hds, ← drop_len, List.take_length]
theorem printT_lt : ∀ (l : List Nat), ∀ x ∈ printT l, x < 256
  | [], x, h => by simp [printT] at h
  | [y], x, h => by
    simp only [printT, dotsN, List.mem_map, List.mem_filter, List.mem_range] at h
    obtain ⟨i, ⟨hi, _⟩, rfl⟩ := h
    omega
  | y :: z :: r, x, h => by
    simp only [printT, List.mem_append, List.mem_cons] at h
    rcases h with h | rfl | h
    · simp only [dotsN, List.mem_map, List.mem_filter, List.mem_range] at h
      obtain ⟨i, ⟨hi, _⟩, rfl⟩ := h
      omega
    · omega
    · exact printT_lt (z :: r) x h
theorem print_cases (s : ByteArray) : (printOK s ∧ printE s = 0 ∧ printV s = bytesOf (printT (bytesN s))) ∨ printE s = 1 := by
  unfold printE printV
  by_cases h : printOK s
  · left; rw [if_pos h, if_pos h]; exact ⟨h, rfl, rfl⟩
  · right; rw [if_neg h]
theorem print_there (s : ByteArray) (h : printOK s) : parseV (printV s) = s ∧ parseAt (printV s) = 0 ∧ parseE (printV s) = 0 := by
  have hV : printV s = bytesOf (printT (bytesN s)) := by unfold printV; rw [if_pos h]
  obtain ⟨h1, h4, hb⟩ := h
  have hA := allP_of hb
  have hN : bytesN (printV s) = printT (bytesN s) := by rw [hV]; exact bytesN_bytesOf _ (printT_lt _)
  have hp := parse_from (printV s) (bytesN s) 0 [] (by intro e; have := congrArg List.length e; rw [bytesN_len] at this; simp only [List.length_nil] at this; omega)
    (fun x hx => by
      obtain ⟨j, hj, rfl⟩ := mem_bytes s hx
      have := hA j hj
      unfold okP at this
      simpa using this) (by omega) (by rw [List.drop_zero]; exact hN) (by rw [bytesN_len]; simp; exact h4)
  obtain ⟨r1, r2, r3⟩ := parse_ok (printV s) (bytesN s) (by rw [List.nil_append] at hp; exact hp)
  exact ⟨by rw [r1]; exact bytesOf_bytesN s, r2, r3⟩
theorem parse_there (s : ByteArray) (h : parseE s = 0) : printV (parseV s) = s ∧ printE (parseV s) = 0 := by
  unfold parseE at h
  cases hL : parseL s with
  | none => rw [hL] at h; cases h
  | some l =>
    have hl := pSt_le (show pSt s (partsA s 0) = some l from hL)
    obtain ⟨l', h1, h2, h3, h4⟩ := parts_back s (s.size + 1) 0 [] l (by omega) (by omega) hL
    rw [List.nil_append] at h1
    subst h1
    rw [List.drop_zero] at h4
    have hV : parseV s = bytesOf l := by unfold parseV; rw [hL]
    have hN : bytesN (bytesOf l) = l := bytesN_bytesOf l (fun x hx => Nat.lt_trans (hl.2 x hx) (by decide))
    have hok : printOK (parseV s) := by
      rw [hV]
      refine ⟨?_, ?_, badAt_all fun j hj => ?_⟩
      · rw [bytesOf_size]
        rcases Nat.eq_zero_or_pos l.length with h0 | h0
        · exact absurd (List.eq_nil_of_length_eq_zero h0) h2
        · exact h0
      · rw [bytesOf_size]; exact hl.1
      · rw [bytesOf_size] at hj
        have e : bAt (bytesOf l) j = l[j] := by
          unfold bAt
          rw [hN, List.getD_eq_getElem?_getD, List.getElem?_eq_getElem hj]; rfl
        have hm := List.getElem_mem hj
        have a1 := h3 _ hm
        have a2 := hl.2 _ hm
        unfold okP
        rw [e]
        simp only [decide_eq_true_eq]
        omega
    unfold printV printE
    rw [if_pos hok, if_pos hok]
    refine ⟨?_, rfl⟩
    rw [hV, hN, ← h4, bytesOf_bytesN]
end Go.Proofs.YtalehelgemmmeaaGreatDoor.Ce
