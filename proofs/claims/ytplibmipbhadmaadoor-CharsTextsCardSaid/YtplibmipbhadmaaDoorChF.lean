/-
  chars.Case answers how a text is cased.
-/
import Derived.Test.YtplibmipbhadmaaDoorChD
namespace Go.Proofs.YtplibmipbhadmaaDoor
open Go.RowKit Go.Shelf
attribute [local go_sem] Oper.semAt_some

/-- How many of the first n bytes are capitals. -/
def up (s : ByteArray) : Nat → Nat
  | 0 => 0
  | n + 1 => up s n + if kc s n = 2 then 1 else 0
/-- The first n bytes are letters. -/
def allL (s : ByteArray) (n : Nat) : Prop := ∀ j, j < n → kc s j = 1 ∨ kc s j = 2
/-- How a text of letters alone is cased, k of them capitals. -/
def caseV (s : ByteArray) (k : Nat) : Int := if s.size = 0 then 0 else if k = 0 then 1 else if k = 1 ∧ kc s 0 = 2 then 2 else if k = s.size then 3 else 4
def allB (s : ByteArray) : Nat → Bool
  | 0 => true
  | n + 1 => allB s n && (kc s n == 1 || kc s n == 2)
theorem allB_iff (s : ByteArray) : ∀ n, allB s n = true ↔ allL s n
  | 0 => by simp [allB, allL]
  | n + 1 => by
    have ih := allB_iff s n
    simp only [allB, Bool.and_eq_true, ih, Bool.or_eq_true, beq_iff_eq]
    constructor
    · rintro ⟨h1, h2⟩ j hj
      rcases Nat.lt_or_ge j n with h3 | h3
      · exact h1 j h3
      · have e : j = n := by omega
        rw [e]; exact h2
    · exact fun h => ⟨fun j hj => h j (by omega), h n (by omega)⟩
/-- How a text is cased. -/
def caseI (s : ByteArray) : Int := if s.size = 0 then 0 else if allB s s.size then caseV s (up s s.size) else 0
theorem caseI_yes (s : ByteArray) (h : allL s s.size) : caseI s = caseV s (up s s.size) := by
  unfold caseI
  by_cases h0 : s.size = 0
  · rw [if_pos h0]; unfold caseV; rw [if_pos h0]
  · rw [if_neg h0, if_pos ((allB_iff s s.size).2 h)]
theorem caseI_no (s : ByteArray) (h : ¬ allL s s.size) : caseI s = 0 := by
  unfold caseI
  by_cases h0 : s.size = 0
  · rw [if_pos h0]
  · rw [if_neg h0, if_neg (fun hb => h ((allB_iff s s.size).1 hb))]

theorem up_le (s : ByteArray) : ∀ n, up s n ≤ n
  | 0 => Nat.le_refl _
  | n + 1 => by have := up_le s n; unfold up; split <;> omega
theorem up_run (s : ByteArray) (f : Nat) : ∀ e, f ≤ e → (∀ j, f ≤ j → j < e → kc s j = kc s f) → up s e = up s f + if kc s f = 2 then e - f else 0
  | 0, h, _ => by obtain rfl : f = 0 := by omega
                  simp
  | e + 1, h, hj => by
    rcases Nat.lt_or_ge f (e + 1) with h1 | h1
    · have ih := up_run s f e (by omega) (fun j h2 h3 => hj j h2 (by omega))
      have he := hj e (by omega) (by omega)
      rw [up, ih, he]
      split <;> omega
    · obtain rfl : f = e + 1 := by omega
      simp
/-- How many capitals the runs hold. -/
def capN (s : ByteArray) (l : List (Rn s)) : Nat := (l.map fun x => if kc s x.1.1 = 2 then x.1.2 - x.1.1 else 0).sum
theorem capN_snoc (s : ByteArray) (l : List (Rn s)) (x : Rn s) : capN s (l ++ [x]) = capN s l + if kc s x.1.1 = 2 then x.1.2 - x.1.1 else 0 := by simp [capN]
theorem capN_le (s : ByteArray) : ∀ l : List (Rn s), capN s l ≤ l.length * s.size
  | [] => by simp [capN]
  | x :: l => by
    have ih := capN_le s l
    have e : capN s (x :: l) = (if kc s x.1.1 = 2 then x.1.2 - x.1.1 else 0) + capN s l := by simp [capN]
    rw [e, List.length_cons, Nat.succ_mul]
    have := x.2
    split <;> omega
theorem capN_from (s : ByteArray) : ∀ n f, s.size - f ≤ n → f ≤ s.size → capN s (runsA s f) + up s f = up s s.size
  | 0, f, hn, hf => by
    obtain rfl : f = s.size := by omega
    rw [runsA_end s s.size (Nat.le_refl _)]; simp [capN]
  | n + 1, f, hn, hf => by
    rcases Nat.lt_or_ge f s.size with h | h
    · obtain ⟨h1, h2, h3, _⟩ := nextEnd_is s f h
      have ih := capN_from s n (nextEnd s f) (by omega) h2
      have hu := up_run s f (nextEnd s f) (by omega) h3
      rw [runsA_step s f h]
      have e : ∀ (x : Rn s) l, capN s (x :: l) = (if kc s x.1.1 = 2 then x.1.2 - x.1.1 else 0) + capN s l := fun x l => by simp [capN]
      rw [e]
      simp only []
      omega
    · obtain rfl : f = s.size := by omega
      rw [runsA_end s s.size (Nat.le_refl _)]; simp [capN]
theorem capN_all (s : ByteArray) : capN s (runsA s 0) = up s s.size := by have := capN_from s s.size 0 (by omega) (by omega); simpa [up] using this
theorem mem_of_byte (s : ByteArray) (j : Nat) (hj : j < s.size) : ∀ n f, s.size - f ≤ n → f ≤ j → ∃ x ∈ runsA s f, kc s j = kc s x.1.1
  | 0, f, hn, hf => by omega
  | n + 1, f, hn, hf => by
    have hlt : f < s.size := by omega
    obtain ⟨h1, h2, h3, _⟩ := nextEnd_is s f hlt
    rw [runsA_step s f hlt]
    rcases Nat.lt_or_ge j (nextEnd s f) with h | h
    · exact ⟨_, List.mem_cons_self, h3 j hf h⟩
    · obtain ⟨x, hx, he⟩ := mem_of_byte s j hj n (nextEnd s f) (by omega) h
      exact ⟨x, List.mem_cons_of_mem _ hx, he⟩
/-- Each run that has come is of letters. -/
def runsL2 (s : ByteArray) (l : List (Rn s)) : Prop := ∀ x ∈ l, kc s x.1.1 = 1 ∨ kc s x.1.1 = 2
theorem runsL2.snoc {s : ByteArray} {l : List (Rn s)} {x : Rn s} (h : runsL2 s l) (hx : kc s x.1.1 = 1 ∨ kc s x.1.1 = 2) : runsL2 s (l ++ [x]) := fun y hy => by
  rcases List.mem_append.1 hy with hy | hy
  · exact h y hy
  · simp at hy; subst hy; exact hx
theorem allL_of (s : ByteArray) (h : runsL2 s (runsA s 0)) : allL s s.size := fun j hj => by
  obtain ⟨x, hx, he⟩ := mem_of_byte s j hj s.size 0 (by omega) (by omega)
  rw [he]; exact h x hx
theorem not_allL (s : ByteArray) {pre : List (Rn s)} (x : Rn s) (_ : x ∈ pre) (h1 : ¬ (kc s x.1.1 = 1 ∨ kc s x.1.1 = 2)) : ¬ allL s s.size := fun h => h1 (h _ (by have := x.2; omega))

theorem ext_get (s : ByteArray) (a b : Nat) (h : a < b) (hb : b ≤ s.size) (h0 : 0 < (s.extract a b).size) : (s.extract a b)[0] = s[a] := by
  rw [ByteArray.getElem_extract]; rfl
theorem ext_size (s : ByteArray) (a b : Nat) (hb : b ≤ s.size) : (s.extract a b).size = b - a := by
  rw [ByteArray.size_extract]; omega
theorem class_ext (s : ByteArray) (a b : Nat) (h : a < b) (hb : b ≤ s.size) (h0 : 0 < (s.extract a b).size) (v : Int) (hv : kc s a = v) (w : World) (hL : Laid w) :
    Calls Tryd.prog 7 #[.int .u8 (((s.extract a b)[0].toNat : Nat) : Int)] w fun e w' => e = .returned (.int .i64 v) ∧ w = w' := by
  rw [ext_get s a b h hb h0]; exact class_byte s a (by omega) v hv w hL

theorem isEmpty_no (s : ByteArray) (h : ¬ s.size = 0) : s.toList.isEmpty = false := by
  have := Classical.propDecidable (s = ByteArray.empty)
  rw [← decide_eq_emptyBytes]
  simp only [decide_eq_false_iff_not]
  rintro rfl
  exact h rfl

set_option maxHeartbeats 1000000 in
/-- chars.caseOf -/
theorem caseOf_any (s : ByteArray) (k : Nat) (hk : k ≤ s.size) (hs : s.size ≤ 2000) (w : World) (hL : Laid w) :
    Calls Tryd.prog 29 #[.string s, .int .i64 (k : Int)] w fun e w' => e = .returned (.int .i64 (caseV s k)) ∧ w = w' := by
  by_cases h0 : s.size = 0
  · have HV := Lib.hid (show (0 : Int) = caseV s k by unfold caseV; rw [if_pos h0])
    obtain rfl : s = { data := #[] } := ByteArray.size_eq_zero_iff.1 h0
    clear h0
    go_enter Tryd.func29, Tryd.ntmps29
    go_wp2
    go_ret
    exact ⟨ret_int HV.out, rfl⟩
  have hpos : 0 < s.size := by omega
  have e1 : s.toList.isEmpty = false := isEmpty_no s h0
  by_cases k0 : k = 0
  · have HV := Lib.hid (show (1 : Int) = caseV s k by unfold caseV; rw [if_neg h0, if_pos k0])
    subst k0
    clear h0
    show Calls _ _ #[.string s, .int .i64 0] _ _
    go_enter Tryd.func29, Tryd.ntmps29
    go_wp2
    go_ret
    exact ⟨ret_int HV.out, rfl⟩
  have b0 : (((k : Nat) : Int) == 0) = false := by simp; omega
  by_cases k1 : k = 1
  · subst k1
    have hi : (0 : Int) < (s.size : Int) := by omega
    by_cases hc : kc s 0 = 2
    · have HV := Lib.hid (show (2 : Int) = caseV s 1 by unfold caseV; rw [if_neg h0, if_neg (by omega), if_pos ⟨rfl, hc⟩])
      have HC := Lib.hid hc
      clear h0 k0 b0 hc
      show Calls _ _ #[.string s, .int .i64 1] _ _
      go_enter Tryd.func29, Tryd.ntmps29
      go_wp2_with (go_at_call 7; refine (class_byte s 0 hpos _ HC.out w hL).mono ?_; rintro e w' ⟨rfl, rfl⟩)
      go_ret
      exact ⟨ret_int HV.out, rfl⟩
    · have hb : (kc s 0 == 2) = false := by simpa using hc
      by_cases h1 : s.size = 1
      · have HV := Lib.hid (show (3 : Int) = caseV s 1 by unfold caseV; rw [if_neg h0, if_neg (by omega), if_neg (fun h => hc h.2), if_pos h1.symm])
        have b1 : ((1 : Int) == (s.size : Int)) = true := by rw [h1]; rfl
        clear h0 k0 b0 hc h1
        show Calls _ _ #[.string s, .int .i64 1] _ _
        go_enter Tryd.func29, Tryd.ntmps29
        go_wp2_with (go_at_call 7; refine (class_byte s 0 hpos _ rfl w hL).mono ?_; rintro e w' ⟨rfl, rfl⟩)
        go_ret
        exact ⟨ret_int HV.out, rfl⟩
      · have HV := Lib.hid (show (4 : Int) = caseV s 1 by unfold caseV; rw [if_neg h0, if_neg (by omega), if_neg (fun h => hc h.2), if_neg (fun h => h1 h.symm)])
        have b1 : ((1 : Int) == (s.size : Int)) = false := by simp; omega
        clear h0 k0 b0 hc h1
        show Calls _ _ #[.string s, .int .i64 1] _ _
        go_enter Tryd.func29, Tryd.ntmps29
        go_wp2_with (go_at_call 7; refine (class_byte s 0 hpos _ rfl w hL).mono ?_; rintro e w' ⟨rfl, rfl⟩)
        go_ret
        exact ⟨ret_int HV.out, rfl⟩
  · have b2 : (((k : Nat) : Int) == 1) = false := by simp; omega
    by_cases h1 : k = s.size
    · have HV := Lib.hid (show (3 : Int) = caseV s k by unfold caseV; rw [if_neg h0, if_neg k0, if_neg (fun h => k1 h.1), if_pos h1])
      have b1 : (((k : Nat) : Int) == (s.size : Int)) = true := by rw [h1]; simp
      clear h0 k0 k1 h1
      go_enter Tryd.func29, Tryd.ntmps29
      go_wp2
      go_ret
      exact ⟨ret_int HV.out, rfl⟩
    · have HV := Lib.hid (show (4 : Int) = caseV s k by unfold caseV; rw [if_neg h0, if_neg k0, if_neg (fun h => k1 h.1), if_neg h1])
      have b1 : (((k : Nat) : Int) == (s.size : Int)) = false := by simp; omega
      clear h0 k0 k1 h1
      go_enter Tryd.func29, Tryd.ntmps29
      go_wp2
      go_ret
      exact ⟨ret_int HV.out, rfl⟩

set_option maxRecDepth 100000 in
set_option maxHeartbeats 1000000 in
/-- chars.Case -/
theorem case_any (s : ByteArray) (hs : s.size ≤ 2000) (w : World) (hL : Laid w) :
    Calls Tryd.prog 24 #[.string s] w fun e w' => e = .returned (.int .i64 (caseI s)) ∧ Below w.heap.size w w' := by
  have hfn : ∀ f, Fence.wide.fn f := fun _ => trivial
  refine (callsIn_wide (n := 3)).1 ?_
  refine callsIn_of_wp_marks Tryd.func24 rfl trivial ?_ rfl
  simp only [Tryd.ntmps24, List.size_toArray, List.length_cons, List.length_nil, Nat.reduceAdd, Nat.reduceSub, Array.replicate_succ, Array.replicate_zero, List.push_toArray, List.append_toArray, List.nil_append, List.cons_append]
  gi_wp2_with (gi_at_call 28; refine (callsIn_wide.2 (runs0_any s _)).mono ?_; rintro e w' ⟨rfl, rfl⟩)
  obtain ⟨W0, hW0⟩ : ∃ W0, (((w.alloc (.cells #[.int .i64 0] 3)).alloc (.cells #[.int .i64 0] 3)).alloc (.cells #[.string s] 9)) = W0 := ⟨_, rfl⟩
  have hsz : W0.heap.size = w.heap.size + 1 + 1 + 1 := by rw [← hW0]; simp
  have bR : Boxed W0 w.heap.size 3 (.int .i64 0) := by rw [← hW0]; exact ((Boxed.new w _ _).alloc _).alloc _
  have bC : Boxed W0 (w.heap.size + 1) 3 (.int .i64 0) := by
    rw [← hW0]; have := (Boxed.new (w.alloc (.cells #[.int .i64 0] 3)) 3 (.int .i64 0)).alloc (.cells #[.string s] 9); rwa [World.size_alloc] at this
  have bN : Boxed W0 (w.heap.size + 1 + 1) 9 (.string s) := by
    rw [← hW0]; have := Boxed.new ((w.alloc (.cells #[.int .i64 0] 3)).alloc (.cells #[.int .i64 0] 3)) 9 (.string s); rwa [World.size_alloc, World.size_alloc] at this
  have hB0 : Below w.heap.size w W0 := by
    rw [← hW0]; exact (((Below.refl _ w).alloc (Nat.le_refl _) _).alloc (by simp) _).alloc (by simp; omega) _
  have hL0 : Laid W0 := hL.below hB0 hL.1
  have hwp := hL.1
  rw [hW0]
  have hN := runsA_len s
  clear hW0
  refine wpIn_rangeFunc_ownG rfl (by omega) (gf := 30) (lb := #[.pointer (some ⟨w.heap.size + 1 + 1, 0, none⟩)]) rfl trivial (enters_of Tryd.func30 (by kernel_rfl) rfl)
    (runs_stops 2 (w.heap.size + 1 + 1) w.heap.size s (by unfold maxLen; omega) hL.1 W0 (by omega) bN.cell hL0) KeepN.trans (keepN_b (by omega) (by omega)) (Below.refl _ _) (fun _ => rfl)
    (fun pre W => (Boxed W w.heap.size 3 (.int .i64 0) ∧ Boxed W (w.heap.size + 1) 3 (.int .i64 ((capN s pre : Nat) : Int)) ∧ runsL2 s pre) ∧ Below w.heap.size w W)
    (fun c pre W => (c = .ret ∧ (∃ x ∈ pre, ¬ (kc s x.1.1 = 1 ∨ kc s x.1.1 = 2)) ∧ Boxed W w.heap.size 3 (.int .i64 0)) ∧ Below w.heap.size w W)
    (OwnFrom.and (Own.from (fun pre A B row hs hg hr => ⟨boxed_own _ _ (fun _ : List (Rn s) => _) pre A B row hs.1 hg hr, boxed_own _ _ (fun pre : List (Rn s) => .int .i64 ((capN s pre : Nat) : Int)) pre A B row hs.2.1 hg hr, hs.2.2⟩) _) (ownFrom_below (by omega) (by omega)))
    (fun c => OwnFrom.and (Own.from (fun pre A B row hs hg hr => ⟨hs.1, hs.2.1, boxed_own _ _ (fun _ : List (Rn s) => _) pre A B row hs.2.2 hg hr⟩) _) (ownFrom_below (by omega) (by omega)))
    ⟨⟨bR, bC, fun x hx => by simp at hx⟩, hB0⟩
    (fun x => { tmps := #[.string s, undef, .pointer (some ⟨w.heap.size, 0, none⟩), .pointer (some ⟨w.heap.size + 1, 0, none⟩), undef, .string (s.extract x.1.1 x.1.2), .string s,
      .func (.func 30) #[] #[.pointer (some ⟨w.heap.size + 1 + 1, 0, none⟩)], .int .i64 ((x.1.1 : Nat) : Int), .string (s.extract x.1.1 x.1.2),
      undef, undef, undef, undef, undef, undef, undef, undef, undef, undef, undef, undef, undef, undef], defers := [] }) ?assign ?body ?done ?stop
  case assign =>
    intro l x W K hK
    dsimp only [encR]
    gi_wp2
    exact hK
  case body =>
    rintro l pre x W ⟨⟨h0, h1, h2⟩, hB⟩ hlt
    have hLW := hL.below hB hL.1
    obtain ⟨x1, x2⟩ := x.2
    have hes := ext_size s x.1.1 x.1.2 x2
    have he0 : 0 < (s.extract x.1.1 x.1.2).size := by omega
    have he1 : (s.extract x.1.1 x.1.2).size ≤ 2000 := by omega
    have hcn := capN_le s pre
    have hcn2 : capN s pre ≤ 4000000 := Nat.le_trans hcn (Nat.le_trans (Nat.mul_le_mul (show pre.length ≤ 2000 by omega) hs) (by omega))
    have HS := Lib.hid hes; clear hes hcn
    have hc1 := h1.cell
    have hf1 := h1.frozen
    have hc0 := h0.cell
    have hf0 := h0.frozen
    by_cases k2 : kc s x.1.1 = 2
    · have HK := Lib.hid k2; clear k2
      gi_wp2_with (gi_at_call 7; refine (CallsIn.inRound l (callsIn_wide.2 (class_ext s x.1.1 x.1.2 x1 x2 he0 _ HK.out W hLW))).mono ?_; rintro e w' ⟨rfl, rfl⟩)
      have hx := runsL2.snoc h2 (.inr HK.out)
      exact ⟨(KeepsOthers.setCell _ _ _).from _, ⟨(Below.refl w.heap.size W).setCell (p := ⟨w.heap.size + 1, 0, none⟩) (by simp) _, Below.heap_setCell W ⟨w.heap.size + 1, 0, none⟩ _ _ (by simp)⟩,
        ⟨h0.other (by omega) _, by rw [capN_snoc, if_pos HK.out, Int.natCast_add]; exact h1.set _, hx⟩, hB.setCell (p := ⟨w.heap.size + 1, 0, none⟩) (by simp) _⟩
    · have b2 : (kc s x.1.1 == 2) = false := by simpa using k2
      by_cases k1 : kc s x.1.1 = 1
      · have hx := runsL2.snoc h2 (.inl k1)
        have HK := Lib.hid k1; clear k1 b2
        have HK2 := Lib.hid k2; clear k2
        gi_wp2_with (gi_at_call 7; refine (CallsIn.inRound l (callsIn_wide.2 (class_ext s x.1.1 x.1.2 x1 x2 he0 _ HK.out W hLW))).mono ?_; rintro e w' ⟨rfl, rfl⟩)
        exact ⟨KeepsFrom.refl _ _, KeepN.refl _ _ _, ⟨h0, by rw [capN_snoc, if_neg HK2.out]; exact h1, hx⟩, hB⟩
      · have b1 : (kc s x.1.1 == 1) = false := by simpa using k1
        have HK := Lib.hid (show ¬ (kc s x.1.1 = 1 ∨ kc s x.1.1 = 2) from fun h => h.elim k1 k2)
        clear k1 k2
        gi_wp2_with (gi_at_call 7; refine (CallsIn.inRound l (callsIn_wide.2 (class_ext s x.1.1 x.1.2 x1 x2 he0 _ rfl W hLW))).mono ?_; rintro e w' ⟨rfl, rfl⟩)
        exact ⟨(KeepsOthers.setCell _ _ _).from _, ⟨rfl, ⟨x, List.mem_append.2 (.inr (by simp)), HK.out⟩, h0.set _⟩, hB.setCell (p := ⟨w.heap.size, 0, none⟩) (Nat.le_refl _) _⟩
  case done =>
    rintro D ys W hD rfl ⟨⟨h0, h1, h2⟩, hB⟩ hK
    have hLW := hL.below hB hL.1
    have hall := allL_of s h2
    have HV := Lib.hid (caseI_yes s hall)
    rw [capN_all] at h1
    have hul := up_le s s.size
    have hc1 := h1.cell
    have hc0 := h0.cell
    have hf0 := h0.frozen
    gi_wp2_with (gi_at_call 29; refine (callsIn_wide.2 (caseOf_any s (up s s.size) hul hs W hLW)).mono ?_; rintro e w' ⟨rfl, rfl⟩)
    have hK' := (KeepsOthers.setCell W ⟨w.heap.size, 0, none⟩ (.int .i64 (caseV s (up s s.size)))).same D _ hK rfl
    refine ⟨by simp, .inl ⟨_, _, rfl, run_takeDeferred hK', ?_⟩⟩
    have hc5 := cell_kept (h0.set (.int .i64 (caseV s (up s s.size)))).cell (grownBy_putObj' _ D (.deferred none)) (fun r e => by cases e; exact ⟨_, hK', rfl⟩)
    refine ⟨.int .i64 (caseV s (up s s.size)), ?_, ret_int HV.out.symm, (hB.setCell (p := ⟨w.heap.size, 0, none⟩) (Nat.le_refl _) _).trans (belowK_b (w := w) (Nat.le_refl _) _ D _ _ (by omega) hK' rfl rfl)⟩
    simp [results, Tryd.f24, go_sem, hc5]
  case stop =>
    rintro D c pre W hD hpre ⟨⟨rfl, ⟨x, hx, hn⟩, h0⟩, hB⟩ hK
    have HV := Lib.hid (caseI_no s (not_allL s x hx hn))
    clear hn
    have hc0 := h0.cell
    gi_wp2
    refine ⟨by simp, .inl ⟨_, _, rfl, run_takeDeferred hK, ?_⟩⟩
    have hc5 := cell_kept hc0 (grownBy_putObj' _ D (.deferred none)) (fun r e => by cases e; exact ⟨_, hK, rfl⟩)
    refine ⟨.int .i64 0, ?_, ret_int HV.out.symm, hB.trans (belowK_b (w := w) (Nat.le_refl _) W D _ _ (by omega) hK rfl rfl)⟩
    simp [results, Tryd.f24, go_sem, hc5]
end Go.Proofs.YtplibmipbhadmaaDoor
