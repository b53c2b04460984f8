/-
  styluslaw09's rule, long, awake.
-/
import Derived.Test.YtlibmfflgpkjmaaGreatDoorCmG
import Derived.Test.YtlibmfflgpkjmaaGreatDoorQi
namespace Go.Proofs.YtlibmfflgpkjmaaGreatDoor.Ck
open Go.RowKit Ba Ru

set_option maxRecDepth 100000 in
set_option maxHeartbeats 2000000 in
/-- styluslaw09.rule -/
theorem rule9_any (q : Int) (S T : ByteArray) (w : World) :
    Calls Tryz.prog 18 #[.int .i64 q, .string S, .string T] w fun e w' => e = .returned (.agg #[.int .i64 q, .string S, .string T, .int .i64 0, .int .i64 0]) ∧ Below w.heap.size w w' := by
  go_enter Tryz.func18, Tryz.ntmps18
  go_wp2
  have hS := BoxS.new w q S T 0 0 23
  have hbb := (Below.refl w.heap.size w).alloc (Nat.le_refl _) (.cells #[.int .i64 q, .string S, .string T, .int .i64 0, .int .i64 0] 23)
  generalize w.alloc _ = w9 at hS hbb ⊢
  obtain ⟨x0, x1, x2, x3, x4, x5⟩ := hS
  refine bodyPost_ret (v := .agg #[.int .i64 q, .string S, .string T, .int .i64 0, .int .i64 0]) (by simp [results, Tryz.f18, go_sem, x0, x1, x2, x3, x4]) rfl ?_
  exact ⟨rfl, hbb⟩
def long9 (l : List Rl) : Bool := decide (450 < l.length) || l.any longX
theorem not_long9 {l : List Rl} (h : long9 l = false) : l.length ≤ 450 ∧ ∀ x ∈ l, x.left.length ≤ 50 ∧ x.cells.length ≤ 50 := by
  unfold long9 at h
  rw [Bool.or_eq_false_iff, decide_eq_false_iff_not, List.any_eq_false] at h
  refine ⟨by omega, fun x hx => ?_⟩
  have := h.2 x hx
  unfold longX at this
  rw [Bool.or_eq_true, decide_eq_true_eq, decide_eq_true_eq] at this
  omega
set_option maxHeartbeats 4000000 in
/-- styluslaw09.long -/
theorem long9_at (v : Value) (l : List Rl) (off : Nat) (_hl : l.length ≤ maxLen) (w : World) (B : Nat) (hv : ReadsR off w B v l) (b : Bool) (hb : long9 l = b) :
    Calls Tryz.prog 5 #[v] w fun e w' => e = .returned (.bool b) ∧ w' = w := by
  obtain ⟨A, c, rfl, hA⟩ := hv
  have HA := Lib.hid hA; clear hA
  have HB := Lib.hid hb; clear hb
  go_enter Tryz.func5, Tryz.ntmps5
  by_cases h450 : 450 < l.length
  · have HV := Lib.hid (show true = b by rw [← HB.out]; unfold long9; rw [decide_eq_true h450, Bool.true_or])
    go_wp2
    go_ret
    rw [← HV.out]
    exact ⟨rfl, rfl⟩
  have t450 : decide (450 < (l.length : Int)) = false := decide_eq_false (by omega)
  have h451 : l.length ≤ 450 := by omega
  clear h450
  go_wp2
  go_loopw [3] (fun i wr => ∃ k : Nat, k ≤ l.length ∧ i = .int .i64 k ∧ (∀ x ∈ l.take k, longX x = false) ∧ wr = w) (fun i _ => l.length - (intOf i).toNat)
  case atStart => exact ⟨0, by omega, rfl, fun x hx => by simp at hx, rfl⟩
  case round =>
    obtain ⟨k, hk, rfl, hN, rfl⟩ := hrel
    by_cases hlt : k < l.length
    · obtain ⟨g, rfl, -, hg⟩ := HA.out (by omega)
      obtain ⟨x, hx⟩ : ∃ x, l[k]? = some x := ⟨_, List.getElem?_eq_getElem hlt⟩
      obtain ⟨-, g1, g2, -, -⟩ := rcell hg k x hx
      have s1 : (bytesOf x.left).size = x.left.length := bytesOf_size _
      have s2 : (bytesOf x.cells).size = x.cells.length := bytesOf_size _
      have HX := Lib.hid hx
      obtain ⟨L, hL⟩ : ∃ L, bytesOf x.left = L := ⟨_, rfl⟩
      obtain ⟨C, hC⟩ : ∃ C, bytesOf x.cells = C := ⟨_, rfl⟩
      rw [hL] at g1 s1
      rw [hC] at g2 s2
      have hyes : longX x = true → true = b := fun h => by
        rw [← HB.out]; unfold long9
        rw [List.any_eq_true.2 ⟨x, List.mem_of_getElem? hx, h⟩, Bool.or_true]
      have hno : longX x = false → ∀ y ∈ l.take (k + 1), longX y = false := fun h y hy => by
        rw [List.take_add_one, HX.out, List.mem_append] at hy
        rcases hy with hy | hy
        · exact hN y hy
        · rw [Option.toList_some, List.mem_singleton] at hy
          rw [hy]; exact h
      clear hg hx hL hC hN HA
      by_cases c1 : 50 < L.size
      · have HV := Lib.hid (hyes (by unfold longX; rw [decide_eq_true (by omega), Bool.true_or]))
        clear hyes hno s1 s2
        go_wp2
        go_ret
        rw [← HV.out]
        exact ⟨rfl, rfl⟩
      · have u1 : decide (50 < (L.size : Int)) = false := decide_eq_false (by omega)
        by_cases c2 : 50 < C.size
        · have HV := Lib.hid (hyes (by unfold longX; rw [decide_eq_true (p := 50 < x.cells.length) (by omega), Bool.or_true]))
          clear hyes hno s1 s2 c1
          go_wp2
          go_ret
          rw [← HV.out]
          exact ⟨rfl, rfl⟩
        · have u2 : decide (50 < (C.size : Int)) = false := decide_eq_false (by omega)
          have HV := Lib.hid (hno (by unfold longX; rw [decide_eq_false (by omega), decide_eq_false (by omega)]; rfl))
          clear hyes hno s1 s2 c1 c2
          go_wp2
          go_roundw
          case rel => exact ⟨k + 1, by omega, by go_num, HV.out, trivial⟩
          case measure => simp [intOf]; omega
    · obtain rfl : k = l.length := by omega
      rw [List.take_length] at hN
      have HV := Lib.hid (show false = b by
        rw [← HB.out]; unfold long9
        rw [decide_eq_false (by omega), List.any_eq_false.2 (fun x hx => by rw [hN x hx]; exact Bool.false_ne_true)]; rfl)
      clear hN
      go_wp2
      go_ret
      rw [← HV.out]
      exact ⟨rfl, rfl⟩
theorem none_reads (w : World) : ReadsR 0 w w.heap.size (.slice none 0 0) [] := Reads.nil _ _ _
theorem none_caps : CapsR (.slice none 0 0) := fun A n c e => by
  injection e with _ e1 e2
  subst e1; subst e2
  exact ⟨Nat.le_refl _, by decide⟩
/-- What a law of stage 9 leans on. -/
def Laid9 (w : World) : Prop := LaidR w ∧ LaidM w
theorem Laid9.below {w w' : World} {B : Nat} (h : Laid9 w) (hb : Below B w w') (hB : w.heap.size ≤ B) : Laid9 w' := ⟨h.1.below hb (Nat.lt_of_lt_of_le h.1.1 hB), h.2.below hb (Nat.lt_of_lt_of_le h.2.1 hB)⟩
theorem Laid9.kept {w w' : World} (h : Laid9 w) (hb : Below w.heap.size w w') : Laid9 w' := h.below hb (Nat.le_refl _)
set_option maxRecDepth 100000 in
set_option maxHeartbeats 16000000 in
/-- styluslaw09.awake -/
theorem awake9 (w : World) (hL : Laid9 w) : Calls Tryz.prog 6 #[] w fun e w' => e = .returned (.bool true) ∧ Below w.heap.size w w' := by
  have HL := Lib.hid hL
  have HC1 := Lib.hid (show ∀ W : World, LaidM W → Calls Tryz.prog 7 #[.agg #[.int .i64 1, .string { data := #[97] }, .string { data := #[1] }, .int .i64 0, .int .i64 0], .agg #[.int .i64 2, .string { data := #[97, 98] }, .string { data := #[1, 3] }, .int .i64 0, .int .i64 0]] W fun e w' => e = .returned (.bool true) ∧ Below W.heap.size W w' from fun W hW => clash9_at ⟨1, [97], [1], 0, 0⟩ ⟨2, [97, 98], [1, 3], 0, 0⟩ (by unfold FitR I64 maxLen; decide +kernel) (by unfold FitR I64 maxLen; decide +kernel) (by decide) (by decide) true (by decide +kernel) W hW)
  have HC2 := Lib.hid (show ∀ W : World, LaidM W → Calls Tryz.prog 7 #[.agg #[.int .i64 1, .string { data := #[97] }, .string { data := #[1] }, .int .i64 0, .int .i64 0], .agg #[.int .i64 5, .string { data := #[120] }, .string { data := #[1] }, .int .i64 0, .int .i64 0]] W fun e w' => e = .returned (.bool false) ∧ Below W.heap.size W w' from fun W hW => clash9_at ⟨1, [97], [1], 0, 0⟩ ⟨5, [120], [1], 0, 0⟩ (by unfold FitR I64 maxLen; decide +kernel) (by unfold FitR I64 maxLen; decide +kernel) (by decide) (by decide) false (by decide +kernel) W hW)
  have HC3 := Lib.hid (show ∀ W : World, LaidM W → Calls Tryz.prog 7 #[.agg #[.int .i64 2, .string { data := #[97] }, .string { data := #[1] }, .int .i64 0, .int .i64 0], .agg #[.int .i64 3, .string { data := #[98] }, .string { data := #[1] }, .int .i64 0, .int .i64 0]] W fun e w' => e = .returned (.bool false) ∧ Below W.heap.size W w' from fun W hW => clash9_at ⟨2, [97], [1], 0, 0⟩ ⟨3, [98], [1], 0, 0⟩ (by unfold FitR I64 maxLen; decide +kernel) (by unfold FitR I64 maxLen; decide +kernel) (by decide) (by decide) false (by decide +kernel) W hW)
  have HC4 := Lib.hid (show ∀ W : World, LaidM W → Calls Tryz.prog 7 #[.agg #[.int .i64 8, .string { data := #[98, 108, 107] }, .string { data := #[8] }, .int .i64 0, .int .i64 0], .agg #[.int .i64 1, .string { data := #[99] }, .string { data := #[8, 16] }, .int .i64 0, .int .i64 0]] W fun e w' => e = .returned (.bool true) ∧ Below W.heap.size W w' from fun W hW => clash9_at ⟨8, [98, 108, 107], [8], 0, 0⟩ ⟨1, [99], [8, 16], 0, 0⟩ (by unfold FitR I64 maxLen; decide +kernel) (by unfold FitR I64 maxLen; decide +kernel) (by decide) (by decide) true (by decide +kernel) W hW)
  have HA1 := Lib.hid (show ∀ W : World, LaidR W → Calls Tryz.prog 9 #[.agg #[.int .i64 8, .string { data := #[105, 110, 100] }, .string { data := #[54] }, .int .i64 0, .int .i64 0]] W fun e w' => e = .returned (.bool true) ∧ Below W.heap.size W w' from fun W hW => alone9_at ⟨8, [105, 110, 100], [54], 0, 0⟩ (by unfold FitR I64 maxLen; decide +kernel) (by decide) (by decide) true (by decide +kernel) W hW)
  have HA2 := Lib.hid (show ∀ W : World, LaidR W → Calls Tryz.prog 9 #[.agg #[.int .i64 8, .string { data := #[105, 110, 100] }, .string { data := #[54, 1] }, .int .i64 0, .int .i64 0]] W fun e w' => e = .returned (.bool false) ∧ Below W.heap.size W w' from fun W hW => alone9_at ⟨8, [105, 110, 100], [54, 1], 0, 0⟩ (by unfold FitR I64 maxLen; decide +kernel) (by decide) (by decide) false (by decide +kernel) W hW)
  have HMI := Lib.hid (show ∀ W : World, LaidR W → Calls Tryz.prog 15 #[.slice none 0 0] W fun e w' => e = .returned (.string { data := #[97] }) ∧ Below W.heap.size W w' from fun W hW => missing9_at (.slice none 0 0) [] 0 (by decide) (fun x hx => by cases hx) [97] (by decide +kernel) W hW (none_reads W))
  have HT1 := Lib.hid (show ∀ W : World, Laid9 W → Calls Tryz.prog 13 #[.slice none 0 0] W fun e w' => e = .returned (.tuple #[.int .i64 0, .int .i64 6]) ∧ Below W.heap.size W w' from fun W hW => table9_at (.slice none 0 0) [] 0 (by decide) (fun x hx => by cases hx) none_caps (0, 6) (by decide +kernel) W hW.1 hW.2 (none_reads W))
  have HT2 := Lib.hid (show ∀ (v : Value) (W : World), CapsR v → ReadsR 0 W W.heap.size v baseL → Laid9 W → Calls Tryz.prog 13 #[v] W fun e w' => e = .returned (.tuple #[.int .i64 0, .int .i64 0]) ∧ Below W.heap.size W w' from fun v W hc hr hW => table9_at v baseL 0 (by rw [base_len]; decide) base_fit hc (0, 0) base_table W hW.1 hW.2 hr)
  clear hL
  go_enter Tryz.func6, Tryz.ntmps6
  go_wp2_with fail
  refine (rule9_any _ _ _ _).mono ?_
  rintro e w1 ⟨rfl, hb1⟩
  have HB1 := Lib.hid hb1
  clear hb1
  go_upto_region 2 with fail
  have hx := BoxS.new w1 1 { data := #[97] } { data := #[1] } 0 0 23
  have hw := HB1.out.alloc HB1.out.size (.cells #[.int .i64 1, .string { data := #[97] }, .string { data := #[1] }, .int .i64 0, .int .i64 0] 23)
  generalize w1.alloc _ = w2 at hx hw ⊢
  obtain ⟨bx, hbx⟩ : ∃ n, w1.heap.size = n := ⟨_, rfl⟩
  rw [hbx] at hx ⊢
  have HX2 := Lib.hid hx
  have HW2 := Lib.hid hw
  clear hx hw hbx
  go_wp2_with fail
  refine (HT1.out _ (HL.out.kept HW2.out)).mono ?_
  rintro e w3 ⟨rfl, hb3⟩
  have HX3 := Lib.hid (HX2.out.kept hb3)
  have HW3 := Lib.hid (chain HW2.out HW2.out.size hb3)
  clear hb3
  go_wp2_with fail
  refine (rbase_any _).mono ?_
  rintro e wb ⟨vb, rfl, ownb, hbb⟩
  have HXb := Lib.hid (HX3.out.kept hbb)
  have HWb := Lib.hid (chain HW3.out HW3.out.size hbb)
  have HRb := Lib.hid (Reads.of_own (f := cR) (n := 5) cR_len base_len ownb)
  have HCb := Lib.hid (capsR_own ownb)
  clear ownb hbb
  go_wp2_with fail
  refine (HT2.out _ _ HCb.out HRb.out (HL.out.kept HWb.out)).mono ?_
  rintro e w4 ⟨rfl, hb4⟩
  have HX := Lib.hid (HXb.out.kept hb4)
  have HW := Lib.hid (chain HWb.out HWb.out.size hb4)
  clear hb4
  go_upto_region 4 with fail
  have hS := (⟨HX.out.kept (Below.refl _ _).drew, chain HW.out HW.out.size (Below.refl _ _).drew⟩ : BoxS w4.drew bx 1 { data := #[97] } { data := #[1] } 0 0 ∧ Below w.heap.size w w4.drew)
  refine wp_region_held_drew (S := fun W => BoxS W bx 1 { data := #[97] } { data := #[1] } 0 0 ∧ Below w.heap.size w W) (by kernel_rfl) hS (fun hHeld => ?_)
  refine wpAnyH_take (i := 0) (v := ?_) (by simp only [List.getElem?_toArray, List.getElem?_cons_zero]; rfl) (by kernel_rfl) (by kernel_rfl) (by kernel_rfl) (by exact fun _ _ _ h => h) (Or.inl ⟨by rfl, ?_⟩) (by with_reducible exact hS) ?_
  rotate_left
  · intro W hSw; (obtain ⟨⟨x0, x1, x2, x3, x4, x5⟩, -⟩ := hSw); go_simp; all_goals (with_reducible rfl)
  try simp only [Act.put, List.setIfInBounds_toArray, List.set_cons_zero, List.set_cons_succ]
  refine Rg.take_one 1 (by simp only [List.getElem?_toArray, List.getElem?_cons_succ, List.getElem?_cons_zero]; rfl) (by kernel_rfl) (fun K hK => ?_)
  go_simp
  go_at_call 18
  refine (rule9_any _ _ _ _).mono ?_
  rintro en w_1 ⟨rfl, hb_1⟩
  have hS1 : BoxS w_1 bx 1 { data := #[97] } { data := #[1] } 0 0 ∧ Below w.heap.size w w_1 := ⟨hS.1.kept hb_1, chain hS.2 hS.2.size hb_1⟩
  go_wp2_with fail
  refine hK.out _ _ hS1 (fun hHeld1 => ?_)
  clear hK K
  try simp only [Act.put, List.setIfInBounds_toArray, List.set_cons_zero, List.set_cons_succ]
  refine Rg.take_one 2 (by simp only [List.getElem?_toArray, List.getElem?_cons_succ, List.getElem?_cons_zero]; rfl) (by kernel_rfl) (fun K hK => ?_)
  go_simp
  go_at_call 7
  refine (HC1.out _ (HL.out.kept hS1.2).2).mono ?_
  rintro en w_2 ⟨rfl, hb_2⟩
  have hS2 : BoxS w_2 bx 1 { data := #[97] } { data := #[1] } 0 0 ∧ Below w.heap.size w w_2 := ⟨hS1.1.kept hb_2, chain hS1.2 hS1.2.size hb_2⟩
  go_wp2_with fail
  refine hK.out _ _ hS2 (fun hHeld2 => ?_)
  clear hK K
  try simp only [Act.put, List.setIfInBounds_toArray, List.set_cons_zero, List.set_cons_succ]
  refine wpAnyH_take (i := 3) (v := ?_) (by simp only [List.getElem?_toArray, List.getElem?_cons_succ, List.getElem?_cons_zero]; rfl) (by kernel_rfl) (by kernel_rfl) (by kernel_rfl) (by exact fun _ _ _ h => h) (Or.inl ⟨by rfl, ?_⟩) (by with_reducible exact hS2) ?_
  rotate_left
  · intro W hSw; (obtain ⟨⟨x0, x1, x2, x3, x4, x5⟩, -⟩ := hSw); go_simp; all_goals (with_reducible rfl)
  try simp only [Act.put, List.setIfInBounds_toArray, List.set_cons_zero, List.set_cons_succ]
  refine wpAnyH_take (i := 4) (v := ?_) (by simp only [List.getElem?_toArray, List.getElem?_cons_succ, List.getElem?_cons_zero]; rfl) (by kernel_rfl) (by kernel_rfl) (by kernel_rfl) (by exact fun _ _ _ h => h) (Or.inl ⟨by rfl, ?_⟩) (by with_reducible exact hS2) ?_
  rotate_left
  · intro W hSw; (obtain ⟨⟨x0, x1, x2, x3, x4, x5⟩, -⟩ := hSw); go_simp; all_goals (with_reducible rfl)
  try simp only [Act.put, List.setIfInBounds_toArray, List.set_cons_zero, List.set_cons_succ]
  refine Rg.take_one 5 (by simp only [List.getElem?_toArray, List.getElem?_cons_succ, List.getElem?_cons_zero]; rfl) (by kernel_rfl) (fun K hK => ?_)
  go_simp
  go_at_call 18
  refine (rule9_any _ _ _ _).mono ?_
  rintro en w_5 ⟨rfl, hb_5⟩
  have hS5 : BoxS w_5 bx 1 { data := #[97] } { data := #[1] } 0 0 ∧ Below w.heap.size w w_5 := ⟨hS2.1.kept hb_5, chain hS2.2 hS2.2.size hb_5⟩
  go_wp2_with fail
  refine hK.out _ _ hS5 (fun hHeld5 => ?_)
  clear hK K
  try simp only [Act.put, List.setIfInBounds_toArray, List.set_cons_zero, List.set_cons_succ]
  refine Rg.take_one 6 (by simp only [List.getElem?_toArray, List.getElem?_cons_succ, List.getElem?_cons_zero]; rfl) (by kernel_rfl) (fun K hK => ?_)
  go_simp
  go_at_call 7
  refine (HC2.out _ (HL.out.kept hS5.2).2).mono ?_
  rintro en w_6 ⟨rfl, hb_6⟩
  have hS6 : BoxS w_6 bx 1 { data := #[97] } { data := #[1] } 0 0 ∧ Below w.heap.size w w_6 := ⟨hS5.1.kept hb_6, chain hS5.2 hS5.2.size hb_6⟩
  go_wp2_with fail
  refine hK.out _ _ hS6 (fun hHeld6 => ?_)
  clear hK K
  try simp only [Act.put, List.setIfInBounds_toArray, List.set_cons_zero, List.set_cons_succ]
  refine wpAnyH_take (i := 7) (v := ?_) (by simp only [List.getElem?_toArray, List.getElem?_cons_succ, List.getElem?_cons_zero]; rfl) (by kernel_rfl) (by kernel_rfl) (by kernel_rfl) (by exact fun _ _ _ h => h) (Or.inl ⟨by rfl, ?_⟩) (by with_reducible exact hS6) ?_
  rotate_left
  · intro W hSw; (obtain ⟨⟨x0, x1, x2, x3, x4, x5⟩, -⟩ := hSw); go_simp; all_goals (with_reducible rfl)
  try simp only [Act.put, List.setIfInBounds_toArray, List.set_cons_zero, List.set_cons_succ]
  refine wpAnyH_take (i := 8) (v := ?_) (by simp only [List.getElem?_toArray, List.getElem?_cons_succ, List.getElem?_cons_zero]; rfl) (by kernel_rfl) (by kernel_rfl) (by kernel_rfl) (by exact fun _ _ _ h => h) (Or.inl ⟨by rfl, ?_⟩) (by with_reducible exact hS6) ?_
  rotate_left
  · intro W hSw; (obtain ⟨⟨x0, x1, x2, x3, x4, x5⟩, -⟩ := hSw); go_simp; all_goals (with_reducible rfl)
  try simp only [Act.put, List.setIfInBounds_toArray, List.set_cons_zero, List.set_cons_succ]
  refine wpAnyH_take (i := 9) (v := ?_) (by simp only [List.getElem?_toArray, List.getElem?_cons_succ, List.getElem?_cons_zero]; rfl) (by kernel_rfl) (by kernel_rfl) (by kernel_rfl) (by exact fun _ _ _ h => h) (Or.inl ⟨by rfl, ?_⟩) (by with_reducible exact hS6) ?_
  rotate_left
  · intro W hSw; (obtain ⟨⟨x0, x1, x2, x3, x4, x5⟩, -⟩ := hSw); go_simp; all_goals (with_reducible rfl)
  try simp only [Act.put, List.setIfInBounds_toArray, List.set_cons_zero, List.set_cons_succ]
  refine Rg.take_one 10 (by simp only [List.getElem?_toArray, List.getElem?_cons_succ, List.getElem?_cons_zero]; rfl) (by kernel_rfl) (fun K hK => ?_)
  go_simp
  go_at_call 18
  refine (rule9_any _ _ _ _).mono ?_
  rintro en w_10 ⟨rfl, hb_10⟩
  have hS10 : BoxS w_10 bx 1 { data := #[97] } { data := #[1] } 0 0 ∧ Below w.heap.size w w_10 := ⟨hS6.1.kept hb_10, chain hS6.2 hS6.2.size hb_10⟩
  go_wp2_with fail
  refine hK.out _ _ hS10 (fun hHeld10 => ?_)
  clear hK K
  try simp only [Act.put, List.setIfInBounds_toArray, List.set_cons_zero, List.set_cons_succ]
  refine Rg.take_one 11 (by simp only [List.getElem?_toArray, List.getElem?_cons_succ, List.getElem?_cons_zero]; rfl) (by kernel_rfl) (fun K hK => ?_)
  go_simp
  go_at_call 18
  refine (rule9_any _ _ _ _).mono ?_
  rintro en w_11 ⟨rfl, hb_11⟩
  have hS11 : BoxS w_11 bx 1 { data := #[97] } { data := #[1] } 0 0 ∧ Below w.heap.size w w_11 := ⟨hS10.1.kept hb_11, chain hS10.2 hS10.2.size hb_11⟩
  go_wp2_with fail
  refine hK.out _ _ hS11 (fun hHeld11 => ?_)
  clear hK K
  try simp only [Act.put, List.setIfInBounds_toArray, List.set_cons_zero, List.set_cons_succ]
  refine Rg.take_one 12 (by simp only [List.getElem?_toArray, List.getElem?_cons_succ, List.getElem?_cons_zero]; rfl) (by kernel_rfl) (fun K hK => ?_)
  go_simp
  go_at_call 7
  refine (HC3.out _ (HL.out.kept hS11.2).2).mono ?_
  rintro en w_12 ⟨rfl, hb_12⟩
  have hS12 : BoxS w_12 bx 1 { data := #[97] } { data := #[1] } 0 0 ∧ Below w.heap.size w w_12 := ⟨hS11.1.kept hb_12, chain hS11.2 hS11.2.size hb_12⟩
  go_wp2_with fail
  refine hK.out _ _ hS12 (fun hHeld12 => ?_)
  clear hK K
  try simp only [Act.put, List.setIfInBounds_toArray, List.set_cons_zero, List.set_cons_succ]
  refine wpAnyH_take (i := 13) (v := ?_) (by simp only [List.getElem?_toArray, List.getElem?_cons_succ, List.getElem?_cons_zero]; rfl) (by kernel_rfl) (by kernel_rfl) (by kernel_rfl) (by exact fun _ _ _ h => h) (Or.inl ⟨by rfl, ?_⟩) (by with_reducible exact hS12) ?_
  rotate_left
  · intro W hSw; (obtain ⟨⟨x0, x1, x2, x3, x4, x5⟩, -⟩ := hSw); go_simp; all_goals (with_reducible rfl)
  try simp only [Act.put, List.setIfInBounds_toArray, List.set_cons_zero, List.set_cons_succ]
  refine wpAnyH_take (i := 14) (v := ?_) (by simp only [List.getElem?_toArray, List.getElem?_cons_succ, List.getElem?_cons_zero]; rfl) (by kernel_rfl) (by kernel_rfl) (by kernel_rfl) (by exact fun _ _ _ h => h) (Or.inl ⟨by rfl, ?_⟩) (by with_reducible exact hS12) ?_
  rotate_left
  · intro W hSw; (obtain ⟨⟨x0, x1, x2, x3, x4, x5⟩, -⟩ := hSw); go_simp; all_goals (with_reducible rfl)
  try simp only [Act.put, List.setIfInBounds_toArray, List.set_cons_zero, List.set_cons_succ]
  refine wpAnyH_take (i := 15) (v := ?_) (by simp only [List.getElem?_toArray, List.getElem?_cons_succ, List.getElem?_cons_zero]; rfl) (by kernel_rfl) (by kernel_rfl) (by kernel_rfl) (by exact fun _ _ _ h => h) (Or.inl ⟨by rfl, ?_⟩) (by with_reducible exact hS12) ?_
  rotate_left
  · intro W hSw; (obtain ⟨⟨x0, x1, x2, x3, x4, x5⟩, -⟩ := hSw); go_simp; all_goals (with_reducible rfl)
  try simp only [Act.put, List.setIfInBounds_toArray, List.set_cons_zero, List.set_cons_succ]
  refine Rg.take_one 16 (by simp only [List.getElem?_toArray, List.getElem?_cons_succ, List.getElem?_cons_zero]; rfl) (by kernel_rfl) (fun K hK => ?_)
  go_simp
  go_at_call 18
  refine (rule9_any _ _ _ _).mono ?_
  rintro en w_16 ⟨rfl, hb_16⟩
  have hS16 : BoxS w_16 bx 1 { data := #[97] } { data := #[1] } 0 0 ∧ Below w.heap.size w w_16 := ⟨hS12.1.kept hb_16, chain hS12.2 hS12.2.size hb_16⟩
  go_wp2_with fail
  refine hK.out _ _ hS16 (fun hHeld16 => ?_)
  clear hK K
  try simp only [Act.put, List.setIfInBounds_toArray, List.set_cons_zero, List.set_cons_succ]
  refine Rg.take_one 17 (by simp only [List.getElem?_toArray, List.getElem?_cons_succ, List.getElem?_cons_zero]; rfl) (by kernel_rfl) (fun K hK => ?_)
  go_simp
  go_at_call 18
  refine (rule9_any _ _ _ _).mono ?_
  rintro en w_17 ⟨rfl, hb_17⟩
  have hS17 : BoxS w_17 bx 1 { data := #[97] } { data := #[1] } 0 0 ∧ Below w.heap.size w w_17 := ⟨hS16.1.kept hb_17, chain hS16.2 hS16.2.size hb_17⟩
  go_wp2_with fail
  refine hK.out _ _ hS17 (fun hHeld17 => ?_)
  clear hK K
  try simp only [Act.put, List.setIfInBounds_toArray, List.set_cons_zero, List.set_cons_succ]
  refine Rg.take_one 18 (by simp only [List.getElem?_toArray, List.getElem?_cons_succ, List.getElem?_cons_zero]; rfl) (by kernel_rfl) (fun K hK => ?_)
  go_simp
  go_at_call 7
  refine (HC4.out _ (HL.out.kept hS17.2).2).mono ?_
  rintro en w_18 ⟨rfl, hb_18⟩
  have hS18 : BoxS w_18 bx 1 { data := #[97] } { data := #[1] } 0 0 ∧ Below w.heap.size w w_18 := ⟨hS17.1.kept hb_18, chain hS17.2 hS17.2.size hb_18⟩
  go_wp2_with fail
  refine hK.out _ _ hS18 (fun hHeld18 => ?_)
  clear hK K
  try simp only [Act.put, List.setIfInBounds_toArray, List.set_cons_zero, List.set_cons_succ]
  refine wpAnyH_take (i := 19) (v := ?_) (by simp only [List.getElem?_toArray, List.getElem?_cons_succ, List.getElem?_cons_zero]; rfl) (by kernel_rfl) (by kernel_rfl) (by kernel_rfl) (by exact fun _ _ _ h => h) (Or.inl ⟨by rfl, ?_⟩) (by with_reducible exact hS18) ?_
  rotate_left
  · intro W hSw; (obtain ⟨⟨x0, x1, x2, x3, x4, x5⟩, -⟩ := hSw); go_simp; all_goals (with_reducible rfl)
  try simp only [Act.put, List.setIfInBounds_toArray, List.set_cons_zero, List.set_cons_succ]
  refine wpAnyH_take (i := 20) (v := ?_) (by simp only [List.getElem?_toArray, List.getElem?_cons_succ, List.getElem?_cons_zero]; rfl) (by kernel_rfl) (by kernel_rfl) (by kernel_rfl) (by exact fun _ _ _ h => h) (Or.inl ⟨by rfl, ?_⟩) (by with_reducible exact hS18) ?_
  rotate_left
  · intro W hSw; (obtain ⟨⟨x0, x1, x2, x3, x4, x5⟩, -⟩ := hSw); go_simp; all_goals (with_reducible rfl)
  try simp only [Act.put, List.setIfInBounds_toArray, List.set_cons_zero, List.set_cons_succ]
  refine Rg.take_one 21 (by simp only [List.getElem?_toArray, List.getElem?_cons_succ, List.getElem?_cons_zero]; rfl) (by kernel_rfl) (fun K hK => ?_)
  go_simp
  go_at_call 18
  refine (rule9_any _ _ _ _).mono ?_
  rintro en w_21 ⟨rfl, hb_21⟩
  have hS21 : BoxS w_21 bx 1 { data := #[97] } { data := #[1] } 0 0 ∧ Below w.heap.size w w_21 := ⟨hS18.1.kept hb_21, chain hS18.2 hS18.2.size hb_21⟩
  go_wp2_with fail
  refine hK.out _ _ hS21 (fun hHeld21 => ?_)
  clear hK K
  try simp only [Act.put, List.setIfInBounds_toArray, List.set_cons_zero, List.set_cons_succ]
  refine Rg.take_one 22 (by simp only [List.getElem?_toArray, List.getElem?_cons_succ, List.getElem?_cons_zero]; rfl) (by kernel_rfl) (fun K hK => ?_)
  go_simp
  go_at_call 9
  refine (HA1.out _ (HL.out.kept hS21.2).1).mono ?_
  rintro en w_22 ⟨rfl, hb_22⟩
  have hS22 : BoxS w_22 bx 1 { data := #[97] } { data := #[1] } 0 0 ∧ Below w.heap.size w w_22 := ⟨hS21.1.kept hb_22, chain hS21.2 hS21.2.size hb_22⟩
  go_wp2_with fail
  refine hK.out _ _ hS22 (fun hHeld22 => ?_)
  clear hK K
  try simp only [Act.put, List.setIfInBounds_toArray, List.set_cons_zero, List.set_cons_succ]
  refine wpAnyH_take (i := 23) (v := ?_) (by simp only [List.getElem?_toArray, List.getElem?_cons_succ, List.getElem?_cons_zero]; rfl) (by kernel_rfl) (by kernel_rfl) (by kernel_rfl) (by exact fun _ _ _ h => h) (Or.inl ⟨by rfl, ?_⟩) (by with_reducible exact hS22) ?_
  rotate_left
  · intro W hSw; (obtain ⟨⟨x0, x1, x2, x3, x4, x5⟩, -⟩ := hSw); go_simp; all_goals (with_reducible rfl)
  try simp only [Act.put, List.setIfInBounds_toArray, List.set_cons_zero, List.set_cons_succ]
  refine wpAnyH_take (i := 24) (v := ?_) (by simp only [List.getElem?_toArray, List.getElem?_cons_succ, List.getElem?_cons_zero]; rfl) (by kernel_rfl) (by kernel_rfl) (by kernel_rfl) (by exact fun _ _ _ h => h) (Or.inl ⟨by rfl, ?_⟩) (by with_reducible exact hS22) ?_
  rotate_left
  · intro W hSw; (obtain ⟨⟨x0, x1, x2, x3, x4, x5⟩, -⟩ := hSw); go_simp; all_goals (with_reducible rfl)
  try simp only [Act.put, List.setIfInBounds_toArray, List.set_cons_zero, List.set_cons_succ]
  refine Rg.take_one 25 (by simp only [List.getElem?_toArray, List.getElem?_cons_succ, List.getElem?_cons_zero]; rfl) (by kernel_rfl) (fun K hK => ?_)
  go_simp
  go_at_call 18
  refine (rule9_any _ _ _ _).mono ?_
  rintro en w_25 ⟨rfl, hb_25⟩
  have hS25 : BoxS w_25 bx 1 { data := #[97] } { data := #[1] } 0 0 ∧ Below w.heap.size w w_25 := ⟨hS22.1.kept hb_25, chain hS22.2 hS22.2.size hb_25⟩
  go_wp2_with fail
  refine hK.out _ _ hS25 (fun hHeld25 => ?_)
  clear hK K
  try simp only [Act.put, List.setIfInBounds_toArray, List.set_cons_zero, List.set_cons_succ]
  refine Rg.take_one 26 (by simp only [List.getElem?_toArray, List.getElem?_cons_succ, List.getElem?_cons_zero]; rfl) (by kernel_rfl) (fun K hK => ?_)
  go_simp
  go_at_call 9
  refine (HA2.out _ (HL.out.kept hS25.2).1).mono ?_
  rintro en w_26 ⟨rfl, hb_26⟩
  have hS26 : BoxS w_26 bx 1 { data := #[97] } { data := #[1] } 0 0 ∧ Below w.heap.size w w_26 := ⟨hS25.1.kept hb_26, chain hS25.2 hS25.2.size hb_26⟩
  go_wp2_with fail
  refine hK.out _ _ hS26 (fun hHeld26 => ?_)
  clear hK K
  try simp only [Act.put, List.setIfInBounds_toArray, List.set_cons_zero, List.set_cons_succ]
  refine wpAnyH_take (i := 27) (v := ?_) (by simp only [List.getElem?_toArray, List.getElem?_cons_succ, List.getElem?_cons_zero]; rfl) (by kernel_rfl) (by kernel_rfl) (by kernel_rfl) (by exact fun _ _ _ h => h) (Or.inl ⟨by rfl, ?_⟩) (by with_reducible exact hS26) ?_
  rotate_left
  · intro W hSw; (obtain ⟨⟨x0, x1, x2, x3, x4, x5⟩, -⟩ := hSw); go_simp; all_goals (with_reducible rfl)
  try simp only [Act.put, List.setIfInBounds_toArray, List.set_cons_zero, List.set_cons_succ]
  refine wpAnyH_take (i := 28) (v := ?_) (by simp only [List.getElem?_toArray, List.getElem?_cons_succ, List.getElem?_cons_zero]; rfl) (by kernel_rfl) (by kernel_rfl) (by kernel_rfl) (by exact fun _ _ _ h => h) (Or.inl ⟨by rfl, ?_⟩) (by with_reducible exact hS26) ?_
  rotate_left
  · intro W hSw; (obtain ⟨⟨x0, x1, x2, x3, x4, x5⟩, -⟩ := hSw); go_simp; all_goals (with_reducible rfl)
  try simp only [Act.put, List.setIfInBounds_toArray, List.set_cons_zero, List.set_cons_succ]
  refine wpAnyH_take (i := 29) (v := ?_) (by simp only [List.getElem?_toArray, List.getElem?_cons_succ, List.getElem?_cons_zero]; rfl) (by kernel_rfl) (by kernel_rfl) (by kernel_rfl) (by exact fun _ _ _ h => h) (Or.inl ⟨by rfl, ?_⟩) (by with_reducible exact hS26) ?_
  rotate_left
  · intro W hSw; (obtain ⟨⟨x0, x1, x2, x3, x4, x5⟩, -⟩ := hSw); go_simp; all_goals (with_reducible rfl)
  try simp only [Act.put, List.setIfInBounds_toArray, List.set_cons_zero, List.set_cons_succ]
  refine Rg.take_one 30 (by simp only [List.getElem?_toArray, List.getElem?_cons_succ, List.getElem?_cons_zero]; rfl) (by kernel_rfl) (fun K hK => ?_)
  go_simp
  go_at_call 15
  refine (HMI.out _ (HL.out.kept hS26.2).1).mono ?_
  rintro en w_30 ⟨rfl, hb_30⟩
  have hS30 : BoxS w_30 bx 1 { data := #[97] } { data := #[1] } 0 0 ∧ Below w.heap.size w w_30 := ⟨hS26.1.kept hb_30, chain hS26.2 hS26.2.size hb_30⟩
  go_wp2_with fail
  refine hK.out _ _ hS30 (fun hHeld30 => ?_)
  clear hK K
  try simp only [Act.put, List.setIfInBounds_toArray, List.set_cons_zero, List.set_cons_succ]
  refine wpAnyH_take (i := 31) (v := ?_) (by simp only [List.getElem?_toArray, List.getElem?_cons_succ, List.getElem?_cons_zero]; rfl) (by kernel_rfl) (by kernel_rfl) (by kernel_rfl) (by exact fun _ _ _ h => h) (Or.inl ⟨by rfl, ?_⟩) (by with_reducible exact hS30) ?_
  rotate_left
  · intro W hSw; (obtain ⟨⟨x0, x1, x2, x3, x4, x5⟩, -⟩ := hSw); go_simp; all_goals (with_reducible rfl)
  try simp only [Act.put, List.setIfInBounds_toArray, List.set_cons_zero, List.set_cons_succ]
  refine wpAnyH_take (i := 32) (v := ?_) (by simp only [List.getElem?_toArray, List.getElem?_cons_succ, List.getElem?_cons_zero]; rfl) (by kernel_rfl) (by kernel_rfl) (by kernel_rfl) (by exact fun _ _ _ h => h) (Or.inl ⟨by rfl, ?_⟩) (by with_reducible exact hS30) ?_
  rotate_left
  · intro W hSw; (obtain ⟨⟨x0, x1, x2, x3, x4, x5⟩, -⟩ := hSw); go_simp; all_goals (with_reducible rfl)
  try simp only [Act.put, List.setIfInBounds_toArray, List.set_cons_zero, List.set_cons_succ]
  refine wpAnyH_take (i := 33) (v := ?_) (by simp only [List.getElem?_toArray, List.getElem?_cons_succ, List.getElem?_cons_zero]; rfl) (by kernel_rfl) (by kernel_rfl) (by kernel_rfl) (by exact fun _ _ _ h => h) (Or.inl ⟨by rfl, ?_⟩) (by with_reducible exact hS30) ?_
  rotate_left
  · intro W hSw; (obtain ⟨⟨x0, x1, x2, x3, x4, x5⟩, -⟩ := hSw); go_simp; all_goals (with_reducible rfl)
  try simp only [Act.put, List.setIfInBounds_toArray, List.set_cons_zero, List.set_cons_succ]
  refine wpAnyH_take (i := 34) (v := ?_) (by simp only [List.getElem?_toArray, List.getElem?_cons_succ, List.getElem?_cons_zero]; rfl) (by kernel_rfl) (by kernel_rfl) (by kernel_rfl) (by exact fun _ _ _ h => h) (Or.inl ⟨by rfl, ?_⟩) (by with_reducible exact hS30) ?_
  rotate_left
  · intro W hSw; (obtain ⟨⟨x0, x1, x2, x3, x4, x5⟩, -⟩ := hSw); go_simp; all_goals (with_reducible rfl)
  try simp only [Act.put, List.setIfInBounds_toArray, List.set_cons_zero, List.set_cons_succ]
  refine wpAnyH_take (i := 35) (v := ?_) (by simp only [List.getElem?_toArray, List.getElem?_cons_succ, List.getElem?_cons_zero]; rfl) (by kernel_rfl) (by kernel_rfl) (by kernel_rfl) (by exact fun _ _ _ h => h) (Or.inl ⟨by rfl, ?_⟩) (by with_reducible exact hS30) ?_
  rotate_left
  · intro W hSw; (obtain ⟨⟨x0, x1, x2, x3, x4, x5⟩, -⟩ := hSw); go_simp; all_goals (with_reducible rfl)
  try simp only [Act.put, List.setIfInBounds_toArray, List.set_cons_zero, List.set_cons_succ]
  refine wpAnyH_take (i := 36) (v := ?_) (by simp only [List.getElem?_toArray, List.getElem?_cons_succ, List.getElem?_cons_zero]; rfl) (by kernel_rfl) (by kernel_rfl) (by kernel_rfl) (by exact fun _ _ _ h => h) (Or.inl ⟨by rfl, ?_⟩) (by with_reducible exact hS30) ?_
  rotate_left
  · intro W hSw; (obtain ⟨⟨x0, x1, x2, x3, x4, x5⟩, -⟩ := hSw); go_simp; all_goals (with_reducible rfl)
  try simp only [Act.put, List.setIfInBounds_toArray, List.set_cons_zero, List.set_cons_succ]
  refine wpAnyH_take (i := 37) (v := ?_) (by simp only [List.getElem?_toArray, List.getElem?_cons_succ, List.getElem?_cons_zero]; rfl) (by kernel_rfl) (by kernel_rfl) (by kernel_rfl) (by exact fun _ _ _ h => h) (Or.inl ⟨by rfl, ?_⟩) (by with_reducible exact hS30) ?_
  rotate_left
  · intro W hSw; (obtain ⟨⟨x0, x1, x2, x3, x4, x5⟩, -⟩ := hSw); go_simp; all_goals (with_reducible rfl)
  try simp only [Act.put, List.setIfInBounds_toArray, List.set_cons_zero, List.set_cons_succ]
  refine wpAnyH_take (i := 38) (v := ?_) (by simp only [List.getElem?_toArray, List.getElem?_cons_succ, List.getElem?_cons_zero]; rfl) (by kernel_rfl) (by kernel_rfl) (by kernel_rfl) (by exact fun _ _ _ h => h) (Or.inl ⟨by rfl, ?_⟩) (by with_reducible exact hS30) ?_
  rotate_left
  · intro W hSw; (obtain ⟨⟨x0, x1, x2, x3, x4, x5⟩, -⟩ := hSw); go_simp; all_goals (with_reducible rfl)
  try simp only [Act.put, List.setIfInBounds_toArray, List.set_cons_zero, List.set_cons_succ]
  refine wpAnyH_take (i := 39) (v := ?_) (by simp only [List.getElem?_toArray, List.getElem?_cons_succ, List.getElem?_cons_zero]; rfl) (by kernel_rfl) (by kernel_rfl) (by kernel_rfl) (by exact fun _ _ _ h => h) (Or.inl ⟨by rfl, ?_⟩) (by with_reducible exact hS30) ?_
  rotate_left
  · intro W hSw; (obtain ⟨⟨x0, x1, x2, x3, x4, x5⟩, -⟩ := hSw); go_simp; all_goals (with_reducible rfl)
  try simp only [Act.put, List.setIfInBounds_toArray, List.set_cons_zero, List.set_cons_succ]
  refine wpAnyH_take (i := 40) (v := ?_) (by simp only [List.getElem?_toArray, List.getElem?_cons_succ, List.getElem?_cons_zero]; rfl) (by kernel_rfl) (by kernel_rfl) (by kernel_rfl) (by exact fun _ _ _ h => h) (Or.inl ⟨by rfl, ?_⟩) (by with_reducible exact hS30) ?_
  rotate_left
  · intro W hSw; (obtain ⟨⟨x0, x1, x2, x3, x4, x5⟩, -⟩ := hSw); go_simp; all_goals (with_reducible rfl)
  try simp only [Act.put, List.setIfInBounds_toArray, List.set_cons_zero, List.set_cons_succ]
  refine wpAnyH_take (i := 41) (v := ?_) (by simp only [List.getElem?_toArray, List.getElem?_cons_succ, List.getElem?_cons_zero]; rfl) (by kernel_rfl) (by kernel_rfl) (by kernel_rfl) (by exact fun _ _ _ h => h) (Or.inl ⟨by rfl, ?_⟩) (by with_reducible exact hS30) ?_
  rotate_left
  · intro W hSw; (obtain ⟨⟨x0, x1, x2, x3, x4, x5⟩, -⟩ := hSw); go_simp; all_goals (with_reducible rfl)
  try simp only [Act.put, List.setIfInBounds_toArray, List.set_cons_zero, List.set_cons_succ]
  refine wpAnyH_take (i := 42) (v := ?_) (by simp only [List.getElem?_toArray, List.getElem?_cons_succ, List.getElem?_cons_zero]; rfl) (by kernel_rfl) (by kernel_rfl) (by kernel_rfl) (by exact fun _ _ _ h => h) (Or.inl ⟨by rfl, ?_⟩) (by with_reducible exact hS30) ?_
  rotate_left
  · intro W hSw; (obtain ⟨⟨x0, x1, x2, x3, x4, x5⟩, -⟩ := hSw); go_simp; all_goals (with_reducible rfl)
  try simp only [Act.put, List.setIfInBounds_toArray, List.set_cons_zero, List.set_cons_succ]
  refine wpAnyH_take (i := 43) (v := ?_) (by simp only [List.getElem?_toArray, List.getElem?_cons_succ, List.getElem?_cons_zero]; rfl) (by kernel_rfl) (by kernel_rfl) (by kernel_rfl) (by exact fun _ _ _ h => h) (Or.inl ⟨by rfl, ?_⟩) (by with_reducible exact hS30) ?_
  rotate_left
  · intro W hSw; (obtain ⟨⟨x0, x1, x2, x3, x4, x5⟩, -⟩ := hSw); go_simp; all_goals (with_reducible rfl)
  try simp only [Act.put, List.setIfInBounds_toArray, List.set_cons_zero, List.set_cons_succ]
  refine wpAnyH_take (i := 44) (v := ?_) (by simp only [List.getElem?_toArray, List.getElem?_cons_succ, List.getElem?_cons_zero]; rfl) (by kernel_rfl) (by kernel_rfl) (by kernel_rfl) (by exact fun _ _ _ h => h) (Or.inl ⟨by rfl, ?_⟩) (by with_reducible exact hS30) ?_
  rotate_left
  · intro W hSw; (obtain ⟨⟨x0, x1, x2, x3, x4, x5⟩, -⟩ := hSw); go_simp; all_goals (with_reducible rfl)
  try simp only [Act.put, List.setIfInBounds_toArray, List.set_cons_zero, List.set_cons_succ]
  refine wpAnyH_take (i := 45) (v := ?_) (by simp only [List.getElem?_toArray, List.getElem?_cons_succ, List.getElem?_cons_zero]; rfl) (by kernel_rfl) (by kernel_rfl) (by kernel_rfl) (by exact fun _ _ _ h => h) (Or.inl ⟨by rfl, ?_⟩) (by with_reducible exact hS30) ?_
  rotate_left
  · intro W hSw; (obtain ⟨⟨x0, x1, x2, x3, x4, x5⟩, -⟩ := hSw); go_simp; all_goals (with_reducible rfl)
  try simp only [Act.put, List.setIfInBounds_toArray, List.set_cons_zero, List.set_cons_succ]
  refine wpAnyH_take (i := 46) (v := ?_) (by simp only [List.getElem?_toArray, List.getElem?_cons_succ, List.getElem?_cons_zero]; rfl) (by kernel_rfl) (by kernel_rfl) (by kernel_rfl) (by exact fun _ _ _ h => h) (Or.inl ⟨by rfl, ?_⟩) (by with_reducible exact hS30) ?_
  rotate_left
  · intro W hSw; (obtain ⟨⟨x0, x1, x2, x3, x4, x5⟩, -⟩ := hSw); go_simp; all_goals (with_reducible rfl)
  try simp only [Act.put, List.setIfInBounds_toArray, List.set_cons_zero, List.set_cons_succ]
  refine wpAnyH_take (i := 47) (v := ?_) (by simp only [List.getElem?_toArray, List.getElem?_cons_succ, List.getElem?_cons_zero]; rfl) (by kernel_rfl) (by kernel_rfl) (by kernel_rfl) (by exact fun _ _ _ h => h) (Or.inl ⟨by rfl, ?_⟩) (by with_reducible exact hS30) ?_
  rotate_left
  · intro W hSw; (obtain ⟨⟨x0, x1, x2, x3, x4, x5⟩, -⟩ := hSw); go_simp; all_goals (with_reducible rfl)
  try simp only [Act.put, List.setIfInBounds_toArray, List.set_cons_zero, List.set_cons_succ]
  refine wpAnyH_take (i := 48) (v := ?_) (by simp only [List.getElem?_toArray, List.getElem?_cons_succ, List.getElem?_cons_zero]; rfl) (by kernel_rfl) (by kernel_rfl) (by kernel_rfl) (by exact fun _ _ _ h => h) (Or.inl ⟨by rfl, ?_⟩) (by with_reducible exact hS30) ?_
  rotate_left
  · intro W hSw; (obtain ⟨⟨x0, x1, x2, x3, x4, x5⟩, -⟩ := hSw); go_simp; all_goals (with_reducible rfl)
  try simp only [Act.put, List.setIfInBounds_toArray, List.set_cons_zero, List.set_cons_succ]
  refine wpAnyH_take (i := 49) (v := ?_) (by simp only [List.getElem?_toArray, List.getElem?_cons_succ, List.getElem?_cons_zero]; rfl) (by kernel_rfl) (by kernel_rfl) (by kernel_rfl) (by exact fun _ _ _ h => h) (Or.inl ⟨by rfl, ?_⟩) (by with_reducible exact hS30) ?_
  rotate_left
  · intro W hSw; (obtain ⟨⟨x0, x1, x2, x3, x4, x5⟩, -⟩ := hSw); go_simp; all_goals (with_reducible rfl)
  try simp only [Act.put, List.setIfInBounds_toArray, List.set_cons_zero]
  refine wpAnyH_done (by kernel_rfl) ?_ _
  have HZ := Lib.hid hS30.2
  go_wp2
  go_ret
  exact ⟨rfl, HZ.out⟩
end Go.Proofs.YtlibmfflgpkjmaaGreatDoor.Ck
