/-
  Put together: TjN, TjO.
-/
import Derived.Test.YtjflefchhbihkaaGreatDoorSe
import Derived.Test.YtjflefchhbihkaaGreatDoorTjF
import Derived.Test.YtjflefchhbihkaaGreatDoorTiF
namespace Go.Proofs.YtjflefchhbihkaaGreatDoor.Ti
open Go.RowKit Go.Maps Ba Ru Ck

def zeroA : Array Value := #[.slice none 0 0, .map none, .map none, .map none, .map none, .map none, .map none, .map none, .map none]
/-- Nobody's table. -/
def Nob (w : World) (t : Value) : Prop := t = .pointer none ∨ ∃ a, t = .pointer (some ⟨a, 0, none⟩) ∧ w.heap[a]? = some (.cells zeroA 51)
theorem Nob.below {w w' : World} {t : Value} (h : Nob w t) (hb : Below w.heap.size w w') : Nob w' t := by
  rcases h with h | ⟨a, h1, h2⟩
  · exact .inl h
  · exact .inr ⟨a, h1, (hb.block a (Array.getElem?_eq_some_iff.1 h2).1).trans h2⟩
set_option maxRecDepth 100000 in
set_option maxHeartbeats 4000000 in
/-- (paths).first, of nothing -/
theorem pfirst0_at (cs : ByteArray) (hcs : cs.size ≤ 1000000000) (w : World) :
    Calls Tryz.prog 30 #[.agg #[.map none, .map none], .string cs] w fun x w' => x = .returned (.tuple #[.int .i64 0, .bool false]) ∧ Below w.heap.size w w' := by
  obtain ⟨bx, hbx⟩ : ∃ bx, w.heap.size = bx := ⟨_, rfl⟩
  have HB0 := Lib.hid (show Below w.heap.size w (w.alloc (.cells #[.map none, .map none] 46)) from (Below.refl _ _).alloc (Nat.le_refl _) _)
  have hb0 := heap_alloc_new w (.cells #[.map none, .map none] 46)
  go_enter Tryz.func30, Tryz.ntmps30
  go_wp2
  rw [hbx] at hb0
  generalize (w.alloc (.cells #[.map none, .map none] 46)) = w0 at HB0 hb0 ⊢
  have x0 : w0.cell? ⟨bx, 0, none⟩ = some (.map none) := block_cell hb0 rfl
  clear hbx hb0
  go_loopw [6, 10] (fun p i wr => i = .int .i64 0 ∧ p = .int .i64 0 ∧ wr = w0) (fun _ i _ => cs.size - (intOf i).toNat)
  case atStart => exact ⟨rfl, rfl, rfl⟩
  case round =>
    obtain ⟨rfl, rfl, rfl⟩ := hrel
    by_cases hlt : 0 < cs.size
    · have E1 := bAt_get cs 0 hlt
      have l1 := bAt_lt cs 0
      obtain ⟨c, hc9⟩ : ∃ c, bAt cs 0 = c := ⟨_, rfl⟩
      rw [hc9] at E1 l1
      clear hc9
      have hrun : ∀ m, (Instr.lookup 43 (.map none) (.agg #[.int .i64 0, .int .u8 (c : Int)]) true).run Tryz.prog (wr.drewN m) = .ok (.tuple #[.int .i64 0, .bool false]) (wr.drewN m) := fun m =>
        look_none stepKind (k := (0, c)) ⟨by unfold maxLen; show 0 ≤ _; omega, l1⟩ (wr.drewN m)
      have hs0 : (0 : Int) < (cs.size : Int) := by omega
      go_wp2
      go_quiet (fail)
      go_wp2
      go_ret2
      exact ⟨rfl, below_drewN HB0.out _⟩
    · have hs : cs.size = 0 := by omega
      have hs0 : (cs.size : Int) = 0 := by omega
      go_wp2
      go_ret2
      exact ⟨rfl, HB0.out⟩
set_option maxRecDepth 100000 in
set_option maxHeartbeats 4000000 in
/-- (*Trie).Word, of nobody's -/
theorem nword_at (t : Value) (S : ByteArray) (hS : S.size ≤ 9000) (w : World) (H : Nob w t) : Calls Tryz.prog 14 #[t, .string S] w fun e w' => e = .returned (.tuple #[.int .i64 0, .bool false]) ∧ w' = w := by
  rcases H with rfl | ⟨a, rfl, hz⟩
  · go_enter Tryz.func14, Tryz.ntmps14
    go_wp2
    go_ret2
    exact ⟨rfl, rfl⟩
  · have c7 : w.cell? ⟨a, 7, none⟩ = some (.map none) := block_cell hz rfl
    have hrun := look_none wordKind (k := bytesN S) ⟨by rw [bytesN_len]; unfold maxLen; omega, bytesN_lt S⟩ w
    unfold wordV at hrun
    rw [bytesOf_bytesN] at hrun
    clear hz
    go_enter Tryz.func14, Tryz.ntmps14
    go_wp2
    go_ret2
    exact ⟨rfl, rfl⟩
set_option maxRecDepth 100000 in
set_option maxHeartbeats 4000000 in
/-- (*Trie).Find, of nobody's -/
theorem nfind_at (t : Value) (q : Int) (S : ByteArray) (hS : S.size ≤ 9000) (hq : I64 q) (w : World) (H : Nob w t) : Calls Tryz.prog 16 #[t, .int .i64 q, .string S] w fun e w' => e = .returned (.tuple #[.int .i64 0, .bool false]) ∧ w' = w := by
  rcases H with rfl | ⟨a, rfl, hz⟩
  · go_enter Tryz.func16, Tryz.ntmps16
    go_wp2
    go_ret2
    exact ⟨rfl, rfl⟩
  · have c8 : w.cell? ⟨a, 8, none⟩ = some (.map none) := block_cell hz rfl
    have hrun := look_none aboutKind (k := (q, bytesN S)) ⟨hq, by rw [bytesN_len]; unfold maxLen; omega, bytesN_lt S⟩ w
    unfold aboutV at hrun
    simp only [bytesOf_bytesN] at hrun
    clear hz
    go_enter Tryz.func16, Tryz.ntmps16
    go_wp2
    go_ret2
    exact ⟨rfl, rfl⟩
set_option maxRecDepth 100000 in
set_option maxHeartbeats 4000000 in
/-- (*Trie).Sign, of nobody's -/
theorem nsign_at (t : Value) (S : ByteArray) (hS : S.size ≤ 9000) (w : World) (H : Nob w t) : Calls Tryz.prog 18 #[t, .string S] w fun e w' => e = .returned (.string { data := #[] }) ∧ w' = w := by
  have HQ := Lib.hid (nfind_at t 8 S hS (by unfold I64; omega) w H)
  go_enter Tryz.func18, Tryz.ntmps18
  go_wp2_with fail
  refine HQ.out.mono ?_
  rintro e w2 ⟨rfl, rfl⟩
  go_wp2
  go_ret
  exact ⟨rfl, rfl⟩
set_option maxRecDepth 100000 in
set_option maxHeartbeats 4000000 in
/-- (*Trie).Rules, of nobody's -/
theorem nrules_at (t : Value) (w : World) (H : Nob w t) : Calls Tryz.prog 20 #[t] w fun e w' => e = .returned (.slice none 0 0) ∧ w' = w := by
  rcases H with rfl | ⟨a, rfl, hz⟩
  · go_enter Tryz.func20, Tryz.ntmps20
    go_wp2
    go_ret
    exact ⟨rfl, rfl⟩
  · have c0 : w.cell? ⟨a, 0, none⟩ = some (.slice none 0 0) := block_cell hz rfl
    clear hz
    go_enter Tryz.func20, Tryz.ntmps20
    go_wp2_with (go_at_call 33; refine (clone_nil _).mono ?_; rintro e w2 ⟨rfl, rfl⟩)
    go_ret
    exact ⟨rfl, rfl⟩
set_option maxRecDepth 100000 in
set_option maxHeartbeats 4000000 in
/-- (*Trie).Match, of nobody's -/
theorem nmatch_at (t : Value) (S : ByteArray) (p row : Int) (hS : S.size ≤ 9000) (w : World) (H : Nob w t) : Calls Tryz.prog 12 #[t, .string S, .int .i64 p, .int .i64 row] w fun e w' =>
    e = .returned (.tuple #[.int .i64 0, .bool false]) ∧ Below w.heap.size w w' := by
  rcases H with rfl | ⟨B, rfl, hz⟩
  · go_enter Tryz.func12, Tryz.ntmps12
    go_wp2
    go_ret2
    exact ⟨rfl, Below.refl _ _⟩
  by_cases h : 0 ≤ p ∧ p < S.size ∧ 1 ≤ row ∧ row ≤ 3
  case neg =>
    clear hz
    go_enter Tryz.func12, Tryz.ntmps12
    by_cases h1 : p < 0
    · have t1 : decide (p < 0) = true := decide_eq_true h1
      clear h
      go_wp2
      go_ret2
      exact ⟨rfl, Below.refl _ _⟩
    have t1 : decide (p < 0) = false := decide_eq_false h1
    by_cases h2 : (S.size : Int) ≤ p
    · have t2 : decide ((S.size : Int) ≤ p) = true := decide_eq_true h2
      clear h
      go_wp2
      go_ret2
      exact ⟨rfl, Below.refl _ _⟩
    have t2 : decide ((S.size : Int) ≤ p) = false := decide_eq_false h2
    by_cases h3 : row < 1
    · have t3 : decide (row < 1) = true := decide_eq_true h3
      clear h
      go_wp2
      go_ret2
      exact ⟨rfl, Below.refl _ _⟩
    have t3 : decide (row < 1) = false := decide_eq_false h3
    have h4 : 3 < row := by omega
    have t4 : decide (3 < row) = true := decide_eq_true h4
    clear h
    go_wp2
    go_ret2
    exact ⟨rfl, Below.refl _ _⟩
  case pos =>
    obtain ⟨h1, h2, h3, h4⟩ := h
    obtain ⟨k, rfl⟩ : ∃ k : Nat, p = (k : Int) := ⟨p.toNat, by omega⟩
    obtain ⟨i, hi, rfl⟩ : ∃ i : Nat, i < 3 ∧ row = (i : Int) + 1 := ⟨(row - 1).toNat, by omega, by omega⟩
    have hBl : B < w.heap.size := (Array.getElem?_eq_some_iff.1 hz).1
    have hes : (S.extract k S.size).size ≤ 9000 := by rw [ByteArray.size_extract]; omega
    have HC := Lib.hid (fun (W : World) => pfirst0_at (S.extract k S.size) (by omega) W)
    have q1 : decide ((k : Int) < 0) = false := decide_eq_false (by omega)
    have q2 : decide ((S.size : Int) ≤ (k : Int)) = false := decide_eq_false (by omega)
    have q3 : decide (S.size ≤ k) = false := decide_eq_false (by omega)
    obtain rfl | rfl | rfl : i = 0 ∨ i = 1 ∨ i = 2 := by omega
    · have y1 : IntKind.i64.wrap 0 = 0 := by decide
      have y2 : k ≤ S.size := by omega
      have c1 : w.cell? ⟨B, 1, none⟩ = some (.map none) := block_cell hz rfl
      have c2 : w.cell? ⟨B, 2, none⟩ = some (.map none) := block_cell hz rfl
      clear hz
      have HON := Lib.hid (show ∀ W W' : World, (W.cell? ⟨B, 1, none⟩ = some (.map none) ∧ W.cell? ⟨B, 2, none⟩ = some (.map none) ∧ Below w.heap.size w W) → Below W.heap.size W W' → W'.cell? ⟨B, 1, none⟩ = some (.map none) ∧ W'.cell? ⟨B, 2, none⟩ = some (.map none) ∧ Below w.heap.size w W' from fun W W' h hb => ⟨(hb.cell (p := ⟨B, 1, none⟩) (by have := h.2.2.size; show B < _; omega)).trans h.1, (hb.cell (p := ⟨B, 2, none⟩) (by have := h.2.2.size; show B < _; omega)).trans h.2.1, chain h.2.2 h.2.2.size hb⟩)
      go_enter Tryz.func12, Tryz.ntmps12
      go_wp2
      have hS := (show w.drew.cell? ⟨B, 1, none⟩ = some (.map none) ∧ w.drew.cell? ⟨B, 2, none⟩ = some (.map none) ∧ Below w.heap.size w w.drew from ⟨c1, c2, (Below.refl _ _).drew⟩)
      refine wp_region_held_drew (S := (fun W => W.cell? ⟨B, 1, none⟩ = some (.map none) ∧ W.cell? ⟨B, 2, none⟩ = some (.map none) ∧ Below w.heap.size w W)) (by kernel_rfl) hS (fun hHeld => ?_)
      refine wpAnyH_take (i := 0) (v := ?_) (by simp only [List.getElem?_toArray, List.getElem?_cons_zero]; rfl) (by kernel_rfl) (by kernel_rfl) (by kernel_rfl) (by exact fun _ _ _ h => h) (Or.inl ⟨by rfl, ?_⟩) (by with_reducible exact hS) ?_
      rotate_left
      · intro W hSw; (obtain ⟨z1, z2, -⟩ := hSw); go_simp; all_goals (with_reducible rfl)
      try simp only [Act.put, List.setIfInBounds_toArray, List.set_cons_zero, List.set_cons_succ]
      refine wpAnyH_take (i := 1) (v := ?_) (by simp only [List.getElem?_toArray, List.getElem?_cons_succ, List.getElem?_cons_zero]; rfl) (by kernel_rfl) (by kernel_rfl) (by kernel_rfl) (by exact fun _ _ _ h => h) (Or.inl ⟨by rfl, ?_⟩) (by with_reducible exact hS) ?_
      rotate_left
      · intro W hSw; (obtain ⟨z1, z2, -⟩ := hSw); go_simp; all_goals (with_reducible rfl)
      try simp only [Act.put, List.setIfInBounds_toArray, List.set_cons_zero, List.set_cons_succ]
      refine wpAnyH_take (i := 2) (v := ?_) (by simp only [List.getElem?_toArray, List.getElem?_cons_succ, List.getElem?_cons_zero]; rfl) (by kernel_rfl) (by kernel_rfl) (by kernel_rfl) (by exact fun _ _ _ h => h) (Or.inl ⟨by rfl, ?_⟩) (by with_reducible exact hS) ?_
      rotate_left
      · intro W hSw; (obtain ⟨z1, z2, -⟩ := hSw); go_simp; all_goals (with_reducible rfl)
      try simp only [Act.put, List.setIfInBounds_toArray, List.set_cons_zero, List.set_cons_succ]
      refine wpAnyH_take (i := 3) (v := ?_) (by simp only [List.getElem?_toArray, List.getElem?_cons_succ, List.getElem?_cons_zero]; rfl) (by kernel_rfl) (by kernel_rfl) (by kernel_rfl) (by exact fun _ _ _ h => h) (Or.inl ⟨by rfl, ?_⟩) (by with_reducible exact hS) ?_
      rotate_left
      · intro W hSw; (obtain ⟨z1, z2, -⟩ := hSw); go_simp; all_goals (with_reducible rfl)
      try simp only [Act.put, List.setIfInBounds_toArray, List.set_cons_zero, List.set_cons_succ]
      refine wpAnyH_take (i := 4) (v := ?_) (by simp only [List.getElem?_toArray, List.getElem?_cons_succ, List.getElem?_cons_zero]; rfl) (by kernel_rfl) (by kernel_rfl) (by kernel_rfl) (by exact fun _ _ _ h => h) (Or.inl ⟨by rfl, ?_⟩) (by with_reducible exact hS) ?_
      rotate_left
      · intro W hSw; (obtain ⟨z1, z2, -⟩ := hSw); go_simp; all_goals (with_reducible rfl)
      try simp only [Act.put, List.setIfInBounds_toArray, List.set_cons_zero, List.set_cons_succ]
      refine wpAnyH_take (i := 5) (v := ?_) (by simp only [List.getElem?_toArray, List.getElem?_cons_succ, List.getElem?_cons_zero]; rfl) (by kernel_rfl) (by kernel_rfl) (by kernel_rfl) (by exact fun _ _ _ h => h) (Or.inl ⟨by rfl, ?_⟩) (by with_reducible exact hS) ?_
      rotate_left
      · intro W hSw; (obtain ⟨z1, z2, -⟩ := hSw); go_simp; all_goals (with_reducible rfl)
      try simp only [Act.put, List.setIfInBounds_toArray, List.set_cons_zero, List.set_cons_succ]
      refine wpAnyH_take (i := 6) (v := ?_) (by simp only [List.getElem?_toArray, List.getElem?_cons_succ, List.getElem?_cons_zero]; rfl) (by kernel_rfl) (by kernel_rfl) (by kernel_rfl) (by exact fun _ _ _ h => h) (Or.inl ⟨by rfl, ?_⟩) (by with_reducible exact hS) ?_
      rotate_left
      · intro W hSw; (obtain ⟨z1, z2, -⟩ := hSw); go_simp; all_goals (with_reducible rfl)
      try simp only [Act.put, List.setIfInBounds_toArray, List.set_cons_zero, List.set_cons_succ]
      refine wpAnyH_take (i := 7) (v := ?_) (by simp only [List.getElem?_toArray, List.getElem?_cons_succ, List.getElem?_cons_zero]; rfl) (by kernel_rfl) (by kernel_rfl) (by kernel_rfl) (by exact fun _ _ _ h => h) (Or.inl ⟨by rfl, ?_⟩) (by with_reducible exact hS) ?_
      rotate_left
      · intro W hSw; (obtain ⟨z1, z2, -⟩ := hSw); go_simp; all_goals (with_reducible rfl)
      try simp only [Act.put, List.setIfInBounds_toArray, List.set_cons_zero, List.set_cons_succ]
      refine wpAnyH_take (i := 8) (v := ?_) (by simp only [List.getElem?_toArray, List.getElem?_cons_succ, List.getElem?_cons_zero]; rfl) (by kernel_rfl) (by kernel_rfl) (by kernel_rfl) (by exact fun _ _ _ h => h) (Or.inl ⟨by rfl, ?_⟩) (by with_reducible exact hS) ?_
      rotate_left
      · intro W hSw; (obtain ⟨z1, z2, -⟩ := hSw); go_simp; all_goals (with_reducible rfl)
      try simp only [Act.put, List.setIfInBounds_toArray, List.set_cons_zero, List.set_cons_succ]
      refine wpAnyH_take (i := 9) (v := ?_) (by simp only [List.getElem?_toArray, List.getElem?_cons_succ, List.getElem?_cons_zero]; rfl) (by kernel_rfl) (by kernel_rfl) (by kernel_rfl) (by exact fun _ _ _ h => h) (Or.inl ⟨by rfl, ?_⟩) (by with_reducible exact hS) ?_
      rotate_left
      · intro W hSw; (obtain ⟨z1, z2, -⟩ := hSw); go_simp; all_goals (with_reducible rfl)
      try simp only [Act.put, List.setIfInBounds_toArray, List.set_cons_zero, List.set_cons_succ]
      refine Rg.take_one 10 (by simp only [List.getElem?_toArray, List.getElem?_cons_succ, List.getElem?_cons_zero]; rfl) (by kernel_rfl) (fun K hK => ?_)
      go_simp
      go_at_call 30
      refine (HC.out _).mono ?_
      rintro x w2 ⟨rfl, hb2⟩
      have hS10 := HON.out _ _ hS hb2
      go_wp2_with fail
      refine hK.out _ _ hS10 (fun hHeld10 => ?_)
      clear hK K
      try simp only [Act.put, List.setIfInBounds_toArray, List.set_cons_zero, List.set_cons_succ]
      refine wpAnyH_take (i := 11) (v := ?_) (by simp only [List.getElem?_toArray, List.getElem?_cons_succ, List.getElem?_cons_zero]; rfl) (by kernel_rfl) (by kernel_rfl) (by kernel_rfl) (by exact fun _ _ _ h => h) (Or.inl ⟨by rfl, ?_⟩) (by with_reducible exact hS10) ?_
      rotate_left
      · intro W hSw; (obtain ⟨z1, z2, -⟩ := hSw); go_simp; all_goals (with_reducible rfl)
      try simp only [Act.put, List.setIfInBounds_toArray, List.set_cons_zero, List.set_cons_succ]
      refine wpAnyH_take (i := 12) (v := ?_) (by simp only [List.getElem?_toArray, List.getElem?_cons_succ, List.getElem?_cons_zero]; rfl) (by kernel_rfl) (by kernel_rfl) (by kernel_rfl) (by exact fun _ _ _ h => h) (Or.inl ⟨by rfl, ?_⟩) (by with_reducible exact hS10) ?_
      rotate_left
      · intro W hSw; (obtain ⟨z1, z2, -⟩ := hSw); go_simp; all_goals (with_reducible rfl)
      try simp only [Act.put, List.setIfInBounds_toArray, List.set_cons_zero, List.set_cons_succ]
      refine wpAnyH_take (i := 13) (v := ?_) (by simp only [List.getElem?_toArray, List.getElem?_cons_succ, List.getElem?_cons_zero]; rfl) (by kernel_rfl) (by kernel_rfl) (by kernel_rfl) (by exact fun _ _ _ h => h) (Or.inl ⟨by rfl, ?_⟩) (by with_reducible exact hS10) ?_
      rotate_left
      · intro W hSw; (obtain ⟨z1, z2, -⟩ := hSw); go_simp; all_goals (with_reducible rfl)
      try simp only [Act.put, List.setIfInBounds_toArray, List.set_cons_zero, List.set_cons_succ]
      refine wpAnyH_take (i := 14) (v := ?_) (by simp only [List.getElem?_toArray, List.getElem?_cons_succ, List.getElem?_cons_zero]; rfl) (by kernel_rfl) (by kernel_rfl) (by kernel_rfl) (by exact fun _ _ _ h => h) (Or.inl ⟨by rfl, ?_⟩) (by with_reducible exact hS10) ?_
      rotate_left
      · intro W hSw; (obtain ⟨z1, z2, -⟩ := hSw); go_simp; all_goals (with_reducible rfl)
      try simp only [Act.put, List.setIfInBounds_toArray, List.set_cons_zero, List.set_cons_succ]
      refine wpAnyH_done (by kernel_rfl) ?_ _
      go_wp2
      go_ret2
      exact ⟨rfl, hS10.2.2⟩
    · have y1 : IntKind.i64.wrap 1 = 1 := by decide
      have y2 : k ≤ S.size := by omega
      have c1 : w.cell? ⟨B, 3, none⟩ = some (.map none) := block_cell hz rfl
      have c2 : w.cell? ⟨B, 4, none⟩ = some (.map none) := block_cell hz rfl
      clear hz
      have HON := Lib.hid (show ∀ W W' : World, (W.cell? ⟨B, 3, none⟩ = some (.map none) ∧ W.cell? ⟨B, 4, none⟩ = some (.map none) ∧ Below w.heap.size w W) → Below W.heap.size W W' → W'.cell? ⟨B, 3, none⟩ = some (.map none) ∧ W'.cell? ⟨B, 4, none⟩ = some (.map none) ∧ Below w.heap.size w W' from fun W W' h hb => ⟨(hb.cell (p := ⟨B, 3, none⟩) (by have := h.2.2.size; show B < _; omega)).trans h.1, (hb.cell (p := ⟨B, 4, none⟩) (by have := h.2.2.size; show B < _; omega)).trans h.2.1, chain h.2.2 h.2.2.size hb⟩)
      go_enter Tryz.func12, Tryz.ntmps12
      go_wp2
      have hS := (show w.drew.cell? ⟨B, 3, none⟩ = some (.map none) ∧ w.drew.cell? ⟨B, 4, none⟩ = some (.map none) ∧ Below w.heap.size w w.drew from ⟨c1, c2, (Below.refl _ _).drew⟩)
      refine wp_region_held_drew (S := (fun W => W.cell? ⟨B, 3, none⟩ = some (.map none) ∧ W.cell? ⟨B, 4, none⟩ = some (.map none) ∧ Below w.heap.size w W)) (by kernel_rfl) hS (fun hHeld => ?_)
      refine wpAnyH_take (i := 0) (v := ?_) (by simp only [List.getElem?_toArray, List.getElem?_cons_zero]; rfl) (by kernel_rfl) (by kernel_rfl) (by kernel_rfl) (by exact fun _ _ _ h => h) (Or.inl ⟨by rfl, ?_⟩) (by with_reducible exact hS) ?_
      rotate_left
      · intro W hSw; (obtain ⟨z1, z2, -⟩ := hSw); go_simp; all_goals (with_reducible rfl)
      try simp only [Act.put, List.setIfInBounds_toArray, List.set_cons_zero, List.set_cons_succ]
      refine wpAnyH_take (i := 1) (v := ?_) (by simp only [List.getElem?_toArray, List.getElem?_cons_succ, List.getElem?_cons_zero]; rfl) (by kernel_rfl) (by kernel_rfl) (by kernel_rfl) (by exact fun _ _ _ h => h) (Or.inl ⟨by rfl, ?_⟩) (by with_reducible exact hS) ?_
      rotate_left
      · intro W hSw; (obtain ⟨z1, z2, -⟩ := hSw); go_simp; all_goals (with_reducible rfl)
      try simp only [Act.put, List.setIfInBounds_toArray, List.set_cons_zero, List.set_cons_succ]
      refine wpAnyH_take (i := 2) (v := ?_) (by simp only [List.getElem?_toArray, List.getElem?_cons_succ, List.getElem?_cons_zero]; rfl) (by kernel_rfl) (by kernel_rfl) (by kernel_rfl) (by exact fun _ _ _ h => h) (Or.inl ⟨by rfl, ?_⟩) (by with_reducible exact hS) ?_
      rotate_left
      · intro W hSw; (obtain ⟨z1, z2, -⟩ := hSw); go_simp; all_goals (with_reducible rfl)
      try simp only [Act.put, List.setIfInBounds_toArray, List.set_cons_zero, List.set_cons_succ]
      refine wpAnyH_take (i := 3) (v := ?_) (by simp only [List.getElem?_toArray, List.getElem?_cons_succ, List.getElem?_cons_zero]; rfl) (by kernel_rfl) (by kernel_rfl) (by kernel_rfl) (by exact fun _ _ _ h => h) (Or.inl ⟨by rfl, ?_⟩) (by with_reducible exact hS) ?_
      rotate_left
      · intro W hSw; (obtain ⟨z1, z2, -⟩ := hSw); go_simp; all_goals (with_reducible rfl)
      try simp only [Act.put, List.setIfInBounds_toArray, List.set_cons_zero, List.set_cons_succ]
      refine wpAnyH_take (i := 4) (v := ?_) (by simp only [List.getElem?_toArray, List.getElem?_cons_succ, List.getElem?_cons_zero]; rfl) (by kernel_rfl) (by kernel_rfl) (by kernel_rfl) (by exact fun _ _ _ h => h) (Or.inl ⟨by rfl, ?_⟩) (by with_reducible exact hS) ?_
      rotate_left
      · intro W hSw; (obtain ⟨z1, z2, -⟩ := hSw); go_simp; all_goals (with_reducible rfl)
      try simp only [Act.put, List.setIfInBounds_toArray, List.set_cons_zero, List.set_cons_succ]
      refine wpAnyH_take (i := 5) (v := ?_) (by simp only [List.getElem?_toArray, List.getElem?_cons_succ, List.getElem?_cons_zero]; rfl) (by kernel_rfl) (by kernel_rfl) (by kernel_rfl) (by exact fun _ _ _ h => h) (Or.inl ⟨by rfl, ?_⟩) (by with_reducible exact hS) ?_
      rotate_left
      · intro W hSw; (obtain ⟨z1, z2, -⟩ := hSw); go_simp; all_goals (with_reducible rfl)
      try simp only [Act.put, List.setIfInBounds_toArray, List.set_cons_zero, List.set_cons_succ]
      refine wpAnyH_take (i := 6) (v := ?_) (by simp only [List.getElem?_toArray, List.getElem?_cons_succ, List.getElem?_cons_zero]; rfl) (by kernel_rfl) (by kernel_rfl) (by kernel_rfl) (by exact fun _ _ _ h => h) (Or.inl ⟨by rfl, ?_⟩) (by with_reducible exact hS) ?_
      rotate_left
      · intro W hSw; (obtain ⟨z1, z2, -⟩ := hSw); go_simp; all_goals (with_reducible rfl)
      try simp only [Act.put, List.setIfInBounds_toArray, List.set_cons_zero, List.set_cons_succ]
      refine wpAnyH_take (i := 7) (v := ?_) (by simp only [List.getElem?_toArray, List.getElem?_cons_succ, List.getElem?_cons_zero]; rfl) (by kernel_rfl) (by kernel_rfl) (by kernel_rfl) (by exact fun _ _ _ h => h) (Or.inl ⟨by rfl, ?_⟩) (by with_reducible exact hS) ?_
      rotate_left
      · intro W hSw; (obtain ⟨z1, z2, -⟩ := hSw); go_simp; all_goals (with_reducible rfl)
      try simp only [Act.put, List.setIfInBounds_toArray, List.set_cons_zero, List.set_cons_succ]
      refine wpAnyH_take (i := 8) (v := ?_) (by simp only [List.getElem?_toArray, List.getElem?_cons_succ, List.getElem?_cons_zero]; rfl) (by kernel_rfl) (by kernel_rfl) (by kernel_rfl) (by exact fun _ _ _ h => h) (Or.inl ⟨by rfl, ?_⟩) (by with_reducible exact hS) ?_
      rotate_left
      · intro W hSw; (obtain ⟨z1, z2, -⟩ := hSw); go_simp; all_goals (with_reducible rfl)
      try simp only [Act.put, List.setIfInBounds_toArray, List.set_cons_zero, List.set_cons_succ]
      refine wpAnyH_take (i := 9) (v := ?_) (by simp only [List.getElem?_toArray, List.getElem?_cons_succ, List.getElem?_cons_zero]; rfl) (by kernel_rfl) (by kernel_rfl) (by kernel_rfl) (by exact fun _ _ _ h => h) (Or.inl ⟨by rfl, ?_⟩) (by with_reducible exact hS) ?_
      rotate_left
      · intro W hSw; (obtain ⟨z1, z2, -⟩ := hSw); go_simp; all_goals (with_reducible rfl)
      try simp only [Act.put, List.setIfInBounds_toArray, List.set_cons_zero, List.set_cons_succ]
      refine Rg.take_one 10 (by simp only [List.getElem?_toArray, List.getElem?_cons_succ, List.getElem?_cons_zero]; rfl) (by kernel_rfl) (fun K hK => ?_)
      go_simp
      go_at_call 30
      refine (HC.out _).mono ?_
      rintro x w2 ⟨rfl, hb2⟩
      have hS10 := HON.out _ _ hS hb2
      go_wp2_with fail
      refine hK.out _ _ hS10 (fun hHeld10 => ?_)
      clear hK K
      try simp only [Act.put, List.setIfInBounds_toArray, List.set_cons_zero, List.set_cons_succ]
      refine wpAnyH_take (i := 11) (v := ?_) (by simp only [List.getElem?_toArray, List.getElem?_cons_succ, List.getElem?_cons_zero]; rfl) (by kernel_rfl) (by kernel_rfl) (by kernel_rfl) (by exact fun _ _ _ h => h) (Or.inl ⟨by rfl, ?_⟩) (by with_reducible exact hS10) ?_
      rotate_left
      · intro W hSw; (obtain ⟨z1, z2, -⟩ := hSw); go_simp; all_goals (with_reducible rfl)
      try simp only [Act.put, List.setIfInBounds_toArray, List.set_cons_zero, List.set_cons_succ]
      refine wpAnyH_take (i := 12) (v := ?_) (by simp only [List.getElem?_toArray, List.getElem?_cons_succ, List.getElem?_cons_zero]; rfl) (by kernel_rfl) (by kernel_rfl) (by kernel_rfl) (by exact fun _ _ _ h => h) (Or.inl ⟨by rfl, ?_⟩) (by with_reducible exact hS10) ?_
      rotate_left
      · intro W hSw; (obtain ⟨z1, z2, -⟩ := hSw); go_simp; all_goals (with_reducible rfl)
      try simp only [Act.put, List.setIfInBounds_toArray, List.set_cons_zero, List.set_cons_succ]
      refine wpAnyH_take (i := 13) (v := ?_) (by simp only [List.getElem?_toArray, List.getElem?_cons_succ, List.getElem?_cons_zero]; rfl) (by kernel_rfl) (by kernel_rfl) (by kernel_rfl) (by exact fun _ _ _ h => h) (Or.inl ⟨by rfl, ?_⟩) (by with_reducible exact hS10) ?_
      rotate_left
      · intro W hSw; (obtain ⟨z1, z2, -⟩ := hSw); go_simp; all_goals (with_reducible rfl)
      try simp only [Act.put, List.setIfInBounds_toArray, List.set_cons_zero, List.set_cons_succ]
      refine wpAnyH_take (i := 14) (v := ?_) (by simp only [List.getElem?_toArray, List.getElem?_cons_succ, List.getElem?_cons_zero]; rfl) (by kernel_rfl) (by kernel_rfl) (by kernel_rfl) (by exact fun _ _ _ h => h) (Or.inl ⟨by rfl, ?_⟩) (by with_reducible exact hS10) ?_
      rotate_left
      · intro W hSw; (obtain ⟨z1, z2, -⟩ := hSw); go_simp; all_goals (with_reducible rfl)
      try simp only [Act.put, List.setIfInBounds_toArray, List.set_cons_zero, List.set_cons_succ]
      refine wpAnyH_done (by kernel_rfl) ?_ _
      go_wp2
      go_ret2
      exact ⟨rfl, hS10.2.2⟩
    · have y1 : IntKind.i64.wrap 2 = 2 := by decide
      have y2 : k ≤ S.size := by omega
      have c1 : w.cell? ⟨B, 5, none⟩ = some (.map none) := block_cell hz rfl
      have c2 : w.cell? ⟨B, 6, none⟩ = some (.map none) := block_cell hz rfl
      clear hz
      have HON := Lib.hid (show ∀ W W' : World, (W.cell? ⟨B, 5, none⟩ = some (.map none) ∧ W.cell? ⟨B, 6, none⟩ = some (.map none) ∧ Below w.heap.size w W) → Below W.heap.size W W' → W'.cell? ⟨B, 5, none⟩ = some (.map none) ∧ W'.cell? ⟨B, 6, none⟩ = some (.map none) ∧ Below w.heap.size w W' from fun W W' h hb => ⟨(hb.cell (p := ⟨B, 5, none⟩) (by have := h.2.2.size; show B < _; omega)).trans h.1, (hb.cell (p := ⟨B, 6, none⟩) (by have := h.2.2.size; show B < _; omega)).trans h.2.1, chain h.2.2 h.2.2.size hb⟩)
      go_enter Tryz.func12, Tryz.ntmps12
      go_wp2
      have hS := (show w.drew.cell? ⟨B, 5, none⟩ = some (.map none) ∧ w.drew.cell? ⟨B, 6, none⟩ = some (.map none) ∧ Below w.heap.size w w.drew from ⟨c1, c2, (Below.refl _ _).drew⟩)
      refine wp_region_held_drew (S := (fun W => W.cell? ⟨B, 5, none⟩ = some (.map none) ∧ W.cell? ⟨B, 6, none⟩ = some (.map none) ∧ Below w.heap.size w W)) (by kernel_rfl) hS (fun hHeld => ?_)
      refine wpAnyH_take (i := 0) (v := ?_) (by simp only [List.getElem?_toArray, List.getElem?_cons_zero]; rfl) (by kernel_rfl) (by kernel_rfl) (by kernel_rfl) (by exact fun _ _ _ h => h) (Or.inl ⟨by rfl, ?_⟩) (by with_reducible exact hS) ?_
      rotate_left
      · intro W hSw; (obtain ⟨z1, z2, -⟩ := hSw); go_simp; all_goals (with_reducible rfl)
      try simp only [Act.put, List.setIfInBounds_toArray, List.set_cons_zero, List.set_cons_succ]
      refine wpAnyH_take (i := 1) (v := ?_) (by simp only [List.getElem?_toArray, List.getElem?_cons_succ, List.getElem?_cons_zero]; rfl) (by kernel_rfl) (by kernel_rfl) (by kernel_rfl) (by exact fun _ _ _ h => h) (Or.inl ⟨by rfl, ?_⟩) (by with_reducible exact hS) ?_
      rotate_left
      · intro W hSw; (obtain ⟨z1, z2, -⟩ := hSw); go_simp; all_goals (with_reducible rfl)
      try simp only [Act.put, List.setIfInBounds_toArray, List.set_cons_zero, List.set_cons_succ]
      refine wpAnyH_take (i := 2) (v := ?_) (by simp only [List.getElem?_toArray, List.getElem?_cons_succ, List.getElem?_cons_zero]; rfl) (by kernel_rfl) (by kernel_rfl) (by kernel_rfl) (by exact fun _ _ _ h => h) (Or.inl ⟨by rfl, ?_⟩) (by with_reducible exact hS) ?_
      rotate_left
      · intro W hSw; (obtain ⟨z1, z2, -⟩ := hSw); go_simp; all_goals (with_reducible rfl)
      try simp only [Act.put, List.setIfInBounds_toArray, List.set_cons_zero, List.set_cons_succ]
      refine wpAnyH_take (i := 3) (v := ?_) (by simp only [List.getElem?_toArray, List.getElem?_cons_succ, List.getElem?_cons_zero]; rfl) (by kernel_rfl) (by kernel_rfl) (by kernel_rfl) (by exact fun _ _ _ h => h) (Or.inl ⟨by rfl, ?_⟩) (by with_reducible exact hS) ?_
      rotate_left
      · intro W hSw; (obtain ⟨z1, z2, -⟩ := hSw); go_simp; all_goals (with_reducible rfl)
      try simp only [Act.put, List.setIfInBounds_toArray, List.set_cons_zero, List.set_cons_succ]
      refine wpAnyH_take (i := 4) (v := ?_) (by simp only [List.getElem?_toArray, List.getElem?_cons_succ, List.getElem?_cons_zero]; rfl) (by kernel_rfl) (by kernel_rfl) (by kernel_rfl) (by exact fun _ _ _ h => h) (Or.inl ⟨by rfl, ?_⟩) (by with_reducible exact hS) ?_
      rotate_left
      · intro W hSw; (obtain ⟨z1, z2, -⟩ := hSw); go_simp; all_goals (with_reducible rfl)
      try simp only [Act.put, List.setIfInBounds_toArray, List.set_cons_zero, List.set_cons_succ]
      refine wpAnyH_take (i := 5) (v := ?_) (by simp only [List.getElem?_toArray, List.getElem?_cons_succ, List.getElem?_cons_zero]; rfl) (by kernel_rfl) (by kernel_rfl) (by kernel_rfl) (by exact fun _ _ _ h => h) (Or.inl ⟨by rfl, ?_⟩) (by with_reducible exact hS) ?_
      rotate_left
      · intro W hSw; (obtain ⟨z1, z2, -⟩ := hSw); go_simp; all_goals (with_reducible rfl)
      try simp only [Act.put, List.setIfInBounds_toArray, List.set_cons_zero, List.set_cons_succ]
      refine wpAnyH_take (i := 6) (v := ?_) (by simp only [List.getElem?_toArray, List.getElem?_cons_succ, List.getElem?_cons_zero]; rfl) (by kernel_rfl) (by kernel_rfl) (by kernel_rfl) (by exact fun _ _ _ h => h) (Or.inl ⟨by rfl, ?_⟩) (by with_reducible exact hS) ?_
      rotate_left
      · intro W hSw; (obtain ⟨z1, z2, -⟩ := hSw); go_simp; all_goals (with_reducible rfl)
      try simp only [Act.put, List.setIfInBounds_toArray, List.set_cons_zero, List.set_cons_succ]
      refine wpAnyH_take (i := 7) (v := ?_) (by simp only [List.getElem?_toArray, List.getElem?_cons_succ, List.getElem?_cons_zero]; rfl) (by kernel_rfl) (by kernel_rfl) (by kernel_rfl) (by exact fun _ _ _ h => h) (Or.inl ⟨by rfl, ?_⟩) (by with_reducible exact hS) ?_
      rotate_left
      · intro W hSw; (obtain ⟨z1, z2, -⟩ := hSw); go_simp; all_goals (with_reducible rfl)
      try simp only [Act.put, List.setIfInBounds_toArray, List.set_cons_zero, List.set_cons_succ]
      refine wpAnyH_take (i := 8) (v := ?_) (by simp only [List.getElem?_toArray, List.getElem?_cons_succ, List.getElem?_cons_zero]; rfl) (by kernel_rfl) (by kernel_rfl) (by kernel_rfl) (by exact fun _ _ _ h => h) (Or.inl ⟨by rfl, ?_⟩) (by with_reducible exact hS) ?_
      rotate_left
      · intro W hSw; (obtain ⟨z1, z2, -⟩ := hSw); go_simp; all_goals (with_reducible rfl)
      try simp only [Act.put, List.setIfInBounds_toArray, List.set_cons_zero, List.set_cons_succ]
      refine wpAnyH_take (i := 9) (v := ?_) (by simp only [List.getElem?_toArray, List.getElem?_cons_succ, List.getElem?_cons_zero]; rfl) (by kernel_rfl) (by kernel_rfl) (by kernel_rfl) (by exact fun _ _ _ h => h) (Or.inl ⟨by rfl, ?_⟩) (by with_reducible exact hS) ?_
      rotate_left
      · intro W hSw; (obtain ⟨z1, z2, -⟩ := hSw); go_simp; all_goals (with_reducible rfl)
      try simp only [Act.put, List.setIfInBounds_toArray, List.set_cons_zero, List.set_cons_succ]
      refine Rg.take_one 10 (by simp only [List.getElem?_toArray, List.getElem?_cons_succ, List.getElem?_cons_zero]; rfl) (by kernel_rfl) (fun K hK => ?_)
      go_simp
      go_at_call 30
      refine (HC.out _).mono ?_
      rintro x w2 ⟨rfl, hb2⟩
      have hS10 := HON.out _ _ hS hb2
      go_wp2_with fail
      refine hK.out _ _ hS10 (fun hHeld10 => ?_)
      clear hK K
      try simp only [Act.put, List.setIfInBounds_toArray, List.set_cons_zero, List.set_cons_succ]
      refine wpAnyH_take (i := 11) (v := ?_) (by simp only [List.getElem?_toArray, List.getElem?_cons_succ, List.getElem?_cons_zero]; rfl) (by kernel_rfl) (by kernel_rfl) (by kernel_rfl) (by exact fun _ _ _ h => h) (Or.inl ⟨by rfl, ?_⟩) (by with_reducible exact hS10) ?_
      rotate_left
      · intro W hSw; (obtain ⟨z1, z2, -⟩ := hSw); go_simp; all_goals (with_reducible rfl)
      try simp only [Act.put, List.setIfInBounds_toArray, List.set_cons_zero, List.set_cons_succ]
      refine wpAnyH_take (i := 12) (v := ?_) (by simp only [List.getElem?_toArray, List.getElem?_cons_succ, List.getElem?_cons_zero]; rfl) (by kernel_rfl) (by kernel_rfl) (by kernel_rfl) (by exact fun _ _ _ h => h) (Or.inl ⟨by rfl, ?_⟩) (by with_reducible exact hS10) ?_
      rotate_left
      · intro W hSw; (obtain ⟨z1, z2, -⟩ := hSw); go_simp; all_goals (with_reducible rfl)
      try simp only [Act.put, List.setIfInBounds_toArray, List.set_cons_zero, List.set_cons_succ]
      refine wpAnyH_take (i := 13) (v := ?_) (by simp only [List.getElem?_toArray, List.getElem?_cons_succ, List.getElem?_cons_zero]; rfl) (by kernel_rfl) (by kernel_rfl) (by kernel_rfl) (by exact fun _ _ _ h => h) (Or.inl ⟨by rfl, ?_⟩) (by with_reducible exact hS10) ?_
      rotate_left
      · intro W hSw; (obtain ⟨z1, z2, -⟩ := hSw); go_simp; all_goals (with_reducible rfl)
      try simp only [Act.put, List.setIfInBounds_toArray, List.set_cons_zero, List.set_cons_succ]
      refine wpAnyH_take (i := 14) (v := ?_) (by simp only [List.getElem?_toArray, List.getElem?_cons_succ, List.getElem?_cons_zero]; rfl) (by kernel_rfl) (by kernel_rfl) (by kernel_rfl) (by exact fun _ _ _ h => h) (Or.inl ⟨by rfl, ?_⟩) (by with_reducible exact hS10) ?_
      rotate_left
      · intro W hSw; (obtain ⟨z1, z2, -⟩ := hSw); go_simp; all_goals (with_reducible rfl)
      try simp only [Act.put, List.setIfInBounds_toArray, List.set_cons_zero, List.set_cons_succ]
      refine wpAnyH_done (by kernel_rfl) ?_ _
      go_wp2
      go_ret2
      exact ⟨rfl, hS10.2.2⟩
end Go.Proofs.YtjflefchhbihkaaGreatDoor.Ti
namespace Go.Proofs.YtjflefchhbihkaaGreatDoor.Ti
open Go.RowKit Go.Maps Ba Ru Ck

/-- The row of nil and of the zero table. -/
structure Pair (w W : World) (Z G : Nat) : Prop where
  below : Below w.heap.size w W
  tab : W.heap[Z]? = some (.cells zeroA 51)
  row : W.heap[G]? = some (.cells #[.pointer none, .pointer (some ⟨Z, 0, none⟩)] 25)
theorem Pair.on {w W W' : World} {Z G : Nat} (h : Pair w W Z G) (hb : Below W.heap.size W W') : Pair w W' Z G :=
  ⟨chain h.below h.below.size hb, (hb.block Z (Array.getElem?_eq_some_iff.1 h.tab).1).trans h.tab, (hb.block G (Array.getElem?_eq_some_iff.1 h.row).1).trans h.row⟩
theorem Pair.nob {w W : World} {Z G : Nat} (h : Pair w W Z G) : Nob W (.pointer (some ⟨Z, 0, none⟩)) := .inr ⟨Z, rfl, h.tab⟩
set_option maxRecDepth 100000 in
set_option maxHeartbeats 8000000 in
/-- styluslaw10.TrieNobody -/
theorem nobody_row (T : TLands) (S L : ByteArray) (p row q : Int) (_hSm : S.size ≤ maxLen) (_hLm : L.size ≤ maxLen) (_hp : I64 p) (_hrow : I64 row) (hq : I64 q) (w : World) (hL : Laid9 w) :
    Calls Tryz.prog 4 #[.string S, .string L, .int .i64 p, .int .i64 row, .int .i64 q] w fun e w' => e = .returned (.bool true) ∧ Below w.heap.size w w' := by
  have HL := Lib.hid hL
  have HAW := Lib.hid (fun (W : World) hW => awake10 T W hW)
  have HQ := Lib.hid hq
  clear hL hq
  unfold maxLen at _hSm _hLm
  go_enter Tryz.func4, Tryz.ntmps4
  by_cases h1 : 500 < S.size
  · have t1 : decide (500 < (S.size : Int)) = true := decide_eq_true (by omega)
    go_wp2_with fail
    refine (HAW.out _ HL.out).mono ?_
    rintro e w' ⟨rfl, hb⟩
    go_wp2
    go_ret
    exact ⟨rfl, hb⟩
  have t1 : decide (500 < (S.size : Int)) = false := decide_eq_false (by omega)
  have h1' : S.size ≤ 500 := by omega
  clear h1
  by_cases h2 : 500 < L.size
  · have t2 : decide (500 < (L.size : Int)) = true := decide_eq_true (by omega)
    go_wp2_with fail
    refine (HAW.out _ HL.out).mono ?_
    rintro e w' ⟨rfl, hb⟩
    go_wp2
    go_ret
    exact ⟨rfl, hb⟩
  have t2 : decide (500 < (L.size : Int)) = false := decide_eq_false (by omega)
  have h2' : L.size ≤ 500 := by omega
  clear h2
  go_wp2
  have hp0 : Pair w ((w.alloc (.cells #[.slice none 0 0, .map none, .map none, .map none, .map none, .map none, .map none, .map none, .map none] 51)).alloc (.cells #[.pointer none, .pointer (some ⟨w.heap.size, 0, none⟩)] 25)) w.heap.size (w.heap.size + 1) := by
    have s1 : (w.alloc (.cells #[.slice none 0 0, .map none, .map none, .map none, .map none, .map none, .map none, .map none, .map none] 51)).heap.size = w.heap.size + 1 := by simp
    refine ⟨((Below.refl _ _).alloc (Nat.le_refl _) _).alloc (by omega) _, (Below.heap_alloc _ _ _ (by omega)).trans (heap_alloc_new w _), ?_⟩
    rw [← s1]
    exact heap_alloc_new _ _
  generalize (w.alloc (.cells #[.slice none 0 0, .map none, .map none, .map none, .map none, .map none, .map none, .map none, .map none] 51)).alloc (.cells #[.pointer none, .pointer (some ⟨w.heap.size, 0, none⟩)] 25) = w1 at hp0 ⊢
  obtain ⟨G, hG⟩ : ∃ G, w.heap.size + 1 = G := ⟨_, rfl⟩
  obtain ⟨Z, hZ⟩ : ∃ Z, w.heap.size = Z := ⟨_, rfl⟩
  rw [hG, hZ] at hp0
  rw [hG]
  have HP0 := Lib.hid hp0
  clear hp0 hG hZ
  go_loopw [13] (fun i wr => ∃ k : Nat, k ≤ 2 ∧ i = .int .i64 (k : Int) ∧ Pair w wr Z G) (fun i _ => 2 - (intOf i).toNat)
  case atStart => exact ⟨0, by omega, rfl, HP0.out⟩
  case round =>
    obtain ⟨k, hk, rfl, hP⟩ := hrel
    have HP := Lib.hid hP
    obtain rfl | rfl | rfl : k = 0 ∨ k = 1 ∨ k = 2 := by omega
    · have c0 : wr.cell? ⟨G, 0, none⟩ = some (.pointer none) := block_cell hP.row rfl
      clear hP HP0

      go_wp2_with fail
      refine (nmatch_at (.pointer none) S p row (by omega) _ (.inl rfl)).mono ?_
      rintro e w2 ⟨rfl, hb2⟩
      have HP2 := Lib.hid (HP.out.on hb2)
      clear c0 hb2
      go_wp2_with fail
      refine (nword_at (.pointer none) S (by omega) _ (.inl rfl)).mono ?_
      rintro e w3 ⟨rfl, rfl⟩
      go_wp2_with fail
      refine (nfind_at (.pointer none) q L (by omega) HQ.out _ (.inl rfl)).mono ?_
      rintro e w4 ⟨rfl, rfl⟩
      go_wp2_with fail
      refine (nsign_at (.pointer none) L (by omega) _ (.inl rfl)).mono ?_
      rintro e w5 ⟨rfl, rfl⟩
      go_wp2_with fail
      refine (nrules_at (.pointer none) _ (.inl rfl)).mono ?_
      rintro e w6 ⟨rfl, rfl⟩
      go_wp2
      exact ⟨⟨1, by omega, by rfl, HP2.out⟩, by simp [intOf]⟩
    · have c0 : wr.cell? ⟨G, 1, none⟩ = some (.pointer (some ⟨Z, 0, none⟩)) := block_cell hP.row rfl
      clear hP HP0

      go_wp2_with fail
      refine (nmatch_at (.pointer (some ⟨Z, 0, none⟩)) S p row (by omega) _ HP.out.nob).mono ?_
      rintro e w2 ⟨rfl, hb2⟩
      have HP2 := Lib.hid (HP.out.on hb2)
      clear c0 hb2
      go_wp2_with fail
      refine (nword_at (.pointer (some ⟨Z, 0, none⟩)) S (by omega) _ HP2.out.nob).mono ?_
      rintro e w3 ⟨rfl, rfl⟩
      go_wp2_with fail
      refine (nfind_at (.pointer (some ⟨Z, 0, none⟩)) q L (by omega) HQ.out _ HP2.out.nob).mono ?_
      rintro e w4 ⟨rfl, rfl⟩
      go_wp2_with fail
      refine (nsign_at (.pointer (some ⟨Z, 0, none⟩)) L (by omega) _ HP2.out.nob).mono ?_
      rintro e w5 ⟨rfl, rfl⟩
      go_wp2_with fail
      refine (nrules_at (.pointer (some ⟨Z, 0, none⟩)) _ HP2.out.nob).mono ?_
      rintro e w6 ⟨rfl, rfl⟩
      go_wp2
      exact ⟨⟨2, by omega, by rfl, HP2.out⟩, by simp [intOf]⟩
    · clear hP HP0
      go_wp2_with fail
      refine (HAW.out _ (HL.out.kept HP.out.below)).mono ?_
      rintro e w7 ⟨rfl, hb7⟩
      go_wp2
      go_ret
      exact ⟨rfl, chain HP.out.below HP.out.below.size hb7⟩
end Go.Proofs.YtjflefchhbihkaaGreatDoor.Ti
