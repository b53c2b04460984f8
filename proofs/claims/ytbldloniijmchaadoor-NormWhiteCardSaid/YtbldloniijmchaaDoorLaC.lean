/-
  lex.Name, lex.opening, lex.text, lex.first: a source's first part, as the document's step says.
-/
import Derived.Test.YtbldloniijmchaaDoorLaB
namespace Go.Proofs.YtbldloniijmchaaDoor.Lx
open Go.RowKit

theorem nonE (X : ByteArray) (h : 0 < X.size) : X.toList.isEmpty = false ∧ (!X.toList.isEmpty) = true := by
  have : X.toList.isEmpty = false := by
    cases hX : X.toList with
    | nil =>
      rw [ByteArray.toList_eq] at hX
      have := congrArg List.length hX
      rw [Array.length_toList] at this
      have h2 : X.size = X.data.size := rfl
      rw [h2] at h; simp at this; rw [this] at h; simp at h
    | cons a l => rfl
  exact ⟨this, by rw [this]; rfl⟩
theorem askO (b : ByteArray) (B : Nat) (w0 : World) (h : w0.cell? ⟨B, 0, none⟩ = some (.string b)) : ∀ k, k < 13 → ∀ v, decide (fits b 0 (letterN k)) = v → ∀ W : World, W.cell? ⟨B, 0, none⟩ = w0.cell? ⟨B, 0, none⟩ →
    Calls Tryd.prog 67 #[.string (nameS (letterN k)), .pointer (some ⟨B, 0, none⟩)] W fun e W' => e = .returned (.bool v) ∧ Below W.heap.size W W' := fun k hk v hv W hW =>
  asksO_at b (nameS (letterN k)) v (by rw [prefix_fits]; exact hv) B W (hW.trans h)
theorem findO_at (b : ByteArray) (n : ByteArray) (hn : nameS (openC b 0) = n) (B : Nat) (w : World) (hBw : B < w.heap.size) (h : w.cell? ⟨B, 0, none⟩ = some (.string b)) :
    Calls Tryd.prog 66 #[.func (.func 67) #[] #[.pointer (some ⟨B, 0, none⟩)]] w fun e w' => e = .returned (.string n) ∧ Below w.heap.size w w' := by
  have := findO_any B (fun k => decide (fits b 0 (letterN k))) w hBw (askO b B w h)
  rwa [findS_open, hn] at this


theorem ext_split (s : ByteArray) (p : Nat) (h : p ≤ s.size) : s.extract 0 p ++ s.extract p s.size = s := by
  rw [ext_cat s 0 p s.size (Nat.zero_le _) h]; exact Ba.ext_all s
theorem ext_len (s : ByteArray) (p : Nat) (h : p ≤ s.size) : (s.extract 0 p).size = p := by rw [ext_size _ _ _ h]; omega
theorem openC_behind (t : ByteArray) (h : 0 < t.size) : openC (t.extract 1 t.size) 0 = openC t 1 := by
  apply openC_congr
  intro k _
  have := fits_right (t.extract 0 1) (t.extract 1 t.size) 0 (letterN k)
  rw [ext_split t 1 h, ext_len t 1 h] at this
  exact this.symm
theorem openC_letter {s : ByteArray} {p c : Nat} (h : openC s p = c) (hc : c ≠ 0) : ∃ k : Fin 13, letterN k.val = c := by
  subst h
  unfold openC at hc ⊢
  cases hff : (List.range 13).find? (fun k => decide (fits s p (letterN k))) with
  | none => rw [hff] at hc; exact absurd rfl hc
  | some k => exact ⟨⟨k, List.mem_range.1 (List.mem_of_find?_eq_some hff)⟩, rfl⟩
theorem cwhite_at (c : Nat) (v : Bool) (h : c < 256) (hv : Ka.whiteB (c : Int) = v) (w : World) (hL : Ka.Laid w) :
    Calls Tryd.prog 46 #[.int .u8 (c : Int)] w fun e w' => e = .returned (.bool v) ∧ w = w' := hv ▸ Ka.white_any (c : Int) (by omega) (by omega) w hL
theorem cis_at (c : Nat) (v : Bool) (h : c < 256) (hv : Ka.isB (c : Int) = v) (w : World) (hL : Ka.Laid w) :
    Calls Tryd.prog 51 #[.int .u8 (c : Int)] w fun e w' => e = .returned (.bool v) ∧ w = w' := hv ▸ Ka.is_any (c : Int) (by omega) (by omega) w hL

/-- The cells of a zero part that was made ahead of whatever makes memory. -/
theorem zero_cells {w w2 : World} (hb : Below (w.heap.size + 1) (w.alloc (.cells #[.int .i64 0, .int .u8 0, .string { data := #[] }, .int .i64 0] 76)) w2) :
    w2.cell? ⟨w.heap.size, 0, none⟩ = some (.int .i64 0) ∧ w2.cell? ⟨w.heap.size, 1, none⟩ = some (.int .u8 0) ∧ w2.cell? ⟨w.heap.size, 2, none⟩ = some (.string { data := #[] }) ∧ w2.cell? ⟨w.heap.size, 3, none⟩ = some (.int .i64 0) ∧ ∀ i, w2.frozen? ⟨w.heap.size, i, none⟩ = false := by
  have hlt : w.heap.size < w.heap.size + 1 := by omega
  exact ⟨(hb.cell (p := ⟨w.heap.size, 0, none⟩) hlt).trans (by simp), (hb.cell (p := ⟨w.heap.size, 1, none⟩) hlt).trans (by simp), (hb.cell (p := ⟨w.heap.size, 2, none⟩) hlt).trans (by simp), (hb.cell (p := ⟨w.heap.size, 3, none⟩) hlt).trans (by simp),
    fun i => (hb.frozen (p := ⟨w.heap.size, i, none⟩) hlt).trans (by simp)⟩
theorem ret_ai {a : Value} {x y z z' : Int} (h : x = y) (h' : z = z') : Ending.returned (.tuple #[a, .int .i64 x, .int .i64 z]) = .returned (.tuple #[a, .int .i64 y, .int .i64 z']) := by rw [h, h']
theorem ret_ag {k x y : Int} {m p : Int} {u v : ByteArray} {z : Int} (h : x = y) (hu : u = v) : Ending.returned (.tuple #[.agg #[.int .i64 k, .int .u8 m, .string u, .int .i64 p], .int .i64 x, .int .i64 z]) = .returned (.tuple #[.agg #[.int .i64 k, .int .u8 m, .string v, .int .i64 p], .int .i64 y, .int .i64 z]) := by rw [h, hu]

set_option maxHeartbeats 2000000 in
/-- lex.opening, where no name stands. -/
theorem opening_no (t : ByteArray) (h0 : 0 < t.size) (h1 : t.size ≤ 70000) (hc : openC t 1 = 0) (w : World) :
    Calls Tryd.prog 64 #[.string t] w fun e w' => e = .returned (.tuple #[.agg #[.int .i64 0, .int .u8 0, .string { data := #[] }, .int .i64 0], .int .i64 0, .int .i64 2]) ∧ Below w.heap.size w w' := by
  have HN := Lib.hid (show nameS (openC (t.extract 1 t.size) 0) = { data := #[] } by rw [openC_behind t h0, hc]; exact nameS_none)
  clear hc
  go_enter Tryd.func64, Tryd.ntmps64
  go_wp2_with fail
  refine (findO_at (t.extract 1 t.size) _ HN.out (w.heap.size + 1) _ (by simp) (by simp)).mono ?_
  rintro e w2 ⟨rfl, hb2⟩
  have hb1 := ((Below.refl (w.heap.size + 1) (w.alloc (.cells #[.int .i64 0, .int .u8 0, .string { data := #[] }, .int .i64 0] 76))).alloc (by simp) (.cells #[.string (t.extract 1 t.size)] 9)).trans (hb2.mono (by simp))
  have hb0 := ((Below.refl w.heap.size w).alloc (Nat.le_refl _) (.cells #[.int .i64 0, .int .u8 0, .string { data := #[] }, .int .i64 0] 76)).trans (hb1.mono (by omega))
  obtain ⟨k0, k1, k2, k3, kf⟩ := zero_cells hb1
  have f0 := kf 0
  have f1 := kf 1
  have f2 := kf 2
  have f3 := kf 3
  clear kf hb1 hb2
  go_wp2
  refine bodyPost_ret (v := .tuple #[.agg #[.int .i64 0, .int .u8 0, .string { data := #[] }, .int .i64 0], .int .i64 0, .int .i64 2]) (by simp [results, Tryd.f64, go_sem, k0, k1, k2, k3]) rfl ⟨rfl, ?_⟩
  exact (((hb0.setCell (Nat.le_refl _) _).setCell (Nat.le_refl _) _).setCell (Nat.le_refl _) _).setCell (Nat.le_refl _) _

set_option maxHeartbeats 4000000 in
/-- lex.opening, where a name stands. -/
theorem opening_yes (t : ByteArray) (h0 : 0 < t.size) (h1 : t.size ≤ 70000) (c q : Nat) (hc : openC t 1 = c) (hc0 : c ≠ 0) (hq : skip t (1 + (nameS c).size) = q) (w : World) (hL : Ka.Laid w) :
    Calls Tryd.prog 64 #[.string t] w fun e w' => e = .returned (.tuple #[.agg #[.int .i64 2, .int .u8 ((c : Nat) : Int), .string { data := #[] }, .int .i64 0], .int .i64 ((q : Nat) : Int), .int .i64 0]) ∧ Below w.heap.size w w' := by
  obtain ⟨n, hn⟩ : ∃ n, nameS c = n := ⟨_, rfl⟩
  have hfit := openC_fits (s := t) (p := 1) (by rw [hc]; exact hc0)
  obtain ⟨kl, hkl⟩ := openC_letter hc hc0
  obtain ⟨l1, l2, l3, l4⟩ := lastN kl
  rw [hkl, hn] at l1 l2 l3
  rw [hkl] at l4
  rw [hc] at hfit
  have hf1 := hfit.1
  rw [hn] at hf1 hq
  have HN := Lib.hid (show nameS (openC (t.extract 1 t.size) 0) = n by rw [openC_behind t h0, hc]; exact hn)
  have HL1 := Lib.hid l1
  have HQ := Lib.hid hq
  obtain ⟨e1, e2⟩ := nonE n l2
  clear hfit hkl hn hc hc0 l1 hq
  go_enter Tryd.func64, Tryd.ntmps64
  go_wp2_with fail
  refine (findO_at (t.extract 1 t.size) _ HN.out (w.heap.size + 1) _ (by simp) (by simp)).mono ?_
  rintro e w2 ⟨rfl, hb2⟩
  have hb1 := ((Below.refl (w.heap.size + 1) (w.alloc (.cells #[.int .i64 0, .int .u8 0, .string { data := #[] }, .int .i64 0] 76))).alloc (by simp) (.cells #[.string (t.extract 1 t.size)] 9)).trans (hb2.mono (by simp))
  have hb0 := ((Below.refl w.heap.size w).alloc (Nat.le_refl _) (.cells #[.int .i64 0, .int .u8 0, .string { data := #[] }, .int .i64 0] 76)).trans (hb1.mono (by omega))
  have hL2 := hL.below hb0 hL.1
  obtain ⟨k0, k1, k2, k3, kf⟩ := zero_cells hb1
  have f0 := kf 0
  have f1 := kf 1
  have f2 := kf 2
  have f3 := kf 3
  clear kf hb1 hb2
  by_cases hlt : 1 + n.size < t.size
  · have E2 := bAt_get t (1 + n.size) hlt
    have h2 := bAt_lt t (1 + n.size)
    have j0 : (0 : Int) ≤ 1 + (n.size : Int) := by omega
    have j1 : (1 : Int) + (n.size : Int) < (t.size : Int) := by omega
    have j2 : ((1 : Int) + (n.size : Int)).toNat = 1 + n.size := by omega
    obtain ⟨d, hd⟩ : ∃ d, bAt t (1 + n.size) = d := ⟨_, rfl⟩
    rw [hd] at E2 h2
    by_cases hw : Ka.whiteB (d : Int) = true
    · have HK := Lib.hid (show q = 1 + n.size + 1 by
        rw [← HQ.out]; unfold skip white; rw [hd, if_pos ⟨hlt, hw⟩])
      have HW := Lib.hid hw
      clear hd hw
      go_wp2_with (first
        | (go_at_call 46; refine (cwhite_at d true h2 HW.out _ hL2).mono ?_; rintro e w' ⟨rfl, rfl⟩)
        | (go_at_call 69; refine (letterOf_at n c l2 (by omega) HL1.out _).mono ?_; rintro e w' ⟨rfl, rfl⟩))
      refine bodyPost_ret (v := .tuple #[.agg #[.int .i64 2, .int .u8 ((c : Nat) : Int), .string { data := #[] }, .int .i64 0], .int .i64 (1 + (n.size : Int) + 1), .int .i64 0]) (by simp [results, Tryd.f64, go_sem, k0, k1, k2, k3]) rfl ⟨ret_ai (by have := HK.out; omega) rfl, ?_⟩
      exact (((hb0.setCell (Nat.le_refl _) _).setCell (Nat.le_refl _) _).setCell (Nat.le_refl _) _).setCell (Nat.le_refl _) _
    · have hw' : Ka.whiteB (d : Int) = false := by simpa using hw
      have HK := Lib.hid (show q = 1 + n.size by
        rw [← HQ.out]; unfold skip white; rw [hd, if_neg (fun h => hw h.2)])
      have HW := Lib.hid hw'
      clear hd hw hw'
      go_wp2_with (first
        | (go_at_call 46; refine (cwhite_at d false h2 HW.out _ hL2).mono ?_; rintro e w' ⟨rfl, rfl⟩)
        | (go_at_call 69; refine (letterOf_at n c l2 (by omega) HL1.out _).mono ?_; rintro e w' ⟨rfl, rfl⟩))
      refine bodyPost_ret (v := .tuple #[.agg #[.int .i64 2, .int .u8 ((c : Nat) : Int), .string { data := #[] }, .int .i64 0], .int .i64 (1 + (n.size : Int)), .int .i64 0]) (by simp [results, Tryd.f64, go_sem, k0, k1, k2, k3]) rfl ⟨ret_ai (by have := HK.out; omega) rfl, ?_⟩
      exact (((hb0.setCell (Nat.le_refl _) _).setCell (Nat.le_refl _) _).setCell (Nat.le_refl _) _).setCell (Nat.le_refl _) _
  · have HK := Lib.hid (show q = 1 + n.size by
      rw [← HQ.out]; unfold skip; rw [if_neg (fun h => hlt h.1)])
    have j1 : decide ((1 : Int) + (n.size : Int) < (t.size : Int)) = false := decide_eq_false (by omega)
    go_wp2_with (go_at_call 69; refine (letterOf_at n c l2 (by omega) HL1.out _).mono ?_; rintro e w' ⟨rfl, rfl⟩)
    refine bodyPost_ret (v := .tuple #[.agg #[.int .i64 2, .int .u8 ((c : Nat) : Int), .string { data := #[] }, .int .i64 0], .int .i64 (1 + (n.size : Int)), .int .i64 0]) (by simp [results, Tryd.f64, go_sem, k0, k1, k2, k3]) rfl ⟨ret_ai (by have := HK.out; omega) rfl, ?_⟩
    exact (((hb0.setCell (Nat.le_refl _) _).setCell (Nat.le_refl _) _).setCell (Nat.le_refl _) _).setCell (Nat.le_refl _) _
end Go.Proofs.YtbldloniijmchaaDoor.Lx
