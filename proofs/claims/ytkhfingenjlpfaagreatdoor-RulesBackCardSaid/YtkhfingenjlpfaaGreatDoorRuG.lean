/-
  Layer 8's document: two rows that are the same; the cells of a sign, a mark, a digit; rules with their places as their Lines.
-/
import Derived.Test.YtkhfingenjlpfaaGreatDoorRuF
namespace Go.Proofs.YtkhfingenjlpfaaGreatDoor.Ru
open Go.RowKit Ba

theorem rcell {l : List Rl} {g off : Nat} {w : World} (hcell : ∀ k x, l[k]? = some x → ∀ j u, (cR x)[j]? = some u → w.cell? ⟨g, off + (k * 5 + j), none⟩ = some u) (k : Nat) (x : Rl) (hx : l[k]? = some x) :
    w.cell? ⟨g, off + k * 5, none⟩ = some (.int .i64 x.what) ∧ w.cell? ⟨g, off + k * 5 + 1, none⟩ = some (.string (bytesOf x.left)) ∧ w.cell? ⟨g, off + k * 5 + 2, none⟩ = some (.string (bytesOf x.cells)) ∧ w.cell? ⟨g, off + k * 5 + 3, none⟩ = some (.int .i64 x.prio) ∧ w.cell? ⟨g, off + k * 5 + 4, none⟩ = some (.int .i64 x.line) := by
  have h := fun j u hu => hcell k x hx j u hu
  exact ⟨h 0 _ rfl, h 1 _ rfl, h 2 _ rfl, h 3 _ rfl, h 4 _ rfl⟩
theorem Reads.drewN {off : Nat} {w : World} {B : Nat} {v : Value} {l : List Rl} (h : ReadsR off w B v l) (n : Nat) : ReadsR off (w.drewN n) B v l := by
  obtain ⟨A, c, rfl, hA⟩ := h
  exact ⟨A, c, rfl, fun h => by obtain ⟨g, e, h1, h2⟩ := hA h; exact ⟨g, e, h1, fun k x hx j u hu => by rw [World.cell?_drewN]; exact h2 k x hx j u hu⟩⟩
set_option maxHeartbeats 4000000 in
/-- stylusref08.Same, of two that are the same -/
theorem rsame_any (u v : Value) (l : List Rl) (o1 o2 : Nat) (hl : l.length ≤ 1000000) (w : World) (B1 B2 : Nat) (hu : ReadsR o1 w B1 u l) (hv : ReadsR o2 w B2 v l) :
    Calls Tryz.prog 9 #[u, v] w fun e w' => e = .returned (.bool true) ∧ ∃ n, w' = w.drewN n := by
  obtain ⟨A, c, rfl, hA⟩ := hu
  obtain ⟨B, d, rfl, hB⟩ := hv
  have HA := Lib.hid hA; clear hA
  have HB := Lib.hid hB; clear hB
  go_enter Tryz.func9, Tryz.ntmps9
  go_wp2
  go_loopw [5] (fun i wr => ∃ (k n : Nat), k ≤ l.length ∧ i = .int .i64 k ∧ wr = w.drewN n) (fun i _ => l.length - (intOf i).toNat)
  case atStart => exact ⟨0, 0, by omega, rfl, rfl⟩
  case round =>
    obtain ⟨k, n, hk, rfl, rfl⟩ := hrel
    by_cases hlt : k < l.length
    · obtain ⟨g, rfl, -, hg⟩ := HA.out (by omega)
      obtain ⟨h, rfl, -, hh⟩ := HB.out (by omega)
      obtain ⟨g0, g1, g2, g3, g4⟩ := rcell hg k _ (List.getElem?_eq_getElem hlt)
      obtain ⟨h0, h1, h2, h3, h4⟩ := rcell hh k _ (List.getElem?_eq_getElem hlt)
      clear hg hh HA HB
      generalize (l[k]'hlt) = x at *
      obtain ⟨xw, xl, xc, xp, xn⟩ := x
      simp only [] at g0 g1 g2 g3 g4 h0 h1 h2 h3 h4
      go_wp2
      go_quiet (fail)
      go_wp2
      go_roundw
      case rel => exact ⟨k + 1, n + nq, by omega, by go_num, rfl⟩
      case measure => simp [intOf]; omega
    · go_wp2
      go_ret
      exact ⟨rfl, n, rfl⟩
theorem first_cons (x : Rl) (l : List Rl) (k : Int) (s : List Nat) : firstR (x :: l) k s = if x.what = k ∧ x.left = s then x.cells else firstR l k s := by
  unfold firstR
  rw [List.find?_cons]
  by_cases h : x.what = k ∧ x.left = s
  · rw [if_pos h, show (x.what == k && x.left == s) = true by rw [h.1, h.2]; simp]; rfl
  · rw [if_neg h, show (x.what == k && x.left == s) = false by
      rw [Bool.eq_false_iff]
      intro e
      rw [Bool.and_eq_true, beq_iff_eq, beq_iff_eq] at e
      exact h e]
theorem bytesOf_inj {a b : List Nat} (ha : ∀ x ∈ a, x < 256) (hb : ∀ x ∈ b, x < 256) (h : bytesOf a = bytesOf b) : a = b := by
  rw [← bytesN_bytesOf a ha, ← bytesN_bytesOf b hb, h]
set_option maxHeartbeats 4000000 in
/-- stylusref08.Of -/
theorem rofR_any (v : Value) (l : List Rl) (off : Nat) (q : Int) (t : ByteArray) (hl : l.length ≤ 1000000) (hf : ∀ x ∈ l, FitR x) (w : World) (B : Nat) (hv : ReadsR off w B v l) :
    Calls Tryz.prog 34 #[v, .int .i64 q, .string t] w fun e w' => e = .returned (.string (bytesOf (firstR l q (bytesN t)))) ∧ w' = w := by
  obtain ⟨A, c, rfl, hA⟩ := hv
  have HA := Lib.hid hA; clear hA
  have HF := Lib.hid hf; clear hf
  go_enter Tryz.func34, Tryz.ntmps34
  go_wp2
  go_loopw [7] (fun i wr => ∃ k : Nat, k ≤ l.length ∧ i = .int .i64 k ∧ firstR l q (bytesN t) = firstR (l.drop k) q (bytesN t) ∧ wr = w) (fun i _ => l.length - (intOf i).toNat)
  case atStart => exact ⟨0, by omega, rfl, rfl, rfl⟩
  case round =>
    obtain ⟨k, hk, rfl, hN, rfl⟩ := hrel
    by_cases hlt : k < l.length
    · obtain ⟨g, rfl, -, hg⟩ := HA.out (by omega)
      obtain ⟨x, hx⟩ : ∃ x, l[k]? = some x := ⟨_, List.getElem?_eq_getElem hlt⟩
      obtain ⟨g0, g1, g2, -, -⟩ := rcell hg k x hx
      have hfx := HF.out x (List.mem_of_getElem? hx)
      have hd : l.drop k = x :: l.drop (k + 1) := by
        rw [List.drop_eq_getElem_cons hlt]
        congr 1
        rw [List.getElem?_eq_getElem hlt] at hx
        exact Option.some.inj hx
      rw [hd, first_cons] at hN
      have hle : bytesOf x.left = t ↔ x.left = bytesN t := ⟨fun h => by rw [← h, bytesN_bytesOf _ hfx.2.2.2.1], fun h => by rw [h, bytesOf_bytesN]⟩
      obtain ⟨xw, xl, xc, xp, xn⟩ := x
      obtain ⟨L, hL⟩ : ∃ L, bytesOf xl = L := ⟨_, rfl⟩
      simp only [] at g0 g1 g2 hN hle
      rw [hL] at g1 hle
      clear hg HA HF hfx hd hx
      by_cases hq : xw = q
      · subst hq
        by_cases hLt : L = t
        · have HV := Lib.hid (hN.trans (if_pos ⟨rfl, hle.1 hLt⟩))
          subst hLt
          clear hN hle
          go_wp2
          go_ret
          rw [HV.out]
          exact ⟨rfl, rfl⟩
        · have HV := Lib.hid (hN.trans (if_neg (fun h => hLt (hle.2 h.2))))
          have hne := toList_ne hLt
          clear hN hle hLt
          go_wp2
          go_roundw
          case rel => exact ⟨k + 1, by omega, by go_num, HV.out, trivial⟩
          case measure => simp [intOf]; omega
      · have HV := Lib.hid (hN.trans (if_neg (fun h => hq h.1)))
        have t1 : (xw == q) = false := beq_eq_false_iff_ne.2 hq
        clear hN hle hq
        go_wp2
        go_roundw
        case rel => exact ⟨k + 1, by omega, by go_num, HV.out, trivial⟩
        case measure => simp [intOf]; omega
    · obtain rfl : k = l.length := by omega
      have HV := Lib.hid (hN.trans (by rw [List.drop_length]; rfl : firstR (l.drop l.length) q (bytesN t) = []))
      clear hN
      go_wp2
      go_ret
      rw [HV.out]
      exact ⟨rfl, rfl⟩
/-- stylusref08.Sign -/
theorem rsign_any (v : Value) (l : List Rl) (off : Nat) (t : ByteArray) (hl : l.length ≤ 1000000) (hf : ∀ x ∈ l, FitR x) (w : World) (B : Nat) (hv : ReadsR off w B v l) :
    Calls Tryz.prog 14 #[v, .string t] w fun e w' => e = .returned (.string (bytesOf (firstR l 8 (bytesN t)))) ∧ w' = w := by
  have HV := Lib.hid hv
  have HF := Lib.hid hf
  clear hv hf
  go_enter Tryz.func14, Tryz.ntmps14
  go_wp2_with fail
  refine (rofR_any v l off 8 t hl HF.out w B HV.out).mono ?_
  rintro e w' ⟨rfl, rfl⟩
  go_wp2
  go_ret
  exact ⟨rfl, rfl⟩
set_option maxHeartbeats 2000000 in
/-- stylusref08.Mark -/
theorem rmark_any (v : Value) (l : List Rl) (off : Nat) (c : Nat) (hc : c < 256) (hl : l.length ≤ 1000000) (hf : ∀ x ∈ l, FitR x) (w : World) (hv : ReadsR off w w.heap.size v l) :
    Calls Tryz.prog 16 #[v, .int .u8 (c : Int)] w fun e w' => e = .returned (.string (bytesOf (firstR l 6 [c]))) ∧ Below w.heap.size w w' := by
  have HB := Lib.hid ((Below.refl w.heap.size w).alloc (Nat.le_refl _) (.cells #[.int .u8 (c : Int)] 5))
  have HV := Lib.hid (hv.below HB.out)
  have HF := Lib.hid hf
  have hback := Ce.back_of_row [c] (fun x hx => by rw [List.mem_singleton.1 hx]; exact hc) (World.ownsRow_lit (base := w.heap.size) (e := 5) (size := 1) w #[.int .u8 (c : Int)] 1 (Nat.le_refl _) (by decide) rfl)
  have HN := Lib.hid (show bytesN (Ce.bytesOf [c]) = [c] from bytesN_bytesOf [c] (fun x hx => by rw [List.mem_singleton.1 hx]; exact hc))
  clear hv hf
  go_enter Tryz.func16, Tryz.ntmps16
  go_wp2_with fail
  refine (rofR_any v l off 6 _ hl HF.out _ _ HV.out).mono ?_
  rw [HN.out]
  rintro e w' ⟨rfl, rfl⟩
  go_wp2
  go_ret
  exact ⟨rfl, HB.out⟩
set_option maxHeartbeats 2000000 in
/-- stylusref08.Digit -/
theorem rdigit_any (v : Value) (l : List Rl) (off : Nat) (c : Nat) (hc : c < 256) (hl : l.length ≤ 1000000) (hf : ∀ x ∈ l, FitR x) (w : World) (hv : ReadsR off w w.heap.size v l) :
    Calls Tryz.prog 18 #[v, .int .u8 (c : Int)] w fun e w' => e = .returned (.string (bytesOf (firstR l 7 [c]))) ∧ Below w.heap.size w w' := by
  have HB := Lib.hid ((Below.refl w.heap.size w).alloc (Nat.le_refl _) (.cells #[.int .u8 (c : Int)] 5))
  have HV := Lib.hid (hv.below HB.out)
  have HF := Lib.hid hf
  have hback := Ce.back_of_row [c] (fun x hx => by rw [List.mem_singleton.1 hx]; exact hc) (World.ownsRow_lit (base := w.heap.size) (e := 5) (size := 1) w #[.int .u8 (c : Int)] 1 (Nat.le_refl _) (by decide) rfl)
  have HN := Lib.hid (show bytesN (Ce.bytesOf [c]) = [c] from bytesN_bytesOf [c] (fun x hx => by rw [List.mem_singleton.1 hx]; exact hc))
  clear hv hf
  go_enter Tryz.func18, Tryz.ntmps18
  go_wp2_with fail
  refine (rofR_any v l off 7 _ hl HF.out _ _ HV.out).mono ?_
  rw [HN.out]
  rintro e w' ⟨rfl, rfl⟩
  go_wp2
  go_ret
  exact ⟨rfl, HB.out⟩
theorem infoR : (Tryz.prog.info? 39).map (fun i => (i.zero, i.size, i.bytes)) = some (some (.agg #[.int .i64 0, .string { data := #[] }, .string { data := #[] }, .int .i64 0, .int .i64 0]), 5, 56) := by kernel_rfl
theorem numL_step : ∀ (l : List Rl) (n k : Nat) (x : Rl), l[k]? = some x → numL n (l.take (k + 1)) = numL n (l.take k) ++ [{ x with line := ((n + k : Nat) : Int) }]
  | [], n, k, x, h => by simp at h
  | y :: l, n, 0, x, h => by simp at h; subst h; rfl
  | y :: l, n, k + 1, x, h => by
    have ih := numL_step l (n + 1) k x (by simpa using h)
    show { y with line := (n : Int) } :: numL (n + 1) (l.take (k + 1)) = { y with line := (n : Int) } :: numL (n + 1) (l.take k) ++ _
    rw [ih, show n + 1 + k = n + (k + 1) by omega]; rfl
theorem rows_oneR (l : List Rl) (x : Rl) : rows cR (l ++ [x]) = rows cR l ++ [.int .i64 x.what, .string (bytesOf x.left), .string (bytesOf x.cells), .int .i64 x.prio, .int .i64 x.line] := by rw [rows_snoc]; rfl
def RowTo (l : List Rl) (w : World) (e : Ending) (w' : World) : Prop := ∃ v, e = .returned v ∧ w'.ownsRow w.heap.size 39 5 v l.length (rows cR l) ∧ Below w.heap.size w w'
set_option maxRecDepth 100000 in
set_option maxHeartbeats 4000000 in
/-- stylusref08.Unlined -/
theorem runlined_any (v : Value) (l : List Rl) (off : Nat) (hl : l.length ≤ 100000) (w : World) (hv : ReadsR off w w.heap.size v l) :
    Calls Tryz.prog 23 #[v] w (RowTo (numL 1 l) w) := by
  obtain ⟨i0, hi0, hz0, hz1, hz2⟩ := info_parts infoR
  obtain ⟨A, c, rfl, hA⟩ := hv
  have HA := Lib.hid hA; clear hA
  go_enter Tryz.func23, Tryz.ntmps23
  go_wp2
  go_loopw [3, 4] (fun u3 u4 wr => ∃ k : Nat, u4 = .int .i64 k ∧ k ≤ l.length ∧ wr.ownsRow w.heap.size 39 5 u3 k (rows cR (numL 1 (l.take k))) ∧ Below w.heap.size w wr) (fun _ u4 _ => l.length - (intOf u4).toNat)
  case atStart => exact ⟨0, rfl, Nat.zero_le _, World.ownsRow_nil _ _ _ _, Below.refl _ _⟩
  case round =>
    obtain ⟨k, rfl, hk, own, hB⟩ := hrel
    have hBs := hB.size
    by_cases hlt : k < l.length
    · obtain ⟨g, rfl, hgw, hg⟩ := HA.out (by omega)
      obtain ⟨x, hx⟩ : ∃ x, l[k]? = some x := ⟨_, List.getElem?_eq_getElem hlt⟩
      obtain ⟨g0, g1, g2, g3, g4⟩ := rcell hg k x hx
      have g0 := (hB.cell (p := ⟨g, off + k * 5, none⟩) hgw).trans g0
      have g1 := (hB.cell (p := ⟨g, off + k * 5 + 1, none⟩) hgw).trans g1
      have g2 := (hB.cell (p := ⟨g, off + k * 5 + 2, none⟩) hgw).trans g2
      have g3 := (hB.cell (p := ⟨g, off + k * 5 + 3, none⟩) hgw).trans g3
      have g4 := (hB.cell (p := ⟨g, off + k * 5 + 4, none⟩) hgw).trans g4
      have hstep := numL_step l 1 k x hx
      obtain ⟨xw, xl, xc, xp, xn⟩ := x
      simp only [] at g0 g1 g2 g3 g4
      obtain ⟨L, hL⟩ : ∃ L, bytesOf xl = L := ⟨_, rfl⟩
      obtain ⟨C, hC⟩ : ∃ C, bytesOf xc = C := ⟨_, rfl⟩
      rw [hL] at g1
      rw [hC] at g2
      have HNX := Lib.hid (show rows cR (numL 1 (l.take (k + 1))) = rows cR (numL 1 (l.take k)) ++ [.int .i64 xw, .string L, .string C, .int .i64 xp, .int .i64 ((k : Int) + 1)] by
        rw [hstep, rows_oneR]
        show _ ++ [_, Value.string (bytesOf xl), Value.string (bytesOf xc), _, Value.int .i64 ((1 + k : Nat) : Int)] = _
        rw [hL, hC, show ((1 + k : Nat) : Int) = (k : Int) + 1 by omega])
      have HOW := Lib.hid own
      have HB := Lib.hid hB
      have HLT := Lib.hid own.lt
      have k9 : k ≤ 100000 := by omega
      clear hg hx hstep hL hC own hB HA
      go_upto_region 7 with fail
      have hS := StB.new wr xw L C xp ((k : Int) + 1)
      have hO1 := HOW.out.alloc (.cells #[.int .i64 xw, .string L, .string C, .int .i64 xp, .int .i64 ((k : Int) + 1)] 39)
      have hB1 := HB.out.alloc hBs (.cells #[.int .i64 xw, .string L, .string C, .int .i64 xp, .int .i64 ((k : Int) + 1)] 39)
      have hs1 : w.heap.size ≤ (wr.alloc (.cells #[.int .i64 xw, .string L, .string C, .int .i64 xp, .int .i64 ((k : Int) + 1)] 39)).heap.size := by simp; omega
      have X0 := hS.c0
      have X1 := hS.c1
      have X2 := hS.c2
      have X3 := hS.c3
      have X4 := hS.c4
      clear hS
      generalize wr.alloc _ = w1 at *
      have HO1 := Lib.hid hO1
      have HB1 := Lib.hid hB1
      have HLT1 := Lib.hid hO1.lt
      clear hO1 hB1 HOW HB HLT hBs
      go_wp2_with (at_builtin; refine wpList_append_own _ rfl _ _ 23 rfl w.heap.size 39 i0 _ 5 56 Tryz.underlying23 hi0 hz0 hz1 hz2 rfl (by decide) _ _ _ rfl (HO1.out.alloc _) ⟨w1.heap.size, 0, none⟩ 1 1 [.int .i64 xw, .string L, .string C, .int .i64 xp, .int .i64 ((k : Int) + 1)] rfl rfl (World.news_of_block (cs := #[.int .i64 xw, .string L, .string C, .int .i64 xp, .int .i64 ((k : Int) + 1)]) (t := 39) (fr := (0, 0)) (heap_alloc_new w1 _)) (by simp [Value.oneCell']) (by unfold maxLen; omega) (by omega) (by simp; omega) ?_; intro v' w2 hown' hgrow _; have HF := Lib.hid (show w2.ownsRow w.heap.size 39 5 v' (k + 1) (rows cR (numL 1 (l.take (k + 1)))) ∧ Below w.heap.size w w2 from ⟨by rw [HNX.out]; exact hown', (HB1.out.alloc (by omega) _).grown hgrow (by simp; omega) (fun j ej => (HLT1.out j ej).1)⟩); clear hown' hgrow)
      go_roundw
      case rel => exact ⟨k + 1, by go_num, by omega, HF.out.1, HF.out.2⟩
      case measure => simp [intOf]; omega
    · obtain rfl : k = l.length := by omega
      rw [List.take_length] at own
      have HFIN := Lib.hid (show RowTo (numL 1 l) w (.returned u3) wr from ⟨u3, rfl, by rw [numL_len]; exact own, hB⟩)
      clear own hB
      go_wp2
      go_ret
      exact HFIN.out
end Go.Proofs.YtkhfingenjlpfaaGreatDoor.Ru
