/-
  styluslaw04.TreeMay, walked over what the landed package answers.
-/
import Derived.Test.YtfphbmboaefbiaaDoorTtF
import Derived.Test.YtfphbmboaefbiaaDoorShelf
namespace Go.Proofs.YtfphbmboaefbiaaDoor.Tr
open Go.RowKit

set_option maxRecDepth 100000 in
set_option maxHeartbeats 8000000 in
/-- styluslaw04.TreeMay -/
theorem may_any (L : Lands) (s : ByteArray) (hs : s.size ≤ maxLen) (w : World) (hL : Ka.Laid w) :
    Calls Tryd.prog 5 #[.string s] w fun e w' => e = .returned (.bool true) ∧ Below w.heap.size w w' := by
  obtain ⟨fits, -⟩ := parse_fit s hs
  obtain ⟨t, ht⟩ : ∃ t, (parseA s).1 = t := ⟨_, rfl⟩
  obtain ⟨p, hp⟩ : ∃ p, (parseA s).2.1 = p := ⟨_, rfl⟩
  obtain ⟨q, hq⟩ : ∃ q, (parseA s).2.2 = q := ⟨_, rfl⟩
  have hL1 := hL.1
  go_enter Tryd.func5, Tryd.ntmps5
  by_cases h0 : q = 0
  · obtain ⟨hm, hp0⟩ := parseA_may (hq.trans h0)
    rw [ht] at hm fits
    have HM := Lib.hid hm
    have HT := Lib.hid ht
    have HP := Lib.hid (hp0)
    have HQ := Lib.hid (hq.trans h0)
    have hlen := hm.len
    have hsm := hm.small
    have HF := Lib.hid fits
    clear hm ht hp hq hp0 h0 fits
    go_wp2_with fail
    refine (L.at s hs t 0 0 HT.out (by rw [HP.out]; rfl) (by rw [HQ.out]; rfl) _ hL).mono ?_
    rintro e w1 ⟨v, rfl, hv, hb1⟩
    have L1 := hL.below hb1 hL1
    obtain ⟨A, c, rfl, hA⟩ := hv
    have hr1 : ReadsN 0 w1 w1.heap.size (.slice A t.length c) t := ⟨A, c, rfl, hA⟩
    have HA := Lib.hid hA
    clear hA
    go_wp2_with fail
    refine (L.check t 0 _ (by omega) HF.out (fun x hx => ?_) _ L1 hr1).mono ?_
    · obtain ⟨i, hi⟩ := List.mem_iff_getElem?.1 hx
      have ho := (HM.out.one i x hi).1
      obtain ⟨pl, h1, h2, h3, h4⟩ := ho.2
      by_cases hk : x.kind = 46
      · have := h3 hk
        have h5 : (core x).2.1 = x.text := rfl
        rw [h5] at this
        omega
      · have h6 := ho.1 x.size
        have := nodeOk_node hk h6
        omega
    rw [HM.out.check]
    rintro e w2 ⟨rfl, hb2⟩
    have HB2 := Lib.hid hb2
    have HB1 := Lib.hid hb1
    have hsz1 := hb1.size
    clear hr1 hb1 hb2
    obtain ⟨N, hN⟩ : ∃ N, w1.heap.size = N := ⟨_, rfl⟩
    have hlt1 : decide (2000 < (t.length : Int)) = false := decide_eq_false (by omega)
    go_wp2
    go_loopw [6] (fun i wr => ∃ k : Nat, k ≤ t.length ∧ i = .int .i64 k ∧ Below w1.heap.size w1 wr) (fun i _ => t.length - (intOf i).toNat)
    case atStart => exact ⟨0, by omega, rfl, HB2.out⟩
    case round =>
      obtain ⟨k, hk, rfl, hbr⟩ := hrel
      by_cases hlt : k < t.length
      · obtain ⟨g, rfl, hg, hc⟩ := HA.out (by omega)
        obtain ⟨⟨xk, xt, xp, xs⟩, hx⟩ : ∃ x, t[k]? = some x := ⟨_, List.getElem?_eq_getElem hlt⟩
        obtain ⟨d0, d1, d2, d3⟩ := cells_of hc k _ hx
        have up : ∀ i, wr.cell? ⟨g, i, none⟩ = w1.cell? ⟨g, i, none⟩ := fun i => World.cell?_of_block (w := w1) (hbr.block g hg)
        rw [← up] at d0 d1 d2 d3
        obtain ⟨⟨o1, pl, ho2, ho3, ho4, ho5⟩, s1, s2, s3⟩ := HM.out.one k _ hx
        have ho4' : xk = 46 → 0 < xt.size ∧ pl + xt.size ≤ s.size ∧ s.extract pl (pl + xt.size) = xt := ho4
        have ho5' : xk ≠ 46 → Lx.bAt s pl = 123 := ho5
        have ho2' : xp = (pl : Int) := ho2
        subst ho2'
        have s1' : 1 ≤ xs := s1
        have s2' : xs ≤ (t.length : Int) - (k : Int) := s2
        clear o1 ho2 ho4 ho5 s1 s2
        have hB := (Below.refl wr.heap.size wr).alloc (Nat.le_refl _) (.cells #[.int .u8 (xk : Int), .string xt, .int .i64 (pl : Int), .int .i64 xs] 32)
        have hgw : g < wr.heap.size := Nat.lt_of_lt_of_le hg hbr.size
        have HBN := Lib.hid (hbr.trans (hB.mono hbr.size))
        have q1 : decide (xs < 1) = false := decide_eq_false (by omega)
        have q2 : decide ((t.length : Int) - (k : Int) < xs) = false := decide_eq_false (by omega)
        have q3 : decide (s.size ≤ pl) = false := decide_eq_false (by omega)
        have j0 : (0 : Int) ≤ (k : Int) := by omega
        have j1 : (k : Int) < (t.length : Int) := by omega
        have E1 := Lx.bAt_get s pl ho3
        simp only [Nat.zero_add] at d0 d1 d2 d3
        by_cases hk0 : k = 0
        · have z0 : decide (0 < k) = false := decide_eq_false (by omega)
          clear hk0 hc up hx
          go_wp2
          have k0 : (wr.alloc (.cells #[.int .u8 (xk : Int), .string xt, .int .i64 (pl : Int), .int .i64 xs] 32)).cell? ⟨wr.heap.size, 0, none⟩ = some (.int .u8 (xk : Int)) := by simp
          have k1 : (wr.alloc (.cells #[.int .u8 (xk : Int), .string xt, .int .i64 (pl : Int), .int .i64 xs] 32)).cell? ⟨wr.heap.size, 1, none⟩ = some (.string xt) := by simp
          have k2 : (wr.alloc (.cells #[.int .u8 (xk : Int), .string xt, .int .i64 (pl : Int), .int .i64 xs] 32)).cell? ⟨wr.heap.size, 2, none⟩ = some (.int .i64 (pl : Int)) := by simp
          have k3 : (wr.alloc (.cells #[.int .u8 (xk : Int), .string xt, .int .i64 (pl : Int), .int .i64 xs] 32)).cell? ⟨wr.heap.size, 3, none⟩ = some (.int .i64 xs) := by simp
          clear d0 d1 d2 d3 hB hbr
          generalize wr.alloc (.cells #[.int .u8 (xk : Int), .string xt, .int .i64 (pl : Int), .int .i64 xs] 32) = w5 at *
          generalize wr.heap.size = g7 at *
          go_big_quiet (fail)
          go_wp2
          by_cases h46 : xk = 46
          · have t1 : ((xk : Int) == 46) = true := intEq h46
            have t0 : ((xk : Int) != 46) = false := by rw [bne, t1]; rfl
            obtain ⟨x1, x2, x3⟩ := ho4' h46
            have t2 : (xs != 1) = false := by rw [s3 h46]; rfl
            have HPX := Lib.hid (fun (W : World) => (show Calls Tryd.prog 17 #[.string (s.extract pl s.size), .string xt] W fun e w' => e = .returned (.bool true) ∧ w' = W from (Tryd.strings_HasPrefix _ _ W).mono fun _ _ h => ⟨h.1.trans (by rw [starts_at x2 x3]), h.2⟩))
            obtain ⟨e1, e2⟩ := Lx.nonE xt (by omega)
            clear h46 x3 ho4' ho5' s3 E1
            go_big_quiet ((first | (go_at_call 17; exact (HPX.out _).mono fun _ _ h => ⟨h.1, _, h.2⟩)))
            go_wp2
            go_roundw
            case rel => exact ⟨k + 1, by omega, by go_num, Lx.below_drewN HBN.out _⟩
            case measure => simp [intOf]; omega
          · have t1 : ((xk : Int) == 46) = false := intNe h46
            have t2 : ((xk : Int) != 46) = true := by rw [bne, t1]; rfl
            have e3 := ho5' h46
            rw [e3] at E1
            clear h46 e3 ho4' ho5' s3
            go_big_quiet (fail)
            go_wp2
            go_roundw
            case rel => exact ⟨k + 1, by omega, by go_num, Lx.below_drewN HBN.out _⟩
            case measure => simp [intOf]; omega
        · obtain ⟨m, hm⟩ : ∃ m, k = m + 1 := ⟨k - 1, by omega⟩
          obtain ⟨⟨yk, yt, yp, ys⟩, hy⟩ : ∃ y, t[m]? = some y := ⟨_, List.getElem?_eq_getElem (by omega)⟩
          obtain ⟨-, -, dm, -⟩ := cells_of hc m _ hy
          rw [← up] at dm
          have hpl := HM.out.next hy (hm ▸ hx)
          simp only [Nat.zero_add] at dm hpl
          have z0 : decide (0 < k) = true := decide_eq_true (by omega)
          have z1 : decide ((pl : Int) ≤ yp) = false := decide_eq_false (by omega)
          have i1 : (k : Int) - 1 = (m : Int) := by omega
          have i2 : IntKind.i64.wrap (m : Int) = (m : Int) := IntWalk.i64_in _ ⟨by omega, by omega⟩
          have j2 : (0 : Int) ≤ (m : Int) := by omega
          have j3 : (m : Int) < (t.length : Int) := by omega
          clear hk0 hc up hx hpl hy hm
          go_wp2
          have k0 : (wr.alloc (.cells #[.int .u8 (xk : Int), .string xt, .int .i64 (pl : Int), .int .i64 xs] 32)).cell? ⟨wr.heap.size, 0, none⟩ = some (.int .u8 (xk : Int)) := by simp
          have k1 : (wr.alloc (.cells #[.int .u8 (xk : Int), .string xt, .int .i64 (pl : Int), .int .i64 xs] 32)).cell? ⟨wr.heap.size, 1, none⟩ = some (.string xt) := by simp
          have k2 : (wr.alloc (.cells #[.int .u8 (xk : Int), .string xt, .int .i64 (pl : Int), .int .i64 xs] 32)).cell? ⟨wr.heap.size, 2, none⟩ = some (.int .i64 (pl : Int)) := by simp
          have k3 : (wr.alloc (.cells #[.int .u8 (xk : Int), .string xt, .int .i64 (pl : Int), .int .i64 xs] 32)).cell? ⟨wr.heap.size, 3, none⟩ = some (.int .i64 xs) := by simp
          have d5 : (wr.alloc (.cells #[.int .u8 (xk : Int), .string xt, .int .i64 (pl : Int), .int .i64 xs] 32)).cell? ⟨g, m * 4 + 2, none⟩ = some (.int .i64 yp) := (World.cell?_of_block (w := wr) (a := ⟨g, m * 4 + 2, none⟩) (hB.block g hgw)).trans dm
          clear d0 d1 d2 d3 hB hbr
          generalize wr.alloc (.cells #[.int .u8 (xk : Int), .string xt, .int .i64 (pl : Int), .int .i64 xs] 32) = w5 at *
          generalize wr.heap.size = g7 at *
          go_big_quiet (fail)
          go_wp2
          by_cases h46 : xk = 46
          · have t1 : ((xk : Int) == 46) = true := intEq h46
            have t0 : ((xk : Int) != 46) = false := by rw [bne, t1]; rfl
            obtain ⟨x1, x2, x3⟩ := ho4' h46
            have t2 : (xs != 1) = false := by rw [s3 h46]; rfl
            have HPX := Lib.hid (fun (W : World) => (show Calls Tryd.prog 17 #[.string (s.extract pl s.size), .string xt] W fun e w' => e = .returned (.bool true) ∧ w' = W from (Tryd.strings_HasPrefix _ _ W).mono fun _ _ h => ⟨h.1.trans (by rw [starts_at x2 x3]), h.2⟩))
            obtain ⟨e1, e2⟩ := Lx.nonE xt (by omega)
            clear h46 x3 ho4' ho5' s3 E1
            go_big_quiet ((first | (go_at_call 17; exact (HPX.out _).mono fun _ _ h => ⟨h.1, _, h.2⟩)))
            go_wp2
            go_roundw
            case rel => exact ⟨k + 1, by omega, by go_num, Lx.below_drewN HBN.out _⟩
            case measure => simp [intOf]; omega
          · have t1 : ((xk : Int) == 46) = false := intNe h46
            have t2 : ((xk : Int) != 46) = true := by rw [bne, t1]; rfl
            have e3 := ho5' h46
            rw [e3] at E1
            clear h46 e3 ho4' ho5' s3
            go_big_quiet (fail)
            go_wp2
            go_roundw
            case rel => exact ⟨k + 1, by omega, by go_num, Lx.below_drewN HBN.out _⟩
            case measure => simp [intOf]; omega
      · obtain rfl : k = t.length := by omega
        have H3 := Ba.chain HB1.out HB1.out.size hbr
        have L3 := hL.below H3 hL1
        have H3 := Lib.hid H3
        clear hbr
        go_wp2_with fail
        refine (awake_any L _ L3).mono ?_
        rintro e w4 ⟨rfl, hb4⟩
        go_wp2
        go_ret
        exact ⟨rfl, Ba.chain H3.out H3.out.size hb4⟩
  · have hq0 : (parseA s).2.2 ≠ 0 := by rw [hq]; exact h0
    obtain ⟨b1, b2⟩ := parseA_bad hq0
    rw [hp] at b2
    have HT := Lib.hid b1
    have HP := Lib.hid hp
    have HQ := Lib.hid hq
    have t1 : ((q : Int) != 0) = true := by rw [bne, show ((q : Int) == 0) = false from intNe h0]; rfl
    have t2 : decide ((0 : Int) ≤ (p : Int)) = true := decide_eq_true (by omega)
    have t3 : decide ((p : Int) ≤ (s.size : Int)) = true := decide_eq_true (by omega)
    clear ht hp hq h0 hq0 b1 fits
    go_wp2_with fail
    refine (L.at s hs [] (p : Int) (q : Int) HT.out (by rw [HP.out]) (by rw [HQ.out]) _ hL).mono ?_
    rintro e w1 ⟨v, rfl, ⟨A, c, rfl, -⟩, hb1⟩
    have L1 := hL.below hb1 hL1
    have HB1 := Lib.hid hb1
    clear hb1
    go_wp2_with fail
    refine (awake_any L _ L1).mono ?_
    rintro e w4 ⟨rfl, hb4⟩
    go_wp2
    go_ret
    exact ⟨rfl, Ba.chain HB1.out HB1.out.size hb4⟩
end Go.Proofs.YtfphbmboaefbiaaDoor.Tr
