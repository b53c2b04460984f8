/-
  styluslaw02.CellApart answers true.
-/
import Derived.Test.YtlnmacgbdienoaaDoorCeW
import Derived.Deep.RegionWith
import Derived.Deep.DeepCutAuto
namespace Go.Proofs.YtlnmacgbdienoaaDoor
open Go.RowKit

theorem toList_ne {d d' : ByteArray} (h : d ≠ d') : (d.toList == d'.toList) = false := by
  rw [beq_eq_false_iff_ne]
  intro e
  rw [ByteArray.toList_eq, ByteArray.toList_eq] at e
  exact h (ByteArray.ext (Array.toList_inj.1 e))
theorem below_two {B : Nat} {w wc : World} (h : Below B w wc) (hB : B ≤ wc.heap.size) (o1 o2 : Obj) : Below B w ((wc.alloc o1).alloc o2).drew ∧ B ≤ ((wc.alloc o1).alloc o2).drew.heap.size :=
  ⟨((h.alloc hB _).alloc (by simp; omega) _).drew, by show B ≤ ((wc.alloc o1).alloc o2).heap.size; simp; omega⟩
theorem dots_at (a : Nat) (h : a < 256) (d : ByteArray) (hd : dotsS a = d) (w : World) :
    Calls Tryd.prog 13 #[.int .u8 ((a : Nat) : Int)] w fun r w' => r = .returned (.string d) ∧ Below w.heap.size w w' := hd ▸ dots_any a h w

set_option maxRecDepth 100000 in
set_option maxHeartbeats 8000000 in
theorem cellApart_any (a : Nat) (ha2 : a < 256) (b : Nat) (hb2 : b < 256) (w : World) :
    Calls Tryd.prog 6 #[.int .u8 (a : Int), .int .u8 (b : Int)] w fun e w' => e = .returned (.bool true) ∧ Below w.heap.size w w' := by
  obtain ⟨p, hp⟩ : ∃ p, signR a = p := ⟨_, rfl⟩
  obtain ⟨q, hq⟩ : ∃ q, signR b = q := ⟨_, rfl⟩
  obtain ⟨x, hx⟩ : ∃ x, signB a = x := ⟨_, rfl⟩
  obtain ⟨y, hy⟩ : ∃ y, signB b = y := ⟨_, rfl⟩
  have S1 := Lib.hid (show ((signR a : Nat) : Int) = (p : Int) by rw [hp])
  have S2 := Lib.hid (show ((signR b : Nat) : Int) = (q : Int) by rw [hq])
  have S3 := Lib.hid hx
  have S4 := Lib.hid hy
  have HP := Lib.hid hp
  have HQ := Lib.hid hq
  clear hp hq hx hy
  go_enter Tryd.func6, Tryd.ntmps6
  go_upto_region 3 with (first
    | (go_at_call_of 8 (Value.int .u8 (a : Int)); refine (sign_lit (a : Int) (p : Int) x a rfl ha2 S1.out S3.out _).mono ?_; rintro e w' ⟨rfl, rfl⟩)
    | (go_at_call_of 8 (Value.int .u8 (b : Int)); refine (sign_lit (b : Int) (q : Int) y b rfl hb2 S2.out S4.out _).mono ?_; rintro e w' ⟨rfl, rfl⟩))
  go_cut [5, 6, 7, 8, 30] (fun s5 s6 s7 s8 s30 wx => s5 = .int .u8 (p : Int) ∧ s6 = .bool x ∧ s7 = .int .u8 (q : Int) ∧ s8 = .bool y ∧ s30 = .bool false ∧ w = wx)
  case first =>
    by_cases h1 : a < 64
    · obtain rfl : x = true := by rw [← S3.out]; unfold signB; simp; omega
      have g1 : decide ((a : Int) < 64) = true := decide_eq_true (by omega)
      by_cases h2 : b < 64
      · obtain rfl : y = true := by rw [← S4.out]; unfold signB; simp; omega
        have g2 : decide ((b : Int) < 64) = true := decide_eq_true (by omega)
        go_wp2
        go_meet
        exact ⟨rfl, rfl, rfl, rfl, rfl, rfl⟩
      · obtain rfl : y = false := by rw [← S4.out]; unfold signB; simp; omega
        have g2 : decide ((b : Int) < 64) = false := decide_eq_false (by omega)
        go_wp2
        go_meet
        exact ⟨rfl, rfl, rfl, rfl, rfl, rfl⟩
    · obtain rfl : x = false := by rw [← S3.out]; unfold signB; simp; omega
      have g1 : decide ((a : Int) < 64) = false := decide_eq_false (by omega)
      by_cases h2 : b < 64
      · obtain rfl : y = true := by rw [← S4.out]; unfold signB; simp; omega
        have g2 : decide ((b : Int) < 64) = true := decide_eq_true (by omega)
        go_wp2
        go_meet
        exact ⟨rfl, rfl, rfl, rfl, rfl, rfl⟩
      · obtain rfl : y = false := by rw [← S4.out]; unfold signB; simp; omega
        have g2 : decide ((b : Int) < 64) = false := decide_eq_false (by omega)
        go_wp2
        go_meet
        exact ⟨rfl, rfl, rfl, rfl, rfl, rfl⟩
  case rest =>
    obtain ⟨rfl, rfl, rfl, rfl, rfl, rfl⟩ := hcut
    go_upto_region 5 with fail
    go_cut [54] (fun s54 wx => s54 = .bool false ∧ Below w.heap.size w wx)
    case first =>
      have HB0 : Below w.heap.size w w := Below.refl _ _
      by_cases h1 : a < 64
      · obtain rfl : x = true := by rw [← S3.out]; unfold signB; simp; omega
        by_cases h2 : b < 64
        · obtain rfl : y = true := by rw [← S4.out]; unfold signB; simp; omega
          obtain ⟨d, hd⟩ : ∃ d, dotsS a = d := ⟨_, rfl⟩
          have D1 := Lib.hid hd
          by_cases he : a = b
          · subst he
            obtain rfl : p = q := by rw [← HP.out, HQ.out]
            clear hd
            go_wp2_with fail
            refine (dots_at a ha2 d D1.out _).mono ?_
            rintro e w1 ⟨rfl, hb1⟩
            have HB1 := chain HB0 HB0.size hb1
            go_wp2_with fail
            refine (dots_at a ha2 d D1.out _).mono ?_
            rintro e w2 ⟨rfl, hb2'⟩
            have HB2 := chain HB1 HB1.size hb2'
            go_wp2
            go_meet
            exact ⟨rfl, HB2⟩
          · obtain ⟨d', hd'⟩ : ∃ d', dotsS b = d' := ⟨_, rfl⟩
            have D2 := Lib.hid hd'
            have hpq : p ≠ q := fun e => he (sign_inj a b h1 h2 (by rw [HP.out, HQ.out, e]))
            have n1 : ((a : Int) == (b : Int)) = false := beq_eq_false_iff_ne.2 (by omega)
            have n2 : ((p : Int) == (q : Int)) = false := beq_eq_false_iff_ne.2 (by omega)
            have hdd : d ≠ d' := fun e => he (dots_inj a b h1 h2 (by rw [hd, hd', e]))
            have hds : (d.toList == d'.toList) = false := toList_ne hdd
            clear hd hd' hdd hpq he
            go_wp2_with fail
            refine (dots_at a ha2 d D1.out _).mono ?_
            rintro e w1 ⟨rfl, hb1⟩
            have HB1 := chain HB0 HB0.size hb1
            go_wp2_with fail
            refine (dots_at b hb2 d' D2.out _).mono ?_
            rintro e w2 ⟨rfl, hb2'⟩
            have HB2 := chain HB1 HB1.size hb2'
            go_wp2
            go_meet
            exact ⟨rfl, HB2⟩
        · obtain rfl : y = false := by rw [← S4.out]; unfold signB; simp; omega
          go_wp2
          go_meet
          exact ⟨rfl, HB0⟩
      · obtain rfl : x = false := by rw [← S3.out]; unfold signB; simp; omega
        go_wp2
        go_meet
        exact ⟨rfl, HB0⟩
    case rest =>
      obtain ⟨rfl, HB0⟩ := hcut
      have h63 := and63 a ha2
      obtain ⟨r, hrr⟩ : ∃ r, a % 64 = r := ⟨_, rfl⟩
      rw [hrr] at h63
      have hr64 : r < 64 := by omega
      obtain ⟨d3, hd3⟩ : ∃ d3, dotsS r = d3 := ⟨_, rfl⟩
      have D3 := Lib.hid hd3
      have D4 := Lib.hid (show ofS d3 = r by rw [← hd3]; exact of_dotsS r hr64)
      obtain ⟨v, hv⟩ : ∃ v, ofB d3 = v := ⟨_, rfl⟩
      have D5 := Lib.hid hv
      have hz3 : d3.size ≤ 70000 := by rw [← hd3, dotsS_size]; have := popN_le r; omega
      clear hd3 hv hrr
      go_upto_region 8 with (first
        | (go_at_call 13; refine (dots_at r (by omega) d3 D3.out _).mono ?_; rintro e w3 ⟨rfl, hb3⟩; have HB3 := chain HB0 HB0.size hb3)
        | (go_at_call 26; refine (of_at d3 hz3 r v D4.out D5.out _).mono ?_; rintro e w4 ⟨rfl, hb4⟩; have HB4 := chain HB3 HB3.size hb4))
      go_cut [9, 10, 75] (fun _ _ s75 wx => s75 = .bool false ∧ Below w.heap.size w wx)
      case first =>
        by_cases hr0 : r = 0
        · subst hr0
          obtain rfl : v = false := by rw [← D5.out]; unfold ofB; rw [D4.out]; rfl
          go_wp2
          go_meet
          exact ⟨rfl, HB4⟩
        · obtain rfl : v = true := by rw [← D5.out]; unfold ofB; rw [D4.out]; simp [hr0]
          have hr1 : 0 < r := by omega
          have hr2 : decide (0 < (r : Int)) = true := decide_eq_true (by omega)
          go_wp2
          go_meet
          exact ⟨rfl, HB4⟩
      case rest =>
        obtain ⟨rfl, HB5⟩ := hcut
        clear h63
        by_cases hz : bits .and .u8 (a : Int) (b : Int) = 0
        · obtain ⟨u, hu1, hu2, hu3⟩ := disjoint_at a b ha2 hb2 hz
          have hc1 := fun (W : World) (g : Nat) (h : W.cell? ⟨g, 0, none⟩ = some (.int .u8 (u : Int))) => back_one W g u hu2 h
          have hc2 := fun (W : World) (g : Nat) (h : W.cell? ⟨g, 0, none⟩ = some (.int .u8 (a : Int))) (h' : W.cell? ⟨g, 1, none⟩ = some (.int .u8 (b : Int))) => back_two W g a b ha2 hb2 h h'
          have Z1 := Lib.hid (show ((popS (bytesOf [u]) : Nat) : Int) = ((popN u : Nat) : Int) by rw [pop_one u hu2])
          have Z2 := Lib.hid (show ((popS (bytesOf [a, b]) : Nat) : Int) = ((popN u : Nat) : Int) by rw [pop_two a b ha2 hb2, hu3])
          have y1 : (bytesOf [u]).size ≤ 70000 := by rw [bytesOf_size]; simp
          have y2 : (bytesOf [a, b]).size ≤ 70000 := by rw [bytesOf_size]; simp
          clear hu3
          go_upto_region 12 with fail
          clear hz
          go_region_with (first
            | (go_at_call 24; first | ((with_reducible refine (count_lit (bytesOf [u]) y1 _ Z1.out _).mono ?_); rintro e w' ⟨rfl, rfl⟩) | ((with_reducible refine (count_lit (bytesOf [a, b]) y2 _ Z2.out _).mono ?_); rintro e w' ⟨rfl, rfl⟩))
            | (go_at_call 7; refine (awake_any _).mono ?_; rintro e w5 ⟨rfl, hb5⟩))
          all_goals
            go_wp2
            go_ret
            exact ⟨rfl, chain (below_two HB5 HB5.size _ _).1 (below_two HB5 HB5.size _ _).2 hb5⟩
        · have hz1 : (bits .and .u8 (a : Int) (b : Int) == 0) = false := beq_eq_false_iff_ne.2 hz
          have hz2 : (bits .and .u8 (a : Int) (b : Int) != 0) = true := by rw [bne, hz1]; rfl
          clear hz
          go_wp2_with (go_at_call 7; refine (awake_any _).mono ?_; rintro e w5 ⟨rfl, hb5⟩)
          go_ret
          exact ⟨rfl, chain HB5 HB5.size hb5⟩
end Go.Proofs.YtlnmacgbdienoaaDoor
