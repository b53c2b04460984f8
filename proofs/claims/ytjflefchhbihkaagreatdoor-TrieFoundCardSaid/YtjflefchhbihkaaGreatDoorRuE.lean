/-
  Layer 8's document: whether a rule may be.
-/
import Derived.Test.YtjflefchhbihkaaGreatDoorRuD
namespace Go.Proofs.YtjflefchhbihkaaGreatDoor.Ru
open Go.RowKit Ba

theorem prC_some {c : List Nat} (h : ∀ x ∈ c, x < 256) : (prC c).isSome = decide (Ce.printE (bytesOf c) = 0) := by
  unfold prC Ce.printE
  by_cases hk : Ce.printOK (bytesOf c)
  · rw [if_pos ⟨h, hk⟩, if_pos hk]; rfl
  · rw [if_neg (fun e => hk e.2), if_neg hk]; rfl
/-- The last of the four: the Prio. -/
def prioB (what prio : Int) : Bool := if what ≤ 5 then decide (0 ≤ prio ∧ prio ≤ 99) else decide (prio = 0)
theorem mayR_is {what : Int} {left cells : List Nat} {prio line : Int} (hc : ∀ x ∈ cells, x < 256) :
    mayR prC ⟨what, left, cells, prio, line⟩ = (decide (1 ≤ what ∧ what ≤ 8) && leftB what.toNat left && decide (Ce.printE (bytesOf cells) = 0) && prioB what prio) := by
  unfold mayR prioB
  rw [← prC_some hc]
set_option maxRecDepth 100000 in
set_option maxHeartbeats 4000000 in
/-- stylusref08.May -/
theorem rmay_any (x : Rl) (hf : FitR x) (h1 : x.left.length ≤ 70000) (h2 : x.cells.length ≤ 70000) (b : Bool) (hb : mayR prC x = b) (w : World) :
    Calls Tryz.prog 43 #[aggR x] w fun e w' => e = .returned (.bool b) ∧ Below w.heap.size w w' := by
  obtain ⟨what, left, cells, prio, line⟩ := x
  obtain ⟨⟨i1, i2⟩, ⟨i3, i4⟩, ⟨i5, i6⟩, hl, hc, -, -⟩ := hf
  rw [mayR_is hc] at hb
  show Calls _ _ #[.agg #[.int .i64 what, .string (bytesOf left), .string (bytesOf cells), .int .i64 prio, .int .i64 line]] w _
  obtain ⟨S, hS⟩ : ∃ S, bytesOf left = S := ⟨_, rfl⟩
  obtain ⟨T, hT⟩ : ∃ T, bytesOf cells = T := ⟨_, rfl⟩
  have hSN : left = bytesN S := by rw [← hS, bytesN_bytesOf _ hl]
  have hSs : S.size ≤ 70000 := by rw [← hS, bytesOf_size]; exact h1
  have hTs : T.size ≤ 70000 := by rw [← hT, bytesOf_size]; exact h2
  rw [hS, hT]
  rw [hSN, hT] at hb
  change -9223372036854775808 ≤ what at i1
  change what ≤ 9223372036854775807 at i2
  change -9223372036854775808 ≤ prio at i3
  change prio ≤ 9223372036854775807 at i4
  change -9223372036854775808 ≤ line at i5
  change line ≤ 9223372036854775807 at i6
  clear h1 h2 hl hc hS hT hSN
  by_cases a1 : what < 1
  · obtain rfl : false = b := by rw [← hb, decide_eq_false (by omega)]; rfl
    clear hb
    go_enter Tryz.func43, Tryz.ntmps43
    go_wp2
    go_ret
    exact ⟨rfl, (Below.refl _ _).alloc (Nat.le_refl _) _⟩
  by_cases a8 : 8 < what
  · obtain rfl : false = b := by rw [← hb, decide_eq_false (by omega)]; rfl
    clear hb
    go_enter Tryz.func43, Tryz.ntmps43
    go_wp2
    go_ret
    exact ⟨rfl, (Below.refl _ _).alloc (Nat.le_refl _) _⟩
  obtain ⟨k, rfl⟩ := Int.eq_ofNat_of_zero_le (show 0 ≤ what by omega)
  have k8 : k ≤ 8 := by omega
  have k1 : 1 ≤ k := by omega
  rw [decide_eq_true (by omega), Bool.true_and, Int.toNat_natCast] at hb
  have u1 : decide ((k : Int) < 1) = false := decide_eq_false a1
  have u8 : decide (8 < (k : Int)) = false := decide_eq_false a8
  clear a1 a8 i1 i2
  obtain ⟨lb, hlb⟩ : ∃ lb, leftB k (bytesN S) = lb := ⟨_, rfl⟩
  rw [hlb] at hb
  have HLB := Lib.hid hlb
  clear hlb
  go_enter Tryz.func43, Tryz.ntmps43
  go_upto_region 1 with fail
  generalize hw1 : w.alloc _ = w1
  have C0 : w1.cell? ⟨w.heap.size, 0, none⟩ = some (.int .i64 (k : Int)) := by rw [← hw1]; simp
  have C1 : w1.cell? ⟨w.heap.size, 1, none⟩ = some (.string S) := by rw [← hw1]; simp
  have C2 : w1.cell? ⟨w.heap.size, 2, none⟩ = some (.string T) := by rw [← hw1]; simp
  have C3 : w1.cell? ⟨w.heap.size, 3, none⟩ = some (.int .i64 prio) := by rw [← hw1]; simp
  have HB1 := Lib.hid (show Below w.heap.size w w1 by rw [← hw1]; exact (Below.refl _ _).alloc (Nat.le_refl _) _)
  have hs1 : w.heap.size < w1.heap.size := by rw [← hw1]; simp
  clear hw1
  cases lb
  · obtain rfl : false = b := by rw [← hb]; rfl
    clear hb
    go_wp2_with (go_at_call 59; refine (rleft_any k k8 S hSs false HLB.out _).mono ?_; rintro e w2 ⟨rfl, hb2⟩; have HB2 := Lib.hid (chain HB1.out HB1.out.size hb2); clear hb2)
    go_ret
    exact ⟨rfl, HB2.out⟩
  · rw [Bool.true_and] at hb
    obtain ⟨z, hz⟩ : ∃ z, Ce.printE T = z := ⟨_, rfl⟩
    obtain ⟨V, hV⟩ : ∃ V, Ce.printV T = V := ⟨_, rfl⟩
    have HPR := Lib.hid (hz ▸ hV ▸ Ce.rprint_any T hTs)
    rw [hz] at hb
    have hz01 : z = 0 ∨ z = 1 := by
      rw [← hz]; unfold Ce.printE; split
      · exact .inl rfl
      · exact .inr rfl
    clear hz hV
    go_wp2_with (go_at_call 59; refine (rleft_any k k8 S hSs true HLB.out _).mono ?_; rintro e w2 ⟨rfl, hb2⟩; have HB2 := Lib.hid (chain HB1.out HB1.out.size hb2); have D0 := (hb2.cell (p := ⟨w.heap.size, 0, none⟩) hs1).trans C0; have D2 := (hb2.cell (p := ⟨w.heap.size, 2, none⟩) hs1).trans C2; have D3 := (hb2.cell (p := ⟨w.heap.size, 3, none⟩) hs1).trans C3; have hs2 : w.heap.size < w2.heap.size := Nat.lt_of_lt_of_le hs1 hb2.size; clear hb2)
    refine (HPR.out _).mono ?_
    rintro e w3 ⟨rfl, hb3⟩
    have HB3 := Lib.hid (chain HB2.out HB2.out.size hb3)
    have E0 := (hb3.cell (p := ⟨w.heap.size, 0, none⟩) hs2).trans D0
    have E3 := (hb3.cell (p := ⟨w.heap.size, 3, none⟩) hs2).trans D3
    clear hb3 C0 C1 C2 C3 D0 D2 D3
    rcases hz01 with rfl | rfl
    · rw [decide_eq_true rfl, Bool.true_and] at hb
      unfold prioB at hb
      by_cases h5 : (k : Int) ≤ 5
      · rw [if_pos h5] at hb
        by_cases p0 : 0 ≤ prio
        · by_cases p9 : prio ≤ 99
          · obtain rfl : true = b := by rw [← hb, decide_eq_true ⟨p0, p9⟩]
            clear hb
            go_wp2
            go_ret
            exact ⟨rfl, HB3.out⟩
          · obtain rfl : false = b := by rw [← hb, decide_eq_false (fun h => p9 h.2)]
            clear hb
            go_wp2
            go_ret
            exact ⟨ret_bool (decide_eq_false (by omega)), HB3.out⟩
        · obtain rfl : false = b := by rw [← hb, decide_eq_false (fun h => p0 h.1)]
          have u2 : decide (0 ≤ prio) = false := decide_eq_false p0
          clear hb
          go_wp2
          go_ret
          exact ⟨rfl, HB3.out⟩
      · rw [if_neg h5] at hb
        have u5 : decide ((k : Int) ≤ 5) = false := decide_eq_false h5
        go_wp2
        go_ret
        refine ⟨ret_bool ?_, HB3.out⟩
        rw [← hb]
        by_cases p0 : prio = 0
        · rw [p0]; rfl
        · rw [decide_eq_false p0]; exact beq_eq_false_iff_ne.2 p0
    · obtain rfl : false = b := by rw [← hb]; rfl
      clear hb
      go_wp2
      go_ret
      exact ⟨rfl, HB3.out⟩
end Go.Proofs.YtjflefchhbihkaaGreatDoor.Ru
