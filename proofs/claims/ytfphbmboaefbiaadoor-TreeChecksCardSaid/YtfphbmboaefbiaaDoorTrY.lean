/-
  TreeParses over the premise on the landed tree and a premise on the document's Parse.
-/
import Derived.Test.YtfphbmboaefbiaaDoorTrW
import Derived.Test.YtfphbmboaefbiaaDoorVc
namespace Go.Proofs.YtfphbmboaefbiaaDoor.Tr
open Go.RowKit

theorem parseA_len (s : ByteArray) : (parseA s).1.length ≤ 2000 := by
  by_cases h : (parseA s).2.2 = 0
  · have hp := parsed_of h
    rw [parseA_ok hp]
    exact (parse_may s hp.1 hp.2.1 (by have := hp.2.2; omega)).2.1
  · unfold parseA at h ⊢
    by_cases h1 : Lx.lexE s ≠ 0
    · rw [if_pos h1]; simp
    · rw [if_neg h1] at h ⊢
      cases he : errFrom ([], [root]) (Lx.lexV s) with
      | some z => simp
      | none =>
        rw [he] at h
        simp only [] at h ⊢
        by_cases h2 : 1 < (readL (Lx.lexV s)).2.length
        · rw [if_pos h2]; simp
        · rw [if_neg h2] at h; exact absurd rfl h
/-- What the document's Parse must be shown to answer. -/
def RefParse : Prop := ∀ s : ByteArray, s.size ≤ 700 ∨ 8192 < s.size → s.size ≤ maxLen → ∀ w : World, Ka.Laid w → Calls Tryd.prog 10 #[.string s] w fun e w' =>
    ∃ v, e = .returned (.tuple #[v, .int .i64 (((parseA s).2.1 : Nat) : Int), .int .i64 (((parseA s).2.2 : Nat) : Int)]) ∧ ReadsN 0 w' w'.heap.size v (parseA s).1 ∧ Below w.heap.size w w'

set_option maxHeartbeats 4000000 in
/-- styluslaw04.TreeParses -/
theorem parses_any (L : Lands) (R : RefParse) (s : ByteArray) (hs : s.size ≤ maxLen) (w : World) (hL : Ka.Laid w) :
    Calls Tryd.prog 3 #[.string s] w fun e w' => e = .returned (.bool true) ∧ Below w.heap.size w w' := by
  go_enter Tryd.func3, Tryd.ntmps3
  by_cases h1 : 700 < s.size ∧ s.size ≤ 8192
  · obtain ⟨h1, h2⟩ := h1
    go_wp2_with fail
    refine (awake_any L _ hL).mono ?_
    rintro e w' ⟨rfl, hb⟩
    go_wp2
    go_ret
    exact ⟨rfl, hb⟩
  · have h3 : s.size ≤ 700 ∨ 8192 < s.size := by omega
    have H3 := Lib.hid h3
    have g1 : (decide (700 < s.size) && decide (s.size ≤ 8192)) = false := by
      rw [Bool.and_eq_false_iff, decide_eq_false_iff_not, decide_eq_false_iff_not]; omega
    obtain ⟨t, ht⟩ : ∃ t, (parseA s).1 = t := ⟨_, rfl⟩
    obtain ⟨p, hp⟩ : ∃ p : Int, (((parseA s).2.1 : Nat) : Int) = p := ⟨_, rfl⟩
    obtain ⟨q, hq⟩ : ∃ q : Int, (((parseA s).2.2 : Nat) : Int) = q := ⟨_, rfl⟩
    have hn : t.length ≤ 70000 := by have := parseA_len s; rw [ht] at this; omega
    have HT := Lib.hid ht; have HP := Lib.hid hp; have HQ := Lib.hid hq
    have RR := Lib.hid (R s h3 hs)
    rw [ht, hp, hq] at RR
    clear ht hp hq h1
    rcases h3 with h3 | h3
    all_goals
      go_wp2_with fail
      refine (L.at s hs t p q HT.out HP.out HQ.out _ hL).mono ?_
      rintro e w1 ⟨v, rfl, hv, hb1⟩
      have L1 := hL.below hb1 hL.1
      have HV := Lib.hid hv
      clear hv
      go_wp2_with fail
      refine (RR.out _ L1).mono ?_
      rintro e w2 ⟨u, rfl, hu, hb2⟩
      have HU := Lib.hid hu
      have HV2 := Lib.hid (HV.out.below hb2)
      have H2 := Ba.chain hb1 hb1.size hb2
      clear hu HV hb1 hb2
      go_wp2_with fail
      refine (rlike_at 0 0 v u t hn _ _ _ HV2.out HU.out).mono ?_
      rintro e w3 ⟨rfl, n, rfl⟩
      have H3 := Lx.below_drewN H2 n
      have L3 := hL.below H3 hL.1
      go_wp2_with fail
      refine (awake_any L _ L3).mono ?_
      rintro e w4 ⟨rfl, hb4⟩
      go_wp2
      go_ret
      exact ⟨rfl, Ba.chain H3 H3.size hb4⟩
end Go.Proofs.YtfphbmboaefbiaaDoor.Tr
