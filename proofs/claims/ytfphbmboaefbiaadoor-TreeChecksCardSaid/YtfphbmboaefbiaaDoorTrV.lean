/-
  What the landed tree answers (a premise here: Lands), and styluslaw04's kinds, wrong, vast over it.
-/
import Derived.Test.YtfphbmboaefbiaaDoorTrD
import Derived.Test.YtfphbmboaefbiaaDoorVa
namespace Go.Proofs.YtfphbmboaefbiaaDoor.Tr
open Go.RowKit

/-- Nodes that a row of cells can hold. -/
def Fit (t : List Nd) : Prop := ∀ x ∈ t, x.kind < 256 ∧ x.text.size ≤ maxLen ∧ (-9223372036854775808 ≤ x.place ∧ x.place ≤ 9223372036854775807) ∧ (-9223372036854775808 ≤ x.size ∧ x.size ≤ 9223372036854775807)
/-- What the landed package answers. -/
structure Lands : Prop where
  parse : ∀ s : ByteArray, s.size ≤ maxLen → ∀ w : World, Ka.Laid w → Calls Tryd.prog 9 #[.string s] w fun e w' =>
    ∃ v, e = .returned (.tuple #[v, .int .i64 (((parseA s).2.1 : Nat) : Int), .int .i64 (((parseA s).2.2 : Nat) : Int)]) ∧ ReadsN 0 w' w'.heap.size v (parseA s).1 ∧ Below w.heap.size w w'
  check : ∀ (t : List Nd) (off : Nat) (v : Value), t.length ≤ 9000 → Fit t → (∀ x ∈ t, x.text.size ≤ 9000) → ∀ w : World, Ka.Laid w → ReadsN off w w.heap.size v t → Calls Tryd.prog 13 #[v] w fun e w' =>
    e = .returned (.int .i64 ((checkV t : Nat) : Int)) ∧ Below w.heap.size w w'
  same : ∀ (t s : List Nd) (a b : Nat) (u v : Value), t.length ≤ 9000 → s.length ≤ 9000 → Fit t → Fit s → ∀ w : World, ReadsN a w w.heap.size u t → ReadsN b w w.heap.size v s → Calls Tryd.prog 15 #[u, v] w fun e w' =>
    e = .returned (.bool (sameV t s)) ∧ Below w.heap.size w w'
theorem Lands.at (L : Lands) (s : ByteArray) (hs : s.size ≤ maxLen) (t : List Nd) (p q : Int) (ht : (parseA s).1 = t) (hp : (((parseA s).2.1 : Nat) : Int) = p) (hq : (((parseA s).2.2 : Nat) : Int) = q) (w : World) (hL : Ka.Laid w) :
    Calls Tryd.prog 9 #[.string s] w fun e w' => ∃ v, e = .returned (.tuple #[v, .int .i64 p, .int .i64 q]) ∧ ReadsN 0 w' w'.heap.size v t ∧ Below w.heap.size w w' := by
  subst ht; subst hp; subst hq
  exact L.parse s hs w hL

set_option maxHeartbeats 2000000 in
/-- styluslaw04.wrong, of what is wrong -/
theorem wrong_at (L : Lands) (s : ByteArray) (hs : s.size ≤ 9000) (p : Nat) (ht : (parseA s).1 = []) (hp : (parseA s).2.1 = p) (hq : (parseA s).2.2 = 2) (w : World) (hL : Ka.Laid w) :
    Calls Tryd.prog 19 #[.string s, .int .i64 (p : Int)] w fun e w' => e = .returned (.bool true) ∧ Below w.heap.size w w' := by
  have HT := Lib.hid ht; have HP := Lib.hid hp; have HQ := Lib.hid hq
  clear ht hp hq
  go_enter Tryd.func19, Tryd.ntmps19
  go_wp2_with (go_at_call 9; refine (L.at s (Nat.le_trans hs (by decide)) [] (p : Int) 2 HT.out (by rw [HP.out]) (by rw [HQ.out]; rfl) _ hL).mono ?_; rintro e w' ⟨v, rfl, ⟨A, c, rfl, -⟩, hb⟩)
  go_ret
  exact ⟨rfl, hb⟩

set_option maxHeartbeats 4000000 in
/-- styluslaw04.kinds, of what has these kinds and sizes -/
theorem kinds_at (L : Lands) (s want sizes : ByteArray) (hs : s.size ≤ 9000) (t : List Nd) (ht : (parseA s).1 = t) (hp : (parseA s).2.1 = 0) (hq : (parseA s).2.2 = 0) (hw : t.length = want.size) (hz : t.length = sizes.size) (hl : t.length ≤ 9000)
    (hk : ∀ (k : Nat) (x : Nd), t[k]? = some x → x.kind = Lx.bAt want k ∧ 48 ≤ Lx.bAt sizes k ∧ x.size = (Lx.bAt sizes k : Int) - 48) (w : World) (hL : Ka.Laid w) :
    Calls Tryd.prog 18 #[.string s, .string want, .string sizes] w fun e w' => e = .returned (.bool true) ∧ Below w.heap.size w w' := by
  have HT := Lib.hid ht; have HP := Lib.hid hp; have HQ := Lib.hid hq
  have HK := Lib.hid hk
  have HW := Lib.hid hw; have HZ := Lib.hid hz
  clear ht hp hq hk hw hz
  go_enter Tryd.func18, Tryd.ntmps18
  have hw1 : ((t.length : Int) == (want.size : Int)) = true := beq_iff_eq.2 (by rw [HW.out])
  have hw2 : ((t.length : Int) != (want.size : Int)) = false := by rw [bne, hw1]; rfl
  go_wp2_with (go_at_call 9; refine (L.at s (Nat.le_trans hs (by decide)) t 0 0 HT.out (by rw [HP.out]; rfl) (by rw [HQ.out]; rfl) _ hL).mono ?_; rintro e w' ⟨v, rfl, ⟨A, c, rfl, hA⟩, hb⟩)
  have HA := Lib.hid hA
  clear hA
  go_loopw [10] (fun i wr => ∃ (k n : Nat), k ≤ t.length ∧ i = .int .i64 k ∧ wr = w'.drewN n) (fun i _ => t.length - (intOf i).toNat)
  case atStart => exact ⟨0, 0, by omega, rfl, rfl⟩
  case round =>
    obtain ⟨k, n, hk, rfl, rfl⟩ := hrel
    by_cases hlt : k < t.length
    · obtain ⟨g, rfl, -, hg⟩ := HA.out (by omega)
      obtain ⟨⟨xk, xt, xp, xs⟩, hx⟩ : ∃ x, t[k]? = some x := ⟨_, List.getElem?_eq_getElem hlt⟩
      obtain ⟨g1, -, -, g4⟩ := cells_of hg k _ hx
      obtain ⟨k1, k2, k3⟩ := HK.out k _ hx
      have E1 := Lx.bAt_get want k (by have := HW.out; omega)
      have E2 := Lx.bAt_get sizes k (by have := HZ.out; omega)
      have h256 := Lx.bAt_lt sizes k
      have j1 : k < want.size := by have := HW.out; omega
      have j2 : k < sizes.size := by have := HZ.out; omega
      simp only [Nat.zero_add] at g1 g4
      simp only [] at k1 k3
      generalize Lx.bAt sizes k = b at *
      generalize Lx.bAt want k = d at *
      subst k1
      subst k3
      clear hg hx
      go_wp2
      go_big_quiet (fail)
      go_wp2
      go_roundw
      case rel => exact ⟨k + 1, n + nq, by omega, by go_num, rfl⟩
      case measure => simp [intOf]; omega
    · obtain rfl : k = t.length := by omega
      go_wp2
      go_ret
      exact ⟨rfl, Lx.below_drewN hb n⟩

set_option maxHeartbeats 4000000 in
/-- styluslaw04.vast -/
theorem vast_at (v : Value) (off : Nat) (t : List Nd) (_hl : t.length ≤ maxLen) (B : Nat) (w : World) (hv : ReadsN off w B v t) (z : Bool)
    (hz : (decide (150 < t.length) || t.any fun x => decide (100 < x.text.size)) = z) :
    Calls Tryd.prog 12 #[v] w fun e w' => e = .returned (.bool z) ∧ w = w' := by
  have HZ := Lib.hid hz
  obtain ⟨A, c, rfl, hA⟩ := hv
  have HA := Lib.hid hA
  clear hA hz
  go_enter Tryd.func12, Tryd.ntmps12
  by_cases h0 : 150 < t.length
  · have HR := Lib.hid (show (decide (150 < t.length) || t.any fun x => decide (100 < x.text.size)) = true by rw [decide_eq_true h0, Bool.true_or])
    go_wp2
    go_ret
    exact ⟨Ba.ret_bool (HR.out.symm.trans HZ.out), rfl⟩
  · go_wp2
    go_loop [3] (fun i => ∃ k : Nat, k ≤ t.length ∧ i = .int .i64 k ∧ ∀ x ∈ t.take k, ¬ 100 < x.text.size) (fun i => t.length - (intOf i).toNat)
    case atStart => exact ⟨0, by omega, rfl, by simp⟩
    case round =>
      obtain ⟨k, hk, rfl, hj⟩ := hrel
      have HJ := Lib.hid hj
      clear hj
      by_cases hlt : k < t.length
      · obtain ⟨g, rfl, -, hg⟩ := HA.out (by omega)
        obtain ⟨⟨xk, xt, xp, xs⟩, hx⟩ : ∃ x, t[k]? = some x := ⟨_, List.getElem?_eq_getElem hlt⟩
        obtain ⟨-, g2, -, -⟩ := cells_of hg k _ hx
        simp only [] at g2
        have HX := Lib.hid hx
        clear hg hx
        by_cases h1 : 100 < xt.size
        · have HR := Lib.hid (show (decide (150 < t.length) || t.any fun x => decide (100 < x.text.size)) = true by
            rw [Bool.or_eq_true]; exact .inr (List.any_eq_true.2 ⟨_, List.mem_of_getElem? HX.out, decide_eq_true h1⟩))
          go_wp2
          go_ret
          exact ⟨Ba.ret_bool (HR.out.symm.trans HZ.out), rfl⟩
        · have HN := Lib.hid (show ∀ x ∈ t.take (k + 1), ¬ 100 < x.text.size by
            intro x hx
            rw [List.take_add_one, HX.out] at hx
            simp only [Option.toList_some, List.mem_append, List.mem_singleton] at hx
            rcases hx with hx | hx
            · exact HJ.out x hx
            · subst hx; exact h1)
          go_wp2
          go_round
          case rel => exact ⟨k + 1, by omega, by go_num, HN.out⟩
          case measure => simp [intOf]; omega
      · obtain rfl : k = t.length := by omega
        have HR := Lib.hid (show (decide (150 < t.length) || t.any fun x => decide (100 < x.text.size)) = false by
          rw [decide_eq_false h0, Bool.false_or, List.any_eq_false]
          intro x hx
          have := HJ.out x (by rw [List.take_length]; exact hx)
          rw [decide_eq_true_eq]; exact this)
        go_wp2
        go_ret
        exact ⟨Ba.ret_bool (HR.out.symm.trans HZ.out), rfl⟩
end Go.Proofs.YtfphbmboaefbiaaDoor.Tr
