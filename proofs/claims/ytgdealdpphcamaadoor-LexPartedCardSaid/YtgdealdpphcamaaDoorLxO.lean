/-
  Which name stands at a place; the document's opens.
-/
import Derived.Test.YtgdealdpphcamaaDoorLxM
namespace Go.Proofs.YtgdealdpphcamaaDoor.Lx
open Go.RowKit

/-- The name with letter c stands at p. -/
def fits (s : ByteArray) (p c : Nat) : Prop := p + (nameS c).size ≤ s.size ∧ s.extract p (p + (nameS c).size) = nameS c
instance (s : ByteArray) (p c : Nat) : Decidable (fits s p c) := by unfold fits; infer_instance
/-- The letter of the name that stands at p; 0: none does. -/
def openC (s : ByteArray) (p : Nat) : Nat := match (List.range 13).find? (fun k => decide (fits s p (letterN k))) with | some k => letterN k | none => 0
def NoFit (s : ByteArray) (p k : Nat) : Prop := ∀ j, j < k → ¬ fits s p (letterN j)
theorem NoFit.zero (s : ByteArray) (p : Nat) : NoFit s p 0 := fun _ h => absurd h (by omega)
theorem NoFit.succ {s : ByteArray} {p k : Nat} (h : NoFit s p k) (hk : ¬ fits s p (letterN k)) : NoFit s p (k + 1) := fun j hj => by
  rcases Nat.lt_or_ge j k with h1 | h1
  · exact h j h1
  · obtain rfl : j = k := by omega
    exact hk
theorem openC_at {s : ByteArray} {p k : Nat} (h : NoFit s p k) (hk : k < 13) (hf : fits s p (letterN k)) : openC s p = letterN k := by
  unfold openC
  have : (List.range 13).find? (fun k => decide (fits s p (letterN k))) = some k := by
    rw [List.find?_range_eq_some]
    exact ⟨by simpa using hf, by simpa using hk, fun j hj => by simpa using h j hj⟩
  rw [this]
theorem openC_none {s : ByteArray} {p : Nat} (h : NoFit s p 13) : openC s p = 0 := by
  unfold openC
  have : (List.range 13).find? (fun k => decide (fits s p (letterN k))) = none := by
    rw [List.find?_eq_none]
    intro j hj
    have := h j (List.mem_range.1 hj)
    simpa using this
  rw [this]
theorem ret_is {k : IntKind} {a b : Int} {x y : ByteArray} (h : a = b) (h' : x = y) : Ending.returned (.tuple #[.int k a, .string x]) = .returned (.tuple #[.int k b, .string y]) := by rw [h, h']
theorem rname_at (c : Nat) (hc : c < 256) (v : ByteArray) (hv : nameS c = v) (z : Int) (hz : z = (c : Int)) (w : World) :
    Calls Tryd.prog 12 #[.int .u8 z] w fun e w' => e = .returned (.string v) ∧ Below w.heap.size w w' := by
  subst hz; subst hv; exact rname_any c hc w

set_option maxHeartbeats 2000000 in
/-- stylusref03.opens -/
theorem ropens_any (s : ByteArray) (hs : s.size ≤ 70000) (p : Nat) (hp : p ≤ s.size) (w : World) :
    Calls Tryd.prog 18 #[.string s, .int .i64 (p : Int)] w fun e w' => e = .returned (.tuple #[.int .u8 ((openC s (p + 1) : Nat) : Int), .string (nameS (openC s (p + 1)))]) ∧ Below w.heap.size w w' := by
  go_enter Tryd.func18, Tryd.ntmps18
  go_wp2
  go_loopw [6] (fun i wr => ∃ k : Nat, k ≤ 13 ∧ i = .int .i64 k ∧ NoFit s (p + 1) k ∧ Below w.heap.size w wr) (fun i _ => 13 - (intOf i).toNat)
  case atStart => exact ⟨0, by omega, rfl, NoFit.zero s _, Below.refl _ _⟩
  case round =>
    obtain ⟨k, hk, rfl, hn, hB⟩ := hrel
    by_cases hlt : k < 13
    · have hs' : k < lettersS.size := hlt
      have hm : (((lettersS[k]'hs').toNat : Nat) : Int) = ((letterN k : Nat) : Int) := letters_at ⟨k, hlt⟩
      have hc := (letterN_lt ⟨k, hlt⟩).1
      simp only [] at hc
      have HM := Lib.hid hm; clear hm
      obtain ⟨n, hnm⟩ : ∃ n, nameS (letterN k) = n := ⟨_, rfl⟩
      have HN := Lib.hid hnm
      have hn2 : n.size ≤ 2 := by rw [← hnm, nameS_size]; exact nameL_len _
      by_cases hf : fits s (p + 1) (letterN k)
      · have HO := Lib.hid (openC_at hn hlt hf)
        obtain ⟨hf1, hf2⟩ := hf
        rw [hnm] at hf1 hf2
        have HF := Lib.hid hf2
        have hb : ((s.extract (p + 1) (p + 1 + n.size)).toList == n.toList) = true := by rw [hf2]; simp
        clear hf2 hnm
        go_wp2_with (first
          | (go_at_call 14; refine (rletters_any _).mono ?_; rintro e w' ⟨rfl, rfl⟩)
          | (go_at_call 12; refine (rname_at (letterN k) hc n HN.out _ HM.out _).mono ?_; rintro e w2 ⟨rfl, hb2⟩))
        go_ret2
        exact ⟨ret_is (by rw [HM.out, HO.out]) (by rw [HO.out, HN.out]), chain hB hB.size hb2⟩
      · have HP := Lib.hid (hn.succ hf)
        by_cases hlen : p + 1 + n.size ≤ s.size
        · have hne : s.extract (p + 1) (p + 1 + n.size) ≠ n := fun e => hf ⟨by rw [hnm]; exact hlen, by rw [hnm]; exact e⟩
          have hb := toList_ne hne
          clear hf hne hnm
          go_wp2_with (first
            | (go_at_call 14; refine (rletters_any _).mono ?_; rintro e w' ⟨rfl, rfl⟩)
            | (go_at_call 12; refine (rname_at (letterN k) hc n HN.out _ HM.out _).mono ?_; rintro e w2 ⟨rfl, hb2⟩))
          exact ⟨⟨k + 1, by omega, by go_num, HP.out, chain hB hB.size hb2⟩, by simp [intOf]; omega⟩
        · have hd : decide ((p : Int) + 1 + (n.size : Int) ≤ (s.size : Int)) = false := decide_eq_false (by omega)
          clear hf hnm
          go_wp2_with (first
            | (go_at_call 14; refine (rletters_any _).mono ?_; rintro e w' ⟨rfl, rfl⟩)
            | (go_at_call 12; refine (rname_at (letterN k) hc n HN.out _ HM.out _).mono ?_; rintro e w2 ⟨rfl, hb2⟩))
          exact ⟨⟨k + 1, by omega, by go_num, HP.out, chain hB hB.size hb2⟩, by simp [intOf]; omega⟩
    · obtain rfl : k = 13 := by omega
      have HO := Lib.hid (openC_none hn)
      have HE := Lib.hid (show emptyS = nameS 0 by decide +kernel)
      clear hn
      go_wp2_with (go_at_call 14; refine (rletters_any _).mono ?_; rintro e w' ⟨rfl, rfl⟩)
      go_ret2
      exact ⟨ret_is (by rw [HO.out]; rfl) (by rw [HO.out]; exact HE.out), hB⟩
end Go.Proofs.YtgdealdpphcamaaDoor.Lx
