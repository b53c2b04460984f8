/-
  The document's Signs, Cells, Of, Dots and Count of layer 2.
-/
import Derived.Test.YtlibmfflgpkjmaaGreatDoorCeF
namespace Go.Proofs.YtlibmfflgpkjmaaGreatDoor.Ce
open Go.RowKit
theorem bAt_idx (s : ByteArray) (k : Nat) (h : k < s.size) : ((s[k].toNat : Nat) : Int) = ((bAt s k : Nat) : Int) := by rw [bAt_get s k h]
theorem mapK_lt2 {g : Nat → Nat} (hg : ∀ b, g b < 256) (s : ByteArray) (k : Nat) : ∀ x ∈ mapK g s k, x < 256 := mapK_lt g hg s k



/-- Where the document's Of stands: the cell so far, and the last dot. -/
def LastD (c l : Nat) : Prop := l ≤ 6 ∧ c < 2 ^ l ∧ (l = 0 ∨ 2 ^ (l - 1) ≤ c)
theorem last_all : ∀ l : Fin 7, ∀ d : Fin 7, ∀ c : Fin 64, 1 ≤ d.val → LastD c.val l.val → (c.val < 2 ^ (d.val - 1) ↔ l.val < d.val) ∧ (l.val < d.val → LastD (c.val + 2 ^ (d.val - 1)) d.val) := by
  unfold LastD; decide +kernel
theorem bit_dig (b : Nat) (h1 : 49 ≤ b) (h2 : b ≤ 54) : bitN b = powN (b - 48) := by
  unfold bitN powN; rw [if_pos ⟨h1, h2⟩, show b - 48 - 1 = b - 49 from by omega]

set_option maxHeartbeats 4000000 in
/-- stylusref02.Of -/
theorem rof_any (s : ByteArray) (hs : s.size ≤ 70000) (w : World) :
    Calls Tryz.prog 90 #[.string s] w fun e w' => e = .returned (.tuple #[.int .u8 ((ofS s : Nat) : Int), .bool (ofB s)]) ∧ w = w' := by
  go_enter Tryz.func90, Tryz.ntmps90
  go_wp2
  go_loop [4, 5, 6] (fun u v i => ∃ k c l : Nat, k ≤ s.size ∧ i = .int .i64 k ∧ u = .int .i64 c ∧ v = .int .i64 l ∧ ofL ((bytesN s).take k) = some c ∧ LastD c l ∧ (k = 0 ∨ 1 ≤ l)) (fun _ _ i => s.size - (intOf i).toNat)
  case atStart => exact ⟨0, 0, 0, by omega, rfl, rfl, rfl, by simp [ofL], ⟨by omega, by decide, .inl rfl⟩, .inl rfl⟩
  case round =>
    obtain ⟨k, c, l, hk, rfl, rfl, rfl, hc, hL, hkl⟩ := hrel
    have hc64 := ofL_lt _ c hc
    have hl6 := hL.1
    by_cases hlt : k < s.size
    · have E1 := Lib.hid (bAt_idx s k hlt)
      have h256 := bAt_lt s k
      have hbb : c < bitN (bAt s k) → ofL ((bytesN s).take (k + 1)) = some (c + bitN (bAt s k)) := ofL_next s k c hlt hc
      have hno : ¬ c < bitN (bAt s k) → ofS s = 0 := fun h => ofS_fail s k c hlt hc h
      obtain ⟨b, hb⟩ : ∃ b, bAt s k = b := ⟨_, rfl⟩
      rw [hb] at h256 hbb hno E1
      clear hb hc
      have E2 := E1.out
      by_cases d1 : b < 49
      · have h0 := hno (by unfold bitN; rw [if_neg (by omega)]; omega)
        have HR := Lib.hid h0
        have HR2 := Lib.hid (show false = ofB s by unfold ofB; rw [HR.out]; rfl)
        have t1 : decide ((b : Int) - 48 < 1) = true := by simp; omega
        clear hno hbb h0
        go_wp2
        go_ret2
        exact ⟨ret_ib (by rw [HR.out]; rfl) HR2.out, rfl⟩
      · by_cases d2 : 54 < b
        · have h0 := hno (by unfold bitN; rw [if_neg (by omega)]; omega)
          have HR := Lib.hid h0
          have HR2 := Lib.hid (show false = ofB s by unfold ofB; rw [HR.out]; rfl)
          have t1 : decide ((b : Int) - 48 < 1) = false := by simp; omega
          have t2 : decide (6 < (b : Int) - 48) = true := by simp; omega
          clear hno hbb h0
          go_wp2
          go_ret2
          exact ⟨ret_ib (by rw [HR.out]; rfl) HR2.out, rfl⟩
        · obtain ⟨d, rfl⟩ : ∃ d, b = d + 48 := ⟨b - 48, by omega⟩
          have hbit := bit_dig (d + 48) (by omega) (by omega)
          rw [Nat.add_sub_cancel] at hbit
          have hla := last_all ⟨l, by omega⟩ ⟨d, by omega⟩ ⟨c, hc64⟩ (show 1 ≤ d by omega) hL
          simp only [] at hla
          have hpw : 2 ^ (d - 1) = bitN (d + 48) := by rw [hbit]; rfl
          rw [hpw] at hla
          obtain ⟨q, hq⟩ : ∃ q, bitN (d + 48) = q := ⟨_, rfl⟩
          have hq32 := bitN_le (d + 48)
          rw [hq] at hla hbb hno hbit hq32
          have HW := Lib.hid hbit
          have e2 : (((s[k]'hlt).toNat : Nat) : Int) = (d : Int) + 48 := by rw [E1.out]; omega
          have g1 : 1 ≤ d := by omega
          have g6 : d ≤ 6 := by omega
          clear E2 hbit hpw hq d1 d2 h256
          by_cases hlt2 : l < d
          · have HN := Lib.hid (hbb (hla.1.2 hlt2))
            have HL2 := hla.2 hlt2
            have hc2 := ofL_lt _ _ HN.out
            clear hbb hno hla
            go_wp2_with (go_at_call 85; refine ((weight_any d g1 g6 _).mono (fun _ _ h => (HW.out ▸ h))).mono ?_; rintro e w' ⟨rfl, rfl⟩)
            exact ⟨⟨k + 1, c + q, d, by omega, by go_num, by go_num, rfl, HN.out, HL2, .inr g1⟩, by simp [intOf]; omega⟩
          · have HR := Lib.hid (hno (fun h => hlt2 (hla.1.1 h)))
            have HR2 := Lib.hid (show false = ofB s by unfold ofB; rw [HR.out]; rfl)
            have hdl : d ≤ l := by omega
            clear hbb hno hla hlt2
            go_wp2
            go_ret2
            exact ⟨ret_ib (by rw [HR.out]; rfl) HR2.out, rfl⟩
    · obtain rfl : k = s.size := by omega
      have HR := Lib.hid (ofS_end s c hc)
      clear hc
      by_cases hz : s.size = 0
      · have hc0 : c = 0 := by
          have := HR.out
          unfold ofS ofN ofL at this
          rw [List.eq_nil_of_length_eq_zero (show (bytesN s).length = 0 by rw [bytesN_len]; exact hz)] at this
          simpa using this.symm
        have HR2 := Lib.hid (show false = ofB s by unfold ofB; rw [HR.out, hc0]; rfl)
        have hz2 : decide (0 < s.size) = false := decide_eq_false (by omega)
        have hZ := Lib.hid hz
        clear hz hc0
        go_wp2
        go_ret2
        exact ⟨ret_ib (by rw [HR.out]) (by rw [← HR2.out]), rfl⟩
      · have hl1 : 1 ≤ l := by omega
        have hc1 : c ≠ 0 := by
          have h3 := hL.2.2
          have := Nat.one_le_two_pow (n := l - 1)
          omega
        have HR2 := Lib.hid (show true = ofB s by unfold ofB; rw [HR.out]; simp [hc1])
        have hz2 : decide (0 < s.size) = true := decide_eq_true (by omega)
        clear hz hc1
        go_wp2
        go_ret2
        exact ⟨ret_ib (by rw [HR.out]) (by rw [← HR2.out]), rfl⟩
end Go.Proofs.YtlibmfflgpkjmaaGreatDoor.Ce
