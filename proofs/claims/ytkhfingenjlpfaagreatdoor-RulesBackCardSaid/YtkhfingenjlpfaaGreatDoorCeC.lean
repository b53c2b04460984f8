/-
  cell.Of, and the document's Of.
-/
import Derived.Test.YtkhfingenjlpfaaGreatDoorCeB
import Derived.Lib.OthersKept
import Derived.BigCall
namespace Go.Proofs.YtkhfingenjlpfaaGreatDoor.Ce
open Go.RowKit

theorem or_all : ∀ c : Fin 64, ∀ j : Fin 6, c.val < 2 ^ j.val → bits .or .u8 ((c.val : Nat) : Int) ((2 ^ j.val : Nat) : Int) = ((c.val + 2 ^ j.val : Nat) : Int) := by decide +kernel
theorem or_bit (c d : Nat) (hc : c < 64) (h : c < bitN d) : bits .or .u8 ((c : Nat) : Int) ((bitN d : Nat) : Int) = ((c + bitN d : Nat) : Int) := by
  rcases bitN_cases d with e | ⟨_, e⟩ | ⟨_, e⟩ | ⟨_, e⟩ | ⟨_, e⟩ | ⟨_, e⟩ | ⟨_, e⟩
  · omega
  all_goals rw [e] at h ⊢
  · exact or_all ⟨c, hc⟩ 0 h
  · exact or_all ⟨c, hc⟩ 1 h
  · exact or_all ⟨c, hc⟩ 2 h
  · exact or_all ⟨c, hc⟩ 3 h
  · exact or_all ⟨c, hc⟩ 4 h
  · exact or_all ⟨c, hc⟩ 5 h
theorem ofL_next (s : ByteArray) (k c : Nat) (hk : k < s.size) (h : ofL ((bytesN s).take k) = some c) (hb : c < bitN (bAt s k)) : ofL ((bytesN s).take (k + 1)) = some (c + bitN (bAt s k)) := by
  rw [take_snoc s k hk, ofL_snoc, h]; simp [ofStep, hb]
theorem ofS_fail (s : ByteArray) (k c : Nat) (hk : k < s.size) (h : ofL ((bytesN s).take k) = some c) (hb : ¬ c < bitN (bAt s k)) : ofS s = 0 := by
  have h1 : ofL ((bytesN s).take (k + 1)) = none := by rw [take_snoc s k hk, ofL_snoc, h]; simp [ofStep, hb]
  have h2 := ofL_stop _ ((bytesN s).drop (k + 1)) h1
  rw [List.take_append_drop] at h2
  unfold ofS ofN; rw [h2]; rfl
theorem ofS_end (s : ByteArray) (c : Nat) (h : ofL ((bytesN s).take s.size) = some c) : ofS s = c := by
  unfold ofS ofN
  rw [← bytesN_len, List.take_length] at h
  rw [h]; rfl

set_option maxHeartbeats 4000000 in
set_option maxRecDepth 100000 in
/-- cell.Of -/
theorem of_any (s : ByteArray) (hs : s.size ≤ 70000) (w : World) :
    Calls Tryz.prog 70 #[.string s] w fun e w' => e = .returned (.tuple #[.int .u8 ((ofS s : Nat) : Int), .bool (ofB s)]) ∧ Below w.heap.size w w' := by
  go_enter Tryz.func70, Tryz.ntmps70
  go_wp2
  go_loopw [4] (fun u wr => ∃ k c : Nat, u = .int .u8 c ∧ k ≤ s.size ∧ wr.heap[w.heap.size]? = some (.stringIter s k) ∧ Below w.heap.size w wr ∧ ofL ((bytesN s).take k) = some c) (fun _ wr => s.size - wr.iterPos w.heap.size)
  case atStart =>
    refine ⟨0, 0, rfl, by omega, ?_, (Below.refl _ w).alloc (Nat.le_refl _) _, by simp [ofL]⟩
    have := World.iter_heap w s 0
    simpa using this
  case round =>
    obtain ⟨k, c, rfl, hk, hit, hB, hc⟩ := hrel
    have hsz : w.heap.size < wr.heap.size := (Array.getElem?_eq_some_iff.1 hit).1
    have hc64 := ofL_lt _ c hc
    by_cases hp : k < s.size
    · by_cases ha : (s[k]'hp).toNat < 128
      · have hbl := bAt_lt s k
        have hnx : ∀ ty, (Instr.next (.pointer (some ⟨w.heap.size, 0, none⟩)) true ty).run Tryz.prog wr = .ok (.tuple #[.bool true, .int .i64 k, .int .i32 ((bAt s k : Nat) : Int)]) (wr.iterAt w.heap.size s (k + 1)) := fun ty => by
          rw [Lib.run_next_ascii_at wr w.heap.size s k ty hit hp ha, bAt_get s k hp]
        have hit2 := Lib.iterAt_heap wr w.heap.size s k (k + 1) hit
        have hB2 := Lib.below_iterAt hB (k := w.heap.size) (by omega) s (k + 1)
        have hbl32 := bitN_le (bAt s k)
        by_cases hb : c < bitN (bAt s k)
        · have HN := Lib.hid (ofL_next s k c hp hc hb)
          have HO := Lib.hid (or_bit c (bAt s k) hc64 hb)
          have hlt2 := ofL_lt _ _ HN.out
          have HP := Lib.hid (show s.size - (wr.iterAt w.heap.size s (k + 1)).iterPos w.heap.size < s.size - wr.iterPos w.heap.size by
            simp only [World.iterPos, hit2, hit]; omega)
          obtain ⟨d, hd⟩ : ∃ d, bAt s k = d := ⟨_, rfl⟩
          rw [hd] at hnx hbl hbl32 hb HN HO hlt2
          obtain ⟨q, hq⟩ : ∃ q, bitN d = q := ⟨_, rfl⟩
          rw [hq] at hbl32 hb HN HO hlt2
          have HQ := Lib.hid hq
          clear hc hq ha hd hit
          go_wp2_with (go_at_call 79; refine (bitOf_at (d : Int) q (by omega) (by omega) HQ.out _).mono ?_; rintro e w' ⟨rfl, rfl⟩)
          refine ⟨⟨k + 1, c + q, by rw [HO.out], by omega, hit2, hB2, HN.out⟩, HP.out⟩
        · have HR := Lib.hid (ofS_fail s k c hp hc hb)
          have HR2 := Lib.hid (show false = ofB s by unfold ofB; rw [HR.out]; rfl)
          obtain ⟨d, hd⟩ : ∃ d, bAt s k = d := ⟨_, rfl⟩
          rw [hd] at hnx hbl hbl32 hb
          obtain ⟨q, hq⟩ : ∃ q, bitN d = q := ⟨_, rfl⟩
          rw [hq] at hbl32 hb
          have hqc : q ≤ c := by omega
          have HQ := Lib.hid hq
          clear hc hq ha hb hd
          go_wp2_with (go_at_call 79; refine (bitOf_at (d : Int) q (by omega) (by omega) HQ.out _).mono ?_; rintro e w' ⟨rfl, rfl⟩)
          go_ret2
          exact ⟨ret_ib (by rw [HR.out]; rfl) HR2.out, hB2⟩
      · have hd := decode_high s k hp (by omega)
        have hd2 := decode_le s k
        have hbt : bitN (bAt s k) = 0 := by
          unfold bitN; rw [if_neg]; rw [← bAt_get s k hp]; omega
        have HR := Lib.hid (ofS_fail s k c hp hc (by omega))
        have HR2 := Lib.hid (show false = ofB s by unfold ofB; rw [HR.out]; rfl)
        have hnx : ∀ ty, (Instr.next (.pointer (some ⟨w.heap.size, 0, none⟩)) true ty).run Tryz.prog wr = _ := fun ty => Lib.run_next_any_at wr w.heap.size s k ty hit hp
        obtain ⟨d, hdd⟩ : ∃ d, (Utf8.decode s k).1 = d := ⟨_, rfl⟩
        obtain ⟨v, hv⟩ : ∃ v, (Utf8.decode s k).2 = v := ⟨_, rfl⟩
        rw [hdd, hv] at hd
        rw [hdd] at hd2
        rw [hdd, hv] at hnx
        have hB2 := Lib.below_iterAt hB (k := w.heap.size) (by omega) s (k + v)
        have HQ := Lib.hid (show bitN ((d : Int).toNat) = 0 by unfold bitN; rw [if_neg]; omega)
        clear hc hbt ha hdd hv
        go_wp2_with (go_at_call 79; refine (bitOf_at (d : Int) 0 (by omega) (by omega) HQ.out _).mono ?_; rintro e w' ⟨rfl, rfl⟩)
        go_ret2
        exact ⟨ret_ib (by rw [HR.out]; rfl) HR2.out, hB2⟩
    · have hnx : ∀ ty, (Instr.next (.pointer (some ⟨w.heap.size, 0, none⟩)) true ty).run Tryz.prog wr = _ := fun ty => Lib.run_next_end_at wr w.heap.size s k ty hit hp
      obtain rfl : k = s.size := by omega
      have HR := Lib.hid (ofS_end s c hc)
      clear hc
      by_cases h0 : c = 0
      · subst h0
        have HR2 := Lib.hid (show false = ofB s by unfold ofB; rw [HR.out]; rfl)
        go_wp2
        go_ret2
        exact ⟨ret_ib (by rw [HR.out]) HR2.out, hB⟩
      · have HR2 := Lib.hid (show true = ofB s by unfold ofB; rw [HR.out]; simp [h0])
        have hb0 : ((c : Int) == 0) = false := by simp; omega
        go_wp2
        go_ret2
        exact ⟨ret_ib (by rw [HR.out]) (by rw [← HR2.out, bne, hb0]; rfl), hB⟩
end Go.Proofs.YtkhfingenjlpfaaGreatDoor.Ce
