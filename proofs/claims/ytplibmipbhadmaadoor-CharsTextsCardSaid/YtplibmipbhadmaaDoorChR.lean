/-
  The document's answers of layer 1 on texts (Low, Case, Runs): the text with small letters, how it is cased, its runs.
-/
import Derived.Test.YtplibmipbhadmaaDoorChE
import Derived.Test.YtplibmipbhadmaaDoorChF
import Derived.Test.YtplibmipbhadmaaDoorChL
import Derived.Maps.AppendAt
import Derived.OwnWalk
namespace Go.Proofs.YtplibmipbhadmaaDoor
open Go.RowKit

theorem infoByte : (Tryd.prog.info? 5).map (fun i => (i.zero, i.size, i.bytes)) = some (some (.int .u8 0), 1, 1) := by kernel_rfl
/-- The first k bytes, lowered, as cells. -/
def lowCells (s : ByteArray) (k : Nat) : List Value := (List.range k).map fun j => .int .u8 (lowerI (bAt s j))
theorem lowCells_succ (s : ByteArray) (k : Nat) : lowCells s (k + 1) = lowCells s k ++ [.int .u8 (lowerI (bAt s k))] := by simp [lowCells, List.range_succ]
theorem lowCells_at (s : ByteArray) (k j : Nat) (hj : j < k) : (lowCells s k)[j]? = some (.int .u8 (lowerI (bAt s j))) := by simp [lowCells, hj]

set_option maxHeartbeats 1000000 in
/-- stylusref01.Low -/
theorem rlow_any (s : ByteArray) (hs : s.size ≤ 2000) (w : World) :
    Calls Tryd.prog 23 #[.string s] w fun e w' => e = .returned (.string (lowS s)) ∧ Below w.heap.size w w' := by
  obtain ⟨i0, hi, hz0, hz1, hz2⟩ := info_parts infoByte
  go_enter Tryd.func23, Tryd.ntmps23
  go_wp2
  go_loopw [3, 4] (fun v i wr => ∃ k : Nat, k ≤ s.size ∧ i = .int .i64 k ∧ wr.ownsRow w.heap.size 5 1 v k (lowCells s k) ∧ Below w.heap.size w wr) (fun _ i _ => s.size - (intOf i).toNat)
  case atStart => exact ⟨0, by omega, rfl, World.ownsRow_nil _ _ _ _, Below.refl _ _⟩
  case round =>
    obtain ⟨k, hk, rfl, hown, hB⟩ := hrel
    have hsz := hB.size
    by_cases hlt : k < s.size
    · have E1 := bAt_get s k hlt
      obtain ⟨b0, b1⟩ := bAt_lt s k
      go_wp2_with (first
        | (go_at_call 15; refine (rlower_any (bAt s k) b0 b1 _).mono ?_; rintro e w' ⟨rfl, rfl⟩)
        | (at_builtin; refine wpList_append_own _ rfl _ _ 44 rfl w.heap.size 5 i0 (.int .u8 0) 1 1 Tryd.underlying44 hi hz0 hz1 hz2 rfl (by decide) _ _ _ rfl (hown.alloc _) ⟨wr.heap.size, 0, none⟩ 1 1 [.int .u8 (lowerI (bAt s k))] rfl rfl (cell_one_new _ _ _) (by simp [Value.oneCell']) (by unfold maxLen; omega) (by omega) (by simp; omega) ?_; intro v' w1 hown' hgrow _))
      have hB2 : Below w.heap.size w w1 := (hB.alloc (by omega) _).grown hgrow (by simp; omega) (fun j ej => ((hown.lt) j ej).1)
      exact ⟨⟨k + 1, by omega, by go_num, by rw [lowCells_succ]; exact hown', hB2⟩, by simp [intOf]; omega⟩
    · obtain rfl : k = s.size := by omega
      rcases hown.2 with ⟨rfl, h0⟩ | ⟨g, cap, cur, rfl, _⟩
      · have hl : lowS s = ByteArray.empty := ByteArray.size_eq_zero_iff.1 (by rw [lowS_size]; exact h0)
        have HL := Lib.hid hl; clear hl
        have hback := run_convert_bytes_nil (P := Tryd.prog) wr 44 5 Tryd.underlying44 Tryd.underlying5 0 0 9 Tryd.underlying9
        clear h0
        go_wp2
        go_ret
        exact ⟨congrArg (fun z => Ending.returned (.string z)) HL.out.symm, hB⟩
      · have hback := run_convert_bytes_back (P := Tryd.prog) wr 44 9 5 ⟨g, 0, none⟩ cap (lowL s) Tryd.underlying44 Tryd.underlying5 Tryd.underlying9 (fun j hj => by
          have hj' : j < s.size := by rw [← lowL_length]; exact hj
          rw [lowL_get s j hj]
          have e : (⟨g, 0, none⟩ : Addr).add j = ⟨g, j, none⟩ := by unfold Addr.add; split <;> simp_all
          rw [e, hown.cellAt j (by omega)]
          exact lowCells_at s s.size j hj')
        rw [lowL_length] at hback
        go_wp2
        go_ret
        exact ⟨rfl, hB⟩

theorem rclass_byte (s : ByteArray) (k : Nat) (h : k < s.size) (v : Int) (hv : kc s k = v) (w : World) :
    Calls Tryd.prog 8 #[.int .u8 ((s[k].toNat : Nat) : Int)] w fun e w' => e = .returned (.int .i64 v) ∧ w = w' := by
  have hb := bAt_lt s k
  rw [bAt_get s k h]
  exact rclass_at _ v hb.1 hb.2 hv w
theorem rletter_byte (s : ByteArray) (k : Nat) (h : k < s.size) (v : Bool) (hv : letterB (bAt s k) = v) (w : World) :
    Calls Tryd.prog 13 #[.int .u8 ((s[k].toNat : Nat) : Int)] w fun e w' => e = .returned (.bool v) ∧ w = w' := by
  have hb := bAt_lt s k
  rw [bAt_get s k h, ← hv]
  exact rletter_any _ hb.1 hb.2 w

set_option maxHeartbeats 2000000 in
/-- stylusref01.Case -/
theorem rcase_any (s : ByteArray) (hs : s.size ≤ 2000) (w : World) :
    Calls Tryd.prog 25 #[.string s] w fun e w' => e = .returned (.int .i64 (caseI s)) ∧ w = w' := by
  go_enter Tryd.func25, Tryd.ntmps25
  go_wp2
  go_loop [3, 4] (fun u i => ∃ k : Nat, k ≤ s.size ∧ i = .int .i64 k ∧ u = .int .i64 ((up s k : Nat) : Int) ∧ allL s k) (fun _ i => s.size - (intOf i).toNat)
  case atStart => exact ⟨0, by omega, rfl, rfl, fun j hj => absurd hj (by omega)⟩
  case round =>
    obtain ⟨k, hk, rfl, rfl, hal⟩ := hrel
    have hul := up_le s k
    by_cases hlt : k < s.size
    · by_cases h2 : kc s k = 2
      · have L4 := Lib.hid (show letterB (bAt s k) = true by unfold letterB; unfold kc at h2; simp [h2])
        have hal' : allL s (k + 1) := fun j hj => by
          rcases Nat.lt_or_ge j k with h3 | h3
          · exact hal j h3
          · have e : j = k := by omega
            rw [e]; exact .inr h2
        have HU := Lib.hid (show up s (k + 1) = up s k + 1 by rw [up, if_pos h2])
        have HK := Lib.hid h2; clear h2
        go_wp2_with (first
          | (go_at_call 13; refine (rletter_byte s k hlt true L4.out _).mono ?_; rintro e w' ⟨rfl, rfl⟩)
          | (go_at_call 8; refine (rclass_byte s k hlt 2 HK.out _).mono ?_; rintro e w' ⟨rfl, rfl⟩))
        exact ⟨⟨k + 1, by omega, by go_num, by rw [HU.out]; go_num, hal'⟩, by simp [intOf]; omega⟩
      · by_cases h1 : kc s k = 1
        · have L4 := Lib.hid (show letterB (bAt s k) = true by unfold letterB; unfold kc at h1; simp [h1])
          have hal' : allL s (k + 1) := fun j hj => by
            rcases Nat.lt_or_ge j k with h3 | h3
            · exact hal j h3
            · have e : j = k := by omega
              rw [e]; exact .inl h1
          have HU := Lib.hid (show up s (k + 1) = up s k by rw [up, if_neg h2]; omega)
          have HK := Lib.hid h1; clear h2 h1
          go_wp2_with (first
            | (go_at_call 13; refine (rletter_byte s k hlt true L4.out _).mono ?_; rintro e w' ⟨rfl, rfl⟩)
            | (go_at_call 8; refine (rclass_byte s k hlt 1 HK.out _).mono ?_; rintro e w' ⟨rfl, rfl⟩))
          exact ⟨⟨k + 1, by omega, by go_num, by rw [HU.out], hal'⟩, by simp [intOf]; omega⟩
        · have L4 := Lib.hid (show letterB (bAt s k) = false by unfold letterB; unfold kc at h1 h2; simp [h1, h2])
          have HV := Lib.hid (caseI_no s (fun h => (h k hlt).elim h1 h2))
          clear h1 h2
          go_wp2_with (go_at_call 13; refine (rletter_byte s k hlt false L4.out _).mono ?_; rintro e w' ⟨rfl, rfl⟩)
          go_ret
          exact ⟨ret_int HV.out.symm, rfl⟩
    · obtain rfl : k = s.size := by omega
      have HV := Lib.hid (caseI_yes s hal)
      by_cases h0 : s.size = 0
      · have HX := Lib.hid (show (0 : Int) = caseI s by unfold caseI; rw [if_pos h0])
        have b0 : (((s.size : Nat) : Int) == 0) = true := by rw [h0]; rfl
        clear h0
        go_wp2
        go_ret
        exact ⟨ret_int HX.out, rfl⟩
      have b0 : (((s.size : Nat) : Int) == 0) = false := by simp; exact fun e => h0 (by rw [e]; rfl)
      have hpos : 0 < s.size := by omega
      obtain ⟨u, hu⟩ : ∃ u, up s s.size = u := ⟨_, rfl⟩
      rw [hu] at HV hul ⊢
      clear hu
      by_cases u0 : u = 0
      · have HX := Lib.hid (show (1 : Int) = caseI s by rw [HV.out]; unfold caseV; rw [if_neg h0, if_pos u0])
        have b1 : (((u : Nat) : Int) == 0) = true := by rw [u0]; rfl
        clear u0 h0
        go_wp2
        go_ret
        exact ⟨ret_int HX.out, rfl⟩
      have b1 : (((u : Nat) : Int) == 0) = false := by simp; omega
      by_cases u1 : u = 1
      · have b2 : (((u : Nat) : Int) == 1) = true := by rw [u1]; rfl
        by_cases hc : kc s 0 = 2
        · have HX := Lib.hid (show (2 : Int) = caseI s by rw [HV.out]; unfold caseV; rw [if_neg h0, if_neg u0, if_pos ⟨u1, hc⟩])
          have HC := Lib.hid hc
          clear hc u1 u0 h0
          go_wp2_with (go_at_call 8; refine (rclass_byte s 0 hpos _ HC.out _).mono ?_; rintro e w' ⟨rfl, rfl⟩)
          go_ret
          exact ⟨ret_int HX.out, rfl⟩
        · have hb : (kc s 0 == 2) = false := by simpa using hc
          by_cases h1 : u = s.size
          · have HX := Lib.hid (show (3 : Int) = caseI s by rw [HV.out]; unfold caseV; rw [if_neg h0, if_neg u0, if_neg (fun h => hc h.2), if_pos h1])
            have b3 : (((u : Nat) : Int) == ((s.size : Nat) : Int)) = true := by rw [h1]; simp
            clear hc u1 u0 h0 h1
            go_wp2_with (go_at_call 8; refine (rclass_byte s 0 hpos _ rfl _).mono ?_; rintro e w' ⟨rfl, rfl⟩)
            go_ret
            exact ⟨ret_int HX.out, rfl⟩
          · have HX := Lib.hid (show (4 : Int) = caseI s by rw [HV.out]; unfold caseV; rw [if_neg h0, if_neg u0, if_neg (fun h => hc h.2), if_neg h1])
            have b3 : (((u : Nat) : Int) == ((s.size : Nat) : Int)) = false := by simp; omega
            clear hc u1 u0 h0 h1
            go_wp2_with (go_at_call 8; refine (rclass_byte s 0 hpos _ rfl _).mono ?_; rintro e w' ⟨rfl, rfl⟩)
            go_ret
            exact ⟨ret_int HX.out, rfl⟩
      · have b2 : (((u : Nat) : Int) == 1) = false := by simp; omega
        by_cases h1 : u = s.size
        · have HX := Lib.hid (show (3 : Int) = caseI s by rw [HV.out]; unfold caseV; rw [if_neg h0, if_neg u0, if_neg (fun h => u1 h.1), if_pos h1])
          have b3 : (((u : Nat) : Int) == ((s.size : Nat) : Int)) = true := by rw [h1]; simp
          clear u1 u0 h0 h1
          go_wp2
          go_ret
          exact ⟨ret_int HX.out, rfl⟩
        · have HX := Lib.hid (show (4 : Int) = caseI s by rw [HV.out]; unfold caseV; rw [if_neg h0, if_neg u0, if_neg (fun h => u1 h.1), if_neg h1])
          have b3 : (((u : Nat) : Int) == ((s.size : Nat) : Int)) = false := by simp; omega
          clear u1 u0 h0 h1
          go_wp2
          go_ret
          exact ⟨ret_int HX.out, rfl⟩
end Go.Proofs.YtplibmipbhadmaaDoor
