/-
  The document's Parse of layer 2.
-/
import Derived.Test.YtalehelgemmmeaaGreatDoorCeO
import Derived.Test.YtalehelgemmmeaaGreatDoorCeJ
namespace Go.Proofs.YtalehelgemmmeaaGreatDoor.Ce
open Go.RowKit

/-- The place that the document's Parse tells. -/
def placeI (s : ByteArray) : Int := match parseL s with | some _ => -1 | none => ((parseAt s : Nat) : Int)
theorem ComeP.pre {s : ByteArray} {pre : List (Pt s)} {f : Nat} (h : ComeP s pre f) (hf : f ≤ s.size) (x : Pt s) (hx : x.1 = (f, dash s f)) : pre ++ [x] <+: partsA s 0 := by
  have e : x = ⟨(f, dash s f), (dash_is s f hf).1, (dash_is s f hf).2.1⟩ := Subtype.ext hx
  unfold ComeP at h
  rw [h, partsA_step s f hf, ← e]
  exact ⟨if dash s f < s.size then partsA s (dash s f + 1) else [], by simp⟩
/-- Where the document's Parse stands. -/
def StandsP (s : ByteArray) (pre : List (Pt s)) (f k : Nat) : Prop :=
  (f ≤ k ∧ k ≤ s.size ∧ ComeP s pre f ∧ ∀ j, f ≤ j → j < k → bAt s j ≠ 45) ∨ (k = s.size + 1 ∧ pre = partsA s 0)
theorem ret_si {x y : ByteArray} {a b : Int} (h : x = y) (h' : a = b) : Ending.returned (.tuple #[.string x, .int .i64 a]) = .returned (.tuple #[.string y, .int .i64 b]) := by rw [h, h']
theorem rof_at (t : ByteArray) (ht : t.size ≤ 70000) (c : Nat) (b : Bool) (hc : ofS t = c) (hb : ofB t = b) (w : World) :
    Calls Tryz.prog 72 #[.string t] w fun e w' => e = .returned (.tuple #[.int .u8 ((c : Nat) : Int), .bool b]) ∧ w = w' := hc ▸ hb ▸ rof_any t ht w

set_option maxRecDepth 100000 in
set_option maxHeartbeats 4000000 in
/-- stylusref02.Parse -/
theorem rparse_any (s : ByteArray) (hs : s.size ≤ 70000) (w : World) :
    Calls Tryz.prog 54 #[.string s] w fun e w' => e = .returned (.tuple #[.string (parseV s), .int .i64 (placeI s)]) ∧ Below w.heap.size w w' := by
  obtain ⟨i0, hi, hz0, hz1, hz2⟩ := info_parts infoByte
  go_enter Tryz.func54, Tryz.ntmps54
  go_wp2
  go_loopw [4, 5, 6] (fun v u i wr => ∃ (k f m : Nat) (acc : List Nat) (pre : List (Pt s)), i = .int .i64 k ∧ u = .int .i64 f ∧ k ≤ s.size + 1 ∧ StandsP s pre f k ∧ pSt s pre = some acc ∧ acc.length = m ∧ wr.ownsRow w.heap.size 5 1 v m (cellsL acc) ∧ Below w.heap.size w wr) (fun _ _ i _ => s.size + 1 - (intOf i).toNat)
  case atStart => exact ⟨0, 0, 0, [], [], rfl, rfl, by omega, .inl ⟨by omega, by omega, ComeP.zero s, fun j h1 h2 => by omega⟩, rfl, rfl, World.ownsRow_nil _ _ _ _, Below.refl _ _⟩
  case round =>
    obtain ⟨k, f, m, acc, pre, rfl, rfl, hk, hS, hacc, hm, hown, hB⟩ := hrel
    have hsz := hB.size
    have hlen := pSt_le hacc
    have hm4 : m ≤ 4 := by omega
    by_cases hk2 : k ≤ s.size
    · obtain ⟨hfk, hks, hcm, hnd⟩ : f ≤ k ∧ k ≤ s.size ∧ ComeP s pre f ∧ ∀ j, f ≤ j → j < k → bAt s j ≠ 45 := by
        rcases hS with h | ⟨h, _⟩
        · exact h
        · omega
      clear hS
      by_cases hgo : k < s.size ∧ bAt s k ≠ 45
      · -- no dash here
        obtain ⟨hlt, hne⟩ := hgo
        have E1 := bAt_get s k hlt
        have hS2 : StandsP s pre f (k + 1) := .inl ⟨by omega, by omega, hcm, fun j h1 h2 => by
          rcases Nat.lt_or_ge j k with h3 | h3
          · exact hnd j h1 h3
          · obtain rfl : j = k := by omega
            exact hne⟩
        have HA := Lib.hid hacc
        have HM := Lib.hid hm
        obtain ⟨b, hb⟩ : ∃ b, bAt s k = b := ⟨_, rfl⟩
        rw [hb] at E1 hne
        have t1 : ((b : Int) != 45) = true := by rw [bne, beq_eq_false_iff_ne.2 (by omega)]; rfl
        clear hacc hm hnd hcm hb hne hlen
        go_wp2
        exact ⟨⟨k + 1, f, m, acc, pre, by go_num, rfl, by omega, hS2, HA.out, HM.out, hown, hB⟩, by simp [intOf]; omega⟩
      · -- a part ends here
        have hd : dash s f = k := (dash_is s f (by omega)).unique ⟨hfk, hks, hnd, fun h => Classical.byContradiction fun h2 => hgo ⟨h, h2⟩⟩
        obtain ⟨x, hx⟩ : ∃ x : Pt s, x.1 = (f, k) := ⟨⟨(f, k), hfk, hks⟩, rfl⟩
        have hpre := hcm.pre (by omega) x (by rw [hx, hd])
        have hpt : ptN s x = ofS (s.extract f k) := by unfold ptN; rw [hx]
        have hes := ext_size s f k hks
        have het : (s.extract f k).size ≤ 70000 := by omega
        have hat := atN_front s _ 0 pre x hpre
        rw [hx] at hat
        by_cases hfail : ptN s x = 0 ∨ m = 4
        · obtain ⟨r1, r2, r3⟩ := parse_fail s pre x acc hacc (hm ▸ hfail) hpre
          have R1 := Lib.hid (show ({ data := #[] } : ByteArray) = parseV s from r1.symm)
          have R2 := Lib.hid (show ((f : Nat) : Int) = placeI s by
            unfold placeI
            unfold parseE at r3
            cases hL : parseL s with
            | none => simp only []; rw [r2]; simp only [] at hat; omega
            | some l => rw [hL] at r3; cases r3)
          clear r1 r2 r3 hat hpre hacc
          by_cases h0 : ptN s x = 0
          · have HC := Lib.hid (show ofS (s.extract f k) = 0 by rw [← hpt, h0])
            have HB := Lib.hid (show ofB (s.extract f k) = false by unfold ofB; rw [HC.out]; rfl)
            clear h0 hfail hpt hm hd hx hcm hnd hes
            by_cases hlt : k < s.size
            · have E1 := bAt_get s k hlt
              have hb : bAt s k = 45 := Classical.byContradiction fun h => hgo ⟨hlt, h⟩
              have t1 : (((s[k]'hlt).toNat : Int) != 45) = false := by rw [E1, hb]; rfl
              clear hgo E1 hb
              go_wp2_with (go_at_call 72; refine (rof_at _ het 0 false HC.out HB.out _).mono ?_; rintro e w' ⟨rfl, rfl⟩)
              go_ret2
              exact ⟨ret_si R1.out R2.out, hB⟩
            · have t2 : decide (k < s.size) = false := decide_eq_false hlt
              clear hgo
              go_wp2_with (go_at_call 72; refine (rof_at _ het 0 false HC.out HB.out _).mono ?_; rintro e w' ⟨rfl, rfl⟩)
              go_ret2
              exact ⟨ret_si R1.out R2.out, hB⟩
          · obtain rfl : m = 4 := hfail.resolve_left h0
            obtain ⟨c, hc⟩ : ∃ c, ptN s x = c := ⟨_, rfl⟩
            have HC := Lib.hid (show ofS (s.extract f k) = c by rw [← hpt, hc])
            have HB := Lib.hid (show ofB (s.extract f k) = true by unfold ofB; rw [HC.out, ← hc]; simp [h0])
            rcases hown.2 with ⟨_, hno⟩ | ⟨g, cap, cur, rfl, -⟩
            · omega
            clear h0 hfail hpt hm hd hx hcm hnd hes hc
            by_cases hlt : k < s.size
            · have E1 := bAt_get s k hlt
              have hb : bAt s k = 45 := Classical.byContradiction fun h => hgo ⟨hlt, h⟩
              have t1 : (((s[k]'hlt).toNat : Int) != 45) = false := by rw [E1, hb]; rfl
              clear hgo E1 hb
              go_wp2_with (go_at_call 72; refine (rof_at _ het c true HC.out HB.out _).mono ?_; rintro e w' ⟨rfl, rfl⟩)
              go_ret2
              exact ⟨ret_si R1.out R2.out, hB⟩
            · have t2 : decide (k < s.size) = false := decide_eq_false hlt
              clear hgo
              go_wp2_with (go_at_call 72; refine (rof_at _ het c true HC.out HB.out _).mono ?_; rintro e w' ⟨rfl, rfl⟩)
              go_ret2
              exact ⟨ret_si R1.out R2.out, hB⟩
        · -- a cell more
          have h0 : ptN s x ≠ 0 := fun h => hfail (.inl h)
          have h4 : m ≠ 4 := fun h => hfail (.inr h)
          have hlx : ptN s x < 64 := ofS_lt _
          obtain ⟨c, hc⟩ : ∃ c, ptN s x = c := ⟨_, rfl⟩
          have HC := Lib.hid (show ofS (s.extract f k) = c by rw [← hpt, hc])
          have HB := Lib.hid (show ofB (s.extract f k) = true by unfold ofB; rw [HC.out, ← hc]; simp [h0])
          have HST := Lib.hid (show pSt s (pre ++ [x]) = some (acc ++ [c]) by rw [pSt_snoc, hacc, pStep_yes h0 (by omega), hc])
          have HM := Lib.hid (show (acc ++ [c]).length = m + 1 by rw [List.length_append, hm]; rfl)
          have b4 : ((m : Int) == 4) = false := beq_eq_false_iff_ne.2 (by omega)
          have hS2 : StandsP s (pre ++ [x]) (k + 1) (k + 1) := by
            have hxe : x = ⟨(f, dash s f), (dash_is s f (by omega)).1, (dash_is s f (by omega)).2.1⟩ := Subtype.ext (by show x.1 = (f, dash s f); rw [hx, hd])
            rcases Nat.lt_or_ge k s.size with hlt | hge
            · refine .inl ⟨Nat.le_refl _, by omega, ?_, fun j h1 h2 => by omega⟩
              have := hcm.succ (by omega) (by rw [hd]; exact hlt)
              rw [← hxe, hd] at this
              exact this
            · refine .inr ⟨by omega, ?_⟩
              have := hcm.last (by omega) (by rw [hd]; omega)
              rw [← hxe] at this
              exact this.symm
          rw [hc] at hlx
          clear h0 h4 hfail hpt hm hd hx hcm hnd hes hc hacc hat hpre hlen
          by_cases hlt : k < s.size
          · have E1 := bAt_get s k hlt
            have hb : bAt s k = 45 := Classical.byContradiction fun h => hgo ⟨hlt, h⟩
            have t1 : (((s[k]'hlt).toNat : Int) != 45) = false := by rw [E1, hb]; rfl
            clear hgo E1 hb
            rcases hown.2 with ⟨rfl, -⟩ | ⟨g, cap, cur, rfl, -⟩
            all_goals
              go_wp2_with (first
                | (go_at_call 72; refine (rof_at _ het c true HC.out HB.out _).mono ?_; rintro e w' ⟨rfl, rfl⟩)
                | (at_builtin; refine wpList_append_own _ rfl _ _ 105 rfl w.heap.size 5 i0 (.int .u8 0) 1 1 Tryz.underlying105 hi hz0 hz1 hz2 rfl (by decide) _ _ _ rfl (hown.alloc _) ⟨wr.heap.size, 0, none⟩ 1 1 [.int .u8 (c : Int)] rfl rfl (cell_one_new _ _ _) (by simp [Value.oneCell']) (by unfold maxLen; omega) (by omega) (by simp; omega) ?_; intro v' w1 hown' hgrow _))
              have hB2 : Below w.heap.size w w1 := (hB.alloc (by omega) _).grown hgrow (by simp; omega) (fun j ej => ((hown.lt) j ej).1)
              exact ⟨⟨k + 1, k + 1, m + 1, acc ++ [c], pre ++ [x], by go_num, by go_num, by omega, hS2, HST.out, HM.out, by rw [cellsL_snoc]; exact hown', hB2⟩, by simp [intOf]; omega⟩
          · have t2 : decide (k < s.size) = false := decide_eq_false hlt
            clear hgo
            rcases hown.2 with ⟨rfl, -⟩ | ⟨g, cap, cur, rfl, -⟩
            all_goals
              go_wp2_with (first
                | (go_at_call 72; refine (rof_at _ het c true HC.out HB.out _).mono ?_; rintro e w' ⟨rfl, rfl⟩)
                | (at_builtin; refine wpList_append_own _ rfl _ _ 105 rfl w.heap.size 5 i0 (.int .u8 0) 1 1 Tryz.underlying105 hi hz0 hz1 hz2 rfl (by decide) _ _ _ rfl (hown.alloc _) ⟨wr.heap.size, 0, none⟩ 1 1 [.int .u8 (c : Int)] rfl rfl (cell_one_new _ _ _) (by simp [Value.oneCell']) (by unfold maxLen; omega) (by omega) (by simp; omega) ?_; intro v' w1 hown' hgrow _))
              have hB2 : Below w.heap.size w w1 := (hB.alloc (by omega) _).grown hgrow (by simp; omega) (fun j ej => ((hown.lt) j ej).1)
              exact ⟨⟨k + 1, k + 1, m + 1, acc ++ [c], pre ++ [x], by go_num, by go_num, by omega, hS2, HST.out, HM.out, by rw [cellsL_snoc]; exact hown', hB2⟩, by simp [intOf]; omega⟩
    · obtain rfl : k = s.size + 1 := by omega
      have hpa : pre = partsA s 0 := by
        rcases hS with ⟨_, h, _⟩ | ⟨_, h⟩
        · omega
        · exact h
      have hL : parseL s = some acc := by unfold parseL; rw [← hpa]; exact hacc
      obtain ⟨r1, r2, r3⟩ := parse_ok s acc hL
      have R1 := Lib.hid r1.symm
      have R2 := Lib.hid (show (-1 : Int) = placeI s by
        unfold placeI
        rw [hL])
      have HL := Lib.hid (show ∀ x ∈ acc, x < 256 from fun x hx => Nat.lt_trans (hlen.2 x hx) (by decide))
      clear r1 r2 r3 hpa hS hacc hlen hm hL
      rcases hown.2 with ⟨rfl, -⟩ | ⟨g, cap, cur, rfl, -⟩
      all_goals
        have hback := back_of_row acc HL.out hown
        go_wp2
        go_ret2
        exact ⟨ret_si R1.out R2.out, hB⟩
end Go.Proofs.YtalehelgemmmeaaGreatDoor.Ce
