/-
  lex.text, lex.first: a source's first part, as the document's step says.
-/
import Derived.Test.YtbldloniijmchaaDoorLaC
namespace Go.Proofs.YtbldloniijmchaaDoor.Lx
open Go.RowKit

set_option maxHeartbeats 1000000 in
/-- strings.Clone -/
theorem clone_any (s : ByteArray) (h : s.size ≤ 70000) (w : World) : Calls Tryd.prog 70 #[.string s] w fun e w' => e = .returned (.string s) ∧ Below w.heap.size w w' := by
  go_enter Tryd.func70, Tryd.ntmps70
  go_wp2_with (go_at_call 73; refine (Tryd.stringslite_Clone s _ (by omega)).mono ?_; rintro e w' ⟨rfl, hb⟩)
  go_ret
  exact ⟨rfl, hb⟩

set_option maxHeartbeats 2000000 in
/-- lex.text, where none stands. -/
theorem text_no (t : ByteArray) (h0 : 0 < t.size) (_h1 : t.size ≤ 70000) (h : okT (bAt t 0) = false) (w : World) (hL : Ka.Laid w) :
    Calls Tryd.prog 65 #[.string t] w fun e w' => e = .returned (.tuple #[.agg #[.int .i64 0, .int .u8 0, .string { data := #[] }, .int .i64 0], .int .i64 0, .int .i64 3]) ∧ Below w.heap.size w w' := by
  have E1 := bAt_get t 0 h0
  have h256 := bAt_lt t 0
  obtain ⟨b, hb⟩ : ∃ b, bAt t 0 = b := ⟨_, rfl⟩
  rw [hb] at E1 h256 h
  have hI : Ka.isB (b : Int) = false ∧ Ka.whiteB (b : Int) = false := by unfold okT at h; simpa using h
  have HI := Lib.hid hI.1
  have HW := Lib.hid hI.2
  have hb0 : Below w.heap.size w (w.alloc (.cells #[.int .i64 0, .int .u8 0, .string { data := #[] }, .int .i64 0] 76)) := (Below.refl w.heap.size w).alloc (Nat.le_refl _) _
  have hL2 := hL.below hb0 hL.1
  clear hb h hI
  go_enter Tryd.func65, Tryd.ntmps65
  go_wp2
  go_loop [3] (fun i => i = .int .i64 0) (fun _ => 0)
  case atStart => rfl
  case round =>
    subst hrel
    go_wp2_with (first
      | (go_at_call 46; refine (cwhite_at b false h256 HW.out _ hL2).mono ?_; rintro e w' ⟨rfl, rfl⟩)
      | (go_at_call 51; refine (cis_at b false h256 HI.out _ hL2).mono ?_; rintro e w' ⟨rfl, rfl⟩))
    refine bodyPost_ret (v := .tuple #[.agg #[.int .i64 0, .int .u8 0, .string { data := #[] }, .int .i64 0], .int .i64 0, .int .i64 3]) (by simp [results, Tryd.f65, go_sem]) rfl ⟨rfl, ?_⟩
    exact hb0

set_option maxHeartbeats 4000000 in
/-- lex.text, where one stands. -/
theorem text_yes (t : ByteArray) (h0 : 0 < t.size) (h1 : t.size ≤ 70000) (z : Nat) (h : okT (bAt t 0) = true) (hz : tend t 0 = z) (w : World) (hL : Ka.Laid w) :
    Calls Tryd.prog 65 #[.string t] w fun e w' => e = .returned (.tuple #[.agg #[.int .i64 1, .int .u8 0, .string (t.extract 0 z), .int .i64 0], .int .i64 ((z : Nat) : Int), .int .i64 0]) ∧ Below w.heap.size w w' := by
  have hT := tend_is t 0 (Nat.zero_le _)
  rw [hz] at hT
  have hz0 : 0 < z := by
    rcases Nat.eq_zero_or_pos z with e | e
    · have := hT.2.2.2 (by omega)
      rw [e, h] at this; cases this
    · exact e
  have HT := Lib.hid hT
  have hb0 : Below w.heap.size w (w.alloc (.cells #[.int .i64 0, .int .u8 0, .string { data := #[] }, .int .i64 0] 76)) := (Below.refl w.heap.size w).alloc (Nat.le_refl _) _
  have hL2 := hL.below hb0 hL.1
  clear h hz hT
  go_enter Tryd.func65, Tryd.ntmps65
  go_wp2
  go_loop [3] (fun i => ∃ k : Nat, k ≤ t.size ∧ i = .int .i64 k ∧ ∀ j, j < k → okT (bAt t j) = true) (fun i => t.size - (intOf i).toNat)
  case atStart => exact ⟨0, by omega, rfl, fun j hj => by omega⟩
  case round =>
    obtain ⟨k, hk, rfl, hj⟩ := hrel
    have HJ := Lib.hid hj
    clear hj
    have fin : (k < t.size → okT (bAt t k) = false) → k = z := fun h => by
      obtain ⟨a1, a2, a3, a4⟩ := HT.out
      exact (show IsTend t 0 k from ⟨Nat.zero_le _, hk, fun j _ h2 => HJ.out j h2, h⟩).unique ⟨a1, a2, a3, a4⟩
    by_cases hlt : k < t.size
    · have E1 := bAt_get t k hlt
      have h256 := bAt_lt t k
      obtain ⟨b, hb⟩ : ∃ b, bAt t k = b := ⟨_, rfl⟩
      rw [hb] at E1 h256
      by_cases hok : okT b = true
      · have HJ2 := Lib.hid (show ∀ j, j < k + 1 → okT (bAt t j) = true from fun j h2 => by
          rcases Nat.lt_or_ge j k with h3 | h3
          · exact HJ.out j h3
          · obtain rfl : j = k := by omega
            rw [hb]; exact hok)
        obtain ⟨v1, hv1⟩ : ∃ v1, Ka.isB (b : Int) = v1 := ⟨_, rfl⟩
        have HV1 := Lib.hid hv1
        have HV2 : v1 = false → Hid (Ka.whiteB (b : Int) = true) := fun e => Lib.hid (by
          unfold okT at hok; rw [hv1, e] at hok; simpa using hok)
        clear hb hok hv1 fin
        cases v1
        · have HV := HV2 rfl
          clear HV2
          go_wp2_with (first
            | (go_at_call 46; refine (cwhite_at b true h256 HV.out _ hL2).mono ?_; rintro e w' ⟨rfl, rfl⟩)
            | (go_at_call 51; refine (cis_at b false h256 HV1.out _ hL2).mono ?_; rintro e w' ⟨rfl, rfl⟩))
          go_round
          case rel => exact ⟨k + 1, by omega, by go_num, HJ2.out⟩
          case measure => simp [intOf]; omega
        · clear HV2
          go_wp2_with (go_at_call 51; refine (cis_at b true h256 HV1.out _ hL2).mono ?_; rintro e w' ⟨rfl, rfl⟩)
          go_round
          case rel => exact ⟨k + 1, by omega, by go_num, HJ2.out⟩
          case measure => simp [intOf]; omega
      · have hok' : okT b = false := by simpa using hok
        have hkz := fin (fun _ => by rw [hb]; exact hok')
        have hI : Ka.isB (b : Int) = false ∧ Ka.whiteB (b : Int) = false := by unfold okT at hok'; simpa using hok'
        have HI := Lib.hid hI.1
        have HW := Lib.hid hI.2
        have HK := Lib.hid hkz
        have hk0 : 0 < k := by omega
        have t0 : ((k : Int) == 0) = false := beq_eq_false_iff_ne.2 (by omega)
        have hes := ext_size t 0 k (by omega)
        have hes2 : (t.extract 0 k).size ≤ 70000 := by omega
        clear hI hkz hb hok hok' fin hes
        go_wp2_with (first
          | (go_at_call 46; refine (cwhite_at b false h256 HW.out _ hL2).mono ?_; rintro e w' ⟨rfl, rfl⟩)
          | (go_at_call 51; refine (cis_at b false h256 HI.out _ hL2).mono ?_; rintro e w' ⟨rfl, rfl⟩)
          | (go_at_call 70; refine (clone_any _ hes2 _).mono ?_; rintro e w2 ⟨rfl, hb2⟩; have hb1 := hb2.mono (B' := w.heap.size + 1) (by simp); obtain ⟨k0, k1, k2, k3, kf⟩ := zero_cells hb1; have f0 := kf 0; have f1 := kf 1; have f2 := kf 2; have f3 := kf 3; clear kf))
        refine bodyPost_ret (v := .tuple #[.agg #[.int .i64 1, .int .u8 0, .string (t.extract 0 k), .int .i64 0], .int .i64 (k : Int), .int .i64 0]) (by simp [results, Tryd.f65, go_sem, k0, k1, k2, k3]) rfl ⟨ret_ag (by rw [HK.out]) (by rw [HK.out]), ?_⟩
        exact ((((hb0.trans (hb2.mono (by simp))).setCell (Nat.le_refl _) _).setCell (Nat.le_refl _) _).setCell (Nat.le_refl _) _).setCell (Nat.le_refl _) _
    · have hkz := fin (fun h => absurd h hlt)
      have HK := Lib.hid hkz
      have hk0 : 0 < k := by omega
      have t0 : ((k : Int) == 0) = false := beq_eq_false_iff_ne.2 (by omega)
      have j1 : decide (k < t.size) = false := decide_eq_false hlt
      have hes := ext_size t 0 k (by omega)
      have hes2 : (t.extract 0 k).size ≤ 70000 := by omega
      clear hkz fin hes
      go_wp2_with (go_at_call 70; refine (clone_any _ hes2 _).mono ?_; rintro e w2 ⟨rfl, hb2⟩; have hb1 := hb2.mono (B' := w.heap.size + 1) (by simp); obtain ⟨k0, k1, k2, k3, kf⟩ := zero_cells hb1; have f0 := kf 0; have f1 := kf 1; have f2 := kf 2; have f3 := kf 3; clear kf)
      refine bodyPost_ret (v := .tuple #[.agg #[.int .i64 1, .int .u8 0, .string (t.extract 0 k), .int .i64 0], .int .i64 (k : Int), .int .i64 0]) (by simp [results, Tryd.f65, go_sem, k0, k1, k2, k3]) rfl ⟨ret_ag (by rw [HK.out]) (by rw [HK.out]), ?_⟩
      exact ((((hb0.trans (hb2.mono (by simp))).setCell (Nat.le_refl _) _).setCell (Nat.le_refl _) _).setCell (Nat.le_refl _) _).setCell (Nat.le_refl _) _

/-- A part, as a value. -/
def aggX (x : Lx) : Value := .agg #[.int .i64 ((x.kind : Nat) : Int), .int .u8 ((x.name : Nat) : Int), .string x.text, .int .i64 ((x.place : Nat) : Int)]
theorem below_set4 {B : Nat} {w W : World} (g : Nat) (h : Below B w W) (hg : B ≤ g) (a b c d : Value) : Below B w ((((W.setCell ⟨g, 0, none⟩ a).setCell ⟨g, 1, none⟩ b).setCell ⟨g, 2, none⟩ c).setCell ⟨g, 3, none⟩ d) :=
  (((h.setCell (p := ⟨g, 0, none⟩) hg _).setCell (p := ⟨g, 1, none⟩) hg _).setCell (p := ⟨g, 2, none⟩) hg _).setCell (p := ⟨g, 3, none⟩) hg _

set_option maxHeartbeats 4000000 in
/-- lex.first, where something is read. -/
theorem first_yes (t : ByteArray) (h0 : 0 < t.size) (h1 : t.size ≤ 70000) (x : Lx) (q : Nat) (hs : stepF t 0 = .inl (x, q)) (w : World) (hL : Ka.Laid w) :
    Calls Tryd.prog 58 #[.string t] w fun e w' => e = .returned (.tuple #[aggX x, .int .i64 ((q : Nat) : Int), .int .i64 0]) ∧ Below w.heap.size w w' := by
  have E1 := bAt_get t 0 h0
  have hb0 : Below w.heap.size w (w.alloc (.cells #[.int .i64 0, .int .u8 0, .string { data := #[] }, .int .i64 0] 76)) := (Below.refl w.heap.size w).alloc (Nat.le_refl _) _
  have hL2 := hL.below hb0 hL.1
  obtain ⟨b, hb⟩ : ∃ b, bAt t 0 = b := ⟨_, rfl⟩
  rw [hb] at E1
  by_cases b1 : b = 125
  · rw [step_close (by rw [hb, b1])] at hs
    simp only [Sum.inl.injEq, Prod.mk.injEq] at hs
    obtain ⟨rfl, rfl⟩ := hs
    have t1 : ((b : Int) == 123) = false := beq_eq_false_iff_ne.2 (by omega)
    have t2 : ((b : Int) == 125) = true := beq_iff_eq.2 (by omega)
    clear hb b1
    go_enter Tryd.func58, Tryd.ntmps58
    go_wp2
    refine bodyPost_ret (v := .tuple #[.agg #[.int .i64 3, .int .u8 0, .string { data := #[] }, .int .i64 0], .int .i64 1, .int .i64 0]) (by simp [results, Tryd.f58, go_sem]) rfl ⟨rfl, ?_⟩
    first
      | exact below_set4 w.heap.size hb0 (Nat.le_refl _) _ _ _ _
      | exact (Below.refl w.heap.size w).alloc (Nat.le_refl _) _
  · by_cases b2 : b = 123
    · obtain ⟨c, hc⟩ : ∃ c, openC t 1 = c := ⟨_, rfl⟩
      by_cases c0 : c = 0
      · rw [step_none (by rw [hb, b2]) (by rw [Nat.zero_add, hc, c0])] at hs; cases hs
      rw [step_open (by rw [hb, b2]) (by rw [Nat.zero_add, hc]; exact c0)] at hs
      simp only [Sum.inl.injEq, Prod.mk.injEq, Nat.zero_add, hc] at hs
      obtain ⟨rfl, hq⟩ := hs
      have HC := Lib.hid hc
      have HQ := Lib.hid hq
      have C0 := Lib.hid c0
      have t1 : ((b : Int) == 123) = true := beq_iff_eq.2 (by omega)
      clear hb b1 b2 hc hq c0
      go_enter Tryd.func58, Tryd.ntmps58
      go_wp2_with fail
      refine (opening_yes t h0 h1 c q HC.out C0.out HQ.out _ hL2).mono ?_
      rintro e w2 ⟨rfl, hb2⟩
      obtain ⟨k0, k1, k2, k3, kf⟩ := zero_cells (hb2.mono (by simp))
      have f0 := kf 0; have f1 := kf 1; have f2 := kf 2; have f3 := kf 3
      clear kf
      go_wp2
      refine bodyPost_ret (v := .tuple #[.agg #[.int .i64 2, .int .u8 ((c : Nat) : Int), .string { data := #[] }, .int .i64 0], .int .i64 ((q : Nat) : Int), .int .i64 0]) (by simp [results, Tryd.f58, go_sem, k0, k1, k2, k3]) rfl ⟨rfl, ?_⟩
      exact below_set4 w.heap.size (hb0.trans (hb2.mono (by simp))) (Nat.le_refl _) _ _ _ _
    · have t1 : ((b : Int) == 123) = false := beq_eq_false_iff_ne.2 (by omega)
      have t2 : ((b : Int) == 125) = false := beq_eq_false_iff_ne.2 (by omega)
      by_cases hok : okT b = true
      · rw [step_text (by rw [hb]; exact hok)] at hs
        simp only [Sum.inl.injEq, Prod.mk.injEq] at hs
        obtain ⟨rfl, hq⟩ := hs
        rw [hq]
        have HQ := Lib.hid hq
        have HO := Lib.hid (show okT (bAt t 0) = true by rw [hb]; exact hok)
        clear hb b1 b2 hq hok
        go_enter Tryd.func58, Tryd.ntmps58
        go_wp2_with fail
        refine (text_yes t h0 h1 q HO.out HQ.out _ hL2).mono ?_
        rintro e w2 ⟨rfl, hb2⟩
        obtain ⟨k0, k1, k2, k3, kf⟩ := zero_cells (hb2.mono (by simp))
        have f0 := kf 0; have f1 := kf 1; have f2 := kf 2; have f3 := kf 3
        clear kf
        go_wp2
        refine bodyPost_ret (v := .tuple #[.agg #[.int .i64 1, .int .u8 0, .string (t.extract 0 q), .int .i64 0], .int .i64 ((q : Nat) : Int), .int .i64 0]) (by simp [results, Tryd.f58, go_sem, k0, k1, k2, k3]) rfl ⟨rfl, ?_⟩
        exact below_set4 w.heap.size (hb0.trans (hb2.mono (by simp))) (Nat.le_refl _) _ _ _ _
      · rw [step_bad (by rw [hb]; exact b1) (by rw [hb]; exact b2) (by rw [hb]; simpa using hok)] at hs; cases hs

set_option maxHeartbeats 4000000 in
/-- lex.first, where nothing is. -/
theorem first_no (t : ByteArray) (h0 : 0 < t.size) (h1 : t.size ≤ 70000) (z : Nat) (hs : stepF t 0 = .inr z) (w : World) (hL : Ka.Laid w) :
    Calls Tryd.prog 58 #[.string t] w fun e w' => e = .returned (.tuple #[.agg #[.int .i64 0, .int .u8 0, .string { data := #[] }, .int .i64 0], .int .i64 0, .int .i64 ((z : Nat) : Int)]) ∧ Below w.heap.size w w' := by
  have E1 := bAt_get t 0 h0
  have hb0 : Below w.heap.size w (w.alloc (.cells #[.int .i64 0, .int .u8 0, .string { data := #[] }, .int .i64 0] 76)) := (Below.refl w.heap.size w).alloc (Nat.le_refl _) _
  have hL2 := hL.below hb0 hL.1
  obtain ⟨b, hb⟩ : ∃ b, bAt t 0 = b := ⟨_, rfl⟩
  rw [hb] at E1
  by_cases b1 : b = 125
  · rw [step_close (by rw [hb, b1])] at hs; cases hs
  by_cases b2 : b = 123
  · by_cases c0 : openC t 1 = 0
    · rw [step_none (by rw [hb, b2]) (by rw [Nat.zero_add]; exact c0)] at hs
      cases hs
      have C0 := Lib.hid c0
      have t1 : ((b : Int) == 123) = true := beq_iff_eq.2 (by omega)
      clear hb b1 b2 c0
      go_enter Tryd.func58, Tryd.ntmps58
      go_wp2_with fail
      refine (opening_no t h0 h1 C0.out _).mono ?_
      rintro e w2 ⟨rfl, hb2⟩
      obtain ⟨k0, k1, k2, k3, kf⟩ := zero_cells (hb2.mono (by simp))
      have f0 := kf 0; have f1 := kf 1; have f2 := kf 2; have f3 := kf 3
      clear kf
      go_wp2
      refine bodyPost_ret (v := .tuple #[.agg #[.int .i64 0, .int .u8 0, .string { data := #[] }, .int .i64 0], .int .i64 0, .int .i64 2]) (by simp [results, Tryd.f58, go_sem, k0, k1, k2, k3]) rfl ⟨rfl, ?_⟩
      exact below_set4 w.heap.size (hb0.trans (hb2.mono (by simp))) (Nat.le_refl _) _ _ _ _
    · rw [step_open (by rw [hb, b2]) (by rw [Nat.zero_add]; exact c0)] at hs; cases hs
  · have t1 : ((b : Int) == 123) = false := beq_eq_false_iff_ne.2 (by omega)
    have t2 : ((b : Int) == 125) = false := beq_eq_false_iff_ne.2 (by omega)
    by_cases hok : okT b = true
    · rw [step_text (by rw [hb]; exact hok)] at hs; cases hs
    · rw [step_bad (by rw [hb]; exact b1) (by rw [hb]; exact b2) (by rw [hb]; simpa using hok)] at hs
      cases hs
      have HO := Lib.hid (show okT (bAt t 0) = false by rw [hb]; simpa using hok)
      clear hb b1 b2 hok
      go_enter Tryd.func58, Tryd.ntmps58
      go_wp2_with fail
      refine (text_no t h0 h1 HO.out _ hL2).mono ?_
      rintro e w2 ⟨rfl, hb2⟩
      obtain ⟨k0, k1, k2, k3, kf⟩ := zero_cells (hb2.mono (by simp))
      have f0 := kf 0; have f1 := kf 1; have f2 := kf 2; have f3 := kf 3
      clear kf
      go_wp2
      refine bodyPost_ret (v := .tuple #[.agg #[.int .i64 0, .int .u8 0, .string { data := #[] }, .int .i64 0], .int .i64 0, .int .i64 3]) (by simp [results, Tryd.f58, go_sem, k0, k1, k2, k3]) rfl ⟨rfl, ?_⟩
      exact below_set4 w.heap.size (hb0.trans (hb2.mono (by simp))) (Nat.le_refl _) _ _ _ _
end Go.Proofs.YtbldloniijmchaaDoor.Lx
