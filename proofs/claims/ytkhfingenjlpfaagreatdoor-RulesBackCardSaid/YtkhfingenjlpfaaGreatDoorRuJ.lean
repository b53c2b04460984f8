/-
  styluslaw08's two, awake, long; RulesParses, whatever it is called with.
-/
import Derived.Test.YtkhfingenjlpfaaGreatDoorRuI
namespace Go.Proofs.YtkhfingenjlpfaaGreatDoor.Ru
open Go.RowKit Ba

theorem RLands.parse_at (R : RLands) (s : ByteArray) (hs : s.size ≤ maxLen) (l : List Rl) (n z : Int) (h1 : (parseZ s).1 = l) (h2 : (((parseZ s).2.1 : Nat) : Int) = n) (h3 : (((parseZ s).2.2 : Nat) : Int) = z) (w : World) (hL : LaidR w) :
    Calls Tryz.prog 7 #[.string s] w fun e w' => ∃ v, e = .returned (.tuple #[v, .int .i64 n, .int .i64 z]) ∧ ReadsR 0 w' w'.heap.size v l ∧ CapsR v ∧ Below w.heap.size w w' := by
  subst h1; subst h2; subst h3
  exact R.parse s hs w hL
theorem RLands.print_at (R : RLands) (v : Value) (l : List Rl) (off : Nat) (hl : l.length ≤ 1000) (hf : ∀ x ∈ l, FitR x ∧ x.left.length ≤ 9000 ∧ x.cells.length ≤ 9000) (hc : CapsR v) (a : ByteArray) (z : Int) (h1 : bytesOf (printZ l).1 = a) (h2 : (((printZ l).2 : Nat) : Int) = z) (w : World) (hL : LaidR w) (hv : ReadsR off w w.heap.size v l) :
    Calls Tryz.prog 11 #[v] w fun e w' => e = .returned (.tuple #[.string a, .int .i64 z]) ∧ Below w.heap.size w w' := by
  subst h1; subst h2
  exact R.print v l off hl hf hc w hL hv
def twoL : List Rl := [⟨1, [97, 110, 100], [47], 1, 1⟩, ⟨6, [46], [50], 0, 3⟩]
theorem two_row : rows cR twoL = [.int .i64 1, .string { data := #[97, 110, 100] }, .string { data := #[47] }, .int .i64 1, .int .i64 1, .int .i64 6, .string { data := #[46] }, .string { data := #[50] }, .int .i64 0, .int .i64 3] := by kernel_rfl
theorem two_fit : ∀ x ∈ twoL, FitR x ∧ x.left.length ≤ 9000 ∧ x.cells.length ≤ 9000 := by
  intro x hx
  rcases List.mem_cons.1 hx with rfl | hx
  · refine ⟨⟨⟨by decide, by decide⟩, ⟨by decide, by decide⟩, ⟨by decide, by decide⟩, by decide, by decide, by decide, by decide⟩, by decide, by decide⟩
  · rw [List.mem_singleton.1 hx]
    refine ⟨⟨⟨by decide, by decide⟩, ⟨by decide, by decide⟩, ⟨by decide, by decide⟩, by decide, by decide, by decide, by decide⟩, by decide, by decide⟩
/-- styluslaw08.two -/
theorem two_any (w : World) : Calls Tryz.prog 24 #[] w (RowTo twoL w) := by
  go_enter Tryz.func24, Tryz.ntmps24
  go_wp2
  go_ret
  refine ⟨_, rfl, ?_, (Below.refl _ _).alloc (Nat.le_refl _) _⟩
  rw [two_row]
  exact World.ownsRow_lit w _ 2 (Nat.le_refl _) (by decide) rfl
def ex1 : ByteArray := { data := #[97, 110, 121, 32, 97, 110, 100, 32, 49, 50, 51, 52, 54, 32, 49, 10, 35, 32, 120, 10, 109, 97, 114, 107, 32, 46, 32, 50, 53, 54] }
def ex2 : ByteArray := { data := #[97, 110, 121, 32, 97, 110, 100, 32, 49, 50, 51, 52, 54, 32, 49, 10, 119, 111, 114, 100, 32, 97] }
theorem ex1_is : parseZ ex1 = (twoL, 0, 0) := by decide +kernel
theorem ex2_is : parseZ ex2 = ([], 2, 6) := by decide +kernel
theorem two_print : printZ twoL = ([97, 110, 121, 32, 97, 110, 100, 32, 49, 50, 51, 52, 54, 32, 49, 10, 109, 97, 114, 107, 32, 46, 32, 50, 53, 54, 10], 0) := by decide +kernel
theorem two_mark : firstR twoL 6 [46] = [50] := by decide +kernel
theorem two_sign : firstR twoL 8 (bytesN { data := #[99, 97, 112] }) = [] := by decide +kernel
theorem own_caps {w : World} {base : Nat} {e : TypeId} {size : Nat} {v : Value} {n : Nat} {xs : List Value} (h : w.ownsRow base e size v n xs) : CapsR v := fun A m c hv => by
  rcases h.2 with ⟨h1, h0⟩ | ⟨g, c', _, h1, _, _, hc, hc2, _⟩
  · rw [h1] at hv; injection hv with _ a b; subst a; subst b; exact ⟨Nat.le_refl _, by decide⟩
  · rw [h1] at hv; injection hv with _ a b; subst a; subst b; exact ⟨hc, hc2⟩
theorem go_len : ∀ (m : List (List Nat)) (n : Nat) (acc : List Rl), acc.length ≤ 400 → (goP psC m n acc).1.length ≤ 400
  | [], n, acc, h => h
  | t :: m, n, acc, h => by
    by_cases hs : t = [] ∨ t.head? = some 35
    · rw [go_skip hs]; exact go_len m (n + 1) acc h
    · cases hr : ruleA psC t n with
      | none => rw [go_bad hs hr]; exact Nat.zero_le _
      | some x =>
        rw [go_rule hs hr]
        by_cases h4 : acc.length = 400
        · rw [if_pos h4]; exact Nat.zero_le _
        · rw [if_neg h4]
          exact go_len m (n + 1) _ (by rw [List.length_append]; simp only [List.length_cons, List.length_nil]; omega)
theorem parse_len {s : ByteArray} {l : List Rl} {n z : Nat} (h : parseZ s = (l, n, z)) : l.length ≤ 400 := by
  have h2 := go_len (splitL 10 (bytesN s)) 1 [] (Nat.zero_le _)
  have h3 : (parseZ s).1 = l := by rw [h]
  rw [← h3]
  unfold parseZ parseR
  split
  · exact Nat.zero_le _
  · exact h2
set_option maxRecDepth 100000 in
set_option maxHeartbeats 8000000 in
/-- styluslaw08.awake -/
theorem awake8 (R : RLands) (w : World) (hL : LaidR w) : Calls Tryz.prog 6 #[] w fun e w' => e = .returned (.bool true) ∧ Below w.heap.size w w' := by
  have HL := Lib.hid hL
  have hLN := hL.1
  have HP1 := Lib.hid (fun W hW => R.parse_at ex1 (by decide) twoL 0 0 (by rw [ex1_is]) (by rw [ex1_is]; rfl) (by rw [ex1_is]; rfl) W hW)
  have HP2 := Lib.hid (fun W hW => R.parse_at ex2 (by decide) [] 2 6 (by rw [ex2_is]) (by rw [ex2_is]; rfl) (by rw [ex2_is]; rfl) W hW)
  have HPR := Lib.hid (fun v hc W hW hv => R.print_at v twoL 0 (by decide) two_fit hc { data := #[97, 110, 121, 32, 97, 110, 100, 32, 49, 50, 51, 52, 54, 32, 49, 10, 109, 97, 114, 107, 32, 46, 32, 50, 53, 54, 10] } 0 (by rw [two_print]; rfl) (by rw [two_print]; rfl) W hW hv)
  have HMK := Lib.hid (fun v hc W hW hv => (show Calls Tryz.prog 15 #[v, .int .u8 46] W fun e w' => e = .returned (.string { data := #[50] }) ∧ Below W.heap.size W w' from by
    have := R.mark v twoL 0 46 (by decide) two_fit (by decide) hc W hW hv
    rw [two_mark] at this
    exact this))
  have HSG := Lib.hid (fun v hc W hW hv => (show Calls Tryz.prog 13 #[v, .string { data := #[99, 97, 112] }] W fun e w' => e = .returned (.string { data := #[] }) ∧ Below W.heap.size W w' from by
    have := R.sign v twoL 0 { data := #[99, 97, 112] } (by decide) two_fit (by decide) hc W hW hv
    rw [two_sign] at this
    exact this))
  clear hL
  go_enter Tryz.func6, Tryz.ntmps6
  go_wp2_with fail
  refine (HP1.out _ HL.out).mono ?_
  rintro e w1 ⟨v1, rfl, hr1, -, hb1⟩
  have HV1 := Lib.hid hr1
  have HB1 := Lib.hid hb1
  have HL1 := Lib.hid (HL.out.below hb1 hLN)
  clear hr1 hb1
  go_wp2_with fail
  refine (HP2.out _ HL1.out).mono ?_
  rintro e w2 ⟨v2, rfl, -, -, hb2⟩
  have HV2 := Lib.hid ((HV1.out.below hb2).mono hb2.size)
  have HB2 := Lib.hid (chain HB1.out HB1.out.size hb2)
  clear hb2
  go_wp2_with fail
  refine (two_any _).mono ?_
  rintro e w3 ⟨t3, rfl, own3, hb3⟩
  have HT3 := Lib.hid (Reads.of_own (f := cR) (n := 5) cR_len rfl own3)
  have HC3 := Lib.hid (own_caps own3)
  have HB3 := Lib.hid (chain HB2.out HB2.out.size hb3)
  have HL3 := Lib.hid (HL.out.below HB3.out hLN)
  have HV3 := Lib.hid ((HV2.out.below hb3).mono hb3.size)
  clear own3 hb3
  go_wp2_with fail
  refine (HPR.out _ HC3.out _ HL3.out HT3.out).mono ?_
  rintro e w4 ⟨rfl, hb4⟩
  have HV4 := Lib.hid ((HV3.out.below hb4).mono hb4.size)
  have HB4 := Lib.hid (chain HB3.out HB3.out.size hb4)
  clear hb4
  go_wp2_with fail
  refine (two_any _).mono ?_
  rintro e w5 ⟨t5, rfl, own5, hb5⟩
  have HT5 := Lib.hid (Reads.of_own (f := cR) (n := 5) cR_len rfl own5)
  have HC5 := Lib.hid (own_caps own5)
  have HB5 := Lib.hid (chain HB4.out HB4.out.size hb5)
  have HL5 := Lib.hid (HL.out.below HB5.out hLN)
  have HV5 := Lib.hid ((HV4.out.below hb5).mono hb5.size)
  clear own5 hb5
  go_wp2_with fail
  refine (rsame_any _ _ twoL 0 0 (by decide) _ _ _ HV5.out HT5.out).mono ?_
  rintro e wq ⟨rfl, nq, hq⟩
  have HB6 := Lib.hid (show Below w.heap.size w wq by rw [hq]; exact Ba.below_drewN HB5.out nq)
  clear hq
  go_wp2_with fail
  refine (two_any _).mono ?_
  rintro e w7 ⟨t7, rfl, own7, hb7⟩
  have HT7 := Lib.hid (Reads.of_own (f := cR) (n := 5) cR_len rfl own7)
  have HC7 := Lib.hid (own_caps own7)
  have HB7 := Lib.hid (chain HB6.out HB6.out.size hb7)
  have HL7 := Lib.hid (HL.out.below HB7.out hLN)
  clear own7 hb7
  go_wp2_with fail
  refine (HMK.out _ HC7.out _ HL7.out HT7.out).mono ?_
  rintro e w8 ⟨rfl, hb8⟩
  have HB8 := Lib.hid (chain HB7.out HB7.out.size hb8)
  clear hb8
  go_wp2_with fail
  refine (two_any _).mono ?_
  rintro e w9 ⟨t9, rfl, own9, hb9⟩
  have HT9 := Lib.hid (Reads.of_own (f := cR) (n := 5) cR_len rfl own9)
  have HC9 := Lib.hid (own_caps own9)
  have HB9 := Lib.hid (chain HB8.out HB8.out.size hb9)
  have HL9 := Lib.hid (HL.out.below HB9.out hLN)
  clear own9 hb9
  go_wp2_with fail
  refine (HSG.out _ HC9.out _ HL9.out HT9.out).mono ?_
  rintro e w10 ⟨rfl, hb10⟩
  have HB10 := Lib.hid (chain HB9.out HB9.out.size hb10)
  have HL10 := Lib.hid (HL.out.below HB10.out hLN)
  clear hb10
  go_wp2_with fail
  refine (R.names _ HL10.out).mono ?_
  rintro e w11 ⟨v11, rfl, own11, hb11⟩
  obtain ⟨g11, c11, rfl, -⟩ := own_slice own11 (by decide)
  have HB11 := Lib.hid (chain HB10.out HB10.out.size hb11)
  clear own11 hb11
  go_wp2
  go_ret
  exact ⟨rfl, HB11.out⟩
set_option maxRecDepth 100000 in
set_option maxHeartbeats 8000000 in
/-- styluslaw08.RulesParses -/
theorem parses_row (R : RLands) (s : ByteArray) (hs : s.size ≤ maxLen) (w : World) (hL : LaidR w) : Calls Tryz.prog 3 #[.string s] w fun e w' => e = .returned (.bool true) ∧ Below w.heap.size w w' := by
  have HL := Lib.hid hL
  have hLN := hL.1
  clear hL
  by_cases hbig : 65536 < s.size
  · have h5 : 5000 < s.size := by omega
    have t2 : decide ((s.size : Int) ≤ 65536) = false := decide_eq_false (by omega)
    have HP := Lib.hid (fun W hW => R.parse_at s hs [] 0 4 (by rw [parseZ_big hbig]) (by rw [parseZ_big hbig]; rfl) (by rw [parseZ_big hbig]; rfl) W hW)
    go_enter Tryz.func3, Tryz.ntmps3
    go_wp2_with fail
    refine (HP.out _ HL.out).mono ?_
    rintro e w1 ⟨v1, rfl, ⟨A1, c1, rfl, -⟩, -, hb1⟩
    have HB1 := Lib.hid hb1
    have HL1 := Lib.hid (HL.out.below hb1 hLN)
    clear hb1
    go_wp2_with fail
    refine (awake8 R _ HL1.out).mono ?_
    rintro e w2 ⟨rfl, hb2⟩
    have HB2 := Lib.hid (chain HB1.out HB1.out.size hb2)
    clear hb2
    go_wp2
    go_ret
    exact ⟨rfl, HB2.out⟩
  by_cases h5 : 5000 < s.size
  · have h6 : s.size ≤ 65536 := by omega
    clear hbig
    go_enter Tryz.func3, Tryz.ntmps3
    go_wp2_with fail
    refine (awake8 R _ HL.out).mono ?_
    rintro e w2 ⟨rfl, hb2⟩
    go_wp2
    go_ret
    exact ⟨rfl, hb2⟩
  · have t5 : decide (5000 < (s.size : Int)) = false := decide_eq_false (by omega)
    have t6 : decide (65536 < (s.size : Int)) = false := decide_eq_false (by omega)
    obtain ⟨r, hr⟩ : ∃ r, parseZ s = r := ⟨_, rfl⟩
    obtain ⟨l, n, z⟩ := r
    have HP := Lib.hid (fun W hW => R.parse_at s hs l (n : Int) (z : Int) (by rw [hr]) (by rw [hr]) (by rw [hr]) W hW)
    have HQ := Lib.hid (hr ▸ rparseZ_any s (by omega))
    have hll := parse_len hr
    have z1 : ((n : Int) == (n : Int)) = true := by simp
    have z2 : ((z : Int) == (z : Int)) = true := by simp
    clear hr hbig h5
    go_enter Tryz.func3, Tryz.ntmps3
    go_wp2_with fail
    refine (HP.out _ HL.out).mono ?_
    rintro e w1 ⟨v1, rfl, hr1, -, hb1⟩
    have HV1 := Lib.hid hr1
    have HB1 := Lib.hid hb1
    clear hr1 hb1
    go_wp2_with fail
    refine (HQ.out _).mono ?_
    rintro e w2 ⟨v2, rfl, own2, hb2⟩
    have HV2 := Lib.hid ((HV1.out.below hb2).mono hb2.size)
    have HO2 := Lib.hid (Reads.of_own (f := cR) (n := 5) cR_len rfl own2)
    have HB2 := Lib.hid (chain HB1.out HB1.out.size hb2)
    clear own2 hb2
    go_wp2_with fail
    refine (rsame_any _ _ l 0 0 (by omega) _ _ _ HV2.out HO2.out).mono ?_
    rintro e w3 ⟨rfl, nq, hq⟩
    have HB3 := Lib.hid (show Below w.heap.size w w3 by rw [hq]; exact Ba.below_drewN HB2.out nq)
    have HL3 := Lib.hid (HL.out.below HB3.out hLN)
    clear hq
    go_wp2_with fail
    refine (awake8 R _ HL3.out).mono ?_
    rintro e w4 ⟨rfl, hb4⟩
    have HB4 := Lib.hid (chain HB3.out HB3.out.size hb4)
    clear hb4
    go_wp2
    go_ret
    exact ⟨rfl, HB4.out⟩
end Go.Proofs.YtkhfingenjlpfaaGreatDoor.Ru
