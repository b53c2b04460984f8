/-
  Put together: CnI, CnJ, CnK.
-/
import Derived.Test.YtmldpkigfhoalaaDoorOb
import Derived.Test.YtmldpkigfhoalaaDoorNh
import Derived.Test.YtmldpkigfhoalaaDoorTrJ
namespace Go.Proofs.YtmldpkigfhoalaaDoor.Cn
open Go.RowKit Tr Nu Nl

/-- A slice with room for what it holds. -/
def Caps (v : Value) : Prop := ∀ A n c, v = .slice A n c → n ≤ c ∧ c ≤ maxLen
theorem caps_of {A : Option Addr} {n c : Nat} (h1 : n ≤ c) (h2 : c ≤ maxLen) : Caps (.slice A n c) := fun _ _ _ e => by
  injection e with _ e1 e2
  subst e1 e2
  exact ⟨h1, h2⟩
theorem caps_own {w : World} {base e size n : Nat} {v : Value} {xs : List Value} (h : w.ownsRow base e size v n xs) : Caps v := by
  rcases h.2 with ⟨rfl, _⟩ | ⟨g, cap, cur, rfl, _, _, h1, h2, _⟩
  · exact caps_of (Nat.le_refl _) (by unfold maxLen; omega)
  · exact caps_of h1 h2
/-- What the landed package answers. -/
structure CLands : Prop where
  write : ∀ (v : Value) (t : List Nd) (off : Nat), t.length ≤ 9000 → Fit t → (∀ x ∈ t, x.text.size ≤ 9000) → Caps v → ∀ w : World, Ka.Laid w → ReadsN off w w.heap.size v t → Calls Tryd.prog 7 #[v] w fun e w' =>
    e = .returned (.tuple #[.string (writeS t), .int .i64 ((writeE t : Nat) : Int)]) ∧ Below w.heap.size w w'
  of : ∀ s : ByteArray, s.size ≤ maxLen → ∀ w : World, Ka.Laid w → Calls Tryd.prog 11 #[.string s] w fun e w' =>
    e = .returned (.tuple #[.string (canonA s).1, .int .i64 (((canonA s).2.1 : Nat) : Int), .int .i64 (((canonA s).2.2 : Nat) : Int)]) ∧ Below w.heap.size w w'
theorem CLands.write_at (C : CLands) (v : Value) (t : List Nd) (off : Nat) (ht : t.length ≤ 9000) (hf : Fit t) (hx : ∀ x ∈ t, x.text.size ≤ 9000) (hcp : Caps v) (a : ByteArray) (z : Int) (ha : writeS t = a) (hz : ((writeE t : Nat) : Int) = z) (w : World) (hL : Ka.Laid w) (hv : ReadsN off w w.heap.size v t) :
    Calls Tryd.prog 7 #[v] w fun e w' => e = .returned (.tuple #[.string a, .int .i64 z]) ∧ Below w.heap.size w w' := by
  subst ha hz
  exact C.write v t off ht hf hx hcp w hL hv
theorem CLands.of_at (C : CLands) (s : ByteArray) (hs : s.size ≤ maxLen) (a : ByteArray) (p z : Int) (ha : (canonA s).1 = a) (hp : (((canonA s).2.1 : Nat) : Int) = p) (hz : (((canonA s).2.2 : Nat) : Int) = z) (w : World) (hL : Ka.Laid w) :
    Calls Tryd.prog 11 #[.string s] w fun e w' => e = .returned (.tuple #[.string a, .int .i64 p, .int .i64 z]) ∧ Below w.heap.size w w' := by
  subst ha hp hz
  exact C.of s hs w hL
set_option maxHeartbeats 4000000 in
/-- styluslaw06.vast -/
theorem vast6_at (v : Value) (off : Nat) (t : List Nd) (_hl : t.length ≤ maxLen) (B : Nat) (w : World) (hv : ReadsN off w B v t) (z : Bool) (hz : vastV t = z) :
    Calls Tryd.prog 5 #[v] w fun e w' => e = .returned (.bool z) ∧ w = w' := by
  have HZ := Lib.hid hz
  obtain ⟨A, c, rfl, hA⟩ := hv
  have HA := Lib.hid hA
  clear hA hz
  go_enter Tryd.func5, Tryd.ntmps5
  by_cases h0 : 150 < t.length
  · have HR := Lib.hid (show vastV t = true by unfold vastV; rw [decide_eq_true h0, Bool.true_or])
    go_wp2
    go_ret
    exact ⟨Ba.ret_bool (HR.out.symm.trans HZ.out), rfl⟩
  · go_wp2
    go_loop [3] (fun i => ∃ k : Nat, k ≤ t.length ∧ i = .int .i64 k ∧ ∀ x ∈ t.take k, ¬ 100 < x.text.size) (fun i => t.length - (intOf i).toNat)
    case atStart => exact ⟨0, by omega, rfl, by simp⟩
    case round =>
      obtain ⟨k, hk, rfl, hj⟩ := hrel
      have HJ := Lib.hid hj
      clear hj
      by_cases hlt : k < t.length
      · obtain ⟨g, rfl, -, hg⟩ := HA.out (by omega)
        obtain ⟨⟨xk, xt, xp, xs⟩, hx⟩ : ∃ x, t[k]? = some x := ⟨_, List.getElem?_eq_getElem hlt⟩
        obtain ⟨-, g2, -, -⟩ := cells_of hg k _ hx
        simp only [] at g2
        have HX := Lib.hid hx
        clear hg hx
        by_cases h1 : 100 < xt.size
        · have HR := Lib.hid (show vastV t = true by
            unfold vastV
            rw [Bool.or_eq_true]; exact .inr (List.any_eq_true.2 ⟨_, List.mem_of_getElem? HX.out, decide_eq_true h1⟩))
          go_wp2
          go_ret
          exact ⟨Ba.ret_bool (HR.out.symm.trans HZ.out), rfl⟩
        · have HN := Lib.hid (show ∀ x ∈ t.take (k + 1), ¬ 100 < x.text.size by
            intro x hx
            rw [List.take_add_one, HX.out] at hx
            simp only [Option.toList_some, List.mem_append, List.mem_singleton] at hx
            rcases hx with hx | hx
            · exact HJ.out x hx
            · subst hx; exact h1)
          go_wp2
          go_round
          case rel => exact ⟨k + 1, by omega, by go_num, HN.out⟩
          case measure => simp [intOf]; omega
      · obtain rfl : k = t.length := by omega
        have HR := Lib.hid (show vastV t = false by
          unfold vastV
          rw [decide_eq_false h0, Bool.false_or, List.any_eq_false]
          intro x hx
          have := HJ.out x (by rw [List.take_length]; exact hx)
          rw [decide_eq_true_eq]; exact this)
        go_wp2
        go_ret
        exact ⟨Ba.ret_bool (HR.out.symm.trans HZ.out), rfl⟩
set_option maxHeartbeats 4000000 in
/-- styluslaw06.is -/
theorem is6_at (C : CLands) (s want : ByteArray) (hs : s.size ≤ maxLen) (h : canonA s = (want, 0, 0)) (w : World) (hL : Ka.Laid w) :
    Calls Tryd.prog 13 #[.string s, .string want] w fun e w' => e = .returned (.bool true) ∧ Below w.heap.size w w' := by
  have HC := Lib.hid (fun W hW => C.of_at s hs want 0 0 (by rw [h]) (by rw [h]; rfl) (by rw [h]; rfl) W hW)
  have HL := Lib.hid hL
  clear h hL
  go_enter Tryd.func13, Tryd.ntmps13
  go_wp2_with fail
  refine (HC.out _ HL.out).mono ?_
  rintro e w1 ⟨rfl, hb1⟩
  go_wp2
  go_ret
  exact ⟨rfl, hb1⟩
set_option maxRecDepth 100000 in
set_option maxHeartbeats 4000000 in
/-- styluslaw06.awake -/
theorem awake6 (C : CLands) (w : World) (hL : Ka.Laid w) : Calls Tryd.prog 6 #[] w fun e w' => e = .returned (.bool true) ∧ Below w.heap.size w w' := by
  have hlx : canonA { data := #[120] } = (emptyS, 0, 2) := by decide +kernel
  have HX := Lib.hid (fun W hW => C.of_at { data := #[120] } (by decide) emptyS 0 2 (by rw [hlx]) (by rw [hlx]; rfl) (by rw [hlx]; rfl) W hW)
  have hL0 := hL
  clear hlx
  go_enter Tryd.func6, Tryd.ntmps6
  go_wp2_with fail
  refine (HX.out _ hL0).mono ?_
  rintro e w1 ⟨rfl, hb1⟩
  have hL1 := hL.below hb1 hL.1
  go_wp2_with fail
  refine (is6_at C { data := #[123, 112, 32, 32, 97, 123, 101, 32, 98, 125, 32, 125] } { data := #[123, 112, 32, 97, 123, 101, 32, 98, 125, 125, 10] } (by decide) (by decide +kernel) _ hL1).mono ?_
  rintro e w2 ⟨rfl, hb2⟩
  have HB2 := Ba.chain hb1 hb1.size hb2
  have hL2 := hL.below HB2 hL.1
  clear hb1 hb2 hL1
  go_wp2_with fail
  refine (is6_at C { data := #[123, 107, 125, 123, 108, 123, 105, 125, 123, 105, 32, 120, 125, 125] } { data := #[123, 107, 32, 125, 10, 123, 108, 32, 123, 105, 32, 125, 123, 105, 32, 120, 125, 125, 10] } (by decide) (by decide +kernel) _ hL2).mono ?_
  rintro e w3 ⟨rfl, hb3⟩
  have HB3 := Ba.chain HB2 HB2.size hb3
  have hL3 := hL.below HB3 hL.1
  clear hb3 HB2 hL2
  go_wp2_with fail
  refine (is6_at C { data := #[] } { data := #[] } (by decide) (by decide +kernel) _ hL3).mono ?_
  rintro e w4 ⟨rfl, hb4⟩
  have HB4 := Ba.chain HB3 HB3.size hb4
  clear hb4 HB3 hL3
  go_wp2
  go_ret
  exact ⟨rfl, HB4⟩
end Go.Proofs.YtmldpkigfhoalaaDoor.Cn
namespace Go.Proofs.YtmldpkigfhoalaaDoor.Cn
open Go.RowKit Tr Nu Nl

theorem back_fit {t : List Nd} (h : writeE t = 0) {b : List Nd} (hb : (parseA (writeS t)).1 = b) (ht : t.length ≤ 9000) : b.length ≤ 9000 ∧ Fit b ∧ ∀ x ∈ b, x.text.size ≤ 9000 := by
  obtain ⟨h1, h2⟩ := writeE_ok h
  have hs : writeS t = canV t := by unfold writeS; rw [if_pos h]
  have hf := parse_fit (writeS t) (by rw [hs]; exact Nat.le_trans h2 (by decide))
  have hbare := (back_of h).2.1
  subst hb
  refine ⟨by have := congrArg List.length hbare; rw [List.length_map, List.length_map] at this; omega, hf.1, fun x hx2 => ?_⟩
  have := hf.2 x hx2
  rw [hs] at this; omega
set_option maxRecDepth 100000 in
set_option maxHeartbeats 8000000 in
/-- styluslaw06.CanonBack -/
theorem back_row (Ld : Lands) (C : CLands) (t u : List Nd) (A A' : Option Addr) (off off' c c' : Nat) (w : World) (hL : Ka.Laid w) (hcl : t.length ≤ c) (hcm : c ≤ maxLen) (hcl' : u.length ≤ c') (hcm' : c' ≤ maxLen) (ft : Fit t) (fu : Fit u)
    (ht : ReadsN off w w.heap.size (.slice A t.length c) t) (hu : ReadsN off' w w.heap.size (.slice A' u.length c') u) :
    Calls Tryd.prog 3 #[.slice A t.length c, .slice A' u.length c'] w fun e w' => e = .returned (.bool true) ∧ Below w.heap.size w w' := by
  have HT := Lib.hid ht
  have HU := Lib.hid hu
  have HL := Lib.hid hL
  have hLN := hL.1
  have htm : t.length ≤ maxLen := Nat.le_trans hcl hcm
  have hum : u.length ≤ maxLen := Nat.le_trans hcl' hcm'
  have HFT := Lib.hid ft
  have HFU := Lib.hid fu
  have HCT := Lib.hid (caps_of (A := A) hcl hcm)
  have HCU := Lib.hid (caps_of (A := A') hcl' hcm')
  clear ht hu hL ft fu hcl hcm hcl' hcm'
  go_enter Tryd.func3, Tryd.ntmps3
  by_cases z1 : vastV t = true
  · have Z1 := Lib.hid z1
    clear z1
    go_wp2_with fail
    refine (vast6_at _ off t htm _ _ HT.out true Z1.out).mono ?_
    rintro e w' ⟨rfl, rfl⟩
    go_wp2_with fail
    refine (awake6 C _ HL.out).mono ?_
    rintro e w' ⟨rfl, hb⟩
    go_wp2
    go_ret
    exact ⟨rfl, hb⟩
  have z1 : vastV t = false := by simpa using z1
  have Z1 := Lib.hid z1
  obtain ⟨t1, t2⟩ := not_vast z1
  clear z1
  by_cases z2 : vastV u = true
  · have Z2 := Lib.hid z2
    clear z2 t1 t2
    go_wp2_with fail
    refine (vast6_at _ off t htm _ _ HT.out false Z1.out).mono ?_
    rintro e w' ⟨rfl, rfl⟩
    go_wp2_with fail
    refine (vast6_at _ off' u hum _ _ HU.out true Z2.out).mono ?_
    rintro e w' ⟨rfl, rfl⟩
    go_wp2_with fail
    refine (awake6 C _ HL.out).mono ?_
    rintro e w' ⟨rfl, hb⟩
    go_wp2
    go_ret
    exact ⟨rfl, hb⟩
  have z2 : vastV u = false := by simpa using z2
  have Z2 := Lib.hid z2
  obtain ⟨u1, u2⟩ := not_vast z2
  clear z2
  have HT9 := Lib.hid (show ∀ x ∈ t, x.text.size ≤ 9000 from fun x hx => by have := t2 x hx; omega)
  have HU9 := Lib.hid (show ∀ x ∈ u, x.text.size ≤ 9000 from fun x hx => by have := u2 x hx; omega)
  have HTL := Lib.hid (show t.length ≤ 9000 by omega)
  have HUL := Lib.hid (show u.length ≤ 9000 by omega)
  obtain ⟨a, ha⟩ : ∃ a, writeS t = a := ⟨_, rfl⟩
  obtain ⟨b, hb⟩ : ∃ b, writeS u = b := ⟨_, rfl⟩
  obtain ⟨z, hz⟩ : ∃ z : Int, ((writeE t : Nat) : Int) = z := ⟨_, rfl⟩
  obtain ⟨y, hy⟩ : ∃ y : Int, ((writeE u : Nat) : Int) = y := ⟨_, rfl⟩
  have HA := Lib.hid ha
  have HB := Lib.hid hb
  have HZ := Lib.hid hz
  have HY := Lib.hid hy
  clear ha hb hz hy t2 u2 t1 u1
  go_wp2_with fail
  refine (vast6_at _ off t htm _ _ HT.out false Z1.out).mono ?_
  rintro e w' ⟨rfl, rfl⟩
  go_wp2_with fail
  refine (vast6_at _ off' u hum _ _ HU.out false Z2.out).mono ?_
  rintro e w' ⟨rfl, rfl⟩
  go_wp2_with fail
  refine (C.write_at _ t off HTL.out HFT.out HT9.out HCT.out a z HA.out HZ.out _ HL.out HT.out).mono ?_
  rintro e w3 ⟨rfl, hb3⟩
  have HB3 := Lib.hid hb3
  have HT3 := Lib.hid ((HT.out.below hb3).mono hb3.size)
  have HU3 := Lib.hid ((HU.out.below hb3).mono hb3.size)
  have HL3 := Lib.hid (HL.out.below hb3 hLN)
  clear hb3
  go_wp2_with fail
  refine (C.write_at _ u off' HUL.out HFU.out HU9.out HCU.out b y HB.out HY.out _ HL3.out HU3.out).mono ?_
  rintro e w4 ⟨rfl, hb4⟩
  have HB4 := Lib.hid (Ba.chain HB3.out HB3.out.size hb4)
  have HT4 := Lib.hid ((HT3.out.below hb4).mono hb4.size)
  have HU4 := Lib.hid ((HU3.out.below hb4).mono hb4.size)
  have HL4 := Lib.hid (HL.out.below HB4.out hLN)
  clear hb4
  by_cases hz0 : z = 0
  · subst hz0
    have hwt : writeE t = 0 := by have := HZ.out; omega
    obtain ⟨bk, hbk⟩ : ∃ bk, (parseA a).1 = bk := ⟨_, rfl⟩
    obtain ⟨q1, q2, q3⟩ := back_fit (b := bk) hwt (by rw [HA.out, hbk]) HTL.out
    obtain ⟨s1, s2⟩ := back_same hwt
    have s3 := (back_of hwt).2.2
    have has : a.size ≤ 8192 := by rw [← HA.out]; unfold writeS; rw [if_pos hwt]; exact (writeE_ok hwt).2
    rw [HA.out] at s1 s2 s3
    rw [hbk] at s1 s2
    have HBK := Lib.hid hbk
    have HQ := Lib.hid (⟨q1, q2, q3⟩ : bk.length ≤ 9000 ∧ Fit bk ∧ ∀ x ∈ bk, x.text.size ≤ 9000)
    have HS1 := Lib.hid s1
    have HS2 := Lib.hid s2
    have HP := Lib.hid (fun W hW => Ld.at a (Nat.le_trans has (by decide)) bk 0 0 hbk (by rw [s3]; rfl) (by rw [s3]; rfl) W hW)
    have HWT := Lib.hid hwt
    clear hbk q1 q2 q3 s1 s2 s3 hwt
    go_wp2_with fail
    refine (HP.out _ HL4.out).mono ?_
    rintro e w5 ⟨v5, rfl, hr5, hb5⟩
    have HR5 := Lib.hid hr5
    have HB5 := Lib.hid (Ba.chain HB4.out HB4.out.size hb5)
    have HT5 := Lib.hid ((HT4.out.below hb5).mono hb5.size)
    have HU5 := Lib.hid ((HU4.out.below hb5).mono hb5.size)
    have HL5 := Lib.hid (HL.out.below HB5.out hLN)
    clear hr5 hb5
    go_wp2_with fail
    refine (Ld.same bk t 0 off _ _ HQ.out.1 HTL.out HQ.out.2.1 HFT.out _ HR5.out HT5.out).mono ?_
    rw [HS1.out]
    rintro e w6 ⟨rfl, hb6⟩
    have HR6 := Lib.hid ((HR5.out.below hb6).mono hb6.size)
    have HB6 := Lib.hid (Ba.chain HB5.out HB5.out.size hb6)
    have HT6 := Lib.hid ((HT5.out.below hb6).mono hb6.size)
    have HU6 := Lib.hid ((HU5.out.below hb6).mono hb6.size)
    have HL6 := Lib.hid (HL.out.below HB6.out hLN)
    clear hb6
    go_wp2_with fail
    refine (lis_any Ld _ bk 0 HQ.out.1 HQ.out.2.1 HQ.out.2.2 true HS2.out _ HL6.out HR6.out).mono ?_
    rintro e w7 ⟨rfl, hb7⟩
    have HB7 := Lib.hid (Ba.chain HB6.out HB6.out.size hb7)
    have HT7 := Lib.hid ((HT6.out.below hb7).mono hb7.size)
    have HU7 := Lib.hid ((HU6.out.below hb7).mono hb7.size)
    have HL7 := Lib.hid (HL.out.below HB7.out hLN)
    clear hb7
    by_cases hy0 : y = 0
    · subst hy0
      have hwu : writeE u = 0 := by have := HY.out; omega
      have heq := write_eq HWT.out hwu
      rw [HA.out, HB.out] at heq
      clear hwu
      by_cases hab : a = b
      · have HSM := Lib.hid (heq.1 hab)
        subst hab
        clear heq
        go_wp2_with fail
        refine (Ld.same t u off off' _ _ HTL.out HUL.out HFT.out HFU.out _ HT7.out HU7.out).mono ?_
        rw [HSM.out]
        rintro e w8 ⟨rfl, hb8⟩
        have HB8 := Lib.hid (Ba.chain HB7.out HB7.out.size hb8)
        have HL8 := Lib.hid (HL.out.below HB8.out hLN)
        clear hb8
        go_wp2_with fail
        refine (awake6 C _ HL8.out).mono ?_
        rintro e w9 ⟨rfl, hb9⟩
        have HB9 := Lib.hid (Ba.chain HB8.out HB8.out.size hb9)
        clear hb9
        go_wp2
        go_ret
        exact ⟨rfl, HB9.out⟩
      · have hsm : sameV t u = false := by
          cases e : sameV t u with
          | false => rfl
          | true => exact absurd (heq.2 e) hab
        have HSM := Lib.hid hsm
        have hne := Lx.toList_ne hab
        clear heq hsm hab
        go_wp2_with fail
        refine (Ld.same t u off off' _ _ HTL.out HUL.out HFT.out HFU.out _ HT7.out HU7.out).mono ?_
        rw [HSM.out]
        rintro e w8 ⟨rfl, hb8⟩
        have HB8 := Lib.hid (Ba.chain HB7.out HB7.out.size hb8)
        have HL8 := Lib.hid (HL.out.below HB8.out hLN)
        clear hb8
        go_wp2_with fail
        refine (awake6 C _ HL8.out).mono ?_
        rintro e w9 ⟨rfl, hb9⟩
        have HB9 := Lib.hid (Ba.chain HB8.out HB8.out.size hb9)
        clear hb9
        go_wp2
        go_ret
        exact ⟨rfl, HB9.out⟩
    · have hyt : (y != 0) = true := by simp [hy0]
      have hyf : (y == 0) = false := by simp [hy0]
      clear hy0
      go_wp2_with fail
      refine (awake6 C _ HL7.out).mono ?_
      rintro e w9 ⟨rfl, hb9⟩
      have HB9 := Lib.hid (Ba.chain HB7.out HB7.out.size hb9)
      clear hb9
      go_wp2
      go_ret
      exact ⟨rfl, HB9.out⟩
  · have hw0 : writeE t ≠ 0 := fun e => hz0 (by have := HZ.out; omega)
    obtain rfl : a = { data := #[] } := by rw [← HA.out]; unfold writeS; rw [if_neg hw0]; rfl
    by_cases hz4 : z = 4
    · subst hz4
      clear hz0 hw0
      go_wp2_with fail
      refine (awake6 C _ HL4.out).mono ?_
      rintro e w9 ⟨rfl, hb9⟩
      have HB9 := Lib.hid (Ba.chain HB4.out HB4.out.size hb9)
      clear hb9
      go_wp2
      go_ret
      exact ⟨rfl, HB9.out⟩
    · have HIS := Lib.hid (writeE_no hw0 (fun e => hz4 (by have := HZ.out; omega)))
      have hzt : (z != 0) = true := by simp [hz0]
      have hz4f : (z == 4) = false := by simp [hz4]
      clear hz0 hz4 hw0
      go_wp2_with fail
      refine (lis_any Ld _ t off HTL.out HFT.out HT9.out false HIS.out _ HL4.out HT4.out).mono ?_
      rintro e w5 ⟨rfl, hb5⟩
      have HB5 := Lib.hid (Ba.chain HB4.out HB4.out.size hb5)
      have HL5 := Lib.hid (HL.out.below HB5.out hLN)
      clear hb5
      go_wp2_with fail
      refine (awake6 C _ HL5.out).mono ?_
      rintro e w9 ⟨rfl, hb9⟩
      have HB9 := Lib.hid (Ba.chain HB5.out HB5.out.size hb9)
      clear hb9
      go_wp2
      go_ret
      exact ⟨rfl, HB9.out⟩
end Go.Proofs.YtmldpkigfhoalaaDoor.Cn
namespace Go.Proofs.YtmldpkigfhoalaaDoor.Cn
open Go.RowKit Tr Nu Nl

theorem parse_few {s : ByteArray} (h : (parseA s).2.2 = 0) : (parseA s).1.length ≤ 2000 := by
  have hP := parsed_of h
  rw [parseA_ok hP]
  exact (parse_may s hP.1 hP.2.1 hP.2.2).2.1
theorem canonA_size {s : ByteArray} (h : (canonA s).2.2 = 0) : (canonA s).1.size ≤ 8192 := by
  have hp := (once_of h).1
  obtain ⟨h1, -⟩ := canonA_e hp
  rw [h1] at h ⊢
  have hw : writeE (normV (parseA s).1) = 0 := h
  show (writeS (normV (parseA s).1)).size ≤ 8192
  unfold writeS
  rw [if_pos hw]; exact (writeE_ok hw).2
theorem canonA_bad {s : ByteArray} (h : (canonA s).2.2 ≠ 0) : (canonA s).1 = emptyS ∧ (((parseA s).2.2 ≠ 0 ∧ (canonA s).2 = (parseA s).2) ∨ ((parseA s).2 = (0, 0) ∧ (canonA s).2 = (0, 4))) := by
  by_cases hp : (parseA s).2.2 = 0
  · obtain ⟨h1, h2⟩ := canonA_e hp
    rw [h1] at h ⊢
    have hw : writeE (normV (parseA s).1) ≠ 0 := h
    have hi := writeE_is h2
    refine ⟨by show writeS _ = _; unfold writeS; rw [if_neg hw], .inr ⟨?_, ?_⟩⟩
    · rw [parseA_ok (parsed_of hp)]
    · show (0, writeE _) = (0, 4)
      rw [hi] at hw ⊢
      split at hw
      · rename_i hc; rw [if_pos hc]
      · exact absurd rfl hw
  · unfold canonA
    rw [if_pos hp]
    exact ⟨rfl, .inl ⟨hp, rfl⟩⟩
set_option maxRecDepth 100000 in
set_option maxHeartbeats 8000000 in
/-- styluslaw06.CanonOnce -/
theorem once_row (Ld : Lands) (C : CLands) (s : ByteArray) (hs : s.size ≤ maxLen) (w : World) (hL : Ka.Laid w) :
    Calls Tryd.prog 4 #[.string s] w fun e w' => e = .returned (.bool true) ∧ Below w.heap.size w w' := by
  have HL := Lib.hid hL
  have hLN := hL.1
  have HS := Lib.hid hs
  clear hL
  go_enter Tryd.func4, Tryd.ntmps4
  by_cases hlong : 2000 < s.size
  · clear hs
    go_wp2_with fail
    refine (awake6 C _ HL.out).mono ?_
    rintro e w' ⟨rfl, hb⟩
    go_wp2
    go_ret
    exact ⟨rfl, hb⟩
  clear hs
  obtain ⟨a, ha⟩ : ∃ a, (canonA s).1 = a := ⟨_, rfl⟩
  obtain ⟨p, hp⟩ : ∃ p : Int, (((canonA s).2.1 : Nat) : Int) = p := ⟨_, rfl⟩
  obtain ⟨z, hz⟩ : ∃ z : Int, (((canonA s).2.2 : Nat) : Int) = z := ⟨_, rfl⟩
  have HA := Lib.hid ha
  have HP := Lib.hid hp
  have HZ := Lib.hid hz
  clear ha hp hz
  by_cases hz0 : z = 0
  · subst hz0
    have hc0 : (canonA s).2.2 = 0 := by have := HZ.out; omega
    obtain ⟨o1, o2, o3, o4⟩ := once_of hc0
    have oz := canonA_size hc0
    rw [HA.out] at o2 o3 o4 oz
    have hp0 : p = 0 := by
      have := HP.out
      rw [(canonA_e o1).1] at this
      exact this.symm
    subst hp0
    obtain ⟨t, ht⟩ : ∃ t, (parseA s).1 = t := ⟨_, rfl⟩
    obtain ⟨q, hq⟩ : ∃ q, (parseA a).1 = q := ⟨_, rfl⟩
    have tl := parse_few o1
    have tc := parse_check o1
    have tf := parse_fit s HS.out
    have ql := parse_few (show (parseA a).2.2 = 0 by rw [o3])
    have qf := parse_fit a (Nat.le_trans oz (by decide))
    rw [ht] at tl tc tf o4
    rw [hq] at ql qf o4
    have t9 : ∀ x ∈ t, x.text.size ≤ 9000 := fun x hx => by have := tf.2 x hx; omega
    have nl := norm_len tc
    have nf := fit_norm (by omega) tf.1 t9 tc
    have s3 : (parseA s).2 = (0, 0) := by rw [parseA_ok (parsed_of o1)]
    have HTT := Lib.hid (fun W hW => Ld.at s HS.out t 0 0 ht (by rw [s3]; rfl) (by rw [s3]; rfl) W hW)
    have HQQ := Lib.hid (fun W hW => Ld.at a (Nat.le_trans oz (by decide)) q 0 0 hq (by rw [o3]; rfl) (by rw [o3]; rfl) W hW)
    have HCA := Lib.hid (fun W hW => C.of_at a (Nat.le_trans oz (by decide)) a 0 0 (by rw [o2]) (by rw [o2]; rfl) (by rw [o2]; rfl) W hW)
    have HOF := Lib.hid (fun v W hW hv => lof_any Ld v t 0 (by omega) tf.1 t9 0 (by rw [tc]; rfl) W hW hv)
    have HON := Lib.hid (show ofV t = normV t by unfold ofV; rw [if_pos tc])
    have HSM := Lib.hid (fun W (v v' : Value) h1 h2 => Ld.same (normV t) q 0 0 v v' (by omega) (by omega) nf qf.1 W h1 h2)
    have HEQ := Lib.hid o4
    clear hc0 o1 o2 o3 o4 oz ht hq tl tc tf ql qf t9 nl nf s3
    go_wp2_with fail
    refine (C.of_at s HS.out a 0 0 HA.out HP.out HZ.out _ HL.out).mono ?_
    rintro e w1 ⟨rfl, hb1⟩
    have HB1 := Lib.hid hb1
    have HL1 := Lib.hid (HL.out.below hb1 hLN)
    clear hb1
    go_wp2_with fail
    refine (HCA.out _ HL1.out).mono ?_
    rintro e w2 ⟨rfl, hb2⟩
    have HB2 := Lib.hid (Ba.chain HB1.out HB1.out.size hb2)
    have HL2 := Lib.hid (HL.out.below HB2.out hLN)
    clear hb2
    go_wp2_with fail
    refine (HTT.out _ HL2.out).mono ?_
    rintro e w3 ⟨v3, rfl, hr3, hb3⟩
    have HR3 := Lib.hid hr3
    have HB3 := Lib.hid (Ba.chain HB2.out HB2.out.size hb3)
    have HL3 := Lib.hid (HL.out.below HB3.out hLN)
    clear hr3 hb3
    go_wp2_with fail
    refine (HOF.out _ _ HL3.out HR3.out).mono ?_
    rw [HON.out]
    rintro e w4 ⟨v4, rfl, hown, hb4⟩
    have HR4 := Lib.hid (Ba.Reads.of_own cN_len rfl hown)
    have HB4 := Lib.hid (Ba.chain HB3.out HB3.out.size hb4)
    have HL4 := Lib.hid (HL.out.below HB4.out hLN)
    clear hown hb4
    go_wp2_with fail
    refine (HQQ.out _ HL4.out).mono ?_
    rintro e w5 ⟨v5, rfl, hr5, hb5⟩
    have HR5 := Lib.hid hr5
    have HN5 := Lib.hid ((HR4.out.below hb5).mono hb5.size)
    have HB5 := Lib.hid (Ba.chain HB4.out HB4.out.size hb5)
    have HL5 := Lib.hid (HL.out.below HB5.out hLN)
    clear hr5 hb5
    go_wp2_with fail
    refine (HSM.out _ _ _ HN5.out HR5.out).mono ?_
    rw [HEQ.out]
    rintro e w6 ⟨rfl, hb6⟩
    have HB6 := Lib.hid (Ba.chain HB5.out HB5.out.size hb6)
    have HL6 := Lib.hid (HL.out.below HB6.out hLN)
    clear hb6
    go_wp2_with fail
    refine (awake6 C _ HL6.out).mono ?_
    rintro e w7 ⟨rfl, hb7⟩
    have HB7 := Lib.hid (Ba.chain HB6.out HB6.out.size hb7)
    clear hb7
    go_wp2
    go_ret
    exact ⟨rfl, HB7.out⟩
  · have hc0 : (canonA s).2.2 ≠ 0 := fun e => hz0 (by have := HZ.out; omega)
    obtain ⟨b1, b2⟩ := canonA_bad hc0
    obtain rfl : a = { data := #[] } := HA.out.symm.trans b1
    rcases b2 with ⟨c1, c2⟩ | ⟨c1, c2⟩
    · have HPP := Lib.hid (fun W hW => Ld.at s HS.out _ p z rfl (by rw [← c2]; exact HP.out) (by rw [← c2]; exact HZ.out) W hW)
      have hzt : (z != 0) = true := by simp [hz0]
      have hzf : (z == 0) = false := by simp [hz0]
      clear hc0 b1 c1 c2 hz0
      go_wp2_with fail
      refine (C.of_at s HS.out _ p z HA.out HP.out HZ.out _ HL.out).mono ?_
      rintro e w1 ⟨rfl, hb1⟩
      have HB1 := Lib.hid hb1
      have HL1 := Lib.hid (HL.out.below hb1 hLN)
      clear hb1
      go_wp2_with fail
      refine (HPP.out _ HL1.out).mono ?_
      rintro e w2 ⟨v2, rfl, -, hb2⟩
      have HB2 := Lib.hid (Ba.chain HB1.out HB1.out.size hb2)
      have HL2 := Lib.hid (HL.out.below HB2.out hLN)
      clear hb2
      go_wp2_with fail
      refine (awake6 C _ HL2.out).mono ?_
      rintro e w3 ⟨rfl, hb3⟩
      have HB3 := Lib.hid (Ba.chain HB2.out HB2.out.size hb3)
      clear hb3
      go_wp2
      go_ret
      exact ⟨rfl, HB3.out⟩
    · obtain rfl : p = 0 := by have := HP.out; rw [c2] at this; exact this.symm
      obtain rfl : z = 4 := by have := HZ.out; rw [c2] at this; exact this.symm
      have HPP := Lib.hid (fun W hW => Ld.at s HS.out _ 0 0 rfl (by rw [c1]; rfl) (by rw [c1]; rfl) W hW)
      clear hc0 b1 c1 c2 hz0
      go_wp2_with fail
      refine (C.of_at s HS.out _ 0 4 HA.out HP.out HZ.out _ HL.out).mono ?_
      rintro e w1 ⟨rfl, hb1⟩
      have HB1 := Lib.hid hb1
      have HL1 := Lib.hid (HL.out.below hb1 hLN)
      clear hb1
      go_wp2_with fail
      refine (HPP.out _ HL1.out).mono ?_
      rintro e w2 ⟨v2, rfl, -, hb2⟩
      have HB2 := Lib.hid (Ba.chain HB1.out HB1.out.size hb2)
      have HL2 := Lib.hid (HL.out.below HB2.out hLN)
      clear hb2
      go_wp2_with fail
      refine (awake6 C _ HL2.out).mono ?_
      rintro e w3 ⟨rfl, hb3⟩
      have HB3 := Lib.hid (Ba.chain HB2.out HB2.out.size hb3)
      clear hb3
      go_wp2
      go_ret
      exact ⟨rfl, HB3.out⟩
end Go.Proofs.YtmldpkigfhoalaaDoor.Cn
