/-
  PartTaken, whatever it is called with.
-/
import Derived.Test.YtalehelgemmmeaaGreatDoorPaE
namespace Go.Proofs.YtalehelgemmmeaaGreatDoor.Pa
open Go.RowKit Ba Ru Ck Ti

theorem taken_ext {S : ByteArray} {q : Nat} {L : List Nat} {X : ByteArray} (hX : bytesOf L = X) (h : ((bytesN S).drop q).take L.length = L) : S.extract q (q + X.size) = X := by
  rw [← bytesOf_bytesN (S.extract q (q + X.size)), bytesN_ext, show q + X.size - q = L.length by rw [← hX, bytesOf_size]; omega, h, hX]
set_option maxRecDepth 100000 in
set_option maxHeartbeats 16000000 in
/-- styluslaw11.PartTaken -/
theorem taken_row (T : TLands) (P : PLands T) (l : List Rl) (A : Option Addr) (off c : Nat) (S : ByteArray) (p : Int) (_hSm : S.size ≤ maxLen) (hp : I64 p) (w : World) (hL : Laid9 w) (hcl : l.length ≤ c) (hcm : c ≤ maxLen) (hf : ∀ x ∈ l, FitR x) (hl : ReadsR off w w.heap.size (.slice A l.length c) l) :
    Calls Tryz.prog 3 #[.slice A l.length c, .string S, .int .i64 p] w fun e w' => e = .returned (.bool true) ∧ Below w.heap.size w w' := by
  have HL := Lib.hid hL
  have HV := Lib.hid hl
  have hlm : l.length ≤ maxLen := Nat.le_trans hcl hcm
  have HF := Lib.hid hf
  have HP := Lib.hid hp
  have HCAP := Lib.hid (show CapsR (.slice A l.length c) from fun A' n' c' e => by
    injection e with _ e1 e2
    subst e1; subst e2
    exact ⟨hcl, hcm⟩)
  clear hL hl hf hcm hcl hp
  obtain ⟨nl, hnl⟩ : ∃ nl, l.length = nl := ⟨_, rfl⟩
  rw [hnl] at HV HCAP hlm ⊢
  have HNL := Lib.hid hnl
  clear hnl
  obtain ⟨lb, hlb⟩ : ∃ lb, long9 l = lb := ⟨_, rfl⟩
  have HLB := Lib.hid hlb
  clear hlb
  have HAW := Lib.hid (fun (W : World) hW => awake11 T P W hW)
  go_enter Tryz.func3, Tryz.ntmps3
  cases lb
  case true =>
    go_wp2_with fail
    refine (long11_at _ l off (by rw [HNL.out]; exact hlm) _ _ HV.out true HLB.out).mono ?_
    rintro e w' ⟨rfl, rfl⟩
    go_wp2_with fail
    refine (HAW.out _ HL.out).mono ?_
    rintro e w' ⟨rfl, hb⟩
    go_wp2
    go_ret
    exact ⟨rfl, hb⟩
  case false =>
  obtain ⟨hl5, hl50⟩ := not_long9 HLB.out
  rw [HNL.out] at hl5
  have HFX := Lib.hid (show FitL l from fun x hx => ⟨HF.out x hx, by have := (hl50 x hx).1; omega, by have := (hl50 x hx).2; omega⟩)
  have HF50 := Lib.hid (show ∀ x ∈ l, x.left.length ≤ 50 ∧ x.cells.length ≤ 50 from hl50)
  clear hl50
  go_wp2_with fail
  refine (long11_at _ l off (by rw [HNL.out]; exact hlm) _ _ HV.out false HLB.out).mono ?_
  rintro e w' ⟨rfl, rfl⟩
  by_cases hb : 60 < S.size
  · have tb : decide (60 < (S.size : Int)) = true := decide_eq_true (by omega)
    go_wp2_with fail
    refine (HAW.out _ HL.out).mono ?_
    rintro e w' ⟨rfl, hb⟩
    go_wp2
    go_ret
    exact ⟨rfl, hb⟩
  have tb : decide (60 < S.size) = false := decide_eq_false hb
  have tb2 : decide (60 < (S.size : Int)) = false := decide_eq_false (by omega)
  go_wp2_with fail
  refine (T.new _ l off (by rw [HNL.out]; omega) HFX.out HCAP.out _ HL.out HV.out).mono ?_
  rintro e w1 ⟨hb1, h1⟩
  obtain ⟨z, y, hr⟩ : ∃ z y, tableR prC l = (z, y) := ⟨_, _, rfl⟩
  have HR := Lib.hid hr
  rw [hr] at h1
  have HB1 := Lib.hid hb1
  clear hb1 hr
  rcases h1 with ⟨hy, t, rfl, his⟩ | ⟨hy, rfl⟩
  rotate_left
  · have y1 : ((y : Int) == 0) = false := beq_eq_false_iff_ne.2 (by have : y ≠ 0 := hy; omega)
    have y3 : ((y : Int) != 0) = true := bne_iff_ne.2 (by have : y ≠ 0 := hy; omega)
    clear hy
    go_wp2_with fail
    refine (HAW.out _ (HL.out.kept HB1.out)).mono ?_
    rintro e w9 ⟨rfl, hb9⟩
    have HE := Lib.hid (chain HB1.out HB1.out.size hb9)
    clear hb9
    go_wp2
    go_ret
    exact ⟨rfl, HE.out⟩
  have hy : y = 0 := hy
  subst hy
  have HACC := Lib.hid ((table_acc l).1 (by rw [HR.out]))
  obtain ⟨⟨a, rfl⟩, -⟩ := T.ptr his
  have hlen : l.length ≤ 1000 := by rw [HNL.out]; omega
  have HL1 := Lib.hid (HL.out.kept HB1.out)
  have HV1 := Lib.hid ((HV.out.below HB1.out).mono HB1.out.size)
  have hS60 : S.size ≤ 60 := by omega
  have HALL := Lib.hid (show ∀ (q : Int) (ks : List Nat), I64 q → allN l (bytesN S) q = ks → ∀ W : World, Below w1.heap.size w1 W → Calls Tryz.prog 8 #[.pointer (some a), .string S, .int .i64 q] W fun e w' => ∃ v, e = .returned v ∧ w'.ownsRow W.heap.size 3 1 v ks.length (iV ks) ∧ Below W.heap.size W w' from fun q ks hq hk W hW =>
    hk ▸ P.all S q (by omega) hq hlen HACC.out HFX.out W (HL1.out.kept hW) (T.keep his (Kept.of_below hW (Nat.le_refl _))))
  have HBE := Lib.hid (show ∀ (q : Int) (k : Nat), I64 q → bestN l (bytesN S) q S.size = some k → ∀ W : World, Below w1.heap.size w1 W → Calls Tryz.prog 10 #[.pointer (some a), .string S, .int .i64 q, .int .i64 S.size] W fun e w' => e = .returned (.tuple #[.int .i64 (k : Int), .bool true]) ∧ Below W.heap.size W w' from fun q k hq hk W hW => by
    have h := P.best S q S.size (by omega) hq (by unfold I64; omega) hlen HACC.out HFX.out W (HL1.out.kept hW) (T.keep his (Kept.of_below hW (Nat.le_refl _)))
    rw [hk] at h
    exact h)
  have HCS := Lib.hid (show ∀ W : World, Below w1.heap.size w1 W → Calls Tryz.prog 9 #[.string S] W fun e w' => e = .returned (.int .i64 (Hc.caseI S)) ∧ Below W.heap.size W w' from fun W hW =>
    Hc.case_any S (by omega) W (hc_laid (HL1.out.kept hW).1))
  clear his hlen
  obtain ⟨ci, hci⟩ : ∃ ci, Hc.caseI S = ci := ⟨_, rfl⟩
  rw [hci] at HCS
  have HCI := Lib.hid (show ci = 1 ↔ runB (bytesN S) = true from by rw [← hci]; exact case_run S)
  have hslen := bytesN_len S
  clear hci
  obtain ⟨M, hM⟩ : ∃ M, allN l (bytesN S) p = M := ⟨_, rfl⟩
  have HM := Lib.hid hM
  have hml : M.length ≤ 60 := by rw [← hM]; exact Nat.le_trans (allN_len ..) (by rw [hslen]; exact hS60)
  have HSTART := Lib.hid (HALL.out p M HP.out hM w1 (Below.refl _ _))
  have HSL := Lib.hid hslen
  clear hM hslen
  obtain ⟨n, hn⟩ : ∃ n, M.length = n := ⟨_, rfl⟩
  rw [hn] at HSTART hml
  have HN := Lib.hid hn
  clear hn
  go_wp2_with fail
  refine HSTART.out.mono ?_
  rintro e w2 ⟨v, rfl, hown, hb2⟩
  have HB2 := Lib.hid hb2
  have HOWN := Lib.hid hown
  have HRM := Lib.hid (readsI_own HN.out hown)
  obtain ⟨A8, c8, rfl, hc8, hc8m, hA8⟩ := own_formR hown
  have HA8 := Lib.hid hA8
  clear hb2 hown hA8
  go_wp2_with fail
  refine (HCS.out _ HB2.out).mono ?_
  rintro e w3 ⟨rfl, hb3⟩
  have HB3 := Lib.hid (chain HB2.out HB2.out.size hb3)
  have HB23 := Lib.hid (chain (Below.refl w2.heap.size w2) (Nat.le_refl _) hb3)
  clear hb3
  by_cases hin : ci = 1 ∧ 0 ≤ p ∧ p < S.size
  rotate_left
  · have hnone : n = 0 := by
      rw [← HN.out, ← HM.out, all_end fun h => hin ⟨HCI.out.2 h.1, h.2.1, ?_⟩]
      · rfl
      · have := h.2.2
        rw [HSL.out] at this
        exact this
    subst hnone
    have HAWW := Lib.hid (HAW.out _ (HL1.out.kept HB3.out))
    by_cases f1 : ci = 1
    rotate_left
    · have e1 : (ci == 1) = false := beq_eq_false_iff_ne.2 f1
      go_wp2_with fail
      refine HAWW.out.mono ?_
      rintro e w4 ⟨rfl, hb4⟩
      have HE := Lib.hid (chain HB1.out HB1.out.size (chain HB3.out HB3.out.size hb4))
      clear hb4
      go_wp2
      go_ret
      exact ⟨rfl, HE.out⟩
    subst f1
    by_cases f2 : p < 0
    · have e2 : decide (p < 0) = true := decide_eq_true f2
      go_wp2_with fail
      refine HAWW.out.mono ?_
      rintro e w4 ⟨rfl, hb4⟩
      have HE := Lib.hid (chain HB1.out HB1.out.size (chain HB3.out HB3.out.size hb4))
      clear hb4
      go_wp2
      go_ret
      exact ⟨rfl, HE.out⟩
    have e2 : decide (p < 0) = false := decide_eq_false f2
    have e3 : decide ((S.size : Int) ≤ p) = true := decide_eq_true (by omega)
    go_wp2_with fail
    refine HAWW.out.mono ?_
    rintro e w4 ⟨rfl, hb4⟩
    have HE := Lib.hid (chain HB1.out HB1.out.size (chain HB3.out HB3.out.size hb4))
    clear hb4
    go_wp2
    go_ret
    exact ⟨rfl, HE.out⟩
  obtain ⟨rfl, hp0, hpS⟩ := hin
  obtain ⟨pn, rfl⟩ : ∃ n : Nat, p = (n : Int) := ⟨p.toNat, by omega⟩
  have hrun := HCI.out.1 rfl
  have HRUN := Lib.hid hrun
  clear hrun
  have d4 : decide ((pn : Int) < 0) = false := decide_eq_false (by omega)
  have d5 : decide ((S.size : Int) ≤ (pn : Int)) = false := decide_eq_false (by omega)
  have d5' : decide (S.size ≤ pn) = false := decide_eq_false (by omega)
  go_wp2
  go_loopw [11, 12] (fun a i wr => ∃ q j : Nat, a = .int .i64 (q : Int) ∧ i = .int .i64 (j : Int) ∧ j ≤ n ∧ q ≤ S.size ∧ M.drop j = allN l (bytesN S) (q : Int) ∧ Below w2.heap.size w2 wr) (fun _ i _ => n - (intOf i).toNat)
  case atStart => exact ⟨pn, 0, rfl, rfl, Nat.zero_le _, by omega, by rw [HM.out]; rfl, HB23.out⟩
  case round =>
    obtain ⟨q, j, rfl, rfl, hj, hq, hdr, hBr⟩ := hrel
    have HBR := Lib.hid hBr
    have HB1R := Lib.hid (chain HB2.out HB2.out.size hBr)
    clear hBr
    by_cases hlt : j < n
    · have hqS : q < S.size := by
        rcases Nat.lt_or_ge q S.size with h | h
        · exact h
        · have hz : allN l (bytesN S) (q : Int) = [] := all_end fun k => by have := k.2.2; rw [HSL.out] at this; omega
          rw [hz] at hdr
          have := congrArg List.length hdr
          rw [List.length_drop, HN.out, List.length_nil] at this
          omega
      obtain ⟨k, x, hB, hbest, hstep, hx0, hxq⟩ := all_step HACC.out HRUN.out (p := q) (by rw [HSL.out]; exact hqS)
      rw [HSL.out] at hbest hxq
      have HAQ := Lib.hid hdr
      rw [hstep] at hdr
      have hjk : M[j]? = some k := by
        have := congrArg (fun L => L[0]?) hdr
        simpa only [List.getElem?_drop, Nat.add_zero, List.getElem?_cons_zero] using this
      have hnx : M.drop (j + 1) = allN l (bytesN S) ((q + x.left.length : Nat) : Int) := by
        have := congrArg (List.drop 1) hdr
        rw [List.drop_drop] at this
        exact this
      obtain ⟨g8, rfl, -⟩ := HA8.out (by omega)
      have hg8 := (HOWN.out.lt g8 rfl).2
      have y0 := int_cell HOWN.out hlt hjk
      have hx := hB.at'
      have hkn : k < nl := by have := (List.getElem?_eq_some_iff.1 hx).1; rw [HNL.out] at this; exact this
      obtain ⟨g, rfl, hgw, hcx⟩ := cellsR_at HV1.out hx
      obtain ⟨X, hX⟩ : ∃ X, bytesOf x.left = X := ⟨_, rfl⟩
      have hex := taken_ext hX (elig_at hB.elig)
      have hxs : X.size = x.left.length := by rw [← hX]; exact bytesOf_size _
      rw [hX] at hcx
      rw [← hxs] at hnx hx0 hxq
      have hx1 := hcx.c1
      have HCC := Lib.hid (show ∀ W : World, Below wr.heap.size wr W → W.cell? ⟨g8, j, none⟩ = some (.int .i64 (k : Int)) ∧ W.cell? ⟨g, off + k * 5 + 1, none⟩ = some (.string X) ∧ Below wr.heap.size wr W from fun W hW => by
        have h := chain HBR.out HBR.out.size hW
        exact ⟨(h.cell (p := ⟨g8, j, none⟩) hg8).trans y0, ((chain HB2.out HB2.out.size h).cell (p := ⟨g, off + k * 5 + 1, none⟩) hgw).trans hx1, hW⟩)
      have HC2 := Lib.hid (show ∀ W : World, Below w2.heap.size w2 W → W.cell? ⟨g, off + k * 5 + 1, none⟩ = some (.string X) ∧ Below w2.heap.size w2 W from fun W hW => ⟨((chain HB2.out HB2.out.size hW).cell (p := ⟨g, off + k * 5 + 1, none⟩) hgw).trans hx1, hW⟩)
      have HBQ := Lib.hid (HBE.out (q : Int) k (by unfold I64; omega) hbest wr HB1R.out)
      have HAL := Lib.hid (fun (W : World) (hW : Below wr.heap.size wr W) => HALL.out (q : Int) (M.drop j) (by unfold I64; omega) HAQ.out.symm W (chain HB1R.out HB1R.out.size hW))
      have HDR := Lib.hid (show ∀ W : World, Below wr.heap.size wr W → ReadsI j W W.heap.size (.slice (some ⟨g8, j, none⟩) (n - j) (c8 - j)) (M.drop j) from fun W hW => by
        have h := chain HBR.out HBR.out.size hW
        have h2 := readsI_drop ((HRM.out.below h).mono h.size) hlt HN.out
        rw [Nat.zero_add] at h2
        exact h2)
      have HNX := Lib.hid hnx
      have HDL := Lib.hid (show (M.drop j).length ≤ 1000000 from by rw [List.length_drop, HN.out]; omega)
      clear hB hbest hstep hdr hjk hnx y0 hx hgw hcx hX hxs hx1 hg8 HAQ
      have j0 : (0 : Int) ≤ (j : Int) := by omega
      have j1 : (j : Int) < (n : Int) := by omega
      have k0 : (0 : Int) ≤ (k : Int) := by omega
      have k1 : (k : Int) < (nl : Int) := by omega
      have t3 : decide ((j : Int) < (n : Int)) = true := decide_eq_true j1
      have t4 : ((k : Int) == (k : Int)) = true := by simp
      have t5 : decide ((k : Int) < 0) = false := decide_eq_false (by omega)
      have t6 : decide ((nl : Int) ≤ (k : Int)) = false := decide_eq_false (by omega)
      have t7 : decide (nl ≤ k) = false := decide_eq_false (by omega)
      have t8 : j ≤ n := by omega
      have t9 : j ≤ c8 := by omega
      have t10 : ¬ c8 = j := by omega
      have v1 : decide ((X.size : Int) < 1) = false := decide_eq_false (by omega)
      have v1a : decide (X.size = 0) = false := decide_eq_false (by omega)
      have v1b : decide ((X.size : Int) = 0) = false := decide_eq_false (by omega)
      have v1c : decide ((X.size : Int) ≤ 0) = false := decide_eq_false (by omega)
      have v1d : decide (X.size < 1) = false := decide_eq_false (by omega)
      have v3 : decide ((S.size : Int) < ((q + X.size : Nat) : Int)) = false := decide_eq_false (by omega)
      have v3a : decide ((S.size : Int) < (q : Int) + (X.size : Int)) = false := decide_eq_false (by omega)
      have v2a : IntKind.i64.wrap ((q : Int) + (X.size : Int)) = (q : Int) + (X.size : Int) := IntWalk.i64_in _ ⟨by omega, by omega⟩
      have z1 : (0 : Int) ≤ (q : Int) + (X.size : Int) := by omega
      have z2 : (q : Int) + (X.size : Int) ≤ (S.size : Int) := by omega
      have z3 : (q : Int) ≤ (q : Int) + (X.size : Int) := by omega
      have z4 : ((q : Int) + (X.size : Int)).toNat = q + X.size := by omega
      have v4 : (X.toList == X.toList) = true := by simp
      go_wp2_with fail
      refine HBQ.out.mono ?_
      rintro e w4 ⟨rfl, hb4⟩
      have HC4 := Lib.hid hb4
      clear hb4
      go_wp2_with fail
      have hS := (HCC.out _ HC4.out.drew)
      refine wp_region_held_drew (S := fun W => W.cell? ⟨g8, j, none⟩ = some (.int .i64 (k : Int)) ∧ W.cell? ⟨g, off + k * 5 + 1, none⟩ = some (.string X) ∧ Below wr.heap.size wr W) (by kernel_rfl) hS (fun hHeld => ?_)
      refine wpAnyH_take (i := 0) (v := ?_) (by simp only [List.getElem?_toArray, List.getElem?_cons_zero]; rfl) (by kernel_rfl) (by kernel_rfl) (by kernel_rfl) (by exact fun _ _ _ h => h) (Or.inl ⟨by rfl, ?_⟩) (by with_reducible exact hS) ?_
      rotate_left
      · intro W hSw; (obtain ⟨x0, x1, -⟩ := hSw); go_simp; all_goals (with_reducible rfl)
      try simp only [Act.put, List.setIfInBounds_toArray, List.set_cons_zero, List.set_cons_succ]
      refine wpAnyH_take (i := 1) (v := ?_) (by simp only [List.getElem?_toArray, List.getElem?_cons_succ, List.getElem?_cons_zero]; rfl) (by kernel_rfl) (by kernel_rfl) (by kernel_rfl) (by exact fun _ _ _ h => h) (Or.inl ⟨by rfl, ?_⟩) (by with_reducible exact hS) ?_
      rotate_left
      · intro W hSw; (obtain ⟨x0, x1, -⟩ := hSw); go_simp; all_goals (with_reducible rfl)
      try simp only [Act.put, List.setIfInBounds_toArray, List.set_cons_zero, List.set_cons_succ]
      refine wpAnyH_take (i := 2) (v := ?_) (by simp only [List.getElem?_toArray, List.getElem?_cons_succ, List.getElem?_cons_zero]; rfl) (by kernel_rfl) (by kernel_rfl) (by kernel_rfl) (by exact fun _ _ _ h => h) (Or.inl ⟨by rfl, ?_⟩) (by with_reducible exact hS) ?_
      rotate_left
      · intro W hSw; (obtain ⟨x0, x1, -⟩ := hSw); go_simp; all_goals (with_reducible rfl)
      try simp only [Act.put, List.setIfInBounds_toArray, List.set_cons_zero, List.set_cons_succ]
      refine wpAnyH_take (i := 3) (v := ?_) (by simp only [List.getElem?_toArray, List.getElem?_cons_succ, List.getElem?_cons_zero]; rfl) (by kernel_rfl) (by kernel_rfl) (by kernel_rfl) (by exact fun _ _ _ h => h) (Or.inl ⟨by rfl, ?_⟩) (by with_reducible exact hS) ?_
      rotate_left
      · intro W hSw; (obtain ⟨x0, x1, -⟩ := hSw); go_simp; all_goals (with_reducible rfl)
      try simp only [Act.put, List.setIfInBounds_toArray, List.set_cons_zero, List.set_cons_succ]
      refine wpAnyH_take (i := 4) (v := ?_) (by simp only [List.getElem?_toArray, List.getElem?_cons_succ, List.getElem?_cons_zero]; rfl) (by kernel_rfl) (by kernel_rfl) (by kernel_rfl) (by exact fun _ _ _ h => h) (Or.inl ⟨by rfl, ?_⟩) (by with_reducible exact hS) ?_
      rotate_left
      · intro W hSw; (obtain ⟨x0, x1, -⟩ := hSw); go_simp; all_goals (with_reducible rfl)
      try simp only [Act.put, List.setIfInBounds_toArray, List.set_cons_zero, List.set_cons_succ]
      refine wpAnyH_take (i := 5) (v := ?_) (by simp only [List.getElem?_toArray, List.getElem?_cons_succ, List.getElem?_cons_zero]; rfl) (by kernel_rfl) (by kernel_rfl) (by kernel_rfl) (by exact fun _ _ _ h => h) (Or.inl ⟨by rfl, ?_⟩) (by with_reducible exact hS) ?_
      rotate_left
      · intro W hSw; (obtain ⟨x0, x1, -⟩ := hSw); go_simp; all_goals (with_reducible rfl)
      try simp only [Act.put, List.setIfInBounds_toArray, List.set_cons_zero, List.set_cons_succ]
      refine wpAnyH_take (i := 6) (v := ?_) (by simp only [List.getElem?_toArray, List.getElem?_cons_succ, List.getElem?_cons_zero]; rfl) (by kernel_rfl) (by kernel_rfl) (by kernel_rfl) (by exact fun _ _ _ h => h) (Or.inl ⟨by rfl, ?_⟩) (by with_reducible exact hS) ?_
      rotate_left
      · intro W hSw; (obtain ⟨x0, x1, -⟩ := hSw); go_simp; all_goals (with_reducible rfl)
      try simp only [Act.put, List.setIfInBounds_toArray, List.set_cons_zero, List.set_cons_succ]
      refine wpAnyH_take (i := 7) (v := ?_) (by simp only [List.getElem?_toArray, List.getElem?_cons_succ, List.getElem?_cons_zero]; rfl) (by kernel_rfl) (by kernel_rfl) (by kernel_rfl) (by exact fun _ _ _ h => h) (Or.inl ⟨by rfl, ?_⟩) (by with_reducible exact hS) ?_
      rotate_left
      · intro W hSw; (obtain ⟨x0, x1, -⟩ := hSw); go_simp; all_goals (with_reducible rfl)
      try simp only [Act.put, List.setIfInBounds_toArray, List.set_cons_zero, List.set_cons_succ]
      refine wpAnyH_take (i := 8) (v := ?_) (by simp only [List.getElem?_toArray, List.getElem?_cons_succ, List.getElem?_cons_zero]; rfl) (by kernel_rfl) (by kernel_rfl) (by kernel_rfl) (by exact fun _ _ _ h => h) (Or.inl ⟨by rfl, ?_⟩) (by with_reducible exact hS) ?_
      rotate_left
      · intro W hSw; (obtain ⟨x0, x1, -⟩ := hSw); go_simp; all_goals (with_reducible rfl)
      try simp only [Act.put, List.setIfInBounds_toArray, List.set_cons_zero, List.set_cons_succ]
      refine wpAnyH_take (i := 9) (v := ?_) (by simp only [List.getElem?_toArray, List.getElem?_cons_succ, List.getElem?_cons_zero]; rfl) (by kernel_rfl) (by kernel_rfl) (by kernel_rfl) (by exact fun _ _ _ h => h) (Or.inl ⟨by rfl, ?_⟩) (by with_reducible exact hS) ?_
      rotate_left
      · intro W hSw; (obtain ⟨x0, x1, -⟩ := hSw); go_simp; all_goals (with_reducible rfl)
      try simp only [Act.put, List.setIfInBounds_toArray, List.set_cons_zero, List.set_cons_succ]
      refine wpAnyH_take (i := 10) (v := ?_) (by simp only [List.getElem?_toArray, List.getElem?_cons_succ, List.getElem?_cons_zero]; rfl) (by kernel_rfl) (by kernel_rfl) (by kernel_rfl) (by exact fun _ _ _ h => h) (Or.inl ⟨by rfl, ?_⟩) (by with_reducible exact hS) ?_
      rotate_left
      · intro W hSw; (obtain ⟨x0, x1, -⟩ := hSw); go_simp; all_goals (with_reducible rfl)
      try simp only [Act.put, List.setIfInBounds_toArray, List.set_cons_zero, List.set_cons_succ]
      refine wpAnyH_take (i := 11) (v := ?_) (by simp only [List.getElem?_toArray, List.getElem?_cons_succ, List.getElem?_cons_zero]; rfl) (by kernel_rfl) (by kernel_rfl) (by kernel_rfl) (by exact fun _ _ _ h => h) (Or.inl ⟨by rfl, ?_⟩) (by with_reducible exact hS) ?_
      rotate_left
      · intro W hSw; (obtain ⟨x0, x1, -⟩ := hSw); go_simp; all_goals (with_reducible rfl)
      try simp only [Act.put, List.setIfInBounds_toArray, List.set_cons_zero, List.set_cons_succ]
      refine wpAnyH_take (i := 12) (v := ?_) (by simp only [List.getElem?_toArray, List.getElem?_cons_succ, List.getElem?_cons_zero]; rfl) (by kernel_rfl) (by kernel_rfl) (by kernel_rfl) (by exact fun _ _ _ h => h) (Or.inl ⟨by rfl, ?_⟩) (by with_reducible exact hS) ?_
      rotate_left
      · intro W hSw; (obtain ⟨x0, x1, -⟩ := hSw); go_simp; all_goals (with_reducible rfl)
      try simp only [Act.put, List.setIfInBounds_toArray, List.set_cons_zero, List.set_cons_succ]
      refine wpAnyH_take (i := 13) (v := ?_) (by simp only [List.getElem?_toArray, List.getElem?_cons_succ, List.getElem?_cons_zero]; rfl) (by kernel_rfl) (by kernel_rfl) (by kernel_rfl) (by exact fun _ _ _ h => h) (Or.inl ⟨by rfl, ?_⟩) (by with_reducible exact hS) ?_
      rotate_left
      · intro W hSw; (obtain ⟨x0, x1, -⟩ := hSw); go_simp; all_goals (with_reducible rfl)
      try simp only [Act.put, List.setIfInBounds_toArray, List.set_cons_zero, List.set_cons_succ]
      refine wpAnyH_take (i := 14) (v := ?_) (by simp only [List.getElem?_toArray, List.getElem?_cons_succ, List.getElem?_cons_zero]; rfl) (by kernel_rfl) (by kernel_rfl) (by kernel_rfl) (by exact fun _ _ _ h => h) (Or.inl ⟨by rfl, ?_⟩) (by with_reducible exact hS) ?_
      rotate_left
      · intro W hSw; (obtain ⟨x0, x1, -⟩ := hSw); go_simp; all_goals (with_reducible rfl)
      try simp only [Act.put, List.setIfInBounds_toArray, List.set_cons_zero, List.set_cons_succ]
      refine wpAnyH_take (i := 15) (v := ?_) (by simp only [List.getElem?_toArray, List.getElem?_cons_succ, List.getElem?_cons_zero]; rfl) (by kernel_rfl) (by kernel_rfl) (by kernel_rfl) (by exact fun _ _ _ h => h) (Or.inl ⟨by rfl, ?_⟩) (by with_reducible exact hS) ?_
      rotate_left
      · intro W hSw; (obtain ⟨x0, x1, -⟩ := hSw); go_simp; all_goals (with_reducible rfl)
      try simp only [Act.put, List.setIfInBounds_toArray, List.set_cons_zero, List.set_cons_succ]
      refine wpAnyH_take (i := 16) (v := ?_) (by simp only [List.getElem?_toArray, List.getElem?_cons_succ, List.getElem?_cons_zero]; rfl) (by kernel_rfl) (by kernel_rfl) (by kernel_rfl) (by exact fun _ _ _ h => h) (Or.inl ⟨by rfl, ?_⟩) (by with_reducible exact hS) ?_
      rotate_left
      · intro W hSw; (obtain ⟨x0, x1, -⟩ := hSw); go_simp; all_goals (with_reducible rfl)
      try simp only [Act.put, List.setIfInBounds_toArray, List.set_cons_zero, List.set_cons_succ]
      refine wpAnyH_take (i := 17) (v := ?_) (by simp only [List.getElem?_toArray, List.getElem?_cons_succ, List.getElem?_cons_zero]; rfl) (by kernel_rfl) (by kernel_rfl) (by kernel_rfl) (by exact fun _ _ _ h => h) (Or.inl ⟨by rfl, ?_⟩) (by with_reducible exact hS) ?_
      rotate_left
      · intro W hSw; (obtain ⟨x0, x1, -⟩ := hSw); go_simp; all_goals (with_reducible rfl)
      try simp only [Act.put, List.setIfInBounds_toArray, List.set_cons_zero, List.set_cons_succ]
      refine wpAnyH_take (i := 18) (v := ?_) (by simp only [List.getElem?_toArray, List.getElem?_cons_succ, List.getElem?_cons_zero]; rfl) (by kernel_rfl) (by kernel_rfl) (by kernel_rfl) (by exact fun _ _ _ h => h) (Or.inl ⟨by rfl, ?_⟩) (by with_reducible exact hS) ?_
      rotate_left
      · intro W hSw; (obtain ⟨x0, x1, -⟩ := hSw); go_simp; all_goals (with_reducible rfl)
      try simp only [Act.put, List.setIfInBounds_toArray, List.set_cons_zero, List.set_cons_succ]
      refine wpAnyH_take (i := 19) (v := ?_) (by simp only [List.getElem?_toArray, List.getElem?_cons_succ, List.getElem?_cons_zero]; rfl) (by kernel_rfl) (by kernel_rfl) (by kernel_rfl) (by exact fun _ _ _ h => h) (Or.inl ⟨by rfl, ?_⟩) (by with_reducible exact hS) ?_
      rotate_left
      · intro W hSw; (obtain ⟨x0, x1, -⟩ := hSw); go_simp; all_goals (with_reducible rfl)
      try simp only [Act.put, List.setIfInBounds_toArray, List.set_cons_zero, List.set_cons_succ]
      refine wpAnyH_take (i := 20) (v := ?_) (by simp only [List.getElem?_toArray, List.getElem?_cons_succ, List.getElem?_cons_zero]; rfl) (by kernel_rfl) (by kernel_rfl) (by kernel_rfl) (by exact fun _ _ _ h => h) (Or.inl ⟨by rfl, ?_⟩) (by with_reducible exact hS) ?_
      rotate_left
      · intro W hSw; (obtain ⟨x0, x1, -⟩ := hSw); go_simp; all_goals (with_reducible rfl)
      try simp only [Act.put, List.setIfInBounds_toArray, List.set_cons_zero, List.set_cons_succ]
      refine wpAnyH_take (i := 21) (v := ?_) (by simp only [List.getElem?_toArray, List.getElem?_cons_succ, List.getElem?_cons_zero]; rfl) (by kernel_rfl) (by kernel_rfl) (by kernel_rfl) (by exact fun _ _ _ h => h) (Or.inl ⟨by rfl, ?_⟩) (by with_reducible exact hS) ?_
      rotate_left
      · intro W hSw; (obtain ⟨x0, x1, -⟩ := hSw); go_simp; all_goals (with_reducible rfl)
      try simp only [Act.put, List.setIfInBounds_toArray, List.set_cons_zero, List.set_cons_succ]
      refine wpAnyH_take (i := 22) (v := ?_) (by simp only [List.getElem?_toArray, List.getElem?_cons_succ, List.getElem?_cons_zero]; rfl) (by kernel_rfl) (by kernel_rfl) (by kernel_rfl) (by exact fun _ _ _ h => h) (Or.inl ⟨by rfl, ?_⟩) (by with_reducible exact hS) ?_
      rotate_left
      · intro W hSw; (obtain ⟨x0, x1, -⟩ := hSw); go_simp; all_goals (with_reducible rfl)
      try simp only [Act.put, List.setIfInBounds_toArray, List.set_cons_zero, List.set_cons_succ]
      refine wpAnyH_take (i := 23) (v := ?_) (by simp only [List.getElem?_toArray, List.getElem?_cons_succ, List.getElem?_cons_zero]; rfl) (by kernel_rfl) (by kernel_rfl) (by kernel_rfl) (by exact fun _ _ _ h => h) (Or.inl ⟨by rfl, ?_⟩) (by with_reducible exact hS) ?_
      rotate_left
      · intro W hSw; (obtain ⟨x0, x1, -⟩ := hSw); go_simp; all_goals (with_reducible rfl)
      try simp only [Act.put, List.setIfInBounds_toArray, List.set_cons_zero, List.set_cons_succ]
      refine wpAnyH_take (i := 25) (v := ?_) (by simp only [List.getElem?_toArray, List.getElem?_cons_succ, List.getElem?_cons_zero]; rfl) (by kernel_rfl) (by kernel_rfl) (by kernel_rfl) (by exact fun _ _ _ h => h) (Or.inl ⟨by rfl, ?_⟩) (by with_reducible exact hS) ?_
      rotate_left
      · intro W hSw; (obtain ⟨x0, x1, -⟩ := hSw); go_simp; all_goals (with_reducible rfl)
      try simp only [Act.put, List.setIfInBounds_toArray, List.set_cons_zero, List.set_cons_succ]
      refine wpAnyH_take (i := 26) (v := ?_) (by simp only [List.getElem?_toArray, List.getElem?_cons_succ, List.getElem?_cons_zero]; rfl) (by kernel_rfl) (by kernel_rfl) (by kernel_rfl) (by exact fun _ _ _ h => h) (Or.inl ⟨by rfl, ?_⟩) (by with_reducible exact hS) ?_
      rotate_left
      · intro W hSw; (obtain ⟨x0, x1, -⟩ := hSw); go_simp; all_goals (with_reducible rfl)
      try simp only [Act.put, List.setIfInBounds_toArray, List.set_cons_zero, List.set_cons_succ]
      refine Rg.take_w 27 (by simp only [List.getElem?_toArray, List.getElem?_cons_succ, List.getElem?_cons_zero]; rfl) (by kernel_rfl) (by kernel_rfl) (by kernel_rfl) ((.slice (some ⟨g8, j, none⟩) (n - j) (c8 - j))) (by exact fun _ _ _ h => h) (by rfl) (by intro W hSw; (obtain ⟨x0, x1, -⟩ := hSw); go_simp) (by with_reducible exact hS) ?_
      try simp only [Act.put, List.setIfInBounds_toArray, List.set_cons_zero, List.set_cons_succ]
      refine Rg.take_one 24 (by simp only [List.getElem?_toArray, List.getElem?_cons_succ, List.getElem?_cons_zero]; rfl) (by kernel_rfl) (fun K hK => ?_)
      go_simp
      go_at_call 8
      refine (HAL.out _ hS.2.2).mono ?_
      rintro e w5 ⟨v5, rfl, hown5, hb5⟩
      have hS24 := HCC.out _ (chain hS.2.2 hS.2.2.size hb5)
      have HR5 := Lib.hid (readsI_own rfl hown5)
      clear hown5 hb5
      go_wp2_with fail
      refine hK.out _ _ hS24 (fun hHeld24 => ?_)
      clear hK K
      try simp only [Act.put, List.setIfInBounds_toArray, List.set_cons_zero, List.set_cons_succ]
      refine Rg.take_one 28 (by simp only [List.getElem?_toArray, List.getElem?_cons_succ, List.getElem?_cons_zero]; rfl) (by kernel_rfl) (fun K hK => ?_)
      go_simp
      go_at_call 11
      refine (same11_yes _ _ (M.drop j) 0 j HDL.out _ _ _ HR5.out (HDR.out _ hS24.2.2)).mono ?_
      rintro e w6 ⟨rfl, n6, rfl⟩
      have hS28 := HCC.out _ (Ba.below_drewN hS24.2.2 n6)
      go_wp2_with fail
      refine hK.out _ _ hS28 (fun hHeld28 => ?_)
      clear hK K
      try simp only [Act.put, List.setIfInBounds_toArray, List.set_cons_zero, List.set_cons_succ]
      refine wpAnyH_take (i := 29) (v := ?_) (by simp only [List.getElem?_toArray, List.getElem?_cons_succ, List.getElem?_cons_zero]; rfl) (by kernel_rfl) (by kernel_rfl) (by kernel_rfl) (by exact fun _ _ _ h => h) (Or.inl ⟨by rfl, ?_⟩) (by with_reducible exact hS28) ?_
      rotate_left
      · intro W hSw; (obtain ⟨x0, x1, -⟩ := hSw); go_simp; all_goals (with_reducible rfl)
      try simp only [Act.put, List.setIfInBounds_toArray, List.set_cons_zero, List.set_cons_succ]
      refine wpAnyH_take (i := 30) (v := ?_) (by simp only [List.getElem?_toArray, List.getElem?_cons_succ, List.getElem?_cons_zero]; rfl) (by kernel_rfl) (by kernel_rfl) (by kernel_rfl) (by exact fun _ _ _ h => h) (Or.inl ⟨by rfl, ?_⟩) (by with_reducible exact hS28) ?_
      rotate_left
      · intro W hSw; (obtain ⟨x0, x1, -⟩ := hSw); go_simp; all_goals (with_reducible rfl)
      try simp only [Act.put, List.setIfInBounds_toArray, List.set_cons_zero, List.set_cons_succ]
      refine wpAnyH_done (by kernel_rfl) ?_ _
      have HB6 := Lib.hid hS28.2.2
      have HB7 := Lib.hid (chain HBR.out HBR.out.size hS28.2.2)
      obtain ⟨x0, x1, -⟩ := hS28
      clear hS hS24 HR5
      go_wp2
      have hS := (HC2.out _ HB7.out.drew)
      refine wp_region_held_drew (S := fun W => W.cell? ⟨g, off + k * 5 + 1, none⟩ = some (.string X) ∧ Below w2.heap.size w2 W) (by kernel_rfl) hS (fun hHeld => ?_)
      refine wpAnyH_take (i := 0) (v := ?_) (by simp only [List.getElem?_toArray, List.getElem?_cons_zero]; rfl) (by kernel_rfl) (by kernel_rfl) (by kernel_rfl) (by exact fun _ _ _ h => h) (Or.inl ⟨by rfl, ?_⟩) (by with_reducible exact hS) ?_
      rotate_left
      · intro W hSw; (obtain ⟨x1, -⟩ := hSw); go_simp; all_goals (with_reducible rfl)
      try simp only [Act.put, List.setIfInBounds_toArray, List.set_cons_zero, List.set_cons_succ]
      refine Rg.take_w 1 (by simp only [List.getElem?_toArray, List.getElem?_cons_succ, List.getElem?_cons_zero]; rfl) (by kernel_rfl) (by kernel_rfl) (by kernel_rfl) (.bool false) (by exact fun _ _ _ h => h) (by rfl) (by intro W hSw; (obtain ⟨x1, -⟩ := hSw); go_simp) (by with_reducible exact hS) ?_
      try simp only [Act.put, List.setIfInBounds_toArray, List.set_cons_zero, List.set_cons_succ]
      refine wpAnyH_take (i := 2) (v := ?_) (by simp only [List.getElem?_toArray, List.getElem?_cons_succ, List.getElem?_cons_zero]; rfl) (by kernel_rfl) (by kernel_rfl) (by kernel_rfl) (by exact fun _ _ _ h => h) (Or.inl ⟨by rfl, ?_⟩) (by with_reducible exact hS) ?_
      rotate_left
      · intro W hSw; (obtain ⟨x1, -⟩ := hSw); go_simp; all_goals (with_reducible rfl)
      try simp only [Act.put, List.setIfInBounds_toArray, List.set_cons_zero, List.set_cons_succ]
      refine wpAnyH_take (i := 3) (v := ?_) (by simp only [List.getElem?_toArray, List.getElem?_cons_succ, List.getElem?_cons_zero]; rfl) (by kernel_rfl) (by kernel_rfl) (by kernel_rfl) (by exact fun _ _ _ h => h) (Or.inl ⟨by rfl, ?_⟩) (by with_reducible exact hS) ?_
      rotate_left
      · intro W hSw; (obtain ⟨x1, -⟩ := hSw); go_simp; all_goals (with_reducible rfl)
      try simp only [Act.put, List.setIfInBounds_toArray, List.set_cons_zero, List.set_cons_succ]
      refine wpAnyH_take (i := 4) (v := ?_) (by simp only [List.getElem?_toArray, List.getElem?_cons_succ, List.getElem?_cons_zero]; rfl) (by kernel_rfl) (by kernel_rfl) (by kernel_rfl) (by exact fun _ _ _ h => h) (Or.inl ⟨by rfl, ?_⟩) (by with_reducible exact hS) ?_
      rotate_left
      · intro W hSw; (obtain ⟨x1, -⟩ := hSw); go_simp; all_goals (with_reducible rfl)
      try simp only [Act.put, List.setIfInBounds_toArray, List.set_cons_zero, List.set_cons_succ]
      refine Rg.take_w 5 (by simp only [List.getElem?_toArray, List.getElem?_cons_succ, List.getElem?_cons_zero]; rfl) (by kernel_rfl) (by kernel_rfl) (by kernel_rfl) ((.int .i64 ((q : Int) + (X.size : Int)))) (by exact fun _ _ _ h => h) (by rfl) (by intro W hSw; (obtain ⟨x1, -⟩ := hSw); go_simp) (by with_reducible exact hS) ?_
      try simp only [Act.put, List.setIfInBounds_toArray, List.set_cons_zero, List.set_cons_succ]
      refine wpAnyH_take (i := 6) (v := ?_) (by simp only [List.getElem?_toArray, List.getElem?_cons_succ, List.getElem?_cons_zero]; rfl) (by kernel_rfl) (by kernel_rfl) (by kernel_rfl) (by exact fun _ _ _ h => h) (Or.inl ⟨by rfl, ?_⟩) (by with_reducible exact hS) ?_
      rotate_left
      · intro W hSw; (obtain ⟨x1, -⟩ := hSw); go_simp; all_goals (with_reducible rfl)
      try simp only [Act.put, List.setIfInBounds_toArray, List.set_cons_zero, List.set_cons_succ]
      refine wpAnyH_take (i := 7) (v := ?_) (by simp only [List.getElem?_toArray, List.getElem?_cons_succ, List.getElem?_cons_zero]; rfl) (by kernel_rfl) (by kernel_rfl) (by kernel_rfl) (by exact fun _ _ _ h => h) (Or.inl ⟨by rfl, ?_⟩) (by with_reducible exact hS) ?_
      rotate_left
      · intro W hSw; (obtain ⟨x1, -⟩ := hSw); go_simp; all_goals (with_reducible rfl)
      try simp only [Act.put, List.setIfInBounds_toArray, List.set_cons_zero, List.set_cons_succ]
      refine Rg.take_w 8 (by simp only [List.getElem?_toArray, List.getElem?_cons_succ, List.getElem?_cons_zero]; rfl) (by kernel_rfl) (by kernel_rfl) (by kernel_rfl) (.bool false) (by exact fun _ _ _ h => h) (by rfl) (by intro W hSw; (obtain ⟨x1, -⟩ := hSw); go_simp) (by with_reducible exact hS) ?_
      try simp only [Act.put, List.setIfInBounds_toArray, List.set_cons_zero, List.set_cons_succ]
      refine Rg.take_w 9 (by simp only [List.getElem?_toArray, List.getElem?_cons_succ, List.getElem?_cons_zero]; rfl) (by kernel_rfl) (by kernel_rfl) (by kernel_rfl) (.bool false) (by exact fun _ _ _ h => h) (by rfl) (by intro W hSw; (obtain ⟨x1, -⟩ := hSw); go_simp) (by with_reducible exact hS) ?_
      try simp only [Act.put, List.setIfInBounds_toArray, List.set_cons_zero, List.set_cons_succ]
      refine Rg.take_w 10 (by simp only [List.getElem?_toArray, List.getElem?_cons_succ, List.getElem?_cons_zero]; rfl) (by kernel_rfl) (by kernel_rfl) (by kernel_rfl) (.bool false) (by exact fun _ _ _ h => h) (by rfl) (by intro W hSw; (obtain ⟨x1, -⟩ := hSw); go_simp) (by with_reducible exact hS) ?_
      try simp only [Act.put, List.setIfInBounds_toArray, List.set_cons_zero, List.set_cons_succ]
      refine wpAnyH_take (i := 11) (v := ?_) (by simp only [List.getElem?_toArray, List.getElem?_cons_succ, List.getElem?_cons_zero]; rfl) (by kernel_rfl) (by kernel_rfl) (by kernel_rfl) (by exact fun _ _ _ h => h) (Or.inl ⟨by rfl, ?_⟩) (by with_reducible exact hS) ?_
      rotate_left
      · intro W hSw; (obtain ⟨x1, -⟩ := hSw); go_simp; all_goals (with_reducible rfl)
      try simp only [Act.put, List.setIfInBounds_toArray, List.set_cons_zero, List.set_cons_succ]
      refine wpAnyH_take (i := 12) (v := ?_) (by simp only [List.getElem?_toArray, List.getElem?_cons_succ, List.getElem?_cons_zero]; rfl) (by kernel_rfl) (by kernel_rfl) (by kernel_rfl) (by exact fun _ _ _ h => h) (Or.inl ⟨by rfl, ?_⟩) (by with_reducible exact hS) ?_
      rotate_left
      · intro W hSw; (obtain ⟨x1, -⟩ := hSw); go_simp; all_goals (with_reducible rfl)
      try simp only [Act.put, List.setIfInBounds_toArray, List.set_cons_zero, List.set_cons_succ]
      refine wpAnyH_take (i := 13) (v := ?_) (by simp only [List.getElem?_toArray, List.getElem?_cons_succ, List.getElem?_cons_zero]; rfl) (by kernel_rfl) (by kernel_rfl) (by kernel_rfl) (by exact fun _ _ _ h => h) (Or.inl ⟨by rfl, ?_⟩) (by with_reducible exact hS) ?_
      rotate_left
      · intro W hSw; (obtain ⟨x1, -⟩ := hSw); go_simp; all_goals (with_reducible rfl)
      try simp only [Act.put, List.setIfInBounds_toArray, List.set_cons_zero, List.set_cons_succ]
      refine wpAnyH_take (i := 14) (v := ?_) (by simp only [List.getElem?_toArray, List.getElem?_cons_succ, List.getElem?_cons_zero]; rfl) (by kernel_rfl) (by kernel_rfl) (by kernel_rfl) (by exact fun _ _ _ h => h) (Or.inl ⟨by rfl, ?_⟩) (by with_reducible exact hS) ?_
      rotate_left
      · intro W hSw; (obtain ⟨x1, -⟩ := hSw); go_simp; all_goals (with_reducible rfl)
      try simp only [Act.put, List.setIfInBounds_toArray, List.set_cons_zero, List.set_cons_succ]
      refine Rg.take_w 15 (by simp only [List.getElem?_toArray, List.getElem?_cons_succ, List.getElem?_cons_zero]; rfl) (by kernel_rfl) (by kernel_rfl) (by kernel_rfl) ((.int .i64 ((q : Int) + (X.size : Int)))) (by exact fun _ _ _ h => h) (by rfl) (by intro W hSw; (obtain ⟨x1, -⟩ := hSw); go_simp) (by with_reducible exact hS) ?_
      try simp only [Act.put, List.setIfInBounds_toArray, List.set_cons_zero, List.set_cons_succ]
      refine Rg.take_w 16 (by simp only [List.getElem?_toArray, List.getElem?_cons_succ, List.getElem?_cons_zero]; rfl) (by kernel_rfl) (by kernel_rfl) (by kernel_rfl) ((.string X)) (by exact fun _ _ _ h => h) (by rfl) (by intro W hSw; (obtain ⟨x1, -⟩ := hSw); go_simp) (by with_reducible exact hS) ?_
      try simp only [Act.put, List.setIfInBounds_toArray, List.set_cons_zero, List.set_cons_succ]
      refine wpAnyH_take (i := 17) (v := ?_) (by simp only [List.getElem?_toArray, List.getElem?_cons_succ, List.getElem?_cons_zero]; rfl) (by kernel_rfl) (by kernel_rfl) (by kernel_rfl) (by exact fun _ _ _ h => h) (Or.inl ⟨by rfl, ?_⟩) (by with_reducible exact hS) ?_
      rotate_left
      · intro W hSw; (obtain ⟨x1, -⟩ := hSw); go_simp; all_goals (with_reducible rfl)
      try simp only [Act.put, List.setIfInBounds_toArray, List.set_cons_zero, List.set_cons_succ]
      refine wpAnyH_take (i := 18) (v := ?_) (by simp only [List.getElem?_toArray, List.getElem?_cons_succ, List.getElem?_cons_zero]; rfl) (by kernel_rfl) (by kernel_rfl) (by kernel_rfl) (by exact fun _ _ _ h => h) (Or.inl ⟨by rfl, ?_⟩) (by with_reducible exact hS) ?_
      rotate_left
      · intro W hSw; (obtain ⟨x1, -⟩ := hSw); go_simp; all_goals (with_reducible rfl)
      try simp only [Act.put, List.setIfInBounds_toArray, List.set_cons_zero, List.set_cons_succ]
      refine wpAnyH_take (i := 19) (v := ?_) (by simp only [List.getElem?_toArray, List.getElem?_cons_succ, List.getElem?_cons_zero]; rfl) (by kernel_rfl) (by kernel_rfl) (by kernel_rfl) (by exact fun _ _ _ h => h) (Or.inl ⟨by rfl, ?_⟩) (by with_reducible exact hS) ?_
      rotate_left
      · intro W hSw; (obtain ⟨x1, -⟩ := hSw); go_simp; all_goals (with_reducible rfl)
      try simp only [Act.put, List.setIfInBounds_toArray, List.set_cons_zero, List.set_cons_succ]
      refine wpAnyH_take (i := 20) (v := ?_) (by simp only [List.getElem?_toArray, List.getElem?_cons_succ, List.getElem?_cons_zero]; rfl) (by kernel_rfl) (by kernel_rfl) (by kernel_rfl) (by exact fun _ _ _ h => h) (Or.inl ⟨by rfl, ?_⟩) (by with_reducible exact hS) ?_
      rotate_left
      · intro W hSw; (obtain ⟨x1, -⟩ := hSw); go_simp; all_goals (with_reducible rfl)
      try simp only [Act.put, List.setIfInBounds_toArray, List.set_cons_zero, List.set_cons_succ]
      refine wpAnyH_take (i := 21) (v := ?_) (by simp only [List.getElem?_toArray, List.getElem?_cons_succ, List.getElem?_cons_zero]; rfl) (by kernel_rfl) (by kernel_rfl) (by kernel_rfl) (by exact fun _ _ _ h => h) (Or.inl ⟨by rfl, ?_⟩) (by with_reducible exact hS) ?_
      rotate_left
      · intro W hSw; (obtain ⟨x1, -⟩ := hSw); go_simp; all_goals (with_reducible rfl)
      try simp only [Act.put, List.setIfInBounds_toArray, List.set_cons_zero, List.set_cons_succ]
      refine Rg.take_w 22 (by simp only [List.getElem?_toArray, List.getElem?_cons_succ, List.getElem?_cons_zero]; rfl) (by kernel_rfl) (by kernel_rfl) (by kernel_rfl) (.bool false) (by exact fun _ _ _ h => h) (by rfl) (by intro W hSw; (obtain ⟨x1, -⟩ := hSw); go_simp) (by with_reducible exact hS) ?_
      try simp only [Act.put, List.setIfInBounds_toArray, List.set_cons_zero, List.set_cons_succ]
      refine Rg.take_w 23 (by simp only [List.getElem?_toArray, List.getElem?_cons_succ, List.getElem?_cons_zero]; rfl) (by kernel_rfl) (by kernel_rfl) (by kernel_rfl) (.bool false) (by exact fun _ _ _ h => h) (by rfl) (by intro W hSw; (obtain ⟨x1, -⟩ := hSw); go_simp) (by with_reducible exact hS) ?_
      try simp only [Act.put, List.setIfInBounds_toArray, List.set_cons_zero, List.set_cons_succ]
      refine wpAnyH_done (by kernel_rfl) ?_ _
      have HB8 := Lib.hid hS.2
      go_wp2
      go_roundw
      case rel => exact ⟨q + X.size, j + 1, by go_num, by go_num, by omega, by omega, HNX.out, HB8.out⟩
      case measure => simp [intOf]; omega
    · obtain rfl : j = n := by omega
      have hqS : q = S.size := by
        rcases Nat.lt_or_ge q S.size with h | h
        · obtain ⟨k, x, -, -, hstep, -, -⟩ := all_step HACC.out HRUN.out (p := q) (by rw [HSL.out]; exact h)
          rw [← hdr] at hstep
          have := congrArg List.length hstep
          rw [List.length_drop, HN.out, List.length_cons] at this
          omega
        · omega
      clear hdr
      obtain ⟨qq, rfl⟩ : ∃ x, x = q := ⟨_, rfl⟩
      have t3 : decide ((j : Int) < (j : Int)) = false := decide_eq_false (by omega)
      have t4 : ((qq : Int) == (S.size : Int)) = true := by rw [hqS]; simp
      have HQQ := Lib.hid hqS
      clear hqS
      go_wp2_with fail
      refine (HAW.out _ (HL1.out.kept HB1R.out)).mono ?_
      rintro e w9 ⟨rfl, hb9⟩
      have HE := Lib.hid (chain HB1.out HB1.out.size (chain HB1R.out HB1R.out.size hb9))
      clear hb9
      go_wp2
      go_ret
      exact ⟨rfl, HE.out⟩
end Go.Proofs.YtalehelgemmmeaaGreatDoor.Pa
