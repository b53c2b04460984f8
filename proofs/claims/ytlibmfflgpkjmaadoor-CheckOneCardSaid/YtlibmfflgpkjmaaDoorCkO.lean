/-
  CheckOne, whatever it is called with.
-/
import Derived.Test.YtlibmfflgpkjmaaDoorCkN
namespace Go.Proofs.YtlibmfflgpkjmaaDoor.Ck
open Go.RowKit Ba Ru

theorem take_pre {P Q : List Rl} {k : Nat} {x y : Rl} (hx : P[k]? = some x) (hy : Q[k]? = some y) : (P.take (k + 1)).isPrefixOf Q = ((P.take k).isPrefixOf Q && decide (x = y)) := by
  rw [Bool.eq_iff_iff, Bool.and_eq_true, decide_eq_true_eq, List.isPrefixOf_iff_prefix, List.isPrefixOf_iff_prefix, List.take_add_one, hx, Option.toList_some]
  constructor
  · intro h
    refine ⟨(List.prefix_append _ _).trans h, ?_⟩
    have hl : (P.take k).length = k := by
      have := (List.getElem?_eq_some_iff.1 hx).1
      rw [List.length_take]; omega
    obtain ⟨r, hr⟩ := h
    have : Q[k]? = some x := by
      rw [← hr, List.append_assoc, List.getElem?_append_right (by omega), hl, Nat.sub_self]; rfl
    rw [hy] at this
    exact (Option.some.inj this).symm
  · rintro ⟨⟨r, hr⟩, rfl⟩
    have hl : (P.take k).length = k := by
      have := (List.getElem?_eq_some_iff.1 hx).1
      rw [List.length_take]; omega
    have hr0 : r[0]? = some x := by
      rw [← hr, List.getElem?_append_right (by omega), hl, Nat.sub_self] at hy
      exact hy
    cases r with
    | nil => cases hr0
    | cons z r =>
      cases hr0
      exact ⟨r, by rw [← hr, List.append_assoc]; rfl⟩
theorem eq5 {α : Type} (q1 q2 : Int) (S1 S2 T1 T2 : ByteArray) (p1 p2 n1 n2 : Int) (f : Bool → α) :
    (if q1 = q2 then if S1.toList = S2.toList then if T1.toList = T2.toList then if p1 = p2 then if n1 = n2 then f true else f false else f false else f false else f false else f false) = f (decide (q1 = q2 ∧ S1 = S2 ∧ T1 = T2 ∧ p1 = p2 ∧ n1 = n2)) := by
  have e : ∀ S T : ByteArray, S.toList = T.toList ↔ S = T := fun S T => ⟨fun h => by
    rw [ByteArray.toList_eq, ByteArray.toList_eq] at h
    exact ByteArray.ext (Array.ext' h), fun h => by rw [h]⟩
  simp only [e]
  by_cases h1 : q1 = q2 <;> by_cases h2 : S1 = S2 <;> by_cases h3 : T1 = T2 <;> by_cases h4 : p1 = p2 <;> by_cases h5 : n1 = n2 <;> simp [h1, h2, h3, h4, h5]
/-- Two rows of rules of a row of an accepted table, the shorter one first; what their cells and themselves say. -/
structure TwoRows (w wx : World) (M P Q : List Rl) (vP vQ : Value) : Prop where
  rP : ReadsR 0 wx wx.heap.size vP P
  rQ : ReadsR 0 wx wx.heap.size vQ Q
  le : P.length ≤ Q.length
  few : Q.length ≤ 40
  mP : ∀ x ∈ P, x ∈ M
  mQ : ∀ x ∈ Q, x ∈ M
  below : Below w.heap.size w wx
theorem acc_ne {l : List Rl} (A : Acc prC l) : l ≠ [] := fun e => by
  have := A.all
  rw [e] at this
  revert this
  decide +kernel
set_option maxRecDepth 100000 in
set_option maxHeartbeats 16000000 in
/-- styluslaw09.CheckOne -/
theorem one_row9 (l : List Rl) (A : Option Addr) (off c : Nat) (row : Int) (aa : List Nat) (A1 : Option Addr) (o1 c1 : Nat) (bs : List Nat) (A2 : Option Addr) (o2 c2 : Nat) (w : World) (hL : Laid9 w) (hcl : l.length ≤ c) (hcm : c ≤ maxLen) (hf : ∀ x ∈ l, FitR x) (hl : ReadsR off w w.heap.size (.slice A l.length c) l)
    (_h1m : aa.length ≤ maxLen) (h1b : ∀ b ∈ aa, b < 256) (h1 : ReadsB o1 w w.heap.size (.slice A1 aa.length c1) aa) (_h2m : bs.length ≤ maxLen) (h2b : ∀ b ∈ bs, b < 256) (h2 : ReadsB o2 w w.heap.size (.slice A2 bs.length c2) bs) :
    Calls Tryd.prog 3 #[.slice A l.length c, .int .i64 row, .slice A1 aa.length c1, .slice A2 bs.length c2] w fun e w' => e = .returned (.bool true) ∧ Below w.heap.size w w' := by
  have HL := Lib.hid hL
  have HV := Lib.hid hl
  have HV1 := Lib.hid h1
  have HV2 := Lib.hid h2
  have hlm : l.length ≤ maxLen := Nat.le_trans hcl hcm
  have HF := Lib.hid hf
  have HB1 := Lib.hid h1b
  have HB2 := Lib.hid h2b
  have HCAP := Lib.hid (show ∀ n, n ≤ c → CapsR (.slice A n c) from fun n hn A' n' c' e => by
    injection e with _ e1 e2
    subst e1; subst e2
    exact ⟨hn, hcm⟩)
  clear hL hl hf hcm h1 h2 h1b h2b
  obtain ⟨nl, hnl⟩ : ∃ nl, l.length = nl := ⟨_, rfl⟩
  obtain ⟨na, hna⟩ : ∃ n, aa.length = n := ⟨_, rfl⟩
  obtain ⟨nb, hnb⟩ : ∃ n, bs.length = n := ⟨_, rfl⟩
  rw [hnl] at HV hlm hcl ⊢
  rw [hna] at HV1 _h1m ⊢
  rw [hnb] at HV2 _h2m ⊢
  have HNL := Lib.hid hnl
  have HNA := Lib.hid hna
  have HNB := Lib.hid hnb
  clear hnl hna hnb
  obtain ⟨lb, hlb⟩ : ∃ lb, long9 l = lb := ⟨_, rfl⟩
  have HLB := Lib.hid hlb
  clear hlb
  have HAW := Lib.hid (fun (W : World) hW => awake9 W hW)
  go_enter Tryd.func3, Tryd.ntmps3
  cases lb
  case true =>
    go_wp2_with fail
    refine (long9_at _ l off (by rw [HNL.out]; exact hlm) _ _ HV.out true HLB.out).mono ?_
    rintro e w' ⟨rfl, rfl⟩
    go_wp2_with fail
    refine (HAW.out _ HL.out).mono ?_
    rintro e w' ⟨rfl, hb⟩
    go_wp2
    go_ret
    exact ⟨rfl, hb⟩
  case false =>
  obtain ⟨hl5, hl50⟩ := not_long9 HLB.out
  rw [HNL.out] at hl5
  have HFX := Lib.hid (show ∀ x ∈ l, FitR x ∧ x.left.length ≤ 9000 ∧ x.cells.length ≤ 9000 from fun x hx => ⟨HF.out x hx, by have := (hl50 x hx).1; omega, by have := (hl50 x hx).2; omega⟩)
  have HFY := Lib.hid (show ∀ x ∈ l, FitR x ∧ x.left.length ≤ 50 ∧ x.cells.length ≤ 50 from fun x hx => ⟨HF.out x hx, hl50 x hx⟩)
  clear hl50
  go_wp2_with fail
  refine (long9_at _ l off (by rw [HNL.out]; exact hlm) _ _ HV.out false HLB.out).mono ?_
  rintro e w' ⟨rfl, rfl⟩
  by_cases ha : 40 < na
  · have ta : decide (40 < (na : Int)) = true := decide_eq_true (by omega)
    go_wp2_with fail
    refine (HAW.out _ HL.out).mono ?_
    rintro e w' ⟨rfl, hb⟩
    go_wp2
    go_ret
    exact ⟨rfl, hb⟩
  have ta : decide (40 < na) = false := decide_eq_false ha
  have ta2 : decide (40 < (na : Int)) = false := decide_eq_false (by omega)
  by_cases hb : 40 < nb
  · have tb : decide (40 < (nb : Int)) = true := decide_eq_true (by omega)
    go_wp2_with fail
    refine (HAW.out _ HL.out).mono ?_
    rintro e w' ⟨rfl, hb⟩
    go_wp2
    go_ret
    exact ⟨rfl, hb⟩
  have tb : decide (40 < nb) = false := decide_eq_false hb
  have tb2 : decide (40 < (nb : Int)) = false := decide_eq_false (by omega)
  obtain ⟨z, y, hr⟩ : ∃ z y, tableR prC l = (z, y) := ⟨_, _, rfl⟩
  have HR := Lib.hid hr
  clear hr
  go_wp2_with fail
  refine (table9_at _ l off (by rw [HNL.out]; omega) HFX.out (HCAP.out nl hcl) (z, y) HR.out _ HL.out.1 HL.out.2 HV.out).mono ?_
  rintro e w1 ⟨rfl, hb1⟩
  have HBW1 := Lib.hid hb1
  clear hb1
  by_cases hy : y = 0
  case neg =>
    have ty : ((y : Int) != 0) = true := by rw [bne, beq_eq_false_iff_ne.2 (by omega)]; rfl
    have ty2 : ((y : Int) == 0) = false := beq_eq_false_iff_ne.2 (by omega)
    go_wp2_with fail
    refine (HAW.out _ (HL.out.kept HBW1.out)).mono ?_
    rintro e w3 ⟨rfl, hb3⟩
    have HE := Lib.hid (chain HBW1.out HBW1.out.size hb3)
    clear hb3
    go_wp2
    go_ret
    exact ⟨rfl, HE.out⟩
  case pos =>
  subst hy
  have HACC := Lib.hid ((table_acc l).1 (by rw [HR.out]))
  go_upto_region 7 with fail
  obtain ⟨rw_, hrw⟩ : ∃ z, wrap64 (1 + (bits .and .i64 row 255).tmod 3) = z := ⟨_, rfl⟩
  rw [hrw]
  clear hrw
  obtain ⟨M, hM⟩ : ∃ M, inL l rw_ = M := ⟨_, rfl⟩
  have HCH1 := Lib.hid (hM ▸ chosen_at l A off nl c rw_ aa A1 o1 na c1 HNL.out HNA.out hl5 (by omega) HFY.out HB1.out w1 ((HV.out.below HBW1.out).mono HBW1.out.size) ((HV1.out.below HBW1.out).mono HBW1.out.size))
  have HCH2 := Lib.hid (fun (W : World) (hW : Below w'.heap.size w' W) => hM ▸ chosen_at l A off nl c rw_ bs A2 o2 nb c2 HNL.out HNB.out hl5 (by omega) HFY.out HB2.out W ((HV.out.below hW).mono hW.size) ((HV2.out.below hW).mono hW.size))
  have HMI := Lib.hid (show ∀ x ∈ M, x ∈ l ∧ inB x rw_ = true from fun x hx => by rw [← hM] at hx; exact inL_mem hx)
  have HXL := Lib.hid (show (chosenL M aa).length ≤ 40 ∧ (chosenL M bs).length ≤ 40 from ⟨Nat.le_trans (chosen_len _ _) (by rw [HNA.out]; omega), Nat.le_trans (chosen_len _ _) (by rw [HNB.out]; omega)⟩)
  have HXM := Lib.hid (show (∀ x ∈ chosenL M aa, x ∈ M) ∧ (∀ x ∈ chosenL M bs, x ∈ M) from ⟨fun x hx => chosen_mem hx, fun x hx => chosen_mem hx⟩)
  clear hM
  obtain ⟨X, hX⟩ : ∃ X, chosenL M aa = X := ⟨_, rfl⟩
  obtain ⟨Y, hY⟩ : ∃ X, chosenL M bs = X := ⟨_, rfl⟩
  rw [hX] at HCH1 HXL HXM
  rw [hY] at HCH2 HXL HXM
  clear hX hY
  go_wp2_with fail
  refine HCH1.out.mono ?_
  rintro e w3 ⟨v3, rfl, own3, hb3⟩
  have HBW3 := Lib.hid (chain HBW1.out HBW1.out.size hb3)
  have HR3 := Lib.hid (Reads.of_own (f := cR) (n := 5) cR_len rfl own3)
  obtain ⟨A3, k3, rfl, -, -, -⟩ := own_formR own3
  clear own3 hb3 HCH1
  go_wp2_with fail
  refine (HCH2.out _ HBW3.out).mono ?_
  rintro e w4 ⟨v4, rfl, own4, hb4⟩
  have HBW4 := Lib.hid (chain HBW3.out HBW3.out.size hb4)
  have HR34 := Lib.hid ((HR3.out.below hb4).mono hb4.size)
  have HR4 := Lib.hid (Reads.of_own (f := cR) (n := 5) cR_len rfl own4)
  obtain ⟨A4, k4, rfl, -, -, -⟩ := own_formR own4
  clear own4 hb4 HCH2
  go_upto_if 62 with fail
  go_cut [11, 12, 13, 14] (fun u11 u12 u13 u14 wx => ∃ (P Q : List Rl) (AP AQ : Option Addr) (cP cQ : Nat), u11 = .slice AP P.length cP ∧ u12 = .string (bytesOf (cellsR P)) ∧ u13 = .slice AQ Q.length cQ ∧ u14 = .string (bytesOf (cellsR Q)) ∧ ∃ w2, w2 = wx ∧ TwoRows w' w2 M P Q (.slice AP P.length cP) (.slice AQ Q.length cQ))
  case first =>
    by_cases hgt : Y.length < X.length
    · have tg : decide ((Y.length : Int) < (X.length : Int)) = true := decide_eq_true (by omega)
      go_wp2
      go_meet
      exact ⟨Y, X, A4, A3, k4, k3, rfl, rfl, rfl, rfl, _, rfl, ⟨HR4.out, HR34.out, by omega, HXL.out.1, HXM.out.2, HXM.out.1, HBW4.out⟩⟩
    · have tg : decide (Y.length < X.length) = false := decide_eq_false hgt
      go_wp2
      go_meet
      exact ⟨X, Y, A3, A4, k3, k4, rfl, rfl, rfl, rfl, _, rfl, ⟨HR34.out, HR4.out, by omega, HXL.out.2, HXM.out.1, HXM.out.2, HBW4.out⟩⟩
  case rest =>
  obtain ⟨P, Q, AP, AQ, cP, cQ, rfl, rfl, rfl, rfl, w2, hw2, hT⟩ := hcut
  subst hw2
  clear HR3 HR4 HR34 HXL HXM HBW4 HBW3 HBW1
  have HT := Lib.hid hT
  have hpq := hT.le
  have hq40 := hT.few
  obtain ⟨h1, h2, h3⟩ := one_bools HACC.out (row := rw_) (fun x hx => HMI.out x (hT.mP x hx)) (fun y hy => HMI.out y (hT.mQ y hy)) hT.le
  have h256 : ∀ R : List Rl, (∀ x ∈ R, x ∈ M) → ∀ b ∈ cellsR R, b < 256 := fun R hR b hb => by
    unfold cellsR at hb
    obtain ⟨x, hx, hbx⟩ := List.mem_flatMap.1 hb
    exact (HF.out x (HMI.out x (hR x hx)).1).2.2.2.2.1 b hbx
  obtain ⟨SP, hSP⟩ : ∃ s, bytesOf (cellsR P) = s := ⟨_, rfl⟩
  obtain ⟨SQ, hSQ⟩ : ∃ s, bytesOf (cellsR Q) = s := ⟨_, rfl⟩
  have eP : cellsR P = bytesN SP := by rw [← hSP, bytesN_bytesOf _ (h256 P hT.mP)]
  have eQ : cellsR Q = bytesN SQ := by rw [← hSQ, bytesN_bytesOf _ (h256 Q hT.mQ)]
  have c50 : ∀ R : List Rl, (∀ x ∈ R, x ∈ M) → R.length ≤ 40 → (cellsR R).length ≤ 40 * 50 := fun R hR hl => cells_len (fun x hx => (HFY.out x (HMI.out x (hR x hx)).1).2.2) hl
  have hSPs : SP.size ≤ 2000 := by rw [← hSP, bytesOf_size]; exact c50 P hT.mP (by omega)
  have hSQs : SQ.size ≤ 2000 := by rw [← hSQ, bytesOf_size]; exact c50 Q hT.mQ (by omega)
  rw [eP, eQ] at h1 h2 h3
  rw [hSP, hSQ]
  obtain ⟨lk, hlk⟩ : ∃ b, P.isPrefixOf Q = b := ⟨_, rfl⟩
  rw [hlk] at h1 h2 h3
  have HST := Lib.hid h1
  have HBWK := Lib.hid h2
  have HEQ := Lib.hid h3
  have HLK := Lib.hid hlk
  obtain ⟨np, hnp⟩ : ∃ n, P.length = n := ⟨_, rfl⟩
  obtain ⟨nq, hnq⟩ : ∃ n, Q.length = n := ⟨_, rfl⟩
  rw [hnp, hnq] at hpq HEQ
  rw [hnq] at hq40
  rw [hnp] at HT ⊢
  rw [hnq] at HT ⊢
  have HNP := Lib.hid hnp
  have HNQ := Lib.hid hnq
  clear hT h1 h2 h3 h256 hSP hSQ eP eQ c50 hlk hnp hnq
  go_wp2
  go_loopw [15, 16] (fun u15 u16 wr => ∃ k : Nat, k ≤ np ∧ u16 = .int .i64 (k : Int) ∧ u15 = .bool ((P.take k).isPrefixOf Q) ∧ Below w2.heap.size w2 wr) (fun _ u16 _ => np - (intOf u16).toNat)
  case atStart => exact ⟨0, by omega, rfl, rfl, Below.refl _ _⟩
  case round =>
    obtain ⟨k, hk, rfl, rfl, hB⟩ := hrel
    have HBW := Lib.hid hB
    clear hB
    by_cases hlt : k < np
    · have k0 : (0 : Int) ≤ (k : Int) := by omega
      have k1 : (k : Int) < (np : Int) := by omega
      have k2 : (k : Int) < (nq : Int) := by omega
      obtain ⟨x, hx⟩ : ∃ x, P[k]? = some x := ⟨_, List.getElem?_eq_getElem (by rw [HNP.out]; exact hlt)⟩
      obtain ⟨y, hy⟩ : ∃ y, Q[k]? = some y := ⟨_, List.getElem?_eq_getElem (by rw [HNQ.out]; omega)⟩
      have HNX := Lib.hid (take_pre hx hy)
      have hfx := HF.out x (HMI.out x (HT.out.mP x (List.mem_of_getElem? hx))).1
      have hfy := HF.out y (HMI.out y (HT.out.mQ y (List.mem_of_getElem? hy))).1
      have HSM := Lib.hid (rl_same hfx hfy)
      obtain ⟨A', c', e, hA⟩ := HT.out.rP
      injection e with e1 e2 e3
      subst e1; subst e3; clear e2
      obtain ⟨gP, rfl, hgPw, hgP⟩ := hA (by rw [HNP.out]; omega)
      obtain ⟨A', c', e, hA'⟩ := HT.out.rQ
      injection e with e1 e2 e3
      subst e1; subst e3; clear e2
      obtain ⟨gQ, rfl, hgQw, hgQ⟩ := hA' (by rw [HNQ.out]; omega)
      obtain ⟨x0, x1, x2, x3, x4⟩ := rcell hgP k x hx
      obtain ⟨y0, y1, y2, y3, y4⟩ := rcell hgQ k y hy
      obtain ⟨q1, l1, c1', p1, n1⟩ := x
      obtain ⟨q2, l2, c2', p2, n2⟩ := y
      obtain ⟨S1, hS1⟩ : ∃ S, bytesOf l1 = S := ⟨_, rfl⟩
      obtain ⟨T1, hT1⟩ : ∃ S, bytesOf c1' = S := ⟨_, rfl⟩
      obtain ⟨S2, hS2⟩ : ∃ S, bytesOf l2 = S := ⟨_, rfl⟩
      obtain ⟨T2, hT2⟩ : ∃ S, bytesOf c2' = S := ⟨_, rfl⟩
      simp only [hS1, hT1, hS2, hT2, Nat.zero_add] at x0 x1 x2 x3 x4 y0 y1 y2 y3 y4 HSM
      have HKC := Lib.hid (show ∀ W : World, Below wr.heap.size wr W → (W.cell? ⟨gP, k * 5, none⟩ = some (.int .i64 q1) ∧ W.cell? ⟨gP, k * 5 + 1, none⟩ = some (.string S1) ∧ W.cell? ⟨gP, k * 5 + 2, none⟩ = some (.string T1) ∧ W.cell? ⟨gP, k * 5 + 3, none⟩ = some (.int .i64 p1) ∧ W.cell? ⟨gP, k * 5 + 4, none⟩ = some (.int .i64 n1)) ∧ (W.cell? ⟨gQ, k * 5, none⟩ = some (.int .i64 q2) ∧ W.cell? ⟨gQ, k * 5 + 1, none⟩ = some (.string S2) ∧ W.cell? ⟨gQ, k * 5 + 2, none⟩ = some (.string T2) ∧ W.cell? ⟨gQ, k * 5 + 3, none⟩ = some (.int .i64 p2) ∧ W.cell? ⟨gQ, k * 5 + 4, none⟩ = some (.int .i64 n2)) ∧ Below w2.heap.size w2 W from fun W hW => by
        have hb := chain HBW.out HBW.out.size hW
        exact ⟨⟨(hb.cell (p := ⟨gP, k * 5, none⟩) hgPw).trans x0, (hb.cell (p := ⟨gP, k * 5 + 1, none⟩) hgPw).trans x1, (hb.cell (p := ⟨gP, k * 5 + 2, none⟩) hgPw).trans x2, (hb.cell (p := ⟨gP, k * 5 + 3, none⟩) hgPw).trans x3, (hb.cell (p := ⟨gP, k * 5 + 4, none⟩) hgPw).trans x4⟩,
          ⟨(hb.cell (p := ⟨gQ, k * 5, none⟩) hgQw).trans y0, (hb.cell (p := ⟨gQ, k * 5 + 1, none⟩) hgQw).trans y1, (hb.cell (p := ⟨gQ, k * 5 + 2, none⟩) hgQw).trans y2, (hb.cell (p := ⟨gQ, k * 5 + 3, none⟩) hgQw).trans y3, (hb.cell (p := ⟨gQ, k * 5 + 4, none⟩) hgQw).trans y4⟩, hb⟩)
      obtain ⟨d, hd⟩ : ∃ d, decide (q1 = q2 ∧ S1 = S2 ∧ T1 = T2 ∧ p1 = p2 ∧ n1 = n2) = d := ⟨_, rfl⟩
      have HD := Lib.hid hd
      have HDD := Lib.hid (show decide ((⟨q1, l1, c1', p1, n1⟩ : Rl) = ⟨q2, l2, c2', p2, n2⟩) = d from by rw [← hd, decide_eq_decide]; exact HSM.out.symm)
      clear hd
      obtain ⟨lj, hlj⟩ : ∃ b, (P.take k).isPrefixOf Q = b := ⟨_, rfl⟩
      rw [hlj] at HNX ⊢
      clear hx hy hfx hfy hA hA' hgP hgQ x0 x1 x2 x3 x4 y0 y1 y2 y3 y4 hS1 hT1 hS2 hT2 hlj hgPw hgQw
      cases lj
      case false =>
        go_upto_region 15 with fail
        have hS := (HKC.out _ (Below.refl _ _).drew)
        refine wp_region_held_drew (S := fun W => (W.cell? ⟨gP, k * 5, none⟩ = some (.int .i64 q1) ∧ W.cell? ⟨gP, k * 5 + 1, none⟩ = some (.string S1) ∧ W.cell? ⟨gP, k * 5 + 2, none⟩ = some (.string T1) ∧ W.cell? ⟨gP, k * 5 + 3, none⟩ = some (.int .i64 p1) ∧ W.cell? ⟨gP, k * 5 + 4, none⟩ = some (.int .i64 n1)) ∧ (W.cell? ⟨gQ, k * 5, none⟩ = some (.int .i64 q2) ∧ W.cell? ⟨gQ, k * 5 + 1, none⟩ = some (.string S2) ∧ W.cell? ⟨gQ, k * 5 + 2, none⟩ = some (.string T2) ∧ W.cell? ⟨gQ, k * 5 + 3, none⟩ = some (.int .i64 p2) ∧ W.cell? ⟨gQ, k * 5 + 4, none⟩ = some (.int .i64 n2)) ∧ Below w2.heap.size w2 W) (by kernel_rfl) hS (fun hHeld => ?_)
        refine wpAnyH_take (i := 0) (v := ?_) (by simp only [List.getElem?_toArray, List.getElem?_cons_zero]; rfl) (by kernel_rfl) (by kernel_rfl) (by kernel_rfl) (by exact fun _ _ _ h => h) (Or.inl ⟨by rfl, ?_⟩) (by with_reducible exact hS) ?_
        rotate_left
        · intro W hSw; (obtain ⟨⟨x0, x1, x2, x3, x4⟩, ⟨y0, y1, y2, y3, y4⟩, -⟩ := hSw); go_simp; all_goals (with_reducible rfl)
        try simp only [Act.put, List.setIfInBounds_toArray, List.set_cons_zero, List.set_cons_succ]
        refine wpAnyH_take (i := 1) (v := ?_) (by simp only [List.getElem?_toArray, List.getElem?_cons_succ, List.getElem?_cons_zero]; rfl) (by kernel_rfl) (by kernel_rfl) (by kernel_rfl) (by exact fun _ _ _ h => h) (Or.inl ⟨by rfl, ?_⟩) (by with_reducible exact hS) ?_
        rotate_left
        · intro W hSw; (obtain ⟨⟨x0, x1, x2, x3, x4⟩, ⟨y0, y1, y2, y3, y4⟩, -⟩ := hSw); go_simp; all_goals (with_reducible rfl)
        try simp only [Act.put, List.setIfInBounds_toArray, List.set_cons_zero, List.set_cons_succ]
        refine Rg.take_un 2 (by simp only [List.getElem?_toArray, List.getElem?_cons_succ, List.getElem?_cons_zero]; rfl) (by kernel_rfl) (by kernel_rfl) (by kernel_rfl) (by exact fun _ _ _ h => h) (by rfl) (by with_reducible exact hS) ?_
        try simp only [Act.put, List.setIfInBounds_toArray, List.set_cons_zero, List.set_cons_succ]
        refine Rg.take_un 3 (by simp only [List.getElem?_toArray, List.getElem?_cons_succ, List.getElem?_cons_zero]; rfl) (by kernel_rfl) (by kernel_rfl) (by kernel_rfl) (by exact fun _ _ _ h => h) (by rfl) (by with_reducible exact hS) ?_
        try simp only [Act.put, List.setIfInBounds_toArray, List.set_cons_zero, List.set_cons_succ]
        refine Rg.take_un 4 (by simp only [List.getElem?_toArray, List.getElem?_cons_succ, List.getElem?_cons_zero]; rfl) (by kernel_rfl) (by kernel_rfl) (by kernel_rfl) (by exact fun _ _ _ h => h) (by rfl) (by with_reducible exact hS) ?_
        try simp only [Act.put, List.setIfInBounds_toArray, List.set_cons_zero, List.set_cons_succ]
        refine Rg.take_un 5 (by simp only [List.getElem?_toArray, List.getElem?_cons_succ, List.getElem?_cons_zero]; rfl) (by kernel_rfl) (by kernel_rfl) (by kernel_rfl) (by exact fun _ _ _ h => h) (by rfl) (by with_reducible exact hS) ?_
        try simp only [Act.put, List.setIfInBounds_toArray, List.set_cons_zero, List.set_cons_succ]
        refine Rg.take_un 6 (by simp only [List.getElem?_toArray, List.getElem?_cons_succ, List.getElem?_cons_zero]; rfl) (by kernel_rfl) (by kernel_rfl) (by kernel_rfl) (by exact fun _ _ _ h => h) (by rfl) (by with_reducible exact hS) ?_
        try simp only [Act.put, List.setIfInBounds_toArray, List.set_cons_zero, List.set_cons_succ]
        refine Rg.take_un 7 (by simp only [List.getElem?_toArray, List.getElem?_cons_succ, List.getElem?_cons_zero]; rfl) (by kernel_rfl) (by kernel_rfl) (by kernel_rfl) (by exact fun _ _ _ h => h) (by rfl) (by with_reducible exact hS) ?_
        try simp only [Act.put, List.setIfInBounds_toArray, List.set_cons_zero, List.set_cons_succ]
        refine Rg.take_un 8 (by simp only [List.getElem?_toArray, List.getElem?_cons_succ, List.getElem?_cons_zero]; rfl) (by kernel_rfl) (by kernel_rfl) (by kernel_rfl) (by exact fun _ _ _ h => h) (by rfl) (by with_reducible exact hS) ?_
        try simp only [Act.put, List.setIfInBounds_toArray, List.set_cons_zero, List.set_cons_succ]
        refine Rg.take_un 9 (by simp only [List.getElem?_toArray, List.getElem?_cons_succ, List.getElem?_cons_zero]; rfl) (by kernel_rfl) (by kernel_rfl) (by kernel_rfl) (by exact fun _ _ _ h => h) (by rfl) (by with_reducible exact hS) ?_
        try simp only [Act.put, List.setIfInBounds_toArray, List.set_cons_zero, List.set_cons_succ]
        refine Rg.take_un 10 (by simp only [List.getElem?_toArray, List.getElem?_cons_succ, List.getElem?_cons_zero]; rfl) (by kernel_rfl) (by kernel_rfl) (by kernel_rfl) (by exact fun _ _ _ h => h) (by rfl) (by with_reducible exact hS) ?_
        try simp only [Act.put, List.setIfInBounds_toArray, List.set_cons_zero, List.set_cons_succ]
        refine wpAnyH_take (i := 11) (v := ?_) (by simp only [List.getElem?_toArray, List.getElem?_cons_succ, List.getElem?_cons_zero]; rfl) (by kernel_rfl) (by kernel_rfl) (by kernel_rfl) (by exact fun _ _ _ h => h) (Or.inl ⟨by rfl, ?_⟩) (by with_reducible exact hS) ?_
        rotate_left
        · intro W hSw; (obtain ⟨⟨x0, x1, x2, x3, x4⟩, ⟨y0, y1, y2, y3, y4⟩, -⟩ := hSw); go_simp; all_goals (with_reducible rfl)
        try simp only [Act.put, List.setIfInBounds_toArray, List.set_cons_zero, List.set_cons_succ]
        refine wpAnyH_take (i := 12) (v := ?_) (by simp only [List.getElem?_toArray, List.getElem?_cons_succ, List.getElem?_cons_zero]; rfl) (by kernel_rfl) (by kernel_rfl) (by kernel_rfl) (by exact fun _ _ _ h => h) (Or.inl ⟨by rfl, ?_⟩) (by with_reducible exact hS) ?_
        rotate_left
        · intro W hSw; (obtain ⟨⟨x0, x1, x2, x3, x4⟩, ⟨y0, y1, y2, y3, y4⟩, -⟩ := hSw); go_simp; all_goals (with_reducible rfl)
        try simp only [Act.put, List.setIfInBounds_toArray, List.set_cons_zero, List.set_cons_succ]
        refine wpAnyH_done (by kernel_rfl) ?_ _
        have HE := Lib.hid hS.2.2
        go_wp2
        go_roundw
        case rel => exact ⟨k + 1, by omega, by go_num, by rw [HNX.out]; rfl, HE.out⟩
        case measure => simp [intOf]; omega
      case true =>
        go_upto_region 15 with fail
        have hS := (HKC.out _ (Below.refl _ _).drew)
        refine wp_region_held_drew (S := fun W => (W.cell? ⟨gP, k * 5, none⟩ = some (.int .i64 q1) ∧ W.cell? ⟨gP, k * 5 + 1, none⟩ = some (.string S1) ∧ W.cell? ⟨gP, k * 5 + 2, none⟩ = some (.string T1) ∧ W.cell? ⟨gP, k * 5 + 3, none⟩ = some (.int .i64 p1) ∧ W.cell? ⟨gP, k * 5 + 4, none⟩ = some (.int .i64 n1)) ∧ (W.cell? ⟨gQ, k * 5, none⟩ = some (.int .i64 q2) ∧ W.cell? ⟨gQ, k * 5 + 1, none⟩ = some (.string S2) ∧ W.cell? ⟨gQ, k * 5 + 2, none⟩ = some (.string T2) ∧ W.cell? ⟨gQ, k * 5 + 3, none⟩ = some (.int .i64 p2) ∧ W.cell? ⟨gQ, k * 5 + 4, none⟩ = some (.int .i64 n2)) ∧ Below w2.heap.size w2 W) (by kernel_rfl) hS (fun hHeld => ?_)
        refine wpAnyH_take (i := 0) (v := ?_) (by simp only [List.getElem?_toArray, List.getElem?_cons_zero]; rfl) (by kernel_rfl) (by kernel_rfl) (by kernel_rfl) (by exact fun _ _ _ h => h) (Or.inl ⟨by rfl, ?_⟩) (by with_reducible exact hS) ?_
        rotate_left
        · intro W hSw; (obtain ⟨⟨x0, x1, x2, x3, x4⟩, ⟨y0, y1, y2, y3, y4⟩, -⟩ := hSw); go_simp; all_goals (with_reducible rfl)
        try simp only [Act.put, List.setIfInBounds_toArray, List.set_cons_zero, List.set_cons_succ]
        refine wpAnyH_take (i := 1) (v := ?_) (by simp only [List.getElem?_toArray, List.getElem?_cons_succ, List.getElem?_cons_zero]; rfl) (by kernel_rfl) (by kernel_rfl) (by kernel_rfl) (by exact fun _ _ _ h => h) (Or.inl ⟨by rfl, ?_⟩) (by with_reducible exact hS) ?_
        rotate_left
        · intro W hSw; (obtain ⟨⟨x0, x1, x2, x3, x4⟩, ⟨y0, y1, y2, y3, y4⟩, -⟩ := hSw); go_simp; all_goals (with_reducible rfl)
        try simp only [Act.put, List.setIfInBounds_toArray, List.set_cons_zero, List.set_cons_succ]
        refine wpAnyH_take (i := 2) (v := ?_) (by simp only [List.getElem?_toArray, List.getElem?_cons_succ, List.getElem?_cons_zero]; rfl) (by kernel_rfl) (by kernel_rfl) (by kernel_rfl) (by exact fun _ _ _ h => h) (Or.inl ⟨by rfl, ?_⟩) (by with_reducible exact hS) ?_
        rotate_left
        · intro W hSw; (obtain ⟨⟨x0, x1, x2, x3, x4⟩, ⟨y0, y1, y2, y3, y4⟩, -⟩ := hSw); go_simp; all_goals (with_reducible rfl)
        try simp only [Act.put, List.setIfInBounds_toArray, List.set_cons_zero, List.set_cons_succ]
        refine wpAnyH_take (i := 3) (v := ?_) (by simp only [List.getElem?_toArray, List.getElem?_cons_succ, List.getElem?_cons_zero]; rfl) (by kernel_rfl) (by kernel_rfl) (by kernel_rfl) (by exact fun _ _ _ h => h) (Or.inl ⟨by rfl, ?_⟩) (by with_reducible exact hS) ?_
        rotate_left
        · intro W hSw; (obtain ⟨⟨x0, x1, x2, x3, x4⟩, ⟨y0, y1, y2, y3, y4⟩, -⟩ := hSw); go_simp; all_goals (with_reducible rfl)
        try simp only [Act.put, List.setIfInBounds_toArray, List.set_cons_zero, List.set_cons_succ]
        refine wpAnyH_take (i := 4) (v := ?_) (by simp only [List.getElem?_toArray, List.getElem?_cons_succ, List.getElem?_cons_zero]; rfl) (by kernel_rfl) (by kernel_rfl) (by kernel_rfl) (by exact fun _ _ _ h => h) (Or.inl ⟨by rfl, ?_⟩) (by with_reducible exact hS) ?_
        rotate_left
        · intro W hSw; (obtain ⟨⟨x0, x1, x2, x3, x4⟩, ⟨y0, y1, y2, y3, y4⟩, -⟩ := hSw); go_simp; all_goals (with_reducible rfl)
        try simp only [Act.put, List.setIfInBounds_toArray, List.set_cons_zero, List.set_cons_succ]
        refine wpAnyH_take (i := 5) (v := ?_) (by simp only [List.getElem?_toArray, List.getElem?_cons_succ, List.getElem?_cons_zero]; rfl) (by kernel_rfl) (by kernel_rfl) (by kernel_rfl) (by exact fun _ _ _ h => h) (Or.inl ⟨by rfl, ?_⟩) (by with_reducible exact hS) ?_
        rotate_left
        · intro W hSw; (obtain ⟨⟨x0, x1, x2, x3, x4⟩, ⟨y0, y1, y2, y3, y4⟩, -⟩ := hSw); go_simp; all_goals (with_reducible rfl)
        try simp only [Act.put, List.setIfInBounds_toArray, List.set_cons_zero, List.set_cons_succ]
        refine wpAnyH_take (i := 6) (v := ?_) (by simp only [List.getElem?_toArray, List.getElem?_cons_succ, List.getElem?_cons_zero]; rfl) (by kernel_rfl) (by kernel_rfl) (by kernel_rfl) (by exact fun _ _ _ h => h) (Or.inl ⟨by rfl, ?_⟩) (by with_reducible exact hS) ?_
        rotate_left
        · intro W hSw; (obtain ⟨⟨x0, x1, x2, x3, x4⟩, ⟨y0, y1, y2, y3, y4⟩, -⟩ := hSw); go_simp; all_goals (with_reducible rfl)
        try simp only [Act.put, List.setIfInBounds_toArray, List.set_cons_zero, List.set_cons_succ]
        refine wpAnyH_take (i := 7) (v := ?_) (by simp only [List.getElem?_toArray, List.getElem?_cons_succ, List.getElem?_cons_zero]; rfl) (by kernel_rfl) (by kernel_rfl) (by kernel_rfl) (by exact fun _ _ _ h => h) (Or.inl ⟨by rfl, ?_⟩) (by with_reducible exact hS) ?_
        rotate_left
        · intro W hSw; (obtain ⟨⟨x0, x1, x2, x3, x4⟩, ⟨y0, y1, y2, y3, y4⟩, -⟩ := hSw); go_simp; all_goals (with_reducible rfl)
        try simp only [Act.put, List.setIfInBounds_toArray, List.set_cons_zero, List.set_cons_succ]
        refine wpAnyH_take (i := 8) (v := ?_) (by simp only [List.getElem?_toArray, List.getElem?_cons_succ, List.getElem?_cons_zero]; rfl) (by kernel_rfl) (by kernel_rfl) (by kernel_rfl) (by exact fun _ _ _ h => h) (Or.inl ⟨by rfl, ?_⟩) (by with_reducible exact hS) ?_
        rotate_left
        · intro W hSw; (obtain ⟨⟨x0, x1, x2, x3, x4⟩, ⟨y0, y1, y2, y3, y4⟩, -⟩ := hSw); go_simp; all_goals (with_reducible rfl)
        try simp only [Act.put, List.setIfInBounds_toArray, List.set_cons_zero, List.set_cons_succ]
        refine wpAnyH_take (i := 9) (v := ?_) (by simp only [List.getElem?_toArray, List.getElem?_cons_succ, List.getElem?_cons_zero]; rfl) (by kernel_rfl) (by kernel_rfl) (by kernel_rfl) (by exact fun _ _ _ h => h) (Or.inl ⟨by rfl, ?_⟩) (by with_reducible exact hS) ?_
        rotate_left
        · intro W hSw; (obtain ⟨⟨x0, x1, x2, x3, x4⟩, ⟨y0, y1, y2, y3, y4⟩, -⟩ := hSw); go_simp; all_goals (with_reducible rfl)
        try simp only [Act.put, List.setIfInBounds_toArray, List.set_cons_zero, List.set_cons_succ]
        refine Rg.take_w 10 (by simp only [List.getElem?_toArray, List.getElem?_cons_succ, List.getElem?_cons_zero]; rfl) (by kernel_rfl) (by kernel_rfl) (by kernel_rfl) (.bool d) (by exact fun _ _ _ h => h) (by rfl) (by intro W hSw; (obtain ⟨⟨x0, x1, x2, x3, x4⟩, ⟨y0, y1, y2, y3, y4⟩, -⟩ := hSw); go_simp; rw [← HD.out]; exact eq5 _ _ _ _ _ _ _ _ _ _ (fun b => Result.ok (Next.value (Value.bool b)) W)) (by with_reducible exact hS) ?_
        try simp only [Act.put, List.setIfInBounds_toArray, List.set_cons_zero, List.set_cons_succ]
        refine wpAnyH_take (i := 11) (v := ?_) (by simp only [List.getElem?_toArray, List.getElem?_cons_succ, List.getElem?_cons_zero]; rfl) (by kernel_rfl) (by kernel_rfl) (by kernel_rfl) (by exact fun _ _ _ h => h) (Or.inl ⟨by rfl, ?_⟩) (by with_reducible exact hS) ?_
        rotate_left
        · intro W hSw; (obtain ⟨⟨x0, x1, x2, x3, x4⟩, ⟨y0, y1, y2, y3, y4⟩, -⟩ := hSw); go_simp; all_goals (with_reducible rfl)
        try simp only [Act.put, List.setIfInBounds_toArray, List.set_cons_zero, List.set_cons_succ]
        refine wpAnyH_take (i := 12) (v := ?_) (by simp only [List.getElem?_toArray, List.getElem?_cons_succ, List.getElem?_cons_zero]; rfl) (by kernel_rfl) (by kernel_rfl) (by kernel_rfl) (by exact fun _ _ _ h => h) (Or.inl ⟨by rfl, ?_⟩) (by with_reducible exact hS) ?_
        rotate_left
        · intro W hSw; (obtain ⟨⟨x0, x1, x2, x3, x4⟩, ⟨y0, y1, y2, y3, y4⟩, -⟩ := hSw); go_simp; all_goals (with_reducible rfl)
        try simp only [Act.put, List.setIfInBounds_toArray, List.set_cons_zero, List.set_cons_succ]
        refine wpAnyH_done (by kernel_rfl) ?_ _
        have HE := Lib.hid hS.2.2
        go_wp2
        go_roundw
        case rel => exact ⟨k + 1, by omega, by go_num, by rw [HNX.out, HDD.out]; rfl, HE.out⟩
        case measure => simp [intOf]; omega
    · have HLKE := Lib.hid (show (P.take k).isPrefixOf Q = lk from by rw [List.take_of_length_le (by rw [HNP.out]; omega)]; exact HLK.out)
      have t1 : decide (k < np) = false := decide_eq_false hlt
      rw [HLKE.out]
      obtain ⟨st, hst⟩ : ∃ b, (bytesN SP).isPrefixOf (bytesN SQ) = b := ⟨_, rfl⟩
      obtain ⟨bw, hbw⟩ : ∃ b, (bytesN SQ).isPrefixOf (bytesN SP) = b := ⟨_, rfl⟩
      have HS1 := Lib.hid ((begins_is SP SQ).trans hst)
      have HS2 := Lib.hid ((begins_is SQ SP).trans hbw)
      have HST2 := Lib.hid (hst.symm.trans HST.out)
      have HBW2 := Lib.hid (show bw = true → lk = true from fun h => HBWK.out (hbw.trans h))
      have HWB := Lib.hid (show Below w'.heap.size w' wr from chain HT.out.below HT.out.below.size HBW.out)
      clear hst hbw
      go_upto_region 16 with fail
      go_cut [17] (fun u17 wx => u17 = .bool st ∧ Below w'.heap.size w' wx)
      case first =>
        by_cases h : SP.size ≤ SQ.size
        · have t2 : decide ((SP.size : Int) ≤ SQ.size) = true := decide_eq_true (by omega)
          by_cases e : SQ.extract 0 SP.size = SP
          · have HV := Lib.hid (show true = st by rw [← HS1.out, decide_eq_true h, decide_eq_true e]; rfl)
            go_wp2
            go_meet
            exact ⟨by rw [← HV.out], HWB.out⟩
          · have HV := Lib.hid (show false = st by rw [← HS1.out, decide_eq_true h, decide_eq_false e]; rfl)
            have hne := toList_ne e
            go_wp2
            go_meet
            exact ⟨by rw [← HV.out], HWB.out⟩
        · have HV := Lib.hid (show false = st by rw [← HS1.out, decide_eq_false h]; rfl)
          have t2 : decide (SP.size ≤ SQ.size) = false := decide_eq_false h
          go_wp2
          go_meet
          exact ⟨by rw [← HV.out], HWB.out⟩
      case rest =>
      obtain ⟨rfl, hwx⟩ := hcut
      clear HWB HBW
      have HWB := Lib.hid hwx
      clear hwx
      go_upto_region 17 with fail
      go_cut [18] (fun u18 wx => u18 = .bool bw ∧ Below w'.heap.size w' wx)
      case first =>
        by_cases h : SQ.size ≤ SP.size
        · have t2 : decide ((SQ.size : Int) ≤ SP.size) = true := decide_eq_true (by omega)
          by_cases e : SP.extract 0 SQ.size = SQ
          · have HV := Lib.hid (show true = bw by rw [← HS2.out, decide_eq_true h, decide_eq_true e]; rfl)
            go_wp2
            go_meet
            exact ⟨by rw [← HV.out], HWB.out⟩
          · have HV := Lib.hid (show false = bw by rw [← HS2.out, decide_eq_true h, decide_eq_false e]; rfl)
            have hne := toList_ne e
            go_wp2
            go_meet
            exact ⟨by rw [← HV.out], HWB.out⟩
        · have HV := Lib.hid (show false = bw by rw [← HS2.out, decide_eq_false h]; rfl)
          have t2 : decide (SQ.size ≤ SP.size) = false := decide_eq_false h
          go_wp2
          go_meet
          exact ⟨by rw [← HV.out], HWB.out⟩
      case rest =>
      obtain ⟨rfl, hwx⟩ := hcut
      clear HWB
      have HWB := Lib.hid hwx
      clear hwx
      obtain rfl : st = lk := HST2.out
      by_cases hEQ : SP = SQ
      · have hb : decide (bytesN SP = bytesN SQ) = true := decide_eq_true (by rw [hEQ])
        have hl := HEQ.out.symm.trans hb
        rw [Bool.and_eq_true, decide_eq_true_eq] at hl
        obtain ⟨hl1, hl2⟩ := hl
        subst hl1
        subst hEQ
        have tn : ((np : Int) == (nq : Int)) = true := by rw [beq_iff_eq]; omega
        have s1 : (SP.toList == SP.toList) = true := by simp
        cases bw
        all_goals
         go_wp2_with fail
         refine (HAW.out _ (HL.out.kept HWB.out)).mono ?_
         rintro e w9 ⟨rfl, hb9⟩
         have HE := Lib.hid (chain HWB.out HWB.out.size hb9)
         clear hb9
         go_wp2
         go_ret
         exact ⟨rfl, HE.out⟩
      · have hb : decide (bytesN SP = bytesN SQ) = false := decide_eq_false (fun h => hEQ (bytes_ext h))
        have hl := HEQ.out.symm.trans hb
        have s1 := toList_ne hEQ
        clear hEQ
        cases st
        case true =>
          have tn : ((np : Int) == (nq : Int)) = false := by
            rw [Bool.true_and, decide_eq_false_iff_not] at hl
            exact beq_eq_false_iff_ne.2 (by omega)
          cases bw
          all_goals
           go_wp2_with fail
           refine (HAW.out _ (HL.out.kept HWB.out)).mono ?_
           rintro e w9 ⟨rfl, hb9⟩
           have HE := Lib.hid (chain HWB.out HWB.out.size hb9)
           clear hb9
           go_wp2
           go_ret
           exact ⟨rfl, HE.out⟩
        case false =>
          obtain rfl : bw = false := by
            cases bw
            · rfl
            · exact absurd (HBW2.out rfl) (by simp)
          go_wp2_with fail
          refine (HAW.out _ (HL.out.kept HWB.out)).mono ?_
          rintro e w9 ⟨rfl, hb9⟩
          have HE := Lib.hid (chain HWB.out HWB.out.size hb9)
          clear hb9
          go_wp2
          go_ret
          exact ⟨rfl, HE.out⟩
end Go.Proofs.YtlibmfflgpkjmaaDoor.Ck
