/-
  The landed tree's open nodes: fits, say.
-/
import Derived.Test.YtbldloniijmchaaDoorTsD
namespace Go.Proofs.YtbldloniijmchaaDoor.Tr
open Go.RowKit

theorem withinF_congr {l l' : List Lv} (h : ∀ i, (l'.getD i lv0).kind = (l.getD i lv0).kind) (k : Nat) : ∀ n, withinF l' k n = withinF l k n
  | 0 => rfl
  | n + 1 => by unfold withinF; rw [h n, withinF_congr h k n]
theorem blockF_congr {l l' : List Lv} (h : ∀ i, (l'.getD i lv0).kind = (l.getD i lv0).kind) : ∀ n, blockF l' n = blockF l n
  | 0 => rfl
  | n + 1 => by unfold blockF; rw [h n, blockF_congr h n]
theorem kind_modify (l : List Lv) (j : Nat) (f : Lv → Lv) (hf : ∀ b, (f b).kind = b.kind) (i : Nat) : ((l.modify j f).getD i lv0).kind = (l.getD i lv0).kind := by
  rw [getD_modify]; split <;> simp [hf]
theorem within_count (o : St) (k q : Nat) : withinL (countS o k).lv q = withinL o.lv q := by
  unfold withinL countS
  simp only [List.length_modify]
  exact withinF_congr (kind_modify _ _ (onePart k) fun _ => rfl) _ _
theorem withinF_lt {l : List Lv} {k i : Nat} : ∀ n, withinF l k n = some i → i < n
  | 0 => fun h => by cases h
  | n + 1 => fun h => by
    unfold withinF at h
    split at h
    · split at h
      · cases h; omega
      · have := withinF_lt n h; omega
    · cases h
/-- Behind fits. -/
def fitsS (o : St) (i : Nat) (b : Lv) (c : Nat) : St := if b.cols = 0 then { o with lv := o.lv.set i (withCols c b) } else o

set_option maxHeartbeats 4000000 in
/-- fits -/
theorem fits_at {w : World} {N P M n L : Nat} {o : St} (h : OpM w N P M n L o) {i : Nat} {b : Lv} (hb : o.lv[i]? = some b) (c : Nat) (v : Bool) (hv : (b.cols == 0 || b.cols == c) = v) :
    Calls Tryd.prog 49 #[.pointer (some ⟨L, i * 8, none⟩), .int .i64 (c : Int)] w fun e w' => e = .returned (.bool v) ∧ OpM w' N P M n L (fitsS o i b c) ∧ Fr P L w w' := by
  obtain ⟨-, -, -, -, -, b5, -, -⟩ := h.at hb
  have f1 := h.frozenL
  obtain ⟨q, hq⟩ : ∃ q, b.cols = q := ⟨_, rfl⟩
  rw [hq] at b5 hv
  by_cases h0 : q = 0
  · have hfin := h.put hb (j := 5) (by omega) (.int .i64 (c : Int)) (b' := withCols c b) rfl rfl
    have HFIN := Lib.hid (show OpM _ N P M n L (fitsS o i b c) ∧ _ by unfold fitsS; rw [if_pos (hq.trans h0)]; exact hfin)
    have HV := Lib.hid (show true = v by rw [← hv, h0]; rfl)
    subst h0
    clear h hb hq hv hfin
    go_enter Tryd.func49, Tryd.ntmps49
    go_wp2
    go_ret
    exact ⟨Ba.ret_bool HV.out, HFIN.out⟩
  · have HFIN := Lib.hid (show OpM w N P M n L (fitsS o i b c) by unfold fitsS; rw [if_neg (by rw [hq]; exact h0)]; exact h)
    have t1 : ((q : Int) == 0) = false := intNe h0
    have HV := Lib.hid (show ((q : Int) == (c : Int)) = v by
      rw [← hv, show (q == 0) = false from beq_eq_false_iff_ne.2 h0, Bool.false_or]
      by_cases e : q = c
      · subst e; simp
      · rw [intNe e]; exact (beq_eq_false_iff_ne.2 e).symm)
    clear h hb hq hv h0
    go_enter Tryd.func49, Tryd.ntmps49
    go_wp2
    go_ret
    exact ⟨Ba.ret_bool HV.out, HFIN.out, Fr.refl _ _ _⟩

/-- say, where a text may not stand. -/
theorem say_no {w : World} {N P M n L : Nat} {o : St} (h : OpM w N P M n L o) (nb : Nat) (hv : mayL o.lv 46 = false) :
    Calls Tryd.prog 35 #[.pointer (some ⟨P, 0, none⟩), .int .i64 (nb : Int)] w fun e w' => e = .returned (.bool false) ∧ ∃ j, w' = w.drewN j := by
  have H := Lib.hid h
  have HV := Lib.hid hv
  clear h hv
  go_enter Tryd.func35, Tryd.ntmps35
  go_wp2_with (go_at_call 43; refine (may_at H.out 46 (by decide) 46 rfl false HV.out).mono ?_; rintro e w' ⟨rfl, j, rfl⟩)
  go_ret
  exact ⟨rfl, _, rfl⟩
/-- The note's bytes behind a text in it. -/
theorem say_fin {w2 : World} {N P M n L : Nat} {o : St} (h2 : OpM w2 N P M n L (countS o 46)) {i : Nat} {b : Lv} (hi : withinL o.lv 110 = some i) (hb : (countS o 46).lv[i]? = some b) {nb t : Nat} {mu : Bool} (ht : b.bytes = t) (hmu : (countS o 46).much = mu)
    (c : Bool) (hc : (mu || decide (60 < t + nb)) = c) (W : World) (hW : W.heap = ((w2.setCell ⟨L, i * 8 + 7, none⟩ (.int .i64 ((t : Int) + (nb : Int)))).setCell ⟨P, 4, none⟩ (.bool c)).heap) (e1 : W.os = w2.os) (e2 : W.tape = w2.tape) (e3 : W.output = w2.output) :
    OpM W N P M n L (sayS o nb) ∧ Fr P L w2 W := by
  subst ht; subst hmu; subst hc
  have p2 := h2.put hb (j := 7) (by omega) (.int .i64 ((b.bytes : Int) + (nb : Int))) (b' := moreBytes nb b) (by simp [cL, moreBytes]) rfl
  rw [set_modify hb] at p2
  have p4 := p2.1.putMuch ((countS o 46).much || decide (60 < b.bytes + nb))
  refine ⟨?_, (p2.2.trans p4.2 (.inl rfl)).of_heap hW e1 e2 e3⟩
  have hD : (o.lv.getD i lv0).bytes = b.bytes := by
    have h1 : ((countS o 46).lv.getD i lv0).bytes = b.bytes := by rw [getD_of hb]
    rw [← h1]
    unfold countS
    simp only []
    rw [getD_modify]
    split <;> rfl
  unfold sayS
  rw [hi]
  simp only [hD]
  exact p4.1.of_heap hW
set_option maxHeartbeats 4000000 in
/-- say, where a text may stand. -/
theorem say_yes {w : World} {N P M n L : Nat} {o : St} (h : OpM w N P M n L o) (nb : Nat) (hv : mayL o.lv 46 = true) (hp : (topL o.lv).parts < 4611686018427387904) (hn : o.nodes < 4611686018427387904)
    (hbs : nb < 4611686018427387904 ∧ ∀ b ∈ o.lv, b.bytes < 4611686018427387904) :
    Calls Tryd.prog 35 #[.pointer (some ⟨P, 0, none⟩), .int .i64 (nb : Int)] w fun e w' => e = .returned (.bool true) ∧ OpM w' N P M n L (sayS o nb) ∧ Fr P L w w' := by
  have H := Lib.hid h
  have HV := Lib.hid hv
  obtain ⟨hnb, hbs⟩ := hbs
  cases hwi : withinL o.lv 110 with
  | none =>
    have HW := Lib.hid ((within_count o 46 110).trans hwi)
    have HS := Lib.hid (show sayS o nb = countS o 46 by unfold sayS; rw [hwi])
    clear h hv hwi hbs
    go_enter Tryd.func35, Tryd.ntmps35
    go_wp2_with (first
      | (go_at_call 43; refine (may_at H.out 46 (by decide) 46 rfl true HV.out).mono ?_; rintro e w' ⟨rfl, j, rfl⟩; have h1 := H.out.drewN j; have HF := Lib.hid ((Fr.refl P L w).drewN j); generalize w.drewN j = w1 at h1 HF; replace h1 := Lib.hid h1)
      | (go_at_call 52; refine (count_at h1.out 46 (by decide) 46 rfl hp hn).mono ?_; rintro e w2 ⟨rfl, h2, hf2⟩; replace h2 := Lib.hid h2; replace hf2 := Lib.hid (HF.out.trans hf2 (.inl rfl)))
      | (go_at_call 53; refine (within_at h2.out 110 none HW.out).mono ?_; rintro e w3 ⟨rfl, rfl⟩; dsimp only [ptrV]))
    go_ret
    exact ⟨rfl, by rw [HS.out]; exact h2.out, hf2.out⟩
  | some i =>
    have hil : i < (countS o 46).lv.length := by
      have := withinF_lt _ hwi
      unfold countS; simp only [List.length_modify]; exact this
    obtain ⟨b, hb⟩ := some_at hil
    have hbb : b.bytes < 4611686018427387904 := by
      have h1 : (countS o 46).lv[i]? = ((o.lv.modify (o.lv.length - 1) (onePart 46)))[i]? := rfl
      rw [hb, List.getElem?_modify] at h1
      cases ho : o.lv[i]? with
      | none => rw [ho] at h1; cases h1
      | some d =>
        rw [ho] at h1
        have hd := hbs d (List.mem_of_getElem? ho)
        by_cases e : o.lv.length - 1 = i
        · simp [e] at h1; subst h1; exact hd
        · simp [e] at h1; subst h1; exact hd
    have HW := Lib.hid ((within_count o 46 110).trans hwi)
    have HWI := Lib.hid hwi
    have HB := Lib.hid hb
    obtain ⟨t, ht⟩ : ∃ t, b.bytes = t := ⟨_, rfl⟩
    obtain ⟨mu, hmu⟩ : ∃ mu, (countS o 46).much = mu := ⟨_, rfl⟩
    have HT := Lib.hid ht
    have HMU := Lib.hid hmu
    rw [ht] at hbb
    clear h hv hwi hbs hil hb ht hmu
    cases mu
    all_goals
      go_enter Tryd.func35, Tryd.ntmps35
      go_wp2_with (first
        | (go_at_call 43; refine (may_at H.out 46 (by decide) 46 rfl true HV.out).mono ?_; rintro e w' ⟨rfl, j, rfl⟩; have h1 := H.out.drewN j; have HF := Lib.hid ((Fr.refl P L w).drewN j); generalize w.drewN j = w1 at h1 HF; replace h1 := Lib.hid h1)
        | (go_at_call 52; refine (count_at h1.out 46 (by decide) 46 rfl hp hn).mono ?_; rintro e w2 ⟨rfl, h2, hf2⟩; replace h2 := Lib.hid h2; replace hf2 := Lib.hid (HF.out.trans hf2 (.inl rfl)))
        | (go_at_call 53; refine (within_at h2.out 110 (some i) HW.out).mono ?_; rintro e w3 ⟨rfl, rfl⟩; dsimp only [ptrV]; have b7 := (h2.out.at HB.out).2.2.2.2.2.2.2; rw [HT.out] at b7; have c4 := h2.out.c4; rw [HMU.out] at c4; have f0 := h2.out.fz; have f1 := h2.out.frozenL; have hne := h2.out.neLP))
      go_ret
    · have hfin := say_fin h2.out HWI.out HB.out (nb := nb) HT.out HMU.out (decide ((60 : Int) < (t : Int) + (nb : Int))) (by rw [Bool.false_or]; exact decide_eq_decide.2 (by omega)) _ rfl rfl rfl rfl
      exact ⟨rfl, hfin.1.of_heap rfl, hf2.out.trans (hfin.2.of_heap rfl rfl rfl rfl) (.inl rfl)⟩
    · have hfin := say_fin h2.out HWI.out HB.out (nb := nb) HT.out HMU.out true rfl _ rfl rfl rfl rfl
      exact ⟨rfl, hfin.1.of_heap rfl, hf2.out.trans (hfin.2.of_heap rfl rfl rfl rfl) (.inl rfl)⟩
end Go.Proofs.YtbldloniijmchaaDoor.Tr
