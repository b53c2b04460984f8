/-
  Put together: NlQ, NlR, NlS, NlT.
-/
import Derived.Test.YtbldloniijmchaaDoorNg
import Derived.Test.YtbldloniijmchaaDoorNb
import Derived.Test.YtbldloniijmchaaDoorTrV
import Derived.Lib.SliceRun
namespace Go.Proofs.YtbldloniijmchaaDoor.Nl
open Go.RowKit Tr Nu

section
variable {w w' : World} {N M : Nat} {t : List Nd} {P : Nat → Nat} {S : Nat → List Nat} {va : Value} {A : List (Rs × Value)}
theorem RestI.rd (h : RestI w w' N M t P S va A (fun _ => true)) (hs : Sized t) : RestRd w' t va A where
  row := own_base h.row (Nat.zero_le _)
  len := h.len
  kept p hp := by
    obtain ⟨i, hi⟩ := List.mem_iff_getElem?.1 hp
    have hil : i < t.length := by rw [← h.len]; exact (List.getElem?_eq_some_iff.1 hi).1
    obtain ⟨q, hq, he⟩ := h.ent i hil
    rw [hi] at hq
    cases hq
    rcases he with ⟨f, a1, a2, a3, a4, a5, a6, a7⟩ | ⟨-, rfl⟩
    · obtain ⟨-, -, -, -, -, h6, h7⟩ := rest_is hs a2 a4
      exact ⟨h6, h7, own_base a6 (Nat.zero_le _)⟩
    · exact ⟨Nat.zero_le _, ⟨fun b (hb : b ∈ ([] : List Nat)) => absurd hb (by simp), World.ownsRow_nil _ _ _ _⟩⟩
theorem RestI.ok (h : RestI w w' N M t P S va A (fun _ => true)) (hs : Sized t) : RestOk t A := by
  intro i x hx hk p hp
  have hil := (List.getElem?_eq_some_iff.1 hx).1
  obtain ⟨q, hq, he⟩ := h.ent i hil
  rw [hp] at hq
  cases hq
  rcases he with ⟨f, a1, a2, a3, a4, a5, a6, a7⟩ | ⟨h1, rfl⟩
  · obtain ⟨-, -, -, h4, h5, -, -⟩ := rest_is hs a2 a4
    rw [a5] at h4 h5
    refine ⟨by show newText t i = _; unfold newText; rw [h4], fun hne => ?_⟩
    show newPlace t i = _
    refine (h5 (fun e => hne ?_)).symm
    rw [h4, e]; rfl
  · refine ⟨?_, fun hne => absurd rfl hne⟩
    show newText t i = _
    have : keptAt t i = [] := by
      by_cases hne : keptAt t i = []
      · exact hne
      · exfalso
        obtain ⟨f, hf⟩ : ∃ f : Nat, flowV t i = (f : Int) := by
          by_cases h0 : 0 ≤ flowV t i
          · exact ⟨(flowV t i).toNat, by omega⟩
          · exact absurd (by unfold keptAt; rw [if_neg h0]) hne
        obtain ⟨hfi, y, hy, hyk, -⟩ := flowV_in hf
        obtain ⟨r, hr, hri⟩ := rest_has hs hf hne
        exact h1 f (by omega) (by unfold isFl; rw [hy]; exact hyk) rfl r hr hri
    unfold newText
    rw [this]; rfl
end
theorem same_z (L : Lands) (t s : List Nd) (a b : Nat) (u v : Value) (ht : t.length ≤ 9000) (hs : s.length ≤ 9000) (ft : Fit t) (fs : Fit s) (w : World) (hu : ReadsN a w w.heap.size u t) (hv : ReadsN b w w.heap.size v s) (z : Bool) (hz : sameV t s = z) :
    Calls Tryd.prog 7 #[u, v] w fun e w' => e = .returned (.bool z) ∧ Below w.heap.size w w' := by
  subst hz; exact L.same t s a b u v ht hs ft fs w hu hv
theorem check_z (L : Lands) (t : List Nd) (off : Nat) (v : Value) (ht : t.length ≤ 9000) (ft : Fit t) (hx : ∀ x ∈ t, x.text.size ≤ 9000) (w : World) (hL : Ka.Laid w) (hv : ReadsN off w w.heap.size v t) (q : Int) (hq : ((checkV t : Nat) : Int) = q) :
    Calls Tryd.prog 9 #[v] w fun e w' => e = .returned (.int .i64 q) ∧ Below w.heap.size w w' := by
  subst hq; exact L.check t off v ht ft hx w hL hv
set_option maxHeartbeats 2000000 in
/-- norm.Of, of what may not be -/
theorem lof_bad (Ld : Lands) (v : Value) (t : List Nd) (off : Nat) (ht : t.length ≤ 9000) (hf : Fit t) (hx9 : ∀ x ∈ t, x.text.size ≤ 9000) (z : Int) (hz : ((checkV t : Nat) : Int) = z) (h0 : z ≠ 0) (w : World) (hL : Ka.Laid w) (hv : ReadsN off w w.heap.size v t) :
    Calls Tryd.prog 6 #[v] w (OfTo [] z w) := by
  have t1 : (z != 0) = true := by rw [bne, beq_eq_false_iff_ne.2 h0]; rfl
  have HC := Lib.hid (fun W hW hvW => check_z Ld t off v ht hf hx9 W hW hvW z hz)
  have HV := Lib.hid hv
  have HL := Lib.hid hL
  clear h0 hz hx9 hf hv hL
  go_enter Tryd.func6, Tryd.ntmps6
  go_wp2_with (go_at_call 9; refine (HC.out _ HL.out HV.out).mono ?_; rintro e w1 ⟨rfl, hb1⟩; have HB1 := Lib.hid hb1; clear hb1)
  have HR := Lib.hid (show OfTo [] z w (.returned (.tuple #[.slice none 0 0, .int .i64 z])) w1 from ⟨_, rfl, World.ownsRow_nil _ _ _ _, HB1.out⟩)
  refine bodyPost_ret (v := .tuple #[.slice none 0 0, .int .i64 z]) (by simp [results, Tryd.f6, go_sem]) rfl ?_
  exact HR.out
set_option maxHeartbeats 4000000 in
/-- norm.Of, of what may be -/
theorem lof_some (Ld : Lands) (v : Value) (t : List Nd) (off : Nat) (ht : t.length ≤ 9000) (hf : Fit t) (hx9 : ∀ x ∈ t, x.text.size ≤ 9000) (hc : checkV t = 0) (w : World) (hL : Ka.Laid w) (hv : ReadsN off w w.heap.size v t) :
    Calls Tryd.prog 6 #[v] w (OfTo (normV t) 0 w) := by
  have hs := check_sized hc (fun x hx => (hf x hx).1) hx9
  obtain ⟨L, hW, hL0⟩ := check_wf hc
  have hpl : ∀ x ∈ t, plainNd x := fun x hx => plain_ok (((checkV_ok t).1 hc).1 x hx)
  have HC := Lib.hid (fun W hW hvW => check_z Ld t off v ht hf hx9 W hW hvW 0 (by rw [hc]; rfl))
  have HRS := Lib.hid (fun W hW hvW => restsOf_at v t off ht hs hc (fun x hx => (hf x hx).2.2.1) W hW hvW)
  have HV := Lib.hid hv
  have HL := Lib.hid hL
  have hLN := hL.1
  have HND := Lib.hid (fun (w5 : World) (va : Value) (A : List (Rs × Value)) HR hok hv5 => (nodes_at (w5 := w5) (Wb := w5.heap.size) (off := off) (v := v) (va := va) (A := A) HR hok hpl (fun x hx => (hf x hx).1) hv5 (Nat.le_refl _) ht t.length))
  have HN := Lib.hid (normV_is hW)
  have HL0 := Lib.hid hL0
  have HS := Lib.hid hs
  clear hx9 hf hv hL hs hc hpl hW hL0
  obtain ⟨A0, c0, rfl, -⟩ := id HV.out
  go_enter Tryd.func6, Tryd.ntmps6
  go_wp2_with fail
  refine (HC.out _ HL.out HV.out).mono ?_
  rintro e w1 ⟨rfl, hb1⟩
  have HV1 := Lib.hid ((HV.out.below hb1).mono hb1.size)
  have HL1 := Lib.hid (HL.out.below hb1 hLN)
  have HB1 := Lib.hid hb1
  clear hb1
  go_wp2_with fail
  refine (HRS.out w1 HL1.out HV1.out).mono ?_
  rintro e w2 ⟨N, M, P, S, va, A, rfl, hI⟩
  have HRD := Lib.hid (hI.rd HS.out)
  have HOK := Lib.hid (hI.ok HS.out)
  have hb2 := hI.below
  have HV2 := Lib.hid ((HV1.out.below hb2).mono hb2.size)
  have HB2 := Lib.hid (HB1.out.trans (hb2.mono HB1.out.size))
  have hs2 := HB2.out.size
  obtain ⟨Ar, cr, rfl, -, -, -⟩ := Nu.own_form hI.row
  have HND2 := Lib.hid (HND.out w2 _ A HRD.out HOK.out HV2.out)
  have HW2 := Lib.hid (show WrI w2 (w2.alloc (.cells #[.slice A0 t.length c0, .slice Ar t.length cr, .slice none 0 0] 38)) w2.heap.size (.slice A0 t.length c0) (.slice Ar t.length cr) [] from by
    obtain ⟨w3, hw3⟩ : ∃ w3, w2.alloc (.cells #[.slice A0 t.length c0, .slice Ar t.length cr, .slice none 0 0] 38) = w3 := ⟨_, rfl⟩
    have hb3 : w3.heap[w2.heap.size]? = some (.cells #[.slice A0 t.length c0, .slice Ar t.length cr, .slice none 0 0] 38 (0, 0)) := hw3 ▸ heap_alloc_new w2 _
    have hB3 : Below w2.heap.size w2 w3 := hw3 ▸ (Below.refl _ w2).alloc (Nat.le_refl _) _
    have hs3 : w3.heap.size = w2.heap.size + 1 := by subst hw3; simp
    rw [hw3]
    refine ⟨?_, ?_, ⟨.slice none 0 0, ?_, World.ownsRow_nil _ _ _ _⟩, fun j => frozen_of_row w3 _ j _ _ hb3, hB3, by omega⟩
    · rw [cell_of_row w3 _ 0 _ _ (0, 0) hb3]; rfl
    · rw [cell_of_row w3 _ 1 _ _ (0, 0) hb3]; rfl
    · rw [cell_of_row w3 _ 2 _ _ (0, 0) hb3]; rfl)
  clear hI hb2
  go_wp2_with fail
  refine (HND2.out 0 t.length L [] _ (by omega) (Nat.zero_le _) (Nat.le_refl _) HL0.out (Nat.le_refl _) HW2.out).mono ?_
  rintro e w3 ⟨rfl, hW3⟩
  obtain ⟨-, -, ⟨vo, c2, own⟩, -, below, -⟩ := id hW3
  have HR := Lib.hid (show OfTo (normV t) 0 w (.returned (.tuple #[vo, .int .i64 0])) w3 from by
    refine ⟨vo, rfl, ?_, HB2.out.trans (below.mono hs2)⟩
    rw [HN.out]
    exact own_base own (by omega))
  clear hW3 own below
  go_wp2
  refine bodyPost_ret (v := .tuple #[vo, .int .i64 0]) (by simp [results, Tryd.f6, go_sem]) rfl ?_
  exact HR.out
/-- norm.Of -/
theorem lof_any (Ld : Lands) (v : Value) (t : List Nd) (off : Nat) (ht : t.length ≤ 9000) (hf : Fit t) (hx9 : ∀ x ∈ t, x.text.size ≤ 9000) (z : Int) (hz : ((checkV t : Nat) : Int) = z) (w : World) (hL : Ka.Laid w) (hv : ReadsN off w w.heap.size v t) :
    Calls Tryd.prog 6 #[v] w (OfTo (ofV t) z w) := by
  subst hz
  by_cases hc : checkV t = 0
  · unfold ofV
    rw [if_pos hc, hc]
    exact lof_some Ld v t off ht hf hx9 hc w hL hv
  · unfold ofV
    rw [if_neg hc]
    exact lof_bad Ld v t off ht hf hx9 _ rfl (by omega) w hL hv
end Go.Proofs.YtbldloniijmchaaDoor.Nl
namespace Go.Proofs.YtbldloniijmchaaDoor.Nl
open Go.RowKit Tr Nu

def In64 (p : Int) : Prop := -9223372036854775808 ≤ p ∧ p ≤ 9223372036854775807
/-- A part whose kind and place fit. -/
def FitE (x : Ev) : Prop := In64 x.place ∧ (x.kind ≠ 1 → x.name < 256)
def FitK (y : Nd) : Prop := y.kind < 256 ∧ In64 y.place
theorem ndE_fit {x : Ev} (h : FitE x) : FitK (ndE x) := by
  unfold ndE
  split
  · exact ⟨show 46 < 256 by decide, h.1⟩
  · rename_i hk; exact ⟨h.2 hk, h.1⟩
theorem row_fit : ∀ (L : List Ev) (T : List Nd) (S : List Nat), (∀ x ∈ L, FitE x) → (∀ y ∈ T, FitK y) → ∀ y ∈ (L.foldl bld (T, S)).1, FitK y := by
  intro L
  induction L with
  | nil => intro T S _ h; exact h
  | cons x L ih =>
    intro T S hL hT
    rw [List.foldl_cons]
    have hL2 := fun z hz => hL z (List.mem_cons_of_mem _ hz)
    have snoc : ∀ y ∈ T ++ [ndE x], FitK y := fun y hy => by
      rcases List.mem_append.1 hy with h | h
      · exact hT y h
      · rw [List.mem_singleton] at h; subst h; exact ndE_fit (hL x (by simp))
    by_cases h1 : x.kind = 1
    · rw [bld_tx h1]; exact ih _ _ hL2 snoc
    · by_cases h2 : x.kind = 2
      · rw [bld_op h2]; exact ih _ _ hL2 snoc
      · have hb : bld (T, S) x = (T.modify (S.getLastD 0) (setSize ((T.length : Int) - (S.getLastD 0 : Int))), S.dropLast) := by unfold bld; rw [if_neg h1, if_neg h2]
        rw [hb]
        refine ih _ _ hL2 (fun z hz => ?_)
        obtain ⟨j, hj⟩ := List.mem_iff_getElem?.1 hz
        rw [mod_at] at hj
        obtain ⟨u, hu, he⟩ := Option.map_eq_some_iff.1 hj
        have hu := hT u (List.mem_of_getElem? hu)
        split at he
        · subst he; exact hu
        · subst he; exact hu
theorem stepJ_fit {acc : List Ev} {x : Ev} (ha : ∀ y ∈ acc, FitE y) (hx : FitE x) : ∀ y ∈ stepJ acc x, FitE y := by
  have snoc : ∀ y ∈ acc ++ [x], FitE y := fun y hy => by
    rcases List.mem_append.1 hy with h | h
    · exact ha y h
    · rw [List.mem_singleton] at h; subst h; exact hx
  by_cases h : x.kind = 1
  · by_cases h0 : x.text.size = 0
    · rw [stepJ_gone h h0]; exact ha
    · rcases List.eq_nil_or_concat acc with rfl | ⟨B', y, rfl⟩
      · rw [stepJ_first h h0 endsE_nil]; exact snoc
      · rw [List.concat_eq_append] at snoc ha ⊢
        by_cases hy : y.kind = 1
        · rw [stepJ_more h h0 hy]
          intro z hz
          rcases List.mem_append.1 hz with h2 | h2
          · exact ha z (by simp [h2])
          · rw [List.mem_singleton] at h2; subst h2
            exact ha y (by simp)
        · rw [stepJ_first h h0 (endsE_snoc hy)]; exact snoc
  · rw [stepJ_node h]; exact snoc
theorem join_fit : ∀ (L acc : List Ev), (∀ x ∈ L, FitE x) → (∀ y ∈ acc, FitE y) → ∀ y ∈ L.foldl stepJ acc, FitE y := by
  intro L
  induction L with
  | nil => intro acc _ h; exact h
  | cons x L ih => intro acc hL ha; rw [List.foldl_cons]; exact ih _ (fun z hz => hL z (List.mem_cons_of_mem _ hz)) (stepJ_fit ha (hL x (by simp)))
theorem wrap_in64 (z : Int) : In64 (wrap64 z) := by unfold In64 wrap64; omega
theorem evE_fit {t : List Nd} (hf : ∀ x ∈ t, In64 x.place) : ∀ (L : List Lx.Lx) (p : Nat), (∀ x ∈ L, x.kind = 2 → x.name < 256) → ∀ y ∈ evE (asNew t) (placeAt t) p L, FitE y := by
  have hpl : ∀ i, In64 (placeAt t i) := fun i => by
    unfold placeAt
    cases hx : t[i]? with
    | none => exact ⟨by decide, by decide⟩
    | some x => exact hf x (List.mem_of_getElem? hx)
  have hnew : ∀ i, In64 (newPlace t i) := fun i => by
    unfold newPlace
    split
    · exact hpl i
    · exact wrap_in64 _
  intro L
  induction L with
  | nil => intro p _ y hy; cases hy
  | cons x L ih =>
    intro p hL y hy
    have hL2 := fun z hz => hL z (List.mem_cons_of_mem _ hz)
    by_cases h1 : x.kind = 1
    · rw [evE_k1 h1] at hy
      rcases List.mem_cons.1 hy with rfl | hy
      · exact ⟨hnew p, fun h => absurd rfl h⟩
      · exact ih _ hL2 y hy
    · by_cases h2 : x.kind = 2
      · rw [evE_k2 h2] at hy
        rcases List.mem_cons.1 hy with rfl | hy
        · exact ⟨hpl p, fun _ => hL x (by simp) h2⟩
        · exact ih _ hL2 y hy
      · rw [evE_k3 h1 h2] at hy
        rcases List.mem_cons.1 hy with rfl | hy
        · exact ⟨⟨by decide, by decide⟩, fun _ => by decide⟩
        · exact ih _ hL2 y hy
theorem wf_names {F : List Nd} {L : List Lx.Lx} (h : Wf F L) (hf : ∀ x ∈ F, x.kind < 256) : ∀ x ∈ L, x.kind = 2 → x.name < 256 := by
  induction h with
  | nil => intro x hx; cases hx
  | @text F L s pl hF ih =>
    intro x hx hk
    rcases List.mem_append.1 hx with h | h
    · exact ih (fun y hy => hf y (by simp [hy])) x h hk
    · rw [List.mem_singleton] at h; subst h; cases hk
  | @node F G L M k pl hF hG hne ih1 ih2 =>
    intro x hx hk
    rcases List.mem_append.1 hx with h | h
    · exact ih1 (fun y hy => hf y (by simp [hy])) x h hk
    · rcases List.mem_cons.1 h with rfl | h
      · exact hf ⟨k, emptyS, pl, (G.length : Int) + 1⟩ (by simp)
      · rcases List.mem_append.1 h with h | h
        · exact ih2 (fun y hy => hf y (by simp [hy])) x h hk
        · rw [List.mem_singleton] at h; subst h; cases hk
/-- The normalised tree's nodes fit. -/
theorem fit_norm {t : List Nd} (ht : t.length ≤ 9000) (hf : Fit t) (hx9 : ∀ x ∈ t, x.text.size ≤ 9000) (hc : checkV t = 0) : Fit (normV t) := by
  obtain ⟨L, hW, -⟩ := check_wf hc
  have hs := check_sized hc (fun x hx => (hf x hx).1) hx9
  have hl := norm_len hc
  have hB := (wf_bal hW (asNew t) (placeAt t) 0).join
  have h1 : ∀ y ∈ normV t, FitK y := by
    rw [normV_is hW]
    exact row_fit _ [] [] (join_fit _ [] (evE_fit (fun x hx => (hf x hx).2.2.1) L 0 (wf_names hW (fun x hx => (hf x hx).1))) (by simp)) (by simp)
  have h2 : ∀ y ∈ normV t, y.text.size ≤ 9000 * (9000 * 9000) := by
    rw [normV_is hW]
    intro y hy
    have a := row_tot _ [] [] 0 (by simp) y hy
    have b : totE (joinE (evE (asNew t) (placeAt t) 0 L)) = totE [] + totE (evE (asNew t) (placeAt t) 0 L) := (join_tot _ []).1
    have c := evE_tot hs (placeAt t) L 0
    rw [wf_nod hW] at c
    have z1 : totE [] = 0 := rfl
    have d : t.length * (t.length * 9000) ≤ 9000 * (9000 * 9000) := Nat.mul_le_mul ht (Nat.mul_le_mul_right _ ht)
    omega
  intro y hy
  refine ⟨(h1 y hy).1, Nat.le_trans (h2 y hy) (by decide), (h1 y hy).2, ?_⟩
  obtain ⟨j, hj⟩ := List.mem_iff_getElem?.1 hy
  rw [normV_is hW] at hj hl
  have := row_sized hB hj
  omega
set_option maxHeartbeats 1000000 in
/-- norm.Is -/
theorem lis_any (Ld : Lands) (v : Value) (t : List Nd) (off : Nat) (ht : t.length ≤ 9000) (hf : Fit t) (hx9 : ∀ x ∈ t, x.text.size ≤ 9000) (b : Bool) (hb : isV t = b) (w : World) (hL : Ka.Laid w) (hv : ReadsN off w w.heap.size v t) :
    Calls Tryd.prog 16 #[v] w fun e w' => e = .returned (.bool b) ∧ Below w.heap.size w w' := by
  obtain ⟨z, hz⟩ : ∃ z, ((checkV t : Nat) : Int) = z := ⟨_, rfl⟩
  have HOF := Lib.hid (lof_any Ld v t off ht hf hx9 z hz w hL hv)
  have HV := Lib.hid hv
  by_cases hc : checkV t = 0
  · obtain rfl : z = 0 := by omega
    have HS := Lib.hid (show sameV t (ofV t) = b by rw [← hb]; unfold isV ofV; rw [if_pos hc, decide_eq_true hc, Bool.true_and])
    have hl := ofV_len t
    have HL := Lib.hid hl
    have HFN := Lib.hid (show Fit (ofV t) by unfold ofV; rw [if_pos hc]; exact fit_norm ht hf hx9 hc)
    have HF := Lib.hid hf
    clear hb hz hc hf hx9 hv hl hL
    go_enter Tryd.func16, Tryd.ntmps16
    go_wp2_with fail
    refine HOF.out.mono ?_
    rintro e w1 ⟨v1, rfl, hown, hb1⟩
    have HV1 := Lib.hid ((HV.out.below hb1).mono hb1.size)
    have HU := Lib.hid (Ba.Reads.of_own cN_len rfl hown)
    have HB1 := Lib.hid hb1
    clear hown hb1
    go_wp2_with fail
    refine (same_z Ld t (ofV t) off 0 v v1 ht (by have := HL.out; omega) HF.out HFN.out _ HV1.out HU.out b HS.out).mono ?_
    rintro e w2 ⟨rfl, hb2⟩
    have HR := Lib.hid (HB1.out.trans (hb2.mono HB1.out.size))
    clear hb2
    go_wp2
    go_ret
    exact ⟨rfl, HR.out⟩
  · have HB := Lib.hid (show false = b by rw [← hb]; unfold isV; rw [decide_eq_false hc, Bool.false_and])
    have t1 : (z == 0) = false := beq_eq_false_iff_ne.2 (by omega)
    clear hb hz hc hf hx9 hv hL
    go_enter Tryd.func16, Tryd.ntmps16
    go_wp2_with fail
    refine HOF.out.mono ?_
    rintro e w1 ⟨v1, rfl, hown, hb1⟩
    have HB1 := Lib.hid hb1
    clear hown hb1
    go_wp2
    go_ret
    exact ⟨Ba.ret_bool HB.out, HB1.out⟩
end Go.Proofs.YtbldloniijmchaaDoor.Nl
namespace Go.Proofs.YtbldloniijmchaaDoor.Nl
open Go.RowKit Tr Nu

def vastV (t : List Nd) : Bool := decide (150 < t.length) || t.any fun x => decide (100 < x.text.size)
theorem not_vast {t : List Nd} (h : vastV t = false) : t.length ≤ 150 ∧ ∀ x ∈ t, x.text.size ≤ 100 := by
  unfold vastV at h
  rw [Bool.or_eq_false_iff, decide_eq_false_iff_not, List.any_eq_false] at h
  refine ⟨by omega, fun x hx => ?_⟩
  have := h.2 x hx
  rw [decide_eq_true_eq] at this; omega
set_option maxHeartbeats 4000000 in
/-- styluslaw05.vast -/
theorem vast5_at (v : Value) (off : Nat) (t : List Nd) (_hl : t.length ≤ maxLen) (B : Nat) (w : World) (hv : ReadsN off w B v t) (z : Bool)
    (hz : (decide (150 < t.length) || t.any fun x => decide (100 < x.text.size)) = z) :
    Calls Tryd.prog 4 #[v] w fun e w' => e = .returned (.bool z) ∧ w = w' := by
  have HZ := Lib.hid hz
  obtain ⟨A, c, rfl, hA⟩ := hv
  have HA := Lib.hid hA
  clear hA hz
  go_enter Tryd.func4, Tryd.ntmps4
  by_cases h0 : 150 < t.length
  · have HR := Lib.hid (show (decide (150 < t.length) || t.any fun x => decide (100 < x.text.size)) = true by rw [decide_eq_true h0, Bool.true_or])
    go_wp2
    go_ret
    exact ⟨Ba.ret_bool (HR.out.symm.trans HZ.out), rfl⟩
  · go_wp2
    go_loop [3] (fun i => ∃ k : Nat, k ≤ t.length ∧ i = .int .i64 k ∧ ∀ x ∈ t.take k, ¬ 100 < x.text.size) (fun i => t.length - (intOf i).toNat)
    case atStart => exact ⟨0, by omega, rfl, by simp⟩
    case round =>
      obtain ⟨k, hk, rfl, hj⟩ := hrel
      have HJ := Lib.hid hj
      clear hj
      by_cases hlt : k < t.length
      · obtain ⟨g, rfl, -, hg⟩ := HA.out (by omega)
        obtain ⟨⟨xk, xt, xp, xs⟩, hx⟩ : ∃ x, t[k]? = some x := ⟨_, List.getElem?_eq_getElem hlt⟩
        obtain ⟨-, g2, -, -⟩ := cells_of hg k _ hx
        simp only [] at g2
        have HX := Lib.hid hx
        clear hg hx
        by_cases h1 : 100 < xt.size
        · have HR := Lib.hid (show (decide (150 < t.length) || t.any fun x => decide (100 < x.text.size)) = true by
            rw [Bool.or_eq_true]; exact .inr (List.any_eq_true.2 ⟨_, List.mem_of_getElem? HX.out, decide_eq_true h1⟩))
          go_wp2
          go_ret
          exact ⟨Ba.ret_bool (HR.out.symm.trans HZ.out), rfl⟩
        · have HN := Lib.hid (show ∀ x ∈ t.take (k + 1), ¬ 100 < x.text.size by
            intro x hx
            rw [List.take_add_one, HX.out] at hx
            simp only [Option.toList_some, List.mem_append, List.mem_singleton] at hx
            rcases hx with hx | hx
            · exact HJ.out x hx
            · subst hx; exact h1)
          go_wp2
          go_round
          case rel => exact ⟨k + 1, by omega, by go_num, HN.out⟩
          case measure => simp [intOf]; omega
      · obtain rfl : k = t.length := by omega
        have HR := Lib.hid (show (decide (150 < t.length) || t.any fun x => decide (100 < x.text.size)) = false by
          rw [decide_eq_false h0, Bool.false_or, List.any_eq_false]
          intro x hx
          have := HJ.out x (by rw [List.take_length]; exact hx)
          rw [decide_eq_true_eq]; exact this)
        go_wp2
        go_ret
        exact ⟨Ba.ret_bool (HR.out.symm.trans HZ.out), rfl⟩
/-- What alike asks of two sources, to be decided. -/
def fitB (t : List Nd) : Bool := t.all fun x => decide (x.kind < 256) && (decide (x.text.size ≤ 9000) && (decide (-9223372036854775808 ≤ x.place ∧ x.place ≤ 9223372036854775807) && decide (-9223372036854775808 ≤ x.size ∧ x.size ≤ 9223372036854775807)))
theorem fit_of {t : List Nd} (h : fitB t = true) : Fit t ∧ ∀ x ∈ t, x.text.size ≤ 9000 := by
  unfold fitB at h
  rw [List.all_eq_true] at h
  have key : ∀ x ∈ t, _ := fun x hx => by
    have := h x hx
    simp only [Bool.and_eq_true, decide_eq_true_eq] at this
    exact this
  exact ⟨fun x hx => ⟨(key x hx).1, Nat.le_trans (key x hx).2.1 (by decide), (key x hx).2.2.1, (key x hx).2.2.2⟩, fun x hx => (key x hx).2.1⟩
def alikeD (s want : ByteArray) : Bool :=
  decide (s.size ≤ 9000) && (decide (want.size ≤ 9000) && (decide ((parseA s).2.2 = 0) && (decide ((parseA want).2.2 = 0) && (decide ((parseA s).1.length ≤ 9000) && (decide ((parseA want).1.length ≤ 9000) && (fitB (parseA s).1 && (fitB (parseA want).1 &&
    (decide (checkV (parseA s).1 = 0) && (sameV (normV (parseA s).1) (parseA want).1 && (isV (parseA want).1 && decide (0 < (normV (parseA s).1).length)))))))))))
set_option maxHeartbeats 4000000 in
/-- styluslaw05.alike -/
theorem alike_at (Ld : Lands) (s want : ByteArray) (hs : s.size ≤ 9000) (hw : want.size ≤ 9000) (t u : List Nd) (ht : (parseA s).1 = t) (hu : (parseA want).1 = u) (es : (parseA s).2.2 = 0) (ew : (parseA want).2.2 = 0) (tl : t.length ≤ 9000) (ul : u.length ≤ 9000) (tf : Fit t) (uf : Fit u) (tx : ∀ x ∈ t, x.text.size ≤ 9000) (ux : ∀ x ∈ u, x.text.size ≤ 9000)
    (hc : checkV t = 0) (n : List Nd) (hn : normV t = n) (hsm : sameV n u = true) (hi : isV u = true) (h0 : 0 < n.length) (w : World) (hL : Ka.Laid w) :
    Calls Tryd.prog 8 #[.string s, .string want] w fun e w' => e = .returned (.bool true) ∧ Below w.heap.size w w' := by
  obtain ⟨p1, hp1⟩ : ∃ p : Int, (((parseA s).2.1 : Nat) : Int) = p := ⟨_, rfl⟩
  obtain ⟨p2, hp2⟩ : ∃ p : Int, (((parseA want).2.1 : Nat) : Int) = p := ⟨_, rfl⟩
  have HP1 := Lib.hid (fun W hW => Ld.at s (Nat.le_trans hs (by decide)) t p1 0 ht hp1 (by rw [es]; rfl) W hW)
  have HP2 := Lib.hid (fun W hW => Ld.at want (Nat.le_trans hw (by decide)) u p2 0 hu hp2 (by rw [ew]; rfl) W hW)
  have hnl : n.length ≤ 9000 := by rw [← hn]; have := norm_len hc; omega
  have HOF := Lib.hid (fun v W hW hv => lof_any Ld v t 0 tl tf tx 0 (by rw [hc]; rfl) W hW hv)
  have HON := Lib.hid (show ofV t = n by unfold ofV; rw [if_pos hc, hn])
  have HSM := Lib.hid hsm
  have HIS := Lib.hid (fun v W hW hv => lis_any Ld v u 0 ul uf ux true hi W hW hv)
  have HL := Lib.hid hL
  have hLN := hL.1
  have n0 : (0 : Int) < (n.length : Int) := by omega
  clear ht hu es ew hp1 hp2 tf uf tx ux hc hn hsm hi hL
  go_enter Tryd.func8, Tryd.ntmps8
  go_wp2_with fail
  refine (HP1.out _ HL.out).mono ?_
  rintro e w1 ⟨v1, rfl, hr1, hb1⟩
  have HR1 := Lib.hid hr1
  have HB1 := Lib.hid hb1
  have HL1 := Lib.hid (HL.out.below hb1 hLN)
  clear hr1 hb1
  go_wp2_with fail
  refine (HP2.out _ HL1.out).mono ?_
  rintro e w2 ⟨v2, rfl, hr2, hb2⟩
  have HR2 := Lib.hid hr2
  have HT2 := Lib.hid ((HR1.out.below hb2).mono hb2.size)
  have HB2 := Lib.hid (Ba.chain HB1.out HB1.out.size hb2)
  have HL2 := Lib.hid (HL.out.below HB2.out hLN)
  clear hr2 hb2
  go_wp2_with fail
  refine (HOF.out _ _ HL2.out HT2.out).mono ?_
  rw [HON.out]
  rintro e w3 ⟨v3, rfl, hown, hb3⟩
  obtain ⟨A3, c3, rfl, -, -, -⟩ := Nu.own_form hown
  have HR3 := Lib.hid (Ba.Reads.of_own cN_len rfl hown)
  have HU3 := Lib.hid ((HR2.out.below hb3).mono hb3.size)
  have HB3 := Lib.hid (Ba.chain HB2.out HB2.out.size hb3)
  clear hown hb3
  go_wp2_with fail
  refine (rsame_at 0 0 _ _ n u (by omega) (by omega) _ _ _ HR3.out HU3.out true HSM.out).mono ?_
  rintro e w4 ⟨rfl, k, rfl⟩
  obtain ⟨w4, hw4⟩ : ∃ w4, w3.drewN k = w4 := ⟨_, rfl⟩
  have HB4 := Lib.hid (show Below w.heap.size w w4 by rw [← hw4]; exact Lx.below_drewN HB3.out k)
  have HU4 := Lib.hid (show ReadsN 0 w4 w4.heap.size v2 u by rw [← hw4]; exact HU3.out.drewN k)
  have HL4 := Lib.hid (HL.out.below HB4.out hLN)
  rw [hw4]
  clear hw4
  go_wp2_with fail
  refine (HIS.out _ _ HL4.out HU4.out).mono ?_
  rintro e w5 ⟨rfl, hb5⟩
  have HB5 := Lib.hid (Ba.chain HB4.out HB4.out.size hb5)
  clear hb5
  go_wp2
  go_ret
  exact ⟨rfl, HB5.out⟩
theorem alike_lit (Ld : Lands) (s want : ByteArray) (h : alikeD s want = true) (w : World) (hL : Ka.Laid w) :
    Calls Tryd.prog 8 #[.string s, .string want] w fun e w' => e = .returned (.bool true) ∧ Below w.heap.size w w' := by
  unfold alikeD at h
  simp only [Bool.and_eq_true, decide_eq_true_eq] at h
  obtain ⟨h1, h2, h3, h4, h5, h6, h7, h8, h9, h10, h11, h12⟩ := h
  exact alike_at Ld s want h1 h2 _ _ rfl rfl h3 h4 h5 h6 (fit_of h7).1 (fit_of h8).1 (fit_of h7).2 (fit_of h8).2 h9 _ rfl h10 h11 h12 w hL
set_option maxRecDepth 100000 in
set_option maxHeartbeats 4000000 in
/-- styluslaw05.awake -/
theorem awake5 (Ld : Lands) (w : World) (hL : Ka.Laid w) : Calls Tryd.prog 5 #[] w fun e w' => e = .returned (.bool true) ∧ Below w.heap.size w w' := by
  have HB0 : Below w.heap.size w w := Below.refl _ _
  have hL0 := hL
  go_enter Tryd.func5, Tryd.ntmps5
  go_wp2_with fail
  refine (alike_lit Ld { data := #[123, 112, 32, 32, 97, 32, 32, 98, 32, 125] } { data := #[123, 112, 32, 97, 32, 98, 125] } (by decide +kernel) _ hL0).mono ?_
  rintro e w1 ⟨rfl, hb1⟩
  have HB1 := Ba.chain HB0 HB0.size hb1
  have hL1 := hL.below HB1 hL.1
  clear hb1 HB0
  go_wp2_with fail
  refine (alike_lit Ld { data := #[123, 112, 32, 97, 32, 123, 101, 32, 32, 98, 32, 125, 99, 123, 110, 32, 32, 120, 32, 125, 32, 100, 125] } { data := #[123, 112, 32, 97, 32, 123, 101, 32, 98, 32, 125, 99, 123, 110, 32, 120, 125, 32, 100, 125] } (by decide +kernel) _ hL1).mono ?_
  rintro e w2 ⟨rfl, hb2⟩
  have HB2 := Ba.chain HB1 HB1.size hb2
  have hL2 := hL.below HB2 hL.1
  clear hb2 HB1 hL1
  go_wp2_with fail
  refine (alike_lit Ld { data := #[123, 112, 32, 123, 101, 32, 125, 32, 123, 115, 32, 97, 125, 125] } { data := #[123, 112, 32, 123, 101, 32, 125, 123, 115, 32, 97, 125, 125] } (by decide +kernel) _ hL2).mono ?_
  rintro e w3 ⟨rfl, hb3⟩
  have HB3 := Ba.chain HB2 HB2.size hb3
  have hL3 := hL.below HB3 hL.1
  clear hb3 HB2 hL2
  go_wp2_with fail
  refine (alike_lit Ld { data := #[123, 112, 32, 97, 123, 101, 32, 32, 125, 125] } { data := #[123, 112, 32, 97, 123, 101, 32, 125, 125] } (by decide +kernel) _ hL3).mono ?_
  rintro e w4 ⟨rfl, hb4⟩
  have HB4 := Ba.chain HB3 HB3.size hb4
  have hL4 := hL.below HB4 hL.1
  clear hb4 HB3 hL3
  go_wp2
  go_ret
  exact ⟨rfl, HB4⟩
end Go.Proofs.YtbldloniijmchaaDoor.Nl
namespace Go.Proofs.YtbldloniijmchaaDoor.Nl
open Go.RowKit Tr Nu

theorem cells_news {g off : Nat} {w : World} {l : List Nd} (h : ∀ k x, l[k]? = some x → ∀ j u, (cN x)[j]? = some u → w.cell? ⟨g, off + (k * 4 + j), none⟩ = some u) :
    ∀ j u, (Ba.rows cN l)[j]? = some u → w.cell? ((⟨g, off, none⟩ : Addr).add j) = some u := by
  intro j u hu
  have hj : j < (Ba.rows cN l).length := (List.getElem?_eq_some_iff.1 hu).1
  rw [Ba.rows_length cN cN_len] at hj
  have hk : j / 4 < l.length := by omega
  have e := Ba.rows_at cN cN_len l (j / 4) _ (List.getElem?_eq_getElem hk) (j % 4) (Nat.mod_lt _ (by omega))
  have e2 : j / 4 * 4 + j % 4 = j := by omega
  rw [e2, hu] at e
  have := h (j / 4) _ (List.getElem?_eq_getElem hk) (j % 4) u e.symm
  rw [e2] at this
  have e3 : (⟨g, off, none⟩ : Addr).add j = ⟨g, off + j, none⟩ := by unfold Addr.add; split <;> simp_all
  rw [e3]; exact this
theorem rows_cells (l : List Nd) : ∀ u ∈ Ba.rows cN l, u.oneCell' = true := by
  intro u hu
  unfold Ba.rows at hu
  rw [List.mem_flatMap] at hu
  obtain ⟨x, _, hx⟩ := hu
  simp [cN] at hx
  rcases hx with rfl | rfl | rfl | rfl <;> rfl
/-- 'append([]Node{}, t...)'. -/
theorem wpList_append_copy (w : World) {ops : Array Oper} {rest : List Oper} {o : Oper} {a : Act} {Q : Exit → Act → World → Prop} (hgd : o.guard = none) (s x : Operand)
    (ho : o.op = .call { callee := .builtin .append, args := #[s, x], argTypes := #[22, 22] })
    (v0 : Value) (hs : a.eval s = v0) (B : Nat) (hown : w.ownsRow B 29 4 v0 0 []) (hB : B ≤ w.heap.size) (A : Option Addr) (n c off B' : Nat) (l : List Nd) (hx : a.eval x = .slice A n c) (hl : l.length = n) (hn : n ≤ 9000) (hr : ReadsN off w B' (.slice A n c) l)
    (h : ∀ v' w', w'.ownsRow B 29 4 v' n (Ba.rows cN l) → w.grownBy w' v0.ownBlock → wpList Tryd.prog ops Q rest (a.put o.dst v') w') : wpList Tryd.prog ops Q (o :: rest) a w := by
  obtain ⟨i0, hi0, hz0, hz1, hz2⟩ := info_parts infoN
  rcases Nat.eq_zero_or_pos n with h0 | h0
  · subst h0
    have : l = [] := List.length_eq_zero_iff.1 hl
    subst this
    exact wpList_append_zero w hgd s x _ ho B _ i0 4 Tryd.underlying22 hi0 v0 0 [] hs hown A c hx (h v0 w hown ⟨rfl, rfl, rfl, Nat.le_refl _, fun _ _ _ => rfl⟩)
  · obtain ⟨A', c', e, hA⟩ := hr
    injection e with e1 e2 e3
    subst e1
    obtain ⟨g, rfl, -, hc⟩ := hA (by omega)
    refine wpList_append_own w hgd s x _ ho B _ i0 _ 4 40 Tryd.underlying22 hi0 hz0 hz1 hz2 rfl (by decide) v0 0 [] hs hown ⟨g, off, none⟩ n c (Ba.rows cN l) hx (by rw [Ba.rows_length cN cN_len, hl]) (cells_news hc) (rows_cells l) (by unfold maxLen; omega) (by omega) hB ?_
    intro v' w' h1 h2 _
    rw [Nat.zero_add, List.nil_append] at h1
    exact h v' w' h1 h2
theorem below_cells {B b : Nat} (hb : B ≤ b) : ∀ (vs : List Value) (o : Nat) (w : World), Below B w (w.setCells b o vs)
  | [], _, _w => Below.refl _ _
  | v :: r, o, w => ((Below.refl B w).setCell (p := ⟨b, o, none⟩) hb v).trans (below_cells hb r (o + 1) _)
/-- 'clear(s)', of whatever elements. -/
theorem run_clear_any {P : Program} (w : World) (t e ty : TypeId) (z : Value) (ht : P.underlying t = some (.slice e)) (hv : ∀ w, (zeroValue e).run P w = .ok z w) (b n c : Nat) (hn : 0 < n)
    (hc : ∀ j, j < n * z.cells.size → (w.cell? ⟨b, j, none⟩).isSome = true) (hf : ∀ j, w.frozen? ⟨b, j, none⟩ = false) (h1 : ∀ v ∈ (Builtin.zeroCells z.cells n).toList, v.oneCell' = true) :
    (Builtin.clear_ #[t] ty #[.slice (some ⟨b, 0, none⟩) n c]).run P w = .ok (.tuple #[]) (w.setCells b 0 (Builtin.zeroCells z.cells n).toList) := by
  have hst := run_storeCells_cells (P := P) b 0 (Builtin.zeroCells z.cells n).toList 0 w (fun j hj => by
    rw [Array.length_toList] at hj
    simp only [Nat.zero_add]
    exact hc j (by simpa [Builtin.zeroCells] using hj)) (fun j _ => hf _) h1
  simp only [Nat.add_zero] at hst
  obtain ⟨m, rfl⟩ : ∃ m, n = m + 1 := ⟨n - 1, by omega⟩
  simp [Builtin.clear_, run_underlying ht, hv, hst]
theorem zero_node (w : World) : (zeroValue 29).run Tryd.prog w = .ok (.agg #[.int .u8 0, .string { data := #[] }, .int .i64 0, .int .i64 0]) w := by
  obtain ⟨i0, hi0, hz0, -, -⟩ := info_parts infoN
  simp [zeroValue, typeInfo, hi0, hz0]
/-- 'clear(t)'. -/
theorem run_clear_nodes (w : World) (ty : TypeId) (B : Nat) (v : Value) (n : Nat) (l : List Nd) (hl : l.length = n) (hown : w.ownsRow B 29 4 v n (Ba.rows cN l)) :
    ∃ w', (Builtin.clear_ #[22] ty #[v]).run Tryd.prog w = .ok (.tuple #[]) w' ∧ Below B w w' := by
  obtain ⟨A, c, rfl, -, -, hA⟩ := Nu.own_form hown
  rcases Nat.eq_zero_or_pos n with h0 | h0
  · subst h0
    refine ⟨w, ?_, Below.refl _ _⟩
    cases A <;> simp [Builtin.clear_, run_underlying Tryd.underlying22]
  · obtain ⟨g, rfl, hBg, -⟩ := hA h0
    refine ⟨_, run_clear_any w _ _ ty _ Tryd.underlying22 zero_node g n c h0 (fun j hj => ?_) (fun j => hown.frozenAt j) ?_, below_cells hBg _ _ _⟩
    · have hj : j < n * 4 := hj
      rw [hown.cellAt j hj, List.getElem?_eq_getElem (by rw [Ba.rows_length cN cN_len, hl]; exact hj)]; rfl
    · intro u hu
      unfold Builtin.zeroCells at hu
      rw [Array.toList_map, List.mem_map] at hu
      obtain ⟨i, -, rfl⟩ := hu
      have h4 : i % 4 = 0 ∨ i % 4 = 1 ∨ i % 4 = 2 ∨ i % 4 = 3 := by omega
      show ((#[Value.int .u8 0, .string { data := #[] }, .int .i64 0, .int .i64 0])[i % 4]!).oneCell' = true
      rcases h4 with h | h | h | h <;> rw [h] <;> rfl
end Go.Proofs.YtbldloniijmchaaDoor.Nl
