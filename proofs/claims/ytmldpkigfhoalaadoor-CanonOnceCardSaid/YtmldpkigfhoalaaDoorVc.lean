/-
  Put together: TrL, TrP, TrQ, TrR, TrS, TrT, TrU.
-/
import Derived.Test.YtmldpkigfhoalaaDoorVb
namespace Go.Proofs.YtmldpkigfhoalaaDoor.Tr
open Go.RowKit

/-- A node but for its size. -/
def core (x : Nd) : Nat × ByteArray × Int := (x.kind, x.text, x.place)
/-- A node by itself may be, and stands in the source. -/
def NodeP (s : ByteArray) (c : Nat × ByteArray × Int) : Prop :=
  (∀ z, nodeOk ⟨c.1, c.2.1, c.2.2, z⟩ = true) ∧ ∃ pl : Nat, c.2.2 = (pl : Int) ∧ pl < s.size ∧ (c.1 = 46 → 0 < c.2.1.size ∧ pl + c.2.1.size ≤ s.size ∧ s.extract pl (pl + c.2.1.size) = c.2.1) ∧ (c.1 ≠ 46 → Lx.bAt s pl = 123)
theorem core_modify (t : List Nd) (i : Nat) (z : Int) : (t.modify i (setSize z)).map core = t.map core := by
  apply List.ext_getElem?
  intro j
  rw [List.getElem?_map, List.getElem?_map, List.getElem?_modify]
  by_cases h : i = j
  · simp only [h, if_true]
    cases t[j]? <;> rfl
  · simp only [h, if_false]
    cases t[j]? <;> rfl
theorem path_modify (p : List Op) (i : Nat) (f : Op → Op) (hf : ∀ o, (f o).kind = o.kind ∧ (f o).spot = o.spot) : pathOf (p.modify i f) = pathOf p := by
  unfold pathOf
  apply List.ext_getElem?
  intro j
  rw [List.getElem?_map, List.getElem?_map, List.getElem?_drop, List.getElem?_drop, List.getElem?_modify]
  cases p[1 + j]? with
  | none => rfl
  | some o =>
    by_cases h : i = 1 + j
    · simp [h, hf o]
    · simp [h]
theorem path_snoc (p : List Op) (o : Op) (h : 0 < p.length) : pathOf (p ++ [o]) = pathOf p ++ [(o.kind, o.spot)] := by
  unfold pathOf
  rw [List.drop_append_of_le_length (by omega), List.map_append]; rfl
theorem topP_snoc (p : List Op) (o : Op) : topP (p ++ [o]) = o := by unfold topP; simp
/-- What holds between two parts that are read, the first p bytes of the source being read. -/
structure Inv (s : ByteArray) (p : Nat) (st : List Nd × List Op) : Prop where
  zip : ∃ L, okR ([], [root]) L ∧ readL L = (st.1.map bare, st.2) ∧ Zip st.1 (pathOf st.2) L
  open1 : 0 < st.2.length
  nodes : ∀ c ∈ st.1.map core, NodeP s c ∧ c.2.2 < (p : Int)
  rise : (st.1.map core).Pairwise fun a b => a.2.2 < b.2.2
  few : st.1.length ≤ 2000
theorem Inv.start (s : ByteArray) : Inv s 0 ([], [root]) :=
  ⟨⟨[], trivial, rfl, .base .nil⟩, by simp, fun c hc => by simp at hc, by simp, by simp⟩
theorem Inv.mono {s : ByteArray} {p p' : Nat} {st : List Nd × List Op} (h : Inv s p st) (hp : p ≤ p') : Inv s p' st :=
  ⟨h.zip, h.open1, fun c hc => ⟨(h.nodes c hc).1, by have := (h.nodes c hc).2; omega⟩, h.rise, h.few⟩
theorem rise_snoc {l : List (Nat × ByteArray × Int)} {c : Nat × ByteArray × Int} (h : l.Pairwise fun a b => a.2.2 < b.2.2) (hc : ∀ a ∈ l, a.2.2 < c.2.2) : (l ++ [c]).Pairwise fun a b => a.2.2 < b.2.2 := by
  rw [List.pairwise_append]
  exact ⟨h, by simp, fun a ha b hb => by simp at hb; subst hb; exact hc a ha⟩
theorem stepR_open (t : List Nd) (p : List Op) (c : Nat) (tx : ByteArray) (pl : Nat) : stepR (t, p) ⟨2, c, tx, pl⟩ =
    (t ++ [⟨c, emptyS, (pl : Int), 1⟩], (if c = 110 then (p.modify (p.length - 1) (addKid c)).modify (lastP (p.modify (p.length - 1) (addKid c)) aroundS) addNote else p.modify (p.length - 1) (addKid c)) ++ [⟨c, emptyS, t.length, 0, 0, emptyS⟩]) := rfl
theorem stepR_text {p : List Op} (t : List Nd) (tx : ByteArray) (pl : Nat) (h : textsP p = true) : stepR (t, p) ⟨1, 0, tx, pl⟩ =
    (t ++ [⟨46, tx, (pl : Int), 1⟩], if 0 < lastP (p.modify (p.length - 1) (addKid 46)) noteS then (p.modify (p.length - 1) (addKid 46)).modify (lastP (p.modify (p.length - 1) (addKid 46)) noteS) (addText tx) else p.modify (p.length - 1) (addKid 46)) := by
  show (if textsP p = true then _ else _) = _
  rw [if_pos h]
theorem stepR_none {p : List Op} (t : List Nd) (tx : ByteArray) (pl : Nat) (h : textsP p = false) : stepR (t, p) ⟨1, 0, tx, pl⟩ = (t, p) := by
  show (if textsP p = true then _ else _) = _
  rw [if_neg (by rw [h]; decide)]
theorem stepR_close (t : List Nd) (p : List Op) (tx : ByteArray) (pl : Nat) : stepR (t, p) ⟨3, 0, tx, pl⟩ =
    (t.modify (topP p).spot (setSize ((t.length : Int) - ((topP p).spot : Int))), (if (topP p).kind = 114 ∧ (p.getD (p.length - 1 - 1) root).first = 0 then p.modify (p.length - 1 - 1) (setFirst (topP p).kids.size) else p).take (p.length - 1)) := rfl
theorem err_close {t : List Nd} {p : List Op} {tx : ByteArray} {pl : Nat} (h : (errStep t p ⟨3, 0, tx, pl⟩).2 = 0) : p.length ≠ 1 := fun e => by
  change (if p.length = 1 ∨ (inK (topP p).kind ltrS = true ∧ (topP p).kids.size = 0) then (pl, 2) else _).2 = 0 at h
  rw [if_pos (.inl e)] at h; cases h
theorem err_open {t : List Nd} {p : List Op} {c : Nat} {tx : ByteArray} {pl : Nat} (h : (errStep t p ⟨2, c, tx, pl⟩).2 = 0) : t.length < 2000 := by
  change (if opensP p c = false then (pl, 2) else if 32 < p.length ∨ (c = 108 ∧ 8 ≤ manyP p 108) then (pl, 5) else if 2000 ≤ t.length then (pl, 4) else (0, 0)).2 = 0 at h
  rcases Nat.lt_or_ge t.length 2000 with h2 | h2
  · exact h2
  · exfalso
    repeat' split at h
    all_goals first | omega | cases h
theorem err_text {t : List Nd} {p : List Op} {tx : ByteArray} {pl : Nat} (ht : textsP p = true) (h : (errStep t p ⟨1, 0, tx, pl⟩).2 = 0) : t.length < 2000 := by
  change (if textsP p = false then _ else if 2000 ≤ t.length ∨ (0 < lastP p noteS ∧ 60 < (p.getD (lastP p noteS) root).text.size + tx.size) then (pl, 4) else (0, 0)).2 = 0 at h
  rw [if_neg (by rw [ht]; decide)] at h
  rcases Nat.lt_or_ge t.length 2000 with h2 | h2
  · exact h2
  · rw [if_pos (.inl h2)] at h; cases h
/-- One part that is read. -/
theorem Inv.step {s : ByteArray} {p q : Nat} {st : List Nd × List Op} {x : Lx.Lx} (h : Inv s p st) (hp : p < s.size) (hs : Lx.stepF s p = .inl (x, q)) (he : (errStep st.1 st.2 x).2 = 0) : Inv s q (stepR st x) := by
  obtain ⟨t, o⟩ := st
  obtain ⟨⟨L, hL, hR, hZ⟩, h1, hN, hr, hf⟩ := h
  have hpq := Lx.stepF_lt hp hs
  simp only [] at hL hR hZ h1 hN hr hf he
  have snoc : ∀ y, bareX x = y → ¬ (x.kind = 1 ∧ textsP o = false) → okR ([], [root]) (L ++ [y]) ∧ readL (L ++ [y]) = ((stepR (t, o) x).1.map bare, (stepR (t, o) x).2) := fun y hy hx => by
    subst hy
    have hfold : L.foldl stepR ([], [root]) = (t.map bare, o) := hR
    refine ⟨(okR_snoc L _ _).2 ⟨hL, by rw [hfold]; exact hx, by rw [hfold]; show (errStep (t.map bare) o (bareX x)).2 = 0; rw [errStep_bare]; exact he⟩, ?_⟩
    rw [readL_snoc, hR, stepR_bare]
  have hNq : ∀ c ∈ t.map core, NodeP s c ∧ c.2.2 < (q : Int) := fun c hc => ⟨(hN c hc).1, by have := (hN c hc).2; omega⟩
  have hx := Lx.step_cases hp hs
  rcases hx with ⟨rfl, rfl, hb, _⟩ | ⟨c, n, hc256, hcn, hn0, hn2, rfl, hb, hle, _, rfl⟩ | ⟨e, he1, he2, rfl, rfl, hok, hend⟩
  · -- a closing
    obtain ⟨hy1, hy2⟩ := snoc clL rfl (fun e => by cases e.1)
    have hlen : o.length ≠ 1 := err_close he
    obtain ⟨o0, ol, rfl⟩ : ∃ o0 ol, o = o0 ++ [ol] := ⟨o.dropLast, o.getLast (by intro e; subst e; simp at h1), (List.dropLast_concat_getLast _).symm⟩
    have h0 : 0 < o0.length := by rw [List.length_append, List.length_singleton] at hlen; omega
    have hst : stepR (t, o0 ++ [ol]) ⟨3, 0, Lx.emptyS, p⟩ = (t.modify ol.spot (setSize ((t.length : Int) - (ol.spot : Int))), ((if ol.kind = 114 ∧ ((o0 ++ [ol]).getD ((o0 ++ [ol]).length - 1 - 1) root).first = 0 then (o0 ++ [ol]).modify ((o0 ++ [ol]).length - 1 - 1) (setFirst ol.kids.size) else (o0 ++ [ol])).take ((o0 ++ [ol]).length - 1))) := by
      rw [stepR_close, topP_snoc]
    have hpath : pathOf (stepR (t, o0 ++ [ol]) ⟨3, 0, Lx.emptyS, p⟩).2 = pathOf o0 ∧ (stepR (t, o0 ++ [ol]) ⟨3, 0, Lx.emptyS, p⟩).2.length = o0.length := by
      rw [hst]
      simp only []
      split
      · rw [List.length_append, List.length_singleton, Nat.add_sub_cancel]
        have e : (((o0 ++ [ol]).modify (o0.length - 1) (setFirst ol.kids.size)).take o0.length) = o0.modify (o0.length - 1) (setFirst ol.kids.size) := by
          apply List.ext_getElem?
          intro j
          rcases Nat.lt_or_ge j o0.length with hj | hj
          · rw [List.getElem?_take_of_lt hj, List.getElem?_modify, List.getElem?_modify, List.getElem?_append_left hj]
          · rw [List.getElem?_eq_none (by rw [List.length_take]; omega), List.getElem?_eq_none (by rw [List.length_modify]; exact hj)]
        rw [e]
        exact ⟨path_modify _ _ (setFirst ol.kids.size) (fun o => ⟨rfl, rfl⟩), List.length_modify ..⟩
      · rw [List.length_append, List.length_singleton, Nat.add_sub_cancel, List.take_append_of_le_length (Nat.le_refl _), List.take_length]
        exact ⟨rfl, rfl⟩
    rw [path_snoc _ _ h0] at hZ
    have hz := hZ.closed
    refine ⟨⟨_, hy1, hy2, ?_⟩, by rw [hpath.2]; exact h0, ?_, ?_, ?_⟩
    · rw [hpath.1, hst]; exact hz
    · rw [hst]; simp only [core_modify]; exact hNq
    · rw [hst]; simp only [core_modify]; exact hr
    · rw [hst]; simp only [List.length_modify]; exact hf
  · -- an opening
    obtain ⟨hy1, hy2⟩ := snoc (opL c) rfl (fun e => by cases e.1)
    have hc46 : c ≠ 46 := fun e => by
      subst e
      have : Lx.nameS 46 = Lx.emptyS := by decide +kernel
      rw [this] at hcn; subst hcn
      exact absurd hn0 (by decide)
    have hbound : t.length < 2000 := err_open he
    obtain ⟨p2, hp2, hpl⟩ : ∃ p2, (stepR (t, o) ⟨2, c, Lx.emptyS, p⟩).2 = p2 ++ [⟨c, emptyS, t.length, 0, 0, emptyS⟩] ∧ (pathOf p2 = pathOf o ∧ p2.length = o.length) := by
      rw [stepR_open]
      refine ⟨_, rfl, ?_⟩
      split
      · exact ⟨(path_modify _ _ addNote (fun o => ⟨rfl, rfl⟩)).trans (path_modify _ _ (addKid c) (fun o => ⟨rfl, rfl⟩)), by rw [List.length_modify, List.length_modify]⟩
      · exact ⟨path_modify _ _ (addKid c) (fun o => ⟨rfl, rfl⟩), List.length_modify ..⟩
    have ht : (stepR (t, o) ⟨2, c, Lx.emptyS, p⟩).1 = t ++ [⟨c, emptyS, (p : Int), 1⟩] := by rw [stepR_open]
    have hNew : NodeP s (core ⟨c, emptyS, (p : Int), 1⟩) := by
      refine ⟨fun z => ?_, p, rfl, hp, fun e => absurd e hc46, fun _ => hb⟩
      unfold nodeOk core
      simp only []
      rw [if_neg hc46, hcn]
      have e0 : emptyS.size = 0 := by decide
      have eB : (Lx.bytesN emptyS).all Lx.okT = true := by decide +kernel
      rw [eB, Bool.and_true]
      simp only [decide_eq_true_eq]
      exact ⟨e0, by omega⟩
    refine ⟨⟨_, hy1, hy2, ?_⟩, by rw [hp2]; simp, ?_, ?_, ?_⟩
    · rw [hp2, ht, path_snoc _ _ (by rw [hpl.2]; exact h1), hpl.1]
      exact hZ.opened c (p : Int) hc46
    · rw [ht, List.map_append]
      intro d hd
      rcases List.mem_append.1 hd with hd | hd
      · exact hNq d hd
      · simp at hd; subst hd
        exact ⟨hNew, by show (p : Int) < _; omega⟩
    · rw [ht, List.map_append]
      exact rise_snoc hr (fun a ha => (hN a ha).2)
    · rw [ht, List.length_append]; simp; omega
  · -- a text
    by_cases htx : textsP o = false
    · have hsame : stepR (t, o) ⟨1, 0, s.extract p q, p⟩ = (t, o) := stepR_none t _ p htx
      rw [hsame]
      exact ⟨⟨L, hL, hR, hZ⟩, h1, hNq, hr, hf⟩
    · have htx' : textsP o = true := by simpa using htx
      obtain ⟨hy1, hy2⟩ := snoc (txL (s.extract p q)) rfl (fun e => htx e.2)
      have hbound : t.length < 2000 := err_text htx' he
      have ht : (stepR (t, o) ⟨1, 0, s.extract p q, p⟩).1 = t ++ [⟨46, s.extract p q, (p : Int), 1⟩] := by rw [stepR_text t _ p htx']
      have hpl : pathOf (stepR (t, o) ⟨1, 0, s.extract p q, p⟩).2 = pathOf o ∧ (stepR (t, o) ⟨1, 0, s.extract p q, p⟩).2.length = o.length := by
        rw [stepR_text t _ p htx']
        simp only []
        split
        · exact ⟨(path_modify _ _ (addText (s.extract p q)) (fun o => ⟨rfl, rfl⟩)).trans (path_modify _ _ (addKid 46) (fun o => ⟨rfl, rfl⟩)), by rw [List.length_modify, List.length_modify]⟩
        · exact ⟨path_modify _ _ (addKid 46) (fun o => ⟨rfl, rfl⟩), List.length_modify ..⟩
      have hte := Lx.step_text (s := s) hok
      rw [hs] at hte
      simp only [Sum.inl.injEq, Prod.mk.injEq] at hte
      have hq : q = Lx.tend s p := hte.2
      obtain ⟨_, z2, z3, _⟩ := Lx.tend_is s p (by omega)
      rw [← hq] at z2 z3
      have hsz := Lx.ext_size s p q z2
      have hNew : NodeP s (core ⟨46, s.extract p q, (p : Int), 1⟩) := by
        refine ⟨fun z => ?_, p, rfl, hp, fun _ => ?_, fun e => absurd rfl e⟩
        · unfold nodeOk core
          simp only []
          rw [if_pos trivial]
          have hb : (Lx.bytesN (s.extract p q)).all Lx.okT = true := by
            rw [List.all_eq_true]
            intro b hb
            rw [Lx.bytesN_ext] at hb
            obtain ⟨j, hj, rfl⟩ := List.mem_iff_getElem.1 hb
            rw [List.length_take, List.length_drop, Lx.bytesN_len] at hj
            rw [List.getElem_take, List.getElem_drop]
            have := z3 (p + j) (by omega) (by omega)
            unfold Lx.bAt at this
            rwa [List.getD_eq_getElem?_getD, List.getElem?_eq_getElem (by rw [Lx.bytesN_len]; omega)] at this
          rw [hb, Bool.and_true]
          simp only [decide_eq_true_eq]; omega
        · show 0 < (s.extract p q).size ∧ p + (s.extract p q).size ≤ s.size ∧ s.extract p (p + (s.extract p q).size) = s.extract p q
          rw [hsz, show p + (q - p) = q from by omega]
          exact ⟨by omega, z2, rfl⟩
      refine ⟨⟨_, hy1, hy2, ?_⟩, by rw [hpl.2]; exact h1, ?_, ?_, ?_⟩
      · rw [hpl.1, ht]
        exact hZ.text _ _
      · rw [ht, List.map_append]
        intro d hd
        rcases List.mem_append.1 hd with hd | hd
        · exact hNq d hd
        · simp at hd; subst hd
          exact ⟨hNew, by show (p : Int) < _; omega⟩
      · rw [ht, List.map_append]
        exact rise_snoc hr (fun a ha => (hN a ha).2)
      · rw [ht, List.length_append]; simp; omega
theorem Inv.run {s : ByteArray} {l : List Lx.Lx} : ∀ (n k p : Nat) (st : List Nd × List Op), l.length - k ≤ n → Lx.At s l k p → Inv s p st → errFrom st (l.drop k) = none → Inv s s.size ((l.drop k).foldl stepR st)
  | 0, k, p, st, hn, hA, hI, _ => by
    have hk : l.length ≤ k := by omega
    rw [List.drop_of_length_le hk]
    exact hI.mono hA.1
  | n + 1, k, p, st, hn, hA, hI, he => by
    rcases Nat.lt_or_ge k l.length with hk | hk
    · obtain ⟨x, q, hx, hs, hA2⟩ := hA.step hk
      have hd : l.drop k = x :: l.drop (k + 1) := by
        rw [List.drop_eq_getElem_cons hk]
        rw [List.getElem?_eq_getElem hk] at hx
        rw [Option.some.inj hx]
      rw [hd] at he ⊢
      unfold errFrom at he
      by_cases h0 : (errStep st.1 st.2 x).2 = 0
      · rw [if_pos h0] at he
        rw [List.foldl_cons]
        exact Inv.run n (k + 1) q _ (by omega) hA2 (hI.step (hA.lt hk) hs h0) he
      · rw [if_neg h0] at he; cases he
    · rw [List.drop_of_length_le hk]
      exact hI.mono hA.1
theorem wf_size {F : List Nd} {L : List Lx.Lx} (h : Wf F L) : ∀ (i : Nat) (x : Nd), F[i]? = some x → 1 ≤ x.size ∧ x.size ≤ (F.length : Int) - (i : Int) ∧ (x.kind = 46 → x.size = 1) := by
  induction h with
  | nil => intro i x hx; simp at hx
  | @text F L s pl _ ih =>
    intro i x hx
    rcases Nat.lt_or_ge i F.length with h1 | h1
    · rw [List.getElem?_append_left h1] at hx
      obtain ⟨a, b, c⟩ := ih i x hx
      exact ⟨a, by rw [List.length_append]; simp; omega, c⟩
    · rw [List.getElem?_append_right h1] at hx
      obtain h2 : i - F.length = 0 := by
        rcases Nat.eq_zero_or_pos (i - F.length) with h | h
        · exact h
        · rw [List.getElem?_eq_none (by simp; omega)] at hx; cases hx
      rw [h2] at hx
      simp at hx
      subst hx
      exact ⟨by show (1 : Int) ≤ 1; omega, by rw [List.length_append]; simp; omega, fun _ => rfl⟩
  | @node F G L M k pl _ _ hk ih1 ih2 =>
    intro i x hx
    rcases Nat.lt_or_ge i F.length with h1 | h1
    · rw [List.getElem?_append_left h1] at hx
      obtain ⟨a, b, c⟩ := ih1 i x hx
      exact ⟨a, by rw [List.length_append]; simp; omega, c⟩
    · rw [List.getElem?_append_right h1] at hx
      cases hj : i - F.length with
      | zero =>
        rw [hj] at hx
        simp at hx
        subst hx
        exact ⟨by simp only []; omega, by rw [List.length_append]; simp; omega, fun e => absurd e hk⟩
      | succ j =>
        rw [hj, List.getElem?_cons_succ] at hx
        obtain ⟨a, b, c⟩ := ih2 j x hx
        exact ⟨a, by rw [List.length_append]; simp; omega, c⟩
theorem Zip.wf {t : List Nd} {q : List (Nat × Nat)} {L : List Lx.Lx} (h : Zip t q L) (hq : q = []) : Wf t L := by
  cases h with
  | base hF => exact hF
  | push k pl hz hG hk => simp at hq
/-- P4.5: a tree that is parsed may be; its nodes stand in the source, where they are told to. -/
theorem parse_may (s : ByteArray) (h : Lx.lexE s = 0) (he : errFrom ([], [root]) (Lx.lexV s) = none) (h1 : (readL (Lx.lexV s)).2.length ≤ 1) :
    checkV (readL (Lx.lexV s)).1 = 0 ∧ (readL (Lx.lexV s)).1.length ≤ 2000 ∧
    (∀ (i : Nat) (x : Nd), (readL (Lx.lexV s)).1[i]? = some x → NodeP s (core x) ∧ 1 ≤ x.size ∧ x.size ≤ ((readL (Lx.lexV s)).1.length : Int) - (i : Int) ∧ (x.kind = 46 → x.size = 1)) ∧
    ((readL (Lx.lexV s)).1.map core).Pairwise fun a b => a.2.2 < b.2.2 := by
  have hI := Inv.run _ 0 0 ([], [root]) (Nat.le_refl _) (Lx.At.zero (Lx.lex_all h)) (Inv.start s) he
  rw [List.drop_zero] at hI
  have hI : Inv s s.size (readL (Lx.lexV s)) := hI
  obtain ⟨st, hst⟩ : ∃ st, readL (Lx.lexV s) = st := ⟨_, rfl⟩
  rw [hst] at hI h1 ⊢
  obtain ⟨⟨L, hL, hR, hZ⟩, ho, hN, hr, hf⟩ := hI
  have hp : pathOf st.2 = [] := by unfold pathOf; rw [List.drop_of_length_le h1]; rfl
  have hW : Wf st.1 L := hZ.wf hp
  refine ⟨?_, hf, fun i x hx => ⟨(hN (core x) (List.mem_map.2 ⟨x, List.mem_of_getElem? hx, rfl⟩)).1, wf_size hW i x hx⟩, hr⟩
  rw [checkV_ok]
  refine ⟨fun x hx => ?_, L, wf_ev0 hW, hL⟩
  exact (hN (core x) (List.mem_map.2 ⟨x, hx, rfl⟩)).1.1 x.size
end Go.Proofs.YtmldpkigfhoalaaDoor.Tr
namespace Go.Proofs.YtmldpkigfhoalaaDoor.Tr
open Go.RowKit

def shiftO (d : Nat) (o : Op) : Op := { o with spot := d + o.spot }
/-- The state st is st' behind the nodes of pre. -/
structure Sim (pre : List Nd) (st st' : List Nd × List Op) : Prop where
  nodes : st.1 = pre ++ st'.1
  stack : ∃ r r' p, st.2 = r :: p.map (shiftO pre.length) ∧ st'.2 = r' :: p ∧ r.kind = 0 ∧ r'.kind = 0 ∧ r.first = 0 ∧ r'.first = 0 ∧ ∀ a, p[0]? = some a → a.kind ≠ 114
theorem nil_or_snoc {α : Type} (p : List α) : p = [] ∨ ∃ q o, p = q ++ [o] := by
  rcases List.eq_nil_or_concat p with h | ⟨q, o, h⟩
  · exact .inl h
  · exact .inr ⟨q, o, by rw [h, List.concat_eq_append]⟩
theorem topP_cons (r o : Op) (p : List Op) : topP (r :: (p ++ [o])) = o := topP_snoc (r :: p) o
theorem topP_one (r : Op) : topP [r] = r := rfl
theorem texts_root {r : Op} (h : r.kind = 0) : textsP [r] = false := by
  unfold textsP
  rw [topP_one, h]
  have h0 : inK 0 flowS = false := by decide +kernel
  rw [h0]; rfl
theorem texts_cons (r r' : Op) (d : Nat) (p : List Op) (h : r.kind = 0) (h' : r'.kind = 0) : textsP (r :: p.map (shiftO d)) = textsP (r' :: p) := by
  rcases nil_or_snoc p with rfl | ⟨q, o, rfl⟩
  · rw [List.map_nil, texts_root h, texts_root h']
  · rw [List.map_append, List.map_cons, List.map_nil]
    unfold textsP
    rw [topP_cons, topP_cons]; rfl
theorem getD_map (d : Nat) (p : List Op) (r r' : Op) (n : Nat) (hn : 1 ≤ n) (hl : n ≤ p.length) : (r :: p.map (shiftO d)).getD n root = shiftO d ((r' :: p).getD n root) := by
  obtain ⟨m, rfl⟩ : ∃ m, n = m + 1 := ⟨n - 1, by omega⟩
  rw [List.getD_cons_succ, List.getD_cons_succ, List.getD_eq_getElem?_getD, List.getD_eq_getElem?_getD, List.getElem?_map, List.getElem?_eq_getElem (show m < p.length by omega)]
  rfl
theorem lastF_cons (r r' : Op) (d : Nat) (p : List Op) (ks : ByteArray) : ∀ n, n ≤ p.length + 1 → lastF (r :: p.map (shiftO d)) ks n = lastF (r' :: p) ks n
  | 0, _ => rfl
  | n + 1, hn => by
    unfold lastF
    by_cases h : n = 0
    · rw [if_pos h, if_pos h]
    · rw [if_neg h, if_neg h, getD_map d p r r' n (by omega) (by omega), lastF_cons r r' d p ks n (by omega)]; rfl
theorem lastP_cons (r r' : Op) (d : Nat) (p : List Op) (ks : ByteArray) : lastP (r :: p.map (shiftO d)) ks = lastP (r' :: p) ks := by
  unfold lastP
  rw [List.length_cons, List.length_cons, List.length_map]
  exact lastF_cons r r' d p ks _ (Nat.le_refl _)
theorem manyP_cons (r r' : Op) (d : Nat) (p : List Op) (k : Nat) : manyP (r :: p.map (shiftO d)) k = manyP (r' :: p) k := by
  unfold manyP
  rw [List.drop_one, List.drop_one, List.tail_cons, List.tail_cons, List.filter_map, List.length_map]; rfl
theorem opens_cons (r r' : Op) (d : Nat) (p : List Op) (k : Nat) (h : r.kind = 0) (h' : r'.kind = 0) : opensP (r :: p.map (shiftO d)) k = opensP (r' :: p) k := by
  rcases nil_or_snoc p with rfl | ⟨q, o, rfl⟩
  · rfl
  · have ht := texts_cons r r' d (q ++ [o]) h h'
    have hm := fun k => manyP_cons r r' d (q ++ [o]) k
    have hl := lastP_cons r r' d (q ++ [o]) aroundS
    have hle : lastP (r' :: (q ++ [o])) aroundS ≤ (q ++ [o]).length := by have := lastP_lt (p := r' :: (q ++ [o])) aroundS (by simp); rw [List.length_cons] at this; omega
    have hg : 0 < lastP (r' :: (q ++ [o])) aroundS → ((r :: (q ++ [o]).map (shiftO d)).getD (lastP (r' :: (q ++ [o])) aroundS) root).notes = ((r' :: (q ++ [o])).getD (lastP (r' :: (q ++ [o])) aroundS) root).notes := fun h0 => by
      rw [getD_map d (q ++ [o]) r r' _ h0 hle]; rfl
    have ht1 : topP (r :: (q ++ [o]).map (shiftO d)) = shiftO d o := by rw [List.map_append, List.map_cons, List.map_nil, topP_cons]
    unfold opensP
    simp only [ht1, topP_cons, ht, hm, hl, List.length_cons, List.length_map]
    have hk : (shiftO d o).kind = o.kind := rfl
    have hk2 : (shiftO d o).kids = o.kids := rfl
    rw [hk, hk2]
    by_cases h0 : 0 < lastP (r' :: (q ++ [o])) aroundS
    · rw [hg h0]
    · have : ∀ z w : Nat, (decide (manyP (r' :: (q ++ [o])) 99 = 0 ∧ 0 < lastP (r' :: (q ++ [o])) aroundS ∧ z = 0)) = (decide (manyP (r' :: (q ++ [o])) 99 = 0 ∧ 0 < lastP (r' :: (q ++ [o])) aroundS ∧ w = 0)) := fun z w => by
        rw [decide_eq_decide]; constructor <;> (rintro ⟨_, h2, _⟩; exact absurd h2 h0)
      rw [this]
theorem Sim.err {pre : List Nd} {st st' : List Nd × List Op} (h : Sim pre st st') (x : Lx.Lx) (hb : ¬ (x.kind = 1 ∧ textsP st.2 = false) → x.kind = 1 ∨ x.kind = 2 → st.1.length < 2000) : (errStep st.1 st.2 x).2 = (errStep st'.1 st'.2 x).2 := by
  obtain ⟨t, p⟩ := st
  obtain ⟨u, q⟩ := st'
  obtain ⟨rfl, r, r', p, rfl, rfl, hr, hr', hf, hf', ha⟩ := h
  simp only [] at hb
  rw [texts_cons r r' _ p hr hr'] at hb
  unfold errStep
  rw [texts_cons r r' _ p hr hr', opens_cons r r' _ p _ hr hr', lastP_cons r r' _ p noteS, manyP_cons r r' _ p 108]
  simp only [List.length_cons, List.length_map, List.length_append] at hb ⊢
  by_cases h1 : x.kind = 1
  · rw [if_pos h1, if_pos h1]
    split
    · rfl
    · have hlen : ¬ 2000 ≤ pre.length + u.length := by have := hb (fun e => (by assumption : ¬ textsP (r' :: p) = false) e.2) (.inl h1); omega
      have hlen' : ¬ 2000 ≤ u.length := by omega
      by_cases h0 : 0 < lastP (r' :: p) noteS
      · have hle : lastP (r' :: p) noteS ≤ p.length := by have := lastP_lt (p := r' :: p) noteS (by simp); rw [List.length_cons] at this; omega
        rw [getD_map _ p r r' _ h0 hle]
        simp only [hlen, hlen', false_or]
        rfl
      · simp only [hlen, hlen', h0, false_or, false_and, if_false]
  · rw [if_neg h1, if_neg h1]
    by_cases h2 : x.kind = 2
    · rw [if_pos h2, if_pos h2]
      have hlen : ¬ 2000 ≤ pre.length + u.length := by have := hb (fun e => h1 e.1) (.inr h2); omega
      have hlen' : ¬ 2000 ≤ u.length := by omega
      simp only [hlen, hlen', if_false]
    · rw [if_neg h2, if_neg h2]
      rcases nil_or_snoc p with rfl | ⟨q, o, rfl⟩
      · simp
      · have ht1 : topP (r :: (q ++ [o]).map (shiftO pre.length)) = shiftO pre.length o := by rw [List.map_append, List.map_cons, List.map_nil, topP_cons]
        rw [ht1, topP_cons]
        have hk : (shiftO pre.length o).kind = o.kind := rfl
        have hk2 : (shiftO pre.length o).kids = o.kids := rfl
        simp only [hk, hk2]
        rcases nil_or_snoc q with rfl | ⟨q2, o2, rfl⟩
        · have h114 : o.kind ≠ 114 := ha o (by simp)
          simp [h114]
        · rw [getD_map pre.length ((q2 ++ [o2]) ++ [o]) r r' _ (by simp) (by simp)]
          rfl
end Go.Proofs.YtmldpkigfhoalaaDoor.Tr
namespace Go.Proofs.YtmldpkigfhoalaaDoor.Tr
open Go.RowKit

/-- What is open, behind d nodes, and alone. -/
def St2 (d : Nat) (q q' : List Op) : Prop := ∃ r r' p, q = r :: p.map (shiftO d) ∧ q' = r' :: p ∧ r.kind = 0 ∧ r'.kind = 0 ∧ r.first = 0 ∧ r'.first = 0 ∧ ∀ a, p[0]? = some a → a.kind ≠ 114
theorem St2.len {d : Nat} {q q' : List Op} (h : St2 d q q') : q.length = q'.length := by obtain ⟨r, r', p, rfl, rfl, _⟩ := h; simp
theorem St2.last {d : Nat} {q q' : List Op} (h : St2 d q q') (ks : ByteArray) : lastP q ks = lastP q' ks := by obtain ⟨r, r', p, rfl, rfl, _⟩ := h; exact lastP_cons r r' d p ks
theorem modify_shift (d : Nat) (f : Op → Op) (hc : ∀ o, f (shiftO d o) = shiftO d (f o)) : ∀ (p : List Op) (n : Nat), (p.map (shiftO d)).modify n f = (p.modify n f).map (shiftO d)
  | [], n => by cases n <;> rfl
  | o :: p, 0 => by
    show f (shiftO d o) :: _ = _
    rw [hc]; rfl
  | o :: p, n + 1 => by
    show shiftO d o :: (p.map (shiftO d)).modify n f = _
    rw [modify_shift d f hc p n]; rfl
theorem St2.modify {d : Nat} {q q' : List Op} (h : St2 d q q') (n : Nat) (f : Op → Op) (hc : ∀ o, f (shiftO d o) = shiftO d (f o)) (hk : ∀ o, (f o).kind = o.kind) (hf : n = 0 → ∀ o, (f o).first = o.first) : St2 d (q.modify n f) (q'.modify n f) := by
  obtain ⟨r, r', p, rfl, rfl, h1, h2, h3, h4, ha⟩ := h
  cases n with
  | zero => exact ⟨f r, f r', p, rfl, rfl, (hk r).trans h1, (hk r').trans h2, (hf rfl r).trans h3, (hf rfl r').trans h4, ha⟩
  | succ n =>
    refine ⟨r, r', p.modify n f, ?_, rfl, h1, h2, h3, h4, fun a hx => ?_⟩
    · show r :: (p.map (shiftO d)).modify n f = _
      rw [modify_shift d f hc]
    · rw [List.getElem?_modify] at hx
      obtain ⟨b, hb, rfl⟩ := Option.map_eq_some_iff.1 hx
      split
      · rw [hk]; exact ha b hb
      · exact ha b hb
theorem St2.snoc {d : Nat} {q q' : List Op} (h : St2 d q q') (o : Op) (ho : q'.length = 1 → o.kind ≠ 114) : St2 d (q ++ [shiftO d o]) (q' ++ [o]) := by
  obtain ⟨r, r', p, rfl, rfl, h1, h2, h3, h4, ha⟩ := h
  refine ⟨r, r', p ++ [o], by simp, by simp, h1, h2, h3, h4, fun a hx => ?_⟩
  cases p with
  | nil => simp at hx; subst hx; exact ho rfl
  | cons b p => exact ha a (by simpa using hx)
theorem St2.take {d : Nat} {q q' : List Op} (h : St2 d q q') (n : Nat) (hn : 1 ≤ n) : St2 d (q.take n) (q'.take n) := by
  obtain ⟨r, r', p, rfl, rfl, h1, h2, h3, h4, ha⟩ := h
  obtain ⟨m, rfl⟩ : ∃ m, n = m + 1 := ⟨n - 1, by omega⟩
  refine ⟨r, r', p.take m, by simp, by simp, h1, h2, h3, h4, fun a hx => ?_⟩
  cases m with
  | zero => simp at hx
  | succ m => exact ha a (by rwa [List.getElem?_take_of_lt (by omega)] at hx)
theorem modify_far (pre u : List Nd) (i : Nat) (f : Nd → Nd) : (pre ++ u).modify (pre.length + i) f = pre ++ u.modify i f := by
  apply List.ext_getElem?
  intro j
  rcases Nat.lt_or_ge j pre.length with h | h
  · rw [List.getElem?_modify, List.getElem?_append_left h, List.getElem?_append_left h]
    have hne : ¬ pre.length + i = j := by omega
    simp only [hne, if_false]
    cases pre[j]? <;> rfl
  · rw [List.getElem?_modify, List.getElem?_append_right h, List.getElem?_append_right h, List.getElem?_modify]
    by_cases he : pre.length + i = j
    · subst he
      rw [Nat.add_sub_cancel_left]
      simp
    · have : ¬ i = j - pre.length := by omega
      simp only [he, this]
theorem Sim.mk2 {pre u : List Nd} {q q' : List Op} (h : St2 pre.length q q') : Sim pre (pre ++ u, q) (u, q') := ⟨rfl, h⟩
theorem Sim.step {pre : List Nd} {st st' : List Nd × List Op} (h : Sim pre st st') (x : Lx.Lx) (he : (errStep st'.1 st'.2 x).2 = 0) : Sim pre (stepR st x) (stepR st' x) := by
  obtain ⟨t, q⟩ := st
  obtain ⟨u, q'⟩ := st'
  obtain ⟨h0, h⟩ := h
  simp only [] at h0 h he
  subst h0
  have h : St2 pre.length q q' := h
  have hl := h.len
  unfold stepR
  simp only []
  by_cases h1 : x.kind = 1
  · rw [if_pos h1, if_pos h1]
    have ht : textsP q = textsP q' := by obtain ⟨r, r', p, rfl, rfl, a, b, _⟩ := h; exact texts_cons r r' _ p a b
    rw [ht]
    by_cases htx : textsP q' = true
    · rw [if_pos htx, if_pos htx]
      have hA := h.modify (q.length - 1) (addKid 46) (fun o => rfl) (fun o => rfl) (fun _ o => rfl)
      have hA2 := hA.modify (lastP (q.modify (q.length - 1) (addKid 46)) noteS) (addText x.text) (fun o => rfl) (fun o => rfl) (fun _ o => rfl)
      rw [hA.last noteS] at hA2 ⊢
      rw [hl] at hA hA2 ⊢
      refine ⟨by simp, ?_⟩
      simp only []
      split
      · exact hA2
      · exact hA
    · rw [if_neg htx, if_neg htx]
      exact ⟨rfl, h⟩
  · rw [if_neg h1, if_neg h1]
    by_cases h2 : x.kind = 2
    · rw [if_pos h2, if_pos h2]
      have hk : q'.length = 1 → x.name ≠ 114 := fun e e2 => by
        unfold errStep at he
        rw [if_neg h1, if_pos h2] at he
        unfold opensP at he
        simp only [e, e2, if_true] at he
        rw [if_pos (show inK 114 blockS = false by decide +kernel)] at he
        cases he
      have hA := h.modify (q.length - 1) (addKid x.name) (fun o => rfl) (fun o => rfl) (fun _ o => rfl)
      have hA2 := hA.modify (lastP (q.modify (q.length - 1) (addKid x.name)) aroundS) addNote (fun o => rfl) (fun o => rfl) (fun _ o => rfl)
      rw [hA.last aroundS] at hA2 ⊢
      rw [hl] at hA hA2 ⊢
      refine ⟨by simp, ?_⟩
      have hn : (⟨x.name, emptyS, (pre ++ u).length, 0, 0, emptyS⟩ : Op) = shiftO pre.length ⟨x.name, emptyS, u.length, 0, 0, emptyS⟩ := by simp [shiftO]
      rw [hn]
      simp only []
      split
      · exact hA2.snoc _ (fun e => hk (by rw [List.length_modify, List.length_modify] at e; exact e))
      · exact hA.snoc _ (fun e => hk (by rw [List.length_modify] at e; exact e))
    · rw [if_neg h2, if_neg h2]
      have hlen : q'.length ≠ 1 := fun e => by
        unfold errStep at he
        rw [if_neg h1, if_neg h2, if_pos (.inl e)] at he
        cases he
      have hs2 := h
      obtain ⟨r, r', p, rfl, rfl, a1, a2, a3, a4, ha⟩ := h
      rcases nil_or_snoc p with rfl | ⟨p0, o, rfl⟩
      · simp at hlen
      · have ht1 : topP (r :: (p0 ++ [o]).map (shiftO pre.length)) = shiftO pre.length o := by rw [List.map_append, List.map_cons, List.map_nil, topP_cons]
        rw [ht1, topP_cons]
        have hk : (shiftO pre.length o).kind = o.kind := rfl
        have hk2 : (shiftO pre.length o).kids = o.kids := rfl
        have hk3 : (shiftO pre.length o).spot = pre.length + o.spot := rfl
        rw [hk, hk2, hk3, hl, modify_far]
        have hsz : (((pre ++ u).length : Nat) : Int) - ((pre.length + o.spot : Nat) : Int) = (u.length : Int) - (o.spot : Int) := by rw [List.length_append]; omega
        rw [hsz]
        refine ⟨rfl, ?_⟩
        have hL : (r' :: (p0 ++ [o])).length - 1 = p0.length + 1 := by simp
        rw [hL, Nat.add_sub_cancel]
        rcases nil_or_snoc p0 with rfl | ⟨p1, o1, rfl⟩
        · have h114 : o.kind ≠ 114 := ha o (by simp)
          simp only [h114, false_and, if_false]
          exact hs2.take _ (by omega)
        · have hg := getD_map pre.length ((p1 ++ [o1]) ++ [o]) r r' (p1 ++ [o1]).length (by simp) (by simp)
          rw [hg]
          have hk4 : ∀ z : Op, (shiftO pre.length z).first = z.first := fun _ => rfl
          rw [hk4]
          simp only []
          split
          · exact (hs2.modify _ (setFirst o.kids.size) (fun o => rfl) (fun o => rfl) (fun e => by simp at e)).take _ (by omega)
          · exact hs2.take _ (by omega)
theorem err_len {t : List Nd} {p : List Op} {x : Lx.Lx} (h : (errStep t p x).2 = 0) (hx : ¬ (x.kind = 1 ∧ textsP p = false)) : x.kind = 1 ∨ x.kind = 2 → t.length < 2000 := fun hk => by
  rcases Nat.lt_or_ge t.length 2000 with h2 | h2
  · exact h2
  exfalso
  unfold errStep at h
  by_cases h1 : x.kind = 1
  · rw [if_pos h1, if_neg (fun e => hx ⟨h1, e⟩), if_pos (.inl h2)] at h; cases h
  · have h3 : x.kind = 2 := by rcases hk with e | e; exact absurd e h1; exact e
    rw [if_neg h1, if_pos h3] at h
    repeat' split at h
    all_goals first | omega | cases h
theorem Sim.texts {pre : List Nd} {st st' : List Nd × List Op} (h : Sim pre st st') : textsP st.2 = textsP st'.2 := by
  obtain ⟨_, r, r', p, e1, e2, a, b, _⟩ := h
  rw [e1, e2]; exact texts_cons r r' _ p a b
/-- Whatever is right behind other trees is right alone. -/
theorem Sim.alone {pre : List Nd} : ∀ (l : List Lx.Lx) (st st' : List Nd × List Op), Sim pre st st' → okR st l → okR st' l ∧ Sim pre (l.foldl stepR st) (l.foldl stepR st')
  | [], _, _, h, _ => ⟨trivial, h⟩
  | x :: l, st, st', h, ⟨h1, h2, h3⟩ => by
    have he := h.err x (fun _ => err_len h2 h1)
    have hs := h.step x (by rw [← he]; exact h2)
    obtain ⟨k1, k2⟩ := Sim.alone l _ _ hs h3
    exact ⟨⟨by rw [← h.texts]; exact h1, by rw [← he]; exact h2, k1⟩, k2⟩
theorem stepR_len (st : List Nd × List Op) (x : Lx.Lx) : st.1.length ≤ (stepR st x).1.length ∧ (¬ (x.kind = 1 ∧ textsP st.2 = false) → x.kind = 1 ∨ x.kind = 2 → st.1.length + 1 = (stepR st x).1.length) := by
  unfold stepR
  simp only []
  by_cases h1 : x.kind = 1
  · rw [if_pos h1]
    by_cases ht : textsP st.2 = true
    · rw [if_pos ht]; simp
    · rw [if_neg ht]
      exact ⟨Nat.le_refl _, fun h => absurd ⟨h1, by simpa using ht⟩ h⟩
  · rw [if_neg h1]
    by_cases h2 : x.kind = 2
    · rw [if_pos h2]; simp
    · rw [if_neg h2]
      simp [h1, h2]
theorem foldR_len : ∀ (l : List Lx.Lx) (st : List Nd × List Op), st.1.length ≤ (l.foldl stepR st).1.length
  | [], _ => Nat.le_refl _
  | x :: l, st => Nat.le_trans (stepR_len st x).1 (foldR_len l _)
/-- Whatever is right alone is right behind other trees, if there are not too many nodes. -/
theorem Sim.behind {pre : List Nd} : ∀ (l : List Lx.Lx) (st st' : List Nd × List Op), Sim pre st st' → okR st' l → pre.length + (l.foldl stepR st').1.length ≤ 2000 → okR st l ∧ Sim pre (l.foldl stepR st) (l.foldl stepR st')
  | [], _, _, h, _, _ => ⟨trivial, h⟩
  | x :: l, st, st', h, ⟨h1, h2, h3⟩, hb => by
    have hlen : x.kind = 1 ∨ x.kind = 2 → st.1.length < 2000 := fun hk => by
      have e1 := (stepR_len st' x).2 h1 hk
      have e2 := foldR_len l (stepR st' x)
      rw [List.foldl_cons] at hb
      rw [h.nodes, List.length_append]; omega
    have he := h.err x (fun _ => hlen)
    have hs := h.step x h2
    obtain ⟨k1, k2⟩ := Sim.behind l _ _ hs h3 hb
    exact ⟨⟨by rw [h.texts]; exact h1, by rw [he]; exact h2, k1⟩, k2⟩

/-! ### a row of trees leaves as many open as there were -/
theorem okR_app : ∀ (l m : List Lx.Lx) (st : List Nd × List Op), okR st (l ++ m) ↔ okR st l ∧ okR (l.foldl stepR st) m
  | [], m, st => by simp [okR]
  | x :: l, m, st => by
    show (_ ∧ _ ∧ okR (stepR st x) (l ++ m)) ↔ (_ ∧ _ ∧ okR (stepR st x) l) ∧ _
    rw [okR_app l m, List.foldl_cons]
    simp only [and_assoc]
theorem step_tx (st : List Nd × List Op) (s : ByteArray) : (stepR st (txL s)).2.length = st.2.length := by
  obtain ⟨t, p⟩ := st
  by_cases h : textsP p = true
  · rw [show txL s = ⟨1, 0, s, 0⟩ from rfl, stepR_text t s 0 h]
    simp only []
    split <;> simp
  · rw [show txL s = ⟨1, 0, s, 0⟩ from rfl, stepR_none t s 0 (by simpa using h)]
theorem step_op (st : List Nd × List Op) (k : Nat) : (stepR st (opL k)).2.length = st.2.length + 1 := by
  obtain ⟨t, p⟩ := st
  rw [show opL k = ⟨2, k, emptyS, 0⟩ from rfl, stepR_open]
  simp only []
  split <;> simp
theorem step_cl (st : List Nd × List Op) : (stepR st clL).2.length = st.2.length - 1 := by
  obtain ⟨t, p⟩ := st
  rw [show clL = ⟨3, 0, emptyS, 0⟩ from rfl, stepR_close]
  simp only []
  split <;> simp
theorem wf_len {F : List Nd} {L : List Lx.Lx} (h : Wf F L) : ∀ st : List Nd × List Op, (L.foldl stepR st).2.length = st.2.length := by
  induction h with
  | nil => intro st; rfl
  | text s pl _ ih => intro st; rw [List.foldl_append, List.foldl_cons, List.foldl_nil, step_tx, ih]
  | node k pl _ _ _ ih1 ih2 =>
    intro st
    rw [List.foldl_append, List.foldl_cons, List.foldl_append, List.foldl_cons, List.foldl_nil, step_cl, ih2, step_op, ih1]; omega
end Go.Proofs.YtmldpkigfhoalaaDoor.Tr
namespace Go.Proofs.YtmldpkigfhoalaaDoor.Tr
open Go.RowKit

/-- The first tree of a row of trees. -/
theorem evA_split {t : List Nd} {a e : Nat} {L : List Lx.Lx} (h : evA t a e = some L) (hlt : a < e) :
    ∃ x n Lb R, t[a]? = some x ∧ x.size = ((n : Nat) : Int) ∧ 1 ≤ n ∧ a + n ≤ e ∧ evA t a (a + n) = some Lb ∧ evA t (a + n) e = some R ∧ L = Lb ++ R := by
  rw [evA_step t a e hlt] at h
  cases hx : t[a]? with
  | none => rw [hx] at h; cases h
  | some x =>
    rw [hx] at h
    simp only [] at h
    by_cases hs : x.size < 1 ∨ (e : Int) < (a : Int) + x.size
    · rw [if_pos hs] at h; cases h
    rw [if_neg hs] at h
    by_cases hk : x.kind = 46
    · rw [if_pos hk] at h
      by_cases h5 : x.size = 1
      · rw [if_pos h5] at h
        obtain ⟨R, hR, rfl⟩ := Option.map_eq_some_iff.1 h
        exact ⟨x, 1, [txL x.text], R, rfl, h5, Nat.le_refl _, by omega, by rw [evA_text (by omega) hx hk h5, evA_end _ _ _ (Nat.le_refl _)]; rfl, hR, rfl⟩
      · rw [if_neg h5] at h; cases h
    · rw [if_neg hk] at h
      obtain ⟨K, hK, h3⟩ := Option.bind_eq_some_iff.1 h
      obtain ⟨R, hR, rfl⟩ := Option.map_eq_some_iff.1 h3
      obtain ⟨n, hn⟩ : ∃ n : Nat, x.size = (n : Int) := ⟨x.size.toNat, by omega⟩
      rw [hn, Int.toNat_natCast] at hK hR
      refine ⟨x, n, opL x.kind :: (K ++ [clL]), R, rfl, hn, by omega, by omega, ?_, hR, by simp⟩
      rw [evA_node hx hk hn (by omega) (Nat.le_refl _), hK, Option.bind_some, evA_end _ _ _ (Nat.le_refl _)]; rfl
theorem plain_ok {x : Nd} (h : nodeOk x = true) : plainNd x := fun hk => by
  unfold nodeOk at h
  rw [if_neg hk, Bool.and_eq_true, decide_eq_true_eq] at h
  exact ByteArray.ext (Array.eq_empty_of_size_eq_zero h.1.1)
/-- Behind some of a tree's blocks. -/
def Bd (t : List Nd) (a : Nat) : Prop := a ≤ t.length ∧ ∃ L1 L2, evA t 0 a = some L1 ∧ evA t a t.length = some L2 ∧ okR ([], [root]) (L1 ++ L2)
theorem Bd.zero {t : List Nd} (h : checkV t = 0) : Bd t 0 := by
  obtain ⟨_, l, hl, hok⟩ := (checkV_ok t).1 h
  exact ⟨Nat.zero_le _, [], l, evA_end _ _ _ (Nat.le_refl _), hl, hok⟩
theorem sim_root : Sim [] ([], [root]) ([], [root]) := ⟨rfl, root, root, [], rfl, rfl, rfl, rfl, rfl, rfl, fun a h => by simp at h⟩
/-- Behind whole trees that are right the tree itself alone is open. -/
theorem root_open {F : List Nd} {L : List Lx.Lx} (hW : Wf F L) (h : okR ([], [root]) L) : Sim (readL L).1 (readL L) ([], [root]) := by
  obtain ⟨_, hs⟩ := sim_root.alone L _ _ h
  have hl : (readL L).2.length = 1 := wf_len hW ([], [root])
  obtain ⟨_, r, r', p, e1, _, h1, _, h3, _, _⟩ := hs
  have e1 : (readL L).2 = r :: p.map (shiftO 0) := e1
  have hp : p = [] := by
    rw [e1] at hl
    simp at hl; exact hl
  subst hp
  exact ⟨by simp, r, root, [], e1, rfl, h1, rfl, h3, rfl, fun a h => by simp at h⟩
/-- P4.2: a block alone. -/
theorem Bd.step {t : List Nd} (h : checkV t = 0) {a : Nat} (hB : Bd t a) (hlt : a < t.length) :
    ∃ x n, t[a]? = some x ∧ x.size = ((n : Nat) : Int) ∧ 1 ≤ n ∧ a + n ≤ t.length ∧ checkV ((t.take (a + n)).drop a) = 0 ∧ Bd t (a + n) := by
  obtain ⟨hN, _⟩ := (checkV_ok t).1 h
  obtain ⟨ha, L1, L2, h1, h2, hok⟩ := hB
  obtain ⟨x, n, Lb, R, hx, hs, hn, hle, hb, hr, rfl⟩ := evA_split h2 hlt
  have hp : ∀ x ∈ t, plainNd x := fun x hx => plain_ok (hN x hx)
  have hW1 := ev_wf t hp _ 0 a L1 (Nat.le_refl _) (Nat.zero_le _) ha h1
  have hWb := ev_wf t hp _ a (a + n) Lb (Nat.le_refl _) (by omega) hle hb
  have hok2 := hok
  rw [← List.append_assoc] at hok2
  have hk := (okR_app (L1 ++ Lb) R _).1 hok2
  have hk1 := (okR_app L1 Lb _).1 hk.1
  have hsim := root_open hW1 hk1.1
  have hbOk := (hsim.alone Lb _ _ hk1.2).1
  refine ⟨x, n, hx, hs, hn, hle, ?_, by omega, L1 ++ Lb, R, evA_app t _ 0 a (a + n) L1 Lb (Nat.le_refl _) (Nat.zero_le _) (by omega) h1 hb, hr, hok2⟩
  rw [checkV_ok]
  exact ⟨fun y hy => hN y (List.mem_of_mem_take (List.mem_of_mem_drop hy)), Lb, wf_ev0 hWb, hbOk⟩

/-- P4.3: as many nodes, of the same kinds, texts, sizes. -/
def sameNd (x y : Nd) : Bool := decide (x.kind = y.kind ∧ x.text = y.text ∧ x.size = y.size)
def sameV (t u : List Nd) : Bool := decide (t.length = u.length) && (List.zip t u).all fun z => sameNd z.1 z.2
theorem sameNd_symm (x y : Nd) : sameNd x y = sameNd y x := by
  unfold sameNd
  rw [decide_eq_decide]
  constructor <;> (rintro ⟨a, b, c⟩; exact ⟨a.symm, b.symm, c.symm⟩)
theorem zip_symm : ∀ t u : List Nd, ((List.zip t u).all fun z => sameNd z.1 z.2) = (List.zip u t).all fun z => sameNd z.1 z.2
  | [], u => by cases u <;> rfl
  | x :: t, [] => rfl
  | x :: t, y :: u => by
    rw [List.zip_cons_cons, List.zip_cons_cons, List.all_cons, List.all_cons, zip_symm t u, sameNd_symm]
theorem sameV_symm (t u : List Nd) : sameV t u = sameV u t := by
  unfold sameV
  rw [zip_symm]
  congr 1
  rw [decide_eq_decide]; exact ⟨Eq.symm, Eq.symm⟩
theorem sameV_refl : ∀ t : List Nd, sameV t t = true
  | [] => rfl
  | x :: t => by
    have ih := sameV_refl t
    unfold sameV at ih ⊢
    rw [Bool.and_eq_true] at ih ⊢
    refine ⟨by simp, ?_⟩
    rw [List.zip_cons_cons, List.all_cons, ih.2]
    simp [sameNd]
end Go.Proofs.YtmldpkigfhoalaaDoor.Tr
namespace Go.Proofs.YtmldpkigfhoalaaDoor.Tr
open Go.RowKit Lx

theorem head_uniq : ∀ j k : Fin 13, (nameL (letterN j.val)).head? = (nameL (letterN k.val)).head? → j = k ∨ ((nameL (letterN j.val)).length = 2 ∧ (nameL (letterN k.val)).length = 2) := by decide +kernel
theorem name_uniq : ∀ j k : Fin 13, nameL (letterN j.val) = nameL (letterN k.val) → j = k := by decide +kernel
theorem name_bytes : ∀ k : Fin 13, (∀ x ∈ nameL (letterN k.val), x < 256) ∧ 0 < (nameL (letterN k.val)).length := by decide +kernel
theorem fits_bytes {s : ByteArray} {q : Nat} {k : Fin 13} (h : fits s q (letterN k.val)) : ((bytesN s).drop q).take (nameL (letterN k.val)).length = nameL (letterN k.val) := by
  have h2 := congrArg bytesN h.2
  rw [bytesN_ext, nameS_size, Nat.add_sub_cancel_left] at h2
  rw [h2]; unfold nameS; exact bytesN_bytesOf _ (name_bytes k).1
theorem fits_uniq {s : ByteArray} {q : Nat} {j k : Fin 13} (hj : fits s q (letterN j.val)) (hk : fits s q (letterN k.val)) : j = k := by
  have bj := fits_bytes hj
  have bk := fits_bytes hk
  have lj := (name_bytes j).2
  have lk := (name_bytes k).2
  have hh : (nameL (letterN j.val)).head? = (nameL (letterN k.val)).head? := by
    rw [← bj, ← bk, List.head?_take, List.head?_take, if_neg (by omega), if_neg (by omega)]
  rcases head_uniq j k hh with h | ⟨h1, h2⟩
  · exact h
  · exact name_uniq j k (by rw [← bj, ← bk, h1, h2])
/-- A name that stands within the first of two texts stands in both. -/
theorem openC_join {a t : ByteArray} {q : Nat} (h : openC a q ≠ 0) : openC (a ++ t) q = openC a q := by
  obtain ⟨k, hk⟩ : ∃ k : Fin 13, letterN k.val = openC a q := by
    unfold openC at h ⊢
    cases hff : (List.range 13).find? (fun k => decide (fits a q (letterN k))) with
    | none => rw [hff] at h; exact absurd rfl h
    | some k => exact ⟨⟨k, List.mem_range.1 (List.mem_of_find?_eq_some hff)⟩, rfl⟩
  have hf := openC_fits h
  rw [← hk] at hf ⊢
  have hf2 : fits (a ++ t) q (letterN k.val) := (fits_left hf.1).2 hf
  exact openC_at (fun j hj hfj => by
    have := fits_uniq (j := ⟨j, by omega⟩) (k := k) hfj hf2
    have := congrArg Fin.val this
    simp at this; omega) k.isLt hf2
theorem step_join {a t : ByteArray} {p q : Nat} {x : Lx} (hp : p < a.size) (hs : stepF a p = .inl (x, q)) (hq : q < a.size ∨ x.kind = 3) : stepF (a ++ t) p = .inl (x, q) := by
  have hB := bAt_left a t p hp
  by_cases h1 : bAt a p = 125
  · rw [step_close h1] at hs
    rw [step_close (hB.trans h1)]; exact hs
  by_cases h2 : bAt a p = 123
  · by_cases h3 : openC a (p + 1) = 0
    · rw [step_none h2 h3] at hs; cases hs
    · have h4 := openC_join (t := t) h3
      rw [step_open h2 h3] at hs
      rw [step_open (hB.trans h2) (by rw [h4]; exact h3), h4]
      simp only [Sum.inl.injEq, Prod.mk.injEq] at hs
      obtain ⟨rfl, rfl⟩ := hs
      have hq : skip a (p + 1 + (nameS (openC a (p + 1))).size) < a.size := by
        rcases hq with h | h
        · exact h
        · cases h
      have hle := skip_ge a (p + 1 + (nameS (openC a (p + 1))).size)
      rw [skip_left (by omega)]
  · by_cases h3 : okT (bAt a p) = true
    · rw [step_text h3] at hs
      rw [step_text (by rw [hB]; exact h3)]
      simp only [Sum.inl.injEq, Prod.mk.injEq] at hs
      obtain ⟨rfl, rfl⟩ := hs
      have hq : tend a p < a.size := by
        rcases hq with h | h
        · exact h
        · cases h
      obtain ⟨a1, a2, a3, a4⟩ := tend_is a p (by omega)
      have ht : tend (a ++ t) p = tend a p := (tend_is (a ++ t) p (by rw [size_app]; omega)).unique ⟨a1, by rw [size_app]; omega, fun j j1 j2 => by rw [bAt_left a t j (by omega)]; exact a3 j j1 j2, fun _ => by rw [bAt_left a t _ hq]; exact a4 hq⟩
      rw [ht, ext_left a t p _ a2]
    · rw [step_bad h1 h2 (by simpa using h3)] at hs; cases hs
def nlS : ByteArray := { data := #[10] }
def join (a b : ByteArray) : ByteArray := (a ++ nlS) ++ b
theorem join_size (a b : ByteArray) : (join a b).size = a.size + 1 + b.size := by unfold join; rw [size_app, size_app]; rfl
theorem join_right (a b : ByteArray) (i : Nat) : bAt (join a b) (a.size + 1 + i) = bAt b i := by
  have := bAt_right (a ++ nlS) b i
  rwa [size_app] at this
theorem join_mid (a b : ByteArray) : bAt (join a b) a.size = 10 := by
  unfold join
  rw [bAt_left _ _ _ (by rw [size_app]; exact Nat.lt_succ_self _)]
  have := bAt_right a nlS 0
  rw [Nat.add_zero] at this
  rw [this]; decide +kernel
theorem join_left (a b : ByteArray) (i : Nat) (h : i < a.size) : bAt (join a b) i = bAt a i := by
  unfold join
  rw [bAt_left _ _ _ (by rw [size_app]; omega), bAt_left _ _ _ h]
theorem okT_nl : okT 10 = true := by decide +kernel
/-- The text that goes over from the first source to the second one. -/
theorem tend_join (a b : ByteArray) (p : Nat) (hp : p ≤ a.size) (h : ∀ j, p ≤ j → j < a.size → okT (bAt a j) = true) : tend (join a b) p = a.size + 1 + tend b 0 := by
  obtain ⟨_, b2, b3, b4⟩ := tend_is b 0 (Nat.zero_le _)
  refine (tend_is (join a b) p (by rw [join_size]; omega)).unique ⟨by omega, by rw [join_size]; omega, fun j j1 j2 => ?_, fun hlt => ?_⟩
  · rcases Nat.lt_trichotomy j a.size with h1 | h1 | h1
    · rw [join_left a b j h1]; exact h j j1 h1
    · rw [h1, join_mid]; exact okT_nl
    · obtain ⟨i, rfl⟩ : ∃ i, j = a.size + 1 + i := ⟨j - (a.size + 1), by omega⟩
      rw [join_right]; exact b3 i (Nat.zero_le _) (by omega)
  · rw [join_right]; exact b4 (by rw [join_size] at hlt; omega)
theorem lex_tail (a b : ByteArray) (i : Nat) : lexA (join a b) (a.size + 1 + i) = ((lexA b i).1.map (shiftX (a.size + 1)), (lexA b i).2.map fun z => (a.size + 1 + z.1, z.2)) := by
  have := lex_right (a ++ nlS) b _ i (Nat.le_refl _)
  rw [size_app] at this
  exact this
/-- What is read of both: of the first one up to its last text, a text that goes over, of the second one from behind its first text. -/
theorem lex_join (a b : ByteArray) : ∀ n p, a.size - p ≤ n → p ≤ a.size → (lexA a p).2 = none → (∀ x, (lexA a p).1.getLast? = some x → x.kind ≠ 2) →
    ∃ L W pl, (lexA a p).1 = L ++ W ∧ ((W = [] ∧ pl = a.size) ∨ (W = [⟨1, 0, a.extract pl a.size, pl⟩] ∧ pl < a.size)) ∧ pl ≤ a.size ∧
      lexA (join a b) p = (L ++ ⟨1, 0, (join a b).extract pl (a.size + 1 + tend b 0), pl⟩ :: (lexA b (tend b 0)).1.map (shiftX (a.size + 1)), (lexA b (tend b 0)).2.map fun z => (a.size + 1 + z.1, z.2)) := by
  have fin : ∀ p, p ≤ a.size → (∀ j, p ≤ j → j < a.size → okT (bAt a j) = true) → lexA (join a b) p = (⟨1, 0, (join a b).extract p (a.size + 1 + tend b 0), p⟩ :: (lexA b (tend b 0)).1.map (shiftX (a.size + 1)), (lexA b (tend b 0)).2.map fun z => (a.size + 1 + z.1, z.2)) := fun p hp h => by
    have hok : okT (bAt (join a b) p) = true := by
      rcases Nat.eq_or_lt_of_le hp with h1 | h1
      · rw [h1, join_mid]; exact okT_nl
      · rw [join_left a b p h1]; exact h p (Nat.le_refl _) h1
    rw [lexA_step _ p (by rw [join_size]; omega), step_text hok, tend_join a b p hp h]
    simp only []
    rw [lex_tail]
  intro n
  induction n with
  | zero =>
    intro p hn hp _ _
    obtain rfl : p = a.size := by omega
    refine ⟨[], [], a.size, by rw [lexA_end a a.size (Nat.le_refl _)]; rfl, .inl ⟨rfl, rfl⟩, Nat.le_refl _, fin _ (Nat.le_refl _) (fun j h1 h2 => by omega)⟩
  | succ n ih =>
    intro p hn hp h0 hlast
    rcases Nat.eq_or_lt_of_le hp with rfl | hlt
    · exact ⟨[], [], a.size, by rw [lexA_end a a.size (Nat.le_refl _)]; rfl, .inl ⟨rfl, rfl⟩, Nat.le_refl _, fin _ (Nat.le_refl _) (fun j h1 h2 => by omega)⟩
    have hst := lexA_step a p hlt
    cases hs : stepF a p with
    | inr e => rw [hs] at hst; rw [hst] at h0; cases h0
    | inl xq =>
      obtain ⟨x, q⟩ := xq
      rw [hs] at hst
      simp only [] at hst
      have hpq := stepF_lt hlt hs
      obtain ⟨hq, hpl⟩ := stepF_le hlt hs
      by_cases hgo : q < a.size ∨ x.kind = 3
      · have h0' : (lexA a q).2 = none := by rw [hst] at h0; exact h0
        have hlast' : ∀ y, (lexA a q).1.getLast? = some y → y.kind ≠ 2 := fun y hy => hlast y (by
          rw [hst]
          cases hL : (lexA a q).1 with
          | nil => rw [hL] at hy; cases hy
          | cons z l => rw [hL] at hy; rw [List.getLast?_cons_cons]; exact hy)
        obtain ⟨L, W, pl, e1, e2, e3, e4⟩ := ih q (by omega) hq h0' hlast'
        refine ⟨x :: L, W, pl, by rw [hst, e1]; rfl, e2, e3, ?_⟩
        have hj : stepF (join a b) p = .inl (x, q) := by
          have := step_join (t := nlS ++ b) hlt hs hgo
          unfold join
          rwa [ByteArray.append_assoc]
        rw [lexA_step _ p (by rw [join_size]; omega), hj]
        simp only []
        rw [e4]; rfl
      · have hqa : q = a.size := by
          rcases Nat.lt_or_ge q a.size with h | h
          · exact absurd (.inl h) hgo
          · omega
        have hend := lexA_end a q (by omega)
        rw [hend] at hst
        have hk2 : x.kind ≠ 2 := hlast x (by rw [hst]; rfl)
        rcases step_cases hlt hs with ⟨rfl, _⟩ | ⟨c, m, _, _, _, _, rfl, _⟩ | ⟨e, _, _, rfl, rfl, hok, _⟩
        · exact absurd (.inr rfl) hgo
        · exact absurd rfl hk2
        · subst hqa
          have hte := step_text (s := a) hok
          rw [hs] at hte
          simp only [Sum.inl.injEq, Prod.mk.injEq] at hte
          obtain ⟨_, _, z3, _⟩ := tend_is a p (by omega)
          rw [← hte.2] at z3
          exact ⟨[], [⟨1, 0, a.extract p a.size, p⟩], p, by rw [hst]; rfl, .inr ⟨rfl, hlt⟩, hp, fin p hp z3⟩
/-- What is read of a second source, its first text apart. -/
theorem lex_head (b : ByteArray) : (tend b 0 = 0 ∧ lexA b 0 = lexA b (tend b 0)) ∨ (0 < tend b 0 ∧ lexA b 0 = (⟨1, 0, b.extract 0 (tend b 0), 0⟩ :: (lexA b (tend b 0)).1, (lexA b (tend b 0)).2)) := by
  obtain ⟨_, z2, z3, z4⟩ := tend_is b 0 (Nat.zero_le _)
  rcases Nat.eq_zero_or_pos (tend b 0) with h | h
  · exact .inl ⟨h, by rw [h]⟩
  · refine .inr ⟨h, ?_⟩
    rw [lexA_step b 0 (by omega), step_text (z3 0 (Nat.le_refl _) h)]
end Go.Proofs.YtmldpkigfhoalaaDoor.Tr
namespace Go.Proofs.YtmldpkigfhoalaaDoor.Tr
open Go.RowKit Lx

theorem errFrom_app : ∀ (l m : List Lx) (st : List Nd × List Op), errFrom st (l ++ m) = none ↔ errFrom st l = none ∧ errFrom (l.foldl stepR st) m = none
  | [], m, st => by simp [errFrom]
  | x :: l, m, st => by
    rw [List.cons_append, List.foldl_cons]
    unfold errFrom
    by_cases h : (errStep st.1 st.2 x).2 = 0
    · rw [if_pos h, if_pos h]
      cases l <;> cases m <;> first | exact errFrom_app _ _ _ | exact errFrom_app _ _ _
    · rw [if_neg h, if_neg h]; simp
/-- Some of what is read of a source, ahead of its first error. -/
theorem Inv.part {s : ByteArray} {l : List Lx} (hA : lexA s 0 = (l, none)) (he : errFrom ([], [root]) l = none) : ∀ m, m ≤ l.length → ∃ p, At s l m p ∧ Inv s p (readL (l.take m))
  | 0, _ => ⟨0, At.zero hA, Inv.start s⟩
  | m + 1, hm => by
    obtain ⟨p, hA1, hI⟩ := Inv.part hA he m (by omega)
    obtain ⟨x, q, hx, hs, hA2⟩ := hA1.step (by omega)
    refine ⟨q, hA2, ?_⟩
    have ht : l.take (m + 1) = l.take m ++ [x] := by rw [List.take_add_one, hx]; rfl
    have hd : l = (l.take m ++ [x]) ++ l.drop (m + 1) := by rw [← ht, List.take_append_drop]
    rw [hd] at he
    have h1 := ((errFrom_app _ _ _).1 ((errFrom_app _ _ _).1 he).1).2
    have h0 : (errStep (readL (l.take m)).1 (readL (l.take m)).2 x).2 = 0 := by
      have h1 : errFrom (readL (l.take m)) [x] = none := h1
      unfold errFrom at h1
      by_cases h : (errStep (readL (l.take m)).1 (readL (l.take m)).2 x).2 = 0
      · exact h
      · rw [if_neg h] at h1; cases h1
    rw [ht, readL_snoc]
    exact hI.step (hA1.lt (by omega)) hs h0
theorem dark_none {s : ByteArray} (h : darkAt s = none) : ∀ i, i < s.size → white (bAt s i) = true := fun i hi => by
  unfold darkAt at h
  rw [List.find?_eq_none] at h
  have := h i (List.mem_range.2 hi)
  simpa using this
theorem none_dark {s : ByteArray} (h : ∀ i, i < s.size → white (bAt s i) = true) : darkAt s = none := by
  unfold darkAt
  rw [List.find?_eq_none]
  intro i hi
  rw [h i (List.mem_range.1 hi)]; simp
theorem err_white {t : List Nd} {p : List Op} {tx : ByteArray} {pl : Nat} (ht : textsP p = false) : (errStep t p ⟨1, 0, tx, pl⟩).2 = 0 ↔ darkAt tx = none := by
  change (if textsP p = false then (match darkAt tx with | some i => (pl + i, 2) | none => (0, 0)) else _).2 = 0 ↔ _
  rw [if_pos ht]
  cases darkAt tx <;> simp
theorem bare_same : ∀ t u : List Nd, t.map bare = u.map bare → sameV t u = true
  | [], [], _ => rfl
  | [], y :: u, h => by simp at h
  | x :: t, [], h => by simp at h
  | x :: t, y :: u, h => by
    simp only [List.map_cons, List.cons.injEq] at h
    have ih := bare_same t u h.2
    unfold sameV at ih ⊢
    rw [Bool.and_eq_true] at ih ⊢
    have hd := ih.1
    rw [decide_eq_true_eq] at hd
    refine ⟨by simp [hd], ?_⟩
    rw [List.zip_cons_cons, List.all_cons, ih.2, Bool.and_true]
    obtain ⟨a1, a2, a3, a4⟩ := x
    obtain ⟨b1, b2, b3, b4⟩ := y
    have h1 := h.1
    simp only [bare, Nd.mk.injEq] at h1
    simp [sameNd, h1]
/-- A run, whose places count for nothing, behind other trees. -/
theorem far_run {pre : List Nd} (d : Nat) : ∀ (l : List Lx) (st st' : List Nd × List Op), Sim pre (st.1.map bare, st.2) (st'.1.map bare, st'.2) → errFrom st' l = none → pre.length + (l.foldl stepR st').1.length ≤ 2000 →
    errFrom st (l.map (shiftX d)) = none ∧ Sim pre ((((l.map (shiftX d)).foldl stepR st).1).map bare, ((l.map (shiftX d)).foldl stepR st).2) ((l.foldl stepR st').1.map bare, (l.foldl stepR st').2)
  | [], _, _, h, _, _ => ⟨rfl, h⟩
  | x :: l, st, st', h, he, hb => by
    rw [List.foldl_cons] at hb
    unfold errFrom at he
    by_cases h0 : (errStep st'.1 st'.2 x).2 = 0
    · rw [if_pos h0] at he
      have hx : bareX (shiftX d x) = bareX x := rfl
      have e0 : (errStep (st'.1.map bare) st'.2 (bareX x)).2 = 0 := by rw [errStep_bare]; exact h0
      have hlen : ¬ ((bareX x).kind = 1 ∧ textsP (st.1.map bare, st.2).2 = false) → (bareX x).kind = 1 ∨ (bareX x).kind = 2 → (st.1.map bare, st.2).1.length < 2000 := fun h1 hk => by
        have ht := h.texts
        have e1 := (stepR_len st' x).2 (fun e => h1 ⟨e.1, by rw [ht]; exact e.2⟩) hk
        have e2 := foldR_len l (stepR st' x)
        have e3 := congrArg List.length h.nodes
        simp only [List.length_append, List.length_map] at e3 ⊢
        omega
      have hE := h.err (bareX x) hlen
      have hE1 : (errStep st.1 st.2 (shiftX d x)).2 = 0 := by
        rw [← errStep_bare st.1 st.2 (shiftX d x), hx]
        exact hE.trans e0
      have hS := h.step (bareX x) e0
      have hA := stepR_bare st.1 st.2 (shiftX d x)
      rw [hx] at hA
      have hBB := stepR_bare st'.1 st'.2 x
      have hS : Sim pre ((stepR st (shiftX d x)).1.map bare, (stepR st (shiftX d x)).2) ((stepR st' x).1.map bare, (stepR st' x).2) := by
        rw [hA, hBB] at hS; exact hS
      obtain ⟨k1, k2⟩ := far_run d l _ _ hS he hb
      rw [List.map_cons]
      refine ⟨?_, k2⟩
      unfold errFrom
      rw [if_pos hE1]; exact k1
    · rw [if_neg h0] at he; cases he

/-! ### two sources -/
/-- A source that is parsed. -/
def Parsed (s : ByteArray) : Prop := lexE s = 0 ∧ errFrom ([], [root]) (lexV s) = none ∧ (readL (lexV s)).2.length ≤ 1
/-- The last part that is read of it is no opening. -/
theorem Parsed.last {s : ByteArray} (h : Parsed s) : ∀ x, (lexV s).getLast? = some x → x.kind ≠ 2 := fun x hx hk => by
  obtain ⟨h1, h2, h3⟩ := h
  have hA := lex_all h1
  rcases nil_or_snoc (lexV s) with e | ⟨l, y, e⟩
  · rw [e] at hx; cases hx
  · rw [e] at hx hA h2 h3
    simp at hx
    subst hx
    obtain ⟨p, _, hI⟩ := Inv.part hA h2 l.length (by simp)
    rw [List.take_append_of_le_length (Nat.le_refl _), List.take_length] at hI
    have ho := hI.open1
    obtain ⟨z, _, hz, hs, _⟩ := (Inv.part hA h2 l.length (by simp)).choose_spec.1.step (by simp)
    simp at hz
    subst hz
    rw [readL_snoc] at h3
    obtain ⟨yk, yn, yt, yp⟩ := y
    simp only [] at hk
    subst hk
    have e2 : (stepR (readL l) ⟨2, yn, yt, yp⟩).2.length = (readL l).2.length + 1 := by
      rw [show readL l = ((readL l).1, (readL l).2) from rfl, stepR_open]
      simp only []
      split <;> simp
    rw [e2] at h3
    omega
/-- Behind a source that is parsed the tree itself alone is open; its last text counts for nothing. -/
theorem Parsed.cut {s : ByteArray} (h : Parsed s) {L W : List Lx} (he : lexV s = L ++ W) (hW : W = [] ∨ ∃ tx pl, W = [⟨1, 0, tx, pl⟩]) :
    errFrom ([], [root]) L = none ∧ readL L = readL (lexV s) ∧ Sim ((readL L).1.map bare) ((readL L).1.map bare, (readL L).2) ([], [root]) ∧ (∀ tx pl, W = [⟨1, 0, tx, pl⟩] → darkAt tx = none) ∧ textsP (readL L).2 = false ∧ (readL L).2.length = 1 := by
  obtain ⟨h1, h2, h3⟩ := h
  have hA := lex_all h1
  rw [he] at hA h2 h3
  obtain ⟨e1, e2⟩ := (errFrom_app L W _).1 h2
  obtain ⟨p, _, hI⟩ := Inv.part hA h2 L.length (by simp)
  rw [List.take_append_of_le_length (Nat.le_refl _), List.take_length] at hI
  have hlen : (readL L).2.length = 1 := by
    have ho := hI.open1
    rcases hW with rfl | ⟨tx, pl, rfl⟩
    · rw [List.append_nil] at h3; omega
    · rw [readL_snoc] at h3
      have : (stepR (readL L) ⟨1, 0, tx, pl⟩).2.length = (readL L).2.length := by
        by_cases ht : textsP (readL L).2 = true
        · rw [show readL L = ((readL L).1, (readL L).2) from rfl, stepR_text _ tx pl ht]
          simp only []
          split <;> simp
        · rw [show readL L = ((readL L).1, (readL L).2) from rfl, stepR_none _ tx pl (by simpa using ht)]
      omega
  obtain ⟨K, hK, hR, hZ⟩ := hI.zip
  have hp : pathOf (readL L).2 = [] := by unfold pathOf; rw [List.drop_of_length_le (by omega)]; rfl
  have hWf := hZ.wf hp
  have hS := root_open hWf hK
  rw [hR] at hS
  have hS : Sim ((readL L).1.map bare) ((readL L).1.map bare, (readL L).2) ([], [root]) := hS
  have ht : textsP (readL L).2 = false := hS.texts.trans (texts_root rfl)
  have hdark : ∀ tx pl, W = [⟨1, 0, tx, pl⟩] → darkAt tx = none := fun tx pl hw => by
    subst hw
    have e2 : errFrom (readL L) [⟨1, 0, tx, pl⟩] = none := e2
    unfold errFrom at e2
    by_cases h0 : (errStep (readL L).1 (readL L).2 ⟨1, 0, tx, pl⟩).2 = 0
    · exact (err_white ht).1 h0
    · rw [if_neg h0] at e2; cases e2
  refine ⟨e1, ?_, hS, hdark, ht, hlen⟩
  rw [he]
  rcases hW with rfl | ⟨tx, pl, rfl⟩
  · rw [List.append_nil]
  · rw [readL_snoc, show readL L = ((readL L).1, (readL L).2) from rfl, stepR_none _ tx pl ht]
theorem white_nl : white 10 = true := by decide +kernel
theorem ext_at (s : ByteArray) (f e i : Nat) (he : e ≤ s.size) (h : f + i < e) : bAt (s.extract f e) i = bAt s (f + i) := by
  have h1 : i < (s.extract f e).size := by rw [ByteArray.size_extract]; omega
  rw [← Lx.bAt_get _ i h1, ← Lx.bAt_get s (f + i) (by omega), ByteArray.getElem_extract]
/-- P4.6: two sources that are parsed. -/
theorem parsed_join {a b : ByteArray} (ha : a.size ≤ 4000) (hb : b.size ≤ 4000) (hA : Parsed a) (hB : Parsed b) (hn : (readL (lexV a)).1.length + (readL (lexV b)).1.length ≤ 2000) :
    Parsed (join a b) ∧ sameV (readL (lexV (join a b))).1 ((readL (lexV a)).1 ++ (readL (lexV b)).1) = true := by
  have lA := lex_all hA.1
  have lB := lex_all hB.1
  obtain ⟨L, W, pl, e1, e2, e3, e4⟩ := lex_join a b _ 0 (Nat.le_refl _) (Nat.zero_le _) (by rw [lA]) (by rw [lA]; exact hA.last)
  rw [lA] at e1
  simp only [] at e1
  obtain ⟨c1, c2, c3, c4, c5, c6⟩ := hA.cut e1 (by
    rcases e2 with ⟨h, _⟩ | ⟨h, _⟩
    · exact .inl h
    · exact .inr ⟨_, _, h⟩)
  -- the second source, its first text apart
  have hb2 : (lexA b (tend b 0)).2 = none ∧ errFrom ([], [root]) (lexA b (tend b 0)).1 = none ∧ readL (lexA b (tend b 0)).1 = readL (lexV b) ∧ ∀ i, i < tend b 0 → white (bAt b i) = true := by
    obtain ⟨_, z2, _, _⟩ := tend_is b 0 (Nat.zero_le _)
    rcases lex_head b with ⟨h, h2⟩ | ⟨h, h2⟩
    · rw [lB] at h2
      refine ⟨by rw [← h2], by rw [← h2]; exact hB.2.1, by rw [← h2], fun i hi => by omega⟩
    · rw [lB] at h2
      simp only [Prod.mk.injEq] at h2
      have hE := hB.2.1
      rw [h2.1] at hE
      unfold errFrom at hE
      have ht : textsP [root] = false := texts_root rfl
      by_cases h0 : (errStep [] [root] ⟨1, 0, b.extract 0 (tend b 0), 0⟩).2 = 0
      · rw [if_pos h0] at hE
        have hd := (err_white ht).1 h0
        have hst : stepR ([], [root]) ⟨1, 0, b.extract 0 (tend b 0), 0⟩ = ([], [root]) := stepR_none [] _ 0 ht
        rw [hst] at hE
        refine ⟨h2.2.symm, hE, ?_, fun i hi => ?_⟩
        · rw [h2.1]
          unfold readL
          rw [List.foldl_cons, hst]
        · have := dark_none hd i (by rw [Lx.ext_size _ _ _ z2]; omega)
          rwa [ext_at b 0 (tend b 0) i z2 (by omega), Nat.zero_add] at this
      · rw [if_neg h0] at hE; cases hE
  obtain ⟨d1, d2, d3, d4⟩ := hb2
  rw [d1] at e4
  have hsz : ¬ 8192 < (join a b).size := by rw [join_size]; omega
  obtain ⟨f1, _, f3⟩ := lex_ok hsz e4
  obtain ⟨_, z2, _, _⟩ := tend_is b 0 (Nat.zero_le _)
  -- the text that goes over counts for nothing
  have hdark : darkAt ((join a b).extract pl (a.size + 1 + tend b 0)) = none := none_dark fun i hi => by
    have hz : a.size + 1 + tend b 0 ≤ (join a b).size := by rw [join_size]; omega
    rw [Lx.ext_size _ _ _ hz] at hi
    rw [ext_at _ _ _ _ hz (by omega)]
    rcases Nat.lt_trichotomy (pl + i) a.size with h | h | h
    · rw [join_left a b _ h]
      rcases e2 with ⟨_, h2⟩ | ⟨h2, h3⟩
      · omega
      · have := dark_none (c4 _ _ h2) i (by rw [Lx.ext_size _ _ _ (Nat.le_refl _)]; omega)
        rwa [ext_at a pl a.size i (Nat.le_refl _) (by omega)] at this
    · rw [h, join_mid]; exact white_nl
    · obtain ⟨j, hj⟩ : ∃ j, pl + i = a.size + 1 + j := ⟨pl + i - (a.size + 1), by omega⟩
      rw [hj, join_right]; exact d4 j (by omega)
  have hst : stepR (readL L) ⟨1, 0, (join a b).extract pl (a.size + 1 + tend b 0), pl⟩ = readL L := by
    rw [show readL L = ((readL L).1, (readL L).2) from rfl, stepR_none _ _ _ c5]
  have herr : (errStep (readL L).1 (readL L).2 ⟨1, 0, (join a b).extract pl (a.size + 1 + tend b 0), pl⟩).2 = 0 := (err_white c5).2 hdark
  have hfar := far_run (a.size + 1) (lexA b (tend b 0)).1 (readL L) ([], [root]) c3 d2 (by
    show _ + (readL (lexA b (tend b 0)).1).1.length ≤ 2000
    rw [d3, List.length_map, c2]; exact hn)
  obtain ⟨g1, g2⟩ := hfar
  have hread : readL (lexV (join a b)) = ((lexA b (tend b 0)).1.map (shiftX (a.size + 1))).foldl stepR (readL L) := by
    rw [f1]
    unfold readL at hst ⊢
    rw [List.foldl_append, List.foldl_cons, hst]
  have hfin : (lexA b (tend b 0)).1.foldl stepR ([], [root]) = readL (lexV b) := d3
  rw [← hread, hfin] at g2
  refine ⟨⟨f3, ?_, ?_⟩, ?_⟩
  · rw [f1, errFrom_app]
    refine ⟨c1, ?_⟩
    show errFrom (readL L) _ = none
    unfold errFrom
    rw [if_pos herr, hst]; exact g1
  · obtain ⟨_, r, r', p, q1, q2, _⟩ := g2
    have q1 : (readL (lexV (join a b))).2 = r :: p.map (shiftO _) := q1
    have q2 : (readL (lexV b)).2 = r' :: p := q2
    have := hB.2.2
    rw [q1, List.length_cons, List.length_map]
    rw [q2, List.length_cons] at this
    exact this
  · refine bare_same _ _ ?_
    rw [List.map_append, ← c2]
    exact g2.nodes
end Go.Proofs.YtmldpkigfhoalaaDoor.Tr
namespace Go.Proofs.YtmldpkigfhoalaaDoor.Tr
open Go.RowKit Lx

theorem lex_close (a : ByteArray) : ∀ n p, a.size - p ≤ n → p ≤ a.size → (lexA a p).2 = none → (∀ x, (lexA a p).1.getLast? = some x → x.kind ≠ 2) → lexA (closeS a) p = ((lexA a p).1 ++ [⟨3, 0, Lx.emptyS, a.size⟩], none) := by
  obtain ⟨hz, hc⟩ := close_ends a
  have fin : lexA (closeS a) a.size = ([⟨3, 0, Lx.emptyS, a.size⟩], none) := by
    rw [lexA_step _ a.size (by omega), step_close hc]
    simp only []
    rw [lexA_end _ _ (by omega)]
  intro n
  induction n with
  | zero =>
    intro p hn hp _ _
    obtain rfl : p = a.size := by omega
    rw [fin, lexA_end a a.size (Nat.le_refl _)]; rfl
  | succ n ih =>
    intro p hn hp h0 hlast
    rcases Nat.eq_or_lt_of_le hp with rfl | hlt
    · rw [fin, lexA_end a a.size (Nat.le_refl _)]; rfl
    have hst := lexA_step a p hlt
    cases hs : stepF a p with
    | inr e => rw [hs] at hst; rw [hst] at h0; cases h0
    | inl xq =>
      obtain ⟨x, q⟩ := xq
      rw [hs] at hst
      simp only [] at hst
      have hpq := stepF_lt hlt hs
      obtain ⟨hq, _⟩ := stepF_le hlt hs
      have go : stepF (closeS a) p = .inl (x, q) → lexA (closeS a) p = ((lexA a p).1 ++ [⟨3, 0, Lx.emptyS, a.size⟩], none) := fun hj => by
        have h0' : (lexA a q).2 = none := by rw [hst] at h0; exact h0
        have hlast' : ∀ y, (lexA a q).1.getLast? = some y → y.kind ≠ 2 := fun y hy => hlast y (by
          rw [hst]
          cases hL : (lexA a q).1 with
          | nil => rw [hL] at hy; cases hy
          | cons z l => rw [hL] at hy; rw [List.getLast?_cons_cons]; exact hy)
        rw [lexA_step _ p (by omega), hj]
        simp only []
        rw [ih q (by omega) hq h0' hlast', hst]; rfl
      by_cases hgo : q < a.size ∨ x.kind = 3
      · exact go (step_join hlt hs hgo)
      · have hqa : q = a.size := by
          rcases Nat.lt_or_ge q a.size with h | h
          · exact absurd (.inl h) hgo
          · omega
        have hend := lexA_end a q (by omega)
        have hst2 := hst
        rw [hend] at hst2
        have hk2 : x.kind ≠ 2 := hlast x (by rw [hst2]; rfl)
        rcases step_cases hlt hs with ⟨rfl, _⟩ | ⟨c, m, _, _, _, _, rfl, _⟩ | ⟨e, _, _, rfl, rfl, hok, _⟩
        · exact absurd (.inr rfl) hgo
        · exact absurd rfl hk2
        · refine go ?_
          have hB : bAt (closeS a) p = bAt a p := bAt_left a _ p hlt
          rw [step_text (by rw [hB]; exact hok)]
          obtain ⟨t1, t2, t3, t4⟩ := tend_is a p (by omega)
          have hte := step_text (s := a) hok
          rw [hs] at hte
          simp only [Sum.inl.injEq, Prod.mk.injEq] at hte
          have ht : tend (closeS a) p = q := (tend_is (closeS a) p (by omega)).unique ⟨by omega, by omega, fun j j1 j2 => by
            rw [show bAt (closeS a) j = bAt a j from bAt_left a _ j (by omega)]
            exact t3 j j1 (by rw [← hte.2]; exact j2), fun _ => by rw [hqa, hc]; exact okT_not.2⟩
          rw [ht, show (closeS a).extract p q = a.extract p q from ext_left a _ p q hq]
theorem errFrom_end : ∀ (l : List Lx) (x : Lx) (st : List Nd × List Op), errFrom st l = none → errFrom st (l ++ [x]) = errFrom (l.foldl stepR st) [x]
  | [], _, _, _ => rfl
  | y :: l, x, st, h => by
    rw [List.cons_append, List.foldl_cons]
    unfold errFrom at h
    by_cases h0 : (errStep st.1 st.2 y).2 = 0
    · rw [if_pos h0] at h
      rw [← errFrom_end l x _ h]
      conv => lhs; unfold errFrom
      rw [if_pos h0]
    · rw [if_neg h0] at h; cases h
/-- P4.6: a closing behind it. -/
theorem parsed_close {a : ByteArray} (ha : a.size ≤ 4000) (hA : Parsed a) : parseA (closeS a) = ([], a.size, 2) := by
  have lA := lex_all hA.1
  have hc := lex_close a _ 0 (Nat.le_refl _) (Nat.zero_le _) (by rw [lA]) (by rw [lA]; exact hA.last)
  rw [lA] at hc
  simp only [] at hc
  obtain ⟨f1, _, f3⟩ := lex_ok (show ¬ 8192 < (closeS a).size by rw [(close_ends a).1]; omega) hc
  obtain ⟨_, _, _, _, _, c6⟩ := hA.cut (show lexV a = lexV a ++ [] by simp) (.inl rfl)
  have hE : errFrom ([], [root]) (lexV (closeS a)) = some (a.size, 2) := by
    rw [f1, errFrom_end _ _ _ hA.2.1]
    show errFrom (readL (lexV a)) _ = _
    unfold errFrom
    have h2 : errStep (readL (lexV a)).1 (readL (lexV a)).2 ⟨3, 0, Lx.emptyS, a.size⟩ = (a.size, 2) := by
      show (if (readL (lexV a)).2.length = 1 ∨ _ then (a.size, 2) else _) = _
      rw [if_pos (.inl c6)]
    rw [h2, if_neg (show ¬ (2 : Nat) = 0 by decide)]
  unfold parseA
  rw [if_neg (by rw [f3]; decide), hE]
/-- What Parse answers of a source that is parsed. -/
theorem parseA_ok {s : ByteArray} (h : Parsed s) : parseA s = ((readL (lexV s)).1, 0, 0) := by
  unfold parseA
  rw [if_neg (by rw [h.1]; decide), h.2.1]
  simp only []
  rw [if_neg (by have := h.2.2; omega)]
theorem parsed_of {s : ByteArray} (h : (parseA s).2.2 = 0) : Parsed s := by
  unfold parseA at h
  by_cases h1 : lexE s ≠ 0
  · rw [if_pos h1] at h; exact absurd h h1
  · rw [if_neg h1] at h
    have h1 : lexE s = 0 := by simpa using h1
    cases he : errFrom ([], [root]) (lexV s) with
    | some z =>
      rw [he] at h
      simp only [] at h
      exfalso
      have : ∀ (l : List Lx) (st : List Nd × List Op), errFrom st l = some z → z.2 ≠ 0 := by
        intro l
        induction l with
        | nil => intro st h; cases h
        | cons x l ih =>
          intro st h
          unfold errFrom at h
          by_cases h0 : (errStep st.1 st.2 x).2 = 0
          · rw [if_pos h0] at h; exact ih _ h
          · rw [if_neg h0] at h; cases h; exact h0
      exact this _ _ he h
    | none =>
      rw [he] at h
      simp only [] at h
      by_cases h3 : 1 < (readL (lexV s)).2.length
      · rw [if_pos h3] at h; cases h
      · exact ⟨h1, he, by omega⟩
end Go.Proofs.YtmldpkigfhoalaaDoor.Tr
