/-
  Put together: NwA, NwB.
-/
import Derived.Test.YtmldpkigfhoalaaDoorNb
import Derived.Test.YtmldpkigfhoalaaDoorVc
namespace Go.Proofs.YtmldpkigfhoalaaDoor.Nu
open Go.RowKit Tr

def op0 (o : Tr.Op) : Tr.Op := { o with text := emptyS }
def k2 (x : Lx.Lx) : Nat × Nat := (x.kind, x.name)
theorem op0_root : op0 root = root := rfl
theorem op0_get (p : List Tr.Op) (n : Nat) : (p.map op0).getD n root = op0 (p.getD n root) := by
  rw [List.getD_eq_getElem?_getD, List.getD_eq_getElem?_getD, List.getElem?_map]
  cases p[n]? <;> rfl
theorem op0_top (p : List Tr.Op) : topP (p.map op0) = op0 (topP p) := by
  unfold topP
  rcases List.eq_nil_or_concat p with rfl | ⟨q, o, rfl⟩
  · rfl
  · rw [List.concat_eq_append, List.map_append]; simp
theorem op0_texts (p : List Tr.Op) : textsP (p.map op0) = textsP p := by unfold textsP; rw [op0_top]; rfl
theorem op0_lastF (p : List Tr.Op) (ks : ByteArray) : ∀ n, lastF (p.map op0) ks n = lastF p ks n
  | 0 => rfl
  | n + 1 => by
    unfold lastF
    rw [op0_get, op0_lastF p ks n]; rfl
theorem op0_last (p : List Tr.Op) (ks : ByteArray) : lastP (p.map op0) ks = lastP p ks := by unfold lastP; rw [List.length_map, op0_lastF]
theorem op0_many (p : List Tr.Op) (k : Nat) : manyP (p.map op0) k = manyP p k := by
  unfold manyP
  rw [← List.map_drop, List.filter_map, List.length_map]; rfl
theorem op0_opens (p : List Tr.Op) (k : Nat) : opensP (p.map op0) k = opensP p k := by
  unfold opensP
  rw [op0_top, op0_texts, op0_many, op0_many, op0_last, op0_get, List.length_map]; rfl
theorem op0_mod (p : List Tr.Op) (i : Nat) (f g : Tr.Op → Tr.Op) (h : ∀ o, op0 (f o) = g (op0 o)) : (p.modify i f).map op0 = (p.map op0).modify i g := by
  apply List.ext_getElem?
  intro j
  rw [List.getElem?_map, List.getElem?_modify, List.getElem?_modify, List.getElem?_map]
  cases p[j]? with
  | none => rfl
  | some o =>
    by_cases hj : i = j
    · simp [hj, h]
    · simp [hj]
/-- Two states that differ in texts, places and sizes alone. -/
def RelS (s s' : List Nd × List Tr.Op) : Prop := s.1.length = s'.1.length ∧ s.2.map op0 = s'.2.map op0
/-- What is open behind one more, texts aside. -/
def stepP0 (n : Nat) (p : List Tr.Op) (k nm : Nat) : List Tr.Op :=
  if k = 1 then (if textsP p then p.modify (p.length - 1) (addKid 46) else p)
  else if k = 2 then
    let p1 := p.modify (p.length - 1) (addKid nm)
    (if nm = 110 then p1.modify (lastP p1 aroundS) addNote else p1) ++ [⟨nm, emptyS, n, 0, 0, emptyS⟩]
  else (if (topP p).kind = 114 ∧ (p.getD (p.length - 1 - 1) root).first = 0 then p.modify (p.length - 1 - 1) (setFirst (topP p).kids.size) else p).take (p.length - 1)
theorem step_open (s : List Nd × List Tr.Op) (x : Lx.Lx) : (stepR s x).2.map op0 = stepP0 s.1.length (s.2.map op0) x.kind x.name := by
  obtain ⟨T, p⟩ := s
  unfold stepR stepP0
  simp only [List.length_map]
  by_cases h1 : x.kind = 1
  · rw [if_pos h1, if_pos h1, op0_texts]
    by_cases h2 : textsP p = true
    · rw [if_pos h2, if_pos h2]
      simp only []
      have e := op0_mod p (p.length - 1) (addKid 46) (addKid 46) (fun _ => rfl)
      split
      · rw [op0_mod _ _ (addText x.text) id (fun _ => rfl), e]
        apply List.ext_getElem?
        intro j
        rw [List.getElem?_modify]
        cases ((p.map op0).modify (p.length - 1) (addKid 46))[j]? with
        | none => rfl
        | some o => simp
      · exact e
    · rw [if_neg h2, if_neg h2]
  · rw [if_neg h1, if_neg h1]
    by_cases h2 : x.kind = 2
    · rw [if_pos h2, if_pos h2]
      simp only []
      have e := op0_mod p (p.length - 1) (addKid x.name) (addKid x.name) (fun _ => rfl)
      rw [List.map_append]
      congr 1
      by_cases h3 : x.name = 110
      · rw [if_pos h3, if_pos h3, op0_mod _ _ addNote addNote (fun _ => rfl), ← e, op0_last]
      · rw [if_neg h3, if_neg h3, e]
    · rw [if_neg h2, if_neg h2]
      simp only []
      rw [List.map_take, op0_top, op0_get]
      congr 1
      show List.map op0 (if _ then _ else _) = if (topP p).kind = 114 ∧ (p.getD (p.length - 1 - 1) root).first = 0 then _ else _
      by_cases h3 : (topP p).kind = 114 ∧ (p.getD (p.length - 1 - 1) root).first = 0
      · rw [if_pos h3, if_pos h3, op0_mod _ _ (setFirst (topP p).kids.size) (setFirst (topP p).kids.size) (fun _ => rfl)]; rfl
      · rw [if_neg h3, if_neg h3]
theorem step_len (s : List Nd × List Tr.Op) (x : Lx.Lx) : (stepR s x).1.length = if x.kind = 1 then (if textsP s.2 then s.1.length + 1 else s.1.length) else if x.kind = 2 then s.1.length + 1 else s.1.length := by
  obtain ⟨T, p⟩ := s
  unfold stepR
  simp only []
  by_cases h1 : x.kind = 1
  · rw [if_pos h1, if_pos h1]
    by_cases h2 : textsP p = true
    · rw [if_pos h2, if_pos h2]; simp
    · rw [if_neg h2, if_neg h2]
  · rw [if_neg h1, if_neg h1]
    by_cases h2 : x.kind = 2
    · rw [if_pos h2, if_pos h2]; simp
    · rw [if_neg h2, if_neg h2]; simp
theorem RelS.texts {s s' : List Nd × List Tr.Op} (h : RelS s s') : textsP s.2 = textsP s'.2 := by rw [← op0_texts, h.2, op0_texts]
theorem RelS.step {s s' : List Nd × List Tr.Op} (h : RelS s s') {x x' : Lx.Lx} (hx : k2 x = k2 x') : RelS (stepR s x) (stepR s' x') := by
  unfold k2 at hx
  injection hx with hk hn
  refine ⟨?_, ?_⟩
  · rw [step_len, step_len, hk, h.texts, h.1]
  · rw [step_open, step_open, hk, hn, h.1, h.2]
/-- What is wrong, texts aside. -/
theorem err_open (T : List Nd) (p : List Tr.Op) (x : Lx.Lx) (h : x.kind ≠ 1) : (errStep T p x).2 =
    (if x.kind = 2 then (if opensP (p.map op0) x.name = false then 2 else if 32 < (p.map op0).length ∨ (x.name = 108 ∧ 8 ≤ manyP (p.map op0) 108) then 5 else if 2000 ≤ T.length then 4 else 0)
      else if (p.map op0).length = 1 ∨ (inK (topP (p.map op0)).kind ltrS = true ∧ (topP (p.map op0)).kids.size = 0) then 2
      else if (topP (p.map op0)).kind = 114 ∧ 0 < ((p.map op0).getD ((p.map op0).length - 2) root).first ∧ ((p.map op0).getD ((p.map op0).length - 2) root).first ≠ (topP (p.map op0)).kids.size then 2 else 0) := by
  unfold errStep
  rw [if_neg h, op0_opens, op0_many, op0_top, op0_get, List.length_map]
  by_cases h2 : x.kind = 2
  · rw [if_pos h2, if_pos h2]
    repeat' split
    all_goals first | rfl | contradiction
  · rw [if_neg h2, if_neg h2]
    show (if _ then _ else if _ then _ else _ : Nat × Nat).2 = if p.length = 1 ∨ (inK (topP p).kind ltrS = true ∧ (topP p).kids.size = 0) then 2 else if (topP p).kind = 114 ∧ 0 < (p.getD (p.length - 2) root).first ∧ (p.getD (p.length - 2) root).first ≠ (topP p).kids.size then 2 else 0
    repeat' split
    all_goals first | rfl | contradiction
theorem RelS.err {s s' : List Nd × List Tr.Op} (h : RelS s s') {x x' : Lx.Lx} (hx : k2 x = k2 x') (h1 : x.kind ≠ 1) : (errStep s.1 s.2 x).2 = (errStep s'.1 s'.2 x').2 := by
  unfold k2 at hx
  injection hx with hk hn
  rw [err_open _ _ _ h1, err_open _ _ _ (by rw [← hk]; exact h1), hk, hn, h.1, h.2]
theorem err_text (T : List Nd) (p : List Tr.Op) (x : Lx.Lx) (h : x.kind = 1) (ht : textsP p = true) : (errStep T p x).2 = 4 ∨ (errStep T p x).2 = 0 := by
  unfold errStep
  rw [if_pos h, if_neg (by rw [ht]; simp)]
  split
  · exact .inl rfl
  · exact .inr rfl
/-- The same, or too much. -/
theorem runC_rel : ∀ (L L' : List Lx.Lx) (s s' : List Nd × List Tr.Op) (d b b' : Bool), L.map k2 = L'.map k2 → RelS s s' → runC s d b L = runC s' d b' L' ∨ runC s d b L = 4 ∨ runC s' d b' L' = 4 := by
  intro L
  induction L with
  | nil =>
    intro L' s s' d b b' hL _
    cases L' with
    | cons x l => cases hL
    | nil =>
      unfold runC
      cases d <;> cases b <;> cases b' <;> simp
  | cons x L ih =>
    intro L' s s' d b b' hL hs
    cases L' with
    | nil => cases hL
    | cons x' L' =>
      rw [List.map_cons, List.map_cons] at hL
      injection hL with hx hL
      have hk : x.kind = x'.kind := congrArg Prod.fst hx
      have hst := hs.step hx
      unfold runC
      by_cases h1 : x.kind = 1
      · have h1' : x'.kind = 1 := by rw [← hk]; exact h1
        by_cases ht : textsP s.2 = true
        · have ht' : textsP s'.2 = true := by rw [← hs.texts]; exact ht
          have e := err_text s.1 s.2 x h1 ht
          have e' := err_text s'.1 s'.2 x' h1' ht'
          rw [if_neg (by rw [ht]; rintro (⟨-, h⟩ | h); cases h; omega), if_neg (by rw [ht']; rintro (⟨-, h⟩ | h); cases h; omega)]
          rw [show decide ((errStep s.1 s.2 x).2 = 5) = false from decide_eq_false (by omega), show decide ((errStep s'.1 s'.2 x').2 = 5) = false from decide_eq_false (by omega)]
          exact ih L' _ _ _ _ _ hL hst
        · have ht : textsP s.2 = false := by simpa using ht
          have ht' : textsP s'.2 = false := by rw [← hs.texts]; exact ht
          rw [if_pos (.inl ⟨h1, ht⟩), if_pos (.inl ⟨h1', ht'⟩)]
          exact .inl rfl
      · have h1' : x'.kind ≠ 1 := by rw [← hk]; exact h1
        have e := hs.err hx h1
        by_cases h2 : (errStep s.1 s.2 x).2 = 2
        · rw [if_pos (.inr h2), if_pos (.inr (by rw [← e]; exact h2))]
          exact .inl rfl
        · rw [if_neg (by rintro (⟨h, -⟩ | h); exact h1 h; exact h2 h), if_neg (by rintro (⟨h, -⟩ | h); exact h1' h; exact h2 (e.trans h)), e]
          exact ih L' _ _ _ _ _ hL hst
/-- Nodes with the same kinds, sizes and places. -/
def Skin (t t' : List Nd) : Prop := ∀ i : Nat, (t'[i]?).map (fun (x : Nd) => (x.kind, x.size, x.place)) = (t[i]?).map (fun (x : Nd) => (x.kind, x.size, x.place))
theorem Skin.some {t t' : List Nd} (h : Skin t t') {i : Nat} {x : Nd} (hx : t[i]? = some x) : ∃ x', t'[i]? = some x' ∧ x'.kind = x.kind ∧ x'.size = x.size ∧ x'.place = x.place := by
  have := h i
  rw [hx] at this
  obtain ⟨x', hx', he⟩ := Option.map_eq_some_iff.1 this
  injection he with a b
  injection b with b c
  exact ⟨x', hx', a, b, c⟩
theorem Skin.none {t t' : List Nd} (h : Skin t t') {i : Nat} (hx : t[i]? = none) : t'[i]? = none := by
  have := h i
  rw [hx] at this
  exact Option.map_eq_none_iff.1 this
theorem Skin.len {t t' : List Nd} (h : Skin t t') : t'.length = t.length := by
  have a := h.none (i := t.length) (List.getElem?_eq_none (Nat.le_refl _))
  have a := List.getElem?_eq_none_iff.1 a
  rcases Nat.lt_or_ge t'.length t.length with hlt | hge
  · obtain ⟨x', hx', -⟩ := h.some (List.getElem?_eq_getElem hlt)
    have := (List.getElem?_eq_some_iff.1 hx').1
    omega
  · omega
theorem evF_skin {t t' : List Nd} (h : Skin t t') : ∀ n a e, (evF t' n a e).map (·.map k2) = (evF t n a e).map (·.map k2)
  | 0, _, _ => rfl
  | n + 1, a, e => by
    unfold evF
    by_cases hlt : a < e
    · rw [if_pos hlt, if_pos hlt]
      cases hx : t[a]? with
      | none => rw [h.none hx]
      | some x =>
        obtain ⟨x', hx', hk, hs, -⟩ := h.some hx
        rw [hx']
        simp only []
        rw [hk, hs]
        have i1 := evF_skin h n (a + 1) e
        have i2 := evF_skin h n (a + 1) (a + x.size.toNat)
        have i3 := evF_skin h n (a + x.size.toNat) e
        split
        · rfl
        · split
          · split
            · rw [Option.map_map, Option.map_map]
              have key : ∀ (o o' : Option (List Lx.Lx)) (s s' : ByteArray), o'.map (·.map k2) = o.map (·.map k2) → o'.map ((·.map k2) ∘ (txL s' :: ·)) = o.map ((·.map k2) ∘ (txL s :: ·)) := by
                intro o o' s s' ho
                cases o <;> cases o' <;> simp at ho ⊢
                exact ⟨rfl, ho⟩
              exact key _ _ _ _ i1
            · rfl
          · have key : ∀ (o o' r r' : Option (List Lx.Lx)), o'.map (·.map k2) = o.map (·.map k2) → r'.map (·.map k2) = r.map (·.map k2) → (o'.bind fun M => r'.map fun R => opL x.kind :: (M ++ clL :: R)).map (·.map k2) = (o.bind fun M => r.map fun R => opL x.kind :: (M ++ clL :: R)).map (·.map k2) := by
              intro o o' r r' ho hr
              cases o <;> cases o' <;> simp at ho ⊢
              cases r <;> cases r' <;> simp at hr ⊢
              rw [ho, hr]
            exact key _ _ _ _ i2 i3
    · rw [if_neg hlt, if_neg hlt]
theorem evA_skin {t t' : List Nd} (h : Skin t t') (a e : Nat) : (evA t' a e).map (·.map k2) = (evA t a e).map (·.map k2) := by unfold evA; exact evF_skin h _ _ _
/-- The same answer, or too much. -/
theorem check_skin {t t' : List Nd} (h : Skin t t') (hok : t'.all nodeOk = t.all nodeOk) : checkV t = checkV t' ∨ checkV t = 4 ∨ checkV t' = 4 := by
  unfold checkV
  rw [hok]
  split
  · exact .inl rfl
  · have e := evA_skin h 0 t.length
    rw [h.len]
    cases hL : evA t 0 t.length with
    | none =>
      rw [hL] at e
      cases hL' : evA t' 0 t.length with
      | none => exact .inl rfl
      | some L' => rw [hL'] at e; cases e
    | some L =>
      rw [hL] at e
      cases hL' : evA t' 0 t.length with
      | none => rw [hL'] at e; cases e
      | some L' =>
        rw [hL'] at e
        have e : L'.map k2 = L.map k2 := by injection e
        simp only []
        exact runC_rel L L' _ _ _ _ _ e.symm ⟨rfl, rfl⟩
end Go.Proofs.YtmldpkigfhoalaaDoor.Nu
namespace Go.Proofs.YtmldpkigfhoalaaDoor.Nu
open Go.RowKit Tr

/-! ### spots, their places aside -/
def qS (s : Sp) : Nat × Nat := (s.c, s.node)
def colP (a : Nat) : List (Nat × Nat) → List (Nat × Nat)
  | [] => []
  | x :: l => if x.1 = 32 ∧ a = 32 then colP a l else x :: colP x.1 l
def lasP (a : Nat) : List (Nat × Nat) → Nat
  | [] => a
  | x :: l => lasP x.1 l
def trimP (l : List (Nat × Nat)) : List (Nat × Nat) := if lasP 32 l = 32 then l.dropLast else l
theorem colP_app (a : Nat) : ∀ l m : List (Nat × Nat), colP a (l ++ m) = colP a l ++ colP (lasP a l) m := by
  intro l
  induction l generalizing a with
  | nil => intro m; rfl
  | cons x l ih =>
    intro m
    rw [List.cons_append]
    by_cases h : x.1 = 32 ∧ a = 32
    · rw [colP, if_pos h, colP, if_pos h, ih a m]
      show _ = _ ++ colP (lasP x.1 l) m
      rw [h.1, h.2]
    · rw [colP, if_neg h, colP, if_neg h, ih x.1 m]; rfl
theorem lasP_app (a : Nat) : ∀ l m : List (Nat × Nat), lasP a (l ++ m) = lasP (lasP a l) m := by
  intro l
  induction l generalizing a with
  | nil => intro m; rfl
  | cons x l ih => intro m; exact ih x.1 m
theorem colE_q : ∀ (l : List Sp) (a : Nat), (colE a l).map qS = colP a (l.map qS) := by
  intro l
  induction l with
  | nil => intro a; rfl
  | cons x l ih =>
    intro a
    rw [List.map_cons]
    unfold colE colP
    show List.map qS (if x.c = 32 ∧ a = 32 then _ else _) = if x.c = 32 ∧ a = 32 then _ else _
    by_cases h : x.c = 32 ∧ a = 32
    · rw [if_pos h, if_pos h, ih]
    · rw [if_neg h, if_neg h, List.map_cons, ih]; rfl
theorem lastA_q : ∀ (l : List Sp) (a : Nat), lastA a l = lasP a (l.map qS) := by
  intro l
  induction l with
  | nil => intro a; rfl
  | cons x l ih => intro a; exact ih x.c
theorem trimE_q (l : List Sp) : (trimE l).map qS = trimP (l.map qS) := by
  unfold trimE trimP
  rw [← lastA_q]
  split
  · rw [List.map_dropLast]
  · rfl
/-- The same, each longest row of spaces as one. -/
def EqW (P P' : List (Nat × Nat)) : Prop := ∀ a, colP a P = colP a P' ∧ lasP a P = lasP a P'
theorem EqW.refl (P : List (Nat × Nat)) : EqW P P := fun _ => ⟨rfl, rfl⟩
theorem EqW.app {P P' Q Q' : List (Nat × Nat)} (h : EqW P P') (k : EqW Q Q') : EqW (P ++ Q) (P' ++ Q') := fun a => by
  rw [colP_app, colP_app, lasP_app, lasP_app, (h a).1, (h a).2, (k _).1, (k _).2]
  exact ⟨rfl, rfl⟩
theorem EqW.flat {U U' : Nat → List (Nat × Nat)} : ∀ (J : List Nat), (∀ j ∈ J, EqW (U j) (U' j)) → EqW (J.flatMap U) (J.flatMap U') := by
  intro J
  induction J with
  | nil => intro _; exact EqW.refl _
  | cons j J ih =>
    intro h
    rw [List.flatMap_cons, List.flatMap_cons]
    exact (h j (by simp)).app (ih fun j' hj' => h j' (by simp [hj']))
/-! ### white as more white -/
def optU (m : Nat) : List Nat := if m = 0 then [32] else if m = 1 then [10] else if m = 2 then [32, 32] else [32, 10, 32]
def wideU (m c : Nat) : List Nat := if Lx.white c = true then optU m else [c]
def wideT (o : Nat → Nat) (s : ByteArray) (n : Nat) : List Nat := (List.range n).flatMap fun j => wideU (o j) (Lx.bAt s j)
def wideN (o : Nat → Nat → Nat) (i : Nat) (x : Nd) : Nd := { x with text := Lx.bytesOf (wideT (o i) x.text x.text.size) }
def wideV (o : Nat → Nat → Nat) (t : List Nd) : List Nd := t.mapIdx fun i x => wideN o i x
theorem wideV_at (o : Nat → Nat → Nat) (t : List Nd) (i : Nat) : (wideV o t)[i]? = (t[i]?).map (wideN o i) := by unfold wideV; rw [List.getElem?_mapIdx]
theorem wide_skin (o : Nat → Nat → Nat) (t : List Nd) : Skin t (wideV o t) := fun i => by
  rw [wideV_at, Option.map_map]; rfl
theorem white_10 : Lx.white 10 = true := by decide
theorem optU_in {m b : Nat} (h : b ∈ optU m) : b = 32 ∨ b = 10 := by
  unfold optU at h
  split at h
  · simp at h; exact .inl h
  · split at h
    · simp at h; exact .inr h
    · split at h
      · simp at h; exact .inl h
      · simp at h; omega
theorem wideU_lt {m c b : Nat} (hc : c < 256) (h : b ∈ wideU m c) : b < 256 := by
  unfold wideU at h
  split at h
  · rcases optU_in h with h | h <;> omega
  · simp at h; omega
theorem wideT_lt {o : Nat → Nat} {s : ByteArray} {n b : Nat} (h : b ∈ wideT o s n) : b < 256 := by
  unfold wideT at h
  obtain ⟨j, -, hj⟩ := List.mem_flatMap.1 h
  exact wideU_lt (Lx.bAt_lt s j) hj
theorem wideT_bytes (o : Nat → Nat) (s : ByteArray) (n : Nat) : Lx.bytesN (Lx.bytesOf (wideT o s n)) = wideT o s n := Lx.bytesN_bytesOf _ fun _ h => wideT_lt h
theorem wideU_len (m c : Nat) : 1 ≤ (wideU m c).length ∧ (wideU m c).length ≤ 3 := by
  unfold wideU optU
  repeat' split
  all_goals simp
theorem wideT_succ (o : Nat → Nat) (s : ByteArray) (n : Nat) : wideT o s (n + 1) = wideT o s n ++ wideU (o n) (Lx.bAt s n) := by
  unfold wideT
  rw [List.range_succ, List.flatMap_append]; simp
theorem wideT_len (o : Nat → Nat) (s : ByteArray) : ∀ n, n ≤ (wideT o s n).length ∧ (wideT o s n).length ≤ 3 * n := by
  intro n
  induction n with
  | zero => exact ⟨Nat.zero_le _, Nat.zero_le _⟩
  | succ n ih =>
    have := wideU_len (o n) (Lx.bAt s n)
    rw [wideT_succ, List.length_append]; omega
theorem bytesN_range (s : ByteArray) : Lx.bytesN s = (List.range s.size).map (Lx.bAt s) := by
  apply List.ext_getElem?
  intro j
  rw [List.getElem?_map]
  rcases Nat.lt_or_ge j s.size with h | h
  · rw [List.getElem?_range h]
    have hl : j < (Lx.bytesN s).length := by rw [Lx.bytesN_len]; exact h
    rw [List.getElem?_eq_getElem hl]
    show _ = some ((Lx.bytesN s).getD j 0)
    rw [List.getD_eq_getElem?_getD, List.getElem?_eq_getElem hl]; rfl
  · rw [List.getElem?_eq_none (by rw [Lx.bytesN_len]; exact h), List.getElem?_eq_none (by simpa using h)]; rfl
theorem rawSp_q (i : Nat) (s : ByteArray) : (rawSp i s s.size).map qS = (Lx.bytesN s).map fun b => (rawB b, i) := by
  rw [bytesN_range]
  unfold rawSp
  rw [List.map_map, List.map_map]; rfl
theorem map_flat (f : Nat → Nat × Nat) (l : List Nat) : l.map f = l.flatMap fun j => [f j] := by
  induction l with
  | nil => rfl
  | cons x l ih => rw [List.map_cons, List.flatMap_cons, ih]; rfl
theorem unit_eq (m c i : Nat) : EqW [(rawB c, i)] ((wideU m c).map fun b => (rawB b, i)) := by
  unfold wideU
  by_cases h : Lx.white c = true
  · rw [if_pos h]
    have e : rawB c = 32 := by unfold rawB; rw [if_pos h]
    have e1 : rawB 32 = 32 := by decide
    have e2 : rawB 10 = 32 := by decide
    rw [e]
    intro a
    unfold optU
    repeat' split
    all_goals
      simp only [List.map_cons, List.map_nil, e1, e2]
      by_cases ha : a = 32
      · simp [colP, lasP, ha]
      · simp [colP, lasP, ha]
  · rw [if_neg h]
    exact EqW.refl _
theorem raw_wide (o : Nat → Nat) (i : Nat) (s : ByteArray) : EqW ((rawSp i s s.size).map qS) ((rawSp i (Lx.bytesOf (wideT o s s.size)) (Lx.bytesOf (wideT o s s.size)).size).map qS) := by
  rw [rawSp_q, rawSp_q, wideT_bytes, bytesN_range, List.map_map, map_flat]
  unfold wideT
  rw [List.map_flatMap]
  exact EqW.flat _ fun j _ => unit_eq _ _ _
section
variable {t t' : List Nd} (h : Skin t t')
include h
theorem flowF_skin (a : Nat) : ∀ n, flowF t' a n = flowF t a n := by
  intro n
  induction n with
  | zero => rfl
  | succ n ih =>
    unfold flowF
    cases hx : t[n]? with
    | none => rw [h.none hx]; exact ih
    | some x =>
      obtain ⟨x', hx', hk, hs, -⟩ := h.some hx
      rw [hx']
      simp only []
      rw [hk, hs, ih]
theorem flowV_skin (a : Nat) : flowV t' a = flowV t a := flowF_skin h a a
theorem placeAt_skin (i : Nat) : placeAt t' i = placeAt t i := by
  unfold placeAt
  cases hx : t[i]? with
  | none => rw [h.none hx]
  | some x =>
    obtain ⟨x', hx', -, -, hp⟩ := h.some hx
    rw [hx']; exact hp
end
theorem nodeRaw_wide (o : Nat → Nat → Nat) (t : List Nd) (f i : Nat) : EqW ((nodeRaw t f i).map qS) ((nodeRaw (wideV o t) f i).map qS) := by
  unfold nodeRaw
  rw [wideV_at]
  cases hx : t[i]? with
  | none => exact EqW.refl _
  | some x =>
    simp only [Option.map_some]
    rw [flowV_skin (wide_skin o t)]
    show EqW _ (List.map qS (if f < i ∧ x.kind = 46 ∧ flowV t i = (f : Int) then _ else _))
    by_cases hc : f < i ∧ x.kind = 46 ∧ flowV t i = (f : Int)
    · rw [if_pos hc, if_pos hc]
      exact raw_wide (o i) i x.text
    · rw [if_neg hc, if_neg hc]
      exact EqW.refl _
theorem rawF_wide (o : Nat → Nat → Nat) (t : List Nd) (f n : Nat) : EqW ((rawF t f n).map qS) ((rawF (wideV o t) f n).map qS) := by
  unfold rawF
  rw [List.map_flatMap, List.map_flatMap]
  exact EqW.flat _ fun i _ => nodeRaw_wide o t f i
theorem wideV_len (o : Nat → Nat → Nat) (t : List Nd) : (wideV o t).length = t.length := (wide_skin o t).len
theorem flowSp_wide (o : Nat → Nat → Nat) {t : List Nd} (ht : Sized t) (ht' : Sized (wideV o t)) {f : Nat} {x : Nd} (hx : t[f]? = some x) : (flowSp (wideV o t) f).map qS = (flowSp t f).map qS := by
  rw [flowSp_is ht hx, flowSp_is ht' (x := wideN o f x) (by rw [wideV_at, hx]; rfl), trimE_q, trimE_q, colE_q, colE_q, wideV_len, (rawF_wide o t f t.length 32).1]
theorem keptAt_wide (o : Nat → Nat → Nat) {t : List Nd} (ht : Sized t) (ht' : Sized (wideV o t)) (i : Nat) : (keptAt (wideV o t) i).map qS = (keptAt t i).map qS := by
  unfold keptAt
  rw [flowV_skin (wide_skin o t)]
  by_cases h0 : 0 ≤ flowV t i
  · rw [if_pos h0, if_pos h0]
    obtain ⟨-, x, hx, -⟩ := flowV_in (t := t) (a := i) (f := (flowV t i).toNat) (by omega)
    have e := flowSp_wide o ht ht' hx
    have key : ∀ l : List Sp, (l.filter (fun s => s.node == i)).map qS = (l.map qS).filter (fun z => z.2 == i) := fun l => by
      rw [List.filter_map]; rfl
    rw [key, key, e]
  · rw [if_neg h0, if_neg h0]
theorem newText_wide (o : Nat → Nat → Nat) {t : List Nd} (ht : Sized t) (ht' : Sized (wideV o t)) (i : Nat) : newText (wideV o t) i = newText t i := by
  unfold newText
  have e := congrArg (List.map Prod.fst) (keptAt_wide o ht ht' i)
  rw [List.map_map, List.map_map] at e
  have e : (keptAt (wideV o t) i).map Sp.c = (keptAt t i).map Sp.c := e
  rw [e]
/-! ### rows that differ in places alone -/
def ev0 (x : Ev) : Ev := { x with place := 0 }
theorem ndE_0 (x : Ev) : bare (ndE x) = ndE (ev0 x) := by unfold ndE ev0 bare; split <;> rfl
theorem bld_0 (T : List Nd) (S : List Nat) (x : Ev) : bld (T.map bare, S) (ev0 x) = ((bld (T, S) x).1.map bare, (bld (T, S) x).2) := by
  have hk : (ev0 x).kind = x.kind := rfl
  by_cases h1 : x.kind = 1
  · rw [bld_tx (x := ev0 x) h1, bld_tx h1, List.map_append, ← ndE_0]; rfl
  · by_cases h2 : x.kind = 2
    · rw [bld_op (x := ev0 x) h2, bld_op h2, List.map_append, ← ndE_0, List.length_map]; rfl
    · unfold bld
      rw [hk, if_neg h1, if_neg h2, if_neg h1, if_neg h2]
      simp only [List.length_map, Prod.mk.injEq, and_true]
      apply List.ext_getElem?
      intro j
      rw [List.getElem?_map, List.getElem?_modify, List.getElem?_modify, List.getElem?_map]
      cases T[j]? with
      | none => rfl
      | some y =>
        by_cases hj : S.getLastD 0 = j
        · simp only [Option.map_some, if_pos hj]; rfl
        · simp only [if_neg hj]; rfl
theorem row_0 : ∀ (L : List Ev) (T : List Nd) (S : List Nat), (L.foldl bld (T, S)).1.map bare = ((L.map ev0).foldl bld (T.map bare, S)).1 := by
  intro L
  induction L with
  | nil => intro T S; rfl
  | cons x L ih =>
    intro T S
    rw [List.foldl_cons, List.map_cons, List.foldl_cons, bld_0]
    exact ih _ _
theorem step_0 (acc : List Ev) (x : Ev) : (stepJ acc x).map ev0 = stepJ (acc.map ev0) (ev0 x) := by
  have hk : (ev0 x).kind = x.kind := rfl
  have ht : (ev0 x).text = x.text := rfl
  by_cases h : x.kind = 1
  · by_cases h0 : x.text.size = 0
    · rw [stepJ_gone h h0, stepJ_gone (x := ev0 x) h h0]
    · rcases List.eq_nil_or_concat acc with rfl | ⟨B', y, rfl⟩
      · rw [stepJ_first h h0 endsE_nil, List.map_nil, stepJ_first (x := ev0 x) h h0 endsE_nil]; rfl
      · rw [List.concat_eq_append, List.map_append]
        by_cases hy : y.kind = 1
        · rw [stepJ_more h h0 hy]
          show _ = stepJ (B'.map ev0 ++ [ev0 y]) (ev0 x)
          rw [stepJ_more (x := ev0 x) (y := ev0 y) h h0 hy, List.map_append]; rfl
        · rw [stepJ_first h h0 (endsE_snoc hy)]
          show _ = stepJ (B'.map ev0 ++ [ev0 y]) (ev0 x)
          rw [stepJ_first (x := ev0 x) h h0 (endsE_snoc (x := ev0 y) hy), List.map_append, List.map_append]; rfl
  · rw [stepJ_node h, stepJ_node (x := ev0 x) h, List.map_append]; rfl
theorem join_0 : ∀ (L acc : List Ev), (L.foldl stepJ acc).map ev0 = (L.map ev0).foldl stepJ (acc.map ev0) := by
  intro L
  induction L with
  | nil => intro acc; rfl
  | cons x L ih => intro acc; rw [List.foldl_cons, List.map_cons, List.foldl_cons, ih, step_0]
theorem evE_0 (K K' : Nat → ByteArray × Int) (O O' : Nat → Int) (hK : ∀ i, (K i).1 = (K' i).1) : ∀ (L L' : List Lx.Lx) (p : Nat), L.map k2 = L'.map k2 → (evE K O p L).map ev0 = (evE K' O' p L').map ev0 := by
  intro L
  induction L with
  | nil =>
    intro L' p h
    cases L' with
    | nil => rfl
    | cons x l => cases h
  | cons x L ih =>
    intro L' p h
    cases L' with
    | nil => cases h
    | cons x' L' =>
      rw [List.map_cons, List.map_cons] at h
      injection h with hx h
      have hk : x.kind = x'.kind := congrArg Prod.fst hx
      have hn : x.name = x'.name := congrArg Prod.snd hx
      by_cases h1 : x.kind = 1
      · rw [evE_k1 h1, evE_k1 (by rw [← hk]; exact h1), List.map_cons, List.map_cons, ih L' _ h]
        unfold txE ev0
        rw [hK]
      · by_cases h2 : x.kind = 2
        · rw [evE_k2 h2, evE_k2 (by rw [← hk]; exact h2), List.map_cons, List.map_cons, ih L' _ h, hn]; rfl
        · rw [evE_k3 h1 h2, evE_k3 (by rw [← hk]; exact h1) (by rw [← hk]; exact h2), List.map_cons, List.map_cons, ih L' _ h]
/-- P5.4 -/
theorem norm_wide (o : Nat → Nat → Nat) {t : List Nd} (ht : Sized t) (ht' : Sized (wideV o t)) (hc : checkV t = 0) (hc' : checkV (wideV o t) = 0) : sameV (normV t) (normV (wideV o t)) = true := by
  obtain ⟨L, hW, hL⟩ := check_wf hc
  obtain ⟨L', hW', hL'⟩ := check_wf hc'
  have e := evA_skin (wide_skin o t) 0 t.length
  rw [wideV_len] at hL'
  rw [hL, hL'] at e
  have e : L'.map k2 = L.map k2 := by injection e
  refine bare_same _ _ ?_
  rw [normV_is hW, normV_is hW']
  have r := fun E : List Ev => row_0 E [] []
  have j := fun E : List Ev => join_0 E []
  show (List.foldl bld ([], []) (joinE _)).1.map bare = (List.foldl bld ([], []) (joinE _)).1.map bare
  rw [r, r]
  unfold joinE
  rw [j, j, evE_0 (asNew t) (asNew (wideV o t)) (placeAt t) (placeAt (wideV o t)) (fun i => (newText_wide o ht ht' i).symm) L L' 0 e.symm]
theorem okT_white : Lx.okT 32 = true ∧ Lx.okT 10 = true := by decide
theorem nodeOk_wide (o : Nat → Nat → Nat) (i : Nat) (x : Nd) : nodeOk (wideN o i x) = nodeOk x := by
  have hl := wideT_len (o i) x.text x.text.size
  have hs : (wideN o i x).text.size = (wideT (o i) x.text x.text.size).length := Lx.bytesOf_size _
  have hz : (wideN o i x).text.size = 0 ↔ x.text.size = 0 := by rw [hs]; omega
  have hb : (Lx.bytesN (wideN o i x).text).all Lx.okT = (Lx.bytesN x.text).all Lx.okT := by
    show (Lx.bytesN (Lx.bytesOf (wideT (o i) x.text x.text.size))).all Lx.okT = _
    rw [wideT_bytes, bytesN_range, Bool.eq_iff_iff, List.all_eq_true, List.all_eq_true]
    unfold wideT
    constructor
    · intro h b hb
      obtain ⟨j, hj, rfl⟩ := List.mem_map.1 hb
      by_cases hw : Lx.white (Lx.bAt x.text j) = true
      · unfold Lx.okT
        have : Ka.whiteB ((Lx.bAt x.text j : Nat) : Int) = true := hw
        rw [this, Bool.or_true]
      · exact h _ (List.mem_flatMap.2 ⟨j, hj, by unfold wideU; rw [if_neg hw]; simp⟩)
    · intro h b hb
      obtain ⟨j, hj, hbj⟩ := List.mem_flatMap.1 hb
      unfold wideU at hbj
      split at hbj
      · rcases optU_in hbj with rfl | rfl
        · exact okT_white.1
        · exact okT_white.2
      · rw [List.mem_singleton] at hbj
        subst hbj
        exact h _ (List.mem_map.2 ⟨j, hj, rfl⟩)
  have hk : (wideN o i x).kind = x.kind := rfl
  unfold nodeOk
  rw [hb, hk]
  congr 1
  by_cases h46 : x.kind = 46
  · rw [if_pos h46, if_pos h46, decide_eq_decide]; exact not_congr hz
  · rw [if_neg h46, if_neg h46, decide_eq_decide, hz]
theorem all_wide (o : Nat → Nat → Nat) (t : List Nd) : (wideV o t).all nodeOk = t.all nodeOk := by
  rw [Bool.eq_iff_iff, List.all_eq_true, List.all_eq_true]
  constructor
  · intro h x hx
    obtain ⟨i, hi⟩ := List.mem_iff_getElem?.1 hx
    rw [← nodeOk_wide o i x]
    exact h _ (List.mem_of_getElem? (i := i) (by rw [wideV_at, hi]; rfl))
  · intro h y hy
    obtain ⟨i, hi⟩ := List.mem_iff_getElem?.1 hy
    rw [wideV_at] at hi
    obtain ⟨x, hx, rfl⟩ := Option.map_eq_some_iff.1 hi
    rw [nodeOk_wide]
    exact h x (List.mem_of_getElem? hx)
/-- The same answer, or too much. -/
theorem check_wide (o : Nat → Nat → Nat) (t : List Nd) : checkV t = checkV (wideV o t) ∨ checkV t = 4 ∨ checkV (wideV o t) = 4 := check_skin (wide_skin o t) (all_wide o t)
theorem of_wide (o : Nat → Nat → Nat) {t : List Nd} (hk : ∀ x ∈ t, x.kind < 256) (hx : ∀ x ∈ t, x.text.size ≤ 100) (he : checkV t = checkV (wideV o t)) : sameV (ofV t) (ofV (wideV o t)) = true := by
  unfold ofV
  by_cases hc : checkV t = 0
  · have hc' : checkV (wideV o t) = 0 := by rw [← he]; exact hc
    rw [if_pos hc, if_pos hc']
    have wn : ∀ y ∈ wideV o t, ∃ i, ∃ x ∈ t, y = wideN o i x := fun y hy => by
      obtain ⟨i, hi⟩ := List.mem_iff_getElem?.1 hy
      rw [wideV_at] at hi
      obtain ⟨x, hx, rfl⟩ := Option.map_eq_some_iff.1 hi
      exact ⟨i, x, List.mem_of_getElem? hx, rfl⟩
    refine norm_wide o (check_sized hc hk fun x h => by have := hx x h; omega) (check_sized hc' (fun y hy => ?_) (fun y hy => ?_)) hc hc'
    · obtain ⟨i, x, h, rfl⟩ := wn y hy
      exact hk x h
    · obtain ⟨i, x, h, rfl⟩ := wn y hy
      have hs : (wideN o i x).text.size = (wideT (o i) x.text x.text.size).length := Lx.bytesOf_size _
      have := (wideT_len (o i) x.text x.text.size).2
      have := hx x h
      omega
  · rw [if_neg hc, if_neg (by rw [← he]; exact hc)]
    rfl
end Go.Proofs.YtmldpkigfhoalaaDoor.Nu
