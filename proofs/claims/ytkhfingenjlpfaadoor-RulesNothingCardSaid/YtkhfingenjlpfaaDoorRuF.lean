/-
  Layer 8's document: a line's rule.
-/
import Derived.Test.YtkhfingenjlpfaaDoorRuE
import Derived.StillTailTactics
namespace Go.Proofs.YtkhfingenjlpfaaDoor.Ru
open Go.RowKit Ba

/-- A rule's variable of the call's own, at block g. -/
structure StB (w : World) (g : Nat) (q : Int) (a b : ByteArray) (p l : Int) : Prop where
  lt : g < w.heap.size
  c0 : w.cell? ⟨g, 0, none⟩ = some (.int .i64 q)
  c1 : w.cell? ⟨g, 1, none⟩ = some (.string a)
  c2 : w.cell? ⟨g, 2, none⟩ = some (.string b)
  c3 : w.cell? ⟨g, 3, none⟩ = some (.int .i64 p)
  c4 : w.cell? ⟨g, 4, none⟩ = some (.int .i64 l)
  f : ∀ j, w.frozen? ⟨g, j, none⟩ = false
section
variable {w w' : World} {g : Nat} {q : Int} {a b : ByteArray} {p l : Int}
theorem StB.below (h : StB w g q a b p l) {B : Nat} (hb : Below B w w') (hg : g < B) : StB w' g q a b p l :=
  ⟨Nat.lt_of_lt_of_le h.lt hb.size, (hb.cell (p := ⟨g, 0, none⟩) hg).trans h.c0, (hb.cell (p := ⟨g, 1, none⟩) hg).trans h.c1, (hb.cell (p := ⟨g, 2, none⟩) hg).trans h.c2, (hb.cell (p := ⟨g, 3, none⟩) hg).trans h.c3, (hb.cell (p := ⟨g, 4, none⟩) hg).trans h.c4, fun j => (hb.frozen (p := ⟨g, j, none⟩) hg).trans (h.f j)⟩
theorem StB.kept (h : StB w g q a b p l) (hb : Below w.heap.size w w') : StB w' g q a b p l := h.below hb h.lt
theorem StB.far (h : StB w g q a b p l) {s : Addr} (u : Value) (hs : g ≠ s.block) : StB (w.setCell s u) g q a b p l :=
  have e := Below.heap_setCell w s u g hs
  have c := fun j => World.cell?_of_block (w := w) (w' := w.setCell s u) (a := ⟨g, j, none⟩) e
  ⟨by rw [World.size_setCell]; exact h.lt, (c 0).trans h.c0, (c 1).trans h.c1, (c 2).trans h.c2, (c 3).trans h.c3, (c 4).trans h.c4, fun j => (World.frozen?_of_block (w := w) (w' := w.setCell s u) (a := ⟨g, j, none⟩) e).trans (h.f j)⟩
theorem off_ne {g i j : Nat} (h : i ≠ j) : (⟨g, i, none⟩ : Addr) ≠ ⟨g, j, none⟩ := fun e => h (by injection e)
theorem StB.set0 (h : StB w g q a b p l) (q' : Int) : StB (w.setCell ⟨g, 0, none⟩ (.int .i64 q')) g q' a b p l :=
  ⟨by rw [World.size_setCell]; exact h.lt, World.cell?_setCell_same _ _ _ h.c0, (World.cell?_setCell_other _ _ _ _ (off_ne (by decide))).trans h.c1, (World.cell?_setCell_other _ _ _ _ (off_ne (by decide))).trans h.c2, (World.cell?_setCell_other _ _ _ _ (off_ne (by decide))).trans h.c3, (World.cell?_setCell_other _ _ _ _ (off_ne (by decide))).trans h.c4, fun j => by rw [World.frozen?_setCell]; exact h.f j⟩
theorem StB.set1 (h : StB w g q a b p l) (a' : ByteArray) : StB (w.setCell ⟨g, 1, none⟩ (.string a')) g q a' b p l :=
  ⟨by rw [World.size_setCell]; exact h.lt, (World.cell?_setCell_other _ _ _ _ (off_ne (by decide))).trans h.c0, World.cell?_setCell_same _ _ _ h.c1, (World.cell?_setCell_other _ _ _ _ (off_ne (by decide))).trans h.c2, (World.cell?_setCell_other _ _ _ _ (off_ne (by decide))).trans h.c3, (World.cell?_setCell_other _ _ _ _ (off_ne (by decide))).trans h.c4, fun j => by rw [World.frozen?_setCell]; exact h.f j⟩
theorem StB.set2 (h : StB w g q a b p l) (b' : ByteArray) : StB (w.setCell ⟨g, 2, none⟩ (.string b')) g q a b' p l :=
  ⟨by rw [World.size_setCell]; exact h.lt, (World.cell?_setCell_other _ _ _ _ (off_ne (by decide))).trans h.c0, (World.cell?_setCell_other _ _ _ _ (off_ne (by decide))).trans h.c1, World.cell?_setCell_same _ _ _ h.c2, (World.cell?_setCell_other _ _ _ _ (off_ne (by decide))).trans h.c3, (World.cell?_setCell_other _ _ _ _ (off_ne (by decide))).trans h.c4, fun j => by rw [World.frozen?_setCell]; exact h.f j⟩
theorem StB.set3 (h : StB w g q a b p l) (p' : Int) : StB (w.setCell ⟨g, 3, none⟩ (.int .i64 p')) g q a b p' l :=
  ⟨by rw [World.size_setCell]; exact h.lt, (World.cell?_setCell_other _ _ _ _ (off_ne (by decide))).trans h.c0, (World.cell?_setCell_other _ _ _ _ (off_ne (by decide))).trans h.c1, (World.cell?_setCell_other _ _ _ _ (off_ne (by decide))).trans h.c2, World.cell?_setCell_same _ _ _ h.c3, (World.cell?_setCell_other _ _ _ _ (off_ne (by decide))).trans h.c4, fun j => by rw [World.frozen?_setCell]; exact h.f j⟩
theorem StB.set4 (h : StB w g q a b p l) (l' : Int) : StB (w.setCell ⟨g, 4, none⟩ (.int .i64 l')) g q a b p l' :=
  ⟨by rw [World.size_setCell]; exact h.lt, (World.cell?_setCell_other _ _ _ _ (off_ne (by decide))).trans h.c0, (World.cell?_setCell_other _ _ _ _ (off_ne (by decide))).trans h.c1, (World.cell?_setCell_other _ _ _ _ (off_ne (by decide))).trans h.c2, (World.cell?_setCell_other _ _ _ _ (off_ne (by decide))).trans h.c3, World.cell?_setCell_same _ _ _ h.c4, fun j => by rw [World.frozen?_setCell]; exact h.f j⟩
/-- A whole rule put into block g. -/
def put5 (w : World) (g : Nat) (q : Int) (a b : ByteArray) (p l : Int) : World := ((((w.setCell ⟨g, 0, none⟩ (.int .i64 q)).setCell ⟨g, 1, none⟩ (.string a)).setCell ⟨g, 2, none⟩ (.string b)).setCell ⟨g, 3, none⟩ (.int .i64 p)).setCell ⟨g, 4, none⟩ (.int .i64 l)
theorem StB.put (h : StB w g q a b p l) (q' : Int) (a' b' : ByteArray) (p' l' : Int) : StB (put5 w g q' a' b' p' l') g q' a' b' p' l' := ((((h.set0 q').set1 a').set2 b').set3 p').set4 l'
theorem below_put {B : Nat} {w0 : World} (h : Below B w0 w) (hg : B ≤ g) (q' : Int) (a' b' : ByteArray) (p' l' : Int) : Below B w0 (put5 w g q' a' b' p' l') := ((((h.setCell (p := ⟨g, 0, none⟩) hg _).setCell (p := ⟨g, 1, none⟩) hg _).setCell (p := ⟨g, 2, none⟩) hg _).setCell (p := ⟨g, 3, none⟩) hg _).setCell (p := ⟨g, 4, none⟩) hg _
theorem StB.new (w : World) (q : Int) (a b : ByteArray) (p l : Int) : StB (w.alloc (.cells #[.int .i64 q, .string a, .string b, .int .i64 p, .int .i64 l] 30)) w.heap.size q a b p l :=
  ⟨by simp, by simp, by simp, by simp, by simp, by simp, fun j => by simp⟩
end
/-! ### a line's rule, by its parts -/
section
variable {L : List Nat} {n : Int} {p0 : List Nat} {m : List (List Nat)}
theorem ruleA_0 (hP : splitL 32 L = p0 :: m) (h : whatN p0 = 0) : ruleA psC L n = none := by
  unfold ruleA
  rw [hP]
  split
  · rename_i e
    cases e
    rw [if_neg (fun k => k.1 h)]
  · rename_i e
    cases e
    rw [if_neg (fun k => by omega)]
  · rfl
theorem ruleA_4 (hP : splitL 32 L = p0 :: m) (h5 : whatN p0 ≤ 5) (h : m.length ≠ 3) : ruleA psC L n = none := by
  unfold ruleA
  rw [hP]
  split
  · rename_i e
    cases e
    exact absurd rfl h
  · rename_i e
    cases e
    rw [if_neg (fun k => by omega)]
  · rfl
theorem ruleA_3 (hP : splitL 32 L = p0 :: m) (h5 : 5 < whatN p0) (h : m.length ≠ 2) : ruleA psC L n = none := by
  unfold ruleA
  rw [hP]
  split
  · rename_i e
    cases e
    rw [if_neg (fun k => by omega)]
  · rename_i e
    cases e
    exact absurd rfl h
  · rfl
theorem ruleA_four {a c d : List Nat} (hP : splitL 32 L = [p0, a, c, d]) (h0 : whatN p0 ≠ 0) (h5 : whatN p0 ≤ 5) : ruleA psC L n = if leftB (whatN p0) a = true then (match psC c, digA d with | some cc, some p => some ⟨whatN p0, a, cc, p, n⟩ | _, _ => none) else none := by
  unfold ruleA
  rw [hP]
  show (if whatN p0 ≠ 0 ∧ whatN p0 ≤ 5 ∧ leftB (whatN p0) a = true then _ else _) = _
  by_cases h : leftB (whatN p0) a = true
  · rw [if_pos ⟨h0, h5, h⟩, if_pos h]
    cases psC c with
    | none => rfl
    | some cc => cases digA d <;> rfl
  · rw [if_neg (fun k => h k.2.2), if_neg h]
theorem ruleA_three {a c : List Nat} (hP : splitL 32 L = [p0, a, c]) (h5 : 5 < whatN p0) : ruleA psC L n = if leftB (whatN p0) a = true then (match psC c with | some cc => some ⟨whatN p0, a, cc, 0, n⟩ | _ => none) else none := by
  unfold ruleA
  rw [hP]
  show (if 5 < whatN p0 ∧ leftB (whatN p0) a = true then _ else _) = _
  by_cases h : leftB (whatN p0) a = true
  · rw [if_pos ⟨h5, h⟩, if_pos h]
    cases psC c <;> rfl
  · rw [if_neg (fun k => h k.2), if_neg h]
end
theorem psC_of {t : ByteArray} : psC (bytesN t) = Ce.parseL t := by
  unfold psC
  rw [if_pos (fun x hx => ?_)]
  · show Ce.parseL (bytesOf (bytesN t)) = _
    rw [bytesOf_bytesN]
  · obtain ⟨j, _, rfl⟩ := Ce.mem_bytes t hx
    exact Ce.bAt_lt t j
theorem bytesN_lt (s : ByteArray) : ∀ x ∈ bytesN s, x < 256 := fun x hx => by
  obtain ⟨j, _, rfl⟩ := Ce.mem_bytes s hx
  exact bAt_lt s j
theorem split_lt {c : Nat} : ∀ {L : List Nat}, (∀ x ∈ L, x < 256) → ∀ a ∈ splitL c L, ∀ x ∈ a, x < 256
  | [], _, a, ha, x, hx => by rw [List.mem_singleton.1 ha] at hx; cases hx
  | y :: L, h, a, ha, x, hx => by
    have ih := split_lt (c := c) (fun x hx => h x (List.mem_cons_of_mem _ hx)) (L := L)
    obtain ⟨b, m, hr⟩ := split_ne c L
    by_cases hy : y = c
    · have ha : a ∈ (if y = c then [] :: splitL c L else _) := ha
      rw [if_pos hy] at ha
      rcases List.mem_cons.1 ha with rfl | ha
      · cases hx
      · exact ih a ha x hx
    · rw [split_x hy hr] at ha
      rw [hr] at ih
      rcases List.mem_cons.1 ha with rfl | ha
      · rcases List.mem_cons.1 hx with rfl | hx
        · exact h _ (List.mem_cons_self ..)
        · exact ih b (List.mem_cons_self ..) x hx
      · exact ih a (List.mem_cons_of_mem _ ha) x hx
/-- How far the words have been gone over: the What that was met. -/
def whatTo (p0 : List Nat) (i : Nat) : Nat := if whatN p0 < i then whatN p0 else 0
theorem words_at {i : Nat} (h1 : 1 ≤ i) (h8 : i ≤ 8) : ([] :: wordsL)[i]? = some (wordL i) := by
  have : ∀ j : Fin 9, 1 ≤ j.val → ([] :: wordsL)[j.val]? = some (wordL j.val) := by decide +kernel
  exact this ⟨i, by omega⟩ h1
theorem whatTo_hit {i : Nat} (h1 : 1 ≤ i) (h8 : i ≤ 8) : whatTo (wordL i) (i + 1) = i := by
  have := (what_word ⟨i, by omega⟩ h1).1
  have : whatN (wordL i) = i := this
  unfold whatTo
  rw [this, if_pos (by omega)]
theorem whatTo_miss {p0 : List Nat} {i : Nat} (h1 : 1 ≤ i) (h : wordL i ≠ p0) : whatTo p0 (i + 1) = whatTo p0 i := by
  unfold whatTo
  by_cases h2 : whatN p0 = i
  · exact absurd (by rw [← h2]; exact word_what (by omega)) h
  · by_cases h3 : whatN p0 < i
    · rw [if_pos h3, if_pos (by omega)]
    · rw [if_neg h3, if_neg (by omega)]
theorem whatTo_end (p0 : List Nat) : whatTo p0 9 = whatN p0 := by
  unfold whatTo
  rw [if_pos (by have := whatN_le p0; omega)]
def RuleTo (l : List Nat) (n : Int) (w : World) (e : Ending) (w' : World) : Prop := ∃ (q : Int) (a b : ByteArray) (p c : Int) (ok : Bool), e = .returned (.tuple #[.agg #[.int .i64 q, .string a, .string b, .int .i64 p, .int .i64 c], .bool ok]) ∧ (match ruleA psC l n with | none => ok = false | some x => ok = true ∧ q = x.what ∧ a = bytesOf x.left ∧ b = bytesOf x.cells ∧ p = x.prio ∧ c = x.line) ∧ Below w.heap.size w w'
theorem RuleTo.none {l : List Nat} {n : Int} {w w' : World} (q : Int) {a b : ByteArray} {p c : Int} (h : ruleA psC l n = none) (hb : Below w.heap.size w w') : RuleTo l n w (.returned (.tuple #[.agg #[.int .i64 q, .string a, .string b, .int .i64 p, .int .i64 c], .bool false])) w' := ⟨q, a, b, p, c, false, rfl, by rw [h], hb⟩
theorem RuleTo.some {l : List Nat} {n : Int} {w w' : World} {x : Rl} {v : Value} (h : ruleA psC l n = some x) (hv : v = aggR x) (hb : Below w.heap.size w w') : RuleTo l n w (.returned (.tuple #[v, .bool true])) w' := ⟨x.what, bytesOf x.left, bytesOf x.cells, x.prio, x.line, true, by rw [hv]; rfl, by rw [h]; exact ⟨rfl, rfl, rfl, rfl, rfl, rfl⟩, hb⟩
def es : ByteArray := { data := #[] }
/-- What stands in memory behind the words' loop. -/
def RuMem (w wr : World) (X : Nat) (q : Nat) (n : Int) (P : List (List Nat)) (np : Nat) (vp vw : Value) : Prop :=
  StB wr X q es es 0 n ∧ StB wr w.heap.size 0 es es 0 0 ∧ w.heap.size < X ∧ wr.ownsRow (w.heap.size + 1) 9 1 vp np (rows cS P) ∧ (∀ k, vp.ownBlock = some k → k < X) ∧ wr.ownsRow (X + 1) 9 1 vw 9 (rows cS ([] :: wordsL)) ∧ Below w.heap.size w wr
theorem StB.drewN {w : World} {g : Nat} {q : Int} {a b : ByteArray} {p l : Int} (h : StB w g q a b p l) (k : Nat) : StB (w.drewN k) g q a b p l := ⟨h.lt, h.c0, h.c1, h.c2, h.c3, h.c4, h.f⟩
theorem RuMem.drewN {w wr : World} {X q : Nat} {n : Int} {P : List (List Nat)} {np : Nat} {vp vw : Value} (h : RuMem w wr X q n P np vp vw) (k : Nat) : RuMem w (wr.drewN k) X q n P np vp vw :=
  ⟨h.1.drewN k, h.2.1.drewN k, h.2.2.1, h.2.2.2.1, h.2.2.2.2.1, h.2.2.2.2.2.1, Ba.below_drewN h.2.2.2.2.2.2 k⟩
theorem part_at {W : World} {B : Nat} {gp np cp : Nat} {P : List (List Nat)} (h : W.ownsRow B 9 1 (.slice (some ⟨gp, 0, none⟩) np cp) np (rows cS P)) {j : Nat} {x : List Nat} (hx : P[j]? = some x) (hj : j < np) : W.cell? ⟨gp, j, none⟩ = some (.string (bytesOf x)) := by
  have := h.cellAt (j * 1 + 0) (by omega)
  rw [rows_at cS cS_len _ j _ hx 0 (by omega)] at this
  simpa [cS] using this
theorem part_size {s : ByteArray} {P : List (List Nat)} (h : splitL 32 (bytesN s) = P) {x : List Nat} (hx : x ∈ P) : (bytesOf x).size ≤ s.size ∧ bytesN (bytesOf x) = x := by
  have h2 := split_sum 32 (bytesN s)
  rw [h, bytesN_len] at h2
  have h3 : x.length + 1 ≤ (P.map fun t => t.length + 1).sum := by
    clear h h2
    induction P with
    | nil => cases hx
    | cons y r ih =>
      rw [List.map_cons, List.sum_cons]
      rcases List.mem_cons.1 hx with rfl | hx
      · omega
      · have := ih hx; omega
  exact ⟨by rw [bytesOf_size]; omega, bytesN_bytesOf _ (split_lt (bytesN_lt s) x (by rw [h]; exact hx))⟩
theorem place_none {t : ByteArray} (h : Ce.parseL t = none) : 0 ≤ Ce.placeI t := by unfold Ce.placeI; rw [h]; exact Int.natCast_nonneg _
theorem place_some {t : ByteArray} {l : List Nat} (h : Ce.parseL t = some l) : Ce.placeI t = -1 ∧ Ce.parseV t = bytesOf l := ⟨by unfold Ce.placeI; rw [h], (parseE_of h).2.1⟩
end Go.Proofs.YtkhfingenjlpfaaDoor.Ru
