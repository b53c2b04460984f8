/-
  cell.Parse.
-/
import Derived.Test.YtkhfingenjlpfaaGreatDoorCeN
import Derived.Test.YtkhfingenjlpfaaGreatDoorCeO
import Derived.Maps.AppendAt
namespace Go.Proofs.YtkhfingenjlpfaaGreatDoor.Ce
open Go.RowKit Go.Shelf
attribute [local go_sem] Oper.semAt_some

/-- What the boxes of Parse hold between two rounds: the results, and what has been read. -/
def PI (w : World) (acc : List Nat) (at' : Nat) (W : World) : Prop :=
  Boxed W w.heap.size 9 (.string { data := #[] }) ∧ Boxed W (w.heap.size + 1) 3 (.int .i64 ((at' : Nat) : Int)) ∧ Boxed W (w.heap.size + 1 + 1) 24 (.int .i64 0) ∧
  (∃ v, Boxed W (w.heap.size + 1 + 1 + 1) 51 v ∧ W.ownsRow (w.heap.size + 7) 5 1 v acc.length (cellsL acc)) ∧ Below w.heap.size w W
theorem box_keep {R B : Nat} {W W' : World} {t : TypeId} {v : Value} (h : Boxed W B t v) (k : ∀ i, i < R → W'.heap[i]? = W.heap[i]?) (hB : B < R) : Boxed W' B t v := (k B hB).trans h
theorem PI.turn {w : World} {acc : List Nat} {at' : Nat} {W W' : World} {row : Option Nat} (h : PI w acc at' W) (hg : W.grownBy W' row) (hr : ∀ r, row = some r → w.heap.size + 7 ≤ r ∧ ∃ o : Obj, W.heap[r]? = some o ∧ o.isCells = false) : PI w acc at' W' := by
  obtain ⟨h0, h1, h2, ⟨v, h3, h4⟩, hB⟩ := h
  refine ⟨h0.kept hg (fun e => by have := (hr _ e.symm).1; omega), h1.kept hg (fun e => by have := (hr _ e.symm).1; omega), h2.kept hg (fun e => by have := (hr _ e.symm).1; omega), ⟨v, h3.kept hg (fun e => by have := (hr _ e.symm).1; omega), h4.kept hg ?_⟩, hB.grown hg hB.size (fun j ej => by have := (hr _ ej).1; omega)⟩
  rcases h4.2 with ⟨rfl, _⟩ | ⟨g, cap, cur, rfl, _, hgb, _⟩
  · exact .inl rfl
  · refine .inr fun e' => ?_
    obtain ⟨_, o, ho, hc⟩ := hr g e'.symm
    rw [hgb] at ho; cases ho; cases hc
/-- A call in between that makes memory. -/
theorem PI.below {w : World} {acc : List Nat} {at' : Nat} {W W' : World} (h : PI w acc at' W) (hb : Below W.heap.size W W') : PI w acc at' W' := by
  obtain ⟨h0, h1, h2, ⟨v, h3, h4⟩, hB⟩ := h
  exact ⟨(hb.block _ h0.lt).trans h0, (hb.block _ h1.lt).trans h1, (hb.block _ h2.lt).trans h2, ⟨v, (hb.block _ h3.lt).trans h3, own_below h4 hb⟩, hB.trans (hb.mono hB.size)⟩
/-- A store into the iterator's own box. -/
theorem PI.own {w : World} {acc : List Nat} {at' : Nat} {W : World} (h : PI w acc at' W) (x : Value) : PI w acc at' (W.setCell ⟨w.heap.size + 1 + 1 + 1 + 1, 0, none⟩ x) := by
  obtain ⟨h0, h1, h2, ⟨v, h3, h4⟩, hB⟩ := h
  exact ⟨h0.other (by omega) _, h1.other (by omega) _, h2.other (by omega) _, ⟨v, h3.other (by omega) _, ownsRow_setCell_below h4 (by show w.heap.size + 1 + 1 + 1 + 1 < w.heap.size + 7; omega) _⟩, hB.setCell (p := ⟨w.heap.size + 1 + 1 + 1 + 1, 0, none⟩) (by show w.heap.size ≤ w.heap.size + 1 + 1 + 1 + 1; omega) _⟩
/-- A round that went on: the two stores behind an append. -/
theorem PI.step {w : World} {acc : List Nat} {at' c m k : Nat} {W w1 : World} {v v' : Value} {tmp : Obj} (h : PI w acc at' W) (hk : acc.length = k) (hv : Boxed W (w.heap.size + 1 + 1 + 1) 51 v) (hrow : W.ownsRow (w.heap.size + 7) 5 1 v k (cellsL acc))
    (hsz : w.heap.size + 7 ≤ W.heap.size) (hown' : w1.ownsRow (w.heap.size + 7) 5 1 v' (k + 1) (cellsL acc ++ [.int .u8 (c : Int)])) (hgrow : (W.alloc tmp).grownBy w1 v.ownBlock) :
    Boxed w1 (w.heap.size + 1 + 1 + 1) 51 v ∧ Boxed (w1.setCell ⟨w.heap.size + 1 + 1 + 1, 0, none⟩ v') (w.heap.size + 1) 3 (.int .i64 ((at' : Nat) : Int)) ∧
    ∀ n : Int, n = ((m : Nat) : Int) → PI w (acc ++ [c]) m ((w1.setCell ⟨w.heap.size + 1 + 1 + 1, 0, none⟩ v').setCell ⟨w.heap.size + 1, 0, none⟩ (.int .i64 n)) ∧
      KeepB (w.heap.size + 1 + 1 + 1 + 1) W ((w1.setCell ⟨w.heap.size + 1 + 1 + 1, 0, none⟩ v').setCell ⟨w.heap.size + 1, 0, none⟩ (.int .i64 n)) ∧
      KeepsFrom (w.heap.size + 7) W ((w1.setCell ⟨w.heap.size + 1 + 1 + 1, 0, none⟩ v').setCell ⟨w.heap.size + 1, 0, none⟩ (.int .i64 n)) := by
  obtain ⟨h0, h1, h2, _, hB⟩ := h
  have hkeep : ∀ k, k < w.heap.size + 7 → w1.heap[k]? = W.heap[k]? := fun k hk =>
    (hgrow.block k (by simp; omega) (fun e => by have := (hrow.lt _ e.symm).1; omega)).trans (Below.heap_alloc _ _ _ (by omega))
  have k0 := box_keep h0 hkeep (by omega)
  have k1 := box_keep h1 hkeep (by omega)
  have k2 := box_keep h2 hkeep (by omega)
  have k3 := box_keep hv hkeep (by omega)
  refine ⟨k3, k1.other (by omega) _, fun n hn => ⟨⟨(k0.other (by omega) _).other (by omega) _, ?_, (k2.other (by omega) _).other (by omega) _, ⟨v', (k3.set v').other (by omega) _, ?_⟩, ?_⟩, fun k hk1 hk2 => ?_, ?_⟩⟩
  · rw [hn]; exact (k1.other (by omega) _).set _
  · rw [List.length_append, cellsL_snoc, hk]
    exact ownsRow_setCell_below (ownsRow_setCell_below hown' (by show w.heap.size + 1 + 1 + 1 < w.heap.size + 7; omega) _) (by show w.heap.size + 1 < w.heap.size + 7; omega) _
  · exact (((hB.alloc hB.size _).grown hgrow (by simp; omega) (fun j ej => by have := (hrow.lt j ej).1; omega)).setCell (p := ⟨w.heap.size + 1 + 1 + 1, 0, none⟩) (by show w.heap.size ≤ w.heap.size + 1 + 1 + 1; omega) _).setCell (p := ⟨w.heap.size + 1, 0, none⟩) (by show w.heap.size ≤ w.heap.size + 1; omega) _
  · rw [Below.heap_setCell _ _ _ _ (show k ≠ w.heap.size + 1 by omega), Below.heap_setCell _ _ _ _ (show k ≠ w.heap.size + 1 + 1 + 1 by omega)]
    exact hkeep k (by omega)
  · refine ((((KeepsOthers.alloc W tmp).trans (KeepsOthers.of_grownBy hgrow fun j o ej hj => ?_)).trans (KeepsOthers.setCell _ _ _)).trans (KeepsOthers.setCell _ _ _)).from _
    rcases (hrow.alloc tmp).2 with ⟨rfl, _⟩ | ⟨g, cap, cur, rfl, _, hgb, _⟩
    · simp [Value.ownBlock] at ej
    · obtain rfl : g = j := by simpa [Value.ownBlock] using ej
      rw [hgb] at hj; cases hj; rfl
theorem keepsFrom_below {B : Nat} {W W' : World} (h : Below W.heap.size W W') : KeepsFrom B W W' := ⟨h.size, fun k _ _ hk _ => (h.block k (Array.getElem?_eq_some_iff.1 hk).1).trans hk⟩
theorem keepB_below {Bs : Nat} {W W' : World} (h : Below W.heap.size W W') (hB : Bs + 3 ≤ W.heap.size) : KeepB Bs W W' := fun k _ h2 => h.block k (by omega)
/-- A round that did not go on. -/
def PX (w : World) (s : ByteArray) (pre : List (Pt s)) (W : World) : Prop :=
  (∃ pre' x acc, pre = pre' ++ [x] ∧ pSt s pre' = some acc ∧ (ptN s x = 0 ∨ acc.length = 4) ∧ Boxed W (w.heap.size + 1) 3 (.int .i64 ((atN pre' : Nat) : Int))) ∧
  Boxed W w.heap.size 9 (.string { data := #[] }) ∧ Boxed W (w.heap.size + 1 + 1) 24 (.int .i64 2) ∧ Below w.heap.size w W
theorem PX.mk' {w : World} {s : ByteArray} {pre : List (Pt s)} {x : Pt s} {acc : List Nat} {W W2 : World} (hacc : pSt s pre = some acc) (hx : ptN s x = 0 ∨ acc.length = 4) (hP : PI w acc (atN pre) W2) (hk : KeepsFrom (w.heap.size + 7) W W2) :
    KeepsFrom (w.heap.size + 7) W ((((W2.setCell ⟨w.heap.size, 0, none⟩ (.string { data := #[] })).setCell ⟨w.heap.size + 1, 0, none⟩ (.int .i64 ((atN pre : Nat) : Int))).setCell ⟨w.heap.size + 1 + 1, 0, none⟩ (.int .i64 2)).drew) ∧
    PX w s (pre ++ [x]) ((((W2.setCell ⟨w.heap.size, 0, none⟩ (.string { data := #[] })).setCell ⟨w.heap.size + 1, 0, none⟩ (.int .i64 ((atN pre : Nat) : Int))).setCell ⟨w.heap.size + 1 + 1, 0, none⟩ (.int .i64 2)).drew) := by
  obtain ⟨b0, b1, b2, _, hB⟩ := hP
  refine ⟨hk.trans (((((KeepsOthers.setCell _ _ _).trans (KeepsOthers.setCell _ _ _)).trans (KeepsOthers.setCell _ _ _)).trans (KeepsOthers.drew _)).from _), ⟨pre, x, acc, rfl, hacc, hx, ?_⟩, ?_, ?_, ?_⟩
  · exact ((b1.other (B' := w.heap.size) (by omega) (.string { data := #[] })).set (.int .i64 ((atN pre : Nat) : Int))).other (B' := w.heap.size + 1 + 1) (by omega) (.int .i64 2)
  · exact ((b0.set (.string { data := #[] })).other (B' := w.heap.size + 1) (by omega) (.int .i64 ((atN pre : Nat) : Int))).other (B' := w.heap.size + 1 + 1) (by omega) (.int .i64 2)
  · exact ((b2.other (B' := w.heap.size) (by omega) (.string { data := #[] })).other (B' := w.heap.size + 1) (by omega) (.int .i64 ((atN pre : Nat) : Int))).set (.int .i64 2)
  · exact (((hB.setCell (p := ⟨w.heap.size, 0, none⟩) (Nat.le_refl _) _).setCell (p := ⟨w.heap.size + 1, 0, none⟩) (by show w.heap.size ≤ w.heap.size + 1; omega) _).setCell (p := ⟨w.heap.size + 1 + 1, 0, none⟩) (by show w.heap.size ≤ w.heap.size + 1 + 1; omega) _).drew
theorem of_at (t : ByteArray) (ht : t.size ≤ 70000) (c : Nat) (b : Bool) (hc : ofS t = c) (hb : ofB t = b) (w : World) :
    Calls Tryz.prog 70 #[.string t] w fun e w' => e = .returned (.tuple #[.int .u8 ((c : Nat) : Int), .bool b]) ∧ Below w.heap.size w w' := hc ▸ hb ▸ of_any t ht w

set_option maxRecDepth 100000 in
set_option maxHeartbeats 2000000 in
/-- cell.Parse -/
theorem parse_any (s : ByteArray) (hs : s.size ≤ 70000) (w : World) :
    Calls Tryz.prog 47 #[.string s] w fun e w' => e = .returned (.tuple #[.string (parseV s), .int .i64 ((parseAt s : Nat) : Int), .int .i64 (parseE s)]) ∧ Below w.heap.size w w' := by
  have hfn : ∀ f, Fence.wide.fn f := fun _ => trivial
  obtain ⟨i0, hi, hz0, hz1, hz2⟩ := info_parts infoByte
  refine (callsIn_wide (n := 3)).1 ?_
  refine callsIn_of_wp_marks Tryz.func47 rfl trivial ?_ rfl
  simp only [Tryz.ntmps47, List.size_toArray, List.length_cons, List.length_nil, Nat.reduceAdd, Nat.reduceSub, Array.replicate_succ, Array.replicate_zero, List.push_toArray, List.append_toArray, List.nil_append, List.cons_append]
  gi_wp2_with (gi_at_call 42; refine (callsIn_wide.2 (split0_any s _)).mono ?_; rintro e w' ⟨rfl, rfl⟩)
  obtain ⟨W0, hW0⟩ : ∃ W0, (((((((w.alloc (.cells #[.string { data := #[] }] 9)).alloc (.cells #[.int .i64 0] 3)).alloc (.cells #[.int .i64 0] 24)).alloc (.cells #[.slice none 0 0] 51)).alloc
    (.cells #[.string s] 9)).alloc (.cells #[.string { data := #[45] }] 9)).alloc (.cells #[.int .i64 0] 3)) = W0 := ⟨_, rfl⟩
  have hsz : W0.heap.size = w.heap.size + 7 := by rw [← hW0]; simp
  have hP0 : PI w [] 0 W0 := by
    rw [← hW0]
    refine ⟨((((((Boxed.new w _ _).alloc _).alloc _).alloc _).alloc _).alloc _).alloc _, ?_, ?_, ⟨.slice none 0 0, ?_, World.ownsRow_nil _ _ _ _⟩, ?_⟩
    · have := (((((Boxed.new (w.alloc (.cells #[.string { data := #[] }] 9)) 3 (.int .i64 0)).alloc (.cells #[.int .i64 0] 24)).alloc (.cells #[.slice none 0 0] 51)).alloc (.cells #[.string s] 9)).alloc (.cells #[.string { data := #[45] }] 9)).alloc (.cells #[.int .i64 0] 3)
      rwa [World.size_alloc] at this
    · have := ((((Boxed.new ((w.alloc (.cells #[.string { data := #[] }] 9)).alloc (.cells #[.int .i64 0] 3)) 24 (.int .i64 0)).alloc (.cells #[.slice none 0 0] 51)).alloc (.cells #[.string s] 9)).alloc (.cells #[.string { data := #[45] }] 9)).alloc (.cells #[.int .i64 0] 3)
      rwa [World.size_alloc, World.size_alloc] at this
    · have := (((Boxed.new (((w.alloc (.cells #[.string { data := #[] }] 9)).alloc (.cells #[.int .i64 0] 3)).alloc (.cells #[.int .i64 0] 24)) 51 (.slice none 0 0)).alloc (.cells #[.string s] 9)).alloc (.cells #[.string { data := #[45] }] 9)).alloc (.cells #[.int .i64 0] 3)
      rwa [World.size_alloc, World.size_alloc, World.size_alloc] at this
    · exact (((((((Below.refl _ w).alloc (Nat.le_refl _) _).alloc (by simp) _).alloc (by simp; omega) _).alloc (by simp; omega) _).alloc (by simp; omega) _).alloc (by simp; omega) _).alloc (by simp; omega) _
  have hX0 : Boxes (w.heap.size + 1 + 1 + 1 + 1) s W0 := by
    have hz : ((((w.alloc (.cells #[.string { data := #[] }] 9)).alloc (.cells #[.int .i64 0] 3)).alloc (.cells #[.int .i64 0] 24)).alloc (.cells #[.slice none 0 0] 51)).heap.size = w.heap.size + 1 + 1 + 1 + 1 := by simp
    obtain ⟨V, hV⟩ : ∃ V, ((((w.alloc (.cells #[.string { data := #[] }] 9)).alloc (.cells #[.int .i64 0] 3)).alloc (.cells #[.int .i64 0] 24)).alloc (.cells #[.slice none 0 0] 51)) = V := ⟨_, rfl⟩
    rw [hV] at hz hW0
    rw [← hW0, ← hz]
    have x1 := ((Boxed.new V 9 (.string s)).alloc (.cells #[.string { data := #[45] }] 9)).alloc (.cells #[.int .i64 0] 3)
    have x2 := (Boxed.new (V.alloc (.cells #[.string s] 9)) 9 (.string { data := #[45] })).alloc (.cells #[.int .i64 0] 3)
    have x3 := Boxed.new ((V.alloc (.cells #[.string s] 9)).alloc (.cells #[.string { data := #[45] }] 9)) 3 (.int .i64 0)
    rw [World.size_alloc] at x2
    rw [World.size_alloc, World.size_alloc] at x3
    exact ⟨x1.cell, x1.frozen, x2.cell, x3.cell⟩
  rw [hW0]
  have hN := partsA_len s 0
  clear hW0
  refine wpIn_range_cell (own := w.heap.size + 1 + 1 + 1 + 1) (by omega) (gf := 85) (lb := #[.pointer (some ⟨w.heap.size + 1 + 1 + 1 + 1 + 1, 0, none⟩), .pointer (some ⟨w.heap.size + 1 + 1 + 1 + 1, 0, none⟩), .pointer (some ⟨w.heap.size + 1 + 1 + 1 + 1 + 2, 0, none⟩)]) rfl (enters_of Tryz.func85 (by kernel_rfl) rfl) (by omega)
    (split_hands 2 (w.heap.size + 1 + 1 + 1 + 1) s hs W0 (by omega) hX0) KeepB.trans (keepB_b (by omega)) (fun _ => rfl)
    (fun pre W => ∃ acc, pSt s pre = some acc ∧ PI w acc (atN pre) W ∧ w.heap.size + 7 ≤ W.heap.size) (PX w s)
    (fun pre A B row hs hg hr => by obtain ⟨acc, h1, h2, h3⟩ := hs; exact ⟨acc, h1, h2.turn hg (fun r e => by obtain ⟨a1, a2⟩ := hr r e; exact ⟨by omega, a2⟩), Nat.le_trans h3 hg.size⟩)
    (fun pre A B row hs hg hr => by
      obtain ⟨⟨p, x, acc, h1, h2, h3, h4⟩, h5, h6, h7⟩ := hs
      exact ⟨⟨p, x, acc, h1, h2, h3, h4.kept hg (fun e => by have := (hr _ e.symm).1; omega)⟩, h5.kept hg (fun e => by have := (hr _ e.symm).1; omega), h6.kept hg (fun e => by have := (hr _ e.symm).1; omega), h7.grown hg h7.size (fun j ej => by have := (hr _ ej).1; omega)⟩)
    (fun pre V v hs => by obtain ⟨acc, h1, h2, h3⟩ := hs; exact ⟨acc, h1, h2.own v, Nat.le_trans h3 (KeepsOthers.setCell V _ v).size⟩)
    ⟨[], rfl, hP0, by omega⟩
    (fun x => { tmps := #[.string s, undef, .pointer (some ⟨w.heap.size, 0, none⟩), .pointer (some ⟨w.heap.size + 1, 0, none⟩), .pointer (some ⟨w.heap.size + 1 + 1, 0, none⟩), .pointer (some ⟨w.heap.size + 1 + 1 + 1, 0, none⟩), .string (s.extract x.1.1 x.1.2), undef, undef, .string s,
      .func (.func 85) #[] #[.pointer (some ⟨w.heap.size + 1 + 1 + 1 + 1 + 1, 0, none⟩), .pointer (some ⟨w.heap.size + 1 + 1 + 1 + 1, 0, none⟩), .pointer (some ⟨w.heap.size + 1 + 1 + 1 + 1 + 2, 0, none⟩)],
      .string (s.extract x.1.1 x.1.2), undef, undef, undef, undef, undef, undef, undef, undef, undef, undef, undef, undef, undef, undef, undef, undef, undef, undef, undef, undef, undef, undef, undef, undef], defers := [] }) ?assign ?body ?done ?stop
  case assign =>
    intro l x W K hK
    dsimp only [encP]
    gi_wp2
    exact hK
  case body =>
    rintro l pre x W ⟨acc, hacc, hP, hsW⟩ hlt
    have hlen := pSt_le hacc
    have hat := atN_le pre
    have hat2 : atN pre ≤ 70001 * 70001 := Nat.le_trans hat (Nat.mul_le_mul (by omega) (by omega))
    obtain ⟨x1, x2⟩ := x.2
    have hes := ext_size s x.1.1 x.1.2 x2
    have het : (s.extract x.1.1 x.1.2).size ≤ 70000 := by omega
    by_cases h0 : ptN s x = 0
    · have hOB : ofB (s.extract x.1.1 x.1.2) = false := by unfold ofB; rw [show ofS (s.extract x.1.1 x.1.2) = 0 from h0]; rfl
      have HC := Lib.hid (show ofS (s.extract x.1.1 x.1.2) = 0 from h0)
      have HB := Lib.hid hOB
      have HX := Lib.hid (show ptN s x = 0 ∨ acc.length = 4 from .inl h0)
      clear h0 hOB hes hat
      gi_wp2_with (gi_at_call 70; refine (CallsIn.inRound l (callsIn_wide.2 (of_at _ het 0 false HC.out HB.out W))).mono ?_; rintro e W2 ⟨rfl, hb2⟩)
      have hP2 := hP.below hb2
      obtain ⟨b0, b1, b2, ⟨v, b3, b4⟩, hB2⟩ := id hP2
      have c0 := b0.cell
      have f0 := b0.frozen
      have c1 := b1.cell
      have f1 := b1.frozen
      have c2 := b2.cell
      have f2 := b2.frozen
      have hPX := PX.mk' hacc HX.out hP2 (keepsFrom_below hb2)
      rw [← hsz] at hPX
      have HPX := Lib.hid hPX
      clear hPX
      gi_region
      all_goals
        gi_wp2
        exact HPX.out
    · have hOB : ofB (s.extract x.1.1 x.1.2) = true := by unfold ofB; simp; exact h0
      have hlx : (ptN s x) < 64 := ofS_lt _
      have HC := Lib.hid (show ofS (s.extract x.1.1 x.1.2) = ptN s x from rfl)
      have HB := Lib.hid hOB
      obtain ⟨c, hc⟩ : ∃ c, ptN s x = c := ⟨_, rfl⟩
      have HN0 := Lib.hid h0
      rw [hc] at HC hlx
      have HCC := Lib.hid hc
      clear h0 hOB hat hc
      obtain ⟨m, hm⟩ : ∃ m, acc.length = m := ⟨_, rfl⟩
      have hWs : w.heap.size + 7 ≤ W.heap.size := hsW
      obtain ⟨a0, a1, a2, ⟨v, a3, a4⟩, aB⟩ := id hP
      rw [hm] at a4
      by_cases h4 : m = 4
      · have HX := Lib.hid (show ptN s x = 0 ∨ acc.length = 4 from .inr (by rw [hm, h4]))
        subst h4
        rcases a4.2 with ⟨_, hno⟩ | ⟨g, cap, cur, rfl, _⟩
        · omega
        gi_wp2_with (gi_at_call 70; refine (CallsIn.inRound l (callsIn_wide.2 (of_at _ het c true HC.out HB.out W))).mono ?_; rintro e W2 ⟨rfl, hb2⟩; have d3 := (show Boxed W2 _ _ _ from (hb2.block _ a3.lt).trans a3).cell)
        have hP2 := hP.below hb2
        obtain ⟨b0, b1, b2, ⟨v, b3, b4⟩, hB2⟩ := id hP2
        have c0 := b0.cell
        have f0 := b0.frozen
        have c1 := b1.cell
        have f1 := b1.frozen
        have c2 := b2.cell
        have f2 := b2.frozen
        have hPX := PX.mk' hacc HX.out hP2 (keepsFrom_below hb2)
        rw [← hsz] at hPX
        have HPX := Lib.hid hPX
        clear hPX
        gi_region
        all_goals
          gi_wp2
          exact HPX.out
      · have HST := Lib.hid (show pSt s (pre ++ [x]) = some (acc ++ [c]) by rw [pSt_snoc, hacc, pStep_yes HN0.out (show acc.length ≠ 4 by omega), HCC.out])
        have HAT := Lib.hid (atN_snoc pre x)
        have hm4 : m ≤ 4 := by omega
        have b4 : ((m : Int) == 4) = false := beq_eq_false_iff_ne.2 (by omega)
        have HM := Lib.hid hm
        obtain ⟨q, hq⟩ : ∃ q, atN pre = q := ⟨_, rfl⟩
        rw [hq] at hP a1 hat2 HAT
        obtain ⟨z, hz⟩ : ∃ z, (s.extract x.1.1 x.1.2).size = z := ⟨_, rfl⟩
        have HZ := Lib.hid (show z = x.1.2 - x.1.1 by rw [← hz]; exact hes)
        have hz7 : z ≤ 70000 := by omega
        clear hm hes hq h4 hlen
        rcases a4.2 with ⟨rfl, -⟩ | ⟨g, cap, cur, rfl, -⟩
        all_goals
          gi_wp2_with (first
            | (gi_at_call 70; refine (CallsIn.inRound l (callsIn_wide.2 (of_at _ het c true HC.out HB.out W))).mono ?_; rintro e W2 ⟨rfl, hb2⟩; have hP2 := hP.below hb2; have d3 := (show Boxed W2 _ _ _ from (hb2.block _ a3.lt).trans a3); have d4 := own_below a4 hb2; have hc3 := d3.cell; have hsz2 := hb2.size)
            | (gi_at_builtin; refine wpListIn_append_own _ rfl _ _ 51 rfl (w.heap.size + 7) 5 i0 (.int .u8 0) 1 1 Tryz.underlying51 hi hz0 hz1 hz2 rfl (by decide) _ _ _ rfl (d4.alloc _) ⟨W2.heap.size, 0, none⟩ 1 1 [.int .u8 (c : Int)] rfl rfl (cell_one_new _ _ _) (by simp [Value.oneCell']) (by unfold maxLen; omega) (by omega) (by simp; omega) ?_; intro v' w1 hown' hgrow _; obtain ⟨g', cap', rfl⟩ := ownsRow_succ hown'; have hS := hP2.step (m := atN (pre ++ [x])) HM.out d3 d4 (by omega) hown' hgrow; have e3 := hS.1.cell; have e4 := hS.1.frozen; have e1 := hS.2.1.cell; have e2 := hS.2.1.frozen))
          obtain ⟨p1, p2, p3⟩ := hS.2.2 ((q : Int) + ((z : Int) + 1)) (by rw [HAT.out, ← HZ.out]; omega)
          exact ⟨by rw [hsz]; exact (keepsFrom_below hb2).trans p3, (keepB_below hb2 (by omega)).trans p2, _, HST.out, p1, Nat.le_trans hsW (Nat.le_trans hsz2 p3.size)⟩
  case done =>
    rintro D ys W hD rfl ⟨acc, hacc, hP, hsW⟩ hK
    obtain ⟨r1, r2, r3⟩ := parse_ok s acc hacc
    have R1 := Lib.hid r1.symm
    have R2 := Lib.hid (show (0 : Int) = ((parseAt s : Nat) : Int) by rw [r2]; rfl)
    have R3 := Lib.hid r3.symm
    have hlen := pSt_le hacc
    obtain ⟨a0, a1, a2, ⟨v, a3, a4⟩, aB⟩ := id hP
    have hl256 : ∀ x ∈ acc, x < 256 := fun x hx => Nat.lt_trans (hlen.2 x hx) (by decide)
    have HL := Lib.hid hl256
    clear r1 r2 r3 hl256
    have c0 := a0.cell
    have f0 := a0.frozen
    have c1 := a1.cell
    have f1 := a1.frozen
    have c2 := a2.cell
    have f2 := a2.frozen
    have c3 := a3.cell
    rcases a4.2 with ⟨rfl, -⟩ | ⟨g, cap, cur, rfl, -⟩
    all_goals
      have hback := back_of_row acc HL.out a4
      gi_wp2
      have hK' := (((KeepsOthers.setCell W ⟨w.heap.size, 0, none⟩ (.string (bytesOf acc))).trans (KeepsOthers.setCell _ ⟨w.heap.size + 1, 0, none⟩ (.int .i64 0))).trans (KeepsOthers.setCell _ ⟨w.heap.size + 1 + 1, 0, none⟩ (.int .i64 0))).same D _ hK rfl
      refine ⟨by simp, .inl ⟨_, _, rfl, run_takeDeferred hK', ?_⟩⟩
      have k0 := cell_kept (((a0.set (.string (bytesOf acc))).other (B' := w.heap.size + 1) (by omega) (.int .i64 0)).other (B' := w.heap.size + 1 + 1) (by omega) (.int .i64 0)).cell (grownBy_putObj' _ D (.deferred none)) (fun r e => by cases e; exact ⟨_, hK', rfl⟩)
      have k1 := cell_kept (((a1.other (B' := w.heap.size) (by omega) (.string (bytesOf acc))).set (.int .i64 0)).other (B' := w.heap.size + 1 + 1) (by omega) (.int .i64 0)).cell (grownBy_putObj' _ D (.deferred none)) (fun r e => by cases e; exact ⟨_, hK', rfl⟩)
      have k2 := cell_kept (((a2.other (B' := w.heap.size) (by omega) (.string (bytesOf acc))).other (B' := w.heap.size + 1) (by omega) (.int .i64 0)).set (.int .i64 0)).cell (grownBy_putObj' _ D (.deferred none)) (fun r e => by cases e; exact ⟨_, hK', rfl⟩)
      refine ⟨.tuple #[.string (bytesOf acc), .int .i64 0, .int .i64 0], ?_, ret_sie R1.out R2.out R3.out, ?_⟩
      · simp [results, Tryz.f47, go_sem, k0, k1, k2]
      · exact (((aB.setCell (p := ⟨w.heap.size, 0, none⟩) (Nat.le_refl _) _).setCell (p := ⟨w.heap.size + 1, 0, none⟩) (by show w.heap.size ≤ w.heap.size + 1; omega) _).setCell (p := ⟨w.heap.size + 1 + 1, 0, none⟩) (by show w.heap.size ≤ w.heap.size + 1 + 1; omega) _).trans (belowK_b (w := w) (Nat.le_refl _) _ D _ _ (by omega) hK' rfl rfl)
  case stop =>
    rintro D pre W hD hpre ⟨⟨p, x, acc, rfl, hacc, hx, a1⟩, a0, a2, aB⟩ hK
    obtain ⟨r1, r2, r3⟩ := parse_fail s p x acc hacc hx hpre
    have R1 := Lib.hid (show ({ data := #[] } : ByteArray) = parseV s from r1.symm)
    have R2 := Lib.hid (show ((atN p : Nat) : Int) = ((parseAt s : Nat) : Int) by rw [r2])
    have R3 := Lib.hid r3.symm
    clear r1 r2 r3 hx
    gi_wp2
    refine ⟨by simp, .inl ⟨_, _, rfl, run_takeDeferred hK, ?_⟩⟩
    have k0 := cell_kept a0.cell (grownBy_putObj' _ D (.deferred none)) (fun r e => by cases e; exact ⟨_, hK, rfl⟩)
    have k1 := cell_kept a1.cell (grownBy_putObj' _ D (.deferred none)) (fun r e => by cases e; exact ⟨_, hK, rfl⟩)
    have k2 := cell_kept a2.cell (grownBy_putObj' _ D (.deferred none)) (fun r e => by cases e; exact ⟨_, hK, rfl⟩)
    refine ⟨.tuple #[.string { data := #[] }, .int .i64 ((atN p : Nat) : Int), .int .i64 2], ?_, ret_sie R1.out R2.out R3.out, aB.trans (belowK_b (w := w) (Nat.le_refl _) W D _ _ (by omega) hK rfl rfl)⟩
    simp [results, Tryz.f47, go_sem, k0, k1, k2]
end Go.Proofs.YtkhfingenjlpfaaGreatDoor.Ce
