/-
  The landed tree's parser in memory: text, open, close.
-/
import Derived.Test.YtbldloniijmchaaDoorTsJ
import Derived.Test.YtbldloniijmchaaDoorTrA
namespace Go.Proofs.YtbldloniijmchaaDoor.Tr
open Go.RowKit

/-- Block P holds the parser: the open nodes, the tree, the place. -/
structure PaM (w : World) (N P M n L : Nat) (o : St) (t : List Nd) (z : Int) : Prop where
  op : OpM w N P M n L o
  tr : ∃ v, w.cell? ⟨P, 5, none⟩ = some v ∧ w.ownsRow N 29 4 v t.length (Ba.rows cN t) ∧ v.ownBlock ≠ some L ∧ v.ownBlock ≠ some P ∧ v.ownBlock ≠ some M
  pl : w.cell? ⟨P, 6, none⟩ = some (.int .i64 z)
/-- Block S is none that the parser writes. -/
def Away (S : Nat) (w : World) (P L : Nat) : Prop := S < w.heap.size ∧ S ≠ P ∧ S ≠ L ∧ ∀ v, w.cell? ⟨P, 5, none⟩ = some v → v.ownBlock ≠ some S
/-- What is below N stays, and what the parser doesn't write. -/
structure Moved (N P L L' : Nat) (w w' : World) : Prop where
  below : Below N w w'
  away : ∀ S, Away S w P L → w'.heap[S]? = w.heap[S]? ∧ Away S w' P L'
theorem Moved.trans {N P L L' L'' : Nat} {a b c : World} (h : Moved N P L L' a b) (k : Moved N P L' L'' b c) : Moved N P L L'' a c :=
  ⟨h.below.trans k.below, fun S hS => by
    obtain ⟨h1, h2⟩ := h.away S hS
    obtain ⟨k1, k2⟩ := k.away S h2
    exact ⟨k1.trans h1, k2⟩⟩
theorem Moved.heap {N P L : Nat} {w w' : World} (hh : w'.heap = w.heap) (h1 : w'.os = w.os) (h2 : w'.tape = w.tape) (h3 : w'.output = w.output) : Moved N P L L w w' :=
  ⟨⟨h1, h2, h3, by rw [hh]; exact Nat.le_refl _, fun k _ => by rw [hh]⟩, fun S ⟨a, b, c, d⟩ => ⟨by rw [hh], by rw [hh]; exact a, b, c, fun v hv => d v ((World.cell?_of_block (by rw [hh])).symm.trans hv)⟩⟩
theorem OpM.leN {w : World} {N P M n L : Nat} {o : St} (h : OpM w N P M n L o) : N ≤ w.heap.size := by have := h.ltL; omega
theorem row_next {w w' : World} {N P L e s k : Nat} {v : Value} {xs : List Value} (h : w.ownsRow N e s v k xs) (hf : Fr P L w w') (h1 : v.ownBlock ≠ some L) (h2 : v.ownBlock ≠ some P) : w'.ownsRow N e s v k xs := by
  refine ⟨h.1, ?_⟩
  rcases h.2 with hn | ⟨g, cap, cur, rfl, hb, hg, rest⟩
  · exact .inl hn
  · exact .inr ⟨g, cap, cur, rfl, hb, (hf.block g (Array.getElem?_eq_some_iff.1 hg).1 (fun e => h2 (by rw [← e]; rfl)) (fun e => h1 (by rw [← e]; rfl))).trans hg, rest⟩
theorem PaM.next {w w' : World} {N P M n L L' : Nat} {o o' : St} {t : List Nd} {z : Int} (h : PaM w N P M n L o t z) (h' : OpM w' N P M n L' o') (hf : Fr P L w w') (hL : L' = L ∨ w.heap.size ≤ L') : PaM w' N P M n L' o' t z ∧ Moved N P L L' w w' := by
  obtain ⟨v, a, b, c, d, e⟩ := h.tr
  refine ⟨⟨h', ⟨v, (hf.tail 5 (by omega)).trans a, row_next b hf c d, ?_, d, e⟩, (hf.tail 6 (by omega)).trans h.pl⟩, hf.below h.op.leP h.op.ltL.2 h.op.leN, fun S ⟨s1, s2, s3, s4⟩ => ⟨hf.block S s1 s2 s3, Nat.lt_of_lt_of_le s1 hf.size, s2, by rcases hL with e' | e' <;> omega, fun v' hv' => s4 v' ((hf.tail 5 (by omega)).symm.trans hv')⟩⟩
  rcases hL with rfl | hL
  · exact c
  · intro hh
    have := (b.lt _ hh).2
    omega
theorem PaM.below {w w' : World} {N P M n L : Nat} {o : St} {t : List Nd} {z : Int} (h : PaM w N P M n L o t z) (hb : Below w.heap.size w w') : PaM w' N P M n L o t z :=
  (h.next (h.op.below hb) (Fr.of_below hb h.op.ltP) (.inl rfl)).1
/-- A node more: behind the append and the store of the slice. -/
theorem PaM.more {w1 w5 : World} {N P M n L : Nat} {o : St} {t : List Nd} {z : Int} (h : PaM w1 N P M n L o t z) {v : Value} (hv : w1.cell? ⟨P, 5, none⟩ = some v) {tmp : Obj} {gg cap k : Nat} (hk : t.length = k) (hgrow : (w1.alloc tmp).drew.grownBy w5 v.ownBlock) (x : Nd)
    (hown : w5.ownsRow N 29 4 (.slice (some ⟨gg, 0, none⟩) (k + 1) cap) (k + 1) (Ba.rows cN t ++ cN x)) (hat : v.ownBlock = some gg ∨ gg = w1.heap.size + 1) :
    PaM (w5.setCell ⟨P, 5, none⟩ (.slice (some ⟨gg, 0, none⟩) (k + 1) cap)) N P M n L o (t ++ [x]) z ∧ Moved N P L L w1 (w5.setCell ⟨P, 5, none⟩ (.slice (some ⟨gg, 0, none⟩) (k + 1) cap)) ∧
      ∀ q, q < w1.heap.size → q ≠ P → v.ownBlock ≠ some q → (w5.setCell ⟨P, 5, none⟩ (.slice (some ⟨gg, 0, none⟩) (k + 1) cap)).heap[q]? = w1.heap[q]? := by
  subst hk
  obtain ⟨v', a, b, c, d, e⟩ := h.tr
  rw [hv] at a
  cases a
  have hP := h.op.ltP
  have hL := h.op.ltL
  have hM := h.op.map.lt
  have hgg : v.ownBlock = some gg ∨ w1.heap.size ≤ gg := hat.imp id (fun e => by omega)
  have hnP : gg ≠ P := by rcases hgg with e' | e'; exact (fun e'' => d (by rw [e', e''])); omega
  have hnL : gg ≠ L := by rcases hgg with e' | e'; exact (fun e'' => c (by rw [e', e''])); omega
  have hnM : gg ≠ M := by rcases hgg with e' | e'; exact (fun e'' => e (by rw [e', e''])); omega
  have hsz : w1.heap.size ≤ w5.heap.size := Nat.le_trans (by show w1.heap.size ≤ (w1.alloc tmp).heap.size; simp) hgrow.size
  have hblk : ∀ q, q < w1.heap.size → v.ownBlock ≠ some q → w5.heap[q]? = w1.heap[q]? := fun q hq hne =>
    (hgrow.block q (by show q < (w1.alloc tmp).heap.size; simp; omega) (fun e' => hne e'.symm)).trans (Below.heap_alloc w1 tmp q hq)
  have hs : ∀ q, q ≠ P → (w5.setCell ⟨P, 5, none⟩ (.slice (some ⟨gg, 0, none⟩) (t.length + 1) cap)).heap[q]? = w5.heap[q]? := fun q hq => Below.heap_setCell _ _ _ _ hq
  have hPb : w5.heap[P]? = w1.heap[P]? := hblk P hP d
  have hc5 : ∀ q, w5.cell? ⟨P, q, none⟩ = w1.cell? ⟨P, q, none⟩ := fun q => World.cell?_of_block (w := w1) hPb
  have hc : ∀ q, q ≠ 5 → (w5.setCell ⟨P, 5, none⟩ (.slice (some ⟨gg, 0, none⟩) (t.length + 1) cap)).cell? ⟨P, q, none⟩ = w1.cell? ⟨P, q, none⟩ := fun q hq =>
    (World.cell?_setCell_other _ _ _ _ (fun e => by injection e with _ e _; omega)).trans (hc5 q)
  have hall : ∀ q, q < w1.heap.size → q ≠ P → v.ownBlock ≠ some q → (w5.setCell ⟨P, 5, none⟩ (.slice (some ⟨gg, 0, none⟩) (t.length + 1) cap)).heap[q]? = w1.heap[q]? := fun q h1 h2 h3 => (hs q h2).trans (hblk q h1 h3)
  have hN := h.op.leN
  have hLP := h.op.leP
  refine ⟨⟨?_, ⟨.slice (some ⟨gg, 0, none⟩) (t.length + 1) cap, World.cell?_setCell_same' _ _ _ (by rw [hc5, hv]; rfl), ?_, ?_, ?_, ?_⟩, (hc 6 (by omega)).trans h.pl⟩,
    ⟨⟨hgrow.os, hgrow.tape, hgrow.output, Nat.le_trans hsz (KeepsOthers.setCell w5 _ _).size, fun q hq => hall q (by omega) (by omega) (fun e' => by have := (b.lt q e').1; omega)⟩, fun S ⟨s1, s2, s3, s4⟩ => ⟨hall S s1 s2 (s4 v hv), Nat.lt_of_lt_of_le s1 (Nat.le_trans hsz (KeepsOthers.setCell w5 _ _).size), s2, s3, fun v' hv' => ?_⟩⟩, hall⟩
  · obtain ⟨cp, r1, r2, r3⟩ := h.op.row
    refine ⟨(hc 0 (by omega)).trans h.op.c0, ⟨cp, (hc 1 (by omega)).trans r1, r2, ?_⟩, (hc 2 (by omega)).trans h.op.c2, (hc 3 (by omega)).trans h.op.c3, (hc 4 (by omega)).trans h.op.c4, fun i => ?_, h.op.map.of_block (hall M hM h.op.neMP e), h.op.pos, h.op.head, h.op.small, h.op.leP, h.op.neLP, h.op.neLM, h.op.neMP⟩
    · rcases r3 with ⟨hv', _⟩ | ⟨g, cp', cur, hv', hg1, hg, rest⟩
      · cases hv'
      · have e0 := hv'
        injection hv' with e1 _ _
        injection e1 with e1
        injection e1 with e1 _ _
        subst e1
        exact .inr ⟨L, cp', cur, e0, hg1, (hall L hL.1 h.op.neLP c).trans hg, rest⟩
    · rw [World.frozen?_setCell]
      exact (World.frozen?_of_block (w := w1) hPb).trans (h.op.fz i)
  · rw [List.length_append, Ba.rows_snoc]
    exact Ba.own_far hown _ (fun e => hnP (by simpa [Value.ownBlock] using e))
  · exact fun e' => hnL (by simpa [Value.ownBlock] using e')
  · exact fun e' => hnP (by simpa [Value.ownBlock] using e')
  · exact fun e' => hnM (by simpa [Value.ownBlock] using e')
  · rw [World.cell?_setCell_same' _ _ _ (by rw [hc5, hv]; rfl)] at hv'
    cases hv'
    intro e'
    have e2 : gg = S := by simpa [Value.ownBlock] using e'
    subst e2
    rcases hgg with e3 | e3
    · exact s4 v hv e3
    · omega
theorem PaM.moved {w w' : World} {N P M n L : Nat} {o : St} {t : List Nd} {z : Int} (h : PaM w N P M n L o t z) (hb : Below w.heap.size w w') : Moved N P L L w w' :=
  (h.next (h.op.below hb) (Fr.of_below hb h.op.ltP) (.inl rfl)).2
theorem infoNode4 : (Tryd.prog.info? 29).map (fun i => (i.zero, i.size, i.bytes)) = some (some (.agg #[.int .u8 0, .string { data := #[] }, .int .i64 0, .int .i64 0]), 4, 40) := by kernel_rfl
/-- The variable of a part that is read. -/
structure BoxX (W : World) (g : Nat) (x : Lx.Lx) : Prop where
  k0 : W.cell? ⟨g, 0, none⟩ = some (.int .i64 ((x.kind : Nat) : Int))
  k1 : W.cell? ⟨g, 1, none⟩ = some (.int .u8 ((x.name : Nat) : Int))
  k2 : W.cell? ⟨g, 2, none⟩ = some (.string x.text)
  k3 : W.cell? ⟨g, 3, none⟩ = some (.int .i64 ((x.place : Nat) : Int))
theorem BoxX.of_block {W W' : World} {g : Nat} {x : Lx.Lx} (h : BoxX W g x) (hb : W'.heap[g]? = W.heap[g]?) : BoxX W' g x := by
  have e : ∀ i, W'.cell? ⟨g, i, none⟩ = W.cell? ⟨g, i, none⟩ := fun i => World.cell?_of_block (w := W) hb
  exact ⟨(e _).trans h.k0, (e _).trans h.k1, (e _).trans h.k2, (e _).trans h.k3⟩
theorem BoxX.new (W : World) (x : Lx.Lx) (t : TypeId) : BoxX (W.alloc (.cells #[.int .i64 ((x.kind : Nat) : Int), .int .u8 ((x.name : Nat) : Int), .string x.text, .int .i64 ((x.place : Nat) : Int)] t)) W.heap.size x := by
  constructor <;> simp
end Go.Proofs.YtbldloniijmchaaDoor.Tr
