/-
  A row of rules that comes in, opened.
-/
import Derived.Test.YtjflefchhbihkaaGreatDoorRuC
import Derived.Deep.Slices
import Derived.Deep.Strs
import Derived.Lib.SmallJoins
import Derived.ProofKit
import Derived.OpenShut
import Derived.WideKeyArgs
namespace Go.Proofs.YtjflefchhbihkaaGreatDoor.Ru
open Go.ChangeShapes Go.WideShapes Go.ChangeAt Go.RowKit Go.Deep Go.Joins Ba

theorem bytesN_small (s : ByteArray) : ∀ b ∈ bytesN s, b < 256 := fun b hb => by
  unfold bytesN at hb
  obtain ⟨x, _, rfl⟩ := List.mem_map.1 hb
  exact UInt8.toNat_lt x
section
variable {H : Type} {enc : TypeId × Value → H} {W : World} {base : Nat} {spare : Nat → Bool} {held : Bool}
theorem trod_struct5 {P : Program} {t : TypeId} {f0 f1 f2 f3 f4 : Field} {fuel : Nat} {cs : List Value} {x : DataW H × List MemPlace} (ht : P.underlying t = some (.struct #[f0, f1, f2, f3, f4])) (h : DataW.trod enc P W base spare held fuel t cs = some x) :
    ∃ y0 y1 y2 y3 y4 n, cs.length = P.cellsOf t ∧ DataW.trod enc P W base spare held n f0.type ((cs.drop f0.offset).take (P.cellsOf f0.type)) = some y0 ∧
      DataW.trod enc P W base spare held n f1.type ((cs.drop f1.offset).take (P.cellsOf f1.type)) = some y1 ∧ DataW.trod enc P W base spare held n f2.type ((cs.drop f2.offset).take (P.cellsOf f2.type)) = some y2 ∧
      DataW.trod enc P W base spare held n f3.type ((cs.drop f3.offset).take (P.cellsOf f3.type)) = some y3 ∧ DataW.trod enc P W base spare held n f4.type ((cs.drop f4.offset).take (P.cellsOf f4.type)) = some y4 := by
  obtain ⟨xs, n, _, rfl, hl, hlen, hf⟩ := DataW.trod_struct ht h
  match xs, hlen with
  | [y0, y1, y2, y3, y4], _ => exact ⟨y0, y1, y2, y3, y4, n, hl, by simpa using hf 0 f0 rfl, by simpa using hf 1 f1 rfl, by simpa using hf 2 f2 rfl, by simpa using hf 3 f3 rfl, by simpa using hf 4 f4 rfl⟩
set_option maxRecDepth 100000 in
theorem open_rule {fuel : Nat} {cs : List Value} {x : DataW H × List MemPlace} (h : DataW.trod enc Tryz.prog W base spare held fuel 58 cs = some x) :
    ∃ y : Rl, FitR y ∧ cs = cR y := by
  obtain ⟨y0, y1, y2, y3, y4, n, hl, h0, h1, h2, h3, h4⟩ := trod_struct5 Tryz.underlying58 h
  have hc : Tryz.prog.cellsOf 58 = 5 := by kernel_rfl
  rw [hc] at hl
  match cs, hl with
  | [c0, c1, c2, c3, c4], _ =>
    obtain ⟨k, e0, -, w0⟩ := DataW.trod_int Tryz.underlying3 h0
    obtain ⟨s, e1, -, w1⟩ := DataW.trod_string Tryz.underlying9 h1
    obtain ⟨t, e2, -, w2⟩ := DataW.trod_string Tryz.underlying9 h2
    obtain ⟨p, e3, -, w3⟩ := DataW.trod_int Tryz.underlying3 h3
    obtain ⟨z, e4, -, w4⟩ := DataW.trod_int Tryz.underlying3 h4
    have hs1 : Tryz.prog.cellsOf 9 = 1 := by kernel_rfl
    have hi1 : Tryz.prog.cellsOf 3 = 1 := by kernel_rfl
    simp [hi1] at e0 e3 e4
    simp [hs1] at e1 e2
    subst e0; subst e1; subst e2; subst e3; subst e4
    refine ⟨⟨k, bytesN s, bytesN t, p, z⟩, ⟨bounds_i64 w0, bounds_i64 w3, bounds_i64 w4, bytesN_small s, bytesN_small t, by rw [bytesN_len]; exact w1, by rw [bytesN_len]; exact w2⟩, ?_⟩
    show _ = [Value.int .i64 k, .string (bytesOf (bytesN s)), .string (bytesOf (bytesN t)), .int .i64 p, .int .i64 z]
    rw [bytesOf_bytesN, bytesOf_bytesN]
set_option maxRecDepth 100000 in
theorem open_rules {r : Reach} {b0 : Nat} {v : Value} {d : DataW H} {p : List MemPlace} (hval : Value.okWide Tryz.prog W r b0 22 v) (h : DataW.Trod enc Tryz.prog W base spare held 22 v d p) :
    ∃ (t : List Rl) (A : Option Addr) (off c : Nat), v = .slice A t.length c ∧ t.length ≤ c ∧ c ≤ maxLen ∧ (∀ x ∈ t, FitR x) ∧ ReadsR off W W.heap.size (.slice A t.length c) t := by
  obtain ⟨a0, len, cap, rfl⟩ := okWide_slice Tryz.underlying22 hval
  obtain ⟨fuel, hf⟩ := h
  rcases open_slice Tryz.underlying22 hf with ⟨hcs, -⟩ | ⟨a, l, c, m, n, D, Pl, hcs, -, hl, hc, hm, -, hi⟩
  · cases hcs
    exact ⟨[], none, 0, 0, rfl, Nat.le_refl _, Nat.zero_le _, (fun x hx => by cases hx), Ba.Reads.nil _ _ _⟩
  · cases hcs
    have hle : len ≤ m := by rw [hm]; split <;> omega
    have h4 : Tryz.prog.cellsOf 58 = 5 := by kernel_rfl
    have one : ∀ i, i < len → ∃ y : Rl, FitR y ∧ ∀ j u, (cR y)[j]? = some u → W.cell? (a.add (i * 5 + j)) = some u := by
      intro i hil
      obtain ⟨cs', hcs', ht'⟩ := hi i (by omega)
      obtain ⟨y, hy, rfl⟩ := open_rule ht'
      refine ⟨y, hy, fun j u hu => ?_⟩
      rw [h4] at hcs'
      obtain ⟨-, hlen, hat⟩ := World.cells?_some hcs'
      have hj : j < 5 := by rw [← hlen]; exact (List.getElem?_eq_some_iff.1 hu).1
      rw [← Go.Deep.add_add, hat j hj]
      exact hu
    obtain ⟨f, hfx⟩ : ∃ f : Nat → Rl, ∀ i, i < len → FitR (f i) ∧ ∀ j u, (cR (f i))[j]? = some u → W.cell? (a.add (i * 5 + j)) = some u :=
      ⟨fun i => if h : i < len then Classical.choose (one i h) else ⟨0, [], [], 0, 0⟩, fun i h => by
        have := Classical.choose_spec (one i h)
        simpa only [h, dite_true] using this⟩
    have hlen : ((List.range len).map f).length = len := by simp
    obtain ⟨g, off, spot⟩ := a
    refine ⟨(List.range len).map f, some ⟨g, off, spot⟩, off, cap, by rw [hlen], by rw [hlen]; exact hl, hc, fun x hx => ?_, ⟨some ⟨g, off, spot⟩, cap, rfl, fun h0 => ?_⟩⟩
    · obtain ⟨i, hi', rfl⟩ := List.mem_map.1 hx
      exact (hfx i (List.mem_range.1 hi')).1
    · rw [hlen] at h0
      have hc0 := (hfx 0 h0).2 0 _ rfl
      have hs : spot = none := by simpa [Addr.add] using World.cell?_spot hc0
      subst hs
      refine ⟨g, rfl, ?_, fun k x hx j u hu => ?_⟩
      · exact World.block_lt_of_cell? _ _ hc0
      · rw [List.getElem?_map] at hx
        obtain ⟨i, hi', rfl⟩ := Option.map_eq_some_iff.1 hx
        have hkl : k < len := by
          have := (List.getElem?_eq_some_iff.1 hi').1
          simpa using this
        have : i = k := by rw [List.getElem?_range hkl] at hi'; exact (Option.some.inj hi').symm
        subst this
        have e : ∀ n, (⟨g, off, none⟩ : Addr).add n = ⟨g, off + n, none⟩ := fun n => by unfold Addr.add; split <;> simp_all
        have := (hfx i hkl).2 j u hu
        rw [e] at this
        exact this
end
/-- What came in reads as it did. -/
theorem staysR {H : Type} {enc : TypeId × Value → H} {t : TypeId} (hr : Tryz.prog.readableRec t = true) (hrow : t < Tryz.prog.types.size) {W W' : World} {base : Nat} {sp' : Nat → Bool} {v : Value} {d : DataW H} {ps : List MemPlace}
    (h : DataW.Trod enc Tryz.prog W base (fun _ => true) true t v d ps) (hb : Below W.heap.size W W') (hlt : ∀ p ∈ ps, p.block < W.heap.size) (hs : ∀ p ∈ ps, sp' p.block = true) : DataW.Trod enc Tryz.prog W' base sp' true t v d ps :=
  WideElems.Trod_stays (by kernel_rfl) hr hrow h (fun p hp => by
    have := hlt p hp
    cases p with
    | cell b off => exact World.cell?_of_block (w := W) (a := ⟨b, off, none⟩) (hb.block b this)
    | map b => exact hb.block b this) hs
end Go.Proofs.YtjflefchhbihkaaGreatDoor.Ru
