/-
  Rows of what is read, as the memory holds them; the document's Same.
-/
import Derived.Test.YtgdealdpphcamaaDoorLxS
import Derived.Maps.AppendAt
import Derived.OwnWalk
import Derived.Deep.QuietTactic
import Derived.BigQuiet
import Derived.BigRegion
import Derived.StillTailTactics
namespace Go.Proofs.YtgdealdpphcamaaDoor.Lx
open Go.RowKit

theorem infoLex : (Tryd.prog.info? 33).map (fun i => (i.zero, i.size, i.bytes)) = some (some (.agg #[.int .i64 0, .int .u8 0, .string { data := #[] }, .int .i64 0]), 4, 40) := by kernel_rfl
def cellsX (x : Lx) : List Value := [.int .i64 ((x.kind : Nat) : Int), .int .u8 ((x.name : Nat) : Int), .string x.text, .int .i64 ((x.place : Nat) : Int)]
def cellsLx (l : List Lx) : List Value := l.flatMap cellsX
theorem cellsLx_snoc (l : List Lx) (x : Lx) : cellsLx (l ++ [x]) = cellsLx l ++ cellsX x := by simp [cellsLx]
theorem cellsLx_length : ∀ l : List Lx, (cellsLx l).length = l.length * 4
  | [] => rfl
  | x :: l => by
    have ih := cellsLx_length l
    have e : cellsLx (x :: l) = cellsX x ++ cellsLx l := by simp [cellsLx]
    rw [e, List.length_append, ih]; simp [cellsX]; omega
theorem cellsLx_at : ∀ (l : List Lx) (k : Nat) (x : Lx), l[k]? = some x → ∀ j, j < 4 → (cellsLx l)[k * 4 + j]? = (cellsX x)[j]?
  | [], k, x, h => by simp at h
  | y :: l, 0, x, h => fun j hj => by
    simp at h; subst h
    have e : cellsLx (y :: l) = cellsX y ++ cellsLx l := by simp [cellsLx]
    rw [e, Nat.zero_mul, Nat.zero_add, List.getElem?_append_left (by simp [cellsX]; omega)]
  | y :: l, k + 1, x, h => fun j hj => by
    have e : cellsLx (y :: l) = cellsX y ++ cellsLx l := by simp [cellsLx]
    have hl : (cellsX y).length = 4 := rfl
    rw [e, List.getElem?_append_right (by rw [hl]; omega), hl, show (k + 1) * 4 + j - 4 = k * 4 + j from by omega]
    exact cellsLx_at l k x (by simpa using h) j hj
theorem cell_four_new (w : World) (x y z v : Value) (t : TypeId) : ∀ j u, [x, y, z, v][j]? = some u → (w.alloc (.cells #[x, y, z, v] t)).cell? ((⟨w.heap.size, 0, none⟩ : Addr).add j) = some u := by
  intro j u h
  have e : (⟨w.heap.size, 0, none⟩ : Addr).add j = ⟨w.heap.size, j, none⟩ := by unfold Addr.add; split <;> simp_all
  rw [e]
  match j, h with
  | 0, h => simp at h; subst h; simp
  | 1, h => simp at h; subst h; simp
  | 2, h => simp at h; subst h; simp
  | 3, h => simp at h; subst h; simp
  | n + 4, h => simp at h
/-- The slice value v holds what is read, in a block below B. -/
def Holds (w : World) (B : Nat) (v : Value) (xs : List Lx) : Prop :=
  ∃ A c, v = .slice A xs.length c ∧ (0 < xs.length → ∃ g, A = some ⟨g, 0, none⟩ ∧ g < B ∧ ∀ k x, xs[k]? = some x → w.cell? ⟨g, k * 4, none⟩ = some (.int .i64 ((x.kind : Nat) : Int)) ∧ w.cell? ⟨g, k * 4 + 1, none⟩ = some (.int .u8 ((x.name : Nat) : Int)) ∧ w.cell? ⟨g, k * 4 + 2, none⟩ = some (.string x.text) ∧ w.cell? ⟨g, k * 4 + 3, none⟩ = some (.int .i64 ((x.place : Nat) : Int)))
theorem Holds.below {w w' : World} {B : Nat} {v : Value} {xs : List Lx} (h : Holds w B v xs) (hb : Below B w w') : Holds w' B v xs := by
  obtain ⟨A, c, rfl, hA⟩ := h
  refine ⟨A, c, rfl, fun h0 => ?_⟩
  obtain ⟨g, rfl, hg, hk⟩ := hA h0
  refine ⟨g, rfl, hg, fun k x hx => ?_⟩
  obtain ⟨a1, a2, a3, a4⟩ := hk k x hx
  exact ⟨(hb.cell (p := ⟨g, k * 4, none⟩) hg).trans a1, (hb.cell (p := ⟨g, k * 4 + 1, none⟩) hg).trans a2, (hb.cell (p := ⟨g, k * 4 + 2, none⟩) hg).trans a3, (hb.cell (p := ⟨g, k * 4 + 3, none⟩) hg).trans a4⟩
theorem Holds.of_own {w : World} {base n : Nat} {v : Value} {l : List Lx} (hn : l.length = n) (h : w.ownsRow base 33 4 v n (cellsLx l)) : Holds w w.heap.size v l := by
  subst hn
  rcases h.2 with ⟨rfl, h0⟩ | ⟨g, cap, cur, rfl, _, hg, _⟩
  · exact ⟨none, 0, by rw [h0], fun h => by omega⟩
  · refine ⟨some ⟨g, 0, none⟩, cap, rfl, fun h0 => ⟨g, rfl, (Array.getElem?_eq_some_iff.1 hg).1, fun k x hx => ?_⟩⟩
    have hk : k < l.length := (List.getElem?_eq_some_iff.1 hx).1
    have hc := cellsLx_at l k x hx
    have c0 := hc 0 (by omega)
    rw [Nat.add_zero] at c0
    exact ⟨(h.cellAt (k * 4) (by omega)).trans c0, (h.cellAt (k * 4 + 1) (by omega)).trans (hc 1 (by omega)), (h.cellAt (k * 4 + 2) (by omega)).trans (hc 2 (by omega)), (h.cellAt (k * 4 + 3) (by omega)).trans (hc 3 (by omega))⟩

set_option maxHeartbeats 2000000 in
/-- stylusref03.Same, of two that are the same -/
theorem same_any (u v : Value) (xs : List Lx) (hl : xs.length ≤ 70000) (w : World) (B1 B2 : Nat) (hu : Holds w B1 u xs) (hv : Holds w B2 v xs) :
    Calls Tryd.prog 10 #[u, v] w fun e w' => e = .returned (.bool true) ∧ ∃ n, w' = w.drewN n := by
  obtain ⟨A, c, rfl, hA⟩ := hu
  obtain ⟨B, d, rfl, hB⟩ := hv
  have HA := Lib.hid hA; clear hA
  have HB := Lib.hid hB; clear hB
  go_enter Tryd.func10, Tryd.ntmps10
  go_wp2
  go_loopw [5] (fun i wr => ∃ (k n : Nat), k ≤ xs.length ∧ i = .int .i64 k ∧ wr = w.drewN n) (fun i _ => xs.length - (intOf i).toNat)
  case atStart => exact ⟨0, 0, by omega, rfl, rfl⟩
  case round =>
    obtain ⟨k, n, hk, rfl, rfl⟩ := hrel
    by_cases hlt : k < xs.length
    · obtain ⟨g, rfl, -, hg⟩ := HA.out (by omega)
      obtain ⟨h, rfl, -, hh⟩ := HB.out (by omega)
      obtain ⟨g1, g2, g3, g4⟩ := hg k _ (List.getElem?_eq_getElem hlt)
      obtain ⟨h1, h2, h3, h4⟩ := hh k _ (List.getElem?_eq_getElem hlt)
      clear hg hh HA HB
      go_wp2
      go_big_quiet (fail)
      go_wp2
      go_roundw
      case rel => exact ⟨k + 1, n + nq, by omega, by go_num, rfl⟩
      case measure => simp [intOf]; omega
    · go_wp2
      go_ret
      exact ⟨rfl, n, rfl⟩
end Go.Proofs.YtgdealdpphcamaaDoor.Lx
