/-
  styluslaw01.same answers true of two slices that hold the same runs.
-/
import Derived.Test.YtplibmipbhadmaaDoorChD
import Derived.Deep.QuietTactic
import Derived.BigQuiet
namespace Go.Proofs.YtplibmipbhadmaaDoor
open Go.RowKit Go.Shelf

/-- The slice value v holds the runs xs, in a block below B. -/
def HoldsRuns (w : World) (B : Nat) (v : Value) (xs : List (Nat × ByteArray)) : Prop :=
  ∃ A c, v = .slice A xs.length c ∧ (0 < xs.length → ∃ g, A = some ⟨g, 0, none⟩ ∧ g < B ∧ ∀ k p, xs[k]? = some p → w.cell? ⟨g, k * 2, none⟩ = some (.int .i64 ((p.1 : Nat) : Int)) ∧ w.cell? ⟨g, k * 2 + 1, none⟩ = some (.string p.2))
theorem HoldsRuns.below {w w' : World} {B : Nat} {v : Value} {xs : List (Nat × ByteArray)} (h : HoldsRuns w B v xs) (hb : Below B w w') : HoldsRuns w' B v xs := by
  obtain ⟨A, c, rfl, hA⟩ := h
  refine ⟨A, c, rfl, fun h0 => ?_⟩
  obtain ⟨g, rfl, hg, hk⟩ := hA h0
  exact ⟨g, rfl, hg, fun k p hp => ⟨(hb.cell (p := ⟨g, k * 2, none⟩) hg).trans (hk k p hp).1, (hb.cell (p := ⟨g, k * 2 + 1, none⟩) hg).trans (hk k p hp).2⟩⟩
theorem HoldsRuns.more {w : World} {B B' : Nat} {v : Value} {xs : List (Nat × ByteArray)} (h : HoldsRuns w B v xs) (hB : B ≤ B') : HoldsRuns w B' v xs := by
  obtain ⟨A, c, rfl, hA⟩ := h
  refine ⟨A, c, rfl, fun h0 => ?_⟩
  obtain ⟨g, rfl, hg, hk⟩ := hA h0
  exact ⟨g, rfl, by omega, hk⟩
/-- The runs' places and texts. -/
def txts (s : ByteArray) (l : List (Nat × Nat)) : List (Nat × ByteArray) := l.map fun x => (x.1, s.extract x.1 x.2)
theorem cells_at (s : ByteArray) : ∀ (l : List (Rn s)) (k : Nat) (x : Rn s), l[k]? = some x →
    (cellsR s l)[k * 2]? = some (.int .i64 ((x.1.1 : Nat) : Int)) ∧ (cellsR s l)[k * 2 + 1]? = some (.string (s.extract x.1.1 x.1.2))
  | [], k, x, h => by simp at h
  | y :: l, 0, x, h => by
    simp at h; subst h
    simp [cellsR]
  | y :: l, k + 1, x, h => by
    have := cells_at s l k x (by simpa using h)
    have e : cellsR s (y :: l) = [.int .i64 ((y.1.1 : Nat) : Int), .string (s.extract y.1.1 y.1.2)] ++ cellsR s l := by simp [cellsR]
    rw [e, show (k + 1) * 2 = k * 2 + 2 from by omega, show k * 2 + 2 + 1 = k * 2 + 1 + 2 from by omega]
    exact this
theorem HoldsRuns.of_own {w : World} {base n : Nat} {v : Value} {s : ByteArray} {l : List (Rn s)} (hn : n = l.length) (h : w.ownsRow base 36 2 v n (cellsR s l)) : HoldsRuns w w.heap.size v (txts s (l.map (·.1))) := by
  subst hn
  have hl : (txts s (l.map (·.1))).length = l.length := by simp [txts]
  rcases h.2 with ⟨rfl, h0⟩ | ⟨g, cap, cur, rfl, _, hg, _⟩
  · exact ⟨none, 0, by rw [hl, h0], fun h => by omega⟩
  · refine ⟨some ⟨g, 0, none⟩, cap, by rw [hl], fun h0 => ⟨g, rfl, (Array.getElem?_eq_some_iff.1 hg).1, fun k p hp => ?_⟩⟩
    have hk : k < l.length := by rw [← hl]; exact (List.getElem?_eq_some_iff.1 hp).1
    have hx : l[k]? = some l[k] := List.getElem?_eq_getElem hk
    have hp' : p = (l[k].1.1, s.extract l[k].1.1 l[k].1.2) := by
      simp only [txts, List.map_map, List.getElem?_map, hx, Option.map_some, Option.some.injEq] at hp
      rw [← hp]; rfl
    subst hp'
    have hc := cells_at s l k _ hx
    exact ⟨(h.cellAt (k * 2) (by omega)).trans hc.1, (h.cellAt (k * 2 + 1) (by omega)).trans hc.2⟩

set_option maxHeartbeats 1000000 in
theorem same_any (u v : Value) (xs : List (Nat × ByteArray)) (hl : xs.length ≤ 4000) (w : World) (B1 B2 : Nat) (hu : HoldsRuns w B1 u xs) (hv : HoldsRuns w B2 v xs) :
    Calls Tryd.prog 26 #[u, v] w fun e w' => e = .returned (.bool true) ∧ ∃ n, w' = w.drewN n := by
  obtain ⟨A, c, rfl, hA⟩ := hu
  obtain ⟨B, d, rfl, hB⟩ := hv
  have HA := Lib.hid hA; clear hA
  have HB := Lib.hid hB; clear hB
  go_enter Tryd.func26, Tryd.ntmps26
  go_wp2
  go_loopw [5] (fun i wr => ∃ (k n : Nat), k ≤ xs.length ∧ i = .int .i64 k ∧ wr = w.drewN n) (fun i _ => xs.length - (intOf i).toNat)
  case atStart => exact ⟨0, 0, by omega, rfl, rfl⟩
  case round =>
    obtain ⟨k, n, hk, rfl, rfl⟩ := hrel
    by_cases hlt : k < xs.length
    · obtain ⟨g, rfl, -, hg⟩ := HA.out (by omega)
      obtain ⟨h, rfl, -, hh⟩ := HB.out (by omega)
      obtain ⟨g1, g2⟩ := hg k _ (List.getElem?_eq_getElem hlt)
      obtain ⟨h1, h2⟩ := hh k _ (List.getElem?_eq_getElem hlt)
      clear hg hh HA HB
      go_wp2
      go_quiet (fail)
      go_wp2
      go_roundw
      case rel => exact ⟨k + 1, n + nq, by omega, by go_num, rfl⟩
      case measure => simp [intOf]; omega
    · go_wp2
      go_ret
      exact ⟨rfl, n, rfl⟩
end Go.Proofs.YtplibmipbhadmaaDoor
