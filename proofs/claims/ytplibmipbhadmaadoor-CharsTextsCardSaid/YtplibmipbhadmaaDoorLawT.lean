/-
  styluslaw01.CharsTexts answers true for any text.
-/
import Derived.Test.YtplibmipbhadmaaDoorChG
import Derived.Test.YtplibmipbhadmaaDoorChS
namespace Go.Proofs.YtplibmipbhadmaaDoor
open Go.RowKit Go.Shelf

theorem cellsT_at (s : ByteArray) : ∀ (l : List (Nat × Nat)) (k : Nat) (x : Nat × Nat), l[k]? = some x →
    (cellsT s l)[k * 2]? = some (.int .i64 ((x.1 : Nat) : Int)) ∧ (cellsT s l)[k * 2 + 1]? = some (.string (s.extract x.1 x.2))
  | [], k, x, h => by simp at h
  | y :: l, 0, x, h => by
    simp at h; subst h
    simp [cellsT]
  | y :: l, k + 1, x, h => by
    have := cellsT_at s l k x (by simpa using h)
    have e : cellsT s (y :: l) = [.int .i64 ((y.1 : Nat) : Int), .string (s.extract y.1 y.2)] ++ cellsT s l := by simp [cellsT]
    rw [e, show (k + 1) * 2 = k * 2 + 2 from by omega, show k * 2 + 2 + 1 = k * 2 + 1 + 2 from by omega]
    exact this
theorem HoldsRuns.of_ownT {w : World} {base : Nat} {v : Value} {s : ByteArray} {l : List (Nat × Nat)} (h : w.ownsRow base 36 2 v l.length (cellsT s l)) : HoldsRuns w w.heap.size v (txts s l) := by
  have hl : (txts s l).length = l.length := by simp [txts]
  rcases h.2 with ⟨rfl, h0⟩ | ⟨g, cap, cur, rfl, _, hg, _⟩
  · exact ⟨none, 0, by rw [hl, h0], fun h => by omega⟩
  · refine ⟨some ⟨g, 0, none⟩, cap, by rw [hl], fun h0 => ⟨g, rfl, (Array.getElem?_eq_some_iff.1 hg).1, fun k p hp => ?_⟩⟩
    have hk : k < l.length := by rw [← hl]; exact (List.getElem?_eq_some_iff.1 hp).1
    have hx : l[k]? = some l[k] := List.getElem?_eq_getElem hk
    have hp' : p = (l[k].1, s.extract l[k].1 l[k].2) := by
      simp only [txts, List.getElem?_map, hx, Option.map_some, Option.some.injEq] at hp
      exact hp.symm
    subst hp'
    have hc := cellsT_at s l k _ hx
    exact ⟨(h.cellAt (k * 2) (by omega)).trans hc.1, (h.cellAt (k * 2 + 1) (by omega)).trans hc.2⟩

set_option maxRecDepth 100000 in
set_option maxHeartbeats 4000000 in
theorem charsTexts_any (s : ByteArray) (hm : s.size ≤ maxLen) (w : World) (hL : Laid w) :
    Calls Tryd.prog 4 #[.string s] w fun e w' => e = .returned (.bool true) ∧ Below w.heap.size w w' := by
  unfold maxLen at hm
  by_cases hs : s.size ≤ 2000
  · go_enter Tryd.func4, Tryd.ntmps4
    go_wp2_with fail
    refine (runs_any s hs w hL).mono ?_
    rintro e w1 ⟨v, rfl, hown, hb1⟩
    have hH := HoldsRuns.of_own rfl hown
    rw [runsA_val] at hH
    have hL1 := hL.below hb1 hL.1
    clear hown
    go_wp2_with fail
    refine (low_any s hs w1 hL1).mono ?_
    rintro e w2 ⟨rfl, hb2⟩
    have hL2 := hL1.below hb2 hL1.1
    go_wp2_with fail
    refine (rlow_any s hs w2).mono ?_
    rintro e w3 ⟨rfl, hb3⟩
    have HB3 := hb2.trans (hb3.mono hb2.size)
    have hL3 := hL2.below hb3 hL2.1
    clear hL2 hb2 hb3
    go_wp2_with fail
    refine (case_any s hs w3 hL3).mono ?_
    rintro e w4 ⟨rfl, hb4⟩
    have HB4 := HB3.trans (hb4.mono HB3.size)
    have hL4 := hL3.below hb4 hL3.1
    clear hL3 hb4 HB3
    go_wp2_with fail
    refine (rcase_any s hs w4).mono ?_
    rintro e w' ⟨rfl, rfl⟩
    go_wp2_with fail
    refine (rruns_any s hs w4).mono ?_
    rintro e w5 ⟨u, rfl, hown, hb5⟩
    have hU := HoldsRuns.of_ownT hown
    clear hown
    have HB5 := HB4.trans (hb5.mono HB4.size)
    have hL5 := hL4.below hb5 hL4.1
    clear hL4 hb5 HB4
    have hH5 := hH.below HB5
    have hlen : (txts s (runsFrom s 0)).length ≤ 4000 := by
      have := runsL_len s; unfold runsL at this
      have h2 : (txts s (runsFrom s 0)).length = (runsFrom s 0).length := by simp [txts]
      omega
    go_wp2_with fail
    refine (same_any v u _ hlen w5 _ _ hH5 hU).mono ?_
    rintro e w' ⟨rfl, n, rfl⟩
    have HB6 := below_drewN HB5 n
    have hL6 : Laid (w5.drewN n) := hL5
    go_wp2_with fail
    refine (awake_any _ hL6).mono ?_
    rintro e w7 ⟨rfl, hb7⟩
    go_wp2
    go_ret
    exact ⟨rfl, (hb1.trans (HB6.mono hb1.size)).trans (hb7.mono (Nat.le_trans hb1.size HB6.size))⟩
  · have hs' : 2000 < s.size := by omega
    go_enter Tryd.func4, Tryd.ntmps4
    go_wp2_with (go_at_call 20; refine (awake_any _ hL).mono ?_; rintro e w' ⟨rfl, hb⟩)
    go_ret
    exact ⟨rfl, hb⟩
end Go.Proofs.YtplibmipbhadmaaDoor
