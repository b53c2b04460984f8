/-
  The document's answer for a text's runs (stylusref01.Runs) is all of its runs.
-/
import Derived.Test.YtplibmipbhadmaaDoorChR
import Derived.Deep.QuietTactic
import Derived.BigQuiet
import Derived.BigRegion
import Derived.StillTailTactics
namespace Go.Proofs.YtplibmipbhadmaaDoor
open Go.RowKit

/-- What has come of the runs behind the first k bytes. -/
def Part (s : ByteArray) (k : Nat) (l : List (Nat × Nat)) : Prop :=
  (k = 0 ∧ l = []) ∨ ∃ pre f, l = pre ++ [(f, k)] ∧ runsFrom s 0 = pre ++ runsFrom s f ∧ f < k ∧ k ≤ s.size ∧ Alike1 s f k
theorem Part.zero (s : ByteArray) : Part s 0 [] := .inl ⟨rfl, rfl⟩
theorem Part.first {s : ByteArray} (h : 0 < s.size) : Part s 1 [(0, 1)] := .inr ⟨[], 0, rfl, rfl, by omega, by omega, Alike1.one s 0⟩
theorem Part.last {s : ByteArray} {k : Nat} {l : List (Nat × Nat)} (h : Part s (k + 1) l) : ∃ pre f, l = pre ++ [(f, k + 1)] ∧ f < k + 1 ∧ kc s k = kc s f := by
  rcases h with ⟨h, _⟩ | ⟨pre, f, h1, _, h3, _, h5⟩
  · omega
  · exact ⟨pre, f, h1, h3, h5 k (by omega) (by omega)⟩
theorem Part.same {s : ByteArray} {k f : Nat} {pre : List (Nat × Nat)} (h : Part s (k + 1) (pre ++ [(f, k + 1)])) (hk : k + 1 < s.size) (hc : kc s (k + 1) = kc s k) : Part s (k + 2) (pre ++ [(f, k + 2)]) := by
  rcases h with ⟨h, _⟩ | ⟨pre', f', h1, h2, h3, h4, h5⟩
  · omega
  · obtain ⟨rfl, h6⟩ := List.append_inj' h1 rfl
    simp only [List.cons.injEq, Prod.mk.injEq, and_true] at h6
    subst h6
    exact .inr ⟨pre, f, rfl, h2, by omega, by omega, h5.succ (hc.trans (h5 k (by omega) (by omega)))⟩
theorem Part.new {s : ByteArray} {k : Nat} {l : List (Nat × Nat)} (h : Part s (k + 1) l) (hk : k + 1 < s.size) (hc : kc s (k + 1) ≠ kc s k) : Part s (k + 2) (l ++ [(k + 1, k + 2)]) := by
  rcases h with ⟨h, _⟩ | ⟨pre, f, rfl, h2, h3, h4, h5⟩
  · omega
  · have he : nextEnd s f = k + 1 := IsEnd.unique (nextEnd_is s f (by omega)) ⟨h3, h4, h5, fun _ h => hc (h.trans (h5 k (by omega) (by omega)).symm)⟩
    refine .inr ⟨pre ++ [(f, k + 1)], k + 1, rfl, ?_, by omega, by omega, Alike1.one s (k + 1)⟩
    rw [h2, runsFrom_step s f (by omega), he]
    simp
theorem Part.all {s : ByteArray} {l : List (Nat × Nat)} (h : Part s s.size l) : l = runsFrom s 0 := by
  rcases h with ⟨h, rfl⟩ | ⟨pre, f, rfl, h2, h3, h4, h5⟩
  · exact (runsFrom_end s 0 (by omega)).symm
  · have he : nextEnd s f = s.size := IsEnd.unique (nextEnd_is s f h3) ⟨h3, h4, h5, fun h => absurd h (by omega)⟩
    rw [h2, runsFrom_step s f h3, he, runsFrom_end s s.size (Nat.le_refl _)]
theorem Part.len {s : ByteArray} {k : Nat} {l : List (Nat × Nat)} (h : Part s k l) : k = 0 ∨ 0 < l.length := by
  rcases h with ⟨h, _⟩ | ⟨pre, f, rfl, _⟩
  · exact .inl h
  · exact .inr (by simp)
/-- The runs as cells: two for each. -/
def cellsT (s : ByteArray) (l : List (Nat × Nat)) : List Value := l.flatMap fun x => [.int .i64 ((x.1 : Nat) : Int), .string (s.extract x.1 x.2)]
theorem cellsT_snoc (s : ByteArray) (l : List (Nat × Nat)) (x : Nat × Nat) : cellsT s (l ++ [x]) = cellsT s l ++ [.int .i64 ((x.1 : Nat) : Int), .string (s.extract x.1 x.2)] := by simp [cellsT]
theorem cellsT_length (s : ByteArray) : ∀ l : List (Nat × Nat), (cellsT s l).length = l.length * 2
  | [] => rfl
  | x :: l => by
    have ih := cellsT_length s l
    have e : cellsT s (x :: l) = [.int .i64 ((x.1 : Nat) : Int), .string (s.extract x.1 x.2)] ++ cellsT s l := by simp [cellsT]
    rw [e, List.length_append, ih]; simp; omega
theorem cellsT_last (s : ByteArray) (pre : List (Nat × Nat)) (f k : Nat) : (cellsT s (pre ++ [(f, k)]))[pre.length * 2 + 1]? = some (.string (s.extract f k)) := by
  rw [cellsT_snoc, List.getElem?_append_right (by rw [cellsT_length]; omega), cellsT_length]
  simp
theorem cellsT_set (s : ByteArray) (pre : List (Nat × Nat)) (f k k' : Nat) : (cellsT s (pre ++ [(f, k)])).set (pre.length * 2 + 1) (.string (s.extract f k')) = cellsT s (pre ++ [(f, k')]) := by
  rw [cellsT_snoc, cellsT_snoc, List.set_append, if_neg (by rw [cellsT_length]; omega), cellsT_length]
  simp
theorem ext_cat2 (s : ByteArray) (f e e' : Nat) (h : f ≤ e) (h' : e ≤ e') : s.extract f e ++ s.extract e e' = s.extract f e' := by
  rw [ByteArray.extract_append_extract]
  simp [Nat.min_eq_left, Nat.max_eq_right, h, h']

section
variable {W : World} {n : Nat}
theorem q_rclass (s : ByteArray) (k : Nat) (h : k < s.size) (v : Int) (hv : kc s k = v) :
    Calls Tryd.prog 8 #[.int .u8 ((s[k].toNat : Nat) : Int)] (W.drewN n) fun e w' => e = .returned (.int .i64 v) ∧ ∃ m, w' = W.drewN m := (rclass_byte s k h v hv _).mono fun _ _ ⟨he, hm⟩ => ⟨he, n, hm.symm⟩
end

set_option maxHeartbeats 4000000 in
/-- stylusref01.Runs -/
theorem rruns_any (s : ByteArray) (hs : s.size ≤ 2000) (w : World) :
    Calls Tryd.prog 27 #[.string s] w fun e w' => ∃ v, e = .returned v ∧ w'.ownsRow w.heap.size 36 2 v (runsFrom s 0).length (cellsT s (runsFrom s 0)) ∧ Below w.heap.size w w' := by
  obtain ⟨i0, hi, hz0, hz1, hz2⟩ := info_parts infoRun
  go_enter Tryd.func27, Tryd.ntmps27
  go_wp2
  go_loopw [3, 4] (fun u i wr => ∃ (v : Value) (k : Nat) (l : List (Nat × Nat)), v = u ∧ k ≤ s.size ∧ i = .int .i64 k ∧ Part s k l ∧ l.length ≤ k ∧ wr.ownsRow w.heap.size 36 2 v l.length (cellsT s l) ∧ Below w.heap.size w wr) (fun _ i _ => s.size - (intOf i).toNat)
  case atStart => exact ⟨_, 0, [], rfl, by omega, rfl, Part.zero s, by simp, World.ownsRow_nil _ _ _ _, Below.refl _ _⟩
  case round =>
    obtain ⟨v, k, l, hvu, hk, rfl, hP, hll, hown, hB⟩ := hrel
    subst hvu
    have hsz := hB.size
    by_cases hlt : k < s.size
    · rcases Nat.eq_zero_or_pos k with hk0 | hk0
      · -- the first byte
        subst hk0
        obtain rfl : l = [] := List.eq_nil_of_length_eq_zero (by omega)
        rcases hown.2 with ⟨rfl, _⟩ | ⟨g, cap, cur, rfl, _⟩
        all_goals
          have hown' := hown
          simp only [List.length_nil] at hown'
          have hP1 := Part.first hlt
          have hB' := hB
          simp only [List.length_nil, Int.natCast_zero]
          go_wp2
          go_big_quiet (fail)
          have hownD : (wr.drewN nq).ownsRow _ _ _ _ _ _ := hown'
          go_wp2_with (at_builtin; refine wpList_append_own _ rfl _ _ 27 rfl w.heap.size 36 i0 _ 2 24 Tryd.underlying27 hi hz0 hz1 hz2 rfl (by decide) _ _ _ rfl (hownD.alloc _) ⟨wr.heap.size, 0, none⟩ 1 1 _ rfl rfl (cell_two_new _ _ _ _) (by simp [Value.oneCell']) (by unfold maxLen; omega) (by omega) (by simp; omega) ?_; intro v' w2 hown2 hgrow _)
          have hB2 : Below w.heap.size w w2 := ((below_drewN hB nq).alloc (by simp; omega) _).grown hgrow (by simp; omega) (fun j ej => (hownD.lt j ej).1)
          exact ⟨⟨v', 1, [(0, 1)], rfl, by omega, rfl, hP1, by simp, hown2, hB2⟩, by simp [intOf]; omega⟩
      · obtain ⟨k', rfl⟩ : ∃ k', k = k' + 1 := ⟨k - 1, by omega⟩
        have hl0 := hP.len
        obtain ⟨pre, f, rfl, hfk, hkf⟩ := hP.last
        obtain ⟨g, cap, rfl⟩ : ∃ g cap, v = .slice (some ⟨g, 0, none⟩) (pre ++ [(f, k' + 1)]).length cap := by
          rcases hown.2 with ⟨_, h0⟩ | ⟨g, cap, cur, rfl, _⟩
          · simp at h0
          · exact ⟨g, cap, rfl⟩
        have hlen : (pre ++ [(f, k' + 1)]).length = pre.length + 1 := by simp
        rw [hlen] at hown hll ⊢
        have E0 : k' < s.size := by omega
        obtain ⟨q, hq⟩ : ∃ q, pre.length = q := ⟨_, rfl⟩
        have hq1 : q + 1 ≤ k' + 1 := by omega
        rw [hq] at hown ⊢
        have d1 : (0 : Int) < ((q : Nat) : Int) + 1 := by omega
        have j0 : (0 : Int) ≤ ((k' : Nat) : Int) + 1 := by omega
        have j1 : ((k' : Nat) : Int) + 1 < ((s.size : Nat) : Int) := by omega
        have j2 : (((k' : Nat) : Int) + 1).toNat = k' + 1 := by omega
        have HQ := Lib.hid hq; clear hq
        by_cases hc : kc s (k' + 1) = kc s k'
        · have hPn := hP.same hlt hc
          have Q1 := Lib.hid hc
          clear hc
          go_wp2
          go_big_quiet ((go_at_call 8; first | with_reducible exact q_rclass s (k' + 1) hlt (kc s k') Q1.out | with_reducible exact q_rclass s k' E0 (kc s k') rfl))
          have c1 : wr.cell? ⟨g, q * 2 + 1, none⟩ = some (.string (s.extract f (k' + 1))) := by
            rw [hown.cellAt (q * 2 + 1) (by omega), ← HQ.out]; exact cellsT_last s pre f (k' + 1)
          have f1 : wr.frozen? ⟨g, q * 2 + 1, none⟩ = false := hown.frozenAt (q * 2 + 1)
          have hcat := ext_cat2 s f (k' + 1) (k' + 1 + 1) (by omega) (by omega)
          go_wp2
          go_region
          go_wp2
          have hownD : (wr.drewN (nq + 1)).ownsRow w.heap.size 36 2 (.slice (some ⟨g, 0, none⟩) (q + 1) cap) (q + 1) (cellsT s (pre ++ [(f, k' + 1)])) := hown
          obtain ⟨hown2, hgrow⟩ := hownD.stored (q * 2 + 1) (.string (s.extract f (k' + 1 + 1)))
          have hset := cellsT_set s pre f (k' + 1) (k' + 1 + 1)
          rw [HQ.out] at hset
          rw [hset] at hown2
          have hgb := (hown.lt g (by simp [Value.ownBlock])).1
          have hB2 := (below_drewN hB (nq + 1)).setCell (p := ⟨g, q * 2 + 1, none⟩) hgb (.string (s.extract f (k' + 1 + 1)))
          have hln : (pre ++ [(f, k' + 2)]).length = q + 1 := by rw [List.length_append, HQ.out]; rfl
          exact ⟨⟨_, k' + 2, pre ++ [(f, k' + 2)], rfl, by omega, by go_num, hPn, by omega, by rw [hln]; exact hown2, hB2⟩, by simp [intOf]; omega⟩
        · have hPn := hP.new hlt hc
          have hb : (kc s (k' + 1) == kc s k') = false := by simpa using hc
          clear hc
          go_wp2
          go_big_quiet ((go_at_call 8; first | with_reducible exact q_rclass s (k' + 1) hlt (kc s (k' + 1)) rfl | with_reducible exact q_rclass s k' E0 (kc s k') rfl))
          have hownD : (wr.drewN nq).ownsRow _ _ _ _ _ _ := hown
          go_wp2_with (at_builtin; refine wpList_append_own _ rfl _ _ 27 rfl w.heap.size 36 i0 _ 2 24 Tryd.underlying27 hi hz0 hz1 hz2 rfl (by decide) _ _ _ rfl (hownD.alloc _) ⟨wr.heap.size, 0, none⟩ 1 1 _ rfl rfl (cell_two_new _ _ _ _) (by simp [Value.oneCell']) (by unfold maxLen; omega) (by omega) (by simp; omega) ?_; intro v' w2 hown2 hgrow _)
          have hB2 : Below w.heap.size w w2 := ((below_drewN hB nq).alloc (by simp; omega) _).grown hgrow (by simp; omega) (fun j ej => (hownD.lt j ej).1)
          exact ⟨⟨v', k' + 2, _, rfl, by omega, by go_num, hPn, by simp; omega, by rw [cellsT_snoc, List.length_append, hlen, HQ.out]; exact hown2, hB2⟩, by simp [intOf]; omega⟩
    · obtain rfl : k = s.size := by omega
      have HL := Lib.hid (Part.all hP)
      go_wp2
      go_ret
      exact ⟨_, rfl, by rw [← HL.out]; exact hown, hB⟩
end Go.Proofs.YtplibmipbhadmaaDoor
