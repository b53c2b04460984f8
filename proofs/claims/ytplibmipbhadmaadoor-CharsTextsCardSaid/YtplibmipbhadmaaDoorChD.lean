/-
  styluslaw01.runs answers all runs of a text, with true; a piece of memory holds them.
-/
import Derived.Test.YtplibmipbhadmaaDoorChC
namespace Go.Proofs.YtplibmipbhadmaaDoor
open Go.RowKit Go.Shelf
attribute [local go_sem] Oper.semAt_some

theorem infoRun : (Tryd.prog.info? 36).map (fun i => (i.zero, i.size, i.bytes)) = some (some (.agg #[.int .i64 0, .string { data := #[] }]), 2, 24) := by kernel_rfl
/-- A run as a slice's elements hold it: two cells. -/
def cellsR (s : ByteArray) (l : List (Rn s)) : List Value := l.flatMap fun x => [.int .i64 ((x.1.1 : Nat) : Int), .string (s.extract x.1.1 x.1.2)]
theorem cellsR_snoc (s : ByteArray) (l : List (Rn s)) (x : Rn s) : cellsR s (l ++ [x]) = cellsR s l ++ [.int .i64 ((x.1.1 : Nat) : Int), .string (s.extract x.1.1 x.1.2)] := by simp [cellsR]

theorem eq_nilFunc (f : Nat) (a : Array Value) (W : World) : (binOp .eql 38 (.func (.func f) #[] a) .nilFunc).run Tryd.prog W = .ok (.bool false) W := by kernel_rfl

theorem boxed_below {n₀ B : Nat} {W W' : World} {t : TypeId} {v : Value} (h : Boxed W B t v) (hb : Below n₀ W W') (hB : B < n₀) : Boxed W' B t v := (hb.block B hB).trans h
theorem ownsRow_base {W : World} {b b' e size n : Nat} {v : Value} {xs : List Value} (h : W.ownsRow b e size v n xs) (hb : b' ≤ b) : W.ownsRow b' e size v n xs :=
  ⟨h.1, h.2.imp id (fun ⟨g, cap, cur, h1, h2, h3⟩ => ⟨g, cap, cur, h1, Nat.le_trans hb h2, h3⟩)⟩
theorem cell_two_new (w : World) (x y : Value) (t : TypeId) : ∀ j u, [x, y][j]? = some u → (w.alloc (.cells #[x, y] t)).cell? ((⟨w.heap.size, 0, none⟩ : Addr).add j) = some u := by
  intro j u hj
  match j, hj with
  | 0, hj => simp at hj; subst hj; simp [Addr.add]
  | 1, hj => simp at hj; subst hj; simp [Addr.add]

set_option maxRecDepth 100000 in
set_option maxHeartbeats 1000000 in
theorem runs_any (s : ByteArray) (hs : s.size ≤ 2000) (w : World) (hL : Laid w) :
    Calls Tryd.prog 21 #[.string s] w fun e w' => ∃ v, e = .returned (.tuple #[v, .bool true]) ∧ w'.ownsRow w.heap.size 36 2 v (runsA s 0).length (cellsR s (runsA s 0)) ∧ Below w.heap.size w w' := by
  obtain ⟨i0, hi, hz0, hz1, hz2⟩ := info_parts infoRun
  have hfn : ∀ f, Fence.wide.fn f := fun _ => trivial
  have hnf := eq_nilFunc
  refine (callsIn_wide (n := 3)).1 ?_
  refine callsIn_of_wp_marks Tryd.func21 rfl trivial ?_ rfl
  simp only [Tryd.ntmps21, List.size_toArray, List.length_cons, List.length_nil, Nat.reduceAdd, Nat.reduceSub, Array.replicate_succ, Array.replicate_zero, List.push_toArray, List.append_toArray, List.nil_append, List.cons_append]
  gi_wp2_with (gi_at_call 28; refine (callsIn_wide.2 (runs0_any s _)).mono ?_; rintro e w' ⟨rfl, rfl⟩)
  obtain ⟨W0, hW0⟩ : ∃ W0, ((((w.alloc (.cells #[.string s] 9)).alloc (.cells #[.slice none 0 0] 27)).alloc (.cells #[.bool false] 4)).alloc (.cells #[.string s] 9)) = W0 := ⟨_, rfl⟩
  have hsz : W0.heap.size = w.heap.size + 1 + 1 + 1 + 1 := by rw [← hW0]; simp
  have bS : Boxed W0 w.heap.size 9 (.string s) := by rw [← hW0]; exact (((Boxed.new w _ _).alloc _).alloc _).alloc _
  have bR : Boxed W0 (w.heap.size + 1) 27 (.slice none 0 0) := by
    rw [← hW0]; have := ((Boxed.new (w.alloc (.cells #[.string s] 9)) 27 (.slice none 0 0)).alloc (.cells #[.bool false] 4)).alloc (.cells #[.string s] 9); rwa [World.size_alloc] at this
  have bK : Boxed W0 (w.heap.size + 1 + 1) 4 (.bool false) := by
    rw [← hW0]; have := (Boxed.new ((w.alloc (.cells #[.string s] 9)).alloc (.cells #[.slice none 0 0] 27)) 4 (.bool false)).alloc (.cells #[.string s] 9); rwa [World.size_alloc, World.size_alloc] at this
  have bN : Boxed W0 (w.heap.size + 1 + 1 + 1) 9 (.string s) := by
    rw [← hW0]; have := Boxed.new (((w.alloc (.cells #[.string s] 9)).alloc (.cells #[.slice none 0 0] 27)).alloc (.cells #[.bool false] 4)) 9 (.string s); rwa [World.size_alloc, World.size_alloc, World.size_alloc] at this
  have hB0 : Below w.heap.size w W0 := by
    rw [← hW0]; exact ((((Below.refl _ w).alloc (Nat.le_refl _) _).alloc (by simp) _).alloc (by simp; omega) _).alloc (by simp; omega) _
  have hL0 : Laid W0 := hL.below hB0 hL.1
  rw [hW0]
  have bO := Boxed.new W0 27 (.slice none 0 0)
  have hB1 : Below W0.heap.size W0 (W0.alloc (.cells #[.slice none 0 0] 27)) := (Below.refl _ W0).alloc (Nat.le_refl _) _
  have hN := runsA_len s
  rw [hsz] at bO hB1
  clear hW0
  refine wpIn_rangeFunc_ownG rfl (by omega) (gf := 30) (lb := #[.pointer (some ⟨w.heap.size + 1 + 1 + 1, 0, none⟩)]) rfl trivial (enters_of Tryd.func30 (by kernel_rfl) rfl)
    (runs_stops 2 (w.heap.size + 1 + 1 + 1) (w.heap.size + 1 + 1 + 1 + 1) s (by unfold maxLen; omega) (by omega) _ (by simp; omega) (bN.alloc _).cell (hL0.below hB1 (by omega))) KeepN.trans (keepN_b (by simp; omega) (by simp; omega)) (Below.refl _ _) (fun _ => rfl)
    (fun pre W => (∃ v, Boxed W (w.heap.size + 1 + 1 + 1 + 1) 27 v ∧ W.ownsRow (w.heap.size + 1 + 1 + 1 + 1) 36 2 v pre.length (cellsR s pre) ∧ True) ∧ Below (w.heap.size + 1 + 1 + 1 + 1) W0 W)
    (fun _ _ _ => False)
    (OwnFrom.and (Own.from (holdsRow_own _ _ _ _ 2 (fun pre => pre.length) (fun pre => cellsR s pre) (fun _ _ => True)) _) (ownFrom_below (by omega) (by simp; omega)))
    (fun _ _ _ _ _ hs _ _ => hs)
    ⟨⟨_, bO, World.ownsRow_nil _ _ _ _, trivial⟩, hB1⟩
    (fun x => { tmps := #[.string s, .pointer (some ⟨w.heap.size, 0, none⟩), .pointer (some ⟨w.heap.size + 1, 0, none⟩), .pointer (some ⟨w.heap.size + 1 + 1, 0, none⟩),
      .func (.func 30) #[] #[.pointer (some ⟨w.heap.size + 1 + 1 + 1, 0, none⟩)], .pointer (some ⟨w.heap.size + 1 + 1 + 1 + 1, 0, none⟩), .int .i64 ((x.1.1 : Nat) : Int), .string (s.extract x.1.1 x.1.2), .string s,
      .func (.func 30) #[] #[.pointer (some ⟨w.heap.size + 1 + 1 + 1, 0, none⟩)], .func (.func 30) #[] #[.pointer (some ⟨w.heap.size + 1 + 1 + 1, 0, none⟩)], .bool false, .func (.func 30) #[] #[.pointer (some ⟨w.heap.size + 1 + 1 + 1, 0, none⟩)],
      .int .i64 ((x.1.1 : Nat) : Int), .string (s.extract x.1.1 x.1.2), undef, undef, undef, undef, undef, undef, undef, undef, undef, undef, undef, undef, undef], defers := [] }) ?assign ?body ?done ?stop
  case assign =>
    intro l x W K hK
    dsimp only [encR]
    gi_wp2
    exact hK
  case body =>
    rintro l pre x W ⟨⟨v, hv, hrow, -⟩, hB⟩ hlt
    have hc := hv.cell
    have bSW := boxed_below bS hB (by omega)
    have hcs := bSW.cell
    have hle : pre.length + 1 ≤ s.size := by omega
    have hsW := hB.size
    gi_wp2_with (gi_at_builtin; refine wpListIn_append_own _ rfl _ _ 27 rfl (w.heap.size + 1 + 1 + 1 + 1) 36 i0 _ 2 24 Tryd.underlying27 hi hz0 hz1 hz2 rfl (by decide) _ _ _ rfl (hrow.alloc _) ⟨W.heap.size, 0, none⟩ 1 1 [.int .i64 ((x.1.1 : Nat) : Int), .string (s.extract x.1.1 x.1.2)] rfl rfl (cell_two_new _ _ _ _) (by simp [Value.oneCell']) (by unfold maxLen; omega) (by omega) (by simp; omega) ?_; intro v' w1 hown' hgrow _; obtain ⟨g', cap', rfl⟩ := ownsRow_succ hown'; obtain ⟨hv1, hv2, hr2, hk2, hb2⟩ := hv.appended (by decide) hrow (by omega) (Nat.le_refl _) hown' hgrow; have hc1 := hv1.cell; have hf1 := hv1.frozen; have hcs1 := ((bSW.alloc _).kept hgrow (bSW.not_row (by decide) hrow)).cell)
    exact ⟨hk2.from _, KeepN.of hb2 (by omega), ⟨_, hv2, by rw [cellsR_snoc]; simpa using hr2, trivial⟩, hB.trans hb2⟩
  case done =>
    rintro D ys W hD rfl ⟨⟨v, hv, hrow, -⟩, hB⟩ hK
    have hc := hv.cell
    have bRW := boxed_below bR hB (by omega)
    have bKW := boxed_below bK hB (by omega)
    have hc1 := bRW.cell
    have hf1 := bRW.frozen
    have hc2 := bKW.cell
    have hf2 := bKW.frozen
    have hsW := hB.size
    have hform : ∃ a m c, v = .slice a m c := by
      rcases hrow.2 with ⟨rfl, _⟩ | ⟨g, cap, cur, rfl, _⟩
      · exact ⟨_, _, _, rfl⟩
      · exact ⟨_, _, _, rfl⟩
    obtain ⟨va, vm, vc, rfl⟩ := hform
    gi_wp2
    have b1 := bRW.set (.slice va vm vc)
    have b1' := b1.other (B' := w.heap.size + 1 + 1) (by omega) (.bool true)
    have b2 := (bKW.other (B' := w.heap.size + 1) (by omega) (.slice va vm vc)).set (.bool true)
    have hK' := ((KeepsOthers.setCell W ⟨w.heap.size + 1, 0, none⟩ (.slice va vm vc)).trans (KeepsOthers.setCell _ ⟨w.heap.size + 1 + 1, 0, none⟩ (.bool true))).same D _ hK rfl
    have hr1 := hrow.kept (grownBy_setCell' W (w.heap.size + 1) (.slice va vm vc)) (.inr (bRW.not_row (by decide) hrow).symm)
    have hr2 := hr1.kept (grownBy_setCell' _ (w.heap.size + 1 + 1) (.bool true)) (.inr ((bKW.other (B' := w.heap.size + 1) (by omega) (.slice va vm vc)).not_row (by decide) hr1).symm)
    have hc5 := cell_kept b1'.cell (grownBy_putObj' _ D (.deferred none)) (fun r e => by cases e; exact ⟨_, hK', rfl⟩)
    have hc6 := cell_kept b2.cell (grownBy_putObj' _ D (.deferred none)) (fun r e => by cases e; exact ⟨_, hK', rfl⟩)
    have hBW : Below w.heap.size w W := hB0.trans (hB.mono (by omega))
    refine ⟨by simp, .inl ⟨_, _, rfl, run_takeDeferred hK', ?_⟩⟩
    refine ⟨.tuple #[.slice va vm vc, .bool true], ?_, .slice va vm vc, rfl, ownsRow_putObj (ownsRow_base hr2 (by omega)) _ hK' rfl, ?_⟩
    · simp [results, Tryd.f21, go_sem, hc5, hc6]
    · refine ((hBW.setCell (p := ⟨w.heap.size + 1, 0, none⟩) (by simp) _).setCell (p := ⟨w.heap.size + 1 + 1, 0, none⟩) (by show w.heap.size ≤ w.heap.size + 1 + 1; omega) _).trans (belowK_b (w := w) (Nat.le_refl _) _ D _ _ (by simp at hD; omega) hK' rfl rfl)
  case stop =>
    rintro D c pre W _ _ h _
    exact h.elim
end Go.Proofs.YtplibmipbhadmaaDoor
