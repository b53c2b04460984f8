/-
  styluslaw01.CharsParted answers true for any text and any place to leave.
-/
import Derived.Test.YtplibmipbhadmaaDoorChG
import Derived.Deep.QuietTactic
import Derived.BigQuiet
namespace Go.Proofs.YtplibmipbhadmaaDoor
open Go.RowKit Go.Shelf
attribute [local go_sem] Oper.semAt_some

/-- f is where run i begins; behind the last run it is the text's size. -/
def Cut1 (s : ByteArray) (i f : Nat) : Prop :=
  (runsFrom s 0).drop i = runsFrom s f ∧ f ≤ s.size ∧ (0 < i → ∃ g, (runsFrom s 0)[i - 1]? = some (g, f) ∧ g < f ∧ (f < s.size → kc s f ≠ kc s g))
theorem Cut1.zero (s : ByteArray) : Cut1 s 0 0 := ⟨rfl, Nat.zero_le _, fun h => absurd h (by omega)⟩
theorem Cut1.lt {s : ByteArray} {i f : Nat} (h : Cut1 s i f) (hi : i < (runsFrom s 0).length) : f < s.size := by
  rcases Nat.lt_or_ge f s.size with h1 | h1
  · exact h1
  · have := h.1
    rw [runsFrom_end s f h1] at this
    have := congrArg List.length this
    simp at this; omega
theorem Cut1.at_ {s : ByteArray} {i f : Nat} (h : Cut1 s i f) (hi : i < (runsFrom s 0).length) : (runsFrom s 0)[i]? = some (f, nextEnd s f) := by
  have h1 := h.lt hi
  have h2 := h.1
  rw [runsFrom_step s f h1] at h2
  have := congrArg (fun l => l[0]?) h2
  simpa using this
theorem Cut1.succ {s : ByteArray} {i f : Nat} (h : Cut1 s i f) (hi : i < (runsFrom s 0).length) : Cut1 s (i + 1) (nextEnd s f) := by
  have h1 := h.lt hi
  obtain ⟨e1, e2, _, e4⟩ := nextEnd_is s f h1
  refine ⟨?_, e2, fun _ => ⟨f, by simpa using h.at_ hi, e1, e4⟩⟩
  have h2 := h.1
  rw [runsFrom_step s f h1] at h2
  have := congrArg List.tail h2
  simpa using this
theorem Cut1.all {s : ByteArray} {i f : Nat} (h : Cut1 s i f) (hi : (runsFrom s 0).length ≤ i) : f = s.size := by
  have h2 := h.1
  rw [List.drop_eq_nil_of_le hi] at h2
  rcases Nat.lt_or_ge f s.size with h1 | h1
  · rw [runsFrom_step s f h1] at h2; simp at h2
  · have := h.2.1; omega
theorem txts_at (s : ByteArray) {i : Nat} {x : Nat × Nat} (h : (runsFrom s 0)[i]? = some x) : (txts s (runsFrom s 0))[i]? = some (x.1, s.extract x.1 x.2) := by
  simp [txts, h]
theorem ext_byte (s : ByteArray) (a b k : Nat) (hk : a + k < b) (hb : b ≤ s.size) (h0 : k < (s.extract a b).size) : (((s.extract a b)[k].toNat : Nat) : Int) = bAt s (a + k) := by
  rw [← bAt_get s (a + k) (by omega)]
  rw [ByteArray.getElem_extract]
theorem ext_cat (s : ByteArray) (f e : Nat) (h : f ≤ e) : s.extract 0 f ++ s.extract f e = s.extract 0 e := by
  rw [ByteArray.extract_append_extract]
  simp [Nat.min_eq_left, Nat.max_eq_right, h]
theorem ext_zero (s : ByteArray) : s.extract 0 0 = { data := #[] } := ByteArray.size_eq_zero_iff.1 (by rw [ext_size s 0 0 (by omega)])
theorem ext_all (s : ByteArray) : s.extract 0 s.size = s := by simp

theorem Laid.drewN {w : World} (h : Laid w) (n : Nat) : Laid (w.drewN n) := h
theorem HoldsRuns.at_ {w : World} {B : Nat} {A : Option Addr} {n c : Nat} {xs : List (Nat × ByteArray)} (h : HoldsRuns w B (.slice A n c) xs) {k : Nat} {p : Nat × ByteArray} (hp : xs[k]? = some p) :
    ∃ g, A = some ⟨g, 0, none⟩ ∧ w.cell? ⟨g, k * 2, none⟩ = some (.int .i64 ((p.1 : Nat) : Int)) ∧ w.cell? ⟨g, k * 2 + 1, none⟩ = some (.string p.2) := by
  obtain ⟨A', c', hv, hA⟩ := h
  injection hv with h1 h2 h3
  subst h1
  have hk : 0 < xs.length := by have := (List.getElem?_eq_some_iff.1 hp).1; omega
  obtain ⟨g, hg, _, hc⟩ := hA hk
  exact ⟨g, hg, hc k p hp⟩
/-- What holds of the world in all rounds. -/
def InvP (w : World) (B : Nat) (v : Value) (s : ByteArray) (wr : World) : Prop := Laid wr ∧ Below B w wr ∧ HoldsRuns wr B v (txts s (runsFrom s 0))
theorem InvP.drewN {w : World} {B : Nat} {v : Value} {s : ByteArray} {wr : World} (h : InvP w B v s wr) (n : Nat) : InvP w B v s (wr.drewN n) := ⟨h.1, below_drewN h.2.1 n, h.2.2⟩
section
variable {W : World} {n : Nat}
theorem q_class (c v : Int) (hv : cls c = v) (h0 : 0 ≤ c) (h1 : c < 256) (hL : Laid W) :
    Calls Tryd.prog 7 #[.int .u8 c] (W.drewN n) fun e w' => e = .returned (.int .i64 v) ∧ ∃ m, w' = W.drewN m := hv ▸ (class_any c h0 h1 _ (hL.drewN n)).mono fun _ _ ⟨he, hm⟩ => ⟨he, n, hm.symm⟩
end

set_option maxRecDepth 100000 in
set_option maxHeartbeats 4000000 in
theorem charsParted_long (s : ByteArray) (x : Int) (hs : 2000 < s.size) (hm : s.size ≤ maxLen) (w : World) (hL : Laid w) :
    Calls Tryd.prog 5 #[.string s, .int .i64 x] w fun e w' => e = .returned (.bool true) ∧ Below w.heap.size w w' := by
  unfold maxLen at hm
  have hb0 : Below w.heap.size w (w.alloc (.cells #[.int .i64 x] 3)) := (Below.refl _ w).alloc (Nat.le_refl _) _
  have hL0 := hL.below hb0 hL.1
  go_enter Tryd.func5, Tryd.ntmps5
  go_wp2_with (go_at_call 20; refine (awake_any _ hL0).mono ?_; rintro e w' ⟨rfl, hb⟩)
  go_ret
  exact ⟨rfl, hb0.trans (hb.mono hb0.size)⟩

set_option maxRecDepth 100000 in
set_option maxHeartbeats 4000000 in
theorem charsParted_short (s : ByteArray) (x : Int) (hx : -9223372036854775808 ≤ x ∧ x ≤ 9223372036854775807) (hs : s.size ≤ 2000) (w : World) (hL : Laid w) :
    Calls Tryd.prog 5 #[.string s, .int .i64 x] w fun e w' => e = .returned (.bool true) ∧ Below w.heap.size w w' := by
  have hx' := Lib.hid hx; clear hx
  have hb0 : Below w.heap.size w (w.alloc (.cells #[.int .i64 x] 3)) := (Below.refl _ w).alloc (Nat.le_refl _) _
  have bX := Boxed.new w 3 (.int .i64 x)
  have hL0 := hL.below hb0 hL.1
  have hfn : ∀ f, Fence.wide.fn f := fun _ => trivial
  refine (callsIn_wide (n := 3)).1 ?_
  refine callsIn_of_wp_marks Tryd.func5 rfl trivial ?_ rfl
  simp only [Tryd.ntmps5, List.size_toArray, List.length_cons, List.length_nil, Nat.reduceAdd, Nat.reduceSub, Array.replicate_succ, Array.replicate_zero, List.push_toArray, List.append_toArray, List.nil_append, List.cons_append]
  refine wpIn_wide.2 ?_
  go_wp2_with fail
  refine (runs_any s hs _ hL0).mono ?_
  rintro e w1 ⟨v, rfl, hown, hb1⟩
  have hH := HoldsRuns.of_own rfl hown
  rw [runsA_val] at hH
  have hL1 := hL0.below hb1 hL0.1
  have hform := hH
  obtain ⟨A, cap, rfl, -⟩ := hform
  clear hown
  have hsame := hH
  obtain ⟨n, hn⟩ : ∃ n, (txts s (runsFrom s 0)).length = n := ⟨_, rfl⟩
  have hn' : (runsFrom s 0).length = n := by rw [← hn]; simp [txts]
  have hn2 : n ≤ s.size := by have := runsL_len s; unfold runsL at this; omega
  rw [hn] at hH hsame ⊢
  have hI1 : InvP w1 w1.heap.size (.slice A n cap) s w1 := ⟨hL1, Below.refl _ _, hH⟩
  have HN := Lib.hid hn'; clear hn hn' hH hsame
  go_wp2
  go_loopw [7, 8] (fun t i wr => ∃ (i' f : Nat), i' ≤ n ∧ t = .string (s.extract 0 f) ∧ i = .int .i64 i' ∧ Cut1 s i' f ∧ InvP w1 w1.heap.size (.slice A n cap) s wr) (fun _ i _ => n - (intOf i).toNat)
  case atStart => exact ⟨0, 0, by omega, by rw [ext_zero], rfl, Cut1.zero s, hI1⟩
  case round =>
    obtain ⟨i, f, hi, rfl, rfl, hcut, hI⟩ := hrel
    by_cases hlt : i < n
    · have hlt' : i < (runsFrom s 0).length := by rw [HN.out]; exact hlt
      have hfs := hcut.lt hlt'
      have hat := txts_at s (hcut.at_ hlt')
      obtain ⟨g, rfl, c1, c2⟩ := hI.2.2.at_ hat
      have hIE := Lib.hid (nextEnd_is s f hfs)
      obtain ⟨he1, he2⟩ : f < nextEnd s f ∧ nextEnd s f ≤ s.size := ⟨hIE.out.1, hIE.out.2.1⟩
      have hsc := hcut.succ hlt'
      obtain ⟨e, hee⟩ : ∃ e, nextEnd s f = e := ⟨_, rfl⟩
      rw [hee] at hat c1 c2 hIE he1 he2 hsc
      clear hee
      have HAT := Lib.hid hat; clear hat
      simp only [] at c1 c2
      have hne := isEmpty_no (s.extract f e) (by rw [ext_size s f e he2]; omega)
      go_wp2
      go_loopw [9] (fun k wi => ∃ j : Nat, j ≤ e - f ∧ k = .int .i64 j ∧ InvP w1 w1.heap.size (.slice (some ⟨g, 0, none⟩) n cap) s wi) (fun k _ => e - f - (intOf k).toNat)
      case atStart => exact ⟨0, by omega, rfl, hI⟩
      case round =>
        obtain ⟨j, hj, rfl, hJ⟩ := hrel
        clear c1 c2
        obtain ⟨g', hg', c1, c2⟩ := hJ.2.2.at_ HAT.out
        injection hg' with hg'
        injection hg' with hg' _ _
        subst hg'
        simp only [] at c1 c2
        have hLi := hJ.1
        have hz := ext_size s f e he2
        have h0 : 0 < (s.extract f e).size := by omega
        by_cases hjl : j < e - f
        · have hjz : j < (s.extract f e).size := by omega
          have E1 := ext_byte s f e j (by omega) he2 hjz
          have E2 : ((((s.extract f e)[0]'h0).toNat : Nat) : Int) = bAt s f := ext_byte s f e 0 (by omega) he2 h0
          have Q1 := Lib.hid (show cls (bAt s (f + j)) = kc s f from hIE.out.2.2.1 (f + j) (by omega) (by omega))
          have Q2 := Lib.hid (show cls (bAt s f) = kc s f from rfl)
          obtain ⟨q1, q2⟩ := bAt_lt s (f + j)
          obtain ⟨q3, q4⟩ := bAt_lt s f
          clear hz
          go_wp2
          go_big_quiet ((go_at_call 7; first | with_reducible exact q_class (bAt s (f + j)) (kc s f) Q1.out q1 q2 hLi | with_reducible exact q_class (bAt s f) (kc s f) Q2.out q3 q4 hLi))
          go_wp2
          go_roundw
          case rel => exact ⟨j + 1, by omega, by go_num, hJ.drewN nq⟩
          case measure => simp [intOf]; omega
        · obtain rfl : j = e - f := by omega
          clear hz
          have hcat := ext_cat s f e (by omega)
          by_cases hi0 : i = 0
          · have d0 : decide (0 < i) = false := by simp [hi0]
            clear hi0
            go_wp2
            go_big_quiet (fail)
            go_wp2
            exact ⟨⟨i + 1, e, by omega, rfl, by go_num, hsc, hJ.drewN nq⟩, by simp [intOf]; omega⟩
          · obtain ⟨i', rfl⟩ : ∃ i', i = i' + 1 := ⟨i - 1, by omega⟩
            have d0 : decide (0 < i' + 1) = true := by simp
            obtain ⟨g0, hg0, hgf, hk0⟩ := hcut.2.2 (by omega)
            have hat0 := txts_at s (i := i') hg0
            obtain ⟨g', hg', c3, c4⟩ := hJ.2.2.at_ hat0
            injection hg' with hg'
            injection hg' with hg' _ _
            subst hg'
            simp only [] at c3 c4
            have hz0 := ext_size s g0 f (by omega)
            have h00 : 0 < (s.extract g0 f).size := by omega
            have E1 : ((((s.extract g0 f)[0]'h00).toNat : Nat) : Int) = bAt s g0 := ext_byte s g0 f 0 (by omega) (by omega) h00
            have E2 : ((((s.extract f e)[0]'h0).toNat : Nat) : Int) = bAt s f := ext_byte s f e 0 (by omega) he2 h0
            have Q1 := Lib.hid (show cls (bAt s g0) = kc s g0 from rfl)
            have Q2 := Lib.hid (show cls (bAt s f) = kc s f from rfl)
            have hkk : (kc s g0 == kc s f) = false := by simp; exact fun h => hk0 hfs h.symm
            obtain ⟨q1, q2⟩ := bAt_lt s g0
            obtain ⟨q3, q4⟩ := bAt_lt s f
            clear hz0 hat0 hg0 hk0
            go_wp2
            go_big_quiet ((go_at_call 7; first | with_reducible exact q_class (bAt s g0) (kc s g0) Q1.out q1 q2 hLi | with_reducible exact q_class (bAt s f) (kc s f) Q2.out q3 q4 hLi))
            go_wp2
            exact ⟨⟨i' + 1 + 1, e, by omega, rfl, by go_num, hsc, hJ.drewN nq⟩, by simp [intOf]; omega⟩
    · have hin : i = n := by omega
      subst hin
      have hfe := hcut.all (Nat.le_of_eq HN.out)
      subst hfe
      obtain ⟨hLr, hBr, -⟩ := hI
      have hall := ext_all s
      have hal : (w.alloc (.cells #[.int .i64 x] 3)).heap.size = w.heap.size + 1 := by simp
      have hs1 := hb1.size
      have hsr := hBr.size
      rw [hal] at hs1
      have bXr := boxed_below (boxed_below bX hb1 (by rw [hal]; omega)) hBr (by omega)
      have hBw := (hb0.trans (hb1.mono hb0.size)).trans (hBr.mono (by omega))
      have HSZ := Lib.hid hal; clear hal
      clear hcut hI1 hlt hi
      go_wp2_with (go_at_call 28; refine (runs0_any s _).mono ?_; rintro e w' ⟨rfl, rfl⟩)
      obtain ⟨W0, hW0⟩ : ∃ W0, ((wr.alloc (.cells #[.int .i64 0] 3)).alloc (.cells #[.string s] 9)) = W0 := ⟨_, rfl⟩
      have hsz : W0.heap.size = wr.heap.size + 1 + 1 := by rw [← hW0]; simp
      have bC : Boxed W0 wr.heap.size 3 (.int .i64 ((0 : Nat) : Int)) := by rw [← hW0]; exact (Boxed.new wr _ _).alloc _
      have bN : Boxed W0 (wr.heap.size + 1) 9 (.string s) := by
        rw [← hW0]; have := Boxed.new (wr.alloc (.cells #[.int .i64 0] 3)) 9 (.string s); rwa [World.size_alloc] at this
      have hB0 : Below wr.heap.size wr W0 := by
        rw [← hW0]; exact ((Below.refl _ wr).alloc (Nat.le_refl _) _).alloc (by simp) _
      have hL2 : Laid W0 := hLr.below hB0 hLr.1
      have hwp := hLr.1
      rw [hW0]
      have hN : (runsA s 0).length = i := by
        have h := congrArg List.length (runsA_val s 0); rw [List.length_map] at h; rw [h]; exact HN.out
      have HNN := Lib.hid hN; clear hN
      clear hW0
      refine (wpIn_wide (n := 3)).1 ?_
      have hseq := runs_stops 2 (wr.heap.size + 1) wr.heap.size s (by unfold maxLen; omega) hLr.1 W0 (by omega) bN.cell hL2
      have hkb := keepN_b (n₀ := wr.heap.size) (Bn := wr.heap.size + 1) (w := W0) (by omega) (by omega)
      apply wpIn_rangeFunc_ownG (α := Rn s) (encs := encR s) (Kp := KeepN wr.heap.size (wr.heap.size + 1)) (w0 := W0) rfl (by omega) (gf := 30) (lb := #[.pointer (some ⟨wr.heap.size + 1, 0, none⟩)]) rfl trivial (enters_of Tryd.func30 (by kernel_rfl) rfl)
        hseq KeepN.trans hkb (Below.refl _ _) (fun _ => rfl)
        (fun pre W => Boxed W wr.heap.size 3 (.int .i64 ((pre.length : Nat) : Int)) ∧ Below wr.heap.size wr W)
        (fun c pre W => (c = .exit 4 ∧ ∃ k : Nat, k ≤ 2000 ∧ (k : Int) = x ∧ Boxed W wr.heap.size 3 (.int .i64 (k : Int))) ∧ Below wr.heap.size wr W)
        (OwnFrom.and (Own.from (boxed_own _ _ (fun pre : List (Rn s) => .int .i64 ((pre.length : Nat) : Int))) _) (ownFrom_below (by omega) (by omega)))
        (fun c => OwnFrom.and (Own.from (fun pre A B row hs hg hr => by
          obtain ⟨h1, k, h2, h3, h4⟩ := hs
          exact ⟨h1, k, h2, h3, boxed_own _ _ (fun _ : List (Rn s) => _) pre A B row h4 hg hr⟩) _) (ownFrom_below (by omega) (by omega)))
        ⟨bC, hB0⟩
      case hassign =>
        intro l y W K hK
        dsimp only [encR]
        gi_wp2
        simp only [List.zip_toArray, List.zip_cons_cons, List.zip_nil_right, List.foldl_toArray', List.foldl_cons, List.foldl_nil, List.setIfInBounds_toArray, List.set_cons_succ, List.set_cons_zero, List.size_toArray, List.length_cons, List.length_nil]
        exact hK
      case hbody =>
        rintro l pre y W ⟨h1, hB⟩ hlt
        have bXW := boxed_below bXr hB (by omega)
        have hc1 := h1.cell
        have hf1 := h1.frozen
        have hc2 := bXW.cell
        have hpl : pre.length ≤ 2000 := by have := HNN.out; omega
        have hlen : (pre ++ [y]).length = pre.length + 1 := by simp
        by_cases hq : ((pre.length : Nat) : Int) = x
        · have hb : (((pre.length : Nat) : Int) == x) = true := by simpa using hq
          gi_wp2
          exact ⟨KeepsFrom.refl _ _, ⟨rfl, pre.length, hpl, hq, h1⟩, hB⟩
        · have hb : (((pre.length : Nat) : Int) == x) = false := by simpa using hq
          gi_wp2
          exact ⟨(KeepsOthers.setCell _ _ _).from _, ⟨(Below.refl wr.heap.size W).setCell (p := ⟨wr.heap.size, 0, none⟩) (Nat.le_refl _) _, Below.heap_setCell W ⟨wr.heap.size, 0, none⟩ _ _ (by simp)⟩,
            by rw [hlen, Int.natCast_add]; exact h1.set _, hB.setCell (p := ⟨wr.heap.size, 0, none⟩) (Nat.le_refl _) _⟩
      case hdone =>
        rintro D ys W hD rfl ⟨h1, hB⟩ hK
        have hLW := hLr.below hB hLr.1
        rw [HNN.out] at h1
        have hc1 := h1.cell
        have hDl := (Array.getElem?_eq_some_iff.1 hK).1
        have hBs := hB.size
        go_wp2_with (go_at_call 20; refine (awake_any _ hLW).mono ?_; rintro e w' ⟨rfl, hb⟩)
        have hK' := (hb.block D hDl).trans hK
        refine ⟨by simp, .inl ⟨_, _, rfl, run_takeDeferred hK', ?_⟩⟩
        exact ⟨_, results_tmp rfl _ _ _, rfl, ((hBw.trans (hB.mono (by omega))).trans (hb.mono (by omega))).trans (belowK_b (w := w) (Nat.le_refl _) _ D _ _ (by omega) hK' rfl rfl)⟩
      case hstop =>
        rintro D c pre W hD hpre ⟨⟨rfl, k, hk, hkx, h1⟩, hB⟩ hK
        have hLW := hLr.below hB hLr.1
        have bXW := boxed_below bXr hB (by omega)
        have hc1 := h1.cell
        have hc2 := bXW.cell
        have hDl := (Array.getElem?_eq_some_iff.1 hK).1
        have hBs := hB.size
        have hb1' : (((k : Nat) : Int) == x) = true := by simpa using hkx
        clear hkx
        refine (wpIn_wide (n := 3)).2 ?_
        by_cases hki : k = i
        · have hb2 : (((k : Nat) : Int) == ((i : Nat) : Int)) = true := by rw [hki]; simp
          clear hki
          go_wp2_with (go_at_call 20; refine (awake_any _ hLW).mono ?_; rintro e w' ⟨rfl, hb⟩)
          have hK' := (hb.block D hDl).trans hK
          refine ⟨by simp, .inl ⟨_, _, rfl, run_takeDeferred hK', ?_⟩⟩
          exact ⟨_, results_tmp rfl _ _ _, rfl, ((hBw.trans (hB.mono (by omega))).trans (hb.mono (by omega))).trans (belowK_b (w := w) (Nat.le_refl _) _ D _ _ (by omega) hK' rfl rfl)⟩
        · have hb2 : (((k : Nat) : Int) == ((i : Nat) : Int)) = false := by simp; omega
          clear hki
          go_wp2_with (go_at_call 20; refine (awake_any _ hLW).mono ?_; rintro e w' ⟨rfl, hb⟩)
          have hK' := (hb.block D hDl).trans hK
          refine ⟨by simp, .inl ⟨_, _, rfl, run_takeDeferred hK', ?_⟩⟩
          exact ⟨_, results_tmp rfl _ _ _, rfl, ((hBw.trans (hB.mono (by omega))).trans (hb.mono (by omega))).trans (belowK_b (w := w) (Nat.le_refl _) _ D _ _ (by omega) hK' rfl rfl)⟩

theorem charsParted_any (s : ByteArray) (x : Int) (hm : s.size ≤ maxLen) (h0 : -9223372036854775808 ≤ x) (h1 : x ≤ 9223372036854775807) (w : World) (hL : Laid w) :
    Calls Tryd.prog 5 #[.string s, .int .i64 x] w fun e w' => e = .returned (.bool true) ∧ Below w.heap.size w w' := by
  by_cases hs : s.size ≤ 2000
  · exact charsParted_short s x ⟨h0, h1⟩ hs w hL
  · exact charsParted_long s x (by omega) hm w hL
end Go.Proofs.YtplibmipbhadmaaDoor
