/-
  lex.Letters: the letters of all names.
-/
import Derived.Test.YtgdealdpphcamaaDoorLaB
import Derived.Sort.QuietIn
import Derived.Stop.RegionWithIn
import Derived.Test.YtgdealdpphcamaaDoorRaS
namespace Go.Proofs.YtgdealdpphcamaaDoor.Lx
open Go.RowKit Go.Shelf
attribute [local go_sem] Oper.semAt_some

theorem infoByte : (Tryd.prog.info? 5).map (fun i => (i.zero, i.size, i.bytes)) = some (some (.int .u8 0), 1, 1) := by kernel_rfl
def cellsB (l : List Nat) : List Value := l.map fun d : Nat => Value.int .u8 ((d : Nat) : Int)
theorem cellsB_snoc (l : List Nat) (d : Nat) : cellsB (l ++ [d]) = cellsB l ++ [.int .u8 (d : Int)] := by simp [cellsB]
theorem cellsB_len (l : List Nat) : (cellsB l).length = l.length := by simp [cellsB]
theorem cell_one_new (w : World) (x : Value) (t : TypeId) : ∀ j u, [x][j]? = some u → (w.alloc (.cells #[x] t)).cell? ((⟨w.heap.size, 0, none⟩ : Addr).add j) = some u := by
  intro j u hj
  match j, hj with
  | 0, hj => simp at hj; subst hj; simp [Addr.add]
/-- A row of bytes is read back as a text. -/
theorem back_of_rowB {w : World} {v : Value} {n base : Nat} (l : List Nat) (hl : ∀ x ∈ l, x < 256) (h : w.ownsRow base 5 1 v n (cellsB l)) :
    (convert 46 9 v).run Tryd.prog w = .ok (.string (bytesOf l)) w := by
  have hln : l.length = n := by have := h.1; simpa [cellsB] using this
  rcases h.2 with ⟨rfl, h0⟩ | ⟨g, cap, cur, rfl, _⟩
  · have hnil : l = [] := List.eq_nil_of_length_eq_zero (by omega)
    subst hnil
    exact run_convert_bytes_nil (P := Tryd.prog) w 46 5 Tryd.underlying46 Tryd.underlying5 0 0 9 Tryd.underlying9
  · have hback := run_convert_bytes_back (P := Tryd.prog) w 46 9 5 ⟨g, 0, none⟩ cap (l.map UInt8.ofNat) Tryd.underlying46 Tryd.underlying5 Tryd.underlying9 (fun j hj => by
      have hj' : j < l.length := by simpa using hj
      have e : (⟨g, 0, none⟩ : Addr).add j = ⟨g, j, none⟩ := by unfold Addr.add; split <;> simp_all
      rw [e, h.cellAt j (by omega)]
      have h256 := hl l[j] (List.getElem_mem hj')
      simp only [cellsB, List.getElem?_map, List.getElem?_eq_getElem hj', Option.map_some, List.getElem_map]
      have e3 : (UInt8.ofNat l[j]).toNat = l[j] := by simp [Nat.mod_eq_of_lt h256]
      rw [e3])
    rw [List.length_map, hln] at hback
    exact hback
/-- What Letters' boxes hold between two rounds. -/
def GI (w : World) (k : Nat) (W : World) : Prop :=
  (∃ v, Boxed W w.heap.size 46 v ∧ W.ownsRow (w.heap.size + 4) 5 1 v k (cellsB (lettersL.take k))) ∧ Below w.heap.size w W ∧ w.heap.size + 4 ≤ W.heap.size
theorem GI.turn {w : World} {k : Nat} {W W' : World} {row : Option Nat} (h : GI w k W) (hg : W.grownBy W' row) (hr : ∀ r, row = some r → w.heap.size + 4 ≤ r ∧ ∃ o : Obj, W.heap[r]? = some o ∧ o.isCells = false) : GI w k W' := by
  obtain ⟨⟨v, h1, h2⟩, h3, h4⟩ := h
  refine ⟨⟨v, h1.kept hg (fun e => by have := (hr _ e.symm).1; omega), h2.kept hg ?_⟩, h3.grown hg h3.size (fun j ej => by have := (hr _ ej).1; omega), Nat.le_trans h4 hg.size⟩
  rcases h2.2 with ⟨rfl, _⟩ | ⟨g, cap, cur, rfl, _, hgb, _⟩
  · exact .inl rfl
  · refine .inr fun e' => ?_
    obtain ⟨_, o, ho, hc⟩ := hr g e'.symm
    rw [hgb] at ho; cases ho; cases hc
theorem GI.below {w : World} {k : Nat} {W W' : World} (h : GI w k W) (hb : Below W.heap.size W W') : GI w k W' := by
  obtain ⟨⟨v, h1, h2⟩, h3, h4⟩ := h
  exact ⟨⟨v, (hb.block _ h1.lt).trans h1, own_below h2 hb⟩, h3.trans (hb.mono h3.size), Nat.le_trans h4 hb.size⟩
theorem GI.own {w : World} {k : Nat} {W : World} (h : GI w k W) (x : Value) : GI w k (W.setCell ⟨w.heap.size + 1, 0, none⟩ x) := by
  obtain ⟨⟨v, h1, h2⟩, h3, h4⟩ := h
  exact ⟨⟨v, h1.other (by omega) _, ownsRow_setCell_below h2 (by show w.heap.size + 1 < w.heap.size + 4; omega) _⟩, h3.setCell (p := ⟨w.heap.size + 1, 0, none⟩) (by show w.heap.size ≤ w.heap.size + 1; omega) _, Nat.le_trans h4 (KeepsOthers.setCell W _ x).size⟩
/-- A round: the store behind an append. -/
theorem GI.step {w : World} {k c : Nat} {W w1 : World} {v v' : Value} {tmp : Obj} (h : GI w k W) (hv : Boxed W w.heap.size 46 v) (hrow : W.ownsRow (w.heap.size + 4) 5 1 v k (cellsB (lettersL.take k)))
    (htk : lettersL.take (k + 1) = lettersL.take k ++ [c]) (hown' : w1.ownsRow (w.heap.size + 4) 5 1 v' (k + 1) (cellsB (lettersL.take k) ++ [.int .u8 (c : Int)])) (hgrow : (W.drew.alloc tmp).grownBy w1 v.ownBlock) :
    w1.cell? ⟨w.heap.size, 0, none⟩ = some v ∧ w1.frozen? ⟨w.heap.size, 0, none⟩ = false ∧ ∀ B, KeepsFrom B W (w1.setCell ⟨w.heap.size, 0, none⟩ v') ∧ Sp.KeepB (w.heap.size + 1) W (w1.setCell ⟨w.heap.size, 0, none⟩ v') ∧ GI w (k + 1) (w1.setCell ⟨w.heap.size, 0, none⟩ v') := by
  obtain ⟨_, h4, h5⟩ := h
  have hkeep : ∀ i, i < w.heap.size + 4 → w1.heap[i]? = W.heap[i]? := fun i hk =>
    (hgrow.block i (by simp; omega) (fun e => by have := (hrow.lt _ e.symm).1; omega)).trans (Below.heap_alloc W.drew _ _ (by show i < W.heap.size; omega))
  have b1 : Boxed w1 w.heap.size 46 v := (hkeep _ (by omega)).trans hv
  have hb0 : Below w.heap.size W w1 := ((Below.refl w.heap.size W).drew.alloc (by show w.heap.size ≤ W.heap.size; omega) _).grown hgrow (by show w.heap.size ≤ (W.drew.alloc tmp).heap.size; simp; omega) (fun j ej => by have := (hrow.lt j ej).1; omega)
  have hbW := hb0.setCell (p := ⟨w.heap.size, 0, none⟩) (Nat.le_refl _) v'
  refine ⟨b1.cell, b1.frozen, fun B => ⟨?_, fun i h1 h2 => ?_, ⟨v', b1.set v', ?_⟩, h4.trans hbW, Nat.le_trans h5 hbW.size⟩⟩
  · refine ((((KeepsOthers.drew W).trans (KeepsOthers.alloc _ tmp)).trans (KeepsOthers.of_grownBy hgrow fun j o ej hj => ?_)).trans (KeepsOthers.setCell _ _ _)).from _
    rcases (hrow.drew.alloc tmp).2 with ⟨rfl, _⟩ | ⟨g, cap, cur, rfl, _, hgb, _⟩
    · simp [Value.ownBlock] at ej
    · obtain rfl : g = j := by simpa [Value.ownBlock] using ej
      rw [hgb] at hj; cases hj; rfl
  · rw [Below.heap_setCell _ _ _ _ (show i ≠ w.heap.size by omega)]
    exact hkeep i (by omega)
  · rw [htk, cellsB_snoc]
    exact ownsRow_setCell_below hown' (show w.heap.size < w.heap.size + 4 by omega) _
theorem letter_take : ∀ k : Fin 13, lettersL.take (k.val + 1) = lettersL.take k.val ++ [letterN k.val] := by decide +kernel

set_option maxRecDepth 100000 in
set_option maxHeartbeats 2000000 in
/-- lex.Letters -/
theorem letters_any (w : World) : Calls Tryd.prog 13 #[] w fun e w' => e = .returned (.string lettersS) ∧ Below w.heap.size w w' := by
  have hfn : ∀ f, Fence.wide.fn f := fun _ => trivial
  obtain ⟨i0, hi, hz0, hz1, hz2⟩ := info_parts infoByte
  refine (callsIn_wide (n := 3)).1 ?_
  refine callsIn_of_wp_marks Tryd.func13 rfl trivial ?_ rfl
  simp only [Tryd.ntmps13, List.size_toArray, List.length_nil, Nat.reduceSub, Array.replicate_succ, Array.replicate_zero, List.push_toArray, List.append_toArray, List.nil_append, List.cons_append]
  gi_wp2_with (gi_at_call 24; refine (callsIn_wide.2 (Sp.split0_any 32 namesS _)).mono ?_; rintro e w' ⟨rfl, rfl⟩)
  obtain ⟨W0, hW0⟩ : ∃ W0, ((((w.alloc (.cells #[.slice none 0 0] 46)).alloc (.cells #[.string namesS] 9)).alloc (.cells #[.string { data := #[32] }] 9)).alloc (.cells #[.int .i64 0] 3)) = W0 := ⟨_, rfl⟩
  have hsz : W0.heap.size = w.heap.size + 4 := by rw [← hW0]; simp
  have hP0 : GI w 0 W0 := by
    rw [← hW0]
    exact ⟨⟨.slice none 0 0, (((Boxed.new w _ _).alloc _).alloc _).alloc _, show World.ownsRow _ _ _ _ _ 0 [] from World.ownsRow_nil _ _ _ _⟩, ((((Below.refl _ w).alloc (Nat.le_refl _) _).alloc (by simp) _).alloc (by simp; omega) _).alloc (by simp; omega) _, by simp⟩
  have hX0 : Sp.Boxes 32 (w.heap.size + 1) namesS W0 := by
    have hz : (w.alloc (.cells #[.slice none 0 0] 46)).heap.size = w.heap.size + 1 := by simp
    obtain ⟨V, hV⟩ : ∃ V, (w.alloc (.cells #[.slice none 0 0] 46)) = V := ⟨_, rfl⟩
    rw [hV] at hz hW0
    rw [← hW0, ← hz]
    have x1 := ((Boxed.new V 9 (.string namesS)).alloc (.cells #[.string { data := #[32] }] 9)).alloc (.cells #[.int .i64 0] 3)
    have x2 := (Boxed.new (V.alloc (.cells #[.string namesS] 9)) 9 (.string { data := #[32] })).alloc (.cells #[.int .i64 0] 3)
    have x3 := Boxed.new ((V.alloc (.cells #[.string namesS] 9)).alloc (.cells #[.string { data := #[32] }] 9)) 3 (.int .i64 0)
    rw [World.size_alloc] at x2
    rw [World.size_alloc, World.size_alloc] at x3
    exact ⟨x1.cell, x1.frozen, x2.cell, x3.cell⟩
  rw [hW0]
  clear hW0
  refine Ra.wpIn_range_made (own := fun a => a = ⟨w.heap.size + 1, 0, none⟩) (by omega) (gf := 31) (fa := #[]) (lb := #[.pointer (some ⟨w.heap.size + 1 + 1, 0, none⟩), .pointer (some ⟨w.heap.size + 1, 0, none⟩), .pointer (some ⟨w.heap.size + 1 + 2, 0, none⟩)]) rfl (enters_of Tryd.func31 (by kernel_rfl) rfl) (fun a ha => by subst ha; show w.heap.size + 1 < W0.heap.size; omega)
    (Sp.split_hands 32 2 (w.heap.size + 1) namesS (by decide) W0 (by omega) hX0) Sp.KeepB.trans (Sp.keepB_b (by omega)) (fun _ _ _ _ h => h) (fun _ => rfl)
    (fun pre W => GI w pre.length W) (fun _ _ => False)
    (fun pre A B' row hs hg hr => GI.turn hs hg (fun r e => by have := hr r e; exact ⟨by omega, this.2⟩))
    (fun _ _ _ _ hs _ _ => hs)
    (fun pre V a v ha hs => by subst ha; exact GI.own hs v)
    (fun pre V V' hb hs => GI.below hs hb)
    hP0
    (fun x => { tmps := #[.string { data := #[] }, .pointer (some ⟨w.heap.size, 0, none⟩), .string (namesS.extract x.1.1 x.1.2),
      .func (.func 31) #[] #[.pointer (some ⟨w.heap.size + 1 + 1, 0, none⟩), .pointer (some ⟨w.heap.size + 1, 0, none⟩), .pointer (some ⟨w.heap.size + 1 + 2, 0, none⟩)],
      .string (namesS.extract x.1.1 x.1.2), undef, undef, undef, undef, undef, undef, undef], defers := [] }) ?assign ?body ?done ?stop
  case assign =>
    intro l x W K hK
    dsimp only [Sp.encP]
    gi_wp2
    exact hK
  case body =>
    rintro l pre x W hI hpre
    obtain ⟨hk, hx⟩ := names_at hpre
    have hx' : namesS.extract x.1.1 x.1.2 = nameS (letterN pre.length) := hx
    obtain ⟨l1, l2, l3, l4⟩ := lastN ⟨_, hk⟩
    simp only [] at l1 l2 l3 l4
    have htk := letter_take ⟨_, hk⟩
    simp only [] at htk
    obtain ⟨k, hk'⟩ : ∃ k, pre.length = k := ⟨_, rfl⟩
    rw [hk'] at hk hx' hI l1 l2 l3 l4 htk
    have HPL := Lib.hid (show (pre ++ [x]).length = k + 1 by rw [List.length_append, hk']; rfl)
    obtain ⟨c, hc⟩ : ∃ c, letterN k = c := ⟨_, rfl⟩
    obtain ⟨t, ht⟩ : ∃ t, nameS (letterN k) = t := ⟨_, rfl⟩
    rw [ht] at l1 l2 l3
    rw [hc] at l1 l4 htk
    rw [hx', ht]
    have HL1 := Lib.hid l1
    have HTK := Lib.hid htk
    clear hx hx' hk' ht hpre l1 htk hc
    obtain ⟨⟨v, b1, b2⟩, hB2, hsW⟩ := id hI
    have c1 := b1.cell
    have f1 := b1.frozen
    obtain ⟨v', w1, hrun, hown', hgrow, -⟩ := run_append_own_at (P := Tryd.prog) (W.drew.alloc (.cells #[.int .u8 (c : Int)] 5)) (w.heap.size + 4) 46 46 5 i0 (.int .u8 0) 1 1 Tryd.underlying46 hi hz0 hz1 hz2 rfl (by decide) v k _ (b2.drew.alloc _) ⟨W.heap.size, 0, none⟩ 1 1 [.int .u8 (c : Int)] rfl (cell_one_new _ _ _) (by simp [Value.oneCell']) (by unfold maxLen; omega) (by omega) (by simp; omega)
    have hS := hI.step b1 b2 HTK.out hown' hgrow
    obtain ⟨g', cap', rfl⟩ := ownsRow_succ hown'
    have e1 := hS.1
    have e2 := hS.2.1
    have HS := Lib.hid (hS.2.2 W0.heap.size)
    clear hS hown' hgrow b2 hI
    have HR := Lib.hid hrun
    clear hrun
    have hlt9 : w.heap.size < W.heap.size := by omega
    gi_wp2
    refine wpIn_region_any (by kernel_rfl) ?_
    change wpAnyIn _ _ _ _ _ _ _ _ _ (World.drew _)
    refine wpAnyIn_ready (rs := [0, 1]) (by kernel_rfl) (by simp) ?_
    refine AllReadyIn.cons rfl (fun K hK => ?_) ?_
    · skip
      go_simp
      refine hK _ _ ?_
      clear hK K
      refine wpAnyIn_ready (rs := [1]) (by kernel_rfl) (by simp) ?_
      refine AllReadyIn.cons rfl (fun K hK => ?_) ?_
      · skip
        go_simp
        refine hK _ _ ?_
        clear hK K
        refine wpAnyIn_ready (rs := [2]) (by kernel_rfl) (by simp) ?_
        refine AllReadyIn.cons rfl (fun K hK => ?_) ?_
        · skip
          go_simp
          gi_wp2_with (refine (CallsIn.inRound l (callsIn_wide.2 (letterOf_at t c l2 (by omega) HL1.out W.drew))).mono ?_; rintro e w' ⟨rfl, rfl⟩)
          refine wpAnyIn_ready (rs := [3]) (by kernel_rfl) (by simp) ?_
          refine AllReadyIn.cons rfl (fun K hK => ?_) ?_
          · skip
            go_simp
            refine hK _ _ ?_
            clear hK K
            refine wpAnyIn_ready (rs := [4]) (by kernel_rfl) (by simp) ?_
            refine AllReadyIn.cons rfl (fun K hK => ?_) ?_
            · skip
              refine Ra.stepIn_append_run rfl _ _ _ rfl _ _ rfl rfl _ _ HR.out ?_
              refine hK _ _ ?_
              clear hK K
              refine wpAnyIn_ready (rs := [5]) (by kernel_rfl) (by simp) ?_
              refine AllReadyIn.cons rfl (fun K hK => ?_) ?_
              · skip
                go_simp
                refine hK _ _ ?_
                clear hK K
                refine wpAnyIn_done (by kernel_rfl) ?_ _
                gi_wp2
                refine ⟨HS.out.1, HS.out.2.1, ?_⟩
                show GI w (pre ++ [x]).length _
                rw [HPL.out]
                exact HS.out.2.2
              exact AllReadyIn.nil
            exact AllReadyIn.nil
          exact AllReadyIn.nil
        exact AllReadyIn.nil
      exact AllReadyIn.nil
    refine AllReadyIn.cons rfl (fun K hK => ?_) ?_
    · skip
      go_simp
      refine hK _ _ ?_
      clear hK K
      refine wpAnyIn_ready (rs := [0, 2]) (by kernel_rfl) (by simp) ?_
      refine AllReadyIn.cons rfl (fun K hK => ?_) ?_
      · skip
        go_simp
        refine hK _ _ ?_
        clear hK K
        refine wpAnyIn_ready (rs := [2]) (by kernel_rfl) (by simp) ?_
        refine AllReadyIn.cons rfl (fun K hK => ?_) ?_
        · skip
          go_simp
          gi_wp2_with (refine (CallsIn.inRound l (callsIn_wide.2 (letterOf_at t c l2 (by omega) HL1.out W.drew))).mono ?_; rintro e w' ⟨rfl, rfl⟩)
          refine wpAnyIn_ready (rs := [3]) (by kernel_rfl) (by simp) ?_
          refine AllReadyIn.cons rfl (fun K hK => ?_) ?_
          · skip
            go_simp
            refine hK _ _ ?_
            clear hK K
            refine wpAnyIn_ready (rs := [4]) (by kernel_rfl) (by simp) ?_
            refine AllReadyIn.cons rfl (fun K hK => ?_) ?_
            · skip
              refine Ra.stepIn_append_run rfl _ _ _ rfl _ _ rfl rfl _ _ HR.out ?_
              refine hK _ _ ?_
              clear hK K
              refine wpAnyIn_ready (rs := [5]) (by kernel_rfl) (by simp) ?_
              refine AllReadyIn.cons rfl (fun K hK => ?_) ?_
              · skip
                go_simp
                refine hK _ _ ?_
                clear hK K
                refine wpAnyIn_done (by kernel_rfl) ?_ _
                gi_wp2
                refine ⟨HS.out.1, HS.out.2.1, ?_⟩
                show GI w (pre ++ [x]).length _
                rw [HPL.out]
                exact HS.out.2.2
              exact AllReadyIn.nil
            exact AllReadyIn.nil
          exact AllReadyIn.nil
        exact AllReadyIn.nil
      refine AllReadyIn.cons rfl (fun K hK => ?_) ?_
      · skip
        go_simp
        gi_wp2_with (refine (CallsIn.inRound l (callsIn_wide.2 (letterOf_at t c l2 (by omega) HL1.out W.drew))).mono ?_; rintro e w' ⟨rfl, rfl⟩)
        refine wpAnyIn_ready (rs := [0, 3]) (by kernel_rfl) (by simp) ?_
        refine AllReadyIn.cons rfl (fun K hK => ?_) ?_
        · skip
          go_simp
          refine hK _ _ ?_
          clear hK K
          refine wpAnyIn_ready (rs := [3]) (by kernel_rfl) (by simp) ?_
          refine AllReadyIn.cons rfl (fun K hK => ?_) ?_
          · skip
            go_simp
            refine hK _ _ ?_
            clear hK K
            refine wpAnyIn_ready (rs := [4]) (by kernel_rfl) (by simp) ?_
            refine AllReadyIn.cons rfl (fun K hK => ?_) ?_
            · skip
              refine Ra.stepIn_append_run rfl _ _ _ rfl _ _ rfl rfl _ _ HR.out ?_
              refine hK _ _ ?_
              clear hK K
              refine wpAnyIn_ready (rs := [5]) (by kernel_rfl) (by simp) ?_
              refine AllReadyIn.cons rfl (fun K hK => ?_) ?_
              · skip
                go_simp
                refine hK _ _ ?_
                clear hK K
                refine wpAnyIn_done (by kernel_rfl) ?_ _
                gi_wp2
                refine ⟨HS.out.1, HS.out.2.1, ?_⟩
                show GI w (pre ++ [x]).length _
                rw [HPL.out]
                exact HS.out.2.2
              exact AllReadyIn.nil
            exact AllReadyIn.nil
          exact AllReadyIn.nil
        refine AllReadyIn.cons rfl (fun K hK => ?_) ?_
        · skip
          go_simp
          refine hK _ _ ?_
          clear hK K
          refine wpAnyIn_ready (rs := [0]) (by kernel_rfl) (by simp) ?_
          refine AllReadyIn.cons rfl (fun K hK => ?_) ?_
          · skip
            go_simp
            refine hK _ _ ?_
            clear hK K
            refine wpAnyIn_ready (rs := [4]) (by kernel_rfl) (by simp) ?_
            refine AllReadyIn.cons rfl (fun K hK => ?_) ?_
            · skip
              refine Ra.stepIn_append_run rfl _ _ _ rfl _ _ rfl rfl _ _ HR.out ?_
              refine hK _ _ ?_
              clear hK K
              refine wpAnyIn_ready (rs := [5]) (by kernel_rfl) (by simp) ?_
              refine AllReadyIn.cons rfl (fun K hK => ?_) ?_
              · skip
                go_simp
                refine hK _ _ ?_
                clear hK K
                refine wpAnyIn_done (by kernel_rfl) ?_ _
                gi_wp2
                refine ⟨HS.out.1, HS.out.2.1, ?_⟩
                show GI w (pre ++ [x]).length _
                rw [HPL.out]
                exact HS.out.2.2
              exact AllReadyIn.nil
            exact AllReadyIn.nil
          exact AllReadyIn.nil
        exact AllReadyIn.nil
      exact AllReadyIn.nil
    exact AllReadyIn.nil
  case done =>
    rintro D W hD hI _ hK
    rw [names_len] at hI
    obtain ⟨⟨v, b1, b2⟩, hB, hsW⟩ := hI
    have c1 := b1.cell
    have hback := back_of_rowB (lettersL.take 13) (by decide) b2
    rw [show bytesOf (lettersL.take 13) = lettersS from by decide +kernel] at hback
    have HBD := Lib.hid (hB.trans (belowK_b (w := w) (Nat.le_refl _) W D _ (.deferred none) (by omega) hK rfl rfl))
    clear b1 b2 hB
    gi_wp2
    refine ⟨by simp, .inl ⟨_, _, rfl, run_takeDeferred hK, ?_⟩⟩
    refine ⟨.string lettersS, ?_, rfl, HBD.out⟩
    simp [results, Tryd.f13, go_sem]
  case stop =>
    rintro D pre W hD hpre h hK
    exact absurd h id
end Go.Proofs.YtgdealdpphcamaaDoor.Lx
