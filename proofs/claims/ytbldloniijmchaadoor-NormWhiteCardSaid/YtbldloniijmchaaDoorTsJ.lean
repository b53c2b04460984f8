/-
  The landed tree's ranks, walked; noneOpen.
-/
import Derived.Test.YtbldloniijmchaaDoorTsI
namespace Go.Proofs.YtbldloniijmchaaDoor.Tr
open Go.RowKit

def groupsA : Array Value := #[.string { data := #[95] }, .string { data := #[49, 50, 51, 112, 108, 116, 107] }, .int .i64 1, .string { data := #[49, 50, 51, 112, 99, 110, 101, 115] }, .string { data := #[46, 101, 115, 110] }, .int .i64 1, .string { data := #[108] }, .string { data := #[105] }, .int .i64 1,
  .string { data := #[105] }, .string { data := #[46, 101, 115, 110] }, .int .i64 1, .string { data := #[105] }, .string { data := #[108] }, .int .i64 2, .string { data := #[116] }, .string { data := #[114] }, .int .i64 1, .string { data := #[114] }, .string { data := #[99] }, .int .i64 1]
theorem groupsA_eq : groupsA.toList = Ba.rows cG groups := rfl
/-- The map in block B, the row of groups in the next one. -/
structure RkW (w wr : World) (n : Nat) (f : Nat → Nat → Nat) : Prop where
  below : Below w.heap.size w wr
  map : Ts.MapIs wr w.heap.size n f
  row : wr.heap[w.heap.size + 1]? = some (.cells groupsA 102 (0, 0))
  size : w.heap.size + 2 ≤ wr.heap.size
theorem RkW.cell {w wr : World} {n : Nat} {f : Nat → Nat → Nat} (h : RkW w wr n f) {k : Nat} {g : Gr} (hg : groups[k]? = some g) :
    wr.cell? ⟨w.heap.size + 1, k * 3, none⟩ = some (.string g.outs) ∧ wr.cell? ⟨w.heap.size + 1, k * 3 + 1, none⟩ = some (.string g.inns) ∧ wr.cell? ⟨w.heap.size + 1, k * 3 + 2, none⟩ = some (.int .i64 (g.rank : Int)) := by
  have key : ∀ j, j < 3 → wr.cell? ⟨w.heap.size + 1, k * 3 + j, none⟩ = (cG g)[j]? := fun j hj => by
    have e : wr.cell? ⟨w.heap.size + 1, k * 3 + j, none⟩ = groupsA[k * 3 + j]? := by rw [World.cell?, h.row]; simp
    rw [e, ← Ba.rows_at cG cG_len groups k g hg j hj, ← groupsA_eq, Array.getElem?_toList]
  exact ⟨key 0 (by omega), key 1 (by omega), key 2 (by omega)⟩
/-- A new variable for a group. -/
structure RkB (w wr : World) (X : Nat) (g : Gr) (n : Nat) (f : Nat → Nat → Nat) : Prop where
  base : RkW w wr n f
  gt : w.heap.size + 2 ≤ X
  x0 : wr.cell? ⟨X, 0, none⟩ = some (.string g.outs)
  x1 : wr.cell? ⟨X, 1, none⟩ = some (.string g.inns)
  x2 : wr.cell? ⟨X, 2, none⟩ = some (.int .i64 (g.rank : Int))
theorem RkW.box {w wr : World} {n : Nat} {f : Nat → Nat → Nat} (h : RkW w wr n f) (g : Gr) (t : TypeId) (f' : Nat → Nat → Nat) (hf : f = f') : RkB w (wr.alloc (.cells #[.string g.outs, .string g.inns, .int .i64 (g.rank : Int)] t)) wr.heap.size g n f' := by
  subst hf
  have hb := (Below.refl wr.heap.size wr).alloc (Nat.le_refl _) (.cells #[.string g.outs, .string g.inns, .int .i64 (g.rank : Int)] t)
  have h2 := h.size
  refine ⟨⟨h.below.trans (hb.mono (by omega)), h.map.of_block (hb.block _ (by omega)), (hb.block _ (by omega)).trans h.row, Nat.le_trans h2 hb.size⟩, h2, ?_, ?_, ?_⟩ <;> simp
theorem RkB.drewN {w wr : World} {X : Nat} {g : Gr} {n : Nat} {f : Nat → Nat → Nat} (h : RkB w wr X g n f) (k : Nat) : RkB w (wr.drewN k) X g n f :=
  ⟨⟨⟨h.base.below.os, h.base.below.tape, h.base.below.output, h.base.below.size, h.base.below.block⟩, h.base.map.of_block rfl, h.base.row, h.base.size⟩, h.gt, h.x0, h.x1, h.x2⟩
/-- A store into the map. -/
theorem RkB.put {w wr : World} {X : Nat} {g : Gr} {n : Nat} {f f' : Nat → Nat → Nat} (h : RkB w wr X g n f) (hn : n < 100000) {a b : Nat} (ha : a < 256) (hb : b < 256) (hr : g.rank < 1000) (hf : Ts.upd f a b g.rank = f') :
    ∃ w', (Instr.mapUpdate 44 (.map (some w.heap.size)) (.agg #[.int .u8 (a : Int), .int .u8 (b : Int)]) (.int .i64 (g.rank : Int))).run Tryd.prog wr = .ok () w' ∧ RkB w w' X g (n + 1) f' := by
  subst hf
  obtain ⟨w', e1, e2, e3⟩ := h.base.map.put hn ha hb hr
  have hX : ∀ i v, wr.cell? ⟨X, i, none⟩ = some v → w'.cell? ⟨X, i, none⟩ = some v := fun i v hv => e3.cell hv (fun e => by have := h.gt; simp at e; omega)
  have hs := h.base.size
  refine ⟨w', e1, ⟨⟨h.base.below.grown e3 (by omega) (fun k hk => by cases hk; exact Nat.le_refl _), e2, (e3.block _ (by omega) (fun e => by simp at e)).trans h.base.row, Nat.le_trans hs e3.size⟩, h.gt, hX 0 _ h.x0, hX 1 _ h.x1, hX 2 _ h.x2⟩⟩

set_option maxRecDepth 100000 in
set_option maxHeartbeats 8000000 in
/-- ranks -/
theorem ranks_at (w : World) : Calls Tryd.prog 31 #[] w fun e w' => e = .returned (.map (some w.heap.size)) ∧ (∃ n, Ts.MapIs w' w.heap.size n rk) ∧ Below w.heap.size w w' ∧ w.heap.size < w'.heap.size := by
  have hmm := @run_makeMap Tryd.prog
  go_enter Tryd.func31, Tryd.ntmps31
  go_wp2
  have h0 : RkW w ((w.alloc (.map #[] 0)).alloc (.cells groupsA 102)) 0 fun _ _ => 0 := by
    have hb1 := (Below.refl w.heap.size w).alloc (Nat.le_refl _) (.map #[] 0)
    have hb2 := hb1.alloc (by simp) (.cells groupsA 102)
    refine ⟨hb2, (Ts.MapIs.new w).of_block (Below.heap_alloc _ _ _ (by simp)), ?_, by simp⟩
    have := heap_alloc_new (w.alloc (.map #[] 0)) (.cells groupsA 102)
    simpa using this
  rw [show #[Value.string { data := #[95] }, .string { data := #[49, 50, 51, 112, 108, 116, 107] }, .int .i64 1, .string { data := #[49, 50, 51, 112, 99, 110, 101, 115] }, .string { data := #[46, 101, 115, 110] }, .int .i64 1, .string { data := #[108] }, .string { data := #[105] }, .int .i64 1,
    .string { data := #[105] }, .string { data := #[46, 101, 115, 110] }, .int .i64 1, .string { data := #[105] }, .string { data := #[108] }, .int .i64 2, .string { data := #[116] }, .string { data := #[114] }, .int .i64 1, .string { data := #[114] }, .string { data := #[99] }, .int .i64 1] = groupsA from rfl]
  generalize (w.alloc (.map #[] 0)).alloc (.cells groupsA 102) = w0 at h0 ⊢
  have H0 := Lib.hid h0
  clear h0
  go_loopw [16] (fun i wr => ∃ k n : Nat, k ≤ 7 ∧ i = .int .i64 k ∧ n ≤ 64 * k ∧ RkW w wr n (fK k)) (fun i _ => 7 - (intOf i).toNat)
  case atStart => exact ⟨0, 0, by omega, rfl, by omega, H0.out⟩
  case round =>
    obtain ⟨k, n, hk, rfl, hn, hR⟩ := hrel
    by_cases hlt : k < 7
    · obtain ⟨g, hg⟩ := some_at (l := groups) (i := k) hlt
      obtain ⟨g1, g2, g3⟩ := groups_ok g (List.mem_of_getElem? hg)
      obtain ⟨c0, c1, c2⟩ := hR.cell hg
      have hB := hR.box g 102 (fG g (fK k) 0 0) (fG_zero g (fK k)).symm
      have HG := Lib.hid (fK_step hg)
      have HE := Lib.hid (fG_end g (fK k))
      have HN := Lib.hid (fun (i : Nat) (h : i < g.outs.size) => fG_next g (fK k) h)
      have HU := Lib.hid (fun (i j : Nat) (h : i < g.outs.size) (h' : j < g.inns.size) => fG_step g (fK k) h h')
      obtain ⟨X, hX⟩ : ∃ X, wr.heap.size = X := ⟨_, rfl⟩
      rw [hX] at hB
      have j0 : (0 : Int) ≤ (k : Int) := by omega
      have j1 : (k : Int) < 7 := by omega
      clear hg hR
      have HB := Lib.hid hB
      clear hB
      go_wp2
      generalize (wr.alloc (.cells #[.string g.outs, .string g.inns, .int .i64 (g.rank : Int)] 102)) = w1 at HB ⊢
      have x0 := HB.out.x0
      clear c0 c1 c2 hX
      go_loopw [23] (fun i wr => ∃ i2 n2 : Nat, i2 ≤ g.outs.size ∧ i = .int .i64 i2 ∧ n2 ≤ n + 8 * i2 ∧ RkB w wr X g n2 (fG g (fK k) i2 0)) (fun i _ => g.outs.size - (intOf i).toNat)
      case atStart => exact ⟨0, n, by omega, rfl, by omega, HB.out⟩
      case round =>
        obtain ⟨i2, n2, hi2, rfl, hn2, hR2⟩ := hrel
        by_cases hlt2 : i2 < g.outs.size
        · have x1 := hR2.x1
          have HR2 := Lib.hid hR2
          clear hR2
          go_wp2
          go_loopw [29] (fun i wr => ∃ j n3 : Nat, j ≤ g.inns.size ∧ i = .int .i64 j ∧ n3 ≤ n2 + j ∧ RkB w wr X g n3 (fG g (fK k) i2 j)) (fun i _ => g.inns.size - (intOf i).toNat)
          case atStart => exact ⟨0, n2, by omega, rfl, by omega, HR2.out⟩
          case round =>
            obtain ⟨j, n3, hj, rfl, hn3, hR3⟩ := hrel
            by_cases hlt3 : j < g.inns.size
            · obtain ⟨y0, y1, y2⟩ := And.intro hR3.x0 (And.intro hR3.x1 hR3.x2)
              have E1 := Lx.bAt_get g.outs i2 hlt2
              have E2 := Lx.bAt_get g.inns j hlt3
              have l1 := Lx.bAt_lt g.outs i2
              have l2 := Lx.bAt_lt g.inns j
              obtain ⟨w5, hrun, h5⟩ := (hR3.drewN 1).put (by omega) l1 l2 g3 (HU.out i2 j hlt2 hlt3)
              have hrun' : (Instr.mapUpdate 44 (.map (some w.heap.size)) (.agg #[.int .u8 (Lx.bAt g.outs i2 : Int), .int .u8 (Lx.bAt g.inns j : Int)]) (.int .i64 (g.rank : Int))).run Tryd.prog wr.drew = .ok () w5 := hrun
              have z0 := And.intro h5.x0 (And.intro h5.x1 h5.x2)
              have H5 := Lib.hid h5
              clear hrun h5 hR3
              go_wp2
              go_region_held3 (fun w' => w'.cell? ⟨X, 0, none⟩ = some (.string g.outs) ∧ w'.cell? ⟨X, 1, none⟩ = some (.string g.inns) ∧ w'.cell? ⟨X, 2, none⟩ = some (.int .i64 (g.rank : Int)))
                (first | exact ⟨y0, y1, y2⟩ | exact z0) (first | fail)
              all_goals go_wp2
              all_goals exact ⟨⟨j + 1, n3 + 1, by omega, by go_num, by omega, H5.out⟩, by simp [intOf]; omega⟩
            · obtain rfl : j = g.inns.size := by omega
              have H3 := Lib.hid (show RkB w _ X g n3 (fG g (fK k) (i2 + 1) 0) from HN.out i2 hlt2 ▸ hR3)
              go_wp2
              go_roundw
              case rel => exact ⟨i2 + 1, n3, by omega, by go_num, by omega, H3.out⟩
              case measure => simp [intOf]; omega
        · obtain rfl : i2 = g.outs.size := by omega
          have H3 := Lib.hid (show RkB w _ X g n2 (fK (k + 1)) from HG.out ▸ HE.out ▸ hR2)
          go_wp2
          go_roundw
          case rel => exact ⟨k + 1, n2, by omega, by go_num, by omega, H3.out.base⟩
          case measure => simp [intOf]; omega
    · obtain rfl : k = 7 := by omega
      have H3 := Lib.hid hR
      go_wp2
      go_ret
      refine ⟨rfl, ⟨n, ?_⟩, H3.out.below, by have := H3.out.size; omega⟩
      obtain ⟨D, d1, d2⟩ := H3.out.map
      exact ⟨D, d1, fun a b ha hb => by rw [d2 a b ha hb, fK_rk ha hb]⟩

theorem infoLv0 : cL lv0 = [.int .u8 95, .int .i64 0, .int .i64 0, .int .i64 0, .int .i64 0, .int .i64 0, .bool false, .int .i64 0] := rfl
theorem res_facts {w W w5 : World} (hb5 : Below W.heap.size W w5) (hW : w.heap.size < W.heap.size) (c0 : W.cell? ⟨w.heap.size, 0, none⟩ = some (.map none)) (c1 : W.cell? ⟨w.heap.size, 1, none⟩ = some (.slice none 0 0)) (c2 : W.cell? ⟨w.heap.size, 2, none⟩ = some (.int .i64 0)) (c3 : W.cell? ⟨w.heap.size, 3, none⟩ = some (.bool false)) (c4 : W.cell? ⟨w.heap.size, 4, none⟩ = some (.bool false)) (cf : ∀ i, W.frozen? ⟨w.heap.size, i, none⟩ = false) :
    w5.cell? ⟨w.heap.size, 0, none⟩ = some (.map none) ∧ w5.cell? ⟨w.heap.size, 1, none⟩ = some (.slice none 0 0) ∧ w5.cell? ⟨w.heap.size, 2, none⟩ = some (.int .i64 0) ∧ w5.cell? ⟨w.heap.size, 3, none⟩ = some (.bool false) ∧ w5.cell? ⟨w.heap.size, 4, none⟩ = some (.bool false) ∧ (∀ i, w5.frozen? ⟨w.heap.size, i, none⟩ = false) ∧ w.heap.size < w5.heap.size :=
  ⟨(hb5.cell (p := ⟨w.heap.size, 0, none⟩) hW).trans c0, (hb5.cell (p := ⟨w.heap.size, 1, none⟩) hW).trans c1, (hb5.cell (p := ⟨w.heap.size, 2, none⟩) hW).trans c2, (hb5.cell (p := ⟨w.heap.size, 3, none⟩) hW).trans c3, (hb5.cell (p := ⟨w.heap.size, 4, none⟩) hW).trans c4,
   fun i => (hb5.frozen (p := ⟨w.heap.size, i, none⟩) hW).trans (cf i), Nat.lt_of_lt_of_le hW hb5.size⟩
/-- Nothing but block R has turned. -/
structure Turned (R : Nat) (a b : World) : Prop where
  block : ∀ k, k ≠ R → b.heap[k]? = a.heap[k]?
  size : b.heap.size = a.heap.size
  os : b.os = a.os
  tape : b.tape = a.tape
  output : b.output = a.output
theorem Turned.step {R : Nat} {a b : World} (h : Turned R a b) (i : Nat) (v : Value) : Turned R a (b.setCell ⟨R, i, none⟩ v) :=
  ⟨fun k hk => (Below.heap_setCell b ⟨R, i, none⟩ v k hk).trans (h.block k hk), by rw [← h.size]; simp, h.os, h.tape, h.output⟩
theorem five (a : World) (R : Nat) (v0 v1 v2 v3 v4 : Value) : Turned R a (((((a.setCell ⟨R, 0, none⟩ v0).setCell ⟨R, 1, none⟩ v1).setCell ⟨R, 2, none⟩ v2).setCell ⟨R, 3, none⟩ v3).setCell ⟨R, 4, none⟩ v4) :=
  (((((⟨fun _ _ => rfl, rfl, rfl, rfl, rfl⟩ : Turned R a a).step 0 v0).step 1 v1).step 2 v2).step 3 v3).step 4 v4
def lvO : Obj := .cells #[.int .u8 95, .int .i64 0, .int .i64 0, .int .i64 0, .int .i64 0, .int .i64 0, .bool false, .int .i64 0] 79
theorem none_a {w w5 V : World} {z : Obj} {n5 : Nat} (hb : Below (w.alloc z).drew.heap.size (w.alloc z).drew w5) (h5 : Ts.MapIs w5 (w.alloc z).drew.heap.size n5 rk) (hV : Turned w.heap.size w5 V) :
    Ts.MapIs (V.alloc lvO) (w.heap.size + 1) n5 rk ∧ (V.alloc lvO).ownsRow w.heap.size 79 8 (.slice (some ⟨w5.heap.size, 0, none⟩) 1 1) 1 (Ba.rows cL [lv0]) ∧ w5.heap.size ≠ w.heap.size + 1 ∧ w.heap.size ≤ w.heap.size + 1 ∧ Below w.heap.size w (V.alloc lvO) := by
  have e1 : (w.alloc z).drew.heap.size = w.heap.size + 1 := by simp
  rw [e1] at hb h5
  have hlt := h5.lt
  refine ⟨h5.of_block ((Below.heap_alloc V lvO _ (by rw [hV.size]; exact hlt)).trans (hV.block _ (by omega))), ?_, by omega, by omega, ?_⟩
  · have := World.ownsRow_lit (base := w.heap.size) (e := 79) (size := 8) V (cL lv0).toArray 1 (by rw [hV.size]; omega) (by decide) rfl
    rw [hV.size] at this
    exact this
  · refine ⟨hV.os.trans hb.os, hV.tape.trans hb.tape, hV.output.trans hb.output, ?_, fun k hk => ?_⟩
    · simp [hV.size]; omega
    · refine (Below.heap_alloc V lvO k (by rw [hV.size]; omega)).trans ((hV.block k (by omega)).trans ((hb.block k (by omega)).trans ?_))
      exact Below.heap_alloc w z k hk
theorem none_b {w w5 V : World} {z : Obj} {n5 : Nat} (hb : Below ((w.alloc z).alloc lvO).drew.heap.size ((w.alloc z).alloc lvO).drew w5) (h5 : Ts.MapIs w5 ((w.alloc z).alloc lvO).drew.heap.size n5 rk) (hV : Turned w.heap.size w5 V) :
    Ts.MapIs V (w.heap.size + 1 + 1) n5 rk ∧ V.ownsRow w.heap.size 79 8 (.slice (some ⟨w.heap.size + 1, 0, none⟩) 1 1) 1 (Ba.rows cL [lv0]) ∧ w.heap.size + 1 ≠ w.heap.size + 1 + 1 ∧ w.heap.size ≤ w.heap.size + 1 + 1 ∧ Below w.heap.size w V := by
  have e1 : ((w.alloc z).alloc lvO).drew.heap.size = w.heap.size + 1 + 1 := by simp
  rw [e1] at hb h5
  have hlt := h5.lt
  have hrow : V.heap[w.heap.size + 1]? = some lvO := by
    refine (hV.block _ (by omega)).trans ((hb.block _ (by omega)).trans ?_)
    have := heap_alloc_new (w.alloc z) lvO
    rw [World.size_alloc] at this
    exact this
  refine ⟨h5.of_block (hV.block _ (by omega)), ?_, by omega, by omega, ?_⟩
  · exact ⟨rfl, .inr ⟨w.heap.size + 1, 1, (cL lv0).toArray, rfl, by omega, hrow, Nat.le_refl _, by decide, rfl, rfl⟩⟩
  · refine ⟨hV.os.trans hb.os, hV.tape.trans hb.tape, hV.output.trans hb.output, ?_, fun k hk => ?_⟩
    · rw [hV.size]; omega
    · refine (hV.block k (by omega)).trans ((hb.block k (by omega)).trans ?_)
      exact (Below.heap_alloc (w.alloc z) lvO k (by simp; omega)).trans (Below.heap_alloc w z k hk)
set_option maxRecDepth 100000 in
set_option maxHeartbeats 8000000 in
/-- noneOpen -/
theorem none_at (w : World) : Calls Tryd.prog 17 #[] w fun e w' => ∃ M n L, e = .returned (.agg #[.map (some M), .slice (some ⟨L, 0, none⟩) 1 1, .int .i64 0, .bool false, .bool false]) ∧
    Ts.MapIs w' M n rk ∧ w'.ownsRow w.heap.size 79 8 (.slice (some ⟨L, 0, none⟩) 1 1) 1 (Ba.rows cL [lv0]) ∧ L ≠ M ∧ w.heap.size ≤ M ∧ Below w.heap.size w w' := by
  go_enter Tryd.func17, Tryd.ntmps17
  go_wp2
  have HR := Lib.hid (fun W => ranks_at W)
  go_region_law (first | (go_simp; go_at_call 31; refine (HR.out _).mono ?_; rintro e w5 ⟨rfl, ⟨n5, h5⟩, hb5, hs5⟩; obtain ⟨q0, q1, q2, q3, q4, qf, hlt5⟩ := res_facts (w := w) hb5 (by first | (simp; done) | (simp; omega)) (by simp) (by simp) (by simp) (by simp) (by simp) (fun i => by simp); replace h5 := Lib.hid h5; replace hb5 := Lib.hid hb5))
  · skip
    have HB5 := hb5.out
    have H5 := h5.out
    clear hb5 h5
    go_wp2
    refine bodyPost_ret (v := .agg #[.map (some _), .slice (some ⟨_, 0, none⟩) 1 1, .int .i64 0, .bool false, .bool false]) (by simp [results, Tryd.f17, go_sem, q0, q1, q2, q3, q4, hlt5]; exact ⟨rfl, rfl⟩) rfl ⟨_, n5, _, rfl, ?_⟩
    clear q0 q1 q2 q3 q4 qf hlt5
    have hV := five w5 w.heap.size (.map (some (w.heap.size + 1))) (.slice (some ⟨w5.heap.size, 0, none⟩) 1 1) (.int .i64 0) (.bool false) (.bool false)
    generalize ((((w5.setCell ⟨w.heap.size, 0, none⟩ (.map (some (w.heap.size + 1)))).setCell ⟨w.heap.size, 1, none⟩ (.slice (some ⟨w5.heap.size, 0, none⟩) 1 1)).setCell ⟨w.heap.size, 2, none⟩ (.int .i64 0)).setCell ⟨w.heap.size, 3, none⟩ (.bool false)).setCell ⟨w.heap.size, 4, none⟩ (.bool false) = V at hV ⊢
    have e95 : (Value.int .u8 (({ data := #[95] } : ByteArray)[0].toNat : Int)) = .int .u8 95 := rfl
    rw [e95]
    exact none_a HB5 H5 hV
  · skip
    have HB5 := hb5.out
    have H5 := h5.out
    clear hb5 h5
    go_wp2
    refine bodyPost_ret (v := .agg #[.map (some _), .slice (some ⟨_, 0, none⟩) 1 1, .int .i64 0, .bool false, .bool false]) (by simp [results, Tryd.f17, go_sem, q0, q1, q2, q3, q4, hlt5]; exact ⟨rfl, rfl⟩) rfl ⟨_, n5, _, rfl, ?_⟩
    clear q0 q1 q2 q3 q4 qf hlt5
    have hV := five w5 w.heap.size (.map (some (w.heap.size + 1))) (.slice (some ⟨w5.heap.size, 0, none⟩) 1 1) (.int .i64 0) (.bool false) (.bool false)
    generalize ((((w5.setCell ⟨w.heap.size, 0, none⟩ (.map (some (w.heap.size + 1)))).setCell ⟨w.heap.size, 1, none⟩ (.slice (some ⟨w5.heap.size, 0, none⟩) 1 1)).setCell ⟨w.heap.size, 2, none⟩ (.int .i64 0)).setCell ⟨w.heap.size, 3, none⟩ (.bool false)).setCell ⟨w.heap.size, 4, none⟩ (.bool false) = V at hV ⊢
    have e95 : (Value.int .u8 (({ data := #[95] } : ByteArray)[0].toNat : Int)) = .int .u8 95 := rfl
    rw [e95]
    exact none_a HB5 H5 hV
  · skip
    have HB5 := hb5.out
    have H5 := h5.out
    clear hb5 h5
    go_wp2
    refine bodyPost_ret (v := .agg #[.map (some _), .slice (some ⟨_, 0, none⟩) 1 1, .int .i64 0, .bool false, .bool false]) (by simp [results, Tryd.f17, go_sem, q0, q1, q2, q3, q4]; exact ⟨rfl, rfl⟩) rfl ⟨_, n5, _, rfl, ?_⟩
    clear q0 q1 q2 q3 q4 qf hlt5
    have hV := five w5 w.heap.size (.map (some (w.heap.size + 1 + 1))) (.slice (some ⟨w.heap.size + 1, 0, none⟩) 1 1) (.int .i64 0) (.bool false) (.bool false)
    generalize ((((w5.setCell ⟨w.heap.size, 0, none⟩ (.map (some (w.heap.size + 1 + 1)))).setCell ⟨w.heap.size, 1, none⟩ (.slice (some ⟨w.heap.size + 1, 0, none⟩) 1 1)).setCell ⟨w.heap.size, 2, none⟩ (.int .i64 0)).setCell ⟨w.heap.size, 3, none⟩ (.bool false)).setCell ⟨w.heap.size, 4, none⟩ (.bool false) = V at hV ⊢
    have e95 : (Value.int .u8 (({ data := #[95] } : ByteArray)[0].toNat : Int)) = .int .u8 95 := rfl
    rw [e95] at HB5 H5
    exact none_b HB5 H5 hV
end Go.Proofs.YtbldloniijmchaaDoor.Tr
