/-
  lex.find, at each of its two closures: the first name that is as asked.
-/
import Derived.Test.YtbldloniijmchaaDoorLaA
import Derived.Maps.AppendAt
import Derived.Shelf.Abstract
import Derived.Shelf.RegionOpen
import Derived.OwnWalkIn
import Derived.TacticsInMore
import Derived.LoopNIn
import Derived.LoopIn
namespace Go.Proofs.YtbldloniijmchaaDoor.Lx
open Go.RowKit Go.Shelf
attribute [local go_sem] Oper.semAt_some

/-- What find's boxes hold between two rounds: n names were not as asked. -/
def FI (w : World) (FV : Value) (f : Nat → Bool) (n : Nat) (W : World) : Prop :=
  (∀ j, j < n → f j = false) ∧ Boxed W w.heap.size 82 FV ∧ Boxed W (w.heap.size + 1) 9 (.string { data := #[] }) ∧ Below w.heap.size w W ∧ w.heap.size + 5 ≤ W.heap.size
theorem FI.turn {w : World} {FV : Value} {f : Nat → Bool} {n : Nat} {W W' : World} {row : Option Nat} (h : FI w FV f n W) (hg : W.grownBy W' row) (hr : ∀ r, row = some r → w.heap.size + 5 ≤ r) : FI w FV f n W' := by
  obtain ⟨h0, h1, h2, h3, h4⟩ := h
  exact ⟨h0, h1.kept hg (fun e => by have := hr _ e.symm; omega), h2.kept hg (fun e => by have := hr _ e.symm; omega), h3.grown hg h3.size (fun j ej => by have := hr _ ej; omega), Nat.le_trans h4 hg.size⟩
theorem FI.below {w : World} {FV : Value} {f : Nat → Bool} {n : Nat} {W W' : World} (h : FI w FV f n W) (hb : Below W.heap.size W W') : FI w FV f n W' := by
  obtain ⟨h0, h1, h2, h3, h4⟩ := h
  exact ⟨h0, (hb.block _ h1.lt).trans h1, (hb.block _ h2.lt).trans h2, h3.trans (hb.mono h3.size), Nat.le_trans h4 hb.size⟩
theorem FI.own {w : World} {FV : Value} {f : Nat → Bool} {n : Nat} {W : World} (h : FI w FV f n W) (x : Value) : FI w FV f n (W.setCell ⟨w.heap.size + 1 + 1, 0, none⟩ x) := by
  obtain ⟨h0, h1, h2, h3, h4⟩ := h
  exact ⟨h0, h1.other (by omega) _, h2.other (by omega) _, h3.setCell (p := ⟨w.heap.size + 1 + 1, 0, none⟩) (by show w.heap.size ≤ w.heap.size + 1 + 1; omega) _, Nat.le_trans h4 (KeepsOthers.setCell W _ x).size⟩
/-- The round that found a name. -/
def FX (w : World) (f : Nat → Bool) (n : Nat) (W : World) : Prop :=
  ∃ k, n = k + 1 ∧ k < 13 ∧ (∀ j, j < k → f j = false) ∧ f k = true ∧ Boxed W (w.heap.size + 1) 9 (.string (nameS (letterN k))) ∧ Below w.heap.size w W
theorem FX.turn {w : World} {f : Nat → Bool} {n : Nat} {W W' : World} {row : Option Nat} (h : FX w f n W) (hg : W.grownBy W' row) (hr : ∀ r, row = some r → w.heap.size + 5 ≤ r) : FX w f n W' := by
  obtain ⟨k, hn, hk, h0, h1, h2, h3⟩ := h
  exact ⟨k, hn, hk, h0, h1, h2.kept hg (fun e => by have := hr _ e.symm; omega), h3.grown hg h3.size (fun j ej => by have := hr _ ej; omega)⟩
theorem keepB_below {Bs : Nat} {W W' : World} (h : Below W.heap.size W W') (hB : Bs + 3 ≤ W.heap.size) : Sp.KeepB Bs W W' := fun k _ h2 => h.block k (by omega)
theorem keepB_setCell {Bs : Nat} {W : World} (a : Addr) (v : Value) (h : a.block < Bs) : Sp.KeepB Bs W (W.setCell a v) := fun k h1 _ => Below.heap_setCell _ _ _ _ (by omega)

set_option maxRecDepth 100000 in
set_option maxHeartbeats 2000000 in
/-- lex.find -/
theorem findO_any (B : Nat) (f : Nat → Bool) (w : World) (hBw : B < w.heap.size)
    (hf : ∀ k, k < 13 → ∀ v, f k = v → ∀ W : World, W.cell? ⟨B, 0, none⟩ = w.cell? ⟨B, 0, none⟩ → Calls Tryd.prog 67 #[.string (nameS (letterN k)), .pointer (some ⟨B, 0, none⟩)] W fun e W' => e = .returned (.bool v) ∧ Below W.heap.size W W') :
    Calls Tryd.prog 66 #[.func (.func 67) #[] #[.pointer (some ⟨B, 0, none⟩)]] w fun e w' => e = .returned (.string (findS f)) ∧ Below w.heap.size w w' := by
  have hfn : ∀ f, Fence.wide.fn f := fun _ => trivial
  refine (callsIn_wide (n := 3)).1 ?_
  refine callsIn_of_wp_marks Tryd.func66 rfl trivial ?_ rfl
  simp only [Tryd.ntmps66, List.size_toArray, List.length_cons, List.length_nil, Nat.reduceAdd, Nat.reduceSub, Array.replicate_succ, Array.replicate_zero, List.push_toArray, List.append_toArray, List.nil_append, List.cons_append]
  gi_wp2_with (gi_at_call 71; refine (callsIn_wide.2 (Sp.split0_any 32 namesS _)).mono ?_; rintro e w' ⟨rfl, rfl⟩)
  obtain ⟨W0, hW0⟩ : ∃ W0, (((((w.alloc (.cells #[.func (.func 67) #[] #[.pointer (some ⟨B, 0, none⟩)]] 82)).alloc (.cells #[.string { data := #[] }] 9)).alloc
    (.cells #[.string namesS] 9)).alloc (.cells #[.string { data := #[32] }] 9)).alloc (.cells #[.int .i64 0] 3)) = W0 := ⟨_, rfl⟩
  have hsz : W0.heap.size = w.heap.size + 5 := by rw [← hW0]; simp
  have hP0 : FI w (.func (.func 67) #[] #[.pointer (some ⟨B, 0, none⟩)]) f 0 W0 := by
    rw [← hW0]
    refine ⟨fun j hj => by omega, ((((Boxed.new w _ _).alloc _).alloc _).alloc _).alloc _, ?_, ?_, by simp⟩
    · have := (((Boxed.new (w.alloc (.cells #[(.func (.func 67) #[] #[.pointer (some ⟨B, 0, none⟩)])] 82)) 9 (.string { data := #[] })).alloc (.cells #[.string namesS] 9)).alloc (.cells #[.string { data := #[32] }] 9)).alloc (.cells #[.int .i64 0] 3)
      rwa [World.size_alloc] at this
    · exact (((((Below.refl _ w).alloc (Nat.le_refl _) _).alloc (by simp) _).alloc (by simp; omega) _).alloc (by simp; omega) _).alloc (by simp; omega) _
  have hX0 : Sp.Boxes 32 (w.heap.size + 1 + 1) namesS W0 := by
    have hz : ((w.alloc (.cells #[.func (.func 67) #[] #[.pointer (some ⟨B, 0, none⟩)]] 82)).alloc (.cells #[.string { data := #[] }] 9)).heap.size = w.heap.size + 1 + 1 := by simp
    obtain ⟨V, hV⟩ : ∃ V, ((w.alloc (.cells #[.func (.func 67) #[] #[.pointer (some ⟨B, 0, none⟩)]] 82)).alloc (.cells #[.string { data := #[] }] 9)) = V := ⟨_, rfl⟩
    rw [hV] at hz hW0
    rw [← hW0, ← hz]
    have x1 := ((Boxed.new V 9 (.string namesS)).alloc (.cells #[.string { data := #[32] }] 9)).alloc (.cells #[.int .i64 0] 3)
    have x2 := (Boxed.new (V.alloc (.cells #[.string namesS] 9)) 9 (.string { data := #[32] })).alloc (.cells #[.int .i64 0] 3)
    have x3 := Boxed.new ((V.alloc (.cells #[.string namesS] 9)).alloc (.cells #[.string { data := #[32] }] 9)) 3 (.int .i64 0)
    rw [World.size_alloc] at x2
    rw [World.size_alloc, World.size_alloc] at x3
    exact ⟨x1.cell, x1.frozen, x2.cell, x3.cell⟩
  rw [hW0]
  clear hW0
  refine Ra.wpIn_range_made (own := fun a => a = ⟨w.heap.size + 1 + 1, 0, none⟩) (by omega) (gf := 75) (fa := #[]) (lb := #[.pointer (some ⟨w.heap.size + 1 + 1 + 1, 0, none⟩), .pointer (some ⟨w.heap.size + 1 + 1, 0, none⟩), .pointer (some ⟨w.heap.size + 1 + 1 + 2, 0, none⟩)]) rfl (enters_of Tryd.func75 (by kernel_rfl) rfl) (fun a ha => by subst ha; show w.heap.size + 1 + 1 < W0.heap.size; omega)
    (Sp.split_hands 32 2 (w.heap.size + 1 + 1) namesS (by decide) W0 (by omega) hX0) Sp.KeepB.trans (Sp.keepB_b (by omega)) (fun _ _ _ _ h => h) (fun _ => rfl)
    (fun pre W => FI w (.func (.func 67) #[] #[.pointer (some ⟨B, 0, none⟩)]) f pre.length W) (fun pre W => FX w f pre.length W)
    (fun pre A B' row hs hg hr => FI.turn hs hg (fun r e => by have := (hr r e).1; omega))
    (fun pre A B' row hs hg hr => FX.turn hs hg (fun r e => by have := (hr r e).1; omega))
    (fun pre V a v ha hs => by subst ha; exact FI.own hs v)
    (fun pre V V' hb hs => FI.below hs hb)
    hP0
    (fun x => { tmps := #[.func (.func 67) #[] #[.pointer (some ⟨B, 0, none⟩)], .pointer (some ⟨w.heap.size, 0, none⟩), .pointer (some ⟨w.heap.size + 1, 0, none⟩), .string (namesS.extract x.1.1 x.1.2),
      .func (.func 75) #[] #[.pointer (some ⟨w.heap.size + 1 + 1 + 1, 0, none⟩), .pointer (some ⟨w.heap.size + 1 + 1, 0, none⟩), .pointer (some ⟨w.heap.size + 1 + 1 + 2, 0, none⟩)],
      .string (namesS.extract x.1.1 x.1.2), undef, undef, undef, undef], defers := [] }) ?assign ?body ?done ?stop
  case assign =>
    intro l x W K hK
    dsimp only [Sp.encP]
    gi_wp2
    exact hK
  case body =>
    rintro l pre x W hI hpre
    obtain ⟨hk, hx⟩ := names_at hpre
    have hx' : namesS.extract x.1.1 x.1.2 = nameS (letterN pre.length) := hx
    have hlen := (lastN ⟨_, hk⟩).2.2.1
    simp only [] at hlen
    obtain ⟨k, hk'⟩ : ∃ k, pre.length = k := ⟨_, rfl⟩
    rw [hk'] at hk hx' hI hlen
    have HPL := Lib.hid (show (pre ++ [x]).length = k + 1 by rw [List.length_append, hk']; rfl)
    obtain ⟨t, ht⟩ : ∃ t, nameS (letterN k) = t := ⟨_, rfl⟩
    have HT := Lib.hid ht
    rw [hx', ht]
    rw [ht] at hlen
    clear hx hx' hk' ht hpre
    have hcell : W.cell? ⟨B, 0, none⟩ = w.cell? ⟨B, 0, none⟩ := hI.2.2.2.1.cell (p := ⟨B, 0, none⟩) hBw
    obtain ⟨v, hv⟩ : ∃ v, f k = v := ⟨_, rfl⟩
    have hC := hf k hk v hv W hcell
    rw [HT.out] at hC
    have HC := Lib.hid hC
    have HV := Lib.hid hv
    obtain ⟨b0, b1, b2, hB2, hsW⟩ := id hI
    have c1 := b1.cell
    clear hC hv hcell b0
    cases v
    · gi_wp2_with (gi_at_call 67; refine (CallsIn.inRound l (callsIn_wide.2 HC.out)).mono ?_; rintro e W2 ⟨rfl, hb2⟩)
      have h2 := hI.below hb2
      refine ⟨Ba.keepsFrom_below hb2, keepB_below hb2 (by omega), ?_⟩
      show FI w _ f (pre ++ [x]).length _
      rw [HPL.out]
      exact ⟨fun j hj => by
        rcases Nat.lt_or_ge j k with h3 | h3
        · exact h2.1 j h3
        · obtain rfl : j = k := by omega
          exact HV.out, h2.2⟩
    · gi_wp2_with (gi_at_call 67; refine (CallsIn.inRound l (callsIn_wide.2 HC.out)).mono ?_; rintro e W2 ⟨rfl, hb2⟩; have d2 := (show Boxed W2 _ _ _ from (hb2.block _ b2.lt).trans b2); have e2 := d2.cell; have e3 := d2.frozen)
      have h2 := hI.below hb2
      refine ⟨(Ba.keepsFrom_below hb2).trans ((KeepsOthers.setCell _ _ _).from _), ?_⟩
      show FX w f (pre ++ [x]).length _
      rw [HPL.out]
      exact ⟨k, rfl, hk, h2.1, HV.out, by rw [HT.out]; exact d2.set _, h2.2.2.2.1.setCell (p := ⟨w.heap.size + 1, 0, none⟩) (by show w.heap.size ≤ w.heap.size + 1; omega) _⟩
  case done =>
    rintro D W hD hI _ hK
    rw [names_len] at hI
    obtain ⟨a0, a1, a2, aB, hsW⟩ := hI
    have R := Lib.hid (show ({ data := #[] } : ByteArray) = findS f from (findS_none a0).symm)
    have c2 := a2.cell
    have f2 := a2.frozen
    clear a0
    gi_wp2
    have hK' := (KeepsOthers.setCell W ⟨w.heap.size + 1, 0, none⟩ (.string { data := #[] })).same D _ hK rfl
    refine ⟨by simp, .inl ⟨_, _, rfl, run_takeDeferred hK', ?_⟩⟩
    have k2 := cell_kept ((a2.set (.string { data := #[] }))).cell (grownBy_putObj' _ D (.deferred none)) (fun r e => by cases e; exact ⟨_, hK', rfl⟩)
    refine ⟨.string { data := #[] }, ?_, Ba.ret_str R.out, ?_⟩
    · simp [results, Tryd.f66, go_sem, k2]
    · exact (aB.setCell (p := ⟨w.heap.size + 1, 0, none⟩) (by show w.heap.size ≤ w.heap.size + 1; omega) _).trans (belowK_b (w := w) (Nat.le_refl _) _ D _ _ (by omega) hK' rfl rfl)
  case stop =>
    rintro D pre W hD hpre ⟨k, hn, hk, h0, h1, a2, aB⟩ hK
    have R := Lib.hid (show nameS (letterN k) = findS f from (findS_at h0 hk h1).symm)
    clear h0 h1 hpre hn
    gi_wp2
    refine ⟨by simp, .inl ⟨_, _, rfl, run_takeDeferred hK, ?_⟩⟩
    have k2 := cell_kept a2.cell (grownBy_putObj' _ D (.deferred none)) (fun r e => by cases e; exact ⟨_, hK, rfl⟩)
    refine ⟨.string (nameS (letterN k)), ?_, Ba.ret_str R.out, aB.trans (belowK_b (w := w) (Nat.le_refl _) W D _ _ (by omega) hK rfl rfl)⟩
    simp [results, Tryd.f66, go_sem, k2]

end Go.Proofs.YtbldloniijmchaaDoor.Lx
