/-
  TreeParts over the premise on the landed tree.
-/
import Derived.Test.YtfphbmboaefbiaaDoorTrW
namespace Go.Proofs.YtfphbmboaefbiaaDoor.Tr
open Go.RowKit

/-- A part of a row reads as the part of the list. -/
theorem reads_sub {α : Type} {f : α → List Value} {n off g B : Nat} {w : World} {l : List α} (h : ∀ k x, l[k]? = some x → ∀ j u, (f x)[j]? = some u → w.cell? ⟨g, off + (k * n + j), none⟩ = some u) (hg : g < B) (k m c : Nat) (hkm : k + m ≤ l.length) :
    Ba.Reads f n (off + k * n) w B (.slice (some ⟨g, off + k * n, none⟩) m c) ((l.take (k + m)).drop k) := by
  have hl : ((l.take (k + m)).drop k).length = m := by simp; omega
  refine ⟨some ⟨g, off + k * n, none⟩, c, by rw [hl], fun _ => ⟨g, rfl, hg, fun i x hx j u hu => ?_⟩⟩
  have hi : i < m := by have := (List.getElem?_eq_some_iff.1 hx).1; omega
  have hx' : l[k + i]? = some x := by
    rw [List.getElem?_drop, List.getElem?_take, if_pos (by omega)] at hx
    exact hx
  have e := h (k + i) x hx' j u hu
  rw [Nat.add_mul] at e
  rw [show off + k * n + (i * n + j) = off + (k * n + i * n + j) by omega]
  exact e
theorem mem_sub {α : Type} {l : List α} {a b : Nat} {x : α} (h : x ∈ (l.take b).drop a) : x ∈ l := List.mem_of_mem_take (List.mem_of_mem_drop h)
theorem Lands.same_at (L : Lands) (t s : List Nd) (a b : Nat) (u v : Value) (ht : t.length ≤ 9000) (hs : s.length ≤ 9000) (ft : Fit t) (fs : Fit s) (w : World) (hu : ReadsN a w w.heap.size u t) (hv : ReadsN b w w.heap.size v s) (z : Bool) (hz : sameV t s = z) :
    Calls Tryd.prog 15 #[u, v] w fun e w' => e = .returned (.bool z) ∧ Below w.heap.size w w' := by
  subst hz; exact L.same t s a b u v ht hs ft fs w hu hv
theorem Lands.check_at (L : Lands) (t : List Nd) (off : Nat) (v : Value) (ht : t.length ≤ 9000) (ft : Fit t) (hx : ∀ x ∈ t, x.text.size ≤ 9000) (w : World) (hL : Ka.Laid w) (hv : ReadsN off w w.heap.size v t) (q : Int) (hq : ((checkV t : Nat) : Int) = q) :
    Calls Tryd.prog 13 #[v] w fun e w' => e = .returned (.int .i64 q) ∧ Below w.heap.size w w' := by
  subst hq; exact L.check t off v ht ft hx w hL hv
def vastV (t : List Nd) : Bool := decide (150 < t.length) || t.any fun x => decide (100 < x.text.size)
theorem not_vast {t : List Nd} (h : vastV t = false) : t.length ≤ 150 ∧ ∀ x ∈ t, x.text.size ≤ 100 := by
  unfold vastV at h
  rw [Bool.or_eq_false_iff, decide_eq_false_iff_not, List.any_eq_false] at h
  refine ⟨by omega, fun x hx => ?_⟩
  have := h.2 x hx
  rw [decide_eq_true_eq] at this; omega

set_option maxHeartbeats 4000000 in
/-- styluslaw04.TreeParts -/
theorem parts_any (L : Lands) (t s : List Nd) (a b : Nat) (A B : Option Addr) (c d : Nat) (hc : t.length ≤ c) (hcm : c ≤ maxLen) (hsm : s.length ≤ maxLen) (ft : Fit t) (fs : Fit s) (w : World) (hL : Ka.Laid w)
    (hu : ReadsN a w w.heap.size (.slice A t.length c) t) (hv : ReadsN b w w.heap.size (.slice B s.length d) s) :
    Calls Tryd.prog 7 #[.slice A t.length c, .slice B s.length d] w fun e w' => e = .returned (.bool true) ∧ Below w.heap.size w w' := by
  have HU := Lib.hid hu
  have HV := Lib.hid hv
  clear hu hv
  go_enter Tryd.func7, Tryd.ntmps7
  by_cases z1 : vastV t = true
  · have Z1 := Lib.hid z1
    clear z1
    go_wp2_with fail
    refine (vast_at _ a t (by omega) _ _ HU.out true Z1.out).mono ?_
    rintro e w' ⟨rfl, rfl⟩
    go_wp2_with fail
    refine (awake_any L _ hL).mono ?_
    rintro e w' ⟨rfl, hb⟩
    go_wp2
    go_ret
    exact ⟨rfl, hb⟩
  · have z1 : vastV t = false := by simpa using z1
    have Z1 := Lib.hid z1
    obtain ⟨t1, t2⟩ := not_vast z1
    clear z1
    go_wp2_with fail
    refine (vast_at _ a t (by omega) _ _ HU.out false Z1.out).mono ?_
    rintro e w' ⟨rfl, rfl⟩
    by_cases z2 : vastV s = true
    · have Z2 := Lib.hid z2
      clear z2
      go_wp2_with fail
      refine (vast_at _ b s hsm _ _ HV.out true Z2.out).mono ?_
      rintro e w' ⟨rfl, rfl⟩
      go_wp2_with fail
      refine (awake_any L _ hL).mono ?_
      rintro e w' ⟨rfl, hb⟩
      go_wp2
      go_ret
      exact ⟨rfl, hb⟩
    · have z2 : vastV s = false := by simpa using z2
      have Z2 := Lib.hid z2
      obtain ⟨s1, -⟩ := not_vast z2
      clear z2
      go_wp2_with fail
      refine (vast_at _ b s hsm _ _ HV.out false Z2.out).mono ?_
      rintro e w' ⟨rfl, rfl⟩
      go_wp2_with fail
      refine (L.same_at t t a a _ _ (by omega) (by omega) ft ft _ HU.out HU.out true (sameV_refl t)).mono ?_
      rintro e w1 ⟨rfl, h1⟩
      have HU1 := Lib.hid ((HU.out.below h1).mono h1.size)
      have HV1 := Lib.hid ((HV.out.below h1).mono h1.size)
      obtain ⟨z, hz⟩ : ∃ z, sameV t s = z := ⟨_, rfl⟩
      have HZ := Lib.hid hz
      clear hz
      go_wp2_with fail
      refine (L.same_at t s a b _ _ (by omega) (by omega) ft fs _ HU1.out HV1.out z HZ.out).mono ?_
      rintro e w2 ⟨rfl, h2⟩
      have HU2 := Lib.hid ((HU1.out.below h2).mono h2.size)
      have HV2 := Lib.hid ((HV1.out.below h2).mono h2.size)
      have H2 := Ba.chain h1 h1.size h2
      clear h1 h2 HU1 HV1
      go_wp2_with fail
      refine (L.same_at s t b a _ _ (by omega) (by omega) fs ft _ HV2.out HU2.out z ((sameV_symm s t).trans HZ.out)).mono ?_
      rintro e w3 ⟨rfl, h3⟩
      have HU3 := Lib.hid ((HU2.out.below h3).mono h3.size)
      have H3 := Ba.chain H2 H2.size h3
      have L3 := hL.below H3 hL.1
      clear h3 H2 HU2 HV2
      by_cases c0 : checkV t = 0
      · have C0 := Lib.hid c0
        clear c0
        go_wp2_with fail
        refine (L.check_at t a _ (by omega) ft (fun x hx => by have := t2 x hx; omega) _ L3 HU3.out 0 (by rw [C0.out]; rfl)).mono ?_
        rintro e w4 ⟨rfl, h4⟩
        have H4 := Ba.chain H3 H3.size h4
        clear h4 H3 HU3 L3
        go_wp2
        go_loopw [5] (fun i wr => ∃ k : Nat, i = .int .i64 k ∧ Bd t k ∧ Below w.heap.size w wr) (fun i _ => t.length - (intOf i).toNat)
        case atStart => exact ⟨0, rfl, Bd.zero C0.out, H4⟩
        case round =>
          rename_i wr _
          obtain ⟨k, rfl, hB, HW⟩ := hrel
          have hk := hB.1
          have LW := hL.below HW hL.1
          by_cases hlt : k < t.length
          · obtain ⟨x, n, hx, hs, hn, hle, hc0, hB'⟩ := Bd.step C0.out hB hlt
            have HUW := HU.out.below HW
            obtain ⟨A', c', e1, hA⟩ := HUW
            obtain ⟨rfl, -, rfl⟩ := Value.slice.inj e1
            obtain ⟨g, rfl, hg, hcell⟩ := hA (by omega)
            obtain ⟨-, -, -, g4⟩ := cells_of hcell k _ hx
            rw [hs] at g4
            have HS := Lib.hid ((reads_sub hcell (Nat.lt_of_lt_of_le hg HW.size) k n (c - k) hle))
            have HC := Lib.hid hc0
            have HBn := Lib.hid hB'
            have d1 : decide ((n : Int) < 1) = false := decide_eq_false (by omega)
            have d2 : decide ((t.length : Int) - (k : Int) < (n : Int)) = false := decide_eq_false (by omega)
            clear hcell hx hs hc0 hB' e1 hA
            go_wp2_with fail
            refine (L.check_at _ (a + k * 4) _ (by simp; omega) (fun y hy => ft y (mem_sub hy)) (fun y hy => by have := t2 y (mem_sub hy); omega) _ LW HS.out 0 (by rw [HC.out]; rfl)).mono ?_
            rintro e w5 ⟨rfl, h5⟩
            have H5 := Ba.chain HW HW.size h5
            go_wp2
            go_roundw
            case rel => exact ⟨k + n, by go_num, HBn.out, H5⟩
            case measure => simp [intOf]; omega
          · obtain rfl : k = t.length := by omega
            go_wp2_with fail
            refine (awake_any L _ LW).mono ?_
            rintro e w' ⟨rfl, hb⟩
            go_wp2
            go_ret
            exact ⟨rfl, Ba.chain HW HW.size hb⟩
      · have C0 := Lib.hid c0
        obtain ⟨q, hq⟩ : ∃ q : Int, ((checkV t : Nat) : Int) = q := ⟨_, rfl⟩
        have q0 : (q != 0) = true := bne_iff_ne.2 (by omega)
        have HQ := Lib.hid hq
        clear hq c0
        go_wp2_with fail
        refine (L.check_at t a _ (by omega) ft (fun x hx => by have := t2 x hx; omega) _ L3 HU3.out q HQ.out).mono ?_
        rintro e w4 ⟨rfl, h4⟩
        have H4 := Ba.chain H3 H3.size h4
        have L4 := hL.below H4 hL.1
        clear h4 H3 HU3 L3
        go_wp2_with fail
        refine (awake_any L _ L4).mono ?_
        rintro e w' ⟨rfl, hb⟩
        go_wp2
        go_ret
        exact ⟨rfl, Ba.chain H4 H4.size hb⟩
end Go.Proofs.YtfphbmboaefbiaaDoor.Tr
