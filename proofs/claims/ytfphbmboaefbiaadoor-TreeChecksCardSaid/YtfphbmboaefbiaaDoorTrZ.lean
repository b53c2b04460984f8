/-
  TreeChecks, of a row that is not empty, over the premise on the landed tree and one on the document's Check.
-/
import Derived.Test.YtfphbmboaefbiaaDoorTrX
namespace Go.Proofs.YtfphbmboaefbiaaDoor.Tr
open Go.RowKit

theorem infoNode : (Tryd.prog.info? 32).map (fun i => (i.zero, i.size, i.bytes)) = some (some (.agg #[.int .u8 0, .string { data := #[] }, .int .i64 0, .int .i64 0]), 4, 40) := by kernel_rfl
theorem reads_news {α : Type} {f : α → List Value} {n off g : Nat} (hn : ∀ x, (f x).length = n) (h0 : 0 < n) {w : World} {l : List α} (h : ∀ k x, l[k]? = some x → ∀ j u, (f x)[j]? = some u → w.cell? ⟨g, off + (k * n + j), none⟩ = some u) :
    ∀ j u, (Ba.rows f l)[j]? = some u → w.cell? ((⟨g, off, none⟩ : Addr).add j) = some u := by
  intro j u hu
  have hj : j < (Ba.rows f l).length := (List.getElem?_eq_some_iff.1 hu).1
  rw [Ba.rows_length f hn] at hj
  have hk : j / n < l.length := by rw [Nat.div_lt_iff_lt_mul h0]; exact hj
  have e := Ba.rows_at f hn l (j / n) _ (List.getElem?_eq_getElem hk) (j % n) (Nat.mod_lt _ h0)
  have e2 : j / n * n + j % n = j := by rw [Nat.mul_comm]; exact Nat.div_add_mod j n
  rw [e2, hu] at e
  have := h (j / n) _ (List.getElem?_eq_getElem hk) (j % n) u e.symm
  rw [e2] at this
  have e3 : (⟨g, off, none⟩ : Addr).add j = ⟨g, off + j, none⟩ := by unfold Addr.add; split <;> simp_all
  rw [e3]; exact this
theorem rows_one (l : List Nd) : ∀ u ∈ Ba.rows cN l, u.oneCell' = true := by
  intro u hu
  unfold Ba.rows at hu
  rw [List.mem_flatMap] at hu
  obtain ⟨x, _, hx⟩ := hu
  simp [cN] at hx
  rcases hx with rfl | rfl | rfl | rfl <;> rfl
/-- What the document's Check must be shown to answer. -/
def RefCheck : Prop := ∀ (t : List Nd) (off : Nat) (v : Value), t.length ≤ 150 → Fit t → (∀ x ∈ t, x.text.size ≤ 100) → ∀ w : World, Ka.Laid w → ReadsN off w w.heap.size v t → Calls Tryd.prog 14 #[v] w fun e w' =>
    e = .returned (.int .i64 ((checkV t : Nat) : Int)) ∧ Below w.heap.size w w'

set_option maxHeartbeats 4000000 in
/-- styluslaw04.TreeChecks, the first row not nil -/
theorem checks_some (L : Lands) (R : RefCheck) (t s : List Nd) (a b : Nat) (ad : Addr) (c : Nat) (v : Value) (htm : t.length ≤ maxLen) (hsm : s.length ≤ maxLen) (ft : Fit t) (fs : Fit s) (w : World) (hL : Ka.Laid w)
    (hu : ReadsN a w w.heap.size (.slice (some ad) t.length c) t) (hv : ReadsN b w w.heap.size v s) :
    Calls Tryd.prog 4 #[.slice (some ad) t.length c, v] w fun e w' => e = .returned (.bool true) ∧ Below w.heap.size w w' := by
  have HU := Lib.hid hu
  have HV := Lib.hid hv
  clear hu hv
  go_enter Tryd.func4, Tryd.ntmps4
  by_cases z1 : vastV t = true
  · have Z1 := Lib.hid z1
    clear z1
    go_wp2_with fail
    refine (vast_at _ a t htm _ _ HU.out true Z1.out).mono ?_
    rintro e w' ⟨rfl, rfl⟩
    go_wp2_with fail
    refine (awake_any L _ hL).mono ?_
    rintro e w' ⟨rfl, hb⟩
    go_wp2
    go_ret
    exact ⟨rfl, hb⟩
  · have z1 : vastV t = false := by simpa using z1
    have Z1 := Lib.hid z1
    obtain ⟨t1, t2⟩ := not_vast z1
    clear z1
    go_wp2_with fail
    refine (vast_at _ a t htm _ _ HU.out false Z1.out).mono ?_
    rintro e w' ⟨rfl, rfl⟩
    by_cases z2 : vastV s = true
    · have Z2 := Lib.hid z2
      clear z2
      go_wp2_with fail
      refine (vast_at _ b s hsm _ _ HV.out true Z2.out).mono ?_
      rintro e w' ⟨rfl, rfl⟩
      go_wp2_with fail
      refine (awake_any L _ hL).mono ?_
      rintro e w' ⟨rfl, hb⟩
      go_wp2
      go_ret
      exact ⟨rfl, hb⟩
    · have z2 : vastV s = false := by simpa using z2
      have Z2 := Lib.hid z2
      obtain ⟨s1, -⟩ := not_vast z2
      clear z2
      go_wp2_with fail
      refine (vast_at _ b s hsm _ _ HV.out false Z2.out).mono ?_
      rintro e w' ⟨rfl, rfl⟩
      obtain ⟨i0, hi, hz0, hz1, hz2⟩ := info_parts infoNode
      have HN := Lib.hid (show ∀ j u, (Ba.rows cN t)[j]? = some u → (w.alloc (.cells #[] 32)).cell? (ad.add j) = some u by
        by_cases h0 : 0 < t.length
        · obtain ⟨A', c', e1, hA⟩ := HU.out.below ((Below.refl _ w).alloc (Nat.le_refl _) (.cells #[] 32))
          obtain ⟨g', e2, -, hcell⟩ := hA h0
          obtain ⟨rfl, -, rfl⟩ := Value.slice.inj e1
          cases e2
          exact reads_news cN_len (by omega) hcell
        · obtain rfl : t = [] := List.length_eq_zero_iff.1 (by omega)
          intro j u hu; simp [Ba.rows] at hu)
      obtain ⟨nt, hnt⟩ : ∃ nt, t.length = nt := ⟨_, rfl⟩
      have HNT := Lib.hid hnt
      rw [hnt] at t1 HU ⊢
      clear hnt
      go_wp2_with (at_builtin; go_loud (refine wpList_append_own _ rfl _ _ 23 rfl w.heap.size 32 i0 _ 4 40 Tryd.underlying23 hi hz0 hz1 hz2 rfl (by decide) (.slice (some ⟨w.heap.size, 0, none⟩) 0 0) 0 [] rfl (World.ownsRow_lit w #[] 0 (Nat.le_refl _) (by decide) rfl) ad nt c (Ba.rows cN t) rfl (by rw [Ba.rows_length cN cN_len, HNT.out]) HN.out (rows_one t) (by unfold maxLen; omega) (by omega) (by simp) ?_; intro v' w4 hown hgrow _))
      have hB4 : Below w.heap.size w w4 := ((Below.refl _ w).alloc (Nat.le_refl _) _).grown hgrow (by simp) (fun j ej => by simp [Value.ownBlock] at ej; omega)
      have hO : ReadsN 0 w4 w4.heap.size v' t := Ba.Reads.of_own cN_len (by rw [HNT.out]) (by simpa using hown)
      have HO := Lib.hid hO
      have HU4 := Lib.hid ((HU.out.below hB4).mono hB4.size)
      have HV4 := Lib.hid ((HV.out.below hB4).mono hB4.size)
      have L4 := hL.below hB4 hL.1
      obtain ⟨q, hq⟩ : ∃ q : Int, ((checkV t : Nat) : Int) = q := ⟨_, rfl⟩
      have HQ := Lib.hid hq
      obtain ⟨z, hz⟩ : ∃ z, sameV t s = z := ⟨_, rfl⟩
      have HZ := Lib.hid hz
      clear hO hq hz hown hgrow HN
      go_wp2_with fail
      refine (L.check_at t 0 v' (by rw [HNT.out]; omega) ft (fun x hx => by have := t2 x hx; omega) _ L4 HO.out q HQ.out).mono ?_
      rintro e w5 ⟨rfl, h5⟩
      have H5 := Ba.chain hB4 hB4.size h5
      have HO5 := Lib.hid ((HO.out.below h5).mono h5.size)
      have HU5 := Lib.hid ((HU4.out.below h5).mono h5.size)
      have HV5 := Lib.hid ((HV4.out.below h5).mono h5.size)
      have L5 := hL.below H5 hL.1
      clear h5 hB4 HO HU4 HV4 L4
      go_wp2_with fail
      refine (R t a _ (by rw [HNT.out]; omega) ft t2 _ L5 HU5.out).mono ?_
      rw [HQ.out]
      rintro e w6 ⟨rfl, h6⟩
      have H6 := Ba.chain H5 H5.size h6
      have HO6 := Lib.hid ((HO5.out.below h6).mono h6.size)
      have HU6 := Lib.hid ((HU5.out.below h6).mono h6.size)
      have HV6 := Lib.hid ((HV5.out.below h6).mono h6.size)
      clear h6 H5 HO5 HU5 HV5 L5
      go_wp2_with fail
      refine (L.same_at t s 0 b _ _ (by rw [HNT.out]; omega) (by omega) ft fs _ HO6.out HV6.out z HZ.out).mono ?_
      rintro e w7 ⟨rfl, h7⟩
      have H7 := Ba.chain H6 H6.size h7
      have HO7 := Lib.hid ((HO6.out.below h7).mono h7.size)
      have HU7 := Lib.hid ((HU6.out.below h7).mono h7.size)
      have HV7 := Lib.hid ((HV6.out.below h7).mono h7.size)
      clear h7 H6 HO6 HU6 HV6
      go_wp2_with fail
      refine (rsame_at a b _ _ t s (by rw [HNT.out]; omega) (by omega) _ _ _ HU7.out HV7.out z HZ.out).mono ?_
      rintro e w8 ⟨rfl, n8, rfl⟩
      go_wp2_with fail
      refine (rlike_at 0 a _ _ t (by rw [HNT.out]; omega) _ _ _ (HO7.out.drewN n8) (HU7.out.drewN n8)).mono ?_
      rintro e w9 ⟨rfl, n9, rfl⟩
      have H9 := Lx.below_drewN H7 (n8 + n9)
      have L9 := hL.below H9 hL.1
      go_wp2_with fail
      refine (awake_any L _ L9).mono ?_
      rintro e w' ⟨rfl, hb⟩
      go_wp2
      go_ret
      exact ⟨rfl, Ba.chain H9 H9.size hb⟩
set_option maxHeartbeats 4000000 in
/-- styluslaw04.TreeChecks, the first row nil -/
theorem checks_nil (L : Lands) (R : RefCheck) (s : List Nd) (b : Nat) (c : Nat) (v : Value) (hsm : s.length ≤ maxLen) (fs : Fit s) (w : World) (hL : Ka.Laid w)
    (hv : ReadsN b w w.heap.size v s) :
    Calls Tryd.prog 4 #[.slice none 0 c, v] w fun e w' => e = .returned (.bool true) ∧ Below w.heap.size w w' := by
  have HU := Lib.hid (Ba.Reads.nil (f := cN) (n := 4) (off := 0) w w.heap.size c)
  have HV := Lib.hid hv
  clear hv
  have ft : Fit [] := fun x hx => absurd hx (by simp)
  go_enter Tryd.func4, Tryd.ntmps4
  · go_wp2_with fail
    refine (vast_at _ 0 [] (by decide) _ _ HU.out false rfl).mono ?_
    rintro e w' ⟨rfl, rfl⟩
    by_cases z2 : vastV s = true
    · have Z2 := Lib.hid z2
      clear z2
      go_wp2_with fail
      refine (vast_at _ b s hsm _ _ HV.out true Z2.out).mono ?_
      rintro e w' ⟨rfl, rfl⟩
      go_wp2_with fail
      refine (awake_any L _ hL).mono ?_
      rintro e w' ⟨rfl, hb⟩
      go_wp2
      go_ret
      exact ⟨rfl, hb⟩
    · have z2 : vastV s = false := by simpa using z2
      have Z2 := Lib.hid z2
      obtain ⟨s1, -⟩ := not_vast z2
      clear z2
      go_wp2_with fail
      refine (vast_at _ b s hsm _ _ HV.out false Z2.out).mono ?_
      rintro e w' ⟨rfl, rfl⟩
      have hB4 : Below w.heap.size w (w.alloc (.cells #[] 32)) := (Below.refl _ w).alloc (Nat.le_refl _) _
      obtain ⟨w4, hw4⟩ : ∃ w4, w.alloc (.cells #[] 32) = w4 := ⟨_, rfl⟩
      have hO : ReadsN 0 w4 w4.heap.size (.slice (some ⟨w.heap.size, 0, none⟩) 0 0) [] := ⟨_, 0, rfl, fun h => absurd h (by simp)⟩
      go_wp2_with fail
      rw [hw4] at hB4
      have HO := Lib.hid hO
      have HU4 := Lib.hid ((HU.out.below hB4).mono hB4.size)
      have HV4 := Lib.hid ((HV.out.below hB4).mono hB4.size)
      have L4 := hL.below hB4 hL.1
      obtain ⟨q, hq⟩ : ∃ q : Int, ((checkV [] : Nat) : Int) = q := ⟨_, rfl⟩
      have HQ := Lib.hid hq
      obtain ⟨z, hz⟩ : ∃ z, sameV [] s = z := ⟨_, rfl⟩
      have HZ := Lib.hid hz
      clear hO hq hz
      go_wp2_with fail
      refine (L.check_at [] 0 _ (by decide) ft (fun x hx => absurd hx (by simp)) _ L4 HO.out q HQ.out).mono ?_
      rintro e w5 ⟨rfl, h5⟩
      have H5 := Ba.chain hB4 hB4.size h5
      have HO5 := Lib.hid ((HO.out.below h5).mono h5.size)
      have HU5 := Lib.hid ((HU4.out.below h5).mono h5.size)
      have HV5 := Lib.hid ((HV4.out.below h5).mono h5.size)
      have L5 := hL.below H5 hL.1
      clear h5 hB4 HO HU4 HV4 L4
      go_wp2_with fail
      refine (R [] 0 _ (by decide) ft (fun x hx => absurd hx (by simp)) _ L5 HU5.out).mono ?_
      rw [HQ.out]
      rintro e w6 ⟨rfl, h6⟩
      have H6 := Ba.chain H5 H5.size h6
      have HO6 := Lib.hid ((HO5.out.below h6).mono h6.size)
      have HU6 := Lib.hid ((HU5.out.below h6).mono h6.size)
      have HV6 := Lib.hid ((HV5.out.below h6).mono h6.size)
      clear h6 H5 HO5 HU5 HV5 L5
      go_wp2_with fail
      refine (L.same_at [] s 0 b _ _ (by decide) (by omega) ft fs _ HO6.out HV6.out z HZ.out).mono ?_
      rintro e w7 ⟨rfl, h7⟩
      have H7 := Ba.chain H6 H6.size h7
      have HO7 := Lib.hid ((HO6.out.below h7).mono h7.size)
      have HU7 := Lib.hid ((HU6.out.below h7).mono h7.size)
      have HV7 := Lib.hid ((HV6.out.below h7).mono h7.size)
      clear h7 H6 HO6 HU6 HV6
      go_wp2_with fail
      refine (rsame_at 0 b _ _ [] s (by decide) (by omega) _ _ _ HU7.out HV7.out z HZ.out).mono ?_
      rintro e w8 ⟨rfl, n8, rfl⟩
      go_wp2_with fail
      refine (rlike_at 0 0 _ _ [] (by decide) _ _ _ (HO7.out.drewN n8) (HU7.out.drewN n8)).mono ?_
      rintro e w9 ⟨rfl, n9, rfl⟩
      have H9 := Lx.below_drewN H7 (n8 + n9)
      have L9 := hL.below H9 hL.1
      go_wp2_with fail
      refine (awake_any L _ L9).mono ?_
      rintro e w' ⟨rfl, hb⟩
      go_wp2
      go_ret
      exact ⟨rfl, Ba.chain H9 H9.size hb⟩
end Go.Proofs.YtfphbmboaefbiaaDoor.Tr
