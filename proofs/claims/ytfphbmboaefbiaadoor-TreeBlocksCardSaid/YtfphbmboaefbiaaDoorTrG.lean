/-
  TreeBlocks over the premise on the landed tree.
-/
import Derived.Test.YtfphbmboaefbiaaDoorTrZ
import Derived.Test.YtfphbmboaefbiaaDoorTrY
import Derived.Test.YtfphbmboaefbiaaDoorTrJ
namespace Go.Proofs.YtfphbmboaefbiaaDoor.Tr
open Go.RowKit

theorem news_of {off n c B : Nat} {ad : Addr} {w : World} {t : List Nd} (h : ReadsN off w B (.slice (some ad) n c) t) : ∀ j u, (Ba.rows cN t)[j]? = some u → w.cell? (ad.add j) = some u := by
  by_cases h0 : 0 < t.length
  · obtain ⟨A', c', e1, hA⟩ := h
    obtain ⟨g', e2, -, hcell⟩ := hA h0
    obtain ⟨rfl, -, rfl⟩ := Value.slice.inj e1
    cases e2
    exact reads_news cN_len (by omega) hcell
  · obtain rfl : t = [] := List.length_eq_zero_iff.1 (by omega)
    intro j u hu
    simp [Ba.rows] at hu
theorem nil_of {off n c B : Nat} {w : World} {t : List Nd} (h : ReadsN off w B (.slice none n c) t) : t = [] := by
  obtain ⟨A', c', e1, hA⟩ := h
  obtain ⟨rfl, -, rfl⟩ := Value.slice.inj e1
  rcases Nat.eq_zero_or_pos t.length with h0 | h0
  · exact List.length_eq_zero_iff.1 h0
  · obtain ⟨g', e2, -, -⟩ := hA h0
    cases e2

set_option maxRecDepth 100000 in
set_option maxHeartbeats 8000000 in
/-- styluslaw04.TreeBlocks -/
theorem blocks_any (L : Lands) (a b : ByteArray) (hma : a.size ≤ maxLen) (hmb : b.size ≤ maxLen) (w : World) (hL : Ka.Laid w) :
    Calls Tryd.prog 6 #[.string a, .string b] w fun e w' => e = .returned (.bool true) ∧ Below w.heap.size w w' := by
  have FA := Lib.hid (parse_fit a hma)
  have FB := Lib.hid (parse_fit b hmb)
  have NA := parseA_len a
  have NB := parseA_len b
  have MA := Lib.hid hma
  have MB := Lib.hid hmb
  unfold maxLen at hma hmb
  go_enter Tryd.func6, Tryd.ntmps6
  by_cases ha : 4000 < a.size
  · go_wp2_with fail
    refine (awake_any L _ hL).mono ?_
    rintro e w' ⟨rfl, hb⟩
    go_wp2
    go_ret
    exact ⟨rfl, hb⟩
  by_cases hb : 4000 < b.size
  · go_wp2_with fail
    refine (awake_any L _ hL).mono ?_
    rintro e w' ⟨rfl, hb⟩
    go_wp2
    go_ret
    exact ⟨rfl, hb⟩
  obtain ⟨t, ht⟩ : ∃ t, (parseA a).1 = t := ⟨_, rfl⟩
  obtain ⟨u, hu⟩ : ∃ u, (parseA b).1 = u := ⟨_, rfl⟩
  obtain ⟨p1, hp1⟩ : ∃ p : Int, (((parseA a).2.1 : Nat) : Int) = p := ⟨_, rfl⟩
  obtain ⟨p2, hp2⟩ : ∃ p : Int, (((parseA b).2.1 : Nat) : Int) = p := ⟨_, rfl⟩
  obtain ⟨q1, hq1⟩ : ∃ p : Int, (((parseA a).2.2 : Nat) : Int) = p := ⟨_, rfl⟩
  obtain ⟨q2, hq2⟩ : ∃ p : Int, (((parseA b).2.2 : Nat) : Int) = p := ⟨_, rfl⟩
  have HT := Lib.hid ht; have HU := Lib.hid hu; have HP1 := Lib.hid hp1; have HP2 := Lib.hid hp2; have HQ1 := Lib.hid hq1; have HQ2 := Lib.hid hq2
  rw [ht] at FA NA
  rw [hu] at FB NB
  have w1 : (parseA a).2.2 = 0 ↔ q1 = 0 := by omega
  have w2 : (parseA b).2.2 = 0 ↔ q2 = 0 := by omega
  have W1 := Lib.hid w1; have W2 := Lib.hid w2
  clear ht hu hp1 hp2 hq1 hq2 w1 w2
  go_wp2_with fail
  refine (L.at a MA.out t p1 q1 HT.out HP1.out HQ1.out _ hL).mono ?_
  rintro e w1 ⟨v1, rfl, hv1, hb1⟩
  have L1 := hL.below hb1 hL.1
  have H1 := hb1
  have V1 := Lib.hid hv1
  clear hv1 hb1
  go_wp2_with fail
  refine (L.at b MB.out u p2 q2 HU.out HP2.out HQ2.out _ L1).mono ?_
  rintro e w2 ⟨v2, rfl, hv2, hb2⟩
  have V1 := Lib.hid ((V1.out.below hb2).mono hb2.size)
  have V2 := Lib.hid hv2
  have H2 := Ba.chain H1 H1.size hb2
  have L2 := hL.below H2 hL.1
  clear hv2 hb2 H1 L1
  obtain ⟨A1, c1, rfl, -⟩ := id V1.out
  obtain ⟨A2, c2, rfl, -⟩ := id V2.out
  by_cases e1 : q1 = 0
  · by_cases e2 : q2 = 0
    · by_cases e3 : 2000 < t.length + u.length
      · subst e1 e2
        have d1 : decide (2000 < (t.length : Int) + (u.length : Int)) = true := decide_eq_true (by omega)
        go_wp2_with fail
        refine (awake_any L _ L2).mono ?_
        rintro e w' ⟨rfl, hb⟩
        go_wp2
        go_ret
        exact ⟨rfl, Ba.chain H2 H2.size hb⟩
      · have PA := parsed_of (W1.out.2 e1)
        have PB := parsed_of (W2.out.2 e2)
        have ta := HT.out; rw [parseA_ok PA] at ta
        have tb := HU.out; rw [parseA_ok PB] at tb
        obtain ⟨PJ, SJ⟩ := parsed_join (by omega) (by omega) PA PB (by rw [show (readL (Lx.lexV a)).1 = t from ta, show (readL (Lx.lexV b)).1 = u from tb]; omega)
        rw [show (readL (Lx.lexV a)).1 = t from ta, show (readL (Lx.lexV b)).1 = u from tb] at SJ
        have EJ := Lib.hid (parseA_ok PJ)
        have EC := Lib.hid (parsed_close (by omega) PA)
        have SJ := Lib.hid SJ
        have MJ := Lib.hid (show (join a b).size ≤ maxLen by rw [join_size]; unfold maxLen; omega)
        have MC := Lib.hid (show (Lx.closeS a).size ≤ maxLen by rw [(Lx.close_ends a).1]; unfold maxLen; omega)
        have FJ := parse_fit (join a b) MJ.out
        have NJ := parseA_len (join a b)
        rw [EJ.out] at FJ NJ
        simp only [] at FJ NJ
        obtain ⟨tj, htj⟩ : ∃ x, (readL (Lx.lexV (join a b))).1 = x := ⟨_, rfl⟩
        rw [htj] at SJ EJ FJ NJ
        have FJ := Lib.hid FJ
        clear htj PA PB PJ ta tb W1 W2 HT HU HP1 HP2 HQ1 HQ2
        subst e1 e2
        have d1 : decide (2000 < (t.length : Int) + (u.length : Int)) = false := decide_eq_false (by omega)
        go_wp2_with fail
        refine (L.at (join a b) MJ.out tj 0 0 (by rw [EJ.out]) (by rw [EJ.out]; rfl) (by rw [EJ.out]; rfl) _ L2).mono ?_
        rintro e w3 ⟨v3, rfl, hv3, hb3⟩
        have V1 := Lib.hid ((V1.out.below hb3).mono hb3.size)
        have V2 := Lib.hid ((V2.out.below hb3).mono hb3.size)
        have V3 := Lib.hid hv3
        have H3 := Ba.chain H2 H2.size hb3
        have L3 := hL.below H3 hL.1
        clear hv3 hb3 H2 L2
        go_wp2_with fail
        refine (L.at (Lx.closeS a) MC.out [] (a.size : Int) 2 (by rw [EC.out]) (by rw [EC.out]) (by rw [EC.out]; rfl) _ L3).mono ?_
        rintro e w4 ⟨v4, rfl, -, hb4⟩
        have V1 := Lib.hid ((V1.out.below hb4).mono hb4.size)
        have V2 := Lib.hid ((V2.out.below hb4).mono hb4.size)
        have V3 := Lib.hid ((V3.out.below hb4).mono hb4.size)
        have H4 := Ba.chain H3 H3.size hb4
        have L4 := hL.below H4 hL.1
        clear hb4 H3 L3
        obtain ⟨i0, hi, hz0, hz1, hz2⟩ := info_parts infoNode
        obtain ⟨nt, hnt⟩ : ∃ nt, t.length = nt := ⟨_, rfl⟩
        obtain ⟨nu, hnu⟩ : ∃ nu, u.length = nu := ⟨_, rfl⟩
        have HNT := Lib.hid hnt
        have HNU := Lib.hid hnu
        rw [hnt] at NA V1 e3 d1 ⊢
        rw [hnu] at NB V2 e3 d1 ⊢
        clear hnt hnu
        rcases A1 with _ | ad1
        · have et := Lib.hid (nil_of V1.out)
          obtain rfl : nt = 0 := by rw [← HNT.out, et.out]; rfl
          rcases A2 with _ | ad2
          · have eu := Lib.hid (nil_of V2.out)
            obtain rfl : nu = 0 := by rw [← HNU.out, eu.out]; rfl
            obtain ⟨w6, hw6⟩ : ∃ w6, w4.alloc (.cells #[] 32) = w6 := ⟨_, rfl⟩
            have B6 : Below w4.heap.size w4 w6 := hw6 ▸ (Below.refl _ w4).alloc (Nat.le_refl _) _
            have HW := Lib.hid (show ReadsN 0 w6 w6.heap.size (.slice (some ⟨w4.heap.size, 0, none⟩) 0 0) (t ++ u) from by rw [et.out, eu.out]; exact ⟨_, 0, rfl, fun h => absurd h (by simp)⟩)
            have V6 := Lib.hid ((V3.out.below B6).mono B6.size)
            have H6 := Ba.chain H4 H4.size B6
            clear V3 H4 L4
            go_wp2_with fail
            refine (L.same_at tj (t ++ u) 0 0 _ _ (by omega) (by rw [List.length_append, HNT.out, HNU.out]; omega) FJ.out.1 (FA.out.1.append FB.out.1) _ V6.out HW.out true SJ.out).mono ?_
            rintro e w7 ⟨rfl, h7⟩
            have H7 := Ba.chain H6 H6.size h7
            have L7 := hL.below H7 hL.1
            go_wp2_with fail
            refine (awake_any L _ L7).mono ?_
            rintro e w' ⟨rfl, hb⟩
            go_wp2
            go_ret
            exact ⟨rfl, Ba.chain H7 H7.size hb⟩
          · go_wp2_with (at_builtin; (refine wpList_append_own _ rfl _ _ 23 rfl w4.heap.size 32 i0 _ 4 40 Tryd.underlying23 hi hz0 hz1 hz2 rfl (by decide) (.slice (some ⟨w4.heap.size, 0, none⟩) 0 0) 0 [] rfl (World.ownsRow_lit w4 #[] 0 (Nat.le_refl _) (by decide) rfl) ad2 nu c2 (Ba.rows cN u) rfl (by rw [Ba.rows_length cN cN_len, HNU.out]) (news_of (V2.out.below ((Below.refl _ w4).alloc (Nat.le_refl _) _))) (rows_one u) (by unfold maxLen; omega) (by omega) (by simp) ?_; intro v6 w6 hown6 hgrow6 _))
            have B6 : Below w4.heap.size w4 w6 := ((Below.refl _ w4).alloc (Nat.le_refl _) _).grown hgrow6 (by simp) (fun j ej => by simp [Value.ownBlock] at ej; omega)
            have HW := Lib.hid (show ReadsN 0 w6 w6.heap.size v6 (t ++ u) from by rw [et.out, List.nil_append]; exact Ba.Reads.of_own cN_len (by rw [HNU.out]) (by simpa using hown6))
            have V6 := Lib.hid ((V3.out.below B6).mono B6.size)
            have H6 := Ba.chain H4 H4.size B6
            clear V3 H4 L4
            go_wp2_with fail
            refine (L.same_at tj (t ++ u) 0 0 _ _ (by omega) (by rw [List.length_append, HNT.out, HNU.out]; omega) FJ.out.1 (FA.out.1.append FB.out.1) _ V6.out HW.out true SJ.out).mono ?_
            rintro e w7 ⟨rfl, h7⟩
            have H7 := Ba.chain H6 H6.size h7
            have L7 := hL.below H7 hL.1
            go_wp2_with fail
            refine (awake_any L _ L7).mono ?_
            rintro e w' ⟨rfl, hb⟩
            go_wp2
            go_ret
            exact ⟨rfl, Ba.chain H7 H7.size hb⟩
        · rcases A2 with _ | ad2
          · have eu := Lib.hid (nil_of V2.out)
            obtain rfl : nu = 0 := by rw [← HNU.out, eu.out]; rfl
            go_wp2_with (at_builtin; refine wpList_append_own _ rfl _ _ 23 rfl w4.heap.size 32 i0 _ 4 40 Tryd.underlying23 hi hz0 hz1 hz2 rfl (by decide) (.slice (some ⟨w4.heap.size, 0, none⟩) 0 0) 0 [] rfl (World.ownsRow_lit w4 #[] 0 (Nat.le_refl _) (by decide) rfl) ad1 nt c1 (Ba.rows cN t) rfl (by rw [Ba.rows_length cN cN_len, HNT.out]) (news_of (V1.out.below ((Below.refl _ w4).alloc (Nat.le_refl _) _))) (rows_one t) (by unfold maxLen; omega) (by omega) (by simp) ?_; intro v5 w5 hown5 hgrow5 hnil5 ; have B5 : Below w4.heap.size w4 w5 := ((Below.refl _ w4).alloc (Nat.le_refl _) _).grown hgrow5 (by simp) (fun j ej => by simp [Value.ownBlock] at ej; omega); have O5 := Lib.hid (show w5.ownsRow w4.heap.size 32 4 v5 nt (Ba.rows cN t) by simpa using hown5); clear hown5 hgrow5; rcases O5.out.2 with ⟨rfl, -⟩ | ⟨g5, cap5, cur5, rfl, -, -, hc5, hm5, -⟩; exact absurd (hnil5.1 rfl).1 (fun h => by cases h); clear hnil5)
            all_goals
              have HW := Lib.hid (show ReadsN 0 w5 w5.heap.size _ (t ++ u) from by rw [eu.out, List.append_nil]; exact Ba.Reads.of_own cN_len HNT.out O5.out)
              have V6 := Lib.hid ((V3.out.below B5).mono B5.size)
              have H6 := Ba.chain H4 H4.size B5
              clear V3 H4 L4
              try go_wp2_with fail
              refine (L.same_at tj (t ++ u) 0 0 _ _ (by omega) (by rw [List.length_append, HNT.out, HNU.out]; omega) FJ.out.1 (FA.out.1.append FB.out.1) _ V6.out HW.out true SJ.out).mono ?_
              rintro e w7 ⟨rfl, h7⟩
              have H7 := Ba.chain H6 H6.size h7
              have L7 := hL.below H7 hL.1
              go_wp2_with fail
              refine (awake_any L _ L7).mono ?_
              rintro e w' ⟨rfl, hb⟩
              go_wp2
              go_ret
              exact ⟨rfl, Ba.chain H7 H7.size hb⟩
          · go_wp2_with (first | (at_builtin; refine wpList_append_own _ rfl _ _ 23 rfl w4.heap.size 32 i0 _ 4 40 Tryd.underlying23 hi hz0 hz1 hz2 rfl (by decide) (.slice (some ⟨w4.heap.size, 0, none⟩) 0 0) 0 [] rfl (World.ownsRow_lit w4 #[] 0 (Nat.le_refl _) (by decide) rfl) ad1 nt c1 (Ba.rows cN t) rfl (by rw [Ba.rows_length cN cN_len, HNT.out]) (news_of (V1.out.below ((Below.refl _ w4).alloc (Nat.le_refl _) _))) (rows_one t) (by unfold maxLen; omega) (by omega) (by simp) ?_; intro v5 w5 hown5 hgrow5 _ ; have B5 : Below w4.heap.size w4 w5 := ((Below.refl _ w4).alloc (Nat.le_refl _) _).grown hgrow5 (by simp) (fun j ej => by simp [Value.ownBlock] at ej; omega); have O5 := Lib.hid (show w5.ownsRow w4.heap.size 32 4 v5 nt (Ba.rows cN t) by simpa using hown5); clear hown5 hgrow5) | (at_builtin; refine wpList_append_own _ rfl _ _ 23 rfl w4.heap.size 32 i0 _ 4 40 Tryd.underlying23 hi hz0 hz1 hz2 rfl (by decide) v5 nt (Ba.rows cN t) rfl O5.out ad2 nu c2 (Ba.rows cN u) rfl (by rw [Ba.rows_length cN cN_len, HNU.out]) (news_of (V2.out.below B5)) (rows_one u) (by unfold maxLen; omega) (by omega) (by have := B5.size; omega) ?_; intro v6 w6 hown6 hgrow6 _))
            have B6 : Below w4.heap.size w4 w6 := B5.grown hgrow6 B5.size (fun j ej => (O5.out.lt j ej).1)
            have HW := Lib.hid (show ReadsN 0 w6 w6.heap.size v6 (t ++ u) from Ba.Reads.of_own cN_len (by rw [List.length_append, HNT.out, HNU.out]) (by rw [Ba.rows_append]; exact hown6))
            have V6 := Lib.hid ((V3.out.below B6).mono B6.size)
            have H6 := Ba.chain H4 H4.size B6
            clear V3 H4 L4
            try go_wp2_with fail
            refine (L.same_at tj (t ++ u) 0 0 _ _ (by omega) (by rw [List.length_append, HNT.out, HNU.out]; omega) FJ.out.1 (FA.out.1.append FB.out.1) _ V6.out HW.out true SJ.out).mono ?_
            rintro e w7 ⟨rfl, h7⟩
            have H7 := Ba.chain H6 H6.size h7
            have L7 := hL.below H7 hL.1
            go_wp2_with fail
            refine (awake_any L _ L7).mono ?_
            rintro e w' ⟨rfl, hb⟩
            go_wp2
            go_ret
            exact ⟨rfl, Ba.chain H7 H7.size hb⟩
    · have d2 : (q2 != 0) = true := bne_iff_ne.2 e2
      subst e1
      go_wp2_with fail
      refine (awake_any L _ L2).mono ?_
      rintro e w' ⟨rfl, hb⟩
      go_wp2
      go_ret
      exact ⟨rfl, Ba.chain H2 H2.size hb⟩
  · have d1 : (q1 != 0) = true := bne_iff_ne.2 e1
    go_wp2_with fail
    refine (awake_any L _ L2).mono ?_
    rintro e w' ⟨rfl, hb⟩
    go_wp2
    go_ret
    exact ⟨rfl, Ba.chain H2 H2.size hb⟩
end Go.Proofs.YtfphbmboaefbiaaDoor.Tr
