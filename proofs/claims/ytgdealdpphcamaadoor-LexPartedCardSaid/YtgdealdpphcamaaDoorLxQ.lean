/-
  styluslaw03.LexParted.
-/
import Derived.Test.YtgdealdpphcamaaDoorLxP
import Derived.Test.YtgdealdpphcamaaDoorLxX
namespace Go.Proofs.YtgdealdpphcamaaDoor.Lx
open Go.RowKit

theorem Holds.cells {w : World} {B : Nat} {A : Option Addr} {n c : Nat} {xs : List Lx} (h : Holds w B (.slice A n c) xs) {k : Nat} {x : Lx} (hx : xs[k]? = some x) :
    ∃ g, A = some ⟨g, 0, none⟩ ∧ g < B ∧ w.cell? ⟨g, k * 4, none⟩ = some (.int .i64 ((x.kind : Nat) : Int)) ∧ w.cell? ⟨g, k * 4 + 1, none⟩ = some (.int .u8 ((x.name : Nat) : Int)) ∧ w.cell? ⟨g, k * 4 + 2, none⟩ = some (.string x.text) ∧ w.cell? ⟨g, k * 4 + 3, none⟩ = some (.int .i64 ((x.place : Nat) : Int)) := by
  obtain ⟨A', c', hv, hA⟩ := h
  injection hv with h1 h2 h3
  subst h1
  have hk : 0 < xs.length := by have := (List.getElem?_eq_some_iff.1 hx).1; omega
  obtain ⟨g, hg, hgB, hc⟩ := hA hk
  exact ⟨g, hg, hgB, hc k x hx⟩
theorem lexF_bounds (s : ByteArray) : ∀ n p, (∀ x y, (lexF s n p).2 = some (x, y) → x ≤ s.size) ∧ ∀ x ∈ (lexF s n p).1, x.place ≤ s.size
  | 0, p => by simp [lexF]
  | n + 1, p => by
    unfold lexF
    by_cases h : p < s.size
    · rw [if_pos h]
      cases hs : stepF s p with
      | inr e => simp; omega
      | inl xq =>
        obtain ⟨x, q⟩ := xq
        obtain ⟨i1, i2⟩ := lexF_bounds s n q
        refine ⟨i1, fun y hy => ?_⟩
        simp only [List.mem_cons] at hy
        rcases hy with rfl | hy
        · rcases step_cases h hs with ⟨rfl, _⟩ | ⟨c, n, _, _, _, _, rfl, _⟩ | ⟨e, _, _, rfl, _⟩ <;> simp only [] <;> omega
        · exact i2 y hy
    · rw [if_neg h]; simp
theorem lexAt_le (s : ByteArray) : lexAt s ≤ s.size := by
  unfold lexAt
  split
  · omega
  · cases h : (lexA s 0).2 with
    | none => simp
    | some z => exact (lexF_bounds s s.size 0).1 z.1 z.2 h
theorem lexV_place (s : ByteArray) : ∀ x ∈ lexV s, x.place ≤ s.size := by
  unfold lexV
  split
  · simp
  · cases h : (lexA s 0).2 with
    | none => exact (lexF_bounds s s.size 0).2
    | some z => simp
theorem close_some {a : ByteArray} (h : lexE (closeS a) = 0) : 0 < (lexV (closeS a)).length := by
  have hA := lex_all h
  have hz := (close_ends a).1
  rw [lexA_step _ 0 (by omega)] at hA
  cases hs : stepF (closeS a) 0 with
  | inr e => rw [hs] at hA; simp at hA
  | inl xq =>
    rw [hs] at hA
    simp only [Prod.mk.injEq] at hA
    rw [← hA.1]; simp
theorem Holds.news {w : World} {B g n c : Nat} {xs : List Lx} (h : Holds w B (.slice (some ⟨g, 0, none⟩) n c) xs) : ∀ j u, (cellsLx xs)[j]? = some u → w.cell? ((⟨g, 0, none⟩ : Addr).add j) = some u := by
  intro j u hu
  have e : (⟨g, 0, none⟩ : Addr).add j = ⟨g, j, none⟩ := by unfold Addr.add; split <;> simp_all
  rw [e]
  have hj : j < xs.length * 4 := by rw [← cellsLx_length]; exact (List.getElem?_eq_some_iff.1 hu).1
  have hk : j / 4 < xs.length := by omega
  have hx := List.getElem?_eq_getElem hk
  obtain ⟨g', hg', _, c0, c1, c2, c3⟩ := h.cells hx
  injection hg' with hg'
  injection hg' with hg' _ _
  subst hg'
  have hat := cellsLx_at xs (j / 4) _ hx
  have hr : j = j / 4 * 4 + j % 4 := by omega
  have h4 : j % 4 < 4 := by omega
  generalize j / 4 = q at *
  generalize j % 4 = r at *
  subst hr
  rw [hat r h4] at hu
  match r, h4 with
  | 0, _ => rw [Nat.add_zero]; exact c0.trans hu
  | 1, _ => exact c1.trans hu
  | 2, _ => exact c2.trans hu
  | 3, _ => exact c3.trans hu
theorem take_shift (n : Nat) (l m : List Lx) (k : Nat) (h : k < m.length) : cellsLx (l ++ (m.take (k + 1)).map (shiftX n)) = cellsLx (l ++ (m.take k).map (shiftX n)) ++ cellsX (shiftX n m[k]) := by
  rw [List.take_succ_eq_append_getElem h, List.map_append, ← List.append_assoc, List.map_singleton, cellsLx_snoc]
theorem cell_four_new2 (w : World) (o : Obj) (x y z v : Value) (t : TypeId) : ∀ j u, [x, y, z, v][j]? = some u → ((w.alloc o).alloc (.cells #[x, y, z, v] t)).cell? ((⟨w.heap.size + 1, 0, none⟩ : Addr).add j) = some u := by
  have := cell_four_new (w.alloc o) x y z v t
  rwa [show (w.alloc o).heap.size = w.heap.size + 1 from by simp] at this
theorem cellsLx_one (l : List Lx) : ∀ u ∈ cellsLx l, u.oneCell' = true := by
  intro u hu
  obtain ⟨x, _, hx⟩ := List.mem_flatMap.1 hu
  simp only [cellsX, List.mem_cons, List.not_mem_nil, or_false] at hx
  rcases hx with rfl | rfl | rfl | rfl <;> rfl

set_option maxRecDepth 100000 in
set_option maxHeartbeats 4000000 in
/-- styluslaw03.LexParted -/
theorem lexParted_any (L : Lands) (a b : ByteArray) (hma : a.size ≤ maxLen) (hmb : b.size ≤ maxLen) (w : World) (hL : Ka.Laid w) :
    Calls Tryd.prog 6 #[.string a, .string b] w fun e w' => e = .returned (.bool true) ∧ Below w.heap.size w w' := by
  have HB0 : Below w.heap.size w w := Below.refl _ _
  unfold maxLen at hma hmb
  by_cases ha : 4000 < a.size
  · go_enter Tryd.func6, Tryd.ntmps6
    go_wp2_with (go_at_call 7; refine (awake_any L _ hL).mono ?_; rintro e w' ⟨rfl, hb⟩)
    go_ret
    exact ⟨rfl, hb⟩
  by_cases hb : 4000 < b.size
  · go_enter Tryd.func6, Tryd.ntmps6
    go_wp2_with (go_at_call 7; refine (awake_any L _ hL).mono ?_; rintro e w' ⟨rfl, hb⟩)
    go_ret
    exact ⟨rfl, hb⟩
  have HZ := Lib.hid (lex_both a b (by omega) (by omega))
  have hz1 := (close_ends a).1
  have hz2 := size_app (closeS a) b
  have l1 : (closeS a).size ≤ 9000 := by omega
  have l2 : (closeS a ++ b).size ≤ 9000 := by omega
  clear hz1 hz2
  go_enter Tryd.func6, Tryd.ntmps6
  go_wp2_with fail
  refine (of_at L (closeS a) l1 _ _ _ rfl rfl rfl _ hL).mono ?_
  rintro e w1 ⟨v1, rfl, hv1, hb1⟩
  have HB1 := chain HB0 HB0.size hb1
  have hL1 := hL.below HB1 hL.1
  clear hb1 HB0
  go_wp2_with fail
  refine (of_at L b (by omega) _ _ _ rfl rfl rfl _ hL1).mono ?_
  rintro e w2 ⟨v2, rfl, hv2, hb2⟩
  have hv1 := hv1.below hb2
  have hs1 := hb2.size
  have HB2 := chain HB1 HB1.size hb2
  have hL2 := hL.below HB2 hL.1
  clear hb2 HB1 hL1
  go_wp2_with fail
  refine (of_at L (closeS a ++ b) l2 _ _ _ rfl rfl rfl _ hL2).mono ?_
  rintro e w3 ⟨v3, rfl, hv3, hb3⟩
  have hs2 := hb3.size
  have hv1 := ((hv1.mono hs1).below hb3).mono hs2
  have hv2 := (hv2.below hb3).mono hs2
  have HB3 := chain HB2 HB2.size hb3
  have hL3 := hL.below HB3 hL.1
  clear hb3 HB2 hL2 l1 l2
  by_cases h1 : lexE (closeS a) = 0
  · by_cases h2 : lexE b = 0
    · obtain ⟨x1, x2, x3⟩ := HZ.out.2.2 h1 h2
      rw [x2, x3, h1, h2]
      rw [x1] at hv3
      have hne := close_some h1
      have hp1 := lexV_length (closeS a)
      have hp2 := lexV_length b
      have HP := Lib.hid (lexV_place b)
      obtain ⟨l, hl⟩ : ∃ l, lexV (closeS a) = l := ⟨_, rfl⟩
      obtain ⟨m, hm⟩ : ∃ m, lexV b = m := ⟨_, rfl⟩
      rw [hl] at hv1 hv3 hne hp1
      rw [hm] at hv2 hv3 hp2 HP
      clear x1 x2 x3 h1 h2 hl hm HZ
      obtain ⟨A, c, rfl, hA⟩ := id hv1
      obtain ⟨g, rfl, -, -⟩ := hA hne
      obtain ⟨A2, c2, rfl, -⟩ := id hv2
      obtain ⟨A3, c3, rfl, -⟩ := id hv3
      obtain ⟨n3, hn3⟩ : ∃ n3, (l ++ List.map (shiftX (a.size + 1)) m).length = n3 := ⟨_, rfl⟩
      rw [hn3] at hv3 ⊢
      clear hn3
      have HV1 := Lib.hid hv1
      have HV2 := Lib.hid hv2
      have HV3 := Lib.hid hv3
      clear hv1 hv2 hv3 hA
      obtain ⟨i0, hi, hz0, hz1, hz2⟩ := info_parts infoLex
      obtain ⟨nl, hnl⟩ : ∃ nl, l.length = nl := ⟨_, rfl⟩
      obtain ⟨nm, hnm⟩ : ∃ nm, m.length = nm := ⟨_, rfl⟩
      have HNL := Lib.hid hnl
      have HNM := Lib.hid hnm
      rw [hnl] at hp1 hne ⊢
      rw [hnm] at hp2 ⊢
      clear hnl hnm
      go_wp2_with (at_builtin; go_loud (refine wpList_append_own _ rfl _ _ 23 rfl w3.heap.size 33 i0 _ 4 40 Tryd.underlying23 hi hz0 hz1 hz2 rfl (by decide) (.slice (some ⟨w3.heap.size, 0, none⟩) 0 0) 0 [] rfl (World.ownsRow_lit w3 #[] 0 (Nat.le_refl _) (by decide) rfl) ⟨g, 0, none⟩ nl c (cellsLx l) rfl (by rw [cellsLx_length, HNL.out]) ((HV1.out.below ((Below.refl _ w3).alloc (Nat.le_refl _) _)).news) (cellsLx_one l) (by unfold maxLen; omega) (by omega) (by simp) ?_; intro v' w4 hown hgrow _))
      have hB4 : Below w3.heap.size w3 w4 := ((Below.refl _ w3).alloc (Nat.le_refl _) _).grown hgrow (by simp) (fun j ej => by simp [Value.ownBlock] at ej; omega)
      go_wp2
      go_loopw [14, 15] (fun v i wr => ∃ k, k ≤ nm ∧ i = .int .i64 (k : Nat) ∧ wr.ownsRow w3.heap.size 33 4 v (nl + k) (cellsLx (l ++ (m.take k).map (shiftX (a.size + 1)))) ∧ Below w3.heap.size w3 wr) (fun _ i _ => nm - (intOf i).toNat)
      case atStart => exact ⟨0, by omega, rfl, by simpa using hown, hB4⟩
      case round =>
        obtain ⟨k, hk, rfl, hw, hB⟩ := hrel
        by_cases hlt : k < nm
        · have hx := List.getElem?_eq_getElem (l := m) (i := k) (by rw [HNM.out]; exact hlt)
          have hpl := HP.out _ (List.mem_of_getElem? hx)
          obtain ⟨g2, rfl, hg2, c0, c1, c2, c3⟩ := (HV2.out.below hB).cells hx
          have HS := Lib.hid (take_shift (a.size + 1) l m k (by rw [HNM.out]; exact hlt))
          clear hx
          obtain ⟨x, hxe⟩ : ∃ x, m[k]'(by rw [HNM.out]; exact hlt) = x := ⟨_, rfl⟩
          rw [hxe] at c0 c1 c2 c3 hpl HS
          clear hxe
          obtain ⟨kd, nx, tx, px⟩ := x
          simp only [] at c0 c1 c2 c3 hpl
          go_wp2_with (at_builtin; go_loud (refine wpList_append_own _ rfl _ _ 23 rfl w3.heap.size 33 i0 _ 4 40 Tryd.underlying23 hi hz0 hz1 hz2 rfl (by decide) _ _ _ rfl ((hw.alloc _).alloc _) ⟨wr.heap.size + 1, 0, none⟩ 1 1 [.int .i64 (kd : Int), .int .u8 (nx : Int), .string tx, .int .i64 ((px : Int) + ((a.size : Int) + 1))] rfl rfl (cell_four_new2 _ _ _ _ _ _ _) (by simp [Value.oneCell']) (by unfold maxLen; omega) (by omega) (by have := hB.size; simp; omega) ?_; intro v'' w5 hown5 hgrow5 _))
          have hB5 : Below w3.heap.size w3 w5 := ((hB.alloc hB.size _).alloc (by have := hB.size; simp; omega) _).grown hgrow5 (by have := hB.size; simp; omega) (fun j ej => ((hw.lt) j ej).1)
          exact ⟨⟨k + 1, by omega, by go_num, by rw [HS.out, show cellsX (shiftX (a.size + 1) ⟨kd, nx, tx, px⟩) = [.int .i64 (kd : Int), .int .u8 (nx : Int), .string tx, .int .i64 ((px : Int) + ((a.size : Int) + 1))] from by simp [cellsX, shiftX]; omega]; exact hown5, hB5⟩, by simp [intOf]; omega⟩
        · obtain rfl : k = nm := by omega
          rw [List.take_of_length_le (by rw [HNM.out]; exact Nat.le_refl _)] at hw
          have hlen := Lib.hid <| show (l ++ m.map (shiftX (a.size + 1))).length = nl + k from by rw [List.length_append, List.length_map, HNL.out, HNM.out]
          have hH := Lib.hid (Holds.of_own hlen.out hw)
          have hl7 := Lib.hid (show (l ++ m.map (shiftX (a.size + 1))).length ≤ 70000 by rw [hlen.out]; omega)
          have hL5 := hL3.below hB hL3.1
          clear hw
          go_wp2_with fail
          refine (same_any _ _ _ hl7.out _ _ _ (HV3.out.below hB) hH.out).mono ?_
          rintro e w' ⟨rfl, n, rfl⟩
          go_wp2_with fail
          refine (awake_any L _ (show Ka.Laid (wr.drewN n) from hL5)).mono ?_
          rintro e w6 ⟨rfl, hb6⟩
          go_wp2
          go_ret
          exact ⟨rfl, chain HB3 HB3.size (chain (below_drewN hB n) hB.size hb6)⟩
    · obtain ⟨x1, x2, x3⟩ := HZ.out.2.1 h1 h2
      rw [x1] at hv3
      obtain ⟨A, c, rfl, -⟩ := hv3
      have hn := lexAt_le b
      rw [x2, x3, h1]
      have t1 : (((lexE b : Nat) : Int) == 0) = false := beq_eq_false_iff_ne.2 (by omega)
      clear x1 x2 x3 h1 h2
      obtain ⟨p, hp⟩ : ∃ p, lexAt b = p := ⟨_, rfl⟩
      obtain ⟨q, hq⟩ : ∃ q, lexE b = q := ⟨_, rfl⟩
      rw [hp, hq]
      rw [hq] at t1
      rw [hp] at hn
      clear hp hq
      go_wp2_with (go_at_call 7; refine (awake_any L _ hL3).mono ?_; rintro e w' ⟨rfl, hb⟩)
      go_ret
      exact ⟨rfl, chain HB3 HB3.size hb⟩
  · obtain ⟨x1, x2, x3⟩ := HZ.out.1 h1
    rw [x1] at hv3
    obtain ⟨A, c, rfl, -⟩ := hv3
    rw [x2, x3]
    have t1 : (((lexE (closeS a) : Nat) : Int) == 0) = false := beq_eq_false_iff_ne.2 (by omega)
    clear x1 x2 x3 h1
    obtain ⟨p, hp⟩ : ∃ p, lexAt (closeS a) = p := ⟨_, rfl⟩
    obtain ⟨q, hq⟩ : ∃ q, lexE (closeS a) = q := ⟨_, rfl⟩
    rw [hp, hq]
    rw [hq] at t1
    clear hp hq
    go_wp2_with (go_at_call 7; refine (awake_any L _ hL3).mono ?_; rintro e w' ⟨rfl, hb⟩)
    go_ret
    exact ⟨rfl, chain HB3 HB3.size hb⟩
end Go.Proofs.YtgdealdpphcamaaDoor.Lx
