/-
  styluslaw03.LexWhole.
-/
import Derived.Test.YtgdealdpphcamaaDoorLxY
import Derived.Test.YtgdealdpphcamaaDoorLxX
namespace Go.Proofs.YtgdealdpphcamaaDoor.Lx
open Go.RowKit

theorem Holds.cells {w : World} {B : Nat} {A : Option Addr} {n c : Nat} {xs : List Lx} (h : Holds w B (.slice A n c) xs) {k : Nat} {x : Lx} (hx : xs[k]? = some x) :
    ∃ g, A = some ⟨g, 0, none⟩ ∧ g < B ∧ w.cell? ⟨g, k * 4, none⟩ = some (.int .i64 ((x.kind : Nat) : Int)) ∧ w.cell? ⟨g, k * 4 + 1, none⟩ = some (.int .u8 ((x.name : Nat) : Int)) ∧ w.cell? ⟨g, k * 4 + 2, none⟩ = some (.string x.text) ∧ w.cell? ⟨g, k * 4 + 3, none⟩ = some (.int .i64 ((x.place : Nat) : Int)) := by
  obtain ⟨A', c', hv, hA⟩ := h
  injection hv with h1 h2 h3
  subst h1
  have hk : 0 < xs.length := by have := (List.getElem?_eq_some_iff.1 hx).1; omega
  obtain ⟨g, hg, hgB, hc⟩ := hA hk
  exact ⟨g, hg, hgB, hc k x hx⟩
theorem name_at (L : Lands) (c : Nat) (n : ByteArray) (hc : c < 256) (hn : nameS c = n) (w : World) (hL : Ka.Laid w) :
    Calls Tryd.prog 11 #[.int .u8 (c : Int)] w fun e w' => e = .returned (.string n) ∧ Below w.heap.size w w' := hn ▸ L.name c hc w hL
theorem open_ne (m : ByteArray) (h : 0 < m.size) : (({ data := #[123] } : ByteArray) ++ m).toList.isEmpty = false ∧ ((({ data := #[123] } : ByteArray) ++ m).toList == [123]) = false := by
  have hs : (({ data := #[123] } : ByteArray) ++ m).size = 1 + m.size := by rw [ByteArray.size_append]; rfl
  constructor
  · have := toList_ne (d := ({ data := #[123] } : ByteArray) ++ m) (d' := { data := #[] }) (fun e => by rw [e] at hs; have h0 : ({ data := #[] } : ByteArray).size = 0 := rfl; omega)
    rw [show ({ data := #[] } : ByteArray).toList = [] from by decide +kernel] at this
    cases hl : (({ data := #[123] } : ByteArray) ++ m).toList with
    | nil => rw [hl] at this; exact absurd this (by decide)
    | cons a b => rfl
  · have := toList_ne (d := ({ data := #[123] } : ByteArray) ++ m) (d' := { data := #[123] }) (fun e => by rw [e] at hs; have h0 : ({ data := #[123] } : ByteArray).size = 1 := rfl; omega)
    rw [show ({ data := #[123] } : ByteArray).toList = [123] from by decide +kernel] at this
    exact this
theorem toList_some (X : ByteArray) (h : 0 < X.size) : X.toList.isEmpty = false := by
  have := toList_ne (d := X) (d' := { data := #[] }) (fun e => by rw [e] at h; have h0 : ({ data := #[] } : ByteArray).size = 0 := rfl; omega)
  rw [show ({ data := #[] } : ByteArray).toList = [] from by decide +kernel] at this
  cases hl : X.toList with
  | nil => rw [hl] at this; exact absurd this (by decide)
  | cons a b => rfl
theorem text_ne (s : ByteArray) (p e : Nat) (h1 : p < e) (h2 : e ≤ s.size) (h : okT (bAt s p) = true) : ((s.extract p e).toList == [123]) = false := by
  have := toList_ne (d := s.extract p e) (d' := { data := #[123] }) (fun he => by
    have hz := ext_size s p e h2
    rw [he] at hz
    have h0 : ({ data := #[123] } : ByteArray).size = 1 := rfl
    obtain rfl : e = p + 1 := by omega
    rw [ext_one s p (by omega)] at he
    have hb := congrArg bytesN he
    rw [bytesN_bytesOf _ (by intro x hx; simp at hx; subst hx; exact bAt_lt s p), show bytesN { data := #[123] } = [123] from by decide +kernel] at hb
    injection hb with hb
    rw [hb, okT_not.1] at h; cases h)
  rw [show ({ data := #[123] } : ByteArray).toList = [123] from by decide +kernel] at this
  exact this
theorem At.all' {s : ByteArray} {l : List Lx} {k p : Nat} (h : At s l k p) (hk : l.length = k) : p = s.size := by subst hk; exact h.all

set_option maxRecDepth 100000 in
set_option maxHeartbeats 4000000 in
/-- styluslaw03.LexWhole -/
theorem lexWhole_any (L : Lands) (s : ByteArray) (hm : s.size ≤ maxLen) (w : World) (hL : Ka.Laid w) :
    Calls Tryd.prog 5 #[.string s] w fun e w' => e = .returned (.bool true) ∧ Below w.heap.size w w' := by
  have HB0 : Below w.heap.size w w := Below.refl _ _
  unfold maxLen at hm
  by_cases hs : 9000 < s.size
  · go_enter Tryd.func5, Tryd.ntmps5
    go_wp2_with (go_at_call 7; refine (awake_any L _ hL).mono ?_; rintro e w' ⟨rfl, hb⟩)
    go_ret
    exact ⟨rfl, hb⟩
  go_enter Tryd.func5, Tryd.ntmps5
  go_wp2_with fail
  refine (of_at L s (by omega) _ _ _ rfl rfl rfl _ hL).mono ?_
  rintro e w1 ⟨v, rfl, hv, hb1⟩
  have HB1 := chain HB0 HB0.size hb1
  have hL1 := hL.below HB1 hL.1
  clear hb1 HB0
  by_cases he : lexE s = 0
  · have hat0 := At.zero (lex_all he)
    obtain ⟨l, hl⟩ : ∃ l, lexV s = l := ⟨_, rfl⟩
    rw [hl] at hv hat0
    have hform := hv
    obtain ⟨A, cap, rfl, -⟩ := hform
    have hlen : l.length ≤ 8192 := by rw [← hl]; exact lexV_length s
    rw [he]
    clear hl he
    have HV := Lib.hid hv; clear hv
    have HA := Lib.hid hat0; clear hat0
    obtain ⟨n, hn⟩ : ∃ n, l.length = n := ⟨_, rfl⟩
    have HN := Lib.hid hn
    rw [hn] at hlen ⊢
    clear hn
    go_wp2
    go_loopw [6, 7] (fun a i wr => ∃ (k p : Nat), k ≤ n ∧ a = .int .i64 p ∧ i = .int .i64 k ∧ At s l k p ∧ Below w1.heap.size w1 wr) (fun _ i _ => n - (intOf i).toNat)
    case atStart => exact ⟨0, 0, by omega, rfl, rfl, HA.out, Below.refl _ _⟩
    case round =>
      obtain ⟨k, p, hk, rfl, rfl, hA, hB⟩ := hrel
      by_cases hlt : k < n
      · have hp := hA.lt (by rw [HN.out]; exact hlt)
        obtain ⟨x, q, hx, hst, hA2⟩ := hA.step (by rw [HN.out]; exact hlt)
        have HA2 := Lib.hid hA2
        obtain ⟨g, rfl, hg, c0, c1, c2, c3⟩ := (HV.out.below hB).cells hx
        have hprev : ∀ y, 0 < k → l[k - 1]? = some y → y.kind = 1 → okT (bAt s p) = false := fun y a b c => hA.2.2.2 y a b c hp
        clear hA hA2
        rcases step_cases hp hst with ⟨rfl, rfl, hb, hE⟩ | ⟨c, m, hc, hm1, hm2, hm3, rfl, hb, hpm, hE, rfl⟩ | ⟨e, he1, he2, rfl, rfl, hok, hend⟩
        · simp only [] at c0 c1 c2 c3
          have hq : ((s.extract p (p + 1)).toList == [125]) = true := by rw [hE]; decide +kernel
          clear hprev hst hx hb hE
          go_wp2
          all_goals exact ⟨⟨k + 1, p + 1, by omega, rfl, by go_num, HA2.out, hB.alloc hB.size _⟩, by simp [intOf]; omega⟩
        · simp only [] at c0 c1 c2 c3
          have hq : ((s.extract p (p + (1 + m.size))).toList == (({ data := #[123] } : ByteArray) ++ m).toList) = true := by rw [show p + (1 + m.size) = p + 1 + m.size from by omega, hE]; simp
          obtain ⟨f1, f2⟩ := open_ne m hm2
          clear hprev hst hx hb hE
          by_cases hz : p + (1 + m.size) < s.size
          · have E2 := bAt_get s (p + (1 + m.size)) hz
            have h256 := bAt_lt s (p + (1 + m.size))
            obtain ⟨d, hd⟩ : ∃ d, bAt s (p + (1 + m.size)) = d := ⟨_, rfl⟩
            have hsk : skip s (p + 1 + m.size) = if d = 32 ∨ d = 10 then p + 1 + m.size + 1 else p + 1 + m.size := by
              unfold skip white
              rw [show p + 1 + m.size = p + (1 + m.size) from by omega, hd, Ka.whiteB_iff d (by omega)]
              simp [hz]
            rw [hd] at E2 h256
            clear hd
            by_cases d1 : d = 32
            · have t1 : ((d : Int) == 32) = true := beq_iff_eq.2 (by omega)
              have HK := Lib.hid (hsk.trans (if_pos (.inl d1)))
              clear hsk d1
              go_wp2_with (go_at_call 11; refine (name_at L c m hc hm1 _ (hL1.below (hB.alloc hB.size _) hL1.1)).mono ?_; rintro e w2 ⟨rfl, hb2⟩; have k0 : w2.cell? ⟨wr.heap.size, 0, none⟩ = some (.int .i64 2) := (hb2.cell (p := ⟨wr.heap.size, 0, none⟩) (by simp)).trans (by simp))
              all_goals exact ⟨⟨k + 1, p + 1 + m.size + 1, by omega, by go_num, by go_num, by rw [← HK.out]; exact HA2.out, chain (hB.alloc hB.size _) (by have := hB.size; simp; omega) hb2⟩, by simp [intOf]; omega⟩
            · have t1 : ((d : Int) == 32) = false := beq_eq_false_iff_ne.2 (by omega)
              by_cases d2 : d = 10
              · have t2 : ((d : Int) == 10) = true := beq_iff_eq.2 (by omega)
                have HK := Lib.hid (hsk.trans (if_pos (.inr d2)))
                clear hsk d1 d2
                go_wp2_with (go_at_call 11; refine (name_at L c m hc hm1 _ (hL1.below (hB.alloc hB.size _) hL1.1)).mono ?_; rintro e w2 ⟨rfl, hb2⟩; have k0 : w2.cell? ⟨wr.heap.size, 0, none⟩ = some (.int .i64 2) := (hb2.cell (p := ⟨wr.heap.size, 0, none⟩) (by simp)).trans (by simp))
                all_goals exact ⟨⟨k + 1, p + 1 + m.size + 1, by omega, by go_num, by go_num, by rw [← HK.out]; exact HA2.out, chain (hB.alloc hB.size _) (by have := hB.size; simp; omega) hb2⟩, by simp [intOf]; omega⟩
              · have t2 : ((d : Int) == 10) = false := beq_eq_false_iff_ne.2 (by omega)
                have HK := Lib.hid (hsk.trans (if_neg (fun h => h.elim d1 d2)))
                clear hsk d1 d2
                go_wp2_with (go_at_call 11; refine (name_at L c m hc hm1 _ (hL1.below (hB.alloc hB.size _) hL1.1)).mono ?_; rintro e w2 ⟨rfl, hb2⟩; have k0 : w2.cell? ⟨wr.heap.size, 0, none⟩ = some (.int .i64 2) := (hb2.cell (p := ⟨wr.heap.size, 0, none⟩) (by simp)).trans (by simp))
                all_goals exact ⟨⟨k + 1, p + 1 + m.size, by omega, by go_num, by go_num, by rw [← HK.out]; exact HA2.out, chain (hB.alloc hB.size _) (by have := hB.size; simp; omega) hb2⟩, by simp [intOf]; omega⟩
          · have HK := Lib.hid (show skip s (p + 1 + m.size) = p + 1 + m.size by unfold skip; rw [if_neg (fun h => by omega)])
            go_wp2_with (go_at_call 11; refine (name_at L c m hc hm1 _ (hL1.below (hB.alloc hB.size _) hL1.1)).mono ?_; rintro e w2 ⟨rfl, hb2⟩; have k0 : w2.cell? ⟨wr.heap.size, 0, none⟩ = some (.int .i64 2) := (hb2.cell (p := ⟨wr.heap.size, 0, none⟩) (by simp)).trans (by simp))
            all_goals exact ⟨⟨k + 1, p + 1 + m.size, by omega, by go_num, by go_num, by rw [← HK.out]; exact HA2.out, chain (hB.alloc hB.size _) (by have := hB.size; simp; omega) hb2⟩, by simp [intOf]; omega⟩
        · simp only [] at c0 c1 c2 c3
          have hX := ext_size s p q he2
          have f2 := text_ne s p q he1 he2 hok
          have hgw : g < wr.heap.size := by have := hB.size; omega
          have hy1 : ∀ y, 0 < k → l[k - 1]? = some y → y.kind ≠ 1 := fun y a b c => by rw [hprev y a b c] at hok; cases hok
          have hq0 : ((s.extract p q).toList == (s.extract p q).toList) = true := by simp
          obtain ⟨X, hXe⟩ : ∃ X, s.extract p q = X := ⟨_, rfl⟩
          rw [hXe] at hX f2 c2 hq0
          obtain rfl : q = p + X.size := by omega
          have hq : ((s.extract p (p + X.size)).toList == X.toList) = true := by rw [hXe]; exact hq0
          have f1 := toList_some X (by omega)
          have hX0 : 0 < X.size := by omega
          clear hprev hst hq0 hXe hend hok hx hX he1
          by_cases k0 : k = 0
          · have d0 : decide (0 < k) = false := by simp [k0]
            clear k0 hy1
            go_wp2
            all_goals exact ⟨⟨k + 1, p + X.size, by omega, by go_num, by go_num, HA2.out, hB.alloc hB.size _⟩, by simp [intOf]; omega⟩
          · obtain ⟨k', rfl⟩ : ∃ k', k = k' + 1 := ⟨k - 1, by omega⟩
            have d0 : decide (0 < k' + 1) = true := by simp
            have hk' : k' < l.length := by rw [HN.out]; omega
            have hy := hy1 l[k'] (by omega) (by rw [Nat.add_sub_cancel]; exact List.getElem?_eq_getElem hk')
            obtain ⟨g', hg', -, e0, -, -, -⟩ := (HV.out.below hB).cells (List.getElem?_eq_getElem hk')
            injection hg' with hg'
            injection hg' with hg' _ _
            subst hg'
            obtain ⟨z, hzz⟩ : ∃ z, (l[k']).kind = z := ⟨_, rfl⟩
            rw [hzz] at hy e0
            have t1 : ((z : Int) == 1) = false := beq_eq_false_iff_ne.2 (by omega)
            have e1 : ∀ o, (wr.alloc o).cell? ⟨g, k' * 4, none⟩ = some (.int .i64 (z : Int)) := fun o => (((Below.refl wr.heap.size wr).alloc (Nat.le_refl _) o).cell (p := ⟨g, k' * 4, none⟩) hgw).trans e0
            clear hzz hy hy1 k0
            go_wp2
            all_goals exact ⟨⟨k' + 1 + 1, p + X.size, by omega, by go_num, by go_num, HA2.out, hB.alloc hB.size _⟩, by simp [intOf]; omega⟩
      · obtain rfl : k = n := by omega
        obtain rfl : p = s.size := hA.all' HN.out
        clear hA
        go_wp2_with (go_at_call 7; refine (awake_any L _ (hL1.below hB hL1.1)).mono ?_; rintro e w' ⟨rfl, hb⟩)
        go_ret
        exact ⟨rfl, chain HB1 HB1.size (chain hB hB.size hb)⟩
  · have HN := lex_none he
    rw [HN] at hv
    obtain ⟨A, c, rfl, -⟩ := hv
    clear HN
    have t1 : (((lexE s : Nat) : Int) == 0) = false := beq_eq_false_iff_ne.2 (by omega)
    go_wp2_with (go_at_call 7; refine (awake_any L _ hL1).mono ?_; rintro e w' ⟨rfl, hb⟩)
    go_ret
    exact ⟨rfl, chain HB1 HB1.size hb⟩
end Go.Proofs.YtgdealdpphcamaaDoor.Lx
