/-
  The document's Of of layer 3.
-/
import Derived.Test.YtgdealdpphcamaaDoorLxT
namespace Go.Proofs.YtgdealdpphcamaaDoor.Lx
open Go.RowKit

theorem own_below {W W' : World} {B e size n : Nat} {v : Value} {xs : List Value} (h : W.ownsRow B e size v n xs) (hb : Below W.heap.size W W') : W'.ownsRow B e size v n xs := by
  refine ⟨h.1, ?_⟩
  rcases h.2 with hn | ⟨g, cap, cur, hv, hbg, hg, rest⟩
  · exact .inl hn
  · exact .inr ⟨g, cap, cur, hv, hbg, (hb.block g (Array.getElem?_eq_some_iff.1 hg).1).trans hg, rest⟩
theorem cellsLx_set (pre : List Lx) (x : Lx) (t : ByteArray) : (cellsLx (pre ++ [x])).set (pre.length * 4 + 2) (.string t) = cellsLx (pre ++ [{ x with text := t }]) := by
  rw [cellsLx_snoc, cellsLx_snoc, List.set_append, if_neg (by rw [cellsLx_length]; omega), cellsLx_length]
  simp [cellsX]
theorem cellsLx_text (pre : List Lx) (x : Lx) : (cellsLx (pre ++ [x]))[pre.length * 4 + 2]? = some (.string x.text) := by
  have := cellsLx_at (pre ++ [x]) pre.length x (by simp) 2 (by omega)
  rw [this]; rfl
theorem own_succ {W : World} {base : Nat} {e : TypeId} {size : Nat} {v : Value} {k : Nat} {xs : List Value} (h : W.ownsRow base e size v (k + 1) xs) : ∃ g cap, v = .slice (some ⟨g, 0, none⟩) (k + 1) cap := by
  rcases h.2 with ⟨_, h0⟩ | ⟨g, cap, _, rfl, _⟩
  · omega
  · exact ⟨g, cap, rfl⟩
theorem new_text {w1 : World} {base g cap m : Nat} {out : List Lx} {z : Int} (hm : out.length = m) (h : w1.ownsRow base 33 4 (.slice (some ⟨g, 0, none⟩) (m + 1) cap) (m + 1) (cellsLx out ++ [.int .i64 1, .int .u8 0, .string { data := #[] }, .int .i64 z])) :
    w1.cell? ⟨g, m * 4 + 2, none⟩ = some (.string { data := #[] }) := by
  rw [h.cellAt (m * 4 + 2) (by omega), List.getElem?_append_right (by rw [cellsLx_length, hm]; omega), cellsLx_length, hm, show m * 4 + 2 - m * 4 = 2 from by omega]
  rfl
theorem ext_cat (s : ByteArray) (f e e' : Nat) (h : f ≤ e) (h' : e ≤ e') : s.extract f e ++ s.extract e e' = s.extract f e' := by
  rw [ByteArray.extract_append_extract]
  simp [Nat.min_eq_left, Nat.max_eq_right, h, h']
theorem ropens_at (s : ByteArray) (hs : s.size ≤ 70000) (p : Nat) (hp : p ≤ s.size) (c : Nat) (n : ByteArray) (hc : openC s (p + 1) = c) (hn : nameS c = n) (w : World) :
    Calls Tryd.prog 18 #[.string s, .int .i64 (p : Int)] w fun e w' => e = .returned (.tuple #[.int .u8 ((c : Nat) : Int), .string n]) ∧ Below w.heap.size w w' := by
  subst hc; subst hn; exact ropens_any s hs p hp w
/-- A returned row, a place, an error. -/
def Gives (s : ByteArray) (e : Ending) (w' : World) (B : Nat) : Prop :=
  ∃ v, e = .returned (.tuple #[v, .int .i64 ((lexAt s : Nat) : Int), .int .i64 ((lexE s : Nat) : Int)]) ∧ w'.ownsRow B 33 4 v (lexV s).length (cellsLx (lexV s))
theorem Gives.nil {s : ByteArray} {w' : World} {B : Nat} {p e : Nat} (h : lexV s = [] ∧ lexAt s = p ∧ lexE s = e) : Gives s (.returned (.tuple #[.slice none 0 0, .int .i64 ((p : Nat) : Int), .int .i64 ((e : Nat) : Int)])) w' B := by
  obtain ⟨h1, h2, h3⟩ := h
  refine ⟨.slice none 0 0, by rw [h2, h3], ?_⟩
  rw [h1]; exact World.ownsRow_nil _ _ _ _

set_option maxRecDepth 100000 in
set_option maxHeartbeats 8000000 in
/-- stylusref03.Of -/
theorem rof_any (s : ByteArray) (hm : s.size ≤ maxLen) (w : World) :
    Calls Tryd.prog 9 #[.string s] w fun e w' => Gives s e w' w.heap.size ∧ Below w.heap.size w w' := by
  unfold maxLen at hm
  by_cases hlong : 8192 < s.size
  · have HG := Lib.hid (Gives.nil (w' := w) (B := w.heap.size) (lex_long hlong))
    go_enter Tryd.func9, Tryd.ntmps9
    go_wp2
    go_ret3
    exact ⟨HG.out, Below.refl _ _⟩
  have hs : s.size ≤ 8192 := by omega
  have HLN := Lib.hid hlong
  clear hlong
  obtain ⟨i0, hi, hz0, hz1, hz2⟩ := info_parts infoLex
  go_enter Tryd.func9, Tryd.ntmps9
  go_wp2
  go_loopw [5, 6, 7] (fun v u i wr => ∃ (k t m : Nat) (out : List Lx), i = .int .i64 k ∧ u = .int .i64 t ∧ Stands s k t out ∧ out.length = m ∧ m ≤ k ∧ wr.ownsRow w.heap.size 33 4 v m (cellsLx out) ∧ Below w.heap.size w wr) (fun _ _ i _ => s.size - (intOf i).toNat)
  case atStart => exact ⟨0, 0, 0, [], rfl, rfl, .inl ⟨rfl, Reach.zero s⟩, rfl, by omega, World.ownsRow_nil _ _ _ _, Below.refl _ _⟩
  case round =>
    obtain ⟨k, t, m, out, rfl, rfl, hS, hml, hmk, hown, hB⟩ := hrel
    have hks := hS.le
    have hsz := hB.size
    have HML := Lib.hid hml; clear hml
    by_cases hlt : k < s.size
    · have E1 := bAt_get s k hlt
      have h256 := bAt_lt s k
      obtain ⟨b, hb⟩ : ∃ b, bAt s k = b := ⟨_, rfl⟩
      by_cases b1 : b = 125
      · have hR := hS.settle (fun _ => by rw [hb, b1]; exact okT_not.2)
        have HS := Lib.hid (show Stands s (k + 1) 0 (out ++ [⟨3, 0, emptyS, k⟩]) from .inl ⟨rfl, hR.step hlt (step_close (by rw [hb, b1])) (by omega)⟩)
        have t1 : ((b : Int) == 125) = true := beq_iff_eq.2 (by omega)
        rw [hb] at E1
        clear hR hS hb b1
        go_wp2_with (at_builtin; refine wpList_append_own _ rfl _ _ 23 rfl w.heap.size 33 i0 _ 4 40 Tryd.underlying23 hi hz0 hz1 hz2 rfl (by decide) _ _ _ rfl (hown.alloc _) ⟨wr.heap.size, 0, none⟩ 1 1 [.int .i64 3, .int .u8 0, .string { data := #[] }, .int .i64 (k : Int)] rfl rfl (cell_four_new _ _ _ _ _ _) (by simp [Value.oneCell']) (by unfold maxLen; omega) (by omega) (by simp; omega) ?_; intro v' w1 hown' hgrow _)
        have hB2 : Below w.heap.size w w1 := (hB.alloc (by omega) _).grown hgrow (by simp; omega) (fun j ej => ((hown.lt) j ej).1)
        exact ⟨⟨k + 1, 0, m + 1, _, by go_num, rfl, HS.out, by rw [List.length_append, HML.out]; rfl, by omega, by rw [cellsLx_snoc]; exact hown', hB2⟩, by simp [intOf]; omega⟩
      · have t1 : ((b : Int) == 125) = false := beq_eq_false_iff_ne.2 (by omega)
        by_cases b2 : b = 123
        · have hR := hS.settle (fun _ => by rw [hb, b2]; exact okT_not.1)
          have t2 : ((b : Int) == 123) = true := beq_iff_eq.2 (by omega)
          obtain ⟨c, hc⟩ : ∃ c, openC s (k + 1) = c := ⟨_, rfl⟩
          obtain ⟨n, hn⟩ : ∃ n, nameS c = n := ⟨_, rfl⟩
          have HC := Lib.hid hc
          have HN := Lib.hid hn
          by_cases c0 : c = 0
          · have HX := Lib.hid (lex_bad HLN.out (hR.bad hlt (step_none (by rw [hb, b2]) (by rw [hc, c0]))))
            rw [hb] at E1
            subst c0
            clear hR hS hb b2 b1 hc hn
            go_wp2_with (go_at_call 18; refine (ropens_at s (by omega) k hks 0 n HC.out HN.out _).mono ?_; rintro e w2 ⟨rfl, hb2⟩)
            go_ret3
            exact ⟨Gives.nil HX.out, chain hB hB.size hb2⟩
          · have hfit := openC_fits (s := s) (p := k + 1) (by rw [hc]; exact c0)
            rw [hc] at hfit
            have hq0 : k + 1 + n.size ≤ s.size := by rw [← hn]; exact hfit.1
            have hstep := step_open (s := s) (p := k) (by rw [hb, b2]) (by rw [hc]; exact c0)
            have hskl := skip_le (s := s) (p := k) (by rw [hc]; exact c0)
            rw [hc, hn] at hstep hskl
            have HS := Lib.hid (show Stands s (skip s (k + 1 + n.size)) 0 (out ++ [⟨2, c, emptyS, k⟩]) from .inl ⟨rfl, hR.step hlt hstep hskl⟩)
            have t3 : ((c : Int) == 0) = false := beq_eq_false_iff_ne.2 (by omega)
            have hc256 : c < 256 := by rw [← hc]; exact openC_lt s _
            rw [hb] at E1
            clear hR hS hb b2 b1 hc hn hfit hstep hskl c0
            by_cases hq : k + 1 + n.size < s.size
            · have hqz : k + n.size + 1 < s.size := by omega
              have E2 := bAt_get s (k + n.size + 1) hqz
              have h2 := bAt_lt s (k + n.size + 1)
              have j0 : (0 : Int) ≤ (k : Int) + (n.size : Int) + 1 := by omega
              have j1 : (k : Int) + (n.size : Int) + 1 < (s.size : Int) := by omega
              have j2 : ((k : Int) + (n.size : Int) + 1).toNat = k + n.size + 1 := by omega
              obtain ⟨d, hd⟩ : ∃ d, bAt s (k + n.size + 1) = d := ⟨_, rfl⟩
              rw [hd] at E2 h2
              by_cases hw : Ka.whiteB (d : Int) = true
              · have HK := Lib.hid (show skip s (k + 1 + n.size) = k + n.size + 1 + 1 by
                  unfold skip white
                  rw [show k + 1 + n.size = k + n.size + 1 from by omega, hd, if_pos ⟨hqz, hw⟩])
                have HW := Lib.hid hw
                clear hd hw
                go_wp2_with (first
                  | (go_at_call 18; refine (ropens_at s (by omega) k hks c n HC.out HN.out _).mono ?_; rintro e w2 ⟨rfl, hb2⟩; have hown2 := own_below hown hb2; have hsz2 := hb2.size)
                  | (go_at_call 19; refine (Ka.rwhite_at d true h2 HW.out _).mono ?_; rintro e w' ⟨rfl, rfl⟩)
                  | (at_builtin; refine wpList_append_own _ rfl _ _ 23 rfl w.heap.size 33 i0 _ 4 40 Tryd.underlying23 hi hz0 hz1 hz2 rfl (by decide) _ _ _ rfl (hown2.alloc _) ⟨w2.heap.size, 0, none⟩ 1 1 [.int .i64 2, .int .u8 (c : Int), .string { data := #[] }, .int .i64 (k : Int)] rfl rfl (cell_four_new _ _ _ _ _ _) (by simp [Value.oneCell']) (by unfold maxLen; omega) (by omega) (by simp; omega) ?_; intro v' w1 hown' hgrow _))
                have hB2 : Below w.heap.size w w1 := ((chain hB hB.size hb2).alloc (by omega) _).grown hgrow (by simp; omega) (fun j ej => ((hown2.lt) j ej).1)
                exact ⟨⟨k + n.size + 1 + 1, 0, m + 1, _, by go_num, rfl, by rw [← HK.out]; exact HS.out, by rw [List.length_append, HML.out]; rfl, by omega, by rw [cellsLx_snoc]; exact hown', hB2⟩, by simp [intOf]; omega⟩
              · have hw' : Ka.whiteB (d : Int) = false := by simpa using hw
                have HK := Lib.hid (show skip s (k + 1 + n.size) = k + n.size + 1 by
                  unfold skip white
                  rw [show k + 1 + n.size = k + n.size + 1 from by omega, hd, if_neg (fun h => hw h.2)])
                have HW := Lib.hid hw'
                clear hd hw hw'
                go_wp2_with (first
                  | (go_at_call 18; refine (ropens_at s (by omega) k hks c n HC.out HN.out _).mono ?_; rintro e w2 ⟨rfl, hb2⟩; have hown2 := own_below hown hb2; have hsz2 := hb2.size)
                  | (go_at_call 19; refine (Ka.rwhite_at d false h2 HW.out _).mono ?_; rintro e w' ⟨rfl, rfl⟩)
                  | (at_builtin; refine wpList_append_own _ rfl _ _ 23 rfl w.heap.size 33 i0 _ 4 40 Tryd.underlying23 hi hz0 hz1 hz2 rfl (by decide) _ _ _ rfl (hown2.alloc _) ⟨w2.heap.size, 0, none⟩ 1 1 [.int .i64 2, .int .u8 (c : Int), .string { data := #[] }, .int .i64 (k : Int)] rfl rfl (cell_four_new _ _ _ _ _ _) (by simp [Value.oneCell']) (by unfold maxLen; omega) (by omega) (by simp; omega) ?_; intro v' w1 hown' hgrow _))
                have hB2 : Below w.heap.size w w1 := ((chain hB hB.size hb2).alloc (by omega) _).grown hgrow (by simp; omega) (fun j ej => ((hown2.lt) j ej).1)
                exact ⟨⟨k + n.size + 1, 0, m + 1, _, by go_num, rfl, by rw [← HK.out]; exact HS.out, by rw [List.length_append, HML.out]; rfl, by omega, by rw [cellsLx_snoc]; exact hown', hB2⟩, by simp [intOf]; omega⟩
            · have HK := Lib.hid (show skip s (k + 1 + n.size) = k + n.size + 1 by
                unfold skip
                rw [if_neg (fun h => hq h.1)]; omega)
              have j1 : decide ((k : Int) + (n.size : Int) + 1 < (s.size : Int)) = false := decide_eq_false (by omega)
              go_wp2_with (first
                | (go_at_call 18; refine (ropens_at s (by omega) k hks c n HC.out HN.out _).mono ?_; rintro e w2 ⟨rfl, hb2⟩; have hown2 := own_below hown hb2; have hsz2 := hb2.size)
                | (at_builtin; refine wpList_append_own _ rfl _ _ 23 rfl w.heap.size 33 i0 _ 4 40 Tryd.underlying23 hi hz0 hz1 hz2 rfl (by decide) _ _ _ rfl (hown2.alloc _) ⟨w2.heap.size, 0, none⟩ 1 1 [.int .i64 2, .int .u8 (c : Int), .string { data := #[] }, .int .i64 (k : Int)] rfl rfl (cell_four_new _ _ _ _ _ _) (by simp [Value.oneCell']) (by unfold maxLen; omega) (by omega) (by simp; omega) ?_; intro v' w1 hown' hgrow _))
              have hB2 : Below w.heap.size w w1 := ((chain hB hB.size hb2).alloc (by omega) _).grown hgrow (by simp; omega) (fun j ej => ((hown2.lt) j ej).1)
              exact ⟨⟨k + n.size + 1, 0, m + 1, _, by go_num, rfl, by rw [← HK.out]; exact HS.out, by rw [List.length_append, HML.out]; rfl, by omega, by rw [cellsLx_snoc]; exact hown', hB2⟩, by simp [intOf]; omega⟩
        · have t2 : ((b : Int) == 123) = false := beq_eq_false_iff_ne.2 (by omega)
          rw [hb] at h256
          by_cases hok : okT b = true
          · rcases hS.cases with h0 | h1
            · subst h0
              have HS := Lib.hid (hS.first hlt (by rw [hb]; exact hok))
              have hcat : ({ data := #[] } : ByteArray) ++ s.extract k (k + 1) = s.extract k (k + 1) := by show ByteArray.empty ++ _ = _; simp
              have j3 : (0 : Int) ≤ (m : Int) := by omega
              have j4 : (k : Int) + 1 ≤ (s.size : Int) := by omega
              rw [hb] at E1
              obtain ⟨v1, hv1⟩ : ∃ v1, Ka.isB (b : Int) = v1 := ⟨_, rfl⟩
              have HV1 := Lib.hid hv1
              have HV2 : v1 = false → Hid (Ka.whiteB (b : Int) = true) := fun e => Lib.hid (by
                unfold okT at hok; rw [hv1, e] at hok; simpa using hok)
              clear hS hb b1 b2 hok hv1
              cases v1
              · have HV := HV2 rfl
                clear HV2
                go_wp2_with (first
                  | (go_at_call 20; refine (Ka.ris_at b false h256 HV1.out _).mono ?_; rintro e w' ⟨rfl, rfl⟩)
                  | (go_at_call 19; refine (Ka.rwhite_at b true h256 HV.out _).mono ?_; rintro e w' ⟨rfl, rfl⟩)
                  | (at_builtin; refine wpList_append_own _ rfl _ _ 23 rfl w.heap.size 33 i0 _ 4 40 Tryd.underlying23 hi hz0 hz1 hz2 rfl (by decide) _ _ _ rfl (hown.alloc _) ⟨wr.heap.size, 0, none⟩ 1 1 [.int .i64 1, .int .u8 0, .string { data := #[] }, .int .i64 (k : Int)] rfl rfl (cell_four_new _ _ _ _ _ _) (by simp [Value.oneCell']) (by unfold maxLen; omega) (by omega) (by simp; omega) ?_; intro v' w1 hown' hgrow _; obtain ⟨g', cap', rfl⟩ := own_succ hown'; have c1 := new_text HML.out hown'; have f1 : w1.frozen? ⟨g', m * 4 + 2, none⟩ = false := hown'.frozenAt (m * 4 + 2)))
                go_region
                go_wp2
                have hB2 : Below w.heap.size w w1 := (hB.alloc (by omega) _).grown hgrow (by simp; omega) (fun j ej => ((hown.lt) j ej).1)
                obtain ⟨hown2, _⟩ := hown'.stored (m * 4 + 2) (.string (s.extract k (k + 1)))
                rw [show cellsLx out ++ [.int .i64 1, .int .u8 0, .string { data := #[] }, .int .i64 (k : Int)] = cellsLx (out ++ [⟨1, 0, emptyS, k⟩]) from by rw [cellsLx_snoc]; rfl, ← HML.out, cellsLx_set, HML.out] at hown2
                exact ⟨⟨k + 1, 1, m + 1, _, by go_num, rfl, HS.out, by rw [List.length_append, HML.out]; rfl, by omega, hown2, (hB2.setCell (p := ⟨g', m * 4 + 2, none⟩) (hown'.lt g' (by simp [Value.ownBlock])).1 _).drew⟩, by simp [intOf]; omega⟩
              · clear HV2
                go_wp2_with (first
                  | (go_at_call 20; refine (Ka.ris_at b true h256 HV1.out _).mono ?_; rintro e w' ⟨rfl, rfl⟩)
                  | (at_builtin; refine wpList_append_own _ rfl _ _ 23 rfl w.heap.size 33 i0 _ 4 40 Tryd.underlying23 hi hz0 hz1 hz2 rfl (by decide) _ _ _ rfl (hown.alloc _) ⟨wr.heap.size, 0, none⟩ 1 1 [.int .i64 1, .int .u8 0, .string { data := #[] }, .int .i64 (k : Int)] rfl rfl (cell_four_new _ _ _ _ _ _) (by simp [Value.oneCell']) (by unfold maxLen; omega) (by omega) (by simp; omega) ?_; intro v' w1 hown' hgrow _; obtain ⟨g', cap', rfl⟩ := own_succ hown'; have c1 := new_text HML.out hown'; have f1 : w1.frozen? ⟨g', m * 4 + 2, none⟩ = false := hown'.frozenAt (m * 4 + 2)))
                go_region
                go_wp2
                have hB2 : Below w.heap.size w w1 := (hB.alloc (by omega) _).grown hgrow (by simp; omega) (fun j ej => ((hown.lt) j ej).1)
                obtain ⟨hown2, _⟩ := hown'.stored (m * 4 + 2) (.string (s.extract k (k + 1)))
                rw [show cellsLx out ++ [.int .i64 1, .int .u8 0, .string { data := #[] }, .int .i64 (k : Int)] = cellsLx (out ++ [⟨1, 0, emptyS, k⟩]) from by rw [cellsLx_snoc]; rfl, ← HML.out, cellsLx_set, HML.out] at hown2
                exact ⟨⟨k + 1, 1, m + 1, _, by go_num, rfl, HS.out, by rw [List.length_append, HML.out]; rfl, by omega, hown2, (hB2.setCell (p := ⟨g', m * 4 + 2, none⟩) (hown'.lt g' (by simp [Value.ownBlock])).1 _).drew⟩, by simp [intOf]; omega⟩
            · subst h1
              obtain ⟨p, pre, rfl, hpk, _⟩ := hS.text
              have HS := Lib.hid (hS.more hlt (by rw [hb]; exact hok))
              have hml2 : (pre ++ [(⟨1, 0, s.extract p k, p⟩ : Lx)]).length = pre.length + 1 := by simp
              obtain ⟨q, hq⟩ : ∃ q, pre.length = q := ⟨_, rfl⟩
              have hmq : m = q + 1 := by rw [← HML.out, hml2, hq]
              subst hmq
              rcases hown.2 with ⟨_, hno⟩ | ⟨g, cap, cur, rfl, -⟩
              · omega
              have c1 : wr.cell? ⟨g, q * 4 + 2, none⟩ = some (.string (s.extract p k)) := by
                rw [hown.cellAt (q * 4 + 2) (by omega), ← hq]; exact cellsLx_text pre _
              have f1 : wr.frozen? ⟨g, q * 4 + 2, none⟩ = false := hown.frozenAt (q * 4 + 2)
              have hcat := ext_cat s p k (k + 1) (by omega) (by omega)
              have HQ := Lib.hid hq
              have j3 : (0 : Int) ≤ (q : Int) := by omega
              have j4 : (k : Int) + 1 ≤ (s.size : Int) := by omega
              rw [hb] at E1
              obtain ⟨v1, hv1⟩ : ∃ v1, Ka.isB (b : Int) = v1 := ⟨_, rfl⟩
              have HV1 := Lib.hid hv1
              have HV2 : v1 = false → Hid (Ka.whiteB (b : Int) = true) := fun e => Lib.hid (by
                unfold okT at hok; rw [hv1, e] at hok; simpa using hok)
              clear hS hb b1 b2 hok hq hml2 hv1
              cases v1
              · have HV := HV2 rfl
                clear HV2
                go_wp2_with (first
                  | (go_at_call 20; refine (Ka.ris_at b false h256 HV1.out _).mono ?_; rintro e w' ⟨rfl, rfl⟩)
                  | (go_at_call 19; refine (Ka.rwhite_at b true h256 HV.out _).mono ?_; rintro e w' ⟨rfl, rfl⟩))
                go_region
                go_wp2
                obtain ⟨hown2, _⟩ := hown.stored (q * 4 + 2) (.string (s.extract p (k + 1)))
                rw [← HQ.out, cellsLx_set, HQ.out] at hown2
                exact ⟨⟨k + 1, 1, q + 1, _, by go_num, rfl, HS.out, by rw [List.length_append, HQ.out]; rfl, by omega, hown2, (hB.setCell (p := ⟨g, q * 4 + 2, none⟩) (hown.lt g (by simp [Value.ownBlock])).1 _).drew⟩, by simp [intOf]; omega⟩
              · clear HV2
                go_wp2_with (go_at_call 20; refine (Ka.ris_at b true h256 HV1.out _).mono ?_; rintro e w' ⟨rfl, rfl⟩)
                go_region
                go_wp2
                obtain ⟨hown2, _⟩ := hown.stored (q * 4 + 2) (.string (s.extract p (k + 1)))
                rw [← HQ.out, cellsLx_set, HQ.out] at hown2
                exact ⟨⟨k + 1, 1, q + 1, _, by go_num, rfl, HS.out, by rw [List.length_append, HQ.out]; rfl, by omega, hown2, (hB.setCell (p := ⟨g, q * 4 + 2, none⟩) (hown.lt g (by simp [Value.ownBlock])).1 _).drew⟩, by simp [intOf]; omega⟩
          · have hok' : okT b = false := by simpa using hok
            have hR := hS.settle (fun _ => by rw [hb]; exact hok')
            have HX := Lib.hid (lex_bad HLN.out (hR.bad hlt (step_bad (by rw [hb]; exact b1) (by rw [hb]; exact b2) (by rw [hb]; exact hok'))))
            have HV1 := Lib.hid (show Ka.isB (b : Int) = false by unfold okT at hok'; simp at hok'; exact hok'.1)
            have HV2 := Lib.hid (show Ka.whiteB (b : Int) = false by unfold okT at hok'; simp at hok'; exact hok'.2)
            rw [hb] at E1
            clear hR hS hb b1 b2 hok hok'
            go_wp2_with (first
              | (go_at_call 20; refine (Ka.ris_at b false h256 HV1.out _).mono ?_; rintro e w' ⟨rfl, rfl⟩)
              | (go_at_call 19; refine (Ka.rwhite_at b false h256 HV2.out _).mono ?_; rintro e w' ⟨rfl, rfl⟩))
            go_ret3
            exact ⟨Gives.nil HX.out, hB⟩
    · obtain rfl : k = s.size := by omega
      have hR := hS.settle (fun h => absurd h (by omega))
      have hok := lex_ok HLN.out hR.all
      have HO := Lib.hid hok
      clear hR hS hok
      go_wp2
      go_ret3
      obtain ⟨o1, o2, o3⟩ := HO.out
      exact ⟨⟨_, by rw [o2, o3]; rfl, by rw [o1, HML.out]; exact hown⟩, hB⟩
end Go.Proofs.YtgdealdpphcamaaDoor.Lx
