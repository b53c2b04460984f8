/-
  Put together: PaC, PaD.
-/
import Derived.Test.YtalehelgemmmeaaGreatDoorSj
import Derived.Test.YtalehelgemmmeaaGreatDoorQi
import Derived.Test.YtalehelgemmmeaaGreatDoorQf
namespace Go.Proofs.YtalehelgemmmeaaGreatDoor.Pa
open Go.RowKit Ba Ru Ck Ti

theorem lefts_parts {l : List Rl} {ks : List Nat} {ws : List (List Nat)} (h : ks.length = ws.length ∧ ∀ (i k : Nat), ks[i]? = some k → (l[k]?.map fun x : Rl => x.left) = ws[i]?) {i k : Nat} (hk : ks[i]? = some k) : ∃ x s, l[k]? = some x ∧ ws[i]? = some s ∧ x.left = s := by
  have h2 := h.2 i k hk
  have hi : i < ws.length := by have := (List.getElem?_eq_some_iff.1 hk).1; omega
  rw [List.getElem?_eq_getElem hi] at h2
  obtain ⟨x, h3, h4⟩ := Option.map_eq_some_iff.1 h2
  exact ⟨x, _, h3, List.getElem?_eq_getElem hi, h4⟩
set_option maxRecDepth 100000 in
set_option maxHeartbeats 4000000 in
/-- styluslaw11.lefts, where they are these -/
theorem lefts11_yes (v : Value) (l : List Rl) (off n c : Nat) (A : Option Addr) (hv0 : v = .slice A n c) (g1 c1 g2 c2 m : Nat) (ks : List Nat) (ws : List (List Nat)) (hl : l.length = n) (hn : n ≤ 100000) (hm : ks.length = m) (h : ks.length = ws.length ∧ ∀ (i k : Nat), ks[i]? = some k → (l[k]?.map fun x : Rl => x.left) = ws[i]?) (hm9 : m ≤ 100000) (w : World) (B1 _B2 _B3 : Nat) (hv : ReadsR off w B1 v l)
    (hu : ∀ (i k : Nat), ks[i]? = some k → w.cell? ⟨g1, i, none⟩ = some (.int .i64 (k : Int))) (hz : ∀ (i : Nat) (s : List Nat), ws[i]? = some s → w.cell? ⟨g2, i, none⟩ = some (.string (bytesOf s))) :
    Calls Tryz.prog 14 #[v, .slice (some ⟨g1, 0, none⟩) m c1, .slice (some ⟨g2, 0, none⟩) m c2] w fun e w' => e = .returned (.bool true) ∧ ∃ n, w' = w.drewN n := by
  have HV := Lib.hid hv
  have HU := Lib.hid hu
  have HZ := Lib.hid hz
  have HH := Lib.hid h
  have HM := Lib.hid hm
  have HL := Lib.hid hl
  subst hv0
  clear hv hu hz h hm hl
  go_enter Tryz.func14, Tryz.ntmps14
  go_wp2
  go_loopw [7] (fun i wr => ∃ (k n : Nat), k ≤ m ∧ i = .int .i64 k ∧ wr = w.drewN n) (fun i _ => m - (intOf i).toNat)
  case atStart => exact ⟨0, 0, by omega, rfl, rfl⟩
  case round =>
    obtain ⟨i, q, hk, rfl, rfl⟩ := hrel
    by_cases hlt : i < m
    · obtain ⟨k, hki⟩ : ∃ k, ks[i]? = some k := ⟨_, List.getElem?_eq_getElem (by rw [HM.out]; exact hlt)⟩
      obtain ⟨x, s, hx, hs, hxs⟩ := lefts_parts HH.out hki
      have e1 := HU.out i k hki
      have e2 := HZ.out i s hs
      have hkl : k < n := by have := (List.getElem?_eq_some_iff.1 hx).1; rw [HL.out] at this; exact this
      obtain ⟨A', c', e, hA⟩ := HV.out
      injection e with e4 e5 e6
      subst e4
      obtain ⟨g, rfl, -, hg⟩ := hA (by rw [HL.out]; omega)
      obtain ⟨-, e3, -, -, -⟩ := rcell hg k x hx
      rw [hxs] at e3
      generalize bytesOf s = L at e2 e3
      have d1 : decide ((k : Int) < 0) = false := decide_eq_false (by omega)
      have d2 : decide ((n : Int) ≤ (k : Int)) = false := decide_eq_false (by omega)
      have d3 : decide (n ≤ k) = false := decide_eq_false (by omega)
      clear hA hg hki hx hs hxs e5 e6
      go_wp2
      go_quiet (fail)
      go_wp2
      go_roundw
      case rel => exact ⟨i + 1, q + nq, by omega, by go_num, rfl⟩
      case measure => simp [intOf]; omega
    · go_wp2
      go_ret
      exact ⟨rfl, q, rfl⟩
set_option maxRecDepth 100000 in
theorem base_all : allN baseL [115, 97, 110, 100] 0 = [18, 26] ∧ allN baseL [99, 97, 110, 100, 121] 0 = [2, 26, 24] ∧ allN baseL [110, 101, 115, 115] 0 = [13, 4, 18, 18] ∧ allN baseL [105, 108, 108, 110, 101, 115, 115] 0 = [8, 11, 11, 46] ∧ allN baseL [99, 111, 110, 116, 101, 115, 116] 0 = [43, 19, 4, 40] ∧ allN baseL [105, 99, 111, 110] 0 = [8, 2, 14, 13] := by decide +kernel
set_option maxRecDepth 100000 in
theorem base_best : bestN baseL [97, 110, 100] 0 2 = some 0 ∧ bestN baseL [115, 101, 97] 1 9 = some 45 ∧ bestN baseL [101, 97] 0 9 = some 4 := by decide +kernel
set_option maxRecDepth 100000 in
theorem base_lefts : [18, 26].map (fun k => baseL[k]?.map fun x : Rl => x.left) = [[115], [97, 110, 100]].map some ∧ [2, 26, 24].map (fun k => baseL[k]?.map fun x : Rl => x.left) = [[99], [97, 110, 100], [121]].map some ∧ [13, 4, 18, 18].map (fun k => baseL[k]?.map fun x : Rl => x.left) = [[110], [101], [115], [115]].map some ∧ [8, 11, 11, 46].map (fun k => baseL[k]?.map fun x : Rl => x.left) = [[105], [108], [108], [110, 101, 115, 115]].map some ∧ [43, 19, 4, 40].map (fun k => baseL[k]?.map fun x : Rl => x.left) = [[99, 111, 110], [116], [101], [115, 116]].map some ∧ [8, 2, 14, 13].map (fun k => baseL[k]?.map fun x : Rl => x.left) = [[105], [99], [111], [110]].map some ∧ [0].map (fun k => baseL[k]?.map fun x : Rl => x.left) = [[97]].map some ∧ [45].map (fun k => baseL[k]?.map fun x : Rl => x.left) = [[101, 97]].map some ∧ [4].map (fun k => baseL[k]?.map fun x : Rl => x.left) = [[101]].map some := by decide +kernel
end Go.Proofs.YtalehelgemmmeaaGreatDoor.Pa
namespace Go.Proofs.YtalehelgemmmeaaGreatDoor.Pa
open Go.RowKit Ba Ru Ck Ti

theorem lits_cell (w : World) (t : TypeId) (ws : List (List Nat)) (i : Nat) (s : List Nat) (h : ws[i]? = some s) : (w.alloc (.cells (ws.map fun (s : List Nat) => Value.string (bytesOf s)).toArray t)).cell? ⟨w.heap.size, i, none⟩ = some (.string (bytesOf s)) := by
  have hb := heap_alloc_new w (.cells (ws.map fun (s : List Nat) => Value.string (bytesOf s)).toArray t)
  simp only [World.cell?, hb]
  simp [h]
theorem nums_cell (w : World) (t : TypeId) (ks : List Nat) (i k : Nat) (h : ks[i]? = some k) : (w.alloc (.cells (ks.map fun (k : Nat) => Value.int .i64 (k : Int)).toArray t)).cell? ⟨w.heap.size, i, none⟩ = some (.int .i64 (k : Int)) := by
  have hb := heap_alloc_new w (.cells (ks.map fun (k : Nat) => Value.int .i64 (k : Int)).toArray t)
  simp only [World.cell?, hb]
  simp [h]
theorem lefts_of {l : List Rl} {ks : List Nat} {ws : List (List Nat)} (h : ks.map (fun k => l[k]?.map fun x : Rl => x.left) = ws.map some) : ks.length = ws.length ∧ ∀ (i k : Nat), ks[i]? = some k → (l[k]?.map fun x : Rl => x.left) = ws[i]? := by
  have hl : ks.length = ws.length := by have := congrArg List.length h; rwa [List.length_map, List.length_map] at this
  refine ⟨hl, fun i k hk => ?_⟩
  have := congrArg (fun L => L[i]?) h
  simp only [List.getElem?_map, hk, Option.map_some] at this
  have hi : i < ws.length := by have := (List.getElem?_eq_some_iff.1 hk).1; omega
  rw [List.getElem?_eq_getElem hi] at this ⊢
  exact Option.some.inj this
set_option maxRecDepth 100000 in
set_option maxHeartbeats 16000000 in
/-- styluslaw11.awake -/
theorem awake11 (T : TLands) (P : PLands T) (w : World) (hL : Laid9 w) : Calls Tryz.prog 6 #[] w fun e w' => e = .returned (.bool true) ∧ Below w.heap.size w w' := by
  have HL := Lib.hid hL
  clear hL
  have HACC := Lib.hid (show Acc prC baseL from (table_acc baseL).1 (by rw [base_table]))
  obtain ⟨a1, a2, a3, a4, a5, a6⟩ := base_all
  obtain ⟨b1, b2, b3⟩ := base_best
  obtain ⟨c1, c2, c3, c4, c5, c6, c7, c8, c9⟩ := base_lefts
  go_enter Tryz.func6, Tryz.ntmps6
  go_wp2_with fail
  refine (rbase_any _).mono ?_
  rintro e wb ⟨vb, rfl, ownb, hbb⟩
  have hRb := Reads.of_own (f := cR) (n := 5) cR_len base_len ownb
  have hCb := capsR_own ownb
  obtain ⟨Ab, cb, rfl, -⟩ := own_formR ownb
  have HWb := Lib.hid hbb
  have HNE := Lib.hid (T.new (.slice Ab 106 cb) baseL 0 (by rw [base_len]; decide) base_fit hCb wb (HL.out.kept hbb) hRb)
  have HRb := Lib.hid hRb
  clear ownb hbb hRb hCb
  go_wp2_with fail
  refine HNE.out.mono ?_
  rintro e w1 ⟨hb1, h1⟩
  rcases h1 with ⟨-, t, rfl, his⟩ | ⟨hno, -⟩
  rotate_left
  · exact absurd (show (tableR prC baseL).2 = 0 by rw [base_table]) hno
  obtain ⟨⟨a, rfl⟩, -⟩ := T.ptr his
  have hl1 : Laid9 w1 := (HL.out.kept HWb.out).kept hb1
  have hlen : baseL.length ≤ 1000 := by rw [base_len]; decide
  have HBA := Lib.hid (chain HWb.out HWb.out.size hb1)
  have hRd := (HRb.out.below hb1).mono hb1.size
  have HE1 := Lib.hid (show ∀ W : World, Below w1.heap.size w1 W → Calls Tryz.prog 10 #[.pointer (some a), .string { data := #[97, 110, 100] }, .int .i64 0, .int .i64 2] W fun e w' => e = .returned (.tuple #[.int .i64 0, .bool true]) ∧ Below w1.heap.size w1 w' from fun W hW => by
    have h := P.best { data := #[97, 110, 100] } 0 2 (by decide) (by unfold I64; decide) (by unfold I64; decide) hlen HACC.out base_fit W (hl1.kept hW) (T.keep his (Kept.of_below hW (Nat.le_refl _)))
    rw [show bytesN { data := #[97, 110, 100] } = [97, 110, 100] from by decide, b1] at h
    exact h.mono fun e w' h => ⟨h.1, chain hW hW.size h.2⟩)
  have HE2 := Lib.hid (show ∀ W : World, Below w1.heap.size w1 W → Calls Tryz.prog 10 #[.pointer (some a), .string { data := #[115, 101, 97] }, .int .i64 1, .int .i64 9] W fun e w' => e = .returned (.tuple #[.int .i64 45, .bool true]) ∧ Below w1.heap.size w1 w' from fun W hW => by
    have h := P.best { data := #[115, 101, 97] } 1 9 (by decide) (by unfold I64; decide) (by unfold I64; decide) hlen HACC.out base_fit W (hl1.kept hW) (T.keep his (Kept.of_below hW (Nat.le_refl _)))
    rw [show bytesN { data := #[115, 101, 97] } = [115, 101, 97] from by decide, b2] at h
    exact h.mono fun e w' h => ⟨h.1, chain hW hW.size h.2⟩)
  have HE3 := Lib.hid (show ∀ W : World, Below w1.heap.size w1 W → Calls Tryz.prog 10 #[.pointer (some a), .string { data := #[101, 97] }, .int .i64 0, .int .i64 9] W fun e w' => e = .returned (.tuple #[.int .i64 4, .bool true]) ∧ Below w1.heap.size w1 w' from fun W hW => by
    have h := P.best { data := #[101, 97] } 0 9 (by decide) (by unfold I64; decide) (by unfold I64; decide) hlen HACC.out base_fit W (hl1.kept hW) (T.keep his (Kept.of_below hW (Nat.le_refl _)))
    rw [show bytesN { data := #[101, 97] } = [101, 97] from by decide, b3] at h
    exact h.mono fun e w' h => ⟨h.1, chain hW hW.size h.2⟩)
  have HA1 := Lib.hid (show ∀ W : World, Below w1.heap.size w1 W → Calls Tryz.prog 8 #[.pointer (some a), .string { data := #[115, 97, 110, 100] }, .int .i64 0] W fun e w' => ∃ g c, e = .returned (.slice (some ⟨g, 0, none⟩) 2 c) ∧ (∀ (i k : Nat), ([18, 26] : List Nat)[i]? = some k → w'.cell? ⟨g, i, none⟩ = some (.int .i64 (k : Int))) ∧ g < w'.heap.size ∧ Below w1.heap.size w1 w' from fun W hW => by
    have h := P.all { data := #[115, 97, 110, 100] } 0 (by decide) (by unfold I64; decide) hlen HACC.out base_fit W (hl1.kept hW) (T.keep his (Kept.of_below hW (Nat.le_refl _)))
    rw [show bytesN { data := #[115, 97, 110, 100] } = [115, 97, 110, 100] from by decide, a1] at h
    refine h.mono fun e w' h => ?_
    obtain ⟨v, rfl, ho, hb⟩ := h
    rcases ho.2 with ⟨-, h0⟩ | ⟨g, c, cur, rfl, -⟩
    · exact absurd h0 (by decide)
    · exact ⟨g, c, rfl, fun i k hk => int_cell ho (List.getElem?_eq_some_iff.1 hk).1 hk, (ho.lt g rfl).2, chain hW hW.size hb⟩)
  have HF1 := Lib.hid (show ∀ (W : World) (g c : Nat), Below w1.heap.size w1 W → (∀ (i k : Nat), ([18, 26] : List Nat)[i]? = some k → W.cell? ⟨g, i, none⟩ = some (.int .i64 (k : Int))) → g < W.heap.size → Calls Tryz.prog 14 #[.slice Ab 106 cb, .slice (some ⟨g, 0, none⟩) 2 c, .slice (some ⟨W.heap.size, 0, none⟩) 2 2] (W.alloc (.cells #[.string { data := #[115] }, .string { data := #[97, 110, 100] }] 9)) fun e w' => e = .returned (.bool true) ∧ Below w1.heap.size w1 w' from fun W g c hW hu hg => by
    have hW2 : Below w1.heap.size w1 (W.alloc (.cells #[.string { data := #[115] }, .string { data := #[97, 110, 100] }] 9)) := hW.alloc hW.size _
    refine (lefts11_yes _ baseL 0 106 cb Ab rfl g c W.heap.size 2 2 [18, 26] [[115], [97, 110, 100]] base_len (by decide) rfl (lefts_of c1) (by decide) _ w1.heap.size 0 0 ((hRd.below hW2)) (fun i k hk => (Below.cell ((Below.refl W.heap.size W).alloc (Nat.le_refl _) _) (p := ⟨g, i, none⟩) hg).trans (hu i k hk)) (lits_cell W _ [[115], [97, 110, 100]])).mono fun e w' h => ?_
    obtain ⟨h1, n, rfl⟩ := h
    exact ⟨h1, Ba.below_drewN hW2 n⟩)
  have HA2 := Lib.hid (show ∀ W : World, Below w1.heap.size w1 W → Calls Tryz.prog 8 #[.pointer (some a), .string { data := #[99, 97, 110, 100, 121] }, .int .i64 0] W fun e w' => ∃ g c, e = .returned (.slice (some ⟨g, 0, none⟩) 3 c) ∧ (∀ (i k : Nat), ([2, 26, 24] : List Nat)[i]? = some k → w'.cell? ⟨g, i, none⟩ = some (.int .i64 (k : Int))) ∧ g < w'.heap.size ∧ Below w1.heap.size w1 w' from fun W hW => by
    have h := P.all { data := #[99, 97, 110, 100, 121] } 0 (by decide) (by unfold I64; decide) hlen HACC.out base_fit W (hl1.kept hW) (T.keep his (Kept.of_below hW (Nat.le_refl _)))
    rw [show bytesN { data := #[99, 97, 110, 100, 121] } = [99, 97, 110, 100, 121] from by decide, a2] at h
    refine h.mono fun e w' h => ?_
    obtain ⟨v, rfl, ho, hb⟩ := h
    rcases ho.2 with ⟨-, h0⟩ | ⟨g, c, cur, rfl, -⟩
    · exact absurd h0 (by decide)
    · exact ⟨g, c, rfl, fun i k hk => int_cell ho (List.getElem?_eq_some_iff.1 hk).1 hk, (ho.lt g rfl).2, chain hW hW.size hb⟩)
  have HF2 := Lib.hid (show ∀ (W : World) (g c : Nat), Below w1.heap.size w1 W → (∀ (i k : Nat), ([2, 26, 24] : List Nat)[i]? = some k → W.cell? ⟨g, i, none⟩ = some (.int .i64 (k : Int))) → g < W.heap.size → Calls Tryz.prog 14 #[.slice Ab 106 cb, .slice (some ⟨g, 0, none⟩) 3 c, .slice (some ⟨W.heap.size, 0, none⟩) 3 3] (W.alloc (.cells #[.string { data := #[99] }, .string { data := #[97, 110, 100] }, .string { data := #[121] }] 9)) fun e w' => e = .returned (.bool true) ∧ Below w1.heap.size w1 w' from fun W g c hW hu hg => by
    have hW2 : Below w1.heap.size w1 (W.alloc (.cells #[.string { data := #[99] }, .string { data := #[97, 110, 100] }, .string { data := #[121] }] 9)) := hW.alloc hW.size _
    refine (lefts11_yes _ baseL 0 106 cb Ab rfl g c W.heap.size 3 3 [2, 26, 24] [[99], [97, 110, 100], [121]] base_len (by decide) rfl (lefts_of c2) (by decide) _ w1.heap.size 0 0 ((hRd.below hW2)) (fun i k hk => (Below.cell ((Below.refl W.heap.size W).alloc (Nat.le_refl _) _) (p := ⟨g, i, none⟩) hg).trans (hu i k hk)) (lits_cell W _ [[99], [97, 110, 100], [121]])).mono fun e w' h => ?_
    obtain ⟨h1, n, rfl⟩ := h
    exact ⟨h1, Ba.below_drewN hW2 n⟩)
  have HA3 := Lib.hid (show ∀ W : World, Below w1.heap.size w1 W → Calls Tryz.prog 8 #[.pointer (some a), .string { data := #[110, 101, 115, 115] }, .int .i64 0] W fun e w' => ∃ g c, e = .returned (.slice (some ⟨g, 0, none⟩) 4 c) ∧ (∀ (i k : Nat), ([13, 4, 18, 18] : List Nat)[i]? = some k → w'.cell? ⟨g, i, none⟩ = some (.int .i64 (k : Int))) ∧ g < w'.heap.size ∧ Below w1.heap.size w1 w' from fun W hW => by
    have h := P.all { data := #[110, 101, 115, 115] } 0 (by decide) (by unfold I64; decide) hlen HACC.out base_fit W (hl1.kept hW) (T.keep his (Kept.of_below hW (Nat.le_refl _)))
    rw [show bytesN { data := #[110, 101, 115, 115] } = [110, 101, 115, 115] from by decide, a3] at h
    refine h.mono fun e w' h => ?_
    obtain ⟨v, rfl, ho, hb⟩ := h
    rcases ho.2 with ⟨-, h0⟩ | ⟨g, c, cur, rfl, -⟩
    · exact absurd h0 (by decide)
    · exact ⟨g, c, rfl, fun i k hk => int_cell ho (List.getElem?_eq_some_iff.1 hk).1 hk, (ho.lt g rfl).2, chain hW hW.size hb⟩)
  have HF3 := Lib.hid (show ∀ (W : World) (g c : Nat), Below w1.heap.size w1 W → (∀ (i k : Nat), ([13, 4, 18, 18] : List Nat)[i]? = some k → W.cell? ⟨g, i, none⟩ = some (.int .i64 (k : Int))) → g < W.heap.size → Calls Tryz.prog 14 #[.slice Ab 106 cb, .slice (some ⟨g, 0, none⟩) 4 c, .slice (some ⟨W.heap.size, 0, none⟩) 4 4] (W.alloc (.cells #[.string { data := #[110] }, .string { data := #[101] }, .string { data := #[115] }, .string { data := #[115] }] 9)) fun e w' => e = .returned (.bool true) ∧ Below w1.heap.size w1 w' from fun W g c hW hu hg => by
    have hW2 : Below w1.heap.size w1 (W.alloc (.cells #[.string { data := #[110] }, .string { data := #[101] }, .string { data := #[115] }, .string { data := #[115] }] 9)) := hW.alloc hW.size _
    refine (lefts11_yes _ baseL 0 106 cb Ab rfl g c W.heap.size 4 4 [13, 4, 18, 18] [[110], [101], [115], [115]] base_len (by decide) rfl (lefts_of c3) (by decide) _ w1.heap.size 0 0 ((hRd.below hW2)) (fun i k hk => (Below.cell ((Below.refl W.heap.size W).alloc (Nat.le_refl _) _) (p := ⟨g, i, none⟩) hg).trans (hu i k hk)) (lits_cell W _ [[110], [101], [115], [115]])).mono fun e w' h => ?_
    obtain ⟨h1, n, rfl⟩ := h
    exact ⟨h1, Ba.below_drewN hW2 n⟩)
  have HA4 := Lib.hid (show ∀ W : World, Below w1.heap.size w1 W → Calls Tryz.prog 8 #[.pointer (some a), .string { data := #[105, 108, 108, 110, 101, 115, 115] }, .int .i64 0] W fun e w' => ∃ g c, e = .returned (.slice (some ⟨g, 0, none⟩) 4 c) ∧ (∀ (i k : Nat), ([8, 11, 11, 46] : List Nat)[i]? = some k → w'.cell? ⟨g, i, none⟩ = some (.int .i64 (k : Int))) ∧ g < w'.heap.size ∧ Below w1.heap.size w1 w' from fun W hW => by
    have h := P.all { data := #[105, 108, 108, 110, 101, 115, 115] } 0 (by decide) (by unfold I64; decide) hlen HACC.out base_fit W (hl1.kept hW) (T.keep his (Kept.of_below hW (Nat.le_refl _)))
    rw [show bytesN { data := #[105, 108, 108, 110, 101, 115, 115] } = [105, 108, 108, 110, 101, 115, 115] from by decide, a4] at h
    refine h.mono fun e w' h => ?_
    obtain ⟨v, rfl, ho, hb⟩ := h
    rcases ho.2 with ⟨-, h0⟩ | ⟨g, c, cur, rfl, -⟩
    · exact absurd h0 (by decide)
    · exact ⟨g, c, rfl, fun i k hk => int_cell ho (List.getElem?_eq_some_iff.1 hk).1 hk, (ho.lt g rfl).2, chain hW hW.size hb⟩)
  have HF4 := Lib.hid (show ∀ (W : World) (g c : Nat), Below w1.heap.size w1 W → (∀ (i k : Nat), ([8, 11, 11, 46] : List Nat)[i]? = some k → W.cell? ⟨g, i, none⟩ = some (.int .i64 (k : Int))) → g < W.heap.size → Calls Tryz.prog 14 #[.slice Ab 106 cb, .slice (some ⟨g, 0, none⟩) 4 c, .slice (some ⟨W.heap.size, 0, none⟩) 4 4] (W.alloc (.cells #[.string { data := #[105] }, .string { data := #[108] }, .string { data := #[108] }, .string { data := #[110, 101, 115, 115] }] 9)) fun e w' => e = .returned (.bool true) ∧ Below w1.heap.size w1 w' from fun W g c hW hu hg => by
    have hW2 : Below w1.heap.size w1 (W.alloc (.cells #[.string { data := #[105] }, .string { data := #[108] }, .string { data := #[108] }, .string { data := #[110, 101, 115, 115] }] 9)) := hW.alloc hW.size _
    refine (lefts11_yes _ baseL 0 106 cb Ab rfl g c W.heap.size 4 4 [8, 11, 11, 46] [[105], [108], [108], [110, 101, 115, 115]] base_len (by decide) rfl (lefts_of c4) (by decide) _ w1.heap.size 0 0 ((hRd.below hW2)) (fun i k hk => (Below.cell ((Below.refl W.heap.size W).alloc (Nat.le_refl _) _) (p := ⟨g, i, none⟩) hg).trans (hu i k hk)) (lits_cell W _ [[105], [108], [108], [110, 101, 115, 115]])).mono fun e w' h => ?_
    obtain ⟨h1, n, rfl⟩ := h
    exact ⟨h1, Ba.below_drewN hW2 n⟩)
  have HA5 := Lib.hid (show ∀ W : World, Below w1.heap.size w1 W → Calls Tryz.prog 8 #[.pointer (some a), .string { data := #[99, 111, 110, 116, 101, 115, 116] }, .int .i64 0] W fun e w' => ∃ g c, e = .returned (.slice (some ⟨g, 0, none⟩) 4 c) ∧ (∀ (i k : Nat), ([43, 19, 4, 40] : List Nat)[i]? = some k → w'.cell? ⟨g, i, none⟩ = some (.int .i64 (k : Int))) ∧ g < w'.heap.size ∧ Below w1.heap.size w1 w' from fun W hW => by
    have h := P.all { data := #[99, 111, 110, 116, 101, 115, 116] } 0 (by decide) (by unfold I64; decide) hlen HACC.out base_fit W (hl1.kept hW) (T.keep his (Kept.of_below hW (Nat.le_refl _)))
    rw [show bytesN { data := #[99, 111, 110, 116, 101, 115, 116] } = [99, 111, 110, 116, 101, 115, 116] from by decide, a5] at h
    refine h.mono fun e w' h => ?_
    obtain ⟨v, rfl, ho, hb⟩ := h
    rcases ho.2 with ⟨-, h0⟩ | ⟨g, c, cur, rfl, -⟩
    · exact absurd h0 (by decide)
    · exact ⟨g, c, rfl, fun i k hk => int_cell ho (List.getElem?_eq_some_iff.1 hk).1 hk, (ho.lt g rfl).2, chain hW hW.size hb⟩)
  have HF5 := Lib.hid (show ∀ (W : World) (g c : Nat), Below w1.heap.size w1 W → (∀ (i k : Nat), ([43, 19, 4, 40] : List Nat)[i]? = some k → W.cell? ⟨g, i, none⟩ = some (.int .i64 (k : Int))) → g < W.heap.size → Calls Tryz.prog 14 #[.slice Ab 106 cb, .slice (some ⟨g, 0, none⟩) 4 c, .slice (some ⟨W.heap.size, 0, none⟩) 4 4] (W.alloc (.cells #[.string { data := #[99, 111, 110] }, .string { data := #[116] }, .string { data := #[101] }, .string { data := #[115, 116] }] 9)) fun e w' => e = .returned (.bool true) ∧ Below w1.heap.size w1 w' from fun W g c hW hu hg => by
    have hW2 : Below w1.heap.size w1 (W.alloc (.cells #[.string { data := #[99, 111, 110] }, .string { data := #[116] }, .string { data := #[101] }, .string { data := #[115, 116] }] 9)) := hW.alloc hW.size _
    refine (lefts11_yes _ baseL 0 106 cb Ab rfl g c W.heap.size 4 4 [43, 19, 4, 40] [[99, 111, 110], [116], [101], [115, 116]] base_len (by decide) rfl (lefts_of c5) (by decide) _ w1.heap.size 0 0 ((hRd.below hW2)) (fun i k hk => (Below.cell ((Below.refl W.heap.size W).alloc (Nat.le_refl _) _) (p := ⟨g, i, none⟩) hg).trans (hu i k hk)) (lits_cell W _ [[99, 111, 110], [116], [101], [115, 116]])).mono fun e w' h => ?_
    obtain ⟨h1, n, rfl⟩ := h
    exact ⟨h1, Ba.below_drewN hW2 n⟩)
  have HA6 := Lib.hid (show ∀ W : World, Below w1.heap.size w1 W → Calls Tryz.prog 8 #[.pointer (some a), .string { data := #[105, 99, 111, 110] }, .int .i64 0] W fun e w' => ∃ g c, e = .returned (.slice (some ⟨g, 0, none⟩) 4 c) ∧ (∀ (i k : Nat), ([8, 2, 14, 13] : List Nat)[i]? = some k → w'.cell? ⟨g, i, none⟩ = some (.int .i64 (k : Int))) ∧ g < w'.heap.size ∧ Below w1.heap.size w1 w' from fun W hW => by
    have h := P.all { data := #[105, 99, 111, 110] } 0 (by decide) (by unfold I64; decide) hlen HACC.out base_fit W (hl1.kept hW) (T.keep his (Kept.of_below hW (Nat.le_refl _)))
    rw [show bytesN { data := #[105, 99, 111, 110] } = [105, 99, 111, 110] from by decide, a6] at h
    refine h.mono fun e w' h => ?_
    obtain ⟨v, rfl, ho, hb⟩ := h
    rcases ho.2 with ⟨-, h0⟩ | ⟨g, c, cur, rfl, -⟩
    · exact absurd h0 (by decide)
    · exact ⟨g, c, rfl, fun i k hk => int_cell ho (List.getElem?_eq_some_iff.1 hk).1 hk, (ho.lt g rfl).2, chain hW hW.size hb⟩)
  have HF6 := Lib.hid (show ∀ (W : World) (g c : Nat), Below w1.heap.size w1 W → (∀ (i k : Nat), ([8, 2, 14, 13] : List Nat)[i]? = some k → W.cell? ⟨g, i, none⟩ = some (.int .i64 (k : Int))) → g < W.heap.size → Calls Tryz.prog 14 #[.slice Ab 106 cb, .slice (some ⟨g, 0, none⟩) 4 c, .slice (some ⟨W.heap.size, 0, none⟩) 4 4] (W.alloc (.cells #[.string { data := #[105] }, .string { data := #[99] }, .string { data := #[111] }, .string { data := #[110] }] 9)) fun e w' => e = .returned (.bool true) ∧ Below w1.heap.size w1 w' from fun W g c hW hu hg => by
    have hW2 : Below w1.heap.size w1 (W.alloc (.cells #[.string { data := #[105] }, .string { data := #[99] }, .string { data := #[111] }, .string { data := #[110] }] 9)) := hW.alloc hW.size _
    refine (lefts11_yes _ baseL 0 106 cb Ab rfl g c W.heap.size 4 4 [8, 2, 14, 13] [[105], [99], [111], [110]] base_len (by decide) rfl (lefts_of c6) (by decide) _ w1.heap.size 0 0 ((hRd.below hW2)) (fun i k hk => (Below.cell ((Below.refl W.heap.size W).alloc (Nat.le_refl _) _) (p := ⟨g, i, none⟩) hg).trans (hu i k hk)) (lits_cell W _ [[105], [99], [111], [110]])).mono fun e w' h => ?_
    obtain ⟨h1, n, rfl⟩ := h
    exact ⟨h1, Ba.below_drewN hW2 n⟩)
  have HG1 := Lib.hid (show ∀ (W : World), Below w1.heap.size w1 W → Calls Tryz.prog 14 #[.slice Ab 106 cb, .slice (some ⟨W.heap.size, 0, none⟩) 1 1, .slice (some ⟨W.heap.size + 1, 0, none⟩) 1 1] ((W.alloc (.cells #[.int .i64 0] 3)).alloc (.cells #[.string { data := #[97] }] 9)) fun e w' => e = .returned (.bool true) ∧ Below w1.heap.size w1 w' from fun W hW => by
    have s1 : (W.alloc (.cells #[.int .i64 0] 3)).heap.size = W.heap.size + 1 := by simp
    have hW1 : Below w1.heap.size w1 (W.alloc (.cells #[.int .i64 0] 3)) := hW.alloc hW.size _
    have hW2 := hW1.alloc hW1.size (.cells #[.string { data := #[97] }] 9)
    have hz := lits_cell (W.alloc (.cells #[.int .i64 0] 3)) 9 [[97]]
    rw [s1] at hz
    refine (lefts11_yes _ baseL 0 106 cb Ab rfl W.heap.size 1 (W.heap.size + 1) 1 1 [0] [[97]] base_len (by decide) rfl (lefts_of c7) (by decide) _ w1.heap.size 0 0 ((hRd.below hW2)) (fun i k hk => (Below.cell ((Below.refl (W.alloc (.cells #[.int .i64 0] 3)).heap.size _).alloc (Nat.le_refl _) _) (p := ⟨W.heap.size, i, none⟩) (by rw [s1]; exact Nat.lt_succ_self _)).trans (nums_cell W _ [0] i k hk)) hz).mono fun e w' h => ?_
    obtain ⟨h1, n, rfl⟩ := h
    exact ⟨h1, Ba.below_drewN hW2 n⟩)
  have HG2 := Lib.hid (show ∀ (W : World), Below w1.heap.size w1 W → Calls Tryz.prog 14 #[.slice Ab 106 cb, .slice (some ⟨W.heap.size, 0, none⟩) 1 1, .slice (some ⟨W.heap.size + 1, 0, none⟩) 1 1] ((W.alloc (.cells #[.int .i64 45] 3)).alloc (.cells #[.string { data := #[101, 97] }] 9)) fun e w' => e = .returned (.bool true) ∧ Below w1.heap.size w1 w' from fun W hW => by
    have s1 : (W.alloc (.cells #[.int .i64 45] 3)).heap.size = W.heap.size + 1 := by simp
    have hW1 : Below w1.heap.size w1 (W.alloc (.cells #[.int .i64 45] 3)) := hW.alloc hW.size _
    have hW2 := hW1.alloc hW1.size (.cells #[.string { data := #[101, 97] }] 9)
    have hz := lits_cell (W.alloc (.cells #[.int .i64 45] 3)) 9 [[101, 97]]
    rw [s1] at hz
    refine (lefts11_yes _ baseL 0 106 cb Ab rfl W.heap.size 1 (W.heap.size + 1) 1 1 [45] [[101, 97]] base_len (by decide) rfl (lefts_of c8) (by decide) _ w1.heap.size 0 0 ((hRd.below hW2)) (fun i k hk => (Below.cell ((Below.refl (W.alloc (.cells #[.int .i64 45] 3)).heap.size _).alloc (Nat.le_refl _) _) (p := ⟨W.heap.size, i, none⟩) (by rw [s1]; exact Nat.lt_succ_self _)).trans (nums_cell W _ [45] i k hk)) hz).mono fun e w' h => ?_
    obtain ⟨h1, n, rfl⟩ := h
    exact ⟨h1, Ba.below_drewN hW2 n⟩)
  have HG3 := Lib.hid (show ∀ (W : World), Below w1.heap.size w1 W → Calls Tryz.prog 14 #[.slice Ab 106 cb, .slice (some ⟨W.heap.size, 0, none⟩) 1 1, .slice (some ⟨W.heap.size + 1, 0, none⟩) 1 1] ((W.alloc (.cells #[.int .i64 4] 3)).alloc (.cells #[.string { data := #[101] }] 9)) fun e w' => e = .returned (.bool true) ∧ Below w1.heap.size w1 w' from fun W hW => by
    have s1 : (W.alloc (.cells #[.int .i64 4] 3)).heap.size = W.heap.size + 1 := by simp
    have hW1 : Below w1.heap.size w1 (W.alloc (.cells #[.int .i64 4] 3)) := hW.alloc hW.size _
    have hW2 := hW1.alloc hW1.size (.cells #[.string { data := #[101] }] 9)
    have hz := lits_cell (W.alloc (.cells #[.int .i64 4] 3)) 9 [[101]]
    rw [s1] at hz
    refine (lefts11_yes _ baseL 0 106 cb Ab rfl W.heap.size 1 (W.heap.size + 1) 1 1 [4] [[101]] base_len (by decide) rfl (lefts_of c9) (by decide) _ w1.heap.size 0 0 ((hRd.below hW2)) (fun i k hk => (Below.cell ((Below.refl (W.alloc (.cells #[.int .i64 4] 3)).heap.size _).alloc (Nat.le_refl _) _) (p := ⟨W.heap.size, i, none⟩) (by rw [s1]; exact Nat.lt_succ_self _)).trans (nums_cell W _ [4] i k hk)) hz).mono fun e w' h => ?_
    obtain ⟨h1, n, rfl⟩ := h
    exact ⟨h1, Ba.below_drewN hW2 n⟩)
  have HB0 := Lib.hid (Below.refl w1.heap.size w1)
  clear a1 a2 a3 a4 a5 a6 b1 b2 b3 c1 c2 c3 c4 c5 c6 c7 c8 c9 his hl1 hlen hb1 hRd
  go_wp2_with fail
  refine (HE1.out _ HB0.out).mono ?_
  rintro e v1 ⟨rfl, hb⟩
  have HB1 := Lib.hid hb
  clear hb
  go_wp2_with fail
  refine (HE2.out _ HB1.out).mono ?_
  rintro e v2 ⟨rfl, hb⟩
  have HB2 := Lib.hid hb
  clear hb
  go_wp2_with fail
  refine (HE3.out _ HB2.out).mono ?_
  rintro e v3 ⟨rfl, hb⟩
  have HB3 := Lib.hid hb
  clear hb
  go_wp2_with fail
  refine (HA1.out _ HB3.out).mono ?_
  rintro e x0 ⟨g0, k0, rfl, hu, hg, hb⟩
  have HU0 := Lib.hid (And.intro hu (And.intro hg hb))
  clear hu hg hb
  go_wp2_with fail
  refine (HF1.out _ g0 k0 HU0.out.2.2 HU0.out.1 HU0.out.2.1).mono ?_
  rintro e y0 ⟨rfl, hb⟩
  have HC0 := Lib.hid hb
  clear hb
  go_wp2_with fail
  refine (HA2.out _ HC0.out).mono ?_
  rintro e x1 ⟨g1, k1, rfl, hu, hg, hb⟩
  have HU1 := Lib.hid (And.intro hu (And.intro hg hb))
  clear hu hg hb
  go_wp2_with fail
  refine (HF2.out _ g1 k1 HU1.out.2.2 HU1.out.1 HU1.out.2.1).mono ?_
  rintro e y1 ⟨rfl, hb⟩
  have HC1 := Lib.hid hb
  clear hb
  go_wp2_with fail
  refine (HA3.out _ HC1.out).mono ?_
  rintro e x2 ⟨g2, k2, rfl, hu, hg, hb⟩
  have HU2 := Lib.hid (And.intro hu (And.intro hg hb))
  clear hu hg hb
  go_wp2_with fail
  refine (HF3.out _ g2 k2 HU2.out.2.2 HU2.out.1 HU2.out.2.1).mono ?_
  rintro e y2 ⟨rfl, hb⟩
  have HC2 := Lib.hid hb
  clear hb
  go_wp2_with fail
  refine (HA4.out _ HC2.out).mono ?_
  rintro e x3 ⟨g3, k3, rfl, hu, hg, hb⟩
  have HU3 := Lib.hid (And.intro hu (And.intro hg hb))
  clear hu hg hb
  go_wp2_with fail
  refine (HF4.out _ g3 k3 HU3.out.2.2 HU3.out.1 HU3.out.2.1).mono ?_
  rintro e y3 ⟨rfl, hb⟩
  have HC3 := Lib.hid hb
  clear hb
  go_wp2_with fail
  refine (HA5.out _ HC3.out).mono ?_
  rintro e x4 ⟨g4, k4, rfl, hu, hg, hb⟩
  have HU4 := Lib.hid (And.intro hu (And.intro hg hb))
  clear hu hg hb
  go_wp2_with fail
  refine (HF5.out _ g4 k4 HU4.out.2.2 HU4.out.1 HU4.out.2.1).mono ?_
  rintro e y4 ⟨rfl, hb⟩
  have HC4 := Lib.hid hb
  clear hb
  go_wp2_with fail
  refine (HA6.out _ HC4.out).mono ?_
  rintro e x5 ⟨g5, k5, rfl, hu, hg, hb⟩
  have HU5 := Lib.hid (And.intro hu (And.intro hg hb))
  clear hu hg hb
  go_wp2_with fail
  refine (HF6.out _ g5 k5 HU5.out.2.2 HU5.out.1 HU5.out.2.1).mono ?_
  rintro e y5 ⟨rfl, hb⟩
  have HC5 := Lib.hid hb
  clear hb
  go_wp2_with fail
  refine (HG1.out _ HC5.out).mono ?_
  rintro e z0 ⟨rfl, hb⟩
  have HD0 := Lib.hid hb
  clear hb
  go_wp2_with fail
  refine (HG2.out _ HD0.out).mono ?_
  rintro e z1 ⟨rfl, hb⟩
  have HD1 := Lib.hid hb
  clear hb
  go_wp2_with fail
  refine (HG3.out _ HD1.out).mono ?_
  rintro e z2 ⟨rfl, hb⟩
  have HD2 := Lib.hid hb
  clear hb
  go_wp2
  go_ret
  exact ⟨rfl, chain HBA.out HBA.out.size HD2.out⟩
end Go.Proofs.YtalehelgemmmeaaGreatDoor.Pa
