/-
  The document's table, read by; styluslaw10.awake.
-/
import Derived.Test.YtjflefchhbihkaaGreatDoorSd
import Derived.Test.YtjflefchhbihkaaGreatDoorQi
namespace Go.Proofs.YtjflefchhbihkaaGreatDoor.Ti
open Go.RowKit Ba Ru Ck

set_option maxRecDepth 100000 in
theorem base_reads : (matchN baseL [1, 3] 0 1 = some 0 ∧ matchN baseL [1, 3] 1 2 = some 1 ∧ matchN baseL [1] 0 3 = some 84 ∧ wordN baseL [3] = some 48 ∧ wordN baseL [63] = none ∧ matchN baseL [1] 1 1 = none ∧ matchN baseL [1] 0 4 = none ∧ signC baseL [99, 97, 112] = [32])
    ∧ (baseL[0]?.map fun x => (x.what, x.left)) = some (1, [97]) ∧ (baseL[1]?.map fun x => (x.what, x.left)) = some (1, [98]) ∧ (baseL[84]?.map fun x => (x.what, x.left)) = some (7, [49]) ∧ (baseL[48]?.map fun x => (x.what, x.left)) = some (5, [98, 117, 116]) := by decide +kernel
theorem at_of {l : List Rl} {k : Nat} {q : Int} {s : List Nat} (h : (l[k]?.map fun x => (x.what, x.left)) = some (q, s)) : ∃ x, l[k]? = some x ∧ x.what = q ∧ x.left = s := by
  obtain ⟨x, h1, h2⟩ := Option.map_eq_some_iff.1 h
  injection h2 with h3 h4
  exact ⟨x, h1, h3, h4⟩
set_option maxRecDepth 100000 in
set_option maxHeartbeats 16000000 in
/-- styluslaw10.awake -/
theorem awake10 (T : TLands) (w : World) (hL : Laid9 w) : Calls Tryz.prog 8 #[] w fun e w' => e = .returned (.bool true) ∧ Below w.heap.size w w' := by
  have HL := Lib.hid hL
  clear hL
  have HACC := Lib.hid (show Acc prC baseL from (table_acc baseL).1 (by rw [base_table]))
  obtain ⟨⟨e1, e2, e3, e4, e5, e6, e7, e8⟩, a1, a2, a3, a4⟩ := base_reads
  go_enter Tryz.func8, Tryz.ntmps8
  go_wp2_with fail
  refine (rbase_any _).mono ?_
  rintro e wb ⟨vb, rfl, ownb, hbb⟩
  have hRb := Reads.of_own (f := cR) (n := 5) cR_len base_len ownb
  have hCb := capsR_own ownb
  have HWb := Lib.hid hbb
  have HNE := Lib.hid (T.new vb baseL 0 (by rw [base_len]; decide) base_fit hCb wb (HL.out.kept hbb) hRb)
  have HRb := Lib.hid hRb
  clear ownb hbb hRb hCb
  go_wp2_with fail
  refine HNE.out.mono ?_
  rintro e w1 ⟨hb1, h1⟩
  rcases h1 with ⟨-, t, rfl, his⟩ | ⟨hno, -⟩
  rotate_left
  · exact absurd (show (tableR prC baseL).2 = 0 by rw [base_table]) hno
  obtain ⟨⟨a, rfl⟩, -⟩ := T.ptr his
  have hl1 : Laid9 w1 := (HL.out.kept HWb.out).kept hb1
  have hlen : baseL.length ≤ 1000 := by rw [base_len]; decide
  have HBA := Lib.hid (chain HWb.out HWb.out.size hb1)
  have hRd := (HRb.out.below hb1).mono hb1.size
  have HM1 := Lib.hid (show ∀ W : World, Below w1.heap.size w1 W → Calls Tryz.prog 12 #[.pointer (some a), .string { data := #[1, 3] }, .int .i64 0, .int .i64 1] W fun e w' => e = .returned (.tuple #[.int .i64 0, .bool true]) ∧ Below w1.heap.size w1 w' from fun W hW => by
    have h := (T.matchT { data := #[1, 3] } 0 1 (by decide) (by unfold I64; decide) (by unfold I64; decide) hlen HACC.out base_fit W (hl1.kept hW) (T.keep his (Kept.of_below hW (Nat.le_refl _))))
    rw [show bytesN { data := #[1, 3] } = [1, 3] from by decide, e1] at h
    exact h.mono fun e w' h => ⟨h.1, chain hW hW.size h.2⟩)
  have HM2 := Lib.hid (show ∀ W : World, Below w1.heap.size w1 W → Calls Tryz.prog 12 #[.pointer (some a), .string { data := #[1, 3] }, .int .i64 1, .int .i64 2] W fun e w' => e = .returned (.tuple #[.int .i64 1, .bool true]) ∧ Below w1.heap.size w1 w' from fun W hW => by
    have h := (T.matchT { data := #[1, 3] } 1 2 (by decide) (by unfold I64; decide) (by unfold I64; decide) hlen HACC.out base_fit W (hl1.kept hW) (T.keep his (Kept.of_below hW (Nat.le_refl _))))
    rw [show bytesN { data := #[1, 3] } = [1, 3] from by decide, e2] at h
    exact h.mono fun e w' h => ⟨h.1, chain hW hW.size h.2⟩)
  have HM3 := Lib.hid (show ∀ W : World, Below w1.heap.size w1 W → Calls Tryz.prog 12 #[.pointer (some a), .string { data := #[1] }, .int .i64 0, .int .i64 3] W fun e w' => e = .returned (.tuple #[.int .i64 84, .bool true]) ∧ Below w1.heap.size w1 w' from fun W hW => by
    have h := (T.matchT { data := #[1] } 0 3 (by decide) (by unfold I64; decide) (by unfold I64; decide) hlen HACC.out base_fit W (hl1.kept hW) (T.keep his (Kept.of_below hW (Nat.le_refl _))))
    rw [show bytesN { data := #[1] } = [1] from by decide, e3] at h
    exact h.mono fun e w' h => ⟨h.1, chain hW hW.size h.2⟩)
  have HW1 := Lib.hid (show ∀ W : World, Below w1.heap.size w1 W → Calls Tryz.prog 14 #[.pointer (some a), .string { data := #[3] }] W fun e w' => e = .returned (.tuple #[.int .i64 48, .bool true]) ∧ Below w1.heap.size w1 w' from fun W hW => by
    have h := (T.word { data := #[3] } (by decide) hlen HACC.out base_fit W (hl1.kept hW) (T.keep his (Kept.of_below hW (Nat.le_refl _))))
    rw [show bytesN { data := #[3] } = [3] from by decide, e4] at h
    exact h.mono fun e w' h => ⟨h.1, chain hW hW.size h.2⟩)
  have HW2 := Lib.hid (show ∀ W : World, Below w1.heap.size w1 W → Calls Tryz.prog 14 #[.pointer (some a), .string { data := #[63] }] W fun e w' => e = .returned (.tuple #[.int .i64 0, .bool false]) ∧ Below w1.heap.size w1 w' from fun W hW => by
    have h := (T.word { data := #[63] } (by decide) hlen HACC.out base_fit W (hl1.kept hW) (T.keep his (Kept.of_below hW (Nat.le_refl _))))
    rw [show bytesN { data := #[63] } = [63] from by decide, e5] at h
    exact h.mono fun e w' h => ⟨h.1, chain hW hW.size h.2⟩)
  have HM4 := Lib.hid (show ∀ W : World, Below w1.heap.size w1 W → Calls Tryz.prog 12 #[.pointer (some a), .string { data := #[1] }, .int .i64 1, .int .i64 1] W fun e w' => e = .returned (.tuple #[.int .i64 0, .bool false]) ∧ Below w1.heap.size w1 w' from fun W hW => by
    have h := (T.matchT { data := #[1] } 1 1 (by decide) (by unfold I64; decide) (by unfold I64; decide) hlen HACC.out base_fit W (hl1.kept hW) (T.keep his (Kept.of_below hW (Nat.le_refl _))))
    rw [show bytesN { data := #[1] } = [1] from by decide, e6] at h
    exact h.mono fun e w' h => ⟨h.1, chain hW hW.size h.2⟩)
  have HM5 := Lib.hid (show ∀ W : World, Below w1.heap.size w1 W → Calls Tryz.prog 12 #[.pointer (some a), .string { data := #[1] }, .int .i64 0, .int .i64 4] W fun e w' => e = .returned (.tuple #[.int .i64 0, .bool false]) ∧ Below w1.heap.size w1 w' from fun W hW => by
    have h := (T.matchT { data := #[1] } 0 4 (by decide) (by unfold I64; decide) (by unfold I64; decide) hlen HACC.out base_fit W (hl1.kept hW) (T.keep his (Kept.of_below hW (Nat.le_refl _))))
    rw [show bytesN { data := #[1] } = [1] from by decide, e7] at h
    exact h.mono fun e w' h => ⟨h.1, chain hW hW.size h.2⟩)
  have HS := Lib.hid (show ∀ W : World, Below w1.heap.size w1 W → Calls Tryz.prog 18 #[.pointer (some a), .string { data := #[99, 97, 112] }] W fun e w' => e = .returned (.string { data := #[32] }) ∧ Below w1.heap.size w1 w' from fun W hW => by
    have h := (T.sign { data := #[99, 97, 112] } (by decide) hlen HACC.out base_fit W (hl1.kept hW) (T.keep his (Kept.of_below hW (Nat.le_refl _))))
    rw [show bytesN { data := #[99, 97, 112] } = [99, 97, 112] from by decide, e8] at h
    exact h.mono fun e w' h => ⟨h.1, chain hW hW.size h.2⟩)
  have HI1 := Lib.hid (show ∀ W : World, Below w1.heap.size w1 W → Calls Tryz.prog 24 #[vb, .int .i64 0, .bool true, .int .i64 1, .string { data := #[97] }] W fun e w' => e = .returned (.bool true) ∧ w' = W from fun W hW => by
    obtain ⟨x, hx, h1, h2⟩ := at_of a1
    exact is_yes vb baseL 0 0 x 1 { data := #[97] } (by rw [base_len]; decide) hx h1 (by rw [h2]; rfl) W _ (hRd.below hW))
  have HI2 := Lib.hid (show ∀ W : World, Below w1.heap.size w1 W → Calls Tryz.prog 24 #[vb, .int .i64 1, .bool true, .int .i64 1, .string { data := #[98] }] W fun e w' => e = .returned (.bool true) ∧ w' = W from fun W hW => by
    obtain ⟨x, hx, h1, h2⟩ := at_of a2
    exact is_yes vb baseL 0 1 x 1 { data := #[98] } (by rw [base_len]; decide) hx h1 (by rw [h2]; rfl) W _ (hRd.below hW))
  have HI3 := Lib.hid (show ∀ W : World, Below w1.heap.size w1 W → Calls Tryz.prog 24 #[vb, .int .i64 84, .bool true, .int .i64 7, .string { data := #[49] }] W fun e w' => e = .returned (.bool true) ∧ w' = W from fun W hW => by
    obtain ⟨x, hx, h1, h2⟩ := at_of a3
    exact is_yes vb baseL 0 84 x 7 { data := #[49] } (by rw [base_len]; decide) hx h1 (by rw [h2]; rfl) W _ (hRd.below hW))
  have HI4 := Lib.hid (show ∀ W : World, Below w1.heap.size w1 W → Calls Tryz.prog 24 #[vb, .int .i64 48, .bool true, .int .i64 5, .string { data := #[98, 117, 116] }] W fun e w' => e = .returned (.bool true) ∧ w' = W from fun W hW => by
    obtain ⟨x, hx, h1, h2⟩ := at_of a4
    exact is_yes vb baseL 0 48 x 5 { data := #[98, 117, 116] } (by rw [base_len]; decide) hx h1 (by rw [h2]; rfl) W _ (hRd.below hW))
  have HB0 := Lib.hid (Below.refl w1.heap.size w1)
  clear e1 e2 e3 e4 e5 e6 e7 e8 a1 a2 a3 a4 his hl1 hlen hb1 hRd
  go_wp2_with fail
  refine (HM1.out _ HB0.out).mono ?_
  rintro e v1 ⟨rfl, hb⟩
  have HB1 := Lib.hid hb
  clear hb
  go_wp2_with fail
  refine (HM2.out _ HB1.out).mono ?_
  rintro e v2 ⟨rfl, hb⟩
  have HB2 := Lib.hid hb
  clear hb
  go_wp2_with fail
  refine (HM3.out _ HB2.out).mono ?_
  rintro e v3 ⟨rfl, hb⟩
  have HB3 := Lib.hid hb
  clear hb
  go_wp2_with fail
  refine (HW1.out _ HB3.out).mono ?_
  rintro e v4 ⟨rfl, hb⟩
  have HB4 := Lib.hid hb
  clear hb
  go_wp2_with fail
  refine (HW2.out _ HB4.out).mono ?_
  rintro e v5 ⟨rfl, hb⟩
  have HB5 := Lib.hid hb
  clear hb
  go_wp2_with fail
  refine (HM4.out _ HB5.out).mono ?_
  rintro e v6 ⟨rfl, hb⟩
  have HB6 := Lib.hid hb
  clear hb
  go_wp2_with fail
  refine (HM5.out _ HB6.out).mono ?_
  rintro e v7 ⟨rfl, hb⟩
  have HB7 := Lib.hid hb
  clear hb
  go_wp2_with fail
  refine (HI1.out _ HB7.out).mono ?_
  rintro e v ⟨rfl, rfl⟩
  go_wp2_with fail
  refine (HI2.out _ HB7.out).mono ?_
  rintro e v ⟨rfl, rfl⟩
  go_wp2_with fail
  refine (HI3.out _ HB7.out).mono ?_
  rintro e v ⟨rfl, rfl⟩
  go_wp2_with fail
  refine (HI4.out _ HB7.out).mono ?_
  rintro e v ⟨rfl, rfl⟩
  go_wp2_with fail
  refine (HS.out _ HB7.out).mono ?_
  rintro e v8 ⟨rfl, hb⟩
  have HB8 := Lib.hid (chain HBA.out HBA.out.size hb)
  clear hb
  go_wp2
  go_ret
  exact ⟨rfl, HB8.out⟩
end Go.Proofs.YtjflefchhbihkaaGreatDoor.Ti
