/-
  CheckClashes, whatever it is called with.
-/
import Derived.Test.YtlibmfflgpkjmaaGreatDoorCkK
import Derived.Test.YtlibmfflgpkjmaaGreatDoorCkI
namespace Go.Proofs.YtlibmfflgpkjmaaGreatDoor.Ck
open Go.RowKit Ba Ru

theorem two_own (w : World) (x y : Rl) : (w.alloc (.cells #[.int .i64 x.what, .string (bytesOf x.left), .string (bytesOf x.cells), .int .i64 x.prio, .int .i64 x.line, .int .i64 y.what, .string (bytesOf y.left), .string (bytesOf y.cells), .int .i64 y.prio, .int .i64 y.line] 23)).ownsRow w.heap.size 23 5 (.slice (some ⟨w.heap.size, 0, none⟩) 2 2) 2 (rows cR [x, y]) :=
  World.ownsRow_lit (base := w.heap.size) (e := 23) (size := 5) w _ 2 (Nat.le_refl _) (by decide) rfl
set_option maxRecDepth 100000 in
set_option maxHeartbeats 16000000 in
/-- styluslaw09.CheckClashes -/
theorem clashes_row (x y : Rl) (row : Int) (w : World) (hL : Laid9 w) (hfx : FitR x) (hfy : FitR y) :
    Calls Tryz.prog 3 #[aggR x, aggR y, .int .i64 row] w fun e w' => e = .returned (.bool true) ∧ Below w.heap.size w w' := by
  have HL := Lib.hid hL
  clear hL
  obtain ⟨lb, hlb⟩ : ∃ lb, long9 [x, y] = lb := ⟨_, rfl⟩
  have HLO := Lib.hid (fun (W : World) => long9_at (.slice (some ⟨W.heap.size, 0, none⟩) 2 2) [x, y] 0 (show 2 ≤ maxLen by decide) (W.alloc (.cells #[.int .i64 x.what, .string (bytesOf x.left), .string (bytesOf x.cells), .int .i64 x.prio, .int .i64 x.line, .int .i64 y.what, .string (bytesOf y.left), .string (bytesOf y.cells), .int .i64 y.prio, .int .i64 y.line] 23)) _ (Reads.of_own (f := cR) (n := 5) cR_len rfl (two_own W x y)) lb hlb)
  have HAW := Lib.hid (fun (W : World) hW => awake9 W hW)
  have hsm : lb = false → (x.left.length ≤ 50 ∧ x.cells.length ≤ 50) ∧ (y.left.length ≤ 50 ∧ y.cells.length ≤ 50) := fun h => by
    rw [h] at hlb
    have := (not_long9 hlb).2
    exact ⟨this x (by simp), this y (by simp)⟩
  obtain ⟨b, hb⟩ : ∃ b, clashB x y = b := ⟨_, rfl⟩
  obtain ⟨a, ha⟩ : ∃ a, aloneB prC x = a := ⟨_, rfl⟩
  have HC1 := Lib.hid (fun (W : World) (h : lb = false) hW => clash9_at x y hfx hfy (by have := (hsm h).1.2; omega) (by have := (hsm h).2.2; omega) b hb W hW)
  have HC2 := Lib.hid (fun (W : World) (h : lb = false) hW => clash9_at y x hfy hfx (by have := (hsm h).2.2; omega) (by have := (hsm h).1.2; omega) b (by rw [clash_symm]; exact hb) W hW)
  have HR1 := Lib.hid (fun (W : World) (h : lb = false) => rclash_any x y hfx hfy (by have := (hsm h).1.2; omega) (by have := (hsm h).2.2; omega) b hb W)
  have HA1 := Lib.hid (fun (W : World) (h : lb = false) hW => alone9_at x hfx (by have := (hsm h).1.1; omega) (by have := (hsm h).1.2; omega) a ha W hW)
  have HRA := Lib.hid (fun (W : World) (h : lb = false) => ralone_any x hfx (by have := (hsm h).1.1; omega) (by have := (hsm h).1.2; omega) a ha W)
  have HI := Lib.hid (fun (z : Int) (W : World) => in_at x z W)
  have HRI := Lib.hid (fun (z : Int) (W : World) => rin_any x z W)
  obtain ⟨f, hfI⟩ : ∃ f : Int → Bool, (fun z => inB x z) = f := ⟨_, rfl⟩
  have HI := Lib.hid (show ∀ (z : Int) (W : World), Calls Tryz.prog 11 #[aggR x, .int .i64 z] W fun e w' => e = .returned (.bool (f z)) ∧ Below W.heap.size W w' from fun z W => by rw [← hfI]; exact HI.out z W)
  have HRI := Lib.hid (show ∀ (z : Int) (W : World), Calls Tryz.prog 12 #[aggR x, .int .i64 z] W fun e w' => e = .returned (.bool (f z)) ∧ Below W.heap.size W w' from fun z W => by rw [← hfI]; exact HRI.out z W)
  clear hlb hsm hb ha hfx hfy hfI
  obtain ⟨q1, l1, c1, p1, n1⟩ := x
  obtain ⟨q2, l2, c2, p2, n2⟩ := y
  obtain ⟨S1, hS1⟩ : ∃ S, bytesOf l1 = S := ⟨_, rfl⟩
  obtain ⟨T1, hT1⟩ : ∃ S, bytesOf c1 = S := ⟨_, rfl⟩
  obtain ⟨S2, hS2⟩ : ∃ S, bytesOf l2 = S := ⟨_, rfl⟩
  obtain ⟨T2, hT2⟩ : ∃ S, bytesOf c2 = S := ⟨_, rfl⟩
  simp only [aggR, hS1, hT1, hS2, hT2] at HC1 HC2 HR1 HA1 HRA HI HRI HLO ⊢
  clear hS1 hT1 hS2 hT2
  go_enter Tryz.func3, Tryz.ntmps3
  go_upto_region 1 with fail
  have hx := BoxS.new w q1 S1 T1 p1 n1 23
  have hw := (Below.refl w.heap.size w).alloc (Nat.le_refl _) (.cells #[.int .i64 q1, .string S1, .string T1, .int .i64 p1, .int .i64 n1] 23)
  have hz : (w.alloc (.cells #[.int .i64 q1, .string S1, .string T1, .int .i64 p1, .int .i64 n1] 23)).heap.size = w.heap.size + 1 := by simp
  generalize w.alloc _ = wa at hx hw hz ⊢
  rw [← hz]
  have hy := BoxS.new wa q2 S2 T2 p2 n2 23
  have hw1 := hw.alloc hw.size (.cells #[.int .i64 q2, .string S2, .string T2, .int .i64 p2, .int .i64 n2] 23)
  have hx1 := hx.below ((Below.refl wa.heap.size wa).alloc (Nat.le_refl _) (.cells #[.int .i64 q2, .string S2, .string T2, .int .i64 p2, .int .i64 n2] 23)) hx.2.2.2.2.2
  generalize wa.alloc _ = w1 at hy hw1 hx1 ⊢
  obtain ⟨bx, hbx⟩ : ∃ n, w.heap.size = n := ⟨_, rfl⟩
  obtain ⟨by_, hby⟩ : ∃ n, wa.heap.size = n := ⟨_, rfl⟩
  rw [hbx] at hx1
  rw [hby] at hy
  rw [hbx, hby]
  clear hbx hby hz hx hw
  have HS0 := Lib.hid (show BoxS w1 bx q1 S1 T1 p1 n1 ∧ BoxS w1 by_ q2 S2 T2 p2 n2 ∧ Below w.heap.size w w1 from ⟨hx1, hy, hw1⟩)
  clear hx1 hy hw1
  have TWO := Lib.hid (show ∀ W W' : World, (BoxS W bx q1 S1 T1 p1 n1 ∧ BoxS W by_ q2 S2 T2 p2 n2 ∧ Below w.heap.size w W) → Below W.heap.size W W' → BoxS W' bx q1 S1 T1 p1 n1 ∧ BoxS W' by_ q2 S2 T2 p2 n2 ∧ Below w.heap.size w W' from
    fun W W' h hb => ⟨h.1.kept hb, h.2.1.kept hb, chain h.2.2 h.2.2.size hb⟩)
  obtain ⟨⟨x0, x1, x2, x3, x4, x5⟩, ⟨y0, y1, y2, y3, y4, y5⟩, -⟩ := HS0.out
  have HS := Lib.hid (TWO.out _ _ HS0.out ((Below.refl w1.heap.size w1).alloc (Nat.le_refl _) (.cells #[.int .i64 q1, .string S1, .string T1, .int .i64 p1, .int .i64 n1, .int .i64 q2, .string S2, .string T2, .int .i64 p2, .int .i64 n2] 23)))
  have HLW := Lib.hid (HLO.out w1)
  go_wp2_with fail
  refine HLW.out.mono ?_
  rintro e w2 ⟨rfl, hw2⟩
  rw [← hw2] at HS
  clear hw2 x0 x1 x2 x3 x4 x5 y0 y1 y2 y3 y4 y5 HLW HLO HS0
  cases lb
  case true =>
    go_wp2_with fail
    refine (HAW.out _ (HL.out.kept HS.out.2.2)).mono ?_
    rintro e w3 ⟨rfl, hb3⟩
    have HE := Lib.hid (chain HS.out.2.2 HS.out.2.2.size hb3)
    clear hb3
    go_wp2
    go_ret
    exact ⟨rfl, HE.out⟩
  case false =>
    go_upto_region 3 with fail
    have HC1 := Lib.hid (fun W hW => HC1.out W (by trivial) hW)
    have HC2 := Lib.hid (fun W hW => HC2.out W (by trivial) hW)
    have HR1 := Lib.hid (fun W => HR1.out W (by trivial))
    have HA1 := Lib.hid (fun W hW => HA1.out W (by trivial) hW)
    have HRA := Lib.hid (fun W => HRA.out W (by trivial))
    have hS := (TWO.out _ _ HS.out (Below.refl _ _).drew : BoxS w2.drew bx q1 S1 T1 p1 n1 ∧ BoxS w2.drew by_ q2 S2 T2 p2 n2 ∧ Below w.heap.size w w2.drew)
    refine wp_region_held_drew (S := fun W => BoxS W bx q1 S1 T1 p1 n1 ∧ BoxS W by_ q2 S2 T2 p2 n2 ∧ Below w.heap.size w W) (by kernel_rfl) hS (fun hHeld => ?_)
    refine wpAnyH_take (i := 0) (v := ?_) (by simp only [List.getElem?_toArray, List.getElem?_cons_zero]; rfl) (by kernel_rfl) (by kernel_rfl) (by kernel_rfl) (by exact fun _ _ _ h => h) (Or.inl ⟨by rfl, ?_⟩) (by with_reducible exact hS) ?_
    rotate_left
    · intro W hSw; (obtain ⟨⟨x0, x1, x2, x3, x4, x5⟩, ⟨y0, y1, y2, y3, y4, y5⟩, -⟩ := hSw); go_simp; all_goals (with_reducible rfl)
    try simp only [Act.put, List.setIfInBounds_toArray, List.set_cons_zero, List.set_cons_succ]
    refine wpAnyH_take (i := 1) (v := ?_) (by simp only [List.getElem?_toArray, List.getElem?_cons_succ, List.getElem?_cons_zero]; rfl) (by kernel_rfl) (by kernel_rfl) (by kernel_rfl) (by exact fun _ _ _ h => h) (Or.inl ⟨by rfl, ?_⟩) (by with_reducible exact hS) ?_
    rotate_left
    · intro W hSw; (obtain ⟨⟨x0, x1, x2, x3, x4, x5⟩, ⟨y0, y1, y2, y3, y4, y5⟩, -⟩ := hSw); go_simp; all_goals (with_reducible rfl)
    try simp only [Act.put, List.setIfInBounds_toArray, List.set_cons_zero, List.set_cons_succ]
    refine wpAnyH_take (i := 3) (v := ?_) (by simp only [List.getElem?_toArray, List.getElem?_cons_succ, List.getElem?_cons_zero]; rfl) (by kernel_rfl) (by kernel_rfl) (by kernel_rfl) (by exact fun _ _ _ h => h) (Or.inl ⟨by rfl, ?_⟩) (by with_reducible exact hS) ?_
    rotate_left
    · intro W hSw; (obtain ⟨⟨x0, x1, x2, x3, x4, x5⟩, ⟨y0, y1, y2, y3, y4, y5⟩, -⟩ := hSw); go_simp; all_goals (with_reducible rfl)
    try simp only [Act.put, List.setIfInBounds_toArray, List.set_cons_zero, List.set_cons_succ]
    refine wpAnyH_take (i := 4) (v := ?_) (by simp only [List.getElem?_toArray, List.getElem?_cons_succ, List.getElem?_cons_zero]; rfl) (by kernel_rfl) (by kernel_rfl) (by kernel_rfl) (by exact fun _ _ _ h => h) (Or.inl ⟨by rfl, ?_⟩) (by with_reducible exact hS) ?_
    rotate_left
    · intro W hSw; (obtain ⟨⟨x0, x1, x2, x3, x4, x5⟩, ⟨y0, y1, y2, y3, y4, y5⟩, -⟩ := hSw); go_simp; all_goals (with_reducible rfl)
    try simp only [Act.put, List.setIfInBounds_toArray, List.set_cons_zero, List.set_cons_succ]
    refine Rg.take_one 2 (by simp only [List.getElem?_toArray, List.getElem?_cons_succ, List.getElem?_cons_zero]; rfl) (by kernel_rfl) (fun K hK => ?_)
    go_simp
    go_at_call 7
    refine (HC1.out _ (HL.out.kept hS.2.2).2).mono ?_
    rintro en w_2 ⟨rfl, hb_2⟩
    have hS2 : BoxS w_2 bx q1 S1 T1 p1 n1 ∧ BoxS w_2 by_ q2 S2 T2 p2 n2 ∧ Below w.heap.size w w_2 := TWO.out _ _ hS hb_2
    go_wp2_with fail
    refine hK.out _ _ hS2 (fun hHeld2 => ?_)
    clear hK K
    try simp only [Act.put, List.setIfInBounds_toArray, List.set_cons_zero, List.set_cons_succ]
    refine Rg.take_one 5 (by simp only [List.getElem?_toArray, List.getElem?_cons_succ, List.getElem?_cons_zero]; rfl) (by kernel_rfl) (fun K hK => ?_)
    go_simp
    go_at_call 8
    refine (HR1.out _).mono ?_
    rintro en w_5 ⟨rfl, hb_5⟩
    have hS5 : BoxS w_5 bx q1 S1 T1 p1 n1 ∧ BoxS w_5 by_ q2 S2 T2 p2 n2 ∧ Below w.heap.size w w_5 := TWO.out _ _ hS2 hb_5
    go_wp2_with fail
    refine hK.out _ _ hS5 (fun hHeld5 => ?_)
    clear hK K
    try simp only [Act.put, List.setIfInBounds_toArray, List.set_cons_zero, List.set_cons_succ]
    refine Rg.take_w 6 (by simp only [List.getElem?_toArray, List.getElem?_cons_succ, List.getElem?_cons_zero]; rfl) (by kernel_rfl) (by kernel_rfl) (by kernel_rfl) (.bool true) (by exact fun _ _ _ h => h) (by rfl) (by intro W hSw; (obtain ⟨⟨x0, x1, x2, x3, x4, x5⟩, ⟨y0, y1, y2, y3, y4, y5⟩, -⟩ := hSw); go_simp) (by with_reducible exact hS5) ?_
    try simp only [Act.put, List.setIfInBounds_toArray, List.set_cons_zero, List.set_cons_succ]
    refine wpAnyH_take (i := 7) (v := ?_) (by simp only [List.getElem?_toArray, List.getElem?_cons_succ, List.getElem?_cons_zero]; rfl) (by kernel_rfl) (by kernel_rfl) (by kernel_rfl) (by exact fun _ _ _ h => h) (Or.inl ⟨by rfl, ?_⟩) (by with_reducible exact hS5) ?_
    rotate_left
    · intro W hSw; (obtain ⟨⟨x0, x1, x2, x3, x4, x5⟩, ⟨y0, y1, y2, y3, y4, y5⟩, -⟩ := hSw); go_simp; all_goals (with_reducible rfl)
    try simp only [Act.put, List.setIfInBounds_toArray, List.set_cons_zero, List.set_cons_succ]
    refine wpAnyH_take (i := 8) (v := ?_) (by simp only [List.getElem?_toArray, List.getElem?_cons_succ, List.getElem?_cons_zero]; rfl) (by kernel_rfl) (by kernel_rfl) (by kernel_rfl) (by exact fun _ _ _ h => h) (Or.inl ⟨by rfl, ?_⟩) (by with_reducible exact hS5) ?_
    rotate_left
    · intro W hSw; (obtain ⟨⟨x0, x1, x2, x3, x4, x5⟩, ⟨y0, y1, y2, y3, y4, y5⟩, -⟩ := hSw); go_simp; all_goals (with_reducible rfl)
    try simp only [Act.put, List.setIfInBounds_toArray, List.set_cons_zero, List.set_cons_succ]
    refine wpAnyH_take (i := 9) (v := ?_) (by simp only [List.getElem?_toArray, List.getElem?_cons_succ, List.getElem?_cons_zero]; rfl) (by kernel_rfl) (by kernel_rfl) (by kernel_rfl) (by exact fun _ _ _ h => h) (Or.inl ⟨by rfl, ?_⟩) (by with_reducible exact hS5) ?_
    rotate_left
    · intro W hSw; (obtain ⟨⟨x0, x1, x2, x3, x4, x5⟩, ⟨y0, y1, y2, y3, y4, y5⟩, -⟩ := hSw); go_simp; all_goals (with_reducible rfl)
    try simp only [Act.put, List.setIfInBounds_toArray, List.set_cons_zero, List.set_cons_succ]
    refine wpAnyH_take (i := 11) (v := ?_) (by simp only [List.getElem?_toArray, List.getElem?_cons_succ, List.getElem?_cons_zero]; rfl) (by kernel_rfl) (by kernel_rfl) (by kernel_rfl) (by exact fun _ _ _ h => h) (Or.inl ⟨by rfl, ?_⟩) (by with_reducible exact hS5) ?_
    rotate_left
    · intro W hSw; (obtain ⟨⟨x0, x1, x2, x3, x4, x5⟩, ⟨y0, y1, y2, y3, y4, y5⟩, -⟩ := hSw); go_simp; all_goals (with_reducible rfl)
    try simp only [Act.put, List.setIfInBounds_toArray, List.set_cons_zero, List.set_cons_succ]
    refine wpAnyH_take (i := 12) (v := ?_) (by simp only [List.getElem?_toArray, List.getElem?_cons_succ, List.getElem?_cons_zero]; rfl) (by kernel_rfl) (by kernel_rfl) (by kernel_rfl) (by exact fun _ _ _ h => h) (Or.inl ⟨by rfl, ?_⟩) (by with_reducible exact hS5) ?_
    rotate_left
    · intro W hSw; (obtain ⟨⟨x0, x1, x2, x3, x4, x5⟩, ⟨y0, y1, y2, y3, y4, y5⟩, -⟩ := hSw); go_simp; all_goals (with_reducible rfl)
    try simp only [Act.put, List.setIfInBounds_toArray, List.set_cons_zero, List.set_cons_succ]
    refine Rg.take_one 10 (by simp only [List.getElem?_toArray, List.getElem?_cons_succ, List.getElem?_cons_zero]; rfl) (by kernel_rfl) (fun K hK => ?_)
    go_simp
    go_at_call 7
    refine (HC2.out _ (HL.out.kept hS5.2.2).2).mono ?_
    rintro en w_10 ⟨rfl, hb_10⟩
    have hS10 : BoxS w_10 bx q1 S1 T1 p1 n1 ∧ BoxS w_10 by_ q2 S2 T2 p2 n2 ∧ Below w.heap.size w w_10 := TWO.out _ _ hS5 hb_10
    go_wp2_with fail
    refine hK.out _ _ hS10 (fun hHeld10 => ?_)
    clear hK K
    try simp only [Act.put, List.setIfInBounds_toArray, List.set_cons_zero, List.set_cons_succ]
    refine Rg.take_one 13 (by simp only [List.getElem?_toArray, List.getElem?_cons_succ, List.getElem?_cons_zero]; rfl) (by kernel_rfl) (fun K hK => ?_)
    go_simp
    go_at_call 7
    refine (HC1.out _ (HL.out.kept hS10.2.2).2).mono ?_
    rintro en w_13 ⟨rfl, hb_13⟩
    have hS13 : BoxS w_13 bx q1 S1 T1 p1 n1 ∧ BoxS w_13 by_ q2 S2 T2 p2 n2 ∧ Below w.heap.size w w_13 := TWO.out _ _ hS10 hb_13
    go_wp2_with fail
    refine hK.out _ _ hS13 (fun hHeld13 => ?_)
    clear hK K
    try simp only [Act.put, List.setIfInBounds_toArray, List.set_cons_zero, List.set_cons_succ]
    refine Rg.take_w 14 (by simp only [List.getElem?_toArray, List.getElem?_cons_succ, List.getElem?_cons_zero]; rfl) (by kernel_rfl) (by kernel_rfl) (by kernel_rfl) (.bool true) (by exact fun _ _ _ h => h) (by rfl) (by intro W hSw; (obtain ⟨⟨x0, x1, x2, x3, x4, x5⟩, ⟨y0, y1, y2, y3, y4, y5⟩, -⟩ := hSw); go_simp) (by with_reducible exact hS13) ?_
    try simp only [Act.put, List.setIfInBounds_toArray, List.set_cons_zero, List.set_cons_succ]
    refine wpAnyH_take (i := 15) (v := ?_) (by simp only [List.getElem?_toArray, List.getElem?_cons_succ, List.getElem?_cons_zero]; rfl) (by kernel_rfl) (by kernel_rfl) (by kernel_rfl) (by exact fun _ _ _ h => h) (Or.inl ⟨by rfl, ?_⟩) (by with_reducible exact hS13) ?_
    rotate_left
    · intro W hSw; (obtain ⟨⟨x0, x1, x2, x3, x4, x5⟩, ⟨y0, y1, y2, y3, y4, y5⟩, -⟩ := hSw); go_simp; all_goals (with_reducible rfl)
    try simp only [Act.put, List.setIfInBounds_toArray, List.set_cons_zero, List.set_cons_succ]
    refine wpAnyH_take (i := 16) (v := ?_) (by simp only [List.getElem?_toArray, List.getElem?_cons_succ, List.getElem?_cons_zero]; rfl) (by kernel_rfl) (by kernel_rfl) (by kernel_rfl) (by exact fun _ _ _ h => h) (Or.inl ⟨by rfl, ?_⟩) (by with_reducible exact hS13) ?_
    rotate_left
    · intro W hSw; (obtain ⟨⟨x0, x1, x2, x3, x4, x5⟩, ⟨y0, y1, y2, y3, y4, y5⟩, -⟩ := hSw); go_simp; all_goals (with_reducible rfl)
    try simp only [Act.put, List.setIfInBounds_toArray, List.set_cons_zero, List.set_cons_succ]
    refine wpAnyH_take (i := 17) (v := ?_) (by simp only [List.getElem?_toArray, List.getElem?_cons_succ, List.getElem?_cons_zero]; rfl) (by kernel_rfl) (by kernel_rfl) (by kernel_rfl) (by exact fun _ _ _ h => h) (Or.inl ⟨by rfl, ?_⟩) (by with_reducible exact hS13) ?_
    rotate_left
    · intro W hSw; (obtain ⟨⟨x0, x1, x2, x3, x4, x5⟩, ⟨y0, y1, y2, y3, y4, y5⟩, -⟩ := hSw); go_simp; all_goals (with_reducible rfl)
    try simp only [Act.put, List.setIfInBounds_toArray, List.set_cons_zero, List.set_cons_succ]
    refine wpAnyH_take (i := 19) (v := ?_) (by simp only [List.getElem?_toArray, List.getElem?_cons_succ, List.getElem?_cons_zero]; rfl) (by kernel_rfl) (by kernel_rfl) (by kernel_rfl) (by exact fun _ _ _ h => h) (Or.inl ⟨by rfl, ?_⟩) (by with_reducible exact hS13) ?_
    rotate_left
    · intro W hSw; (obtain ⟨⟨x0, x1, x2, x3, x4, x5⟩, ⟨y0, y1, y2, y3, y4, y5⟩, -⟩ := hSw); go_simp; all_goals (with_reducible rfl)
    try simp only [Act.put, List.setIfInBounds_toArray, List.set_cons_zero, List.set_cons_succ]
    refine Rg.take_one 18 (by simp only [List.getElem?_toArray, List.getElem?_cons_succ, List.getElem?_cons_zero]; rfl) (by kernel_rfl) (fun K hK => ?_)
    go_simp
    go_at_call 9
    refine (HA1.out _ (HL.out.kept hS13.2.2).1).mono ?_
    rintro en w_18 ⟨rfl, hb_18⟩
    have hS18 : BoxS w_18 bx q1 S1 T1 p1 n1 ∧ BoxS w_18 by_ q2 S2 T2 p2 n2 ∧ Below w.heap.size w w_18 := TWO.out _ _ hS13 hb_18
    go_wp2_with fail
    refine hK.out _ _ hS18 (fun hHeld18 => ?_)
    clear hK K
    try simp only [Act.put, List.setIfInBounds_toArray, List.set_cons_zero, List.set_cons_succ]
    refine Rg.take_one 20 (by simp only [List.getElem?_toArray, List.getElem?_cons_succ, List.getElem?_cons_zero]; rfl) (by kernel_rfl) (fun K hK => ?_)
    go_simp
    go_at_call 10
    refine (HRA.out _).mono ?_
    rintro en w_20 ⟨rfl, hb_20⟩
    have hS20 : BoxS w_20 bx q1 S1 T1 p1 n1 ∧ BoxS w_20 by_ q2 S2 T2 p2 n2 ∧ Below w.heap.size w w_20 := TWO.out _ _ hS18 hb_20
    go_wp2_with fail
    refine hK.out _ _ hS20 (fun hHeld20 => ?_)
    clear hK K
    try simp only [Act.put, List.setIfInBounds_toArray, List.set_cons_zero, List.set_cons_succ]
    refine Rg.take_w 21 (by simp only [List.getElem?_toArray, List.getElem?_cons_succ, List.getElem?_cons_zero]; rfl) (by kernel_rfl) (by kernel_rfl) (by kernel_rfl) (.bool true) (by exact fun _ _ _ h => h) (by rfl) (by intro W hSw; (obtain ⟨⟨x0, x1, x2, x3, x4, x5⟩, ⟨y0, y1, y2, y3, y4, y5⟩, -⟩ := hSw); go_simp) (by with_reducible exact hS20) ?_
    try simp only [Act.put, List.setIfInBounds_toArray, List.set_cons_zero, List.set_cons_succ]
    refine wpAnyH_take (i := 22) (v := ?_) (by simp only [List.getElem?_toArray, List.getElem?_cons_succ, List.getElem?_cons_zero]; rfl) (by kernel_rfl) (by kernel_rfl) (by kernel_rfl) (by exact fun _ _ _ h => h) (Or.inl ⟨by rfl, ?_⟩) (by with_reducible exact hS20) ?_
    rotate_left
    · intro W hSw; (obtain ⟨⟨x0, x1, x2, x3, x4, x5⟩, ⟨y0, y1, y2, y3, y4, y5⟩, -⟩ := hSw); go_simp; all_goals (with_reducible rfl)
    try simp only [Act.put, List.setIfInBounds_toArray, List.set_cons_zero, List.set_cons_succ]
    refine wpAnyH_take (i := 23) (v := ?_) (by simp only [List.getElem?_toArray, List.getElem?_cons_succ, List.getElem?_cons_zero]; rfl) (by kernel_rfl) (by kernel_rfl) (by kernel_rfl) (by exact fun _ _ _ h => h) (Or.inl ⟨by rfl, ?_⟩) (by with_reducible exact hS20) ?_
    rotate_left
    · intro W hSw; (obtain ⟨⟨x0, x1, x2, x3, x4, x5⟩, ⟨y0, y1, y2, y3, y4, y5⟩, -⟩ := hSw); go_simp; all_goals (with_reducible rfl)
    try simp only [Act.put, List.setIfInBounds_toArray, List.set_cons_zero, List.set_cons_succ]
    refine wpAnyH_take (i := 24) (v := ?_) (by simp only [List.getElem?_toArray, List.getElem?_cons_succ, List.getElem?_cons_zero]; rfl) (by kernel_rfl) (by kernel_rfl) (by kernel_rfl) (by exact fun _ _ _ h => h) (Or.inl ⟨by rfl, ?_⟩) (by with_reducible exact hS20) ?_
    rotate_left
    · intro W hSw; (obtain ⟨⟨x0, x1, x2, x3, x4, x5⟩, ⟨y0, y1, y2, y3, y4, y5⟩, -⟩ := hSw); go_simp; all_goals (with_reducible rfl)
    try simp only [Act.put, List.setIfInBounds_toArray, List.set_cons_zero, List.set_cons_succ]
    refine wpAnyH_take (i := 25) (v := ?_) (by simp only [List.getElem?_toArray, List.getElem?_cons_succ, List.getElem?_cons_zero]; rfl) (by kernel_rfl) (by kernel_rfl) (by kernel_rfl) (by exact fun _ _ _ h => h) (Or.inl ⟨by rfl, ?_⟩) (by with_reducible exact hS20) ?_
    rotate_left
    · intro W hSw; (obtain ⟨⟨x0, x1, x2, x3, x4, x5⟩, ⟨y0, y1, y2, y3, y4, y5⟩, -⟩ := hSw); go_simp; all_goals (with_reducible rfl)
    try simp only [Act.put, List.setIfInBounds_toArray, List.set_cons_zero, List.set_cons_succ]
    refine wpAnyH_take (i := 27) (v := ?_) (by simp only [List.getElem?_toArray, List.getElem?_cons_succ, List.getElem?_cons_zero]; rfl) (by kernel_rfl) (by kernel_rfl) (by kernel_rfl) (by exact fun _ _ _ h => h) (Or.inl ⟨by rfl, ?_⟩) (by with_reducible exact hS20) ?_
    rotate_left
    · intro W hSw; (obtain ⟨⟨x0, x1, x2, x3, x4, x5⟩, ⟨y0, y1, y2, y3, y4, y5⟩, -⟩ := hSw); go_simp; all_goals (with_reducible rfl)
    try simp only [Act.put, List.setIfInBounds_toArray, List.set_cons_zero, List.set_cons_succ]
    refine wpAnyH_take (i := 28) (v := ?_) (by simp only [List.getElem?_toArray, List.getElem?_cons_succ, List.getElem?_cons_zero]; rfl) (by kernel_rfl) (by kernel_rfl) (by kernel_rfl) (by exact fun _ _ _ h => h) (Or.inl ⟨by rfl, ?_⟩) (by with_reducible exact hS20) ?_
    rotate_left
    · intro W hSw; (obtain ⟨⟨x0, x1, x2, x3, x4, x5⟩, ⟨y0, y1, y2, y3, y4, y5⟩, -⟩ := hSw); go_simp; all_goals (with_reducible rfl)
    try simp only [Act.put, List.setIfInBounds_toArray, List.set_cons_zero, List.set_cons_succ]
    refine Rg.take_one 26 (by simp only [List.getElem?_toArray, List.getElem?_cons_succ, List.getElem?_cons_zero]; rfl) (by kernel_rfl) (fun K hK => ?_)
    go_simp
    go_at_call 11
    refine (HI.out _ _).mono ?_
    rintro en w_26 ⟨rfl, hb_26⟩
    have hS26 : BoxS w_26 bx q1 S1 T1 p1 n1 ∧ BoxS w_26 by_ q2 S2 T2 p2 n2 ∧ Below w.heap.size w w_26 := TWO.out _ _ hS20 hb_26
    go_wp2_with fail
    refine hK.out _ _ hS26 (fun hHeld26 => ?_)
    clear hK K
    try simp only [Act.put, List.setIfInBounds_toArray, List.set_cons_zero, List.set_cons_succ]
    refine Rg.take_one 29 (by simp only [List.getElem?_toArray, List.getElem?_cons_succ, List.getElem?_cons_zero]; rfl) (by kernel_rfl) (fun K hK => ?_)
    go_simp
    go_at_call 12
    refine (HRI.out _ _).mono ?_
    rintro en w_29 ⟨rfl, hb_29⟩
    have hS29 : BoxS w_29 bx q1 S1 T1 p1 n1 ∧ BoxS w_29 by_ q2 S2 T2 p2 n2 ∧ Below w.heap.size w w_29 := TWO.out _ _ hS26 hb_29
    go_wp2_with fail
    refine hK.out _ _ hS29 (fun hHeld29 => ?_)
    clear hK K
    try simp only [Act.put, List.setIfInBounds_toArray, List.set_cons_zero, List.set_cons_succ]
    refine Rg.take_w 30 (by simp only [List.getElem?_toArray, List.getElem?_cons_succ, List.getElem?_cons_zero]; rfl) (by kernel_rfl) (by kernel_rfl) (by kernel_rfl) (.bool true) (by exact fun _ _ _ h => h) (by rfl) (by intro W hSw; (obtain ⟨⟨x0, x1, x2, x3, x4, x5⟩, ⟨y0, y1, y2, y3, y4, y5⟩, -⟩ := hSw); go_simp) (by with_reducible exact hS29) ?_
    try simp only [Act.put, List.setIfInBounds_toArray, List.set_cons_zero, List.set_cons_succ]
    refine wpAnyH_take (i := 31) (v := ?_) (by simp only [List.getElem?_toArray, List.getElem?_cons_succ, List.getElem?_cons_zero]; rfl) (by kernel_rfl) (by kernel_rfl) (by kernel_rfl) (by exact fun _ _ _ h => h) (Or.inl ⟨by rfl, ?_⟩) (by with_reducible exact hS29) ?_
    rotate_left
    · intro W hSw; (obtain ⟨⟨x0, x1, x2, x3, x4, x5⟩, ⟨y0, y1, y2, y3, y4, y5⟩, -⟩ := hSw); go_simp; all_goals (with_reducible rfl)
    try simp only [Act.put, List.setIfInBounds_toArray, List.set_cons_zero, List.set_cons_succ]
    refine wpAnyH_take (i := 32) (v := ?_) (by simp only [List.getElem?_toArray, List.getElem?_cons_succ, List.getElem?_cons_zero]; rfl) (by kernel_rfl) (by kernel_rfl) (by kernel_rfl) (by exact fun _ _ _ h => h) (Or.inl ⟨by rfl, ?_⟩) (by with_reducible exact hS29) ?_
    rotate_left
    · intro W hSw; (obtain ⟨⟨x0, x1, x2, x3, x4, x5⟩, ⟨y0, y1, y2, y3, y4, y5⟩, -⟩ := hSw); go_simp; all_goals (with_reducible rfl)
    try simp only [Act.put, List.setIfInBounds_toArray, List.set_cons_zero, List.set_cons_succ]
    refine wpAnyH_take (i := 33) (v := ?_) (by simp only [List.getElem?_toArray, List.getElem?_cons_succ, List.getElem?_cons_zero]; rfl) (by kernel_rfl) (by kernel_rfl) (by kernel_rfl) (by exact fun _ _ _ h => h) (Or.inl ⟨by rfl, ?_⟩) (by with_reducible exact hS29) ?_
    rotate_left
    · intro W hSw; (obtain ⟨⟨x0, x1, x2, x3, x4, x5⟩, ⟨y0, y1, y2, y3, y4, y5⟩, -⟩ := hSw); go_simp; all_goals (with_reducible rfl)
    try simp only [Act.put, List.setIfInBounds_toArray, List.set_cons_zero, List.set_cons_succ]
    refine wpAnyH_take (i := 34) (v := ?_) (by simp only [List.getElem?_toArray, List.getElem?_cons_succ, List.getElem?_cons_zero]; rfl) (by kernel_rfl) (by kernel_rfl) (by kernel_rfl) (by exact fun _ _ _ h => h) (Or.inl ⟨by rfl, ?_⟩) (by with_reducible exact hS29) ?_
    rotate_left
    · intro W hSw; (obtain ⟨⟨x0, x1, x2, x3, x4, x5⟩, ⟨y0, y1, y2, y3, y4, y5⟩, -⟩ := hSw); go_simp; all_goals (with_reducible rfl)
    try simp only [Act.put, List.setIfInBounds_toArray, List.set_cons_zero, List.set_cons_succ]
    refine wpAnyH_take (i := 35) (v := ?_) (by simp only [List.getElem?_toArray, List.getElem?_cons_succ, List.getElem?_cons_zero]; rfl) (by kernel_rfl) (by kernel_rfl) (by kernel_rfl) (by exact fun _ _ _ h => h) (Or.inl ⟨by rfl, ?_⟩) (by with_reducible exact hS29) ?_
    rotate_left
    · intro W hSw; (obtain ⟨⟨x0, x1, x2, x3, x4, x5⟩, ⟨y0, y1, y2, y3, y4, y5⟩, -⟩ := hSw); go_simp; all_goals (with_reducible rfl)
    try simp only [Act.put, List.setIfInBounds_toArray, List.set_cons_zero, List.set_cons_succ]
    refine wpAnyH_take (i := 37) (v := ?_) (by simp only [List.getElem?_toArray, List.getElem?_cons_succ, List.getElem?_cons_zero]; rfl) (by kernel_rfl) (by kernel_rfl) (by kernel_rfl) (by exact fun _ _ _ h => h) (Or.inl ⟨by rfl, ?_⟩) (by with_reducible exact hS29) ?_
    rotate_left
    · intro W hSw; (obtain ⟨⟨x0, x1, x2, x3, x4, x5⟩, ⟨y0, y1, y2, y3, y4, y5⟩, -⟩ := hSw); go_simp; all_goals (with_reducible rfl)
    try simp only [Act.put, List.setIfInBounds_toArray, List.set_cons_zero, List.set_cons_succ]
    refine wpAnyH_take (i := 38) (v := ?_) (by simp only [List.getElem?_toArray, List.getElem?_cons_succ, List.getElem?_cons_zero]; rfl) (by kernel_rfl) (by kernel_rfl) (by kernel_rfl) (by exact fun _ _ _ h => h) (Or.inl ⟨by rfl, ?_⟩) (by with_reducible exact hS29) ?_
    rotate_left
    · intro W hSw; (obtain ⟨⟨x0, x1, x2, x3, x4, x5⟩, ⟨y0, y1, y2, y3, y4, y5⟩, -⟩ := hSw); go_simp; all_goals (with_reducible rfl)
    try simp only [Act.put, List.setIfInBounds_toArray, List.set_cons_zero, List.set_cons_succ]
    refine wpAnyH_take (i := 39) (v := ?_) (by simp only [List.getElem?_toArray, List.getElem?_cons_succ, List.getElem?_cons_zero]; rfl) (by kernel_rfl) (by kernel_rfl) (by kernel_rfl) (by exact fun _ _ _ h => h) (Or.inl ⟨by rfl, ?_⟩) (by with_reducible exact hS29) ?_
    rotate_left
    · intro W hSw; (obtain ⟨⟨x0, x1, x2, x3, x4, x5⟩, ⟨y0, y1, y2, y3, y4, y5⟩, -⟩ := hSw); go_simp; all_goals (with_reducible rfl)
    try simp only [Act.put, List.setIfInBounds_toArray, List.set_cons_zero, List.set_cons_succ]
    refine Rg.take_one 36 (by simp only [List.getElem?_toArray, List.getElem?_cons_succ, List.getElem?_cons_zero]; rfl) (by kernel_rfl) (fun K hK => ?_)
    go_simp
    go_at_call 11
    refine (HI.out _ _).mono ?_
    rintro en w_36 ⟨rfl, hb_36⟩
    have hS36 : BoxS w_36 bx q1 S1 T1 p1 n1 ∧ BoxS w_36 by_ q2 S2 T2 p2 n2 ∧ Below w.heap.size w w_36 := TWO.out _ _ hS29 hb_36
    go_wp2_with fail
    refine hK.out _ _ hS36 (fun hHeld36 => ?_)
    clear hK K
    try simp only [Act.put, List.setIfInBounds_toArray, List.set_cons_zero, List.set_cons_succ]
    refine Rg.take_one 40 (by simp only [List.getElem?_toArray, List.getElem?_cons_succ, List.getElem?_cons_zero]; rfl) (by kernel_rfl) (fun K hK => ?_)
    go_simp
    go_at_call 12
    refine (HRI.out _ _).mono ?_
    rintro en w_40 ⟨rfl, hb_40⟩
    have hS40 : BoxS w_40 bx q1 S1 T1 p1 n1 ∧ BoxS w_40 by_ q2 S2 T2 p2 n2 ∧ Below w.heap.size w w_40 := TWO.out _ _ hS36 hb_40
    go_wp2_with fail
    refine hK.out _ _ hS40 (fun hHeld40 => ?_)
    clear hK K
    try simp only [Act.put, List.setIfInBounds_toArray, List.set_cons_zero, List.set_cons_succ]
    refine Rg.take_w 41 (by simp only [List.getElem?_toArray, List.getElem?_cons_succ, List.getElem?_cons_zero]; rfl) (by kernel_rfl) (by kernel_rfl) (by kernel_rfl) (.bool true) (by exact fun _ _ _ h => h) (by rfl) (by intro W hSw; (obtain ⟨⟨x0, x1, x2, x3, x4, x5⟩, ⟨y0, y1, y2, y3, y4, y5⟩, -⟩ := hSw); go_simp) (by with_reducible exact hS40) ?_
    try simp only [Act.put, List.setIfInBounds_toArray, List.set_cons_zero, List.set_cons_succ]
    refine wpAnyH_take (i := 42) (v := ?_) (by simp only [List.getElem?_toArray, List.getElem?_cons_succ, List.getElem?_cons_zero]; rfl) (by kernel_rfl) (by kernel_rfl) (by kernel_rfl) (by exact fun _ _ _ h => h) (Or.inl ⟨by rfl, ?_⟩) (by with_reducible exact hS40) ?_
    rotate_left
    · intro W hSw; (obtain ⟨⟨x0, x1, x2, x3, x4, x5⟩, ⟨y0, y1, y2, y3, y4, y5⟩, -⟩ := hSw); go_simp; all_goals (with_reducible rfl)
    try simp only [Act.put, List.setIfInBounds_toArray, List.set_cons_zero, List.set_cons_succ]
    refine wpAnyH_take (i := 43) (v := ?_) (by simp only [List.getElem?_toArray, List.getElem?_cons_succ, List.getElem?_cons_zero]; rfl) (by kernel_rfl) (by kernel_rfl) (by kernel_rfl) (by exact fun _ _ _ h => h) (Or.inl ⟨by rfl, ?_⟩) (by with_reducible exact hS40) ?_
    rotate_left
    · intro W hSw; (obtain ⟨⟨x0, x1, x2, x3, x4, x5⟩, ⟨y0, y1, y2, y3, y4, y5⟩, -⟩ := hSw); go_simp; all_goals (with_reducible rfl)
    try simp only [Act.put, List.setIfInBounds_toArray, List.set_cons_zero, List.set_cons_succ]
    refine Rg.take_one 44 (by simp only [List.getElem?_toArray, List.getElem?_cons_succ, List.getElem?_cons_zero]; rfl) (by kernel_rfl) (fun K hK => ?_)
    go_simp
    go_at_call 6
    refine (HAW.out _ (HL.out.kept hS40.2.2)).mono ?_
    rintro en w_44 ⟨rfl, hb_44⟩
    have hS44 : BoxS w_44 bx q1 S1 T1 p1 n1 ∧ BoxS w_44 by_ q2 S2 T2 p2 n2 ∧ Below w.heap.size w w_44 := TWO.out _ _ hS40 hb_44
    go_wp2_with fail
    refine hK.out _ _ hS44 (fun hHeld44 => ?_)
    clear hK K
    try simp only [Act.put, List.setIfInBounds_toArray, List.set_cons_zero, List.set_cons_succ]
    refine wpAnyH_take (i := 45) (v := ?_) (by simp only [List.getElem?_toArray, List.getElem?_cons_succ, List.getElem?_cons_zero]; rfl) (by kernel_rfl) (by kernel_rfl) (by kernel_rfl) (by exact fun _ _ _ h => h) (Or.inl ⟨by rfl, ?_⟩) (by with_reducible exact hS44) ?_
    rotate_left
    · intro W hSw; (obtain ⟨⟨x0, x1, x2, x3, x4, x5⟩, ⟨y0, y1, y2, y3, y4, y5⟩, -⟩ := hSw); go_simp; all_goals (with_reducible rfl)
    try simp only [Act.put, List.setIfInBounds_toArray, List.set_cons_zero, List.set_cons_succ]
    refine wpAnyH_take (i := 46) (v := ?_) (by simp only [List.getElem?_toArray, List.getElem?_cons_succ, List.getElem?_cons_zero]; rfl) (by kernel_rfl) (by kernel_rfl) (by kernel_rfl) (by exact fun _ _ _ h => h) (Or.inl ⟨by rfl, ?_⟩) (by with_reducible exact hS44) ?_
    rotate_left
    · intro W hSw; (obtain ⟨⟨x0, x1, x2, x3, x4, x5⟩, ⟨y0, y1, y2, y3, y4, y5⟩, -⟩ := hSw); go_simp; all_goals (with_reducible rfl)
    try simp only [Act.put, List.setIfInBounds_toArray, List.set_cons_zero, List.set_cons_succ]
    refine wpAnyH_done (by kernel_rfl) ?_ _
    have HZ := Lib.hid hS44.2.2
    go_wp2
    go_ret
    exact ⟨rfl, HZ.out⟩
end Go.Proofs.YtlibmfflgpkjmaaGreatDoor.Ck
