/-
  Put together: TiD, TiH, TiI.
-/
import Derived.Test.YtjflefchhbihkaaGreatDoorSb
import Derived.Test.YtjflefchhbihkaaGreatDoorQc
import Derived.Test.YtjflefchhbihkaaGreatDoorRvR
import Derived.Test.YtjflefchhbihkaaGreatDoorRuG
import Derived.Test.YtjflefchhbihkaaGreatDoorSd
import Derived.Test.YtjflefchhbihkaaGreatDoorQf
import Derived.Test.YtjflefchhbihkaaGreatDoorTiF
import Derived.Test.YtjflefchhbihkaaGreatDoorCkI
namespace Go.Proofs.YtjflefchhbihkaaGreatDoor.Ti
open Go.RowKit Ba Ru Ck

set_option maxRecDepth 100000 in
set_option maxHeartbeats 2000000 in
/-- stylusref10.Match -/
theorem rmatch_any (v : Value) (l : List Rl) (off : Nat) (t : ByteArray) (ht : t.size ≤ 1000000) (p row : Int) (hl : l.length ≤ 1000000) (hf : ∀ x ∈ l, FitR x ∧ x.cells.length ≤ 1000000) (o : Option Nat) (ho : matchN l (bytesN t) p row = o) (w : World) (hv : ReadsR off w w.heap.size v l) :
    Calls Tryz.prog 13 #[v, .string t, .int .i64 p, .int .i64 row] w fun e w' => e = .returned (.tuple #[.int .i64 (numV o), .bool (okV o)]) ∧ Below w.heap.size w w' := by
  have HRV := Lib.hid hv
  have HF := Lib.hid hf
  obtain ⟨A, c, rfl, -⟩ := hv
  clear hf
  obtain ⟨nl, hnl⟩ : ∃ nl, l.length = nl := ⟨_, rfl⟩
  rw [hnl] at HRV hl ⊢
  have HNL := Lib.hid hnl
  clear hnl
  unfold matchN at ho
  rw [bytesN_len] at ho
  have HO := Lib.hid ho
  clear ho
  go_enter Tryz.func13, Tryz.ntmps13
  by_cases p0 : p < 0
  · have HV := Lib.hid (show none = o by rw [← HO.out, if_neg (by omega)])
    have t1 : decide (p < 0) = true := decide_eq_true p0
    clear p0
    go_wp2
    refine bodyPost_ret (v := .tuple #[.int .i64 0, .bool false]) (by simp [results, Tryz.f13, go_sem]) rfl ?_
    rw [← HV.out]
    exact ⟨rfl, Below.refl _ _⟩
  have t1 : decide (p < 0) = false := decide_eq_false p0
  by_cases p1 : (t.size : Int) ≤ p
  · have HV := Lib.hid (show none = o by rw [← HO.out, if_neg (by omega)])
    have t2 : decide ((t.size : Int) ≤ p) = true := decide_eq_true p1
    clear p0 p1
    go_wp2
    refine bodyPost_ret (v := .tuple #[.int .i64 0, .bool false]) (by simp [results, Tryz.f13, go_sem]) rfl ?_
    rw [← HV.out]
    exact ⟨rfl, Below.refl _ _⟩
  have t2 : decide ((t.size : Int) ≤ p) = false := decide_eq_false p1
  obtain ⟨m, rfl⟩ : ∃ m : Nat, p = (m : Int) := ⟨p.toNat, by omega⟩
  have hm : m < t.size := by omega
  have t5 : decide (t.size ≤ m) = false := decide_eq_false (by omega)
  have t6 : decide ((m : Int) < 0) = false := decide_eq_false (by omega)
  have HP := Lib.hid (show l.findIdx? (fun x => inB x row && x.cells.isPrefixOf ((bytesN t).drop m)) = o by rw [← HO.out, if_pos (by omega), Int.toNat_natCast])
  obtain ⟨U, hU⟩ : ∃ U, t.extract m t.size = U := ⟨_, rfl⟩
  have hUN : bytesN U = (bytesN t).drop m := by
    rw [← hU, bytesN_ext, ← bytesN_len, ← List.length_drop, List.take_length]
  have hUs : U.size ≤ 1000000 := by rw [← hU, ByteArray.size_extract]; omega
  rw [← hUN] at HP
  have HUS := Lib.hid hUs
  clear p0 p1 hUN hUs HO
  go_wp2
  go_loopw [10] (fun i wr => ∃ k : Nat, k ≤ nl ∧ i = .int .i64 k ∧ (∀ y ∈ l.take k, (inB y row && y.cells.isPrefixOf (bytesN U)) = false) ∧ Below w.heap.size w wr) (fun i _ => nl - (intOf i).toNat)
  case atStart => exact ⟨0, by omega, rfl, fun y hy => by simp at hy, Below.refl _ _⟩
  case round =>
    obtain ⟨k, hk, rfl, hN, hB⟩ := hrel
    have HN := Lib.hid hN
    have HBW := Lib.hid hB
    clear hN hB
    by_cases hlt : k < nl
    · have t3 : decide ((k : Int) < (nl : Int)) = true := decide_eq_true (by omega)
      have k0 : (0 : Int) ≤ (k : Int) := by omega
      have k1 : (k : Int) < (nl : Int) := by omega
      obtain ⟨x, hx⟩ : ∃ x, l[k]? = some x := ⟨_, List.getElem?_eq_getElem (by rw [HNL.out]; exact hlt)⟩
      obtain ⟨hfx, hfc⟩ := HF.out x (List.mem_of_getElem? hx)
      obtain ⟨A', c', e, hA⟩ := HRV.out
      injection e with e1 e2 e3
      subst e1; subst e3; clear e2
      obtain ⟨g, rfl, hgw, hg⟩ := hA (by rw [HNL.out]; omega)
      obtain ⟨x0, x1, x2, x3, x4⟩ := rcell hg k x hx
      have hgr : g < wr.heap.size := Nat.lt_of_lt_of_le hgw HBW.out.size
      obtain ⟨bi, hbi⟩ : ∃ b, inB x row = b := ⟨_, rfl⟩
      obtain ⟨bg, hbg⟩ : ∃ b, x.cells.isPrefixOf (bytesN U) = b := ⟨_, rfl⟩
      have HIN := Lib.hid (fun W => hbi ▸ rin_any x row W)
      have HBG := Lib.hid (fun W => rbegins_any (bytesOf x.cells) U (by rw [bytesOf_size]; exact hfc) HUS.out W)
      rw [bytesN_bytesOf _ hfx.2.2.2.2.1, hbg] at HBG
      have HYES := Lib.hid (show bi = true → bg = true → some k = o from fun h1 h2 => by rw [← HP.out]; exact (first_here (p := fun x => inB x row && x.cells.isPrefixOf (bytesN U)) hx HN.out (by rw [hbi, hbg, h1, h2]; rfl)).symm)
      have HNO := Lib.hid (show (bi && bg) = false → ∀ y ∈ l.take (k + 1), (inB y row && y.cells.isPrefixOf (bytesN U)) = false from fun h => first_step (p := fun x => inB x row && x.cells.isPrefixOf (bytesN U)) hx HN.out (by rw [hbi, hbg]; exact h))
      obtain ⟨xq, xl, xc, xp, xn⟩ := x
      simp only [aggR] at HIN
      simp only [] at x0 x1 x2 x3 x4 HBG
      obtain ⟨xs, hxs⟩ : ∃ s, bytesOf xl = s := ⟨_, rfl⟩
      obtain ⟨xt, hxt⟩ : ∃ s, bytesOf xc = s := ⟨_, rfl⟩
      rw [hxs, hxt] at HIN
      rw [hxt] at HBG
      rw [hxs] at x1; rw [hxt] at x2
      have HKC := Lib.hid (show ∀ W : World, Below wr.heap.size wr W → (W.cell? ⟨g, off + k * 5, none⟩ = some (.int .i64 xq) ∧ W.cell? ⟨g, off + k * 5 + 1, none⟩ = some (.string xs) ∧ W.cell? ⟨g, off + k * 5 + 2, none⟩ = some (.string xt) ∧ W.cell? ⟨g, off + k * 5 + 3, none⟩ = some (.int .i64 xp) ∧ W.cell? ⟨g, off + k * 5 + 4, none⟩ = some (.int .i64 xn)) ∧ Below wr.heap.size wr W from fun W hW => by
        have hb := chain HBW.out HBW.out.size hW
        exact ⟨⟨(hb.cell (p := ⟨g, off + k * 5, none⟩) hgw).trans x0, (hb.cell (p := ⟨g, off + k * 5 + 1, none⟩) hgw).trans x1, (hb.cell (p := ⟨g, off + k * 5 + 2, none⟩) hgw).trans x2, (hb.cell (p := ⟨g, off + k * 5 + 3, none⟩) hgw).trans x3, (hb.cell (p := ⟨g, off + k * 5 + 4, none⟩) hgw).trans x4⟩, hW⟩)
      have HCC := Lib.hid (show ∀ W W' : World, ((W.cell? ⟨g, off + k * 5, none⟩ = some (.int .i64 xq) ∧ W.cell? ⟨g, off + k * 5 + 1, none⟩ = some (.string xs) ∧ W.cell? ⟨g, off + k * 5 + 2, none⟩ = some (.string xt) ∧ W.cell? ⟨g, off + k * 5 + 3, none⟩ = some (.int .i64 xp) ∧ W.cell? ⟨g, off + k * 5 + 4, none⟩ = some (.int .i64 xn)) ∧ Below wr.heap.size wr W) → Below W.heap.size W W' → (W'.cell? ⟨g, off + k * 5, none⟩ = some (.int .i64 xq) ∧ W'.cell? ⟨g, off + k * 5 + 1, none⟩ = some (.string xs) ∧ W'.cell? ⟨g, off + k * 5 + 2, none⟩ = some (.string xt) ∧ W'.cell? ⟨g, off + k * 5 + 3, none⟩ = some (.int .i64 xp) ∧ W'.cell? ⟨g, off + k * 5 + 4, none⟩ = some (.int .i64 xn)) ∧ Below wr.heap.size wr W' from fun W W' h hb => HKC.out W' (chain h.2 h.2.size hb))
      clear hx hfx hfc hg hA hbi hbg x0 x1 x2 x3 x4 hxs hxt
      subst hU
      cases bi
      case false =>
        have HV := Lib.hid (HNO.out (Bool.false_and _))
        clear HYES HNO
        go_upto_region 6 with fail
        have hS := HKC.out _ (Below.refl _ _).drew
        refine wp_region_held_drew (S := fun W => (W.cell? ⟨g, off + k * 5, none⟩ = some (.int .i64 xq) ∧ W.cell? ⟨g, off + k * 5 + 1, none⟩ = some (.string xs) ∧ W.cell? ⟨g, off + k * 5 + 2, none⟩ = some (.string xt) ∧ W.cell? ⟨g, off + k * 5 + 3, none⟩ = some (.int .i64 xp) ∧ W.cell? ⟨g, off + k * 5 + 4, none⟩ = some (.int .i64 xn)) ∧ Below wr.heap.size wr W) (by kernel_rfl) hS (fun hHeld => ?_)
        refine wpAnyH_take (i := 0) (v := ?_) (by simp only [List.getElem?_toArray, List.getElem?_cons_zero]; rfl) (by kernel_rfl) (by kernel_rfl) (by kernel_rfl) (by exact fun _ _ _ h => h) (Or.inl ⟨by rfl, ?_⟩) (by with_reducible exact hS) ?_
        rotate_left
        · intro W hSw; (obtain ⟨⟨x0, x1, x2, x3, x4⟩, -⟩ := hSw); go_simp; all_goals (with_reducible rfl)
        try simp only [Act.put, List.setIfInBounds_toArray, List.set_cons_zero, List.set_cons_succ]
        refine wpAnyH_take (i := 1) (v := ?_) (by simp only [List.getElem?_toArray, List.getElem?_cons_succ, List.getElem?_cons_zero]; rfl) (by kernel_rfl) (by kernel_rfl) (by kernel_rfl) (by exact fun _ _ _ h => h) (Or.inl ⟨by rfl, ?_⟩) (by with_reducible exact hS) ?_
        rotate_left
        · intro W hSw; (obtain ⟨⟨x0, x1, x2, x3, x4⟩, -⟩ := hSw); go_simp; all_goals (with_reducible rfl)
        try simp only [Act.put, List.setIfInBounds_toArray, List.set_cons_zero, List.set_cons_succ]
        refine wpAnyH_take (i := 2) (v := ?_) (by simp only [List.getElem?_toArray, List.getElem?_cons_succ, List.getElem?_cons_zero]; rfl) (by kernel_rfl) (by kernel_rfl) (by kernel_rfl) (by exact fun _ _ _ h => h) (Or.inl ⟨by rfl, ?_⟩) (by with_reducible exact hS) ?_
        rotate_left
        · intro W hSw; (obtain ⟨⟨x0, x1, x2, x3, x4⟩, -⟩ := hSw); go_simp; all_goals (with_reducible rfl)
        try simp only [Act.put, List.setIfInBounds_toArray, List.set_cons_zero, List.set_cons_succ]
        refine wpAnyH_take (i := 3) (v := ?_) (by simp only [List.getElem?_toArray, List.getElem?_cons_succ, List.getElem?_cons_zero]; rfl) (by kernel_rfl) (by kernel_rfl) (by kernel_rfl) (by exact fun _ _ _ h => h) (Or.inl ⟨by rfl, ?_⟩) (by with_reducible exact hS) ?_
        rotate_left
        · intro W hSw; (obtain ⟨⟨x0, x1, x2, x3, x4⟩, -⟩ := hSw); go_simp; all_goals (with_reducible rfl)
        try simp only [Act.put, List.setIfInBounds_toArray, List.set_cons_zero, List.set_cons_succ]
        refine wpAnyH_take (i := 4) (v := ?_) (by simp only [List.getElem?_toArray, List.getElem?_cons_succ, List.getElem?_cons_zero]; rfl) (by kernel_rfl) (by kernel_rfl) (by kernel_rfl) (by exact fun _ _ _ h => h) (Or.inl ⟨by rfl, ?_⟩) (by with_reducible exact hS) ?_
        rotate_left
        · intro W hSw; (obtain ⟨⟨x0, x1, x2, x3, x4⟩, -⟩ := hSw); go_simp; all_goals (with_reducible rfl)
        try simp only [Act.put, List.setIfInBounds_toArray, List.set_cons_zero, List.set_cons_succ]
        refine Rg.take_one 5 (by simp only [List.getElem?_toArray, List.getElem?_cons_succ, List.getElem?_cons_zero]; rfl) (by kernel_rfl) (fun K hK => ?_)
        go_simp
        go_at_call 31
        refine (HIN.out _).mono ?_
        rintro en w5 ⟨rfl, hb5⟩
        have hS5 := HCC.out _ _ hS hb5
        go_wp2_with fail
        refine hK.out _ _ hS5 (fun hHeld5 => ?_)
        clear hK K
        try simp only [Act.put, List.setIfInBounds_toArray, List.set_cons_zero, List.set_cons_succ]
        refine wpAnyH_take (i := 6) (v := ?_) (by simp only [List.getElem?_toArray, List.getElem?_cons_succ, List.getElem?_cons_zero]; rfl) (by kernel_rfl) (by kernel_rfl) (by kernel_rfl) (by exact fun _ _ _ h => h) (Or.inl ⟨by rfl, ?_⟩) (by with_reducible exact hS5) ?_
        rotate_left
        · intro W hSw; (obtain ⟨⟨x0, x1, x2, x3, x4⟩, -⟩ := hSw); go_simp; all_goals (with_reducible rfl)
        try simp only [Act.put, List.setIfInBounds_toArray, List.set_cons_zero, List.set_cons_succ]
        refine Rg.take_un 7 (by simp only [List.getElem?_toArray, List.getElem?_cons_succ, List.getElem?_cons_zero]; rfl) (by kernel_rfl) (by kernel_rfl) (by kernel_rfl) (by exact fun _ _ _ h => h) (by rfl) (by with_reducible exact hS5) ?_
        try simp only [Act.put, List.setIfInBounds_toArray, List.set_cons_zero, List.set_cons_succ]
        refine Rg.take_un 8 (by simp only [List.getElem?_toArray, List.getElem?_cons_succ, List.getElem?_cons_zero]; rfl) (by kernel_rfl) (by kernel_rfl) (by kernel_rfl) (by exact fun _ _ _ h => h) (by rfl) (by with_reducible exact hS5) ?_
        try simp only [Act.put, List.setIfInBounds_toArray, List.set_cons_zero, List.set_cons_succ]
        refine Rg.take_un 9 (by simp only [List.getElem?_toArray, List.getElem?_cons_succ, List.getElem?_cons_zero]; rfl) (by kernel_rfl) (by kernel_rfl) (by kernel_rfl) (by exact fun _ _ _ h => h) (by rfl) (by with_reducible exact hS5) ?_
        try simp only [Act.put, List.setIfInBounds_toArray, List.set_cons_zero, List.set_cons_succ]
        refine Rg.take_un 10 (by simp only [List.getElem?_toArray, List.getElem?_cons_succ, List.getElem?_cons_zero]; rfl) (by kernel_rfl) (by kernel_rfl) (by kernel_rfl) (by exact fun _ _ _ h => h) (by rfl) (by with_reducible exact hS5) ?_
        try simp only [Act.put, List.setIfInBounds_toArray, List.set_cons_zero, List.set_cons_succ]
        refine Rg.take_un 11 (by simp only [List.getElem?_toArray, List.getElem?_cons_succ, List.getElem?_cons_zero]; rfl) (by kernel_rfl) (by kernel_rfl) (by kernel_rfl) (by exact fun _ _ _ h => h) (by rfl) (by with_reducible exact hS5) ?_
        try simp only [Act.put, List.setIfInBounds_toArray, List.set_cons_zero, List.set_cons_succ]
        refine Rg.take_un 12 (by simp only [List.getElem?_toArray, List.getElem?_cons_succ, List.getElem?_cons_zero]; rfl) (by kernel_rfl) (by kernel_rfl) (by kernel_rfl) (by exact fun _ _ _ h => h) (by rfl) (by with_reducible exact hS5) ?_
        try simp only [Act.put, List.setIfInBounds_toArray, List.set_cons_zero, List.set_cons_succ]
        refine Rg.take_un 13 (by simp only [List.getElem?_toArray, List.getElem?_cons_succ, List.getElem?_cons_zero]; rfl) (by kernel_rfl) (by kernel_rfl) (by kernel_rfl) (by exact fun _ _ _ h => h) (by rfl) (by with_reducible exact hS5) ?_
        try simp only [Act.put, List.setIfInBounds_toArray, List.set_cons_zero, List.set_cons_succ]
        refine Rg.take_un 14 (by simp only [List.getElem?_toArray, List.getElem?_cons_succ, List.getElem?_cons_zero]; rfl) (by kernel_rfl) (by kernel_rfl) (by kernel_rfl) (by exact fun _ _ _ h => h) (by rfl) (by with_reducible exact hS5) ?_
        try simp only [Act.put, List.setIfInBounds_toArray, List.set_cons_zero, List.set_cons_succ]
        refine Rg.take_un 15 (by simp only [List.getElem?_toArray, List.getElem?_cons_succ, List.getElem?_cons_zero]; rfl) (by kernel_rfl) (by kernel_rfl) (by kernel_rfl) (by exact fun _ _ _ h => h) (by rfl) (by with_reducible exact hS5) ?_
        try simp only [Act.put, List.setIfInBounds_toArray, List.set_cons_zero, List.set_cons_succ]
        refine wpAnyH_take (i := 16) (v := ?_) (by simp only [List.getElem?_toArray, List.getElem?_cons_succ, List.getElem?_cons_zero]; rfl) (by kernel_rfl) (by kernel_rfl) (by kernel_rfl) (by exact fun _ _ _ h => h) (Or.inl ⟨by rfl, ?_⟩) (by with_reducible exact hS5) ?_
        rotate_left
        · intro W hSw; (obtain ⟨⟨x0, x1, x2, x3, x4⟩, -⟩ := hSw); go_simp; all_goals (with_reducible rfl)
        try simp only [Act.put, List.setIfInBounds_toArray, List.set_cons_zero, List.set_cons_succ]
        refine wpAnyH_done (by kernel_rfl) ?_ _
        have HE := Lib.hid (chain HBW.out HBW.out.size hS5.2)
        clear hS hS5 hb5
        go_wp2
        go_roundw
        case rel => exact ⟨k + 1, by omega, by go_num, HV.out, HE.out⟩
        case measure => simp [intOf]; omega
      case true =>
        go_upto_region 6 with fail
        have hS := HKC.out _ (Below.refl _ _).drew
        refine wp_region_held_drew (S := fun W => (W.cell? ⟨g, off + k * 5, none⟩ = some (.int .i64 xq) ∧ W.cell? ⟨g, off + k * 5 + 1, none⟩ = some (.string xs) ∧ W.cell? ⟨g, off + k * 5 + 2, none⟩ = some (.string xt) ∧ W.cell? ⟨g, off + k * 5 + 3, none⟩ = some (.int .i64 xp) ∧ W.cell? ⟨g, off + k * 5 + 4, none⟩ = some (.int .i64 xn)) ∧ Below wr.heap.size wr W) (by kernel_rfl) hS (fun hHeld => ?_)
        refine wpAnyH_take (i := 0) (v := ?_) (by simp only [List.getElem?_toArray, List.getElem?_cons_zero]; rfl) (by kernel_rfl) (by kernel_rfl) (by kernel_rfl) (by exact fun _ _ _ h => h) (Or.inl ⟨by rfl, ?_⟩) (by with_reducible exact hS) ?_
        rotate_left
        · intro W hSw; (obtain ⟨⟨x0, x1, x2, x3, x4⟩, -⟩ := hSw); go_simp; all_goals (with_reducible rfl)
        try simp only [Act.put, List.setIfInBounds_toArray, List.set_cons_zero, List.set_cons_succ]
        refine wpAnyH_take (i := 1) (v := ?_) (by simp only [List.getElem?_toArray, List.getElem?_cons_succ, List.getElem?_cons_zero]; rfl) (by kernel_rfl) (by kernel_rfl) (by kernel_rfl) (by exact fun _ _ _ h => h) (Or.inl ⟨by rfl, ?_⟩) (by with_reducible exact hS) ?_
        rotate_left
        · intro W hSw; (obtain ⟨⟨x0, x1, x2, x3, x4⟩, -⟩ := hSw); go_simp; all_goals (with_reducible rfl)
        try simp only [Act.put, List.setIfInBounds_toArray, List.set_cons_zero, List.set_cons_succ]
        refine wpAnyH_take (i := 2) (v := ?_) (by simp only [List.getElem?_toArray, List.getElem?_cons_succ, List.getElem?_cons_zero]; rfl) (by kernel_rfl) (by kernel_rfl) (by kernel_rfl) (by exact fun _ _ _ h => h) (Or.inl ⟨by rfl, ?_⟩) (by with_reducible exact hS) ?_
        rotate_left
        · intro W hSw; (obtain ⟨⟨x0, x1, x2, x3, x4⟩, -⟩ := hSw); go_simp; all_goals (with_reducible rfl)
        try simp only [Act.put, List.setIfInBounds_toArray, List.set_cons_zero, List.set_cons_succ]
        refine wpAnyH_take (i := 3) (v := ?_) (by simp only [List.getElem?_toArray, List.getElem?_cons_succ, List.getElem?_cons_zero]; rfl) (by kernel_rfl) (by kernel_rfl) (by kernel_rfl) (by exact fun _ _ _ h => h) (Or.inl ⟨by rfl, ?_⟩) (by with_reducible exact hS) ?_
        rotate_left
        · intro W hSw; (obtain ⟨⟨x0, x1, x2, x3, x4⟩, -⟩ := hSw); go_simp; all_goals (with_reducible rfl)
        try simp only [Act.put, List.setIfInBounds_toArray, List.set_cons_zero, List.set_cons_succ]
        refine wpAnyH_take (i := 4) (v := ?_) (by simp only [List.getElem?_toArray, List.getElem?_cons_succ, List.getElem?_cons_zero]; rfl) (by kernel_rfl) (by kernel_rfl) (by kernel_rfl) (by exact fun _ _ _ h => h) (Or.inl ⟨by rfl, ?_⟩) (by with_reducible exact hS) ?_
        rotate_left
        · intro W hSw; (obtain ⟨⟨x0, x1, x2, x3, x4⟩, -⟩ := hSw); go_simp; all_goals (with_reducible rfl)
        try simp only [Act.put, List.setIfInBounds_toArray, List.set_cons_zero, List.set_cons_succ]
        refine Rg.take_one 5 (by simp only [List.getElem?_toArray, List.getElem?_cons_succ, List.getElem?_cons_zero]; rfl) (by kernel_rfl) (fun K hK => ?_)
        go_simp
        go_at_call 31
        refine (HIN.out _).mono ?_
        rintro en w5 ⟨rfl, hb5⟩
        have hS5 := HCC.out _ _ hS hb5
        go_wp2_with fail
        refine hK.out _ _ hS5 (fun hHeld5 => ?_)
        clear hK K
        try simp only [Act.put, List.setIfInBounds_toArray, List.set_cons_zero, List.set_cons_succ]
        refine wpAnyH_take (i := 6) (v := ?_) (by simp only [List.getElem?_toArray, List.getElem?_cons_succ, List.getElem?_cons_zero]; rfl) (by kernel_rfl) (by kernel_rfl) (by kernel_rfl) (by exact fun _ _ _ h => h) (Or.inl ⟨by rfl, ?_⟩) (by with_reducible exact hS5) ?_
        rotate_left
        · intro W hSw; (obtain ⟨⟨x0, x1, x2, x3, x4⟩, -⟩ := hSw); go_simp; all_goals (with_reducible rfl)
        try simp only [Act.put, List.setIfInBounds_toArray, List.set_cons_zero, List.set_cons_succ]
        refine wpAnyH_take (i := 7) (v := ?_) (by simp only [List.getElem?_toArray, List.getElem?_cons_succ, List.getElem?_cons_zero]; rfl) (by kernel_rfl) (by kernel_rfl) (by kernel_rfl) (by exact fun _ _ _ h => h) (Or.inl ⟨by rfl, ?_⟩) (by with_reducible exact hS5) ?_
        rotate_left
        · intro W hSw; (obtain ⟨⟨x0, x1, x2, x3, x4⟩, -⟩ := hSw); go_simp; all_goals (with_reducible rfl)
        try simp only [Act.put, List.setIfInBounds_toArray, List.set_cons_zero, List.set_cons_succ]
        refine wpAnyH_take (i := 8) (v := ?_) (by simp only [List.getElem?_toArray, List.getElem?_cons_succ, List.getElem?_cons_zero]; rfl) (by kernel_rfl) (by kernel_rfl) (by kernel_rfl) (by exact fun _ _ _ h => h) (Or.inl ⟨by rfl, ?_⟩) (by with_reducible exact hS5) ?_
        rotate_left
        · intro W hSw; (obtain ⟨⟨x0, x1, x2, x3, x4⟩, -⟩ := hSw); go_simp; all_goals (with_reducible rfl)
        try simp only [Act.put, List.setIfInBounds_toArray, List.set_cons_zero, List.set_cons_succ]
        refine wpAnyH_take (i := 9) (v := ?_) (by simp only [List.getElem?_toArray, List.getElem?_cons_succ, List.getElem?_cons_zero]; rfl) (by kernel_rfl) (by kernel_rfl) (by kernel_rfl) (by exact fun _ _ _ h => h) (Or.inl ⟨by rfl, ?_⟩) (by with_reducible exact hS5) ?_
        rotate_left
        · intro W hSw; (obtain ⟨⟨x0, x1, x2, x3, x4⟩, -⟩ := hSw); go_simp; all_goals (with_reducible rfl)
        try simp only [Act.put, List.setIfInBounds_toArray, List.set_cons_zero, List.set_cons_succ]
        refine wpAnyH_take (i := 10) (v := ?_) (by simp only [List.getElem?_toArray, List.getElem?_cons_succ, List.getElem?_cons_zero]; rfl) (by kernel_rfl) (by kernel_rfl) (by kernel_rfl) (by exact fun _ _ _ h => h) (Or.inl ⟨by rfl, ?_⟩) (by with_reducible exact hS5) ?_
        rotate_left
        · intro W hSw; (obtain ⟨⟨x0, x1, x2, x3, x4⟩, -⟩ := hSw); go_simp; all_goals (with_reducible rfl)
        try simp only [Act.put, List.setIfInBounds_toArray, List.set_cons_zero, List.set_cons_succ]
        refine wpAnyH_take (i := 11) (v := ?_) (by simp only [List.getElem?_toArray, List.getElem?_cons_succ, List.getElem?_cons_zero]; rfl) (by kernel_rfl) (by kernel_rfl) (by kernel_rfl) (by exact fun _ _ _ h => h) (Or.inl ⟨by rfl, ?_⟩) (by with_reducible exact hS5) ?_
        rotate_left
        · intro W hSw; (obtain ⟨⟨x0, x1, x2, x3, x4⟩, -⟩ := hSw); go_simp; all_goals (with_reducible rfl)
        try simp only [Act.put, List.setIfInBounds_toArray, List.set_cons_zero, List.set_cons_succ]
        refine wpAnyH_take (i := 12) (v := ?_) (by simp only [List.getElem?_toArray, List.getElem?_cons_succ, List.getElem?_cons_zero]; rfl) (by kernel_rfl) (by kernel_rfl) (by kernel_rfl) (by exact fun _ _ _ h => h) (Or.inl ⟨by rfl, ?_⟩) (by with_reducible exact hS5) ?_
        rotate_left
        · intro W hSw; (obtain ⟨⟨x0, x1, x2, x3, x4⟩, -⟩ := hSw); go_simp; all_goals (with_reducible rfl)
        try simp only [Act.put, List.setIfInBounds_toArray, List.set_cons_zero, List.set_cons_succ]
        refine wpAnyH_take (i := 13) (v := ?_) (by simp only [List.getElem?_toArray, List.getElem?_cons_succ, List.getElem?_cons_zero]; rfl) (by kernel_rfl) (by kernel_rfl) (by kernel_rfl) (by exact fun _ _ _ h => h) (Or.inl ⟨by rfl, ?_⟩) (by with_reducible exact hS5) ?_
        rotate_left
        · intro W hSw; (obtain ⟨⟨x0, x1, x2, x3, x4⟩, -⟩ := hSw); go_simp; all_goals (with_reducible rfl)
        try simp only [Act.put, List.setIfInBounds_toArray, List.set_cons_zero, List.set_cons_succ]
        refine wpAnyH_take (i := 14) (v := ?_) (by simp only [List.getElem?_toArray, List.getElem?_cons_succ, List.getElem?_cons_zero]; rfl) (by kernel_rfl) (by kernel_rfl) (by kernel_rfl) (by exact fun _ _ _ h => h) (Or.inl ⟨by rfl, ?_⟩) (by with_reducible exact hS5) ?_
        rotate_left
        · intro W hSw; (obtain ⟨⟨x0, x1, x2, x3, x4⟩, -⟩ := hSw); go_simp; rw [if_pos (show m ≤ t.size from Nat.le_of_lt hm)]; all_goals (with_reducible rfl)
        try simp only [Act.put, List.setIfInBounds_toArray, List.set_cons_zero, List.set_cons_succ]
        refine Rg.take_one 15 (by simp only [List.getElem?_toArray, List.getElem?_cons_succ, List.getElem?_cons_zero]; rfl) (by kernel_rfl) (fun K hK => ?_)
        go_simp
        go_at_call 32
        refine (HBG.out _).mono ?_
        rintro en w15 ⟨rfl, rfl⟩
        have hS15 := hS5
        go_wp2_with fail
        refine hK.out _ _ hS15 (fun hHeld15 => ?_)
        clear hK K
        try simp only [Act.put, List.setIfInBounds_toArray, List.set_cons_zero, List.set_cons_succ]
        refine wpAnyH_take (i := 16) (v := ?_) (by simp only [List.getElem?_toArray, List.getElem?_cons_succ, List.getElem?_cons_zero]; rfl) (by kernel_rfl) (by kernel_rfl) (by kernel_rfl) (by exact fun _ _ _ h => h) (Or.inl ⟨by rfl, ?_⟩) (by with_reducible exact hS15) ?_
        rotate_left
        · intro W hSw; (obtain ⟨⟨x0, x1, x2, x3, x4⟩, -⟩ := hSw); go_simp; all_goals (with_reducible rfl)
        try simp only [Act.put, List.setIfInBounds_toArray, List.set_cons_zero, List.set_cons_succ]
        refine wpAnyH_done (by kernel_rfl) ?_ _
        have HE := Lib.hid (chain HBW.out HBW.out.size hS15.2)
        clear hS hS5 hb5 hS15
        cases bg
        · have HV := Lib.hid (HNO.out rfl)
          go_wp2
          go_roundw
          case rel => exact ⟨k + 1, by omega, by go_num, HV.out, HE.out⟩
          case measure => simp [intOf]; omega
        · have HV := Lib.hid (HYES.out (by trivial) (by trivial))
          go_wp2
          refine bodyPost_ret (v := .tuple #[.int .i64 ((k : Nat) : Int), .bool true]) (by simp [results, Tryz.f13, go_sem]) rfl ?_
          rw [← HV.out]
          exact ⟨rfl, HE.out⟩
    · obtain rfl : k = nl := by omega
      have HV := Lib.hid (show none = o by rw [← HP.out]; exact (first_end (p := fun x => inB x row && x.cells.isPrefixOf (bytesN U)) (by rw [HNL.out]; exact HN.out)).symm)
      have t3 : decide ((k : Int) < (k : Int)) = false := decide_eq_false (by omega)
      go_wp2
      refine bodyPost_ret (v := .tuple #[.int .i64 0, .bool false]) (by simp [results, Tryz.f13, go_sem]) rfl ?_
      rw [← HV.out]
      exact ⟨rfl, HBW.out⟩
end Go.Proofs.YtjflefchhbihkaaGreatDoor.Ti
namespace Go.Proofs.YtjflefchhbihkaaGreatDoor.Ti
open Go.RowKit Ba Ru Ck

theorem zero_rule (w : World) : (zeroValue 58).run Tryz.prog w = .ok (.agg #[.int .i64 0, .string { data := #[] }, .string { data := #[] }, .int .i64 0, .int .i64 0]) w := by
  obtain ⟨i0, hi0, hz0, -, -⟩ := info_parts infoR
  simp [zeroValue, typeInfo, hi0, hz0]
theorem cells_apart {b : Nat} : ∀ (vs : List Value) (o : Nat) (w : World) (k : Nat), k ≠ b → (w.setCells b o vs).heap[k]? = w.heap[k]?
  | [], _, _w, _, _ => rfl
  | v :: r, o, w, k, h => (cells_apart r (o + 1) _ k h).trans (Below.heap_setCell w ⟨b, o, none⟩ v k h)
/-- 'clear(l)'. -/
theorem run_clear_rules (w : World) (ty : TypeId) (B : Nat) (v : Value) (n : Nat) (l : List Rl) (hl : l.length = n) (hown : w.ownsRow B 58 5 v n (rows cR l)) :
    ∃ w', (Builtin.clear_ #[22] ty #[v]).run Tryz.prog w = .ok (.tuple #[]) w' ∧ Below B w w' ∧ ∀ lo hi, (∀ g c, 0 < n → v = .slice (some ⟨g, 0, none⟩) n c → g < lo) → Kept w w' lo hi := by
  obtain ⟨A, c, rfl, -, -, hA⟩ := own_formR hown
  rcases Nat.eq_zero_or_pos n with h0 | h0
  · subst h0
    refine ⟨w, ?_, Below.refl _ _, fun lo hi _ => ⟨Nat.le_refl _, fun _ _ _ => rfl⟩⟩
    cases A <;> simp [Builtin.clear_, run_underlying Tryz.underlying22]
  · obtain ⟨g, rfl, hBg⟩ := hA h0
    refine ⟨_, run_clear_any w _ _ ty _ Tryz.underlying22 zero_rule g n c h0 (fun j hj => ?_) (fun j => hown.frozenAt j) ?_, below_cells hBg _ _ _, fun lo hi h => ⟨(below_cells hBg _ _ _).size, fun b h1 _ => cells_apart _ _ _ _ (fun e => by have := h g c h0 rfl; omega)⟩⟩
    · have hj : j < n * 5 := hj
      rw [hown.cellAt j hj, List.getElem?_eq_getElem (by rw [rows_length cR cR_len, hl]; exact hj)]; rfl
    · intro u hu
      unfold Builtin.zeroCells at hu
      rw [Array.toList_map, List.mem_map] at hu
      obtain ⟨i, -, rfl⟩ := hu
      have h4 : i % 5 = 0 ∨ i % 5 = 1 ∨ i % 5 = 2 ∨ i % 5 = 3 ∨ i % 5 = 4 := by omega
      show ((#[Value.int .i64 0, .string { data := #[] }, .string { data := #[] }, .int .i64 0, .int .i64 0])[i % 5]!).oneCell' = true
      rcases h4 with h | h | h | h | h <;> rw [h] <;> rfl
theorem table_zero (l : List Rl) (h : (tableR prC l).2 = 0) : tableR prC l = (0, 0) := by
  have A := (table_acc l).1 h
  have hb : badF prC [] l = none := (bad_none (pr := prC) l []).2 ⟨A.alone, A.apart, fun _ _ y hy => by cases hy⟩
  unfold tableR
  rw [hb]
  show (if 400 < l.length then ((0 : Int), 4) else if missR l ≠ [] then (0, 6) else (0, 0)) = (0, 0)
  rw [if_neg (by have := A.few; omega), if_neg (fun h => h A.all)]
end Go.Proofs.YtjflefchhbihkaaGreatDoor.Ti
namespace Go.Proofs.YtjflefchhbihkaaGreatDoor.Ti
open Go.RowKit Ba Ru Ck

set_option maxRecDepth 100000 in
set_option maxHeartbeats 4000000 in
/-- styluslaw10.TrieFinds -/
theorem finds_row (T : TLands) (l : List Rl) (A : Option Addr) (off c : Nat) (S L : ByteArray) (p row q : Int) (_hSm : S.size ≤ maxLen) (_hLm : L.size ≤ maxLen) (hp : I64 p) (hrow : I64 row) (hq : I64 q) (w : World) (hL : Laid9 w) (hcl : l.length ≤ c) (hcm : c ≤ maxLen) (hf : ∀ x ∈ l, FitR x) (hl : ReadsR off w w.heap.size (.slice A l.length c) l) :
    Calls Tryz.prog 3 #[.slice A l.length c, .string S, .string L, .int .i64 p, .int .i64 row, .int .i64 q] w fun e w' => e = .returned (.bool true) ∧ Below w.heap.size w w' := by
  have HL := Lib.hid hL
  have HV := Lib.hid hl
  have hlm : l.length ≤ maxLen := Nat.le_trans hcl hcm
  have HF := Lib.hid hf
  have HP := Lib.hid hp
  have HROW := Lib.hid hrow
  have HQ := Lib.hid hq
  clear hL hl hf hcl hcm hp hrow hq
  obtain ⟨nl, hnl⟩ : ∃ nl, l.length = nl := ⟨_, rfl⟩
  rw [hnl] at HV hlm ⊢
  have HNL := Lib.hid hnl
  clear hnl
  obtain ⟨lb, hlb⟩ : ∃ lb, long9 l = lb := ⟨_, rfl⟩
  have HLB := Lib.hid hlb
  clear hlb
  have HAW := Lib.hid (fun (W : World) hW => awake10 T W hW)
  go_enter Tryz.func3, Tryz.ntmps3
  cases lb
  case true =>
    go_wp2_with fail
    refine (long10_at _ l off (by rw [HNL.out]; exact hlm) _ _ HV.out true HLB.out).mono ?_
    rintro e w' ⟨rfl, rfl⟩
    go_wp2_with fail
    refine (HAW.out _ HL.out).mono ?_
    rintro e w' ⟨rfl, hb⟩
    go_wp2
    go_ret
    exact ⟨rfl, hb⟩
  case false =>
  obtain ⟨hl5, hl50⟩ := not_long9 HLB.out
  rw [HNL.out] at hl5
  have HFX := Lib.hid (show FitL l from fun x hx => ⟨HF.out x hx, by have := (hl50 x hx).1; omega, by have := (hl50 x hx).2; omega⟩)
  clear hl50
  go_wp2_with fail
  refine (long10_at _ l off (by rw [HNL.out]; exact hlm) _ _ HV.out false HLB.out).mono ?_
  rintro e w' ⟨rfl, rfl⟩
  by_cases ha : 500 < S.size
  · have ta : decide (500 < (S.size : Int)) = true := decide_eq_true (by omega)
    go_wp2_with fail
    refine (HAW.out _ HL.out).mono ?_
    rintro e w' ⟨rfl, hb⟩
    go_wp2
    go_ret
    exact ⟨rfl, hb⟩
  have ta : decide (500 < S.size) = false := decide_eq_false ha
  have ta2 : decide (500 < (S.size : Int)) = false := decide_eq_false (by omega)
  by_cases hb : 50 < L.size
  · have tb : decide (50 < (L.size : Int)) = true := decide_eq_true (by omega)
    go_wp2_with fail
    refine (HAW.out _ HL.out).mono ?_
    rintro e w' ⟨rfl, hb⟩
    go_wp2
    go_ret
    exact ⟨rfl, hb⟩
  have tb : decide (50 < L.size) = false := decide_eq_false hb
  have tb2 : decide (50 < (L.size : Int)) = false := decide_eq_false (by omega)
  obtain ⟨z, y, hr⟩ : ∃ z y, tableR prC l = (z, y) := ⟨_, _, rfl⟩
  have HR := Lib.hid hr
  clear hr
  go_wp2_with (at_builtin; refine wpList_append_rules _ rfl _ _ rfl (.slice (some ⟨w'.heap.size, 0, none⟩) 0 0) rfl w'.heap.size (World.ownsRow_lit w' #[] 0 (Nat.le_refl _) (by decide) rfl) (by simp) A nl c off w'.heap.size l rfl HNL.out (by omega) (HV.out.below ((Below.refl _ w').alloc (Nat.le_refl _) _)) ?_; intro v4 w4 hown4 hgrow4; have hB4 : Below w'.heap.size w' w4 := ((Below.refl _ w').alloc (Nat.le_refl _) _).grown hgrow4 (by simp) (fun j ej => by have ej : w'.heap.size = j := (by injection ej); omega); have HO4 := Lib.hid (Reads.of_own (f := cR) (n := 5) cR_len HNL.out hown4); have HC4 := Lib.hid (capsR_own hown4); have HB4 := Lib.hid hB4; have HV4 := Lib.hid ((HV.out.below hB4).mono hB4.size); have HW4 := Lib.hid hown4; clear hown4 hgrow4 hB4)
  go_wp2_with fail
  refine (T.new v4 l 0 (by rw [HNL.out]; omega) HFX.out HC4.out _ (HL.out.kept HB4.out) HO4.out).mono ?_
  rintro e w5 ⟨hb5, h5⟩
  have HB5 := Lib.hid (chain HB4.out HB4.out.size hb5)
  have HV5 := Lib.hid ((HV4.out.below hb5).mono hb5.size)
  have HO5 := Lib.hid ((HO4.out.below hb5).mono hb5.size)
  have HK5 := Lib.hid hb5
  clear hb5
  rw [HR.out] at h5
  have s3 : (z == z) = true := by simp
  have s2 : ((y : Int) == (y : Int)) = true := by simp
  rcases h5 with ⟨hy, t, rfl, his⟩ | ⟨hy, rfl⟩
  · have hy : y = 0 := hy
    subst hy
    have hz := table_zero l (by rw [HR.out])
    rw [HR.out] at hz
    obtain rfl : z = 0 := congrArg Prod.fst hz
    have HACC := Lib.hid ((table_acc l).1 (by rw [HR.out]))
    obtain ⟨⟨a, rfl⟩, -⟩ := T.ptr his
    have HIS := Lib.hid his
    have HLEN := Lib.hid (show l.length ≤ 1000 by rw [HNL.out]; omega)
    clear his hz
    obtain ⟨om, hom⟩ : ∃ o, matchN l (bytesN S) p row = o := ⟨_, rfl⟩
    obtain ⟨ow, how⟩ : ∃ o, wordN l (bytesN S) = o := ⟨_, rfl⟩
    obtain ⟨of_, hof⟩ : ∃ o, findN l q (bytesN L) = o := ⟨_, rfl⟩
    obtain ⟨sg, hsg⟩ : ∃ s, bytesOf (signC l (bytesN L)) = s := ⟨_, rfl⟩
    have HMA := Lib.hid (fun (W : World) (h1 : Laid9 W) (h2 : T.Is W (.pointer (some a)) l w4.heap.size w5.heap.size) => hom ▸ T.matchT S p row (by omega) HP.out HROW.out HLEN.out HACC.out HFX.out W h1 h2)
    have HMB := Lib.hid (fun (W : World) (h : ReadsR off W W.heap.size (.slice A nl c) l) => rmatch_any (.slice A nl c) l off S (by omega) p row (by rw [HNL.out]; omega) (fun x hx => ⟨HF.out x hx, by have := (HFX.out x hx).2.2; omega⟩) om hom W h)
    have HWA := Lib.hid (fun (W : World) (h1 : Laid9 W) (h2 : T.Is W (.pointer (some a)) l w4.heap.size w5.heap.size) => how ▸ T.word S (by omega) HLEN.out HACC.out HFX.out W h1 h2)
    have HWB := Lib.hid (fun (W : World) (h : ReadsR off W W.heap.size (.slice A nl c) l) => rword_any (.slice A nl c) l off S (by rw [HNL.out]; omega) HF.out ow how W _ h)
    have HFA := Lib.hid (fun (W : World) (h1 : Laid9 W) (h2 : T.Is W (.pointer (some a)) l w4.heap.size w5.heap.size) => hof ▸ T.find q L (by omega) HQ.out HLEN.out HACC.out HFX.out W h1 h2)
    have HFB := Lib.hid (fun (W : World) (h : ReadsR off W W.heap.size (.slice A nl c) l) => rfind_any (.slice A nl c) l off q L (by rw [HNL.out]; omega) HF.out of_ hof W _ h)
    have HSA := Lib.hid (fun (W : World) (h1 : Laid9 W) (h2 : T.Is W (.pointer (some a)) l w4.heap.size w5.heap.size) => hsg ▸ T.sign L (by omega) HLEN.out HACC.out HFX.out W h1 h2)
    have HSB := Lib.hid (fun (W : World) (h : ReadsR off W W.heap.size (.slice A nl c) l) => rsign_any (.slice A nl c) l off L (by rw [HNL.out]; omega) HF.out sg hsg W _ h)
    have HRU := Lib.hid (fun (W : World) (h1 : Laid9 W) (h2 : T.Is W (.pointer (some a)) l w4.heap.size w5.heap.size) => T.rules HLEN.out HACC.out HFX.out W h1 h2)
    obtain ⟨im, him⟩ : ∃ i, numV om = i := ⟨_, rfl⟩
    obtain ⟨bm, hbm⟩ : ∃ i, okV om = i := ⟨_, rfl⟩
    obtain ⟨iw, hiw⟩ : ∃ i, numV ow = i := ⟨_, rfl⟩
    obtain ⟨bw, hbw⟩ : ∃ i, okV ow = i := ⟨_, rfl⟩
    obtain ⟨if_, hif⟩ : ∃ i, numV of_ = i := ⟨_, rfl⟩
    obtain ⟨bf, hbf⟩ : ∃ i, okV of_ = i := ⟨_, rfl⟩
    simp only [him, hbm] at HMA HMB
    simp only [hiw, hbw] at HWA HWB
    simp only [hif, hbf] at HFA HFB
    have q1 : (im == im) = true := by simp
    have q2 : (bm == bm) = true := by simp
    have q3 : (iw == iw) = true := by simp
    have q4 : (bw == bw) = true := by simp
    have q5 : (if_ == if_) = true := by simp
    have q6 : (bf == bf) = true := by simp
    have q7 : (sg.toList == sg.toList) = true := by simp
    clear hom how hof hsg him hbm hiw hbw hif hbf
    go_wp2_with fail
    refine (rtable_any _ l off (by rw [HNL.out]; omega) HFX.out (0, 0) HR.out _ HV5.out).mono ?_
    rintro e w6 ⟨rfl, hb6⟩
    have HB6 := Lib.hid (chain HB5.out HB5.out.size hb6)
    have HV6 := Lib.hid ((HV5.out.below hb6).mono hb6.size)
    have HO6 := Lib.hid ((HO5.out.below hb6).mono hb6.size)
    have HK6 := Lib.hid (chain HK5.out HK5.out.size hb6)
    have HK6' := Lib.hid (chain (Below.refl w5.heap.size w5) (Nat.le_refl _) hb6).size
    have HIS6 := Lib.hid (T.keep HIS.out (Kept.of_below hb6 (Nat.le_refl _)))
    clear hb6
    simp only []
    go_wp2_with fail
    refine (rsame_any _ _ l 0 off (by rw [HNL.out]; omega) _ _ _ HO6.out HV6.out).mono ?_
    rintro e w7 ⟨rfl, nq, rfl⟩
    have hb7 := Ba.below_drewN (Below.refl w6.heap.size w6) nq
    have HO7 := Lib.hid (own_below HW4.out (chain HK6.out HK6.out.size hb7))
    have HB7 := Lib.hid (chain HB6.out HB6.out.size hb7)
    have HIS7 := Lib.hid (T.keep HIS6.out (Kept.of_below hb7 HK6'.out))
    generalize w6.drewN nq = w7 at HO7 HB7 HIS7 hb7 ⊢
    obtain ⟨w8, hcl, hb8, hk8⟩ : ∃ w8, (∀ ty, (Builtin.clear_ #[22] ty #[v4]).run Tryz.prog w7 = .ok (.tuple #[]) w8) ∧ Below w'.heap.size w7 w8 ∧ Kept w7 w8 w4.heap.size w5.heap.size := by
      obtain ⟨w8, h1, h2, h3⟩ := run_clear_rules w7 22 _ v4 nl l HNL.out HO7.out
      refine ⟨w8, fun ty => h1, h2, h3 _ _ fun g c4 hn e => ?_⟩
      obtain ⟨A', c', e', hA'⟩ := HO4.out
      obtain ⟨g', e1, hg', -⟩ := hA' (by rw [HNL.out]; exact hn)
      rw [e'] at e
      injection e with e2 _ _
      rw [e1] at e2
      injection e2 with e3
      injection e3 with e4 _ _
      rw [← e4]; exact hg'
    have HB8 := Lib.hid (HB7.out.trans hb8)
    have HIS8 := Lib.hid (T.keep HIS7.out hk8)
    clear hb7 hb8 hk8 HO7 HIS7 HIS6 HW4 HO4 HO5 HO6
    go_wp2_with fail
    clear hcl
    refine (HMA.out _ (HL.out.kept HB8.out) HIS8.out).mono ?_
    rintro e w9 ⟨rfl, hb⟩
    have HB9 := Lib.hid (chain HB8.out HB8.out.size hb)
    have HIS9 := Lib.hid (T.keep HIS8.out (Kept.of_below hb (T.ptr HIS8.out).2))
    clear hb
    go_wp2_with fail
    refine (HMB.out _ ((HV.out.below HB9.out).mono HB9.out.size)).mono ?_
    rintro e w10 ⟨rfl, hb⟩
    have HB10 := Lib.hid (chain HB9.out HB9.out.size hb)
    have HIS10 := Lib.hid (T.keep HIS9.out (Kept.of_below hb (T.ptr HIS9.out).2))
    clear hb
    go_wp2_with fail
    refine (HWA.out _ (HL.out.kept HB10.out) HIS10.out).mono ?_
    rintro e w11 ⟨rfl, hb⟩
    have HB11 := Lib.hid (chain HB10.out HB10.out.size hb)
    have HIS11 := Lib.hid (T.keep HIS10.out (Kept.of_below hb (T.ptr HIS10.out).2))
    clear hb
    go_wp2_with fail
    refine (HWB.out _ ((HV.out.below HB11.out).mono HB11.out.size)).mono ?_
    rintro e wx ⟨rfl, rfl⟩
    go_wp2_with fail
    refine (HFA.out _ (HL.out.kept HB11.out) HIS11.out).mono ?_
    rintro e w13 ⟨rfl, hb⟩
    have HB13 := Lib.hid (chain HB11.out HB11.out.size hb)
    have HIS13 := Lib.hid (T.keep HIS11.out (Kept.of_below hb (T.ptr HIS11.out).2))
    clear hb
    go_wp2_with fail
    refine (HFB.out _ ((HV.out.below HB13.out).mono HB13.out.size)).mono ?_
    rintro e wx ⟨rfl, rfl⟩
    go_wp2_with fail
    refine (HSA.out _ (HL.out.kept HB13.out) HIS13.out).mono ?_
    rintro e w15 ⟨rfl, hb⟩
    have HB15 := Lib.hid (chain HB13.out HB13.out.size hb)
    have HIS15 := Lib.hid (T.keep HIS13.out (Kept.of_below hb (T.ptr HIS13.out).2))
    clear hb
    go_wp2_with fail
    refine (HSB.out _ ((HV.out.below HB15.out).mono HB15.out.size)).mono ?_
    rintro e wx ⟨rfl, rfl⟩
    go_wp2_with fail
    refine (HRU.out _ (HL.out.kept HB15.out) HIS15.out).mono ?_
    rintro e w17 ⟨v17, rfl, own17, hb17⟩
    obtain ⟨w18, hcl, hb18, -⟩ := run_clear_rules w17 22 _ v17 nl l HNL.out (HNL.out ▸ own17)
    have hcl : ∀ ty, (Builtin.clear_ #[22] ty #[v17]).run Tryz.prog w17 = .ok (.tuple #[]) w18 := fun ty => hcl
    have hb18 := hb17.trans hb18
    have HB18 := Lib.hid (chain HB15.out HB15.out.size hb18)
    have HIS18 := Lib.hid (T.keep HIS15.out (Kept.of_below hb18 (T.ptr HIS15.out).2))
    clear hb17 hb18 own17
    go_wp2_with fail
    clear hcl
    refine (HRU.out _ (HL.out.kept HB18.out) HIS18.out).mono ?_
    rintro e w19 ⟨v19, rfl, own19, hb19⟩
    have HO19 := Lib.hid (Reads.of_own (f := cR) (n := 5) cR_len rfl own19)
    have HB19 := Lib.hid (chain HB18.out HB18.out.size hb19)
    clear own19 hb19
    go_wp2_with fail
    refine (rsame_any _ _ l 0 off (by rw [HNL.out]; omega) _ _ _ HO19.out ((HV.out.below HB19.out).mono HB19.out.size)).mono ?_
    rintro e w20 ⟨rfl, n20, rfl⟩
    have HB20 := Lib.hid (Ba.below_drewN HB19.out n20)
    go_wp2_with fail
    refine (HAW.out _ (HL.out.kept HB20.out)).mono ?_
    rintro e w21 ⟨rfl, hb21⟩
    have HB21 := Lib.hid (chain HB20.out HB20.out.size hb21)
    clear hb21
    go_wp2
    go_ret
    exact ⟨rfl, HB21.out⟩
  · have y1 : ((y : Int) == 0) = false := beq_eq_false_iff_ne.2 (by have : y ≠ 0 := hy; omega)
    have y2 : (y == 0) = false := beq_eq_false_iff_ne.2 hy
    have y3 : ((y : Int) != 0) = true := bne_iff_ne.2 (by have : y ≠ 0 := hy; omega)
    have hyy : y ≠ 0 := hy
    clear hy
    go_wp2_with fail
    refine (rtable_any _ l off (by rw [HNL.out]; omega) HFX.out (z, y) HR.out _ HV5.out).mono ?_
    rintro e w6 ⟨rfl, hb6⟩
    have HB6 := Lib.hid (chain HB5.out HB5.out.size hb6)
    have HV6 := Lib.hid ((HV5.out.below hb6).mono hb6.size)
    have HO6 := Lib.hid ((HO5.out.below hb6).mono hb6.size)
    clear hb6
    simp only []
    go_wp2_with fail
    refine (rsame_any _ _ l 0 off (by rw [HNL.out]; omega) _ _ _ HO6.out HV6.out).mono ?_
    rintro e w7 ⟨rfl, nq, rfl⟩
    have HB7 := Lib.hid (Ba.below_drewN HB6.out nq)
    go_wp2_with fail
    refine (HAW.out _ (HL.out.kept HB7.out)).mono ?_
    rintro e w8 ⟨rfl, hb8⟩
    have HB8 := Lib.hid (chain HB7.out HB7.out.size hb8)
    clear hb8
    go_wp2
    go_ret
    exact ⟨rfl, HB8.out⟩
end Go.Proofs.YtjflefchhbihkaaGreatDoor.Ti
