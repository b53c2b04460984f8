/-
  CheckParts, whatever it is called with.
-/
import Derived.Test.YtlibmfflgpkjmaaDoorCkO
namespace Go.Proofs.YtlibmfflgpkjmaaDoor.Ck
open Go.RowKit Ba Ru

theorem and_at (x : Int) (n : Nat) (h0 : 0 < n) : ∃ k : Nat, Int.tmod (bits .and .i64 x 65535) (n : Int) = (k : Int) ∧ k < n := by
  have h : ∃ m : Nat, bits .and .i64 x 65535 = (m : Int) := by
    refine ⟨(bits .and .i64 x 65535).toNat, ?_⟩
    have : 0 ≤ bits .and .i64 x 65535 := by
      show 0 ≤ IntKind.i64.wrap (((BitVec.ofInt 64 x &&& BitVec.ofInt 64 65535).toNat : Nat) : Int)
      rw [BitVec.toNat_and]
      have h2 : (BitVec.ofInt 64 65535).toNat = 65535 := by decide
      rw [h2]
      have h3 : (BitVec.ofInt 64 x).toNat &&& 65535 ≤ 65535 := Nat.and_le_right
      rw [IntWalk.i64_in _ ⟨by omega, by omega⟩]
      omega
    omega
  obtain ⟨m, hm⟩ := h
  exact ⟨m % n, by rw [hm]; rfl, Nat.mod_lt _ h0⟩
theorem turn_step {l : List Rl} {k : Nat} {x : Rl} (hx : l[k]? = some x) : (l.drop k).reverse = (l.drop (k + 1)).reverse ++ [x] := by
  obtain ⟨hk, e⟩ := List.getElem?_eq_some_iff.1 hx
  rw [List.drop_eq_getElem_cons hk, e, List.reverse_cons]
theorem cut_at {l : List Rl} {k : Nat} {x : Rl} (hx : l[k]? = some x) : l = l.take k ++ x :: l.drop (k + 1) := by
  obtain ⟨hk, e⟩ := List.getElem?_eq_some_iff.1 hx
  rw [← e, ← List.drop_eq_getElem_cons hk, List.take_append_drop]
theorem reads_drop {off : Nat} {w : World} {B n c : Nat} {g : Nat} {l : List Rl} (h : ReadsR off w B (.slice (some ⟨g, off, none⟩) n c) l) {k : Nat} (hk : k < n) (hn : l.length = n) : ReadsR (off + k * 5) w B (.slice (some ⟨g, off + k * 5, none⟩) (n - k) (c - k)) (l.drop k) := by
  obtain ⟨A', c', e, hA⟩ := h
  injection e with e1 e2 e3
  subst e1; subst e3
  refine ⟨_, _, by rw [List.length_drop, hn], fun _ => ?_⟩
  obtain ⟨g', hg', hg, hc⟩ := hA (by omega)
  injection hg' with hg'
  injection hg' with e4 e5 e6
  subst e4
  refine ⟨g, rfl, hg, fun j x hx u v hv => ?_⟩
  rw [List.getElem?_drop] at hx
  have := hc (k + j) x hx u v hv
  rw [show off + k * 5 + (j * 5 + u) = off + ((k + j) * 5 + u) by omega]
  exact this
/-- New cells lie in a block. -/
def NewsAt (W : World) (g : Nat) (xs : List Value) : Prop := g < W.heap.size ∧ ∀ (j : Nat) (u : Value), xs[j]? = some u → W.cell? ((⟨g, 0, none⟩ : Addr).add j) = some u
theorem add_block (g j : Nat) : ((⟨g, 0, none⟩ : Addr).add j).block = g := by unfold Addr.add; split <;> rfl
theorem NewsAt.below {W W' : World} {g B : Nat} {xs : List Value} (h : NewsAt W g xs) (hb : Below B W W') (hg : g < B) : NewsAt W' g xs :=
  ⟨Nat.lt_of_lt_of_le h.1 hb.size, fun j u hu => (hb.cell (p := (⟨g, 0, none⟩ : Addr).add j) (by rw [add_block]; exact hg)).trans (h.2 j u hu)⟩
theorem NewsAt.grown {W W' : World} {g : Nat} {xs : List Value} {row : Option Nat} (h : NewsAt W g xs) (hb : W.grownBy W' row) (hg : ∀ k, row = some k → k ≠ g) : NewsAt W' g xs :=
  ⟨Nat.lt_of_lt_of_le h.1 hb.size, fun j u hu => (World.cell?_of_block (w := W) (a := (⟨g, 0, none⟩ : Addr).add j) (by rw [add_block]; exact hb.block g h.1 (fun e => hg g e.symm rfl))).trans (h.2 j u hu)⟩
theorem NewsAt.new (w : World) (cs : Array Value) (t : TypeId) : NewsAt (w.alloc (.cells cs t)) w.heap.size cs.toList :=
  ⟨by simp, fun j u hu => World.news_of_block (cs := cs) (t := t) (fr := (0, 0)) (heap_alloc_new w _) j u hu⟩
/-- 'append(own, l...)' as one step of a region, of whatever rules. -/
theorem oper_append_more (w : World) {o : Oper} {a : Act} {K : Act → World → Prop} {Q : Exit → Act → World → Prop} (s x : Operand)
    (ho : o.op = .call { callee := .builtin .append, args := #[s, x], argTypes := #[22, 22] })
    (v0 : Value) (hs : a.eval s = v0) (B k : Nat) (xs : List Rl) (hown : w.ownsRow B 32 5 v0 k (rows cR xs)) (hB : B ≤ w.heap.size) (A : Option Addr) (n c off B' : Nat) (l : List Rl) (hx : a.eval x = .slice A n c) (hl : l.length = n) (hn : k + n ≤ 9000) (hr : ReadsR off w B' (.slice A n c) l)
    (h : ∀ v' w', w'.ownsRow B 32 5 v' (k + n) (rows cR (xs ++ l)) → w.grownBy w' v0.ownBlock → K (a.put o.dst v') w') : o.wp Tryd.prog a w K Q := by
  obtain ⟨i0, hi0, hz0, hz1, hz2⟩ := info_parts infoR
  rcases Nat.eq_zero_or_pos n with h0 | h0
  · subst h0
    have : l = [] := List.length_eq_zero_iff.1 hl
    subst this
    have ht : Tryd.prog.underlying 22 = some (.slice 32) := Tryd.underlying22
    have hrun : (Builtin.append_ #[22, 22] o.type #[v0, .slice A 0 c]).run Tryd.prog w = .ok v0 w := by
      rcases hown.2 with ⟨rfl, rfl⟩ | ⟨g, cap, cur, rfl, _, _, hnc, _⟩ <;> cases A <;>
        simp [Builtin.append_, run_underlying ht, sizeOf, typeInfo, Builtin.lenOf, Builtin.firstCells, storeCells, loadCells, loadCellsFrom, *]
    unfold Oper.wp
    simp [execOp, ho, resolve, invoke, builtin, hs, hx, hrun, Result.andThen]
    exact h v0 w (by rw [List.append_nil]; exact hown) ⟨rfl, rfl, rfl, Nat.le_refl _, fun _ _ _ => rfl⟩
  · obtain ⟨A', c', e, hA⟩ := hr
    injection e with e1 e2 e3
    subst e1
    obtain ⟨g, rfl, -, hc⟩ := hA (by omega)
    refine wp_append_own w s x _ ho B _ i0 _ 5 56 Tryd.underlying22 hi0 hz0 hz1 hz2 rfl (by decide) v0 k _ hs hown ⟨g, off, none⟩ n c (rows cR l) hx (by rw [rows_length cR cR_len, hl]) (cells_newsR hc) (rows_cellsR l) (by unfold maxLen; omega) (by omega) hB ?_
    intro v' w' h1 h2 _
    rw [← rows_append] at h1
    exact h v' w' h1 h2
theorem acc_zero {l : List Rl} (A : Acc prC l) : tableR prC l = (0, 0) := by
  have hb := (bad_none (pr := prC) l []).2 ⟨A.alone, A.apart, fun x _ y hy => (by cases hy)⟩
  unfold tableR
  rw [hb]
  show (if 400 < l.length then ((0 : Int), 4) else if missR l ≠ [] then (0, 6) else (0, 0)) = (0, 0)
  rw [if_neg (by have := A.few; omega), if_neg (fun h => h A.all)]
set_option maxRecDepth 100000 in
set_option maxHeartbeats 16000000 in
/-- styluslaw09.CheckParts -/
theorem parts_row9 (l : List Rl) (A : Option Addr) (off c : Nat) (which : Int) (w : World) (hL : Laid9 w) (hcl : l.length ≤ c) (hcm : c ≤ maxLen) (hf : ∀ x ∈ l, FitR x) (hl : ReadsR off w w.heap.size (.slice A l.length c) l) :
    Calls Tryd.prog 4 #[.slice A l.length c, .int .i64 which] w fun e w' => e = .returned (.bool true) ∧ Below w.heap.size w w' := by
  obtain ⟨i0, hi0, hz0, hz1, hz2⟩ := info_parts infoR
  have HL := Lib.hid hL
  have HV := Lib.hid hl
  have hlm : l.length ≤ maxLen := Nat.le_trans hcl hcm
  have HF := Lib.hid hf
  have HCAP := Lib.hid (show ∀ n, n ≤ c → CapsR (.slice A n c) from fun n hn A' n' c' e => by
    injection e with _ e1 e2
    subst e1; subst e2
    exact ⟨hn, hcm⟩)
  have hcm2 := hcm
  unfold maxLen at hcm2
  clear hL hl hf hcm
  obtain ⟨nl, hnl⟩ : ∃ nl, l.length = nl := ⟨_, rfl⟩
  rw [hnl] at HV hlm hcl ⊢
  have HNL := Lib.hid hnl
  clear hnl
  obtain ⟨lb, hlb⟩ : ∃ lb, long9 l = lb := ⟨_, rfl⟩
  have HLB := Lib.hid hlb
  clear hlb
  have HAW := Lib.hid (fun (W : World) hW => awake9 W hW)
  go_enter Tryd.func4, Tryd.ntmps4
  cases lb
  case true =>
    go_wp2_with fail
    refine (long9_at _ l off (by rw [HNL.out]; exact hlm) _ _ HV.out true HLB.out).mono ?_
    rintro e w' ⟨rfl, rfl⟩
    go_wp2_with fail
    refine (HAW.out _ HL.out).mono ?_
    rintro e w' ⟨rfl, hb⟩
    go_wp2
    go_ret
    exact ⟨rfl, hb⟩
  case false =>
  obtain ⟨hl5, hl50⟩ := not_long9 HLB.out
  rw [HNL.out] at hl5
  have HFX := Lib.hid (show ∀ x ∈ l, FitR x ∧ x.left.length ≤ 9000 ∧ x.cells.length ≤ 9000 from fun x hx => ⟨HF.out x hx, by have := (hl50 x hx).1; omega, by have := (hl50 x hx).2; omega⟩)
  have HL50 := Lib.hid hl50
  clear hl50
  go_wp2_with fail
  refine (long9_at _ l off (by rw [HNL.out]; exact hlm) _ _ HV.out false HLB.out).mono ?_
  rintro e w' ⟨rfl, rfl⟩
  obtain ⟨z, y, hr⟩ : ∃ z y, tableR prC l = (z, y) := ⟨_, _, rfl⟩
  have HR := Lib.hid hr
  clear hr
  go_wp2_with fail
  refine (table9_at _ l off (by rw [HNL.out]; omega) HFX.out (HCAP.out nl hcl) (z, y) HR.out _ HL.out.1 HL.out.2 HV.out).mono ?_
  rintro e w1 ⟨rfl, hb1⟩
  have HBW1 := Lib.hid hb1
  clear hb1
  by_cases hy : y = 0
  case neg =>
    have ty : ((y : Int) != 0) = true := by rw [bne, beq_eq_false_iff_ne.2 (by omega)]; rfl
    have ty2 : ((y : Int) == 0) = false := beq_eq_false_iff_ne.2 (by omega)
    go_wp2_with fail
    refine (HAW.out _ (HL.out.kept HBW1.out)).mono ?_
    rintro e w3 ⟨rfl, hb3⟩
    have HE := Lib.hid (chain HBW1.out HBW1.out.size hb3)
    clear hb3
    go_wp2
    go_ret
    exact ⟨rfl, HE.out⟩
  case pos =>
  subst hy
  have HACC := Lib.hid ((table_acc l).1 (by rw [HR.out]))
  have hn0 : 0 < nl := by
    rw [← HNL.out]
    exact List.length_pos_iff.2 (acc_ne HACC.out)
  go_wp2
  go_loopw [7, 8] (fun v i wr => ∃ k : Nat, i = .int .i64 (k : Int) ∧ k ≤ nl ∧ wr.ownsRow w1.heap.size 32 5 v (nl - k) (rows cR (l.drop k).reverse) ∧ Below w1.heap.size w1 wr) (fun _ i _ => (intOf i).toNat)
  case atStart => exact ⟨nl, rfl, Nat.le_refl _, by rw [Nat.sub_self, List.drop_of_length_le (by rw [HNL.out]; exact Nat.le_refl _)]; exact World.ownsRow_nil _ _ _ _, Below.refl _ _⟩
  case round =>
    obtain ⟨k, rfl, hk, how, hB⟩ := hrel
    by_cases hk0 : 0 < k
    · obtain ⟨j, rfl⟩ : ∃ j, k = j + 1 := ⟨k - 1, by omega⟩
      obtain ⟨x, hx⟩ : ∃ x, l[j]? = some x := ⟨_, List.getElem?_eq_getElem (by rw [HNL.out]; omega)⟩
      have HTS := Lib.hid (turn_step hx)
      obtain ⟨A', c', e, hA⟩ := HV.out
      injection e with e1 e2 e3
      subst e1; subst e3; clear e2
      obtain ⟨g, rfl, hgw, hg⟩ := hA (by rw [HNL.out]; omega)
      obtain ⟨g0, g1, g2, g3, g4⟩ := rcell hg j x hx
      have hbb := chain HBW1.out HBW1.out.size hB
      have g0 := (hbb.cell (p := ⟨g, off + j * 5, none⟩) hgw).trans g0
      have g1 := (hbb.cell (p := ⟨g, off + j * 5 + 1, none⟩) hgw).trans g1
      have g2 := (hbb.cell (p := ⟨g, off + j * 5 + 2, none⟩) hgw).trans g2
      have g3 := (hbb.cell (p := ⟨g, off + j * 5 + 3, none⟩) hgw).trans g3
      have g4 := (hbb.cell (p := ⟨g, off + j * 5 + 4, none⟩) hgw).trans g4
      have HROW := Lib.hid (show ∀ q S T p n, x.what = q ∧ bytesOf x.left = S ∧ bytesOf x.cells = T ∧ x.prio = p ∧ x.line = n → rows cR ((l.drop (j + 1)).reverse ++ [x]) = rows cR (l.drop (j + 1)).reverse ++ [.int .i64 q, .string S, .string T, .int .i64 p, .int .i64 n] from fun q S T p n h => one_row q S T p n _ x h)
      obtain ⟨m, hm⟩ : ∃ m, nl - (j + 1) = m := ⟨_, rfl⟩
      rw [hm] at how
      have hm2 : nl - j = m + 1 := by omega
      have HM2 := Lib.hid hm2
      have hm45 : m ≤ 450 := by omega
      have HOW := Lib.hid how
      have HBW := Lib.hid hB
      have HLT := Lib.hid how.lt
      have hsz := hB.size
      obtain ⟨xq, xl, xc, xp, xn⟩ := x
      obtain ⟨xs, hxs⟩ : ∃ s, bytesOf xl = s := ⟨_, rfl⟩
      obtain ⟨xt, hxt⟩ : ∃ s, bytesOf xc = s := ⟨_, rfl⟩
      have HX := Lib.hid (HROW.out xq xs xt xp xn ⟨rfl, hxs, hxt, rfl, rfl⟩)
      simp only [] at g0 g1 g2 g3 g4
      rw [hxs] at g1
      rw [hxt] at g2
      have j0 : (0 : Int) ≤ (j : Int) := by omega
      have j1 : (j : Int) < (nl : Int) := by omega
      obtain ⟨A8, c8, rfl, -, -, -⟩ := own_formR how
      clear hx hg hA hxs hxt hm how hB HROW hbb hm2 hgw
      go_wp2_with (at_builtin; refine wpList_append_own _ rfl _ _ 22 rfl w1.heap.size 32 i0 _ 5 56 Tryd.underlying22 hi0 hz0 hz1 hz2 rfl (by decide) _ _ _ rfl (HOW.out.alloc _) ⟨wr.heap.size, 0, none⟩ 1 1 [.int .i64 xq, .string xs, .string xt, .int .i64 xp, .int .i64 xn] rfl rfl (World.news_of_block (cs := #[.int .i64 xq, .string xs, .string xt, .int .i64 xp, .int .i64 xn]) (t := 32) (fr := (0, 0)) (heap_alloc_new wr _)) (by simp [Value.oneCell']) (by unfold maxLen; omega) (by omega) (by simp; omega) ?_; intro v' w8 hown' hgrow _; have HFF := Lib.hid (show w8.ownsRow w1.heap.size 32 5 v' (nl - j) (rows cR (l.drop j).reverse) ∧ Below w1.heap.size w1 w8 from ⟨by rw [HTS.out, HX.out, HM2.out]; exact hown', (HBW.out.alloc hsz _).grown hgrow (by simp; omega) (fun j ej => (HLT.out j ej).1)⟩); clear hown' hgrow)
      go_roundw
      case rel => exact ⟨j, by go_num, by omega, HFF.out.1, HFF.out.2⟩
      case measure => simp [intOf]
    · have HE := Lib.hid (show wr.ownsRow w1.heap.size 32 5 u7 nl (rows cR l.reverse) from by
        obtain rfl : k = 0 := by omega
        exact how)
      have HBW := Lib.hid (chain HBW1.out HBW1.out.size hB)
      have tk : decide ((0 : Int) < (k : Int)) = false := decide_eq_false (by omega)
      have tk2 : decide (0 < k) = false := decide_eq_false hk0
      have HRT := Lib.hid (Reads.of_own (f := cR) (n := 5) cR_len (by rw [List.length_reverse]; exact HNL.out) HE.out)
      have HCT := Lib.hid (capsR_own HE.out)
      have HTT := Lib.hid (acc_zero (acc_turn HACC.out))
      clear how hB
      go_wp2_with fail
      refine (table9_at _ l.reverse 0 (by rw [List.length_reverse, HNL.out]; omega) (fun x hx => HFX.out x (List.mem_reverse.1 hx)) HCT.out (0, 0) HTT.out _ (HL.out.kept HBW.out).1 (HL.out.kept HBW.out).2 HRT.out).mono ?_
      rintro e w2 ⟨rfl, hb2⟩
      have HB2 := Lib.hid (chain HBW.out HBW.out.size hb2)
      clear hb2 HE HBW HBW1 HRT HCT HTT
      have tn0 : ((nl : Int) == 0) = false := beq_eq_false_iff_ne.2 (by omega)
      obtain ⟨k9, hk9, hk9n⟩ := and_at which nl hn0
      go_upto_region 15 with fail
      obtain ⟨x, hx⟩ : ∃ x, l[k9]? = some x := ⟨_, List.getElem?_eq_getElem (by rw [HNL.out]; exact hk9n)⟩
      obtain ⟨A', c', e, hA⟩ := HV.out
      injection e with e1 e2 e3
      subst e1; subst e3; clear e2
      obtain ⟨g, rfl, hgw, hg⟩ := hA (by rw [HNL.out]; omega)
      clear hA
      have q0 : (0 : Int) ≤ (k9 : Int) := by omega
      have q1 : (k9 : Int) < (nl : Int) := by omega
      have q2 : (k9 : Int) ≤ (c : Int) := by omega
      have q3 : (k9 : Int) + 1 ≤ (nl : Int) := by omega
      have HWR := Lib.hid (show IntKind.i64.wrap ((k9 : Int) + 1) = (k9 : Int) + 1 from IntWalk.i64_in _ ⟨by omega, by omega⟩)
      have HTN := Lib.hid (show ((k9 : Int) + 1).toNat = k9 + 1 by omega)
      obtain ⟨A8, hA8⟩ : ∃ A8 : Option Addr, A8 = if c = k9 + 1 then some ⟨g, off, none⟩ else some ⟨g, off + (k9 + 1) * 5, none⟩ := ⟨_, rfl⟩
      have HA8 := Lib.hid hA8
      have HD8 := Lib.hid (show ∀ W : World, Below w'.heap.size w' W → ReadsR (off + (k9 + 1) * 5) W W.heap.size (.slice A8 (nl - (k9 + 1)) (c - (k9 + 1))) (l.drop (k9 + 1)) from fun W hW => by
        have hr := (HV.out.below hW).mono hW.size
        rcases Nat.lt_or_ge (k9 + 1) nl with h | h
        · have := reads_drop hr h HNL.out
          rw [hA8, if_neg (by omega)]
          exact this
        · refine ⟨_, _, by rw [List.length_drop, HNL.out], fun h0 => ?_⟩
          rw [List.length_drop, HNL.out] at h0
          omega)
      have HT8 := Lib.hid (show ∀ W : World, Below w'.heap.size w' W → ReadsR off W W.heap.size (.slice (some ⟨g, off, none⟩) k9 c) (l.take k9) from fun W hW => reads_take ((HV.out.below hW).mono hW.size) (by rw [HNL.out]; omega))
      clear hA8
      go_cut [12] (fun u12 wx => ∃ (A7 : Option Addr) (c7 : Nat), u12 = .slice A7 (nl - 1) c7 ∧ wx.ownsRow w'.heap.size 32 5 (.slice A7 (nl - 1) c7) (nl - 1) (rows cR (l.take k9 ++ l.drop (k9 + 1))) ∧ Below w'.heap.size w' wx)
      case first =>
        have hS : True := trivial
        refine wp_region_held_drew (S := fun _ => True) (by kernel_rfl) hS (fun hHeld => ?_)
        refine wpAnyH_take (i := 1) (v := ?_) (by simp only [List.getElem?_toArray, List.getElem?_cons_succ, List.getElem?_cons_zero]; rfl) (by kernel_rfl) (by kernel_rfl) (by kernel_rfl) (by exact fun _ _ _ h => h) (Or.inl ⟨by rfl, ?_⟩) (by with_reducible exact hS) ?_
        rotate_left
        · intro W hSw; skip; go_simp; all_goals (with_reducible rfl)
        try simp only [Act.put, List.setIfInBounds_toArray, List.set_cons_zero, List.set_cons_succ]
        refine wpAnyH_take (i := 2) (v := ?_) (by simp only [List.getElem?_toArray, List.getElem?_cons_succ, List.getElem?_cons_zero]; rfl) (by kernel_rfl) (by kernel_rfl) (by kernel_rfl) (by exact fun _ _ _ h => h) (Or.inl ⟨by rfl, ?_⟩) (by with_reducible exact hS) ?_
        rotate_left
        · intro W hSw; skip; go_simp; all_goals (with_reducible rfl)
        try simp only [Act.put, List.setIfInBounds_toArray, List.set_cons_zero, List.set_cons_succ]
        refine wpAnyH_take (i := 3) (v := ?_) (by simp only [List.getElem?_toArray, List.getElem?_cons_succ, List.getElem?_cons_zero]; rfl) (by kernel_rfl) (by kernel_rfl) (by kernel_rfl) (by exact fun _ _ _ h => h) (Or.inl ⟨by rfl, ?_⟩) (by with_reducible exact hS) ?_
        rotate_left
        · intro W hSw; skip; go_simp; all_goals (with_reducible rfl)
        try simp only [Act.put, List.setIfInBounds_toArray, List.set_cons_zero, List.set_cons_succ]
        refine wpAnyH_take (i := 5) (v := ?_) (by simp only [List.getElem?_toArray, List.getElem?_cons_succ, List.getElem?_cons_zero]; rfl) (by kernel_rfl) (by kernel_rfl) (by kernel_rfl) (by exact fun _ _ _ h => h) (Or.inl ⟨by rfl, ?_⟩) (by with_reducible exact hS) ?_
        rotate_left
        · intro W hSw; skip; go_simp; all_goals (with_reducible rfl)
        try simp only [Act.put, List.setIfInBounds_toArray, List.set_cons_zero, List.set_cons_succ]
        refine wpAnyH_take (i := 6) (v := ?_) (by simp only [List.getElem?_toArray, List.getElem?_cons_succ, List.getElem?_cons_zero]; rfl) (by kernel_rfl) (by kernel_rfl) (by kernel_rfl) (by exact fun _ _ _ h => h) (Or.inl ⟨by rfl, ?_⟩) (by with_reducible exact hS) ?_
        rotate_left
        · intro W hSw; skip; go_simp; all_goals (with_reducible rfl)
        try simp only [Act.put, List.setIfInBounds_toArray, List.set_cons_zero, List.set_cons_succ]
        refine Rg.take_w 7 (by simp only [List.getElem?_toArray, List.getElem?_cons_succ, List.getElem?_cons_zero]; rfl) (by kernel_rfl) (by kernel_rfl) (by kernel_rfl) (.int .i64 ((k9 : Int) + 1)) (by exact fun _ _ _ h => h) (by rfl) (by intro W hSw; skip; go_simp; rw [HWR.out]) (by with_reducible exact hS) ?_
        try simp only [Act.put, List.setIfInBounds_toArray, List.set_cons_zero, List.set_cons_succ]
        refine Rg.take_w 8 (by simp only [List.getElem?_toArray, List.getElem?_cons_succ, List.getElem?_cons_zero]; rfl) (by kernel_rfl) (by kernel_rfl) (by kernel_rfl) (.slice A8 (nl - (k9 + 1)) (c - (k9 + 1))) (by exact fun _ _ _ h => h) (by rfl) (by intro W hSw; skip; go_simp; rw [HA8.out, if_pos (show (0 : Int) ≤ (k9 : Int) + 1 by omega)]) (by with_reducible exact hS) ?_
        try simp only [Act.put, List.setIfInBounds_toArray, List.set_cons_zero, List.set_cons_succ]
        refine Rg.take_one 0 (by simp only [List.getElem?_toArray, List.getElem?_cons_zero]; rfl) (by kernel_rfl) (fun K hK => ?_)
        go_simp
        have own5 := own_below (World.ownsRow_lit (base := w'.heap.size) (e := 32) (size := 5) w2 #[] 0 HB2.out.size (by decide) rfl) (Below.refl _ _).drew
        have hB5 := (HB2.out.alloc HB2.out.size (.cells #[] 32)).drew
        refine hK.out _ _ trivial (fun hH0 => ?_)
        clear hK K
        try simp only [Act.put, List.setIfInBounds_toArray, List.set_cons_zero, List.set_cons_succ]
        generalize (w2.alloc _).drew = w5 at own5 hB5 ⊢
        have hLT5 := own5.lt
        refine Rg.take_one 4 (by simp only [List.getElem?_toArray, List.getElem?_cons_succ, List.getElem?_cons_zero]; rfl) (by kernel_rfl) (fun K hK => ?_)
        rw [if_pos (by rfl)]
        refine oper_append_more w5 _ _ rfl _ rfl w'.heap.size 0 [] own5 hB5.size _ k9 c off _ (l.take k9) rfl (by rw [List.length_take, HNL.out]; omega) (by omega) (HT8.out _ hB5) ?_
        intro v6 w6 own6 hg6
        have hB6 := hB5.grown hg6 hB5.size (fun j ej => (hLT5 j ej).1)
        rw [Nat.zero_add, List.nil_append] at own6
        obtain ⟨A6, c6, rfl, -, -, -⟩ := own_formR own6
        refine hK.out _ _ trivial (fun hH4 => ?_)
        clear hK K hg6
        try simp only [Act.put, List.setIfInBounds_toArray, List.set_cons_zero, List.set_cons_succ]
        have hLT6 := own6.lt
        refine Rg.take_one 9 (by simp only [List.getElem?_toArray, List.getElem?_cons_succ, List.getElem?_cons_zero]; rfl) (by kernel_rfl) (fun K hK => ?_)
        rw [if_pos (by rfl)]
        refine oper_append_more w6 _ _ rfl _ rfl w'.heap.size k9 _ own6 hB6.size A8 (nl - (k9 + 1)) (c - (k9 + 1)) (off + (k9 + 1) * 5) _ (l.drop (k9 + 1)) rfl (by rw [List.length_drop, HNL.out]) (by omega) (HD8.out _ hB6) ?_
        intro v7 w7 own7 hg7
        have hB7 := hB6.grown hg7 hB6.size (fun j ej => (hLT6 j ej).1)
        rw [show k9 + (nl - (k9 + 1)) = nl - 1 by omega] at own7
        obtain ⟨A7, c7, rfl, -, -, -⟩ := own_formR own7
        refine hK.out _ _ trivial (fun hH9 => ?_)
        clear hK K hg7
        try simp only [Act.put, List.setIfInBounds_toArray, List.set_cons_zero, List.set_cons_succ]
        refine wpAnyH_take (i := 10) (v := ?_) (by simp only [List.getElem?_toArray, List.getElem?_cons_succ, List.getElem?_cons_zero]; rfl) (by kernel_rfl) (by kernel_rfl) (by kernel_rfl) (by exact fun _ _ _ h => h) (Or.inl ⟨by rfl, ?_⟩) (by with_reducible exact trivial) ?_
        rotate_left
        · intro W hSw; skip; go_simp; all_goals (with_reducible rfl)
        try simp only [Act.put, List.setIfInBounds_toArray, List.set_cons_zero, List.set_cons_succ]
        refine wpAnyH_done (by kernel_rfl) ?_ _
        have HE7 := Lib.hid own7
        have HB7 := Lib.hid hB7
        clear own5 hB5 own6 hB6 own7 hB7 hLT5 hLT6
        go_wp2
        go_meet
        exact ⟨A7, c7, rfl, HE7.out, HB7.out⟩
      case rest =>
      obtain ⟨A7, c7, rfl, own7, hB7⟩ := hcut
      have HB7 := Lib.hid hB7
      have HR7 := Lib.hid (Reads.of_own (f := cR) (n := 5) cR_len (by rw [List.length_append, List.length_take, List.length_drop, HNL.out]; omega) own7)
      have HC7 := Lib.hid (capsR_own own7)
      obtain ⟨g0, g1, g2, g3, g4⟩ := rcell hg k9 x hx
      have HGC := Lib.hid (show ∀ W : World, Below w'.heap.size w' W → W.cell? ⟨g, off + k9 * 5, none⟩ = some (.int .i64 x.what) ∧ W.cell? ⟨g, off + k9 * 5 + 1, none⟩ = some (.string (bytesOf x.left)) ∧ W.cell? ⟨g, off + k9 * 5 + 2, none⟩ = some (.string (bytesOf x.cells)) ∧ W.cell? ⟨g, off + k9 * 5 + 3, none⟩ = some (.int .i64 x.prio) ∧ W.cell? ⟨g, off + k9 * 5 + 4, none⟩ = some (.int .i64 x.line) from fun W hW =>
        ⟨(hW.cell (p := ⟨g, off + k9 * 5, none⟩) hgw).trans g0, (hW.cell (p := ⟨g, off + k9 * 5 + 1, none⟩) hgw).trans g1, (hW.cell (p := ⟨g, off + k9 * 5 + 2, none⟩) hgw).trans g2, (hW.cell (p := ⟨g, off + k9 * 5 + 3, none⟩) hgw).trans g3, (hW.cell (p := ⟨g, off + k9 * 5 + 4, none⟩) hgw).trans g4⟩)
      obtain ⟨L7, hL7⟩ : ∃ L, l.take k9 ++ l.drop (k9 + 1) = L := ⟨_, rfl⟩
      have HACX := Lib.hid (acc_less (pr := prC) (a := l.take k9) (b := l.drop (k9 + 1)) (x := x) (by rw [← cut_at hx]; exact HACC.out))
      have HTW := Lib.hid (acc_twice HACC.out (List.mem_of_getElem? hx))
      have hxm := List.mem_of_getElem? hx
      have HLF := Lib.hid (show ∀ y ∈ L7, y ∈ l from fun y hy => by
        rw [← hL7] at hy
        rcases List.mem_append.1 hy with hy | hy
        · exact List.mem_of_mem_take hy
        · exact List.mem_of_mem_drop hy)
      have HLL := Lib.hid (show L7.length = nl - 1 from by rw [← hL7, List.length_append, List.length_take, List.length_drop, HNL.out]; omega)
      rw [hL7] at HR7 HACX
      obtain ⟨z7, y7, ht7⟩ : ∃ z y, tableR prC L7 = (z, y) := ⟨_, _, rfl⟩
      obtain ⟨wd, hwd⟩ : ∃ b, wantedB x = b := ⟨_, rfl⟩
      have HXF := Lib.hid (HF.out x hxm)
      have HX50 := Lib.hid (HL50.out x hxm)
      rw [hwd] at HACX
      have HWD := Lib.hid hwd
      have HT7 := Lib.hid ht7
      have HXM := Lib.hid hxm
      clear hg hx hwd ht7 hL7 own7 hB7 g0 g1 g2 g3 g4 hxm
      go_wp2_with fail
      refine (table9_at _ L7 0 (by rw [HLL.out]; omega) (fun y hy => HFX.out y (HLF.out y hy)) HC7.out (z7, y7) HT7.out _ (HL.out.kept HB7.out).1 (HL.out.kept HB7.out).2 HR7.out).mono ?_
      rintro e w8 ⟨rfl, hb8⟩
      have HB8 := Lib.hid (chain HB7.out HB7.out.size hb8)
      have HR8 := Lib.hid ((HR7.out.below hb8).mono hb8.size)
      clear hb8 HR7 HB7
      obtain ⟨g0, g1, g2, g3, g4⟩ := HGC.out _ HB8.out
      obtain ⟨xq, xl, xc, xp, xn⟩ := x
      obtain ⟨xs, hxs⟩ : ∃ s, bytesOf xl = s := ⟨_, rfl⟩
      obtain ⟨xt, hxt⟩ : ∃ s, bytesOf xc = s := ⟨_, rfl⟩
      have hxsz : xl.length = xs.size := by rw [← hxs, bytesOf_size]
      have hxs50 : xs.size ≤ 50 := by rw [← hxsz]; exact HX50.out.1
      have HWV := Lib.hid (show decide (6 ≤ xq ∨ xq = 1 ∧ xs.size = 1) = wd from by rw [← hxsz]; exact HWD.out)
      have HXS := Lib.hid hxs
      simp only [] at g0 g1 g2 g3 g4
      rw [hxs] at g1
      rw [hxt] at g2
      have HXT := Lib.hid hxt
      clear hxs hxt hxsz HGC
      go_upto_region 18 with fail
      have hbx := BoxS.new w8 xq xs xt xp xn 32
      have hba := HB8.out.alloc HB8.out.size (.cells #[.int .i64 xq, .string xs, .string xt, .int .i64 xp, .int .i64 xn] 32)
      have hra := (HR8.out.below ((Below.refl w8.heap.size w8).alloc (Nat.le_refl _) (.cells #[.int .i64 xq, .string xs, .string xt, .int .i64 xp, .int .i64 xn] 32))).mono ((Below.refl w8.heap.size w8).alloc (Nat.le_refl _) (.cells #[.int .i64 xq, .string xs, .string xt, .int .i64 xp, .int .i64 xn] 32)).size
      generalize w8.alloc _ = wa at hbx hba hra ⊢
      obtain ⟨bx, hbxe⟩ : ∃ n, w8.heap.size = n := ⟨_, rfl⟩
      rw [hbxe] at hbx ⊢
      have HBX := Lib.hid hbx
      have HBA := Lib.hid hba
      have HRA := Lib.hid hra
      clear hbx hba hra hbxe g0 g1 g2 g3 g4 HR8 HB8
      go_cut [16] (fun u16 wx => u16 = .bool wd ∧ ∃ w9, w9 = wx ∧ BoxS w9 bx xq xs xt xp xn ∧ Below w'.heap.size w' w9 ∧ ReadsR 0 w9 w9.heap.size (.slice A7 (nl - 1) c7) L7)
      case first =>
        obtain ⟨x0, x1, x2, x3, x4, x5⟩ := HBX.out
        by_cases h6 : 6 ≤ xq
        · have t6 : decide ((6 : Int) ≤ xq) = true := decide_eq_true h6
          have HE := Lib.hid (show true = wd from by rw [← HWV.out, decide_eq_true (.inl h6)])
          go_wp2
          go_meet
          exact ⟨by rw [HE.out], _, rfl, HBX.out, HBA.out, HRA.out⟩
        · have t6 : decide ((6 : Int) ≤ xq) = false := decide_eq_false h6
          by_cases h1 : xq = 1
          · by_cases hs : xs.size = 1
            · have HE := Lib.hid (show true = wd from by rw [← HWV.out, decide_eq_true (.inr ⟨h1, hs⟩)])
              have ts : ((xs.size : Int) == 1) = true := by rw [beq_iff_eq]; omega
              subst h1
              clear hs
              go_wp2
              go_meet
              exact ⟨by rw [HE.out], _, rfl, HBX.out, HBA.out, HRA.out⟩
            · have HE := Lib.hid (show false = wd from by rw [← HWV.out, decide_eq_false (fun h => h.elim h6 fun h => hs h.2)])
              have ts : ((xs.size : Int) == 1) = false := beq_eq_false_iff_ne.2 (by omega)
              subst h1
              clear hs
              go_wp2
              go_meet
              exact ⟨by rw [HE.out], _, rfl, HBX.out, HBA.out, HRA.out⟩
          · have HE := Lib.hid (show false = wd from by rw [← HWV.out, decide_eq_false (fun h => h.elim h6 fun h => h1 h.1)])
            have t1 : (xq == 1) = false := beq_eq_false_iff_ne.2 h1
            clear h1
            go_wp2
            go_meet
            exact ⟨by rw [HE.out], _, rfl, HBX.out, HBA.out, HRA.out⟩
      case rest =>
      obtain ⟨rfl, w9, hw9, hbx, hba, hra⟩ := hcut
      subst hw9
      clear HBX HBA HRA
      have HBX := Lib.hid hbx
      have HBA := Lib.hid hba
      have HRA := Lib.hid hra
      clear hbx hba hra
      go_upto_region 19 with fail
      go_cut [117] (fun u117 wx => u117 = .bool false ∧ ∃ w10, w10 = wx ∧ BoxS w10 bx xq xs xt xp xn ∧ Below w'.heap.size w' w10)
      case first =>
        have KEEP := Lib.hid (show ∀ W W' : World, (BoxS W bx xq xs xt xp xn ∧ Below w'.heap.size w' W ∧ Below w9.heap.size w9 W) → Below W.heap.size W W' → BoxS W' bx xq xs xt xp xn ∧ Below w'.heap.size w' W' ∧ Below w9.heap.size w9 W' from fun W W' h hb => ⟨h.1.kept hb, chain h.2.1 h.2.1.size hb, chain h.2.2 h.2.2.size hb⟩)
        cases wd
        case false =>
          have hE := HACX.out
          rw [if_neg Bool.false_ne_true, HT7.out] at hE
          obtain ⟨rfl, rfl⟩ : z7 = 0 ∧ y7 = 0 := by cases hE; exact ⟨rfl, rfl⟩
          clear hE
          have hS := (KEEP.out _ _ ⟨HBX.out, HBA.out, Below.refl _ _⟩ (Below.refl _ _).drew : BoxS w9.drew bx xq xs xt xp xn ∧ Below w'.heap.size w' w9.drew ∧ Below w9.heap.size w9 w9.drew)
          refine wp_region_held_drew (S := fun W => BoxS W bx xq xs xt xp xn ∧ Below w'.heap.size w' W ∧ Below w9.heap.size w9 W) (by kernel_rfl) hS (fun hHeld => ?_)
          refine wpAnyH_take (i := 0) (v := ?_) (by simp only [List.getElem?_toArray, List.getElem?_cons_zero]; rfl) (by kernel_rfl) (by kernel_rfl) (by kernel_rfl) (by exact fun _ _ _ h => h) (Or.inl ⟨by rfl, ?_⟩) (by with_reducible exact hS) ?_
          rotate_left
          · intro W hSw; (obtain ⟨⟨x0, x1, x2, x3, x4, x5⟩, -, -⟩ := hSw); go_simp; all_goals (with_reducible rfl)
          try simp only [Act.put, List.setIfInBounds_toArray, List.set_cons_zero, List.set_cons_succ]
          refine wpAnyH_take (i := 1) (v := ?_) (by simp only [List.getElem?_toArray, List.getElem?_cons_succ, List.getElem?_cons_zero]; rfl) (by kernel_rfl) (by kernel_rfl) (by kernel_rfl) (by exact fun _ _ _ h => h) (Or.inl ⟨by rfl, ?_⟩) (by with_reducible exact hS) ?_
          rotate_left
          · intro W hSw; (obtain ⟨⟨x0, x1, x2, x3, x4, x5⟩, -, -⟩ := hSw); go_simp; all_goals (with_reducible rfl)
          try simp only [Act.put, List.setIfInBounds_toArray, List.set_cons_zero, List.set_cons_succ]
          refine Rg.take_un 2 (by simp only [List.getElem?_toArray, List.getElem?_cons_succ, List.getElem?_cons_zero]; rfl) (by kernel_rfl) (by kernel_rfl) (by kernel_rfl) (by exact fun _ _ _ h => h) (by rfl) (by with_reducible exact hS) ?_
          try simp only [Act.put, List.setIfInBounds_toArray, List.set_cons_zero, List.set_cons_succ]
          refine Rg.take_un 3 (by simp only [List.getElem?_toArray, List.getElem?_cons_succ, List.getElem?_cons_zero]; rfl) (by kernel_rfl) (by kernel_rfl) (by kernel_rfl) (by exact fun _ _ _ h => h) (by rfl) (by with_reducible exact hS) ?_
          try simp only [Act.put, List.setIfInBounds_toArray, List.set_cons_zero, List.set_cons_succ]
          refine Rg.take_un 4 (by simp only [List.getElem?_toArray, List.getElem?_cons_succ, List.getElem?_cons_zero]; rfl) (by kernel_rfl) (by kernel_rfl) (by kernel_rfl) (by exact fun _ _ _ h => h) (by rfl) (by with_reducible exact hS) ?_
          try simp only [Act.put, List.setIfInBounds_toArray, List.set_cons_zero, List.set_cons_succ]
          refine Rg.take_un 5 (by simp only [List.getElem?_toArray, List.getElem?_cons_succ, List.getElem?_cons_zero]; rfl) (by kernel_rfl) (by kernel_rfl) (by kernel_rfl) (by exact fun _ _ _ h => h) (by rfl) (by with_reducible exact hS) ?_
          try simp only [Act.put, List.setIfInBounds_toArray, List.set_cons_zero, List.set_cons_succ]
          refine Rg.take_un 6 (by simp only [List.getElem?_toArray, List.getElem?_cons_succ, List.getElem?_cons_zero]; rfl) (by kernel_rfl) (by kernel_rfl) (by kernel_rfl) (by exact fun _ _ _ h => h) (by rfl) (by with_reducible exact hS) ?_
          try simp only [Act.put, List.setIfInBounds_toArray, List.set_cons_zero, List.set_cons_succ]
          refine Rg.take_un 7 (by simp only [List.getElem?_toArray, List.getElem?_cons_succ, List.getElem?_cons_zero]; rfl) (by kernel_rfl) (by kernel_rfl) (by kernel_rfl) (by exact fun _ _ _ h => h) (by rfl) (by with_reducible exact hS) ?_
          try simp only [Act.put, List.setIfInBounds_toArray, List.set_cons_zero, List.set_cons_succ]
          refine Rg.take_un 8 (by simp only [List.getElem?_toArray, List.getElem?_cons_succ, List.getElem?_cons_zero]; rfl) (by kernel_rfl) (by kernel_rfl) (by kernel_rfl) (by exact fun _ _ _ h => h) (by rfl) (by with_reducible exact hS) ?_
          try simp only [Act.put, List.setIfInBounds_toArray, List.set_cons_zero, List.set_cons_succ]
          refine Rg.take_un 9 (by simp only [List.getElem?_toArray, List.getElem?_cons_succ, List.getElem?_cons_zero]; rfl) (by kernel_rfl) (by kernel_rfl) (by kernel_rfl) (by exact fun _ _ _ h => h) (by rfl) (by with_reducible exact hS) ?_
          try simp only [Act.put, List.setIfInBounds_toArray, List.set_cons_zero, List.set_cons_succ]
          refine Rg.take_un 10 (by simp only [List.getElem?_toArray, List.getElem?_cons_succ, List.getElem?_cons_zero]; rfl) (by kernel_rfl) (by kernel_rfl) (by kernel_rfl) (by exact fun _ _ _ h => h) (by rfl) (by with_reducible exact hS) ?_
          try simp only [Act.put, List.setIfInBounds_toArray, List.set_cons_zero, List.set_cons_succ]
          refine Rg.take_un 11 (by simp only [List.getElem?_toArray, List.getElem?_cons_succ, List.getElem?_cons_zero]; rfl) (by kernel_rfl) (by kernel_rfl) (by kernel_rfl) (by exact fun _ _ _ h => h) (by rfl) (by with_reducible exact hS) ?_
          try simp only [Act.put, List.setIfInBounds_toArray, List.set_cons_zero, List.set_cons_succ]
          refine Rg.take_un 12 (by simp only [List.getElem?_toArray, List.getElem?_cons_succ, List.getElem?_cons_zero]; rfl) (by kernel_rfl) (by kernel_rfl) (by kernel_rfl) (by exact fun _ _ _ h => h) (by rfl) (by with_reducible exact hS) ?_
          try simp only [Act.put, List.setIfInBounds_toArray, List.set_cons_zero, List.set_cons_succ]
          refine Rg.take_un 13 (by simp only [List.getElem?_toArray, List.getElem?_cons_succ, List.getElem?_cons_zero]; rfl) (by kernel_rfl) (by kernel_rfl) (by kernel_rfl) (by exact fun _ _ _ h => h) (by rfl) (by with_reducible exact hS) ?_
          try simp only [Act.put, List.setIfInBounds_toArray, List.set_cons_zero, List.set_cons_succ]
          refine Rg.take_un 14 (by simp only [List.getElem?_toArray, List.getElem?_cons_succ, List.getElem?_cons_zero]; rfl) (by kernel_rfl) (by kernel_rfl) (by kernel_rfl) (by exact fun _ _ _ h => h) (by rfl) (by with_reducible exact hS) ?_
          try simp only [Act.put, List.setIfInBounds_toArray, List.set_cons_zero, List.set_cons_succ]
          refine wpAnyH_take (i := 15) (v := ?_) (by simp only [List.getElem?_toArray, List.getElem?_cons_succ, List.getElem?_cons_zero]; rfl) (by kernel_rfl) (by kernel_rfl) (by kernel_rfl) (by exact fun _ _ _ h => h) (Or.inl ⟨by rfl, ?_⟩) (by with_reducible exact hS) ?_
          rotate_left
          · intro W hSw; (obtain ⟨⟨x0, x1, x2, x3, x4, x5⟩, -, -⟩ := hSw); go_simp; all_goals (with_reducible rfl)
          try simp only [Act.put, List.setIfInBounds_toArray, List.set_cons_zero, List.set_cons_succ]
          refine wpAnyH_take (i := 16) (v := ?_) (by simp only [List.getElem?_toArray, List.getElem?_cons_succ, List.getElem?_cons_zero]; rfl) (by kernel_rfl) (by kernel_rfl) (by kernel_rfl) (by exact fun _ _ _ h => h) (Or.inl ⟨by rfl, ?_⟩) (by with_reducible exact hS) ?_
          rotate_left
          · intro W hSw; (obtain ⟨⟨x0, x1, x2, x3, x4, x5⟩, -, -⟩ := hSw); go_simp; all_goals (with_reducible rfl)
          try simp only [Act.put, List.setIfInBounds_toArray, List.set_cons_zero, List.set_cons_succ]
          refine wpAnyH_take (i := 17) (v := ?_) (by simp only [List.getElem?_toArray, List.getElem?_cons_succ, List.getElem?_cons_zero]; rfl) (by kernel_rfl) (by kernel_rfl) (by kernel_rfl) (by exact fun _ _ _ h => h) (Or.inl ⟨by rfl, ?_⟩) (by with_reducible exact hS) ?_
          rotate_left
          · intro W hSw; (obtain ⟨⟨x0, x1, x2, x3, x4, x5⟩, -, -⟩ := hSw); go_simp; all_goals (with_reducible rfl)
          try simp only [Act.put, List.setIfInBounds_toArray, List.set_cons_zero, List.set_cons_succ]
          refine wpAnyH_take (i := 18) (v := ?_) (by simp only [List.getElem?_toArray, List.getElem?_cons_succ, List.getElem?_cons_zero]; rfl) (by kernel_rfl) (by kernel_rfl) (by kernel_rfl) (by exact fun _ _ _ h => h) (Or.inl ⟨by rfl, ?_⟩) (by with_reducible exact hS) ?_
          rotate_left
          · intro W hSw; (obtain ⟨⟨x0, x1, x2, x3, x4, x5⟩, -, -⟩ := hSw); go_simp; all_goals (with_reducible rfl)
          try simp only [Act.put, List.setIfInBounds_toArray, List.set_cons_zero, List.set_cons_succ]
          refine wpAnyH_take (i := 19) (v := ?_) (by simp only [List.getElem?_toArray, List.getElem?_cons_succ, List.getElem?_cons_zero]; rfl) (by kernel_rfl) (by kernel_rfl) (by kernel_rfl) (by exact fun _ _ _ h => h) (Or.inl ⟨by rfl, ?_⟩) (by with_reducible exact hS) ?_
          rotate_left
          · intro W hSw; (obtain ⟨⟨x0, x1, x2, x3, x4, x5⟩, -, -⟩ := hSw); go_simp; all_goals (with_reducible rfl)
          try simp only [Act.put, List.setIfInBounds_toArray, List.set_cons_zero, List.set_cons_succ]
          refine wpAnyH_take (i := 20) (v := ?_) (by simp only [List.getElem?_toArray, List.getElem?_cons_succ, List.getElem?_cons_zero]; rfl) (by kernel_rfl) (by kernel_rfl) (by kernel_rfl) (by exact fun _ _ _ h => h) (Or.inl ⟨by rfl, ?_⟩) (by with_reducible exact hS) ?_
          rotate_left
          · intro W hSw; (obtain ⟨⟨x0, x1, x2, x3, x4, x5⟩, -, -⟩ := hSw); go_simp; all_goals (with_reducible rfl)
          try simp only [Act.put, List.setIfInBounds_toArray, List.set_cons_zero, List.set_cons_succ]
          refine wpAnyH_take (i := 21) (v := ?_) (by simp only [List.getElem?_toArray, List.getElem?_cons_succ, List.getElem?_cons_zero]; rfl) (by kernel_rfl) (by kernel_rfl) (by kernel_rfl) (by exact fun _ _ _ h => h) (Or.inl ⟨by rfl, ?_⟩) (by with_reducible exact hS) ?_
          rotate_left
          · intro W hSw; (obtain ⟨⟨x0, x1, x2, x3, x4, x5⟩, -, -⟩ := hSw); go_simp; all_goals (with_reducible rfl)
          try simp only [Act.put, List.setIfInBounds_toArray, List.set_cons_zero, List.set_cons_succ]
          refine wpAnyH_take (i := 22) (v := ?_) (by simp only [List.getElem?_toArray, List.getElem?_cons_succ, List.getElem?_cons_zero]; rfl) (by kernel_rfl) (by kernel_rfl) (by kernel_rfl) (by exact fun _ _ _ h => h) (Or.inl ⟨by rfl, ?_⟩) (by with_reducible exact hS) ?_
          rotate_left
          · intro W hSw; (obtain ⟨⟨x0, x1, x2, x3, x4, x5⟩, -, -⟩ := hSw); go_simp; all_goals (with_reducible rfl)
          try simp only [Act.put, List.setIfInBounds_toArray, List.set_cons_zero, List.set_cons_succ]
          refine wpAnyH_take (i := 23) (v := ?_) (by simp only [List.getElem?_toArray, List.getElem?_cons_succ, List.getElem?_cons_zero]; rfl) (by kernel_rfl) (by kernel_rfl) (by kernel_rfl) (by exact fun _ _ _ h => h) (Or.inl ⟨by rfl, ?_⟩) (by with_reducible exact hS) ?_
          rotate_left
          · intro W hSw; (obtain ⟨⟨x0, x1, x2, x3, x4, x5⟩, -, -⟩ := hSw); go_simp; all_goals (with_reducible rfl)
          try simp only [Act.put, List.setIfInBounds_toArray, List.set_cons_zero, List.set_cons_succ]
          refine wpAnyH_done (by kernel_rfl) ?_ _
          have HE := Lib.hid hS
          go_wp2
          go_meet
          exact ⟨rfl, _, rfl, HE.out.1, HE.out.2.1⟩
        case true =>
          have hE := HACX.out
          rw [if_pos rfl, HT7.out] at hE
          obtain ⟨hE1, hE2⟩ := hE
          obtain ⟨rfl, rfl⟩ : z7 = 0 ∧ y7 = 6 := by cases hE1; exact ⟨rfl, rfl⟩
          have HMI := Lib.hid (show ∀ W : World, Below w'.heap.size w' W → Below w9.heap.size w9 W → Calls Tryd.prog 9 #[.slice A7 (nl - 1) c7] W fun e w' => e = .returned (.string xs) ∧ Below W.heap.size W w' from fun W hW hW9 => by
            rw [← HXS.out]
            exact missing9_at _ L7 0 (by rw [HLL.out]; omega) (fun y hy => HF.out y (HLF.out y hy)) _ hE2 W (HL.out.kept hW).1 ((HRA.out.below hW9).mono hW9.size))
          clear hE1 hE2
          have hS := (KEEP.out _ _ ⟨HBX.out, HBA.out, Below.refl _ _⟩ (Below.refl _ _).drew : BoxS w9.drew bx xq xs xt xp xn ∧ Below w'.heap.size w' w9.drew ∧ Below w9.heap.size w9 w9.drew)
          refine wp_region_held_drew (S := fun W => BoxS W bx xq xs xt xp xn ∧ Below w'.heap.size w' W ∧ Below w9.heap.size w9 W) (by kernel_rfl) hS (fun hHeld => ?_)
          refine wpAnyH_take (i := 0) (v := ?_) (by simp only [List.getElem?_toArray, List.getElem?_cons_zero]; rfl) (by kernel_rfl) (by kernel_rfl) (by kernel_rfl) (by exact fun _ _ _ h => h) (Or.inl ⟨by rfl, ?_⟩) (by with_reducible exact hS) ?_
          rotate_left
          · intro W hSw; (obtain ⟨⟨x0, x1, x2, x3, x4, x5⟩, -, -⟩ := hSw); go_simp; all_goals (with_reducible rfl)
          try simp only [Act.put, List.setIfInBounds_toArray, List.set_cons_zero, List.set_cons_succ]
          refine wpAnyH_take (i := 1) (v := ?_) (by simp only [List.getElem?_toArray, List.getElem?_cons_succ, List.getElem?_cons_zero]; rfl) (by kernel_rfl) (by kernel_rfl) (by kernel_rfl) (by exact fun _ _ _ h => h) (Or.inl ⟨by rfl, ?_⟩) (by with_reducible exact hS) ?_
          rotate_left
          · intro W hSw; (obtain ⟨⟨x0, x1, x2, x3, x4, x5⟩, -, -⟩ := hSw); go_simp; all_goals (with_reducible rfl)
          try simp only [Act.put, List.setIfInBounds_toArray, List.set_cons_zero, List.set_cons_succ]
          refine wpAnyH_take (i := 2) (v := ?_) (by simp only [List.getElem?_toArray, List.getElem?_cons_succ, List.getElem?_cons_zero]; rfl) (by kernel_rfl) (by kernel_rfl) (by kernel_rfl) (by exact fun _ _ _ h => h) (Or.inl ⟨by rfl, ?_⟩) (by with_reducible exact hS) ?_
          rotate_left
          · intro W hSw; (obtain ⟨⟨x0, x1, x2, x3, x4, x5⟩, -, -⟩ := hSw); go_simp; all_goals (with_reducible rfl)
          try simp only [Act.put, List.setIfInBounds_toArray, List.set_cons_zero, List.set_cons_succ]
          refine wpAnyH_take (i := 3) (v := ?_) (by simp only [List.getElem?_toArray, List.getElem?_cons_succ, List.getElem?_cons_zero]; rfl) (by kernel_rfl) (by kernel_rfl) (by kernel_rfl) (by exact fun _ _ _ h => h) (Or.inl ⟨by rfl, ?_⟩) (by with_reducible exact hS) ?_
          rotate_left
          · intro W hSw; (obtain ⟨⟨x0, x1, x2, x3, x4, x5⟩, -, -⟩ := hSw); go_simp; all_goals (with_reducible rfl)
          try simp only [Act.put, List.setIfInBounds_toArray, List.set_cons_zero, List.set_cons_succ]
          refine wpAnyH_take (i := 4) (v := ?_) (by simp only [List.getElem?_toArray, List.getElem?_cons_succ, List.getElem?_cons_zero]; rfl) (by kernel_rfl) (by kernel_rfl) (by kernel_rfl) (by exact fun _ _ _ h => h) (Or.inl ⟨by rfl, ?_⟩) (by with_reducible exact hS) ?_
          rotate_left
          · intro W hSw; (obtain ⟨⟨x0, x1, x2, x3, x4, x5⟩, -, -⟩ := hSw); go_simp; all_goals (with_reducible rfl)
          try simp only [Act.put, List.setIfInBounds_toArray, List.set_cons_zero, List.set_cons_succ]
          refine wpAnyH_take (i := 5) (v := ?_) (by simp only [List.getElem?_toArray, List.getElem?_cons_succ, List.getElem?_cons_zero]; rfl) (by kernel_rfl) (by kernel_rfl) (by kernel_rfl) (by exact fun _ _ _ h => h) (Or.inl ⟨by rfl, ?_⟩) (by with_reducible exact hS) ?_
          rotate_left
          · intro W hSw; (obtain ⟨⟨x0, x1, x2, x3, x4, x5⟩, -, -⟩ := hSw); go_simp; all_goals (with_reducible rfl)
          try simp only [Act.put, List.setIfInBounds_toArray, List.set_cons_zero, List.set_cons_succ]
          refine wpAnyH_take (i := 6) (v := ?_) (by simp only [List.getElem?_toArray, List.getElem?_cons_succ, List.getElem?_cons_zero]; rfl) (by kernel_rfl) (by kernel_rfl) (by kernel_rfl) (by exact fun _ _ _ h => h) (Or.inl ⟨by rfl, ?_⟩) (by with_reducible exact hS) ?_
          rotate_left
          · intro W hSw; (obtain ⟨⟨x0, x1, x2, x3, x4, x5⟩, -, -⟩ := hSw); go_simp; all_goals (with_reducible rfl)
          try simp only [Act.put, List.setIfInBounds_toArray, List.set_cons_zero, List.set_cons_succ]
          refine wpAnyH_take (i := 7) (v := ?_) (by simp only [List.getElem?_toArray, List.getElem?_cons_succ, List.getElem?_cons_zero]; rfl) (by kernel_rfl) (by kernel_rfl) (by kernel_rfl) (by exact fun _ _ _ h => h) (Or.inl ⟨by rfl, ?_⟩) (by with_reducible exact hS) ?_
          rotate_left
          · intro W hSw; (obtain ⟨⟨x0, x1, x2, x3, x4, x5⟩, -, -⟩ := hSw); go_simp; all_goals (with_reducible rfl)
          try simp only [Act.put, List.setIfInBounds_toArray, List.set_cons_zero, List.set_cons_succ]
          refine wpAnyH_take (i := 8) (v := ?_) (by simp only [List.getElem?_toArray, List.getElem?_cons_succ, List.getElem?_cons_zero]; rfl) (by kernel_rfl) (by kernel_rfl) (by kernel_rfl) (by exact fun _ _ _ h => h) (Or.inl ⟨by rfl, ?_⟩) (by with_reducible exact hS) ?_
          rotate_left
          · intro W hSw; (obtain ⟨⟨x0, x1, x2, x3, x4, x5⟩, -, -⟩ := hSw); go_simp; all_goals (with_reducible rfl)
          try simp only [Act.put, List.setIfInBounds_toArray, List.set_cons_zero, List.set_cons_succ]
          refine wpAnyH_take (i := 9) (v := ?_) (by simp only [List.getElem?_toArray, List.getElem?_cons_succ, List.getElem?_cons_zero]; rfl) (by kernel_rfl) (by kernel_rfl) (by kernel_rfl) (by exact fun _ _ _ h => h) (Or.inl ⟨by rfl, ?_⟩) (by with_reducible exact hS) ?_
          rotate_left
          · intro W hSw; (obtain ⟨⟨x0, x1, x2, x3, x4, x5⟩, -, -⟩ := hSw); go_simp; all_goals (with_reducible rfl)
          try simp only [Act.put, List.setIfInBounds_toArray, List.set_cons_zero, List.set_cons_succ]
          refine wpAnyH_take (i := 11) (v := ?_) (by simp only [List.getElem?_toArray, List.getElem?_cons_succ, List.getElem?_cons_zero]; rfl) (by kernel_rfl) (by kernel_rfl) (by kernel_rfl) (by exact fun _ _ _ h => h) (Or.inl ⟨by rfl, ?_⟩) (by with_reducible exact hS) ?_
          rotate_left
          · intro W hSw; (obtain ⟨⟨x0, x1, x2, x3, x4, x5⟩, -, -⟩ := hSw); go_simp; all_goals (with_reducible rfl)
          try simp only [Act.put, List.setIfInBounds_toArray, List.set_cons_zero, List.set_cons_succ]
          refine wpAnyH_take (i := 12) (v := ?_) (by simp only [List.getElem?_toArray, List.getElem?_cons_succ, List.getElem?_cons_zero]; rfl) (by kernel_rfl) (by kernel_rfl) (by kernel_rfl) (by exact fun _ _ _ h => h) (Or.inl ⟨by rfl, ?_⟩) (by with_reducible exact hS) ?_
          rotate_left
          · intro W hSw; (obtain ⟨⟨x0, x1, x2, x3, x4, x5⟩, -, -⟩ := hSw); go_simp; all_goals (with_reducible rfl)
          try simp only [Act.put, List.setIfInBounds_toArray, List.set_cons_zero, List.set_cons_succ]
          refine Rg.take_one 10 (by simp only [List.getElem?_toArray, List.getElem?_cons_succ, List.getElem?_cons_zero]; rfl) (by kernel_rfl) (fun K hK => ?_)
          go_simp
          go_at_call 9
          refine (HMI.out _ hS.2.1 hS.2.2).mono ?_
          rintro en w_10 ⟨rfl, hb_10⟩
          have hS10 := KEEP.out _ _ hS hb_10
          go_wp2_with fail
          refine hK.out _ _ hS10 (fun hHeld10 => ?_)
          clear hK K
          try simp only [Act.put, List.setIfInBounds_toArray, List.set_cons_zero, List.set_cons_succ]
          refine wpAnyH_take (i := 13) (v := ?_) (by simp only [List.getElem?_toArray, List.getElem?_cons_succ, List.getElem?_cons_zero]; rfl) (by kernel_rfl) (by kernel_rfl) (by kernel_rfl) (by exact fun _ _ _ h => h) (Or.inl ⟨by rfl, ?_⟩) (by with_reducible exact hS10) ?_
          rotate_left
          · intro W hSw; (obtain ⟨⟨x0, x1, x2, x3, x4, x5⟩, -, -⟩ := hSw); go_simp; all_goals (with_reducible rfl)
          try simp only [Act.put, List.setIfInBounds_toArray, List.set_cons_zero, List.set_cons_succ]
          refine wpAnyH_take (i := 14) (v := ?_) (by simp only [List.getElem?_toArray, List.getElem?_cons_succ, List.getElem?_cons_zero]; rfl) (by kernel_rfl) (by kernel_rfl) (by kernel_rfl) (by exact fun _ _ _ h => h) (Or.inl ⟨by rfl, ?_⟩) (by with_reducible exact hS10) ?_
          rotate_left
          · intro W hSw; (obtain ⟨⟨x0, x1, x2, x3, x4, x5⟩, -, -⟩ := hSw); go_simp; all_goals (with_reducible rfl)
          try simp only [Act.put, List.setIfInBounds_toArray, List.set_cons_zero, List.set_cons_succ]
          refine wpAnyH_take (i := 15) (v := ?_) (by simp only [List.getElem?_toArray, List.getElem?_cons_succ, List.getElem?_cons_zero]; rfl) (by kernel_rfl) (by kernel_rfl) (by kernel_rfl) (by exact fun _ _ _ h => h) (Or.inl ⟨by rfl, ?_⟩) (by with_reducible exact hS10) ?_
          rotate_left
          · intro W hSw; (obtain ⟨⟨x0, x1, x2, x3, x4, x5⟩, -, -⟩ := hSw); go_simp; all_goals (with_reducible rfl)
          try simp only [Act.put, List.setIfInBounds_toArray, List.set_cons_zero, List.set_cons_succ]
          refine wpAnyH_take (i := 16) (v := ?_) (by simp only [List.getElem?_toArray, List.getElem?_cons_succ, List.getElem?_cons_zero]; rfl) (by kernel_rfl) (by kernel_rfl) (by kernel_rfl) (by exact fun _ _ _ h => h) (Or.inl ⟨by rfl, ?_⟩) (by with_reducible exact hS10) ?_
          rotate_left
          · intro W hSw; (obtain ⟨⟨x0, x1, x2, x3, x4, x5⟩, -, -⟩ := hSw); go_simp; all_goals (with_reducible rfl)
          try simp only [Act.put, List.setIfInBounds_toArray, List.set_cons_zero, List.set_cons_succ]
          refine wpAnyH_take (i := 17) (v := ?_) (by simp only [List.getElem?_toArray, List.getElem?_cons_succ, List.getElem?_cons_zero]; rfl) (by kernel_rfl) (by kernel_rfl) (by kernel_rfl) (by exact fun _ _ _ h => h) (Or.inl ⟨by rfl, ?_⟩) (by with_reducible exact hS10) ?_
          rotate_left
          · intro W hSw; (obtain ⟨⟨x0, x1, x2, x3, x4, x5⟩, -, -⟩ := hSw); go_simp; all_goals (with_reducible rfl)
          try simp only [Act.put, List.setIfInBounds_toArray, List.set_cons_zero, List.set_cons_succ]
          refine wpAnyH_take (i := 18) (v := ?_) (by simp only [List.getElem?_toArray, List.getElem?_cons_succ, List.getElem?_cons_zero]; rfl) (by kernel_rfl) (by kernel_rfl) (by kernel_rfl) (by exact fun _ _ _ h => h) (Or.inl ⟨by rfl, ?_⟩) (by with_reducible exact hS10) ?_
          rotate_left
          · intro W hSw; (obtain ⟨⟨x0, x1, x2, x3, x4, x5⟩, -, -⟩ := hSw); go_simp; all_goals (with_reducible rfl)
          try simp only [Act.put, List.setIfInBounds_toArray, List.set_cons_zero, List.set_cons_succ]
          refine wpAnyH_take (i := 19) (v := ?_) (by simp only [List.getElem?_toArray, List.getElem?_cons_succ, List.getElem?_cons_zero]; rfl) (by kernel_rfl) (by kernel_rfl) (by kernel_rfl) (by exact fun _ _ _ h => h) (Or.inl ⟨by rfl, ?_⟩) (by with_reducible exact hS10) ?_
          rotate_left
          · intro W hSw; (obtain ⟨⟨x0, x1, x2, x3, x4, x5⟩, -, -⟩ := hSw); go_simp; all_goals (with_reducible rfl)
          try simp only [Act.put, List.setIfInBounds_toArray, List.set_cons_zero, List.set_cons_succ]
          refine Rg.take_un 20 (by simp only [List.getElem?_toArray, List.getElem?_cons_succ, List.getElem?_cons_zero]; rfl) (by kernel_rfl) (by kernel_rfl) (by kernel_rfl) (by exact fun _ _ _ h => h) (by rfl) (by with_reducible exact hS10) ?_
          try simp only [Act.put, List.setIfInBounds_toArray, List.set_cons_zero, List.set_cons_succ]
          refine Rg.take_un 21 (by simp only [List.getElem?_toArray, List.getElem?_cons_succ, List.getElem?_cons_zero]; rfl) (by kernel_rfl) (by kernel_rfl) (by kernel_rfl) (by exact fun _ _ _ h => h) (by rfl) (by with_reducible exact hS10) ?_
          try simp only [Act.put, List.setIfInBounds_toArray, List.set_cons_zero, List.set_cons_succ]
          refine wpAnyH_take (i := 22) (v := ?_) (by simp only [List.getElem?_toArray, List.getElem?_cons_succ, List.getElem?_cons_zero]; rfl) (by kernel_rfl) (by kernel_rfl) (by kernel_rfl) (by exact fun _ _ _ h => h) (Or.inl ⟨by rfl, ?_⟩) (by with_reducible exact hS10) ?_
          rotate_left
          · intro W hSw; (obtain ⟨⟨x0, x1, x2, x3, x4, x5⟩, -, -⟩ := hSw); go_simp; all_goals (with_reducible rfl)
          try simp only [Act.put, List.setIfInBounds_toArray, List.set_cons_zero, List.set_cons_succ]
          refine wpAnyH_take (i := 23) (v := ?_) (by simp only [List.getElem?_toArray, List.getElem?_cons_succ, List.getElem?_cons_zero]; rfl) (by kernel_rfl) (by kernel_rfl) (by kernel_rfl) (by exact fun _ _ _ h => h) (Or.inl ⟨by rfl, ?_⟩) (by with_reducible exact hS10) ?_
          rotate_left
          · intro W hSw; (obtain ⟨⟨x0, x1, x2, x3, x4, x5⟩, -, -⟩ := hSw); go_simp; all_goals (with_reducible rfl)
          try simp only [Act.put, List.setIfInBounds_toArray, List.set_cons_zero, List.set_cons_succ]
          refine wpAnyH_done (by kernel_rfl) ?_ _
          have HE := Lib.hid hS10
          go_wp2
          go_meet
          exact ⟨rfl, _, rfl, HE.out.1, HE.out.2.1⟩
      case rest =>
      obtain ⟨rfl, w10, hw10, hbx, hba⟩ := hcut
      subst hw10
      clear HBX HBA HRA
      have HBX := Lib.hid hbx
      have HBA := Lib.hid hba
      clear hbx hba
      have HTW2 := Lib.hid (show tableR prC (l ++ [⟨xq, xl, xc, xp, xn⟩]) = (xn, 6) from HTW.out)
      have HFT := Lib.hid (show ∀ y ∈ l ++ [(⟨xq, xl, xc, xp, xn⟩ : Rl)], FitR y ∧ y.left.length ≤ 9000 ∧ y.cells.length ≤ 9000 from fun y hy => by
        rcases List.mem_append.1 hy with hy | hy
        · exact HFX.out y hy
        · rw [List.mem_singleton.1 hy]; exact HFX.out _ HXM.out)
      have HRW := Lib.hid (one_row xq xs xt xp xn l ⟨xq, xl, xc, xp, xn⟩ ⟨rfl, HXS.out, HXT.out, rfl, rfl⟩)
      have HLT2 := Lib.hid (show (l ++ [(⟨xq, xl, xc, xp, xn⟩ : Rl)]).length = nl + 1 from by rw [List.length_append, HNL.out]; rfl)
      have HTB := Lib.hid (show ∀ (v : Value) (W : World), W.ownsRow w'.heap.size 32 5 v (nl + 1) (rows cR (l ++ [⟨xq, xl, xc, xp, xn⟩])) → Below w'.heap.size w' W → Calls Tryd.prog 7 #[v] W fun e w' => e = .returned (.tuple #[.int .i64 xn, .int .i64 6]) ∧ Below W.heap.size W w' from fun v W ho hW => by
        refine (table9_at v (l ++ [⟨xq, xl, xc, xp, xn⟩]) 0 (by rw [HLT2.out]; omega) HFT.out (capsR_own ho) (xn, 6) HTW2.out W (HL.out.kept hW).1 (HL.out.kept hW).2 (Reads.of_own (f := cR) (n := 5) cR_len HLT2.out ho)).mono ?_
        rintro e w3 ⟨rfl, hb3⟩
        exact ⟨rfl, hb3⟩)
      go_upto_region 21 with fail
      go_cut [17, 18] (fun u17 u18 wx => u17 = .int .i64 xn ∧ u18 = .int .i64 6 ∧ ∃ w11, w11 = wx ∧ BoxS w11 bx xq xs xt xp xn ∧ Below w'.heap.size w' w11)
      case first =>
        have hS := HBX.out.kept (Below.refl w10.heap.size w10).drew
        have hBc := chain HBA.out HBA.out.size (Below.refl w10.heap.size w10).drew
        refine wp_region_held_drew (S := fun W => BoxS W bx xq xs xt xp xn) (by kernel_rfl) hS (fun hHeld => ?_)
        clear hHeld
        generalize hwd : w10.drew = Wc at hS hBc ⊢
        clear hwd
        refine wpAnyH_take (i := 1) (v := ?_) (by simp only [List.getElem?_toArray, List.getElem?_cons_succ, List.getElem?_cons_zero]; rfl) (by kernel_rfl) (by kernel_rfl) (by kernel_rfl) (by exact fun _ _ _ h => h) (Or.inl ⟨by rfl, ?_⟩) (by with_reducible exact hS) ?_
        rotate_left
        · intro W hSw; (obtain ⟨x0, x1, x2, x3, x4, x5⟩ := hSw); go_simp; all_goals (with_reducible rfl)
        try simp only [Act.put, List.setIfInBounds_toArray, List.set_cons_zero, List.set_cons_succ]
        refine wpAnyH_take (i := 3) (v := ?_) (by simp only [List.getElem?_toArray, List.getElem?_cons_succ, List.getElem?_cons_zero]; rfl) (by kernel_rfl) (by kernel_rfl) (by kernel_rfl) (by exact fun _ _ _ h => h) (Or.inl ⟨by rfl, ?_⟩) (by with_reducible exact hS) ?_
        rotate_left
        · intro W hSw; (obtain ⟨x0, x1, x2, x3, x4, x5⟩ := hSw); go_simp; all_goals (with_reducible rfl)
        try simp only [Act.put, List.setIfInBounds_toArray, List.set_cons_zero, List.set_cons_succ]
        refine wpAnyH_ready (rs := [0, 4]) (by kernel_rfl) (by simp) ?_
        refine AllReadyH.cons (by simp only [List.getElem?_toArray, List.getElem?_cons_zero]; rfl) (fun K hK => ?_) ?_
        · skip
          go_simp
          have hO := World.ownsRow_lit (base := Wc.heap.size) (e := 32) (size := 5) Wc #[] 0 (Nat.le_refl _) (by decide) rfl
          have hal := (Below.refl Wc.heap.size Wc).alloc (Nat.le_refl _) (.cells #[] 32)
          have hS1 := hS.kept hal
          have hg0 : bx < Wc.heap.size ∧ w'.heap.size ≤ Wc.heap.size := ⟨hS.2.2.2.2.2, hBc.size⟩
          have hB1 := chain hBc hBc.size hal
          refine hK.out _ _ hS1 (fun _ => ?_)
          clear hK K hS hBc hal
          try simp only [Act.put, List.setIfInBounds_toArray, List.set_cons_zero, List.set_cons_succ]
          obtain ⟨g0, hge⟩ : ∃ n, Wc.heap.size = n := ⟨_, rfl⟩
          generalize Wc.alloc (.cells #[] 32) = Wn1 at hO hS1 hB1 ⊢
          rw [hge] at hO hg0 ⊢
          clear hge
          refine wpAnyH_ready (rs := [2, 4]) (by kernel_rfl) (by simp) ?_
          refine AllReadyH.cons (by simp only [List.getElem?_toArray, List.getElem?_cons_succ, List.getElem?_cons_zero]; rfl) (fun K hK => ?_) ?_
          · skip
            rw [if_pos (by rfl)]
            refine oper_append_more Wn1 _ _ rfl _ rfl g0 0 [] hO (Nat.le_of_lt (hO.lt g0 rfl).2) _ nl c off _ l rfl HNL.out (by omega) ((HV.out.below hB1).mono hB1.size) ?_
            intro v6 Wn2 own6 hg6
            have hS2 := grown_box hS1 hg6 (fun j ej => by have := (hO.lt j ej).1; omega)
            have hB2 := hB1.grown hg6 hB1.size (fun j ej => Nat.le_trans hg0.2 (hO.lt j ej).1)
            rw [Nat.zero_add, List.nil_append] at own6
            obtain ⟨A6, c6, rfl, -, -, -⟩ := own_formR own6
            have hgs : g0 ≤ Wn2.heap.size := Nat.le_trans (Nat.le_of_lt (hO.lt g0 rfl).2) hg6.size
            refine hK.out _ _ hS2 (fun _ => ?_)
            clear hK K hg6 hS1 hB1 hO
            try simp only [Act.put, List.setIfInBounds_toArray, List.set_cons_zero, List.set_cons_succ]
            have hO := own6
            refine Rg.take_one 4 (by simp only [List.getElem?_toArray, List.getElem?_cons_succ, List.getElem?_cons_zero]; rfl) (by kernel_rfl) (fun K hK => ?_)
            go_simp
            have hN := NewsAt.new Wn2 #[.int .i64 xq, .string xs, .string xt, .int .i64 xp, .int .i64 xn] 32
            have hal := (Below.refl Wn2.heap.size Wn2).alloc (Nat.le_refl _) (.cells #[.int .i64 xq, .string xs, .string xt, .int .i64 xp, .int .i64 xn] 32)
            have hS3 := hS2.kept hal
            have hO2 := hO.alloc (.cells #[.int .i64 xq, .string xs, .string xt, .int .i64 xp, .int .i64 xn] 32)
            have hB3 := chain hB2 hB2.size hal
            refine hK.out _ _ hS3 (fun _ => ?_)
            clear hK K hS2 hB2 hal hO
            try simp only [Act.put, List.setIfInBounds_toArray, List.set_cons_zero, List.set_cons_succ]
            obtain ⟨gN, hge⟩ : ∃ n, Wn2.heap.size = n := ⟨_, rfl⟩
            generalize Wn2.alloc (.cells #[.int .i64 xq, .string xs, .string xt, .int .i64 xp, .int .i64 xn] 32) = Wn3 at hN hS3 hB3 hO2 ⊢
            rw [hge] at hN ⊢
            have hg0z := hgs
            rw [hge] at hg0z
            clear hge
            have hO := hO2
            refine Rg.take_one 5 (by simp only [List.getElem?_toArray, List.getElem?_cons_succ, List.getElem?_cons_zero]; rfl) (by kernel_rfl) (fun K hK => ?_)
            rw [if_pos (by rfl)]
            refine wp_append_own Wn3 _ _ _ rfl g0 _ i0 _ 5 56 Tryd.underlying22 hi0 hz0 hz1 hz2 rfl (by decide) _ nl _ rfl hO ⟨gN, 0, none⟩ 1 1 [.int .i64 xq, .string xs, .string xt, .int .i64 xp, .int .i64 xn] rfl rfl hN.2 (by simp [Value.oneCell']) (by unfold maxLen; omega) (by omega) (Nat.le_trans hg0z (Nat.le_of_lt hN.1)) ?_
            intro v7 Wn4 own7 hg7 _
            have hS4 := grown_box hS3 hg7 (fun j ej => by have := (hO.lt j ej).1; omega)
            have hB4 := hB3.grown hg7 hB3.size (fun j ej => Nat.le_trans hg0.2 (hO.lt j ej).1)
            rw [← HRW.out] at own7
            obtain ⟨A9, c9, rfl, -, -, -⟩ := own_formR own7
            refine hK.out _ _ hS4 (fun _ => ?_)
            clear hK K hg7 hS3 hB3 hO hN
            try simp only [Act.put, List.setIfInBounds_toArray, List.set_cons_zero, List.set_cons_succ]
            refine Rg.take_one 6 (by simp only [List.getElem?_toArray, List.getElem?_cons_succ, List.getElem?_cons_zero]; rfl) (by kernel_rfl) (fun K hK => ?_)
            go_simp
            go_at_call 7
            refine (HTB.out _ _ (own_base own7 hg0.2) hB4).mono ?_
            rintro en Wn5 ⟨rfl, hb_5⟩
            have hS5 := hS4.kept hb_5
            have hB5 := chain hB4 hB4.size hb_5
            go_wp2_with fail
            refine hK.out _ _ hS5 (fun _ => ?_)
            clear hK K own7 hb_5 hS4 hB4
            try simp only [Act.put, List.setIfInBounds_toArray, List.set_cons_zero, List.set_cons_succ]
            refine wpAnyH_take (i := 7) (v := ?_) (by simp only [List.getElem?_toArray, List.getElem?_cons_succ, List.getElem?_cons_zero]; rfl) (by kernel_rfl) (by kernel_rfl) (by kernel_rfl) (by exact fun _ _ _ h => h) (Or.inl ⟨by rfl, ?_⟩) (by with_reducible exact hS5) ?_
            rotate_left
            · intro W hSw; (obtain ⟨x0, x1, x2, x3, x4, x5⟩ := hSw); go_simp; all_goals (with_reducible rfl)
            try simp only [Act.put, List.setIfInBounds_toArray, List.set_cons_zero, List.set_cons_succ]
            refine wpAnyH_take (i := 8) (v := ?_) (by simp only [List.getElem?_toArray, List.getElem?_cons_succ, List.getElem?_cons_zero]; rfl) (by kernel_rfl) (by kernel_rfl) (by kernel_rfl) (by exact fun _ _ _ h => h) (Or.inl ⟨by rfl, ?_⟩) (by with_reducible exact hS5) ?_
            rotate_left
            · intro W hSw; (obtain ⟨x0, x1, x2, x3, x4, x5⟩ := hSw); go_simp; all_goals (with_reducible rfl)
            try simp only [Act.put, List.setIfInBounds_toArray, List.set_cons_zero, List.set_cons_succ]
            refine wpAnyH_take (i := 9) (v := ?_) (by simp only [List.getElem?_toArray, List.getElem?_cons_succ, List.getElem?_cons_zero]; rfl) (by kernel_rfl) (by kernel_rfl) (by kernel_rfl) (by exact fun _ _ _ h => h) (Or.inl ⟨by rfl, ?_⟩) (by with_reducible exact hS5) ?_
            rotate_left
            · intro W hSw; (obtain ⟨x0, x1, x2, x3, x4, x5⟩ := hSw); go_simp; all_goals (with_reducible rfl)
            try simp only [Act.put, List.setIfInBounds_toArray, List.set_cons_zero, List.set_cons_succ]
            refine wpAnyH_take (i := 10) (v := ?_) (by simp only [List.getElem?_toArray, List.getElem?_cons_succ, List.getElem?_cons_zero]; rfl) (by kernel_rfl) (by kernel_rfl) (by kernel_rfl) (by exact fun _ _ _ h => h) (Or.inl ⟨by rfl, ?_⟩) (by with_reducible exact hS5) ?_
            rotate_left
            · intro W hSw; (obtain ⟨x0, x1, x2, x3, x4, x5⟩ := hSw); go_simp; all_goals (with_reducible rfl)
            try simp only [Act.put, List.setIfInBounds_toArray, List.set_cons_zero, List.set_cons_succ]
            refine wpAnyH_take (i := 11) (v := ?_) (by simp only [List.getElem?_toArray, List.getElem?_cons_succ, List.getElem?_cons_zero]; rfl) (by kernel_rfl) (by kernel_rfl) (by kernel_rfl) (by exact fun _ _ _ h => h) (Or.inl ⟨by rfl, ?_⟩) (by with_reducible exact hS5) ?_
            rotate_left
            · intro W hSw; (obtain ⟨x0, x1, x2, x3, x4, x5⟩ := hSw); go_simp; all_goals (with_reducible rfl)
            try simp only [Act.put, List.setIfInBounds_toArray, List.set_cons_zero, List.set_cons_succ]
            refine wpAnyH_done (by kernel_rfl) ?_ _
            have HZ := Lib.hid (And.intro hS5 hB5)
            clear hS5 hB5
            go_wp2
            go_meet
            exact ⟨rfl, rfl, _, rfl, HZ.out.1, HZ.out.2⟩
          refine AllReadyH.cons (by simp only [List.getElem?_toArray, List.getElem?_cons_succ, List.getElem?_cons_zero]; rfl) (fun K hK => ?_) ?_
          · skip
            go_simp
            have hN := NewsAt.new Wn1 #[.int .i64 xq, .string xs, .string xt, .int .i64 xp, .int .i64 xn] 32
            have hal := (Below.refl Wn1.heap.size Wn1).alloc (Nat.le_refl _) (.cells #[.int .i64 xq, .string xs, .string xt, .int .i64 xp, .int .i64 xn] 32)
            have hS6 := hS1.kept hal
            have hNg : Wn1.heap.size ≠ g0 := by have := (hO.lt g0 rfl).2; omega
            have hO2 := hO.alloc (.cells #[.int .i64 xq, .string xs, .string xt, .int .i64 xp, .int .i64 xn] 32)
            have hB6 := chain hB1 hB1.size hal
            refine hK.out _ _ hS6 (fun _ => ?_)
            clear hK K hS1 hB1 hal hO
            try simp only [Act.put, List.setIfInBounds_toArray, List.set_cons_zero, List.set_cons_succ]
            obtain ⟨gN, hge⟩ : ∃ n, Wn1.heap.size = n := ⟨_, rfl⟩
            generalize Wn1.alloc (.cells #[.int .i64 xq, .string xs, .string xt, .int .i64 xp, .int .i64 xn] 32) = Wn6 at hN hS6 hB6 hO2 ⊢
            rw [hge] at hN hNg ⊢
            clear hge
            have hO := hO2
            refine Rg.take_one 2 (by simp only [List.getElem?_toArray, List.getElem?_cons_succ, List.getElem?_cons_zero]; rfl) (by kernel_rfl) (fun K hK => ?_)
            rw [if_pos (by rfl)]
            refine oper_append_more Wn6 _ _ rfl _ rfl g0 0 [] hO (Nat.le_of_lt (hO.lt g0 rfl).2) _ nl c off _ l rfl HNL.out (by omega) ((HV.out.below hB6).mono hB6.size) ?_
            intro v6 Wn7 own6 hg6
            have hS7 := grown_box hS6 hg6 (fun j ej => by have := (hO.lt j ej).1; omega)
            have hB7 := hB6.grown hg6 hB6.size (fun j ej => Nat.le_trans hg0.2 (hO.lt j ej).1)
            have hN2 := hN.grown hg6 (fun j ej => by have e1 : g0 = j := (by injection ej); omega)
            rw [Nat.zero_add, List.nil_append] at own6
            obtain ⟨A6, c6, rfl, -, -, -⟩ := own_formR own6
            have hgs : g0 ≤ Wn7.heap.size := Nat.le_trans (Nat.le_of_lt (hO.lt g0 rfl).2) hg6.size
            refine hK.out _ _ hS7 (fun _ => ?_)
            clear hK K hg6 hS6 hB6 hO hN
            try simp only [Act.put, List.setIfInBounds_toArray, List.set_cons_zero, List.set_cons_succ]
            have hO := own6
            have hN := hN2
            refine Rg.take_one 5 (by simp only [List.getElem?_toArray, List.getElem?_cons_succ, List.getElem?_cons_zero]; rfl) (by kernel_rfl) (fun K hK => ?_)
            rw [if_pos (by rfl)]
            refine wp_append_own Wn7 _ _ _ rfl g0 _ i0 _ 5 56 Tryd.underlying22 hi0 hz0 hz1 hz2 rfl (by decide) _ nl _ rfl hO ⟨gN, 0, none⟩ 1 1 [.int .i64 xq, .string xs, .string xt, .int .i64 xp, .int .i64 xn] rfl rfl hN.2 (by simp [Value.oneCell']) (by unfold maxLen; omega) (by omega) (hgs) ?_
            intro v7 Wn8 own7 hg7 _
            have hS8 := grown_box hS7 hg7 (fun j ej => by have := (hO.lt j ej).1; omega)
            have hB8 := hB7.grown hg7 hB7.size (fun j ej => Nat.le_trans hg0.2 (hO.lt j ej).1)
            rw [← HRW.out] at own7
            obtain ⟨A9, c9, rfl, -, -, -⟩ := own_formR own7
            refine hK.out _ _ hS8 (fun _ => ?_)
            clear hK K hg7 hS7 hB7 hO hN
            try simp only [Act.put, List.setIfInBounds_toArray, List.set_cons_zero, List.set_cons_succ]
            refine Rg.take_one 6 (by simp only [List.getElem?_toArray, List.getElem?_cons_succ, List.getElem?_cons_zero]; rfl) (by kernel_rfl) (fun K hK => ?_)
            go_simp
            go_at_call 7
            refine (HTB.out _ _ (own_base own7 hg0.2) hB8).mono ?_
            rintro en Wn9 ⟨rfl, hb_9⟩
            have hS9 := hS8.kept hb_9
            have hB9 := chain hB8 hB8.size hb_9
            go_wp2_with fail
            refine hK.out _ _ hS9 (fun _ => ?_)
            clear hK K own7 hb_9 hS8 hB8
            try simp only [Act.put, List.setIfInBounds_toArray, List.set_cons_zero, List.set_cons_succ]
            refine wpAnyH_take (i := 7) (v := ?_) (by simp only [List.getElem?_toArray, List.getElem?_cons_succ, List.getElem?_cons_zero]; rfl) (by kernel_rfl) (by kernel_rfl) (by kernel_rfl) (by exact fun _ _ _ h => h) (Or.inl ⟨by rfl, ?_⟩) (by with_reducible exact hS9) ?_
            rotate_left
            · intro W hSw; (obtain ⟨x0, x1, x2, x3, x4, x5⟩ := hSw); go_simp; all_goals (with_reducible rfl)
            try simp only [Act.put, List.setIfInBounds_toArray, List.set_cons_zero, List.set_cons_succ]
            refine wpAnyH_take (i := 8) (v := ?_) (by simp only [List.getElem?_toArray, List.getElem?_cons_succ, List.getElem?_cons_zero]; rfl) (by kernel_rfl) (by kernel_rfl) (by kernel_rfl) (by exact fun _ _ _ h => h) (Or.inl ⟨by rfl, ?_⟩) (by with_reducible exact hS9) ?_
            rotate_left
            · intro W hSw; (obtain ⟨x0, x1, x2, x3, x4, x5⟩ := hSw); go_simp; all_goals (with_reducible rfl)
            try simp only [Act.put, List.setIfInBounds_toArray, List.set_cons_zero, List.set_cons_succ]
            refine wpAnyH_take (i := 9) (v := ?_) (by simp only [List.getElem?_toArray, List.getElem?_cons_succ, List.getElem?_cons_zero]; rfl) (by kernel_rfl) (by kernel_rfl) (by kernel_rfl) (by exact fun _ _ _ h => h) (Or.inl ⟨by rfl, ?_⟩) (by with_reducible exact hS9) ?_
            rotate_left
            · intro W hSw; (obtain ⟨x0, x1, x2, x3, x4, x5⟩ := hSw); go_simp; all_goals (with_reducible rfl)
            try simp only [Act.put, List.setIfInBounds_toArray, List.set_cons_zero, List.set_cons_succ]
            refine wpAnyH_take (i := 10) (v := ?_) (by simp only [List.getElem?_toArray, List.getElem?_cons_succ, List.getElem?_cons_zero]; rfl) (by kernel_rfl) (by kernel_rfl) (by kernel_rfl) (by exact fun _ _ _ h => h) (Or.inl ⟨by rfl, ?_⟩) (by with_reducible exact hS9) ?_
            rotate_left
            · intro W hSw; (obtain ⟨x0, x1, x2, x3, x4, x5⟩ := hSw); go_simp; all_goals (with_reducible rfl)
            try simp only [Act.put, List.setIfInBounds_toArray, List.set_cons_zero, List.set_cons_succ]
            refine wpAnyH_take (i := 11) (v := ?_) (by simp only [List.getElem?_toArray, List.getElem?_cons_succ, List.getElem?_cons_zero]; rfl) (by kernel_rfl) (by kernel_rfl) (by kernel_rfl) (by exact fun _ _ _ h => h) (Or.inl ⟨by rfl, ?_⟩) (by with_reducible exact hS9) ?_
            rotate_left
            · intro W hSw; (obtain ⟨x0, x1, x2, x3, x4, x5⟩ := hSw); go_simp; all_goals (with_reducible rfl)
            try simp only [Act.put, List.setIfInBounds_toArray, List.set_cons_zero, List.set_cons_succ]
            refine wpAnyH_done (by kernel_rfl) ?_ _
            have HZ := Lib.hid (And.intro hS9 hB9)
            clear hS9 hB9
            go_wp2
            go_meet
            exact ⟨rfl, rfl, _, rfl, HZ.out.1, HZ.out.2⟩
          exact AllReadyH.nil
        refine AllReadyH.cons (by simp only [List.getElem?_toArray, List.getElem?_cons_succ, List.getElem?_cons_zero]; rfl) (fun K hK => ?_) ?_
        · skip
          go_simp
          have hN := NewsAt.new Wc #[.int .i64 xq, .string xs, .string xt, .int .i64 xp, .int .i64 xn] 32
          have hal := (Below.refl Wc.heap.size Wc).alloc (Nat.le_refl _) (.cells #[.int .i64 xq, .string xs, .string xt, .int .i64 xp, .int .i64 xn] 32)
          have hS10 := hS.kept hal
          have hB10 := chain hBc hBc.size hal
          refine hK.out _ _ hS10 (fun _ => ?_)
          clear hK K hS hBc hal
          try simp only [Act.put, List.setIfInBounds_toArray, List.set_cons_zero, List.set_cons_succ]
          obtain ⟨gN, hge⟩ : ∃ n, Wc.heap.size = n := ⟨_, rfl⟩
          generalize Wc.alloc (.cells #[.int .i64 xq, .string xs, .string xt, .int .i64 xp, .int .i64 xn] 32) = Wn10 at hN hS10 hB10 ⊢
          rw [hge] at hN ⊢
          clear hge
          refine Rg.take_one 0 (by simp only [List.getElem?_toArray, List.getElem?_cons_zero]; rfl) (by kernel_rfl) (fun K hK => ?_)
          go_simp
          have hO := World.ownsRow_lit (base := Wn10.heap.size) (e := 32) (size := 5) Wn10 #[] 0 (Nat.le_refl _) (by decide) rfl
          have hal := (Below.refl Wn10.heap.size Wn10).alloc (Nat.le_refl _) (.cells #[] 32)
          have hS11 := hS10.kept hal
          have hg0 : bx < Wn10.heap.size ∧ w'.heap.size ≤ Wn10.heap.size := ⟨hS10.2.2.2.2.2, hB10.size⟩
          have hN2 := hN.below hal hN.1
          have hNg : gN ≠ Wn10.heap.size := by have := hN.1; omega
          have hB11 := chain hB10 hB10.size hal
          refine hK.out _ _ hS11 (fun _ => ?_)
          clear hK K hS10 hB10 hal hN
          try simp only [Act.put, List.setIfInBounds_toArray, List.set_cons_zero, List.set_cons_succ]
          obtain ⟨g0, hge⟩ : ∃ n, Wn10.heap.size = n := ⟨_, rfl⟩
          generalize Wn10.alloc (.cells #[] 32) = Wn11 at hO hS11 hB11 hN2 ⊢
          rw [hge] at hO hg0 hNg ⊢
          clear hge
          have hN := hN2
          refine Rg.take_one 2 (by simp only [List.getElem?_toArray, List.getElem?_cons_succ, List.getElem?_cons_zero]; rfl) (by kernel_rfl) (fun K hK => ?_)
          rw [if_pos (by rfl)]
          refine oper_append_more Wn11 _ _ rfl _ rfl g0 0 [] hO (Nat.le_of_lt (hO.lt g0 rfl).2) _ nl c off _ l rfl HNL.out (by omega) ((HV.out.below hB11).mono hB11.size) ?_
          intro v6 Wn12 own6 hg6
          have hS12 := grown_box hS11 hg6 (fun j ej => by have := (hO.lt j ej).1; omega)
          have hB12 := hB11.grown hg6 hB11.size (fun j ej => Nat.le_trans hg0.2 (hO.lt j ej).1)
          have hN2 := hN.grown hg6 (fun j ej => by have e1 : g0 = j := (by injection ej); omega)
          rw [Nat.zero_add, List.nil_append] at own6
          obtain ⟨A6, c6, rfl, -, -, -⟩ := own_formR own6
          have hgs : g0 ≤ Wn12.heap.size := Nat.le_trans (Nat.le_of_lt (hO.lt g0 rfl).2) hg6.size
          refine hK.out _ _ hS12 (fun _ => ?_)
          clear hK K hg6 hS11 hB11 hO hN
          try simp only [Act.put, List.setIfInBounds_toArray, List.set_cons_zero, List.set_cons_succ]
          have hO := own6
          have hN := hN2
          refine Rg.take_one 5 (by simp only [List.getElem?_toArray, List.getElem?_cons_succ, List.getElem?_cons_zero]; rfl) (by kernel_rfl) (fun K hK => ?_)
          rw [if_pos (by rfl)]
          refine wp_append_own Wn12 _ _ _ rfl g0 _ i0 _ 5 56 Tryd.underlying22 hi0 hz0 hz1 hz2 rfl (by decide) _ nl _ rfl hO ⟨gN, 0, none⟩ 1 1 [.int .i64 xq, .string xs, .string xt, .int .i64 xp, .int .i64 xn] rfl rfl hN.2 (by simp [Value.oneCell']) (by unfold maxLen; omega) (by omega) (hgs) ?_
          intro v7 Wn13 own7 hg7 _
          have hS13 := grown_box hS12 hg7 (fun j ej => by have := (hO.lt j ej).1; omega)
          have hB13 := hB12.grown hg7 hB12.size (fun j ej => Nat.le_trans hg0.2 (hO.lt j ej).1)
          rw [← HRW.out] at own7
          obtain ⟨A9, c9, rfl, -, -, -⟩ := own_formR own7
          refine hK.out _ _ hS13 (fun _ => ?_)
          clear hK K hg7 hS12 hB12 hO hN
          try simp only [Act.put, List.setIfInBounds_toArray, List.set_cons_zero, List.set_cons_succ]
          refine Rg.take_one 6 (by simp only [List.getElem?_toArray, List.getElem?_cons_succ, List.getElem?_cons_zero]; rfl) (by kernel_rfl) (fun K hK => ?_)
          go_simp
          go_at_call 7
          refine (HTB.out _ _ (own_base own7 hg0.2) hB13).mono ?_
          rintro en Wn14 ⟨rfl, hb_14⟩
          have hS14 := hS13.kept hb_14
          have hB14 := chain hB13 hB13.size hb_14
          go_wp2_with fail
          refine hK.out _ _ hS14 (fun _ => ?_)
          clear hK K own7 hb_14 hS13 hB13
          try simp only [Act.put, List.setIfInBounds_toArray, List.set_cons_zero, List.set_cons_succ]
          refine wpAnyH_take (i := 7) (v := ?_) (by simp only [List.getElem?_toArray, List.getElem?_cons_succ, List.getElem?_cons_zero]; rfl) (by kernel_rfl) (by kernel_rfl) (by kernel_rfl) (by exact fun _ _ _ h => h) (Or.inl ⟨by rfl, ?_⟩) (by with_reducible exact hS14) ?_
          rotate_left
          · intro W hSw; (obtain ⟨x0, x1, x2, x3, x4, x5⟩ := hSw); go_simp; all_goals (with_reducible rfl)
          try simp only [Act.put, List.setIfInBounds_toArray, List.set_cons_zero, List.set_cons_succ]
          refine wpAnyH_take (i := 8) (v := ?_) (by simp only [List.getElem?_toArray, List.getElem?_cons_succ, List.getElem?_cons_zero]; rfl) (by kernel_rfl) (by kernel_rfl) (by kernel_rfl) (by exact fun _ _ _ h => h) (Or.inl ⟨by rfl, ?_⟩) (by with_reducible exact hS14) ?_
          rotate_left
          · intro W hSw; (obtain ⟨x0, x1, x2, x3, x4, x5⟩ := hSw); go_simp; all_goals (with_reducible rfl)
          try simp only [Act.put, List.setIfInBounds_toArray, List.set_cons_zero, List.set_cons_succ]
          refine wpAnyH_take (i := 9) (v := ?_) (by simp only [List.getElem?_toArray, List.getElem?_cons_succ, List.getElem?_cons_zero]; rfl) (by kernel_rfl) (by kernel_rfl) (by kernel_rfl) (by exact fun _ _ _ h => h) (Or.inl ⟨by rfl, ?_⟩) (by with_reducible exact hS14) ?_
          rotate_left
          · intro W hSw; (obtain ⟨x0, x1, x2, x3, x4, x5⟩ := hSw); go_simp; all_goals (with_reducible rfl)
          try simp only [Act.put, List.setIfInBounds_toArray, List.set_cons_zero, List.set_cons_succ]
          refine wpAnyH_take (i := 10) (v := ?_) (by simp only [List.getElem?_toArray, List.getElem?_cons_succ, List.getElem?_cons_zero]; rfl) (by kernel_rfl) (by kernel_rfl) (by kernel_rfl) (by exact fun _ _ _ h => h) (Or.inl ⟨by rfl, ?_⟩) (by with_reducible exact hS14) ?_
          rotate_left
          · intro W hSw; (obtain ⟨x0, x1, x2, x3, x4, x5⟩ := hSw); go_simp; all_goals (with_reducible rfl)
          try simp only [Act.put, List.setIfInBounds_toArray, List.set_cons_zero, List.set_cons_succ]
          refine wpAnyH_take (i := 11) (v := ?_) (by simp only [List.getElem?_toArray, List.getElem?_cons_succ, List.getElem?_cons_zero]; rfl) (by kernel_rfl) (by kernel_rfl) (by kernel_rfl) (by exact fun _ _ _ h => h) (Or.inl ⟨by rfl, ?_⟩) (by with_reducible exact hS14) ?_
          rotate_left
          · intro W hSw; (obtain ⟨x0, x1, x2, x3, x4, x5⟩ := hSw); go_simp; all_goals (with_reducible rfl)
          try simp only [Act.put, List.setIfInBounds_toArray, List.set_cons_zero, List.set_cons_succ]
          refine wpAnyH_done (by kernel_rfl) ?_ _
          have HZ := Lib.hid (And.intro hS14 hB14)
          clear hS14 hB14
          go_wp2
          go_meet
          exact ⟨rfl, rfl, _, rfl, HZ.out.1, HZ.out.2⟩
        exact AllReadyH.nil
      case rest =>
      obtain ⟨rfl, rfl, w11, hw11, hbx, hba⟩ := hcut
      subst hw11
      clear HBX HBA
      have HBX := Lib.hid hbx
      have HBA := Lib.hid hba
      obtain ⟨x0, x1, x2, x3, x4, x5⟩ := hbx
      clear hba
      have sn : (xn == xn) = true := by simp
      go_wp2_with fail
      refine (HAW.out _ (HL.out.kept HBA.out)).mono ?_
      rintro e w12 ⟨rfl, hb12⟩
      have HE := Lib.hid (chain HBA.out HBA.out.size hb12)
      clear hb12 x0 x1 x2 x3 x4 x5
      go_wp2
      go_ret
      exact ⟨rfl, HE.out⟩
end Go.Proofs.YtlibmfflgpkjmaaDoor.Ck
