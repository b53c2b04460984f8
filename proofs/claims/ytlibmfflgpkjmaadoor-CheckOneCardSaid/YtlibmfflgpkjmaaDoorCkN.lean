/-
  styluslaw09's chosen: the rules of a table's row that bytes choose.
-/
import Derived.Test.YtlibmfflgpkjmaaDoorCkClose
import Derived.Test.YtlibmfflgpkjmaaDoorQf
namespace Go.Proofs.YtlibmfflgpkjmaaDoor.Ck
open Go.RowKit Ba Ru

theorem one_row (q : Int) (S T : ByteArray) (p n : Int) (xs : List Rl) (x : Rl) (hx : x.what = q ∧ bytesOf x.left = S ∧ bytesOf x.cells = T ∧ x.prio = p ∧ x.line = n) : rows cR (xs ++ [x]) = rows cR xs ++ [.int .i64 q, .string S, .string T, .int .i64 p, .int .i64 n] := by
  obtain ⟨rfl, rfl, rfl, rfl, rfl⟩ := hx
  exact rows_oneR xs x
theorem grown_box {w w' : World} {row : Option Nat} {b : Nat} {q : Int} {S T : ByteArray} {p n : Int} (h : BoxS w b q S T p n) (hg : w.grownBy w' row) (hr : ∀ k, row = some k → k ≠ b) : BoxS w' b q S T p n := by
  have hb := hg.block b h.2.2.2.2.2 (fun e => hr b e.symm rfl)
  have c : ∀ i, w'.cell? ⟨b, i, none⟩ = w.cell? ⟨b, i, none⟩ := fun i => World.cell?_of_block (w := w) (a := ⟨b, i, none⟩) hb
  exact ⟨(c 0).trans h.1, (c 1).trans h.2.1, (c 2).trans h.2.2.1, (c 3).trans h.2.2.2.1, (c 4).trans h.2.2.2.2.1, Nat.lt_of_lt_of_le h.2.2.2.2.2 hg.size⟩
theorem cells_len {l : List Rl} {n : Nat} (h : ∀ x ∈ l, x.cells.length ≤ 50) (hl : l.length ≤ n) : (cellsR l).length ≤ n * 50 := by
  induction l generalizing n with
  | nil => exact Nat.zero_le _
  | cons x l ih =>
    obtain ⟨m, rfl⟩ : ∃ m, n = m + 1 := ⟨n - 1, by rw [List.length_cons] at hl; omega⟩
    have h1 := h x (List.mem_cons_self ..)
    have h2 := ih (n := m) (fun y hy => h y (List.mem_cons_of_mem _ hy)) (by rw [List.length_cons] at hl; omega)
    show (x.cells ++ cellsR l).length ≤ _
    rw [List.length_append, Nat.succ_mul]
    omega
theorem chosen_len (m : List Rl) (bs : List Nat) : (chosenL m bs).length ≤ bs.length := by
  unfold chosenL
  induction bs with
  | nil => exact Nat.le_refl _
  | cons b bs ih =>
    rw [List.flatMap_cons, List.length_append, List.length_cons]
    have : (pickR m b).length ≤ 1 := by unfold pickR; cases m[b % m.length]? <;> simp
    omega
set_option maxRecDepth 100000 in
set_option maxHeartbeats 8000000 in
/-- styluslaw09.chosen -/
theorem chosen_at (l : List Rl) (A : Option Addr) (off nl c : Nat) (row : Int) (bs : List Nat) (A2 : Option Addr) (o2 nb c2 : Nat) (hnl : l.length = nl) (hnb : bs.length = nb) (hl : nl ≤ 450) (hb : nb ≤ 40) (hf : ∀ x ∈ l, FitR x ∧ x.left.length ≤ 50 ∧ x.cells.length ≤ 50) (hbb : ∀ b ∈ bs, b < 256) (w : World)
    (hv : ReadsR off w w.heap.size (.slice A nl c) l) (hv2 : ReadsB o2 w w.heap.size (.slice A2 nb c2) bs) :
    Calls Tryd.prog 8 #[.slice A nl c, .int .i64 row, .slice A2 nb c2] w fun e w' => ∃ v, e = .returned (.tuple #[v, .string (bytesOf (cellsR (chosenL (inL l row) bs)))]) ∧ w'.ownsRow w.heap.size 32 5 v (chosenL (inL l row) bs).length (rows cR (chosenL (inL l row) bs)) ∧ Below w.heap.size w w' := by
  obtain ⟨i0, hi0, hz0, hz1, hz2⟩ := info_parts infoR
  have HRV := Lib.hid hv
  have HRB := Lib.hid hv2
  have HF := Lib.hid hf
  have HBB := Lib.hid hbb
  have HNL := Lib.hid hnl
  have HNB := Lib.hid hnb
  obtain ⟨M, hM⟩ : ∃ M, inL l row = M := ⟨_, rfl⟩
  rw [hM]
  have HMD := Lib.hid hM
  clear hv hv2 hf hbb hnl hnb hM
  go_enter Tryd.func8, Tryd.ntmps8
  go_wp2
  go_loopw [8, 10] (fun v i wr => ∃ k : Nat, i = .int .i64 (k : Int) ∧ k ≤ nl ∧ wr.ownsRow w.heap.size 32 5 v (inL (l.take k) row).length (rows cR (inL (l.take k) row)) ∧ Below w.heap.size w wr) (fun _ i _ => nl - (intOf i).toNat)
  case atStart => exact ⟨0, rfl, Nat.zero_le _, World.ownsRow_nil _ _ _ _, Below.refl _ _⟩
  case round =>
    obtain ⟨k, rfl, hk, how, hB⟩ := hrel
    by_cases hlt : k < nl
    · have k0 : (0 : Int) ≤ (k : Int) := by omega
      have k1 : (k : Int) < (nl : Int) := by omega
      obtain ⟨x, hx⟩ : ∃ x, l[k]? = some x := ⟨_, List.getElem?_eq_getElem (by rw [HNL.out]; exact hlt)⟩
      have HST := Lib.hid (inL_step l row k x hx)
      have hml : (inL (l.take k) row).length ≤ 450 := by
        unfold inL
        refine Nat.le_trans (List.length_filter_le ..) ?_
        rw [List.length_take]; omega
      obtain ⟨A', c', e, hA⟩ := HRV.out
      injection e with e1 e2 e3
      subst e1; subst e3; clear e2
      obtain ⟨g, rfl, hgw, hg⟩ := hA (by rw [HNL.out]; omega)
      obtain ⟨g0, g1, g2, g3, g4⟩ := rcell hg k x hx
      have g0 := (hB.cell (p := ⟨g, off + k * 5, none⟩) hgw).trans g0
      have g1 := (hB.cell (p := ⟨g, off + k * 5 + 1, none⟩) hgw).trans g1
      have g2 := (hB.cell (p := ⟨g, off + k * 5 + 2, none⟩) hgw).trans g2
      have g3 := (hB.cell (p := ⟨g, off + k * 5 + 3, none⟩) hgw).trans g3
      have g4 := (hB.cell (p := ⟨g, off + k * 5 + 4, none⟩) hgw).trans g4
      obtain ⟨bi, hbi⟩ : ∃ bi, inB x row = bi := ⟨_, rfl⟩
      have HIN := Lib.hid (fun W => hbi ▸ in_at x row W)
      have HXX := Lib.hid (show x.what = x.what ∧ bytesOf x.left = bytesOf x.left ∧ bytesOf x.cells = bytesOf x.cells ∧ x.prio = x.prio ∧ x.line = x.line from ⟨rfl, rfl, rfl, rfl, rfl⟩)
      have HROW := Lib.hid (show ∀ q S T p n, x.what = q ∧ bytesOf x.left = S ∧ bytesOf x.cells = T ∧ x.prio = p ∧ x.line = n → rows cR (inL (l.take k) row ++ [x]) = rows cR (inL (l.take k) row) ++ [.int .i64 q, .string S, .string T, .int .i64 p, .int .i64 n] from fun q S T p n h => one_row q S T p n _ x h)
      obtain ⟨m, hm⟩ : ∃ m, (inL (l.take k) row).length = m := ⟨_, rfl⟩
      rw [hm] at how hml
      have HMM := Lib.hid hm
      have HOW := Lib.hid how
      have HBW := Lib.hid hB
      have HLT := Lib.hid how.lt
      have HG := Lib.hid (show ∀ W : World, Below wr.heap.size wr W → W.cell? ⟨g, off + k * 5, none⟩ = some (.int .i64 x.what) ∧ W.cell? ⟨g, off + k * 5 + 1, none⟩ = some (.string (bytesOf x.left)) ∧ W.cell? ⟨g, off + k * 5 + 2, none⟩ = some (.string (bytesOf x.cells)) ∧ W.cell? ⟨g, off + k * 5 + 3, none⟩ = some (.int .i64 x.prio) ∧ W.cell? ⟨g, off + k * 5 + 4, none⟩ = some (.int .i64 x.line) from fun W hW => by
        have hgr : g < wr.heap.size := Nat.lt_of_lt_of_le hgw hB.size
        exact ⟨(hW.cell (p := ⟨g, off + k * 5, none⟩) hgr).trans g0, (hW.cell (p := ⟨g, off + k * 5 + 1, none⟩) hgr).trans g1, (hW.cell (p := ⟨g, off + k * 5 + 2, none⟩) hgr).trans g2, (hW.cell (p := ⟨g, off + k * 5 + 3, none⟩) hgr).trans g3, (hW.cell (p := ⟨g, off + k * 5 + 4, none⟩) hgr).trans g4⟩)
      have hsz := hB.size
      have HBI := Lib.hid hbi
      obtain ⟨xq, xl, xc, xp, xn⟩ := x
      obtain ⟨xs, hxs⟩ : ∃ s, bytesOf xl = s := ⟨_, rfl⟩
      obtain ⟨xt, hxt⟩ : ∃ s, bytesOf xc = s := ⟨_, rfl⟩
      have HX := Lib.hid (HROW.out xq xs xt xp xn ⟨rfl, hxs, hxt, rfl, rfl⟩)
      simp only [aggR] at HIN
      simp only [] at g0 g1 g2 g3 g4 HG
      rw [hxs, hxt] at HIN HG
      rw [hxs] at g1
      rw [hxt] at g2
      obtain ⟨A8, c8, rfl, -, -, -⟩ := own_formR how
      clear hx hg hA hbi hxs hxt hm how hB HROW HXX hgw
      go_wp2_with fail
      refine (HIN.out _).mono ?_
      rintro e w2 ⟨rfl, hb2⟩
      clear g0 g1 g2 g3 g4
      obtain ⟨g0, g1, g2, g3, g4⟩ := HG.out w2 hb2
      have HBW2 := Lib.hid (chain HBW.out HBW.out.size hb2)
      have HOW2 := Lib.hid (own_below HOW.out hb2)
      have hsz2 := HBW2.out.size
      have HLT2 := Lib.hid (own_below HOW.out hb2).lt
      clear hb2 HOW HBW HLT HG
      cases bi
      case false =>
        have HNX := Lib.hid (show inL (l.take (k + 1)) row = inL (l.take k) row from by rw [HST.out, HBI.out, if_neg Bool.false_ne_true, List.append_nil])
        go_wp2
        go_roundw
        case rel => exact ⟨k + 1, by go_num, by omega, by rw [HNX.out, HMM.out]; exact HOW2.out, HBW2.out⟩
        case measure => simp [intOf]; omega
      case true =>
        have HNX := Lib.hid (show inL (l.take (k + 1)) row = inL (l.take k) row ++ [⟨xq, xl, xc, xp, xn⟩] from by rw [HST.out, HBI.out, if_pos rfl])
        go_wp2_with (at_builtin; refine wpList_append_own _ rfl _ _ 22 rfl w.heap.size 32 i0 _ 5 56 Tryd.underlying22 hi0 hz0 hz1 hz2 rfl (by decide) _ _ _ rfl (HOW2.out.alloc _) ⟨w2.heap.size, 0, none⟩ 1 1 [.int .i64 xq, .string xs, .string xt, .int .i64 xp, .int .i64 xn] rfl rfl (World.news_of_block (cs := #[.int .i64 xq, .string xs, .string xt, .int .i64 xp, .int .i64 xn]) (t := 32) (fr := (0, 0)) (heap_alloc_new w2 _)) (by simp [Value.oneCell']) (by unfold maxLen; omega) (by omega) (by simp; omega) ?_; intro v' w8 hown' hgrow _; have HFF := Lib.hid (show w8.ownsRow w.heap.size 32 5 v' (inL (l.take (k + 1)) row).length (rows cR (inL (l.take (k + 1)) row)) ∧ Below w.heap.size w w8 from ⟨by rw [HNX.out, HX.out, List.length_append, HMM.out]; exact hown', (HBW2.out.alloc hsz2 _).grown hgrow (by simp; omega) (fun j ej => (HLT2.out j ej).1)⟩); clear hown' hgrow)
        go_roundw
        case rel => exact ⟨k + 1, by go_num, by omega, HFF.out.1, HFF.out.2⟩
        case measure => simp [intOf]; omega
    · have HE := Lib.hid (show wr.ownsRow w.heap.size 32 5 u8 (inL l row).length (rows cR (inL l row)) from by
        obtain rfl : k = nl := by omega
        rw [List.take_of_length_le (by rw [HNL.out]; exact Nat.le_refl _)] at how
        exact how)
      have HBW := Lib.hid hB
      have hM := HMD.out
      rw [hM] at HE
      have HMF := Lib.hid (show ∀ x ∈ M, FitR x ∧ x.left.length ≤ 50 ∧ x.cells.length ≤ 50 from fun x hx => by rw [← hM] at hx; exact HF.out x (inL_mem hx).1)
      have HML := Lib.hid (show M.length ≤ 450 from by
        rw [← hM]
        unfold inL
        exact Nat.le_trans (List.length_filter_le ..) (by rw [HNL.out]; exact hl))
      obtain ⟨nm, hnm⟩ : ∃ nm, M.length = nm := ⟨_, rfl⟩
      rw [hnm] at HE
      have hnm4 : nm ≤ 450 := by rw [← hnm]; exact HML.out
      have HNM := Lib.hid hnm
      have t1 : decide (k < nl) = false := decide_eq_false hlt
      obtain ⟨W0, rfl⟩ : ∃ W, W = wr := ⟨_, rfl⟩
      obtain ⟨A8, c8, rfl, hc8, hc8m, hA8⟩ := own_formR HE.out
      have HA8 := Lib.hid hA8
      clear how hB hM hnm hA8
      go_wp2
      go_loopw [9, 11, 12] (fun v s i w3 => ∃ j : Nat, i = .int .i64 (j : Int) ∧ j ≤ nb ∧ s = .string (bytesOf (cellsR (chosenL M (bs.take j)))) ∧ w3.ownsRow W0.heap.size 32 5 v (chosenL M (bs.take j)).length (rows cR (chosenL M (bs.take j))) ∧ Below W0.heap.size W0 w3) (fun _ _ i _ => nb - (intOf i).toNat)
      case atStart => exact ⟨0, rfl, Nat.zero_le _, rfl, World.ownsRow_nil _ _ _ _, Below.refl _ _⟩
      case round =>
        obtain ⟨j, rfl, hj, rfl, how, hB3⟩ := hrel
        by_cases hjlt : j < nb ∧ 0 < nm
        · obtain ⟨hjlt, hm0⟩ := hjlt
          have j0 : (0 : Int) ≤ (j : Int) := by omega
          have j1 : (j : Int) < (nb : Int) := by omega
          obtain ⟨b, hbj⟩ : ∃ b, bs[j]? = some b := ⟨_, List.getElem?_eq_getElem (by rw [HNB.out]; exact hjlt)⟩
          have hb256 := HBB.out b (List.mem_of_getElem? hbj)
          obtain ⟨A', c', e, hA⟩ := HRB.out
          injection e with e1 e2 e3
          subst e1; subst e3; clear e2
          obtain ⟨g2, rfl, hg2w, hg2⟩ := hA (by rw [HNB.out]; omega)
          have hbw := HBW.out
          have hcb := (hB3.cell (p := ⟨g2, o2 + (j * 1 + 0), none⟩) (Nat.lt_of_lt_of_le hg2w hbw.size)).trans ((hbw.cell (p := ⟨g2, o2 + (j * 1 + 0), none⟩) hg2w).trans (hg2 j b hbj 0 _ rfl))
          rw [show o2 + (j * 1 + 0) = o2 + j by omega] at hcb
          obtain ⟨g8, rfl, hg8⟩ := HA8.out hm0
          obtain ⟨r, hr⟩ : ∃ r, b % nm = r := ⟨_, rfl⟩
          have hrn : r < nm := by rw [← hr]; exact Nat.mod_lt _ hm0
          obtain ⟨x, hx⟩ : ∃ x, M[r]? = some x := ⟨_, List.getElem?_eq_getElem (by rw [HNM.out]; exact hrn)⟩
          have HNX := Lib.hid (show chosenL M (bs.take (j + 1)) = chosenL M (bs.take j) ++ [x] from by
            rw [chosen_step M bs j b hbj]
            unfold pickR
            rw [HNM.out, hr, hx]; rfl)
          have hrd := (Reads.of_own (f := cR) (n := 5) cR_len HNM.out HE.out)
          obtain ⟨A', c', e, hA'⟩ := hrd
          injection e with e1 e2 e3
          subst e1
          obtain ⟨g', hg', hgw, hg⟩ := hA' (by rw [HNM.out]; omega)
          injection hg' with hg'
          injection hg' with e4 e5 e6
          subst e4
          obtain ⟨y0, y1, y2, y3, y4⟩ := rcell hg r x hx
          have y0 := (hB3.cell (p := ⟨g8, 0 + r * 5, none⟩) hgw).trans y0
          have y1 := (hB3.cell (p := ⟨g8, 0 + r * 5 + 1, none⟩) hgw).trans y1
          have y2 := (hB3.cell (p := ⟨g8, 0 + r * 5 + 2, none⟩) hgw).trans y2
          have y3 := (hB3.cell (p := ⟨g8, 0 + r * 5 + 3, none⟩) hgw).trans y3
          have y4 := (hB3.cell (p := ⟨g8, 0 + r * 5 + 4, none⟩) hgw).trans y4
          have hxc := (HMF.out x (List.mem_of_getElem? hx)).2.2
          have HROW := Lib.hid (show ∀ q S T p n, x.what = q ∧ bytesOf x.left = S ∧ bytesOf x.cells = T ∧ x.prio = p ∧ x.line = n → rows cR (chosenL M (bs.take j) ++ [x]) = rows cR (chosenL M (bs.take j)) ++ [.int .i64 q, .string S, .string T, .int .i64 p, .int .i64 n] from fun q S T p n h => one_row q S T p n _ x h)
          have hlj : (chosenL M (bs.take j)).length ≤ 40 := Nat.le_trans (chosen_len _ _) (by rw [List.length_take]; omega)
          have hcj : (cellsR (chosenL M (bs.take j))).length ≤ 40 * 50 := cells_len (fun y hy => (HMF.out y (chosen_mem hy)).2.2) hlj
          obtain ⟨sj, hsj⟩ : ∃ sj, bytesOf (cellsR (chosenL M (bs.take j))) = sj := ⟨_, rfl⟩
          have hsjs : sj.size ≤ 2000 := by rw [← hsj, bytesOf_size]; exact hcj
          have HCAT := Lib.hid (show bytesOf (cellsR (chosenL M (bs.take j) ++ [x])) = sj ++ bytesOf x.cells from by
            rw [cells_step, bytesOf_app, hsj]
            congr 1
            unfold cellsR
            rw [List.flatMap_cons, List.flatMap_nil, List.append_nil])
          rw [hsj]
          obtain ⟨m, hm⟩ : ∃ m, (chosenL M (bs.take j)).length = m := ⟨_, rfl⟩
          rw [hm] at how hlj
          have HMM := Lib.hid hm
          have hrem : Int.tmod (b : Int) (nm : Int) = (r : Int) := by rw [← hr]; rfl
          have hwb : wrap64 (b : Int) = (b : Int) := by unfold wrap64; omega
          have hnz : ((nm : Int) == 0) = false := beq_eq_false_iff_ne.2 (by omega)
          have r0 : (0 : Int) ≤ (r : Int) := by omega
          have r1 : (r : Int) < (nm : Int) := by omega
          have u1 : decide ((j : Int) < (nb : Int)) = true := decide_eq_true j1
          have u2 : decide ((0 : Int) < (nm : Int)) = true := decide_eq_true (by omega)
          have hxcs : (bytesOf x.cells).size ≤ 50 := by rw [bytesOf_size]; exact hxc
          obtain ⟨xq, xl, xc, xp, xn⟩ := x
          obtain ⟨xs, hxs⟩ : ∃ s, bytesOf xl = s := ⟨_, rfl⟩
          obtain ⟨xt, hxt⟩ : ∃ s, bytesOf xc = s := ⟨_, rfl⟩
          have HX := Lib.hid (HROW.out xq xs xt xp xn ⟨rfl, hxs, hxt, rfl, rfl⟩)
          simp only [Nat.zero_add] at y0 y1 y2 y3 y4
          simp only [] at HCAT hxcs
          rw [hxt] at HCAT hxcs
          rw [hxs] at y1
          rw [hxt] at y2
          have HOW := Lib.hid how
          have HBW3 := Lib.hid hB3
          have hsz3 := hB3.size
          have HLT := Lib.hid how.lt
          obtain ⟨A9, c9, rfl, -, -, -⟩ := own_formR how
          clear hbj hA hg2 hg2w hbw hr hx hA' hg hgw hxc HROW hsj hm how hB3 hxs hxt e2 e3 e5 e6 hcj hb256
          go_upto_region 12 with fail
          have hbx := BoxS.new wr xq xs xt xp xn 32
          have hba := HBW3.out.alloc hsz3 (.cells #[.int .i64 xq, .string xs, .string xt, .int .i64 xp, .int .i64 xn] 32)
          have hoa := HOW.out.alloc (.cells #[.int .i64 xq, .string xs, .string xt, .int .i64 xp, .int .i64 xn] 32)
          generalize wr.alloc _ = wa at hbx hba hoa ⊢
          obtain ⟨bx, hbxe⟩ : ∃ n, wr.heap.size = n := ⟨_, rfl⟩
          have HNE := Lib.hid (show ∀ j, (Value.slice A9 m c9).ownBlock = some j → j ≠ bx ∧ W0.heap.size ≤ j from fun j ej => by have := HLT.out j ej; exact ⟨by omega, this.1⟩)
          rw [hbxe] at hbx ⊢
          have HBA := Lib.hid hba
          have HOA := Lib.hid hoa
          have HBX := Lib.hid hbx
          have hsza := hba.size
          obtain ⟨z0, z1, z2, z3, z4, z5⟩ := hbx
          clear hba hoa y0 y1 y2 y3 y4 hbxe HLT
          go_wp2_with (at_builtin; refine wpList_append_own _ rfl _ _ 22 rfl W0.heap.size 32 i0 _ 5 56 Tryd.underlying22 hi0 hz0 hz1 hz2 rfl (by decide) _ _ _ rfl (HOA.out.alloc _) ⟨wa.heap.size, 0, none⟩ 1 1 [.int .i64 xq, .string xs, .string xt, .int .i64 xp, .int .i64 xn] rfl rfl (World.news_of_block (cs := #[.int .i64 xq, .string xs, .string xt, .int .i64 xp, .int .i64 xn]) (t := 32) (fr := (0, 0)) (heap_alloc_new wa _)) (by simp [Value.oneCell']) (by unfold maxLen; omega) (by omega) (by simp; omega) ?_; intro v' w8 hown' hgrow _; have HFF := Lib.hid (show w8.ownsRow W0.heap.size 32 5 v' (chosenL M (bs.take (j + 1))).length (rows cR (chosenL M (bs.take (j + 1)))) ∧ Below W0.heap.size W0 w8 from ⟨by rw [HNX.out, HX.out, List.length_append, HMM.out]; exact hown', (HBA.out.alloc hsza _).grown hgrow (by simp; omega) (fun j ej => (HNE.out j ej).2)⟩); have hbx8 := grown_box (HBX.out.kept ((Below.refl wa.heap.size wa).alloc (Nat.le_refl _) (.cells #[.int .i64 xq, .string xs, .string xt, .int .i64 xp, .int .i64 xn] 32))) hgrow (fun j ej => (HNE.out j ej).1); clear hown' hgrow z0 z1 z2 z3 z4 z5; obtain ⟨z0, z1, z2, z3, z4, z5⟩ := hbx8)
          go_roundw
          case rel => exact ⟨j + 1, by go_num, by omega, by rw [HNX.out, HCAT.out], HFF.out.1, HFF.out.2⟩
          case measure => simp [intOf]; omega
        · have HCH := Lib.hid (show chosenL M (bs.take j) = chosenL M bs from by
            rcases Nat.eq_zero_or_pos nm with h0 | h0
            · have : M = [] := List.length_eq_zero_iff.1 (by rw [HNM.out]; exact h0)
              rw [this, chosen_nil, chosen_nil]
            · have : j = nb := by omega
              rw [List.take_of_length_le (by rw [HNB.out]; omega)])
          rw [HCH.out] at how ⊢
          have HOW := Lib.hid how
          have HBW3 := Lib.hid (chain HBW.out HBW.out.size hB3)
          have HSZ := Lib.hid HBW.out.size
          clear how hB3
          by_cases hjn : j < nb
          · have u1 : decide ((j : Int) < (nb : Int)) = true := decide_eq_true (by omega)
            have u2 : decide ((0 : Int) < (nm : Int)) = false := decide_eq_false (by omega)
            have u3 : decide (0 < nm) = false := decide_eq_false (by omega)
            go_wp2
            refine bodyPost_ret (v := .tuple #[u9, .string (bytesOf (cellsR (chosenL M bs)))]) (by simp [results, Tryd.f8, go_sem]) rfl ?_
            exact ⟨_, rfl, own_base HOW.out HSZ.out, HBW3.out⟩
          · have u1 : decide (j < nb) = false := decide_eq_false hjn
            go_wp2
            refine bodyPost_ret (v := .tuple #[u9, .string (bytesOf (cellsR (chosenL M bs)))]) (by simp [results, Tryd.f8, go_sem]) rfl ?_
            exact ⟨_, rfl, own_base HOW.out HSZ.out, HBW3.out⟩
end Go.Proofs.YtlibmfflgpkjmaaDoor.Ck
