/-
  cell.Print.
-/
import Derived.Test.YtalehelgemmmeaaGreatDoorCeI
namespace Go.Proofs.YtalehelgemmmeaaGreatDoor.Ce
open Go.RowKit

theorem isEmpty_no (s : ByteArray) (h : ¬ s.size = 0) : s.toList.isEmpty = false := by
  have := Classical.propDecidable (s = ByteArray.empty)
  rw [← decide_eq_emptyBytes]
  simp only [decide_eq_false_iff_not]
  rintro rfl
  exact h rfl
theorem own_below {W W' : World} {B e size n : Nat} {v : Value} {xs : List Value} (h : W.ownsRow B e size v n xs) (hb : Below W.heap.size W W') : W'.ownsRow B e size v n xs := by
  refine ⟨h.1, ?_⟩
  rcases h.2 with hn | ⟨g, cap, cur, hv, hbg, hg, rest⟩
  · exact .inl hn
  · exact .inr ⟨g, cap, cur, hv, hbg, (hb.block g (Array.getElem?_eq_some_iff.1 hg).1).trans hg, rest⟩
theorem infoStr : (Tryz.prog.info? 9).map (fun i => (i.zero, i.size, i.bytes)) = some (some (.string { data := #[] }), 1, 16) := by kernel_rfl
/-- The dots of the first k, as cells. -/
def strsK (s : ByteArray) (k : Nat) : List Value := (List.range k).map fun j => .string (dotsS (bAt s j))
theorem strsK_succ (s : ByteArray) (k : Nat) : strsK s (k + 1) = strsK s k ++ [.string (dotsS (bAt s k))] := by simp [strsK, List.range_succ]
def dotsXs (s : ByteArray) : List ByteArray := (bytesN s).map dotsS
theorem dotsXs_len (s : ByteArray) : (dotsXs s).length = s.size := by unfold dotsXs; rw [List.length_map, bytesN_len]
theorem strsK_at (s : ByteArray) (j : Nat) (x : ByteArray) (h : (dotsXs s)[j]? = some x) : (strsK s s.size)[j]? = some (.string x) := by
  have hj : j < s.size := by rw [← dotsXs_len]; exact (List.getElem?_eq_some_iff.1 h).1
  have hl : j < (bytesN s).length := by rw [bytesN_len]; exact hj
  have h2 : x = dotsS (bAt s j) := by
    unfold dotsXs at h
    rw [List.getElem?_map, List.getElem?_eq_getElem hl] at h
    unfold bAt
    rw [List.getD_eq_getElem?_getD, List.getElem?_eq_getElem hl]
    simpa using h.symm
  rw [h2]
  unfold strsK
  rw [List.getElem?_map, List.getElem?_range hj]; rfl
theorem join_print : ∀ l : List Nat, Lib.join ((l.map dotsS).map fun (b : ByteArray) => b.data.toList) [45] = (printT l).map UInt8.ofNat
  | [] => rfl
  | [x] => by simp [Lib.join, List.intercalate, printT, dotsS, bytesOf]
  | x :: y :: r => by
    have ih := join_print (y :: r)
    have e : Lib.join (((x :: y :: r).map dotsS).map fun (b : ByteArray) => b.data.toList) [45] = (dotsS x).data.toList ++ 45 :: Lib.join (((y :: r).map dotsS).map fun (b : ByteArray) => b.data.toList) [45] := by
      simp [Lib.join, List.intercalate]
    rw [e, ih]
    simp [printT, dotsS, bytesOf]
def dashS : ByteArray := { data := #[45] }
theorem join_at (s : ByteArray) (h4 : s.size ≤ 4) (g cap : Nat) (w : World) (hc : ∀ (j : Nat) x, (dotsXs s)[j]? = some x → w.cell? ⟨g, 0 + j, none⟩ = some (.string x)) (hg : g < w.heap.size) (hcap : s.size ≤ cap) :
    Calls Tryz.prog 74 #[.slice (some ⟨g, 0, none⟩) s.size cap, .string dashS] w fun e w' => e = .returned (.string (bytesOf (printT (bytesN s)))) ∧ Below w.heap.size w w' := by
  have hj := join_print (bytesN s)
  have hl := printT_len (bytesN s)
  rw [bytesN_len] at hl
  have := Tryz.strings_Join g 0 cap (dotsXs s) dashS w hc hg (by rw [dotsXs_len]; omega) (by rw [dotsXs_len]; exact hcap) (by
    show (Lib.join (((bytesN s).map dotsS).map fun (b : ByteArray) => b.data.toList) [45]).length ≤ _
    rw [hj, List.length_map]; omega)
  rw [dotsXs_len] at this
  refine this.mono fun e w' ⟨he, hb⟩ => ⟨?_, hb⟩
  rw [he]
  show Ending.returned (.string ⟨(Lib.join (((bytesN s).map dotsS).map fun (b : ByteArray) => b.data.toList) [45]).toArray⟩) = _
  rw [hj]; rfl

set_option maxRecDepth 100000 in
set_option maxHeartbeats 4000000 in
/-- cell.Print -/
theorem print_any (s : ByteArray) (hs : s.size ≤ 70000) (w : World) :
    Calls Tryz.prog 56 #[.string s] w fun e w' => e = .returned (.tuple #[.string (printV s), .int .i64 (printE s)]) ∧ Below w.heap.size w w' := by
  by_cases h0 : s.size = 0
  · have hn : ¬ printOK s := fun h => by have := h.1; omega
    have HV := Lib.hid (printV_no hn)
    have HE := Lib.hid (printE_no hn)
    obtain rfl : s = { data := #[] } := ByteArray.size_eq_zero_iff.1 h0
    clear hn h0
    go_enter Tryz.func56, Tryz.ntmps56
    go_wp2
    go_ret2
    exact ⟨ret_se HV.out HE.out, Below.refl _ _⟩
  have e1 : s.toList.isEmpty = false := isEmpty_no s h0
  by_cases h4 : 4 < s.size
  · have hn : ¬ printOK s := fun h => by have := h.2.1; omega
    have HV := Lib.hid (printV_no hn)
    have HE := Lib.hid (printE_no hn)
    clear hn h0
    go_enter Tryz.func56, Tryz.ntmps56
    go_wp2
    go_ret2
    exact ⟨ret_se HV.out HE.out, Below.refl _ _⟩
  have t2 : decide (4 < s.size) = false := by simp; omega
  have h1 : 1 ≤ s.size := by omega
  have h4' : s.size ≤ 4 := by omega
  obtain ⟨i0, hi, hz0, hz1, hz2⟩ := info_parts infoStr
  have hcv := Lib.run_convert_string_bytes (P := Tryz.prog) w 9 105 5 s (u := .string) Tryz.underlying9 Tryz.underlying105 Tryz.underlying5
  have hI0 := BecInv.zero (fun b => b) w s
  have HSZ := Lib.hid (Lib.bytesWorld_size w 5 s)
  clear h0 h4
  go_enter Tryz.func56, Tryz.ntmps56
  go_wp2
  clear hcv
  obtain ⟨W1, hW1⟩ : ∃ W1, Lib.bytesWorld w 5 s = W1 := ⟨_, rfl⟩
  rw [hW1] at hI0 HSZ ⊢
  clear hW1
  go_loopw [4, 17] (fun v i wr => ∃ k : Nat, k ≤ s.size ∧ i = .int .i64 k ∧ wr.ownsRow (w.heap.size + 1) 9 1 v k (strsK s k) ∧ Below (w.heap.size + 1) W1 wr ∧ allP okP s k) (fun _ i _ => s.size - (intOf i).toNat)
  case atStart => exact ⟨0, by omega, rfl, World.ownsRow_nil _ _ _ _, Below.refl _ _, allP.zero _ _⟩
  case round =>
    obtain ⟨k, hk, rfl, hown, hB, hA⟩ := hrel
    have hsz := hB.size
    rw [HSZ.out] at hsz
    have hBw : Below w.heap.size w wr := hI0.2.2.trans (hB.mono (by omega))
    by_cases hlt : k < s.size
    · have hc : wr.cell? ⟨w.heap.size, k, none⟩ = some (.int .u8 ((bAt s k : Nat) : Int)) := by
        rw [hB.cell (p := ⟨w.heap.size, k, none⟩) (by simp), hI0.1 k hlt, if_neg (by omega)]
      have h256 := bAt_lt s k
      by_cases hp : okP (bAt s k) = true
      · have hA2 := hA.succ hp
        have hb : bAt s k ≠ 0 ∧ bAt s k ≤ 63 := by unfold okP at hp; simpa using hp
        obtain ⟨hb0, hb63⟩ := hb
        have u1 : (((bAt s k : Nat) : Int) == 0) = false := beq_eq_false_iff_ne.2 (by omega)
        have u2 : decide (63 < ((bAt s k : Nat) : Int)) = false := by simp; omega
        clear hp hb0
        go_wp2_with (first
          | (go_at_call 73; refine (dots_any (bAt s k) h256 _).mono ?_; rintro e w2 ⟨rfl, hb2⟩; have hown2 := own_below hown hb2; have hsz2 := hb2.size)
          | (at_builtin; refine wpList_append_own _ rfl _ _ 70 rfl (w.heap.size + 1) 9 i0 (.string { data := #[] }) 1 16 Tryz.underlying70 hi hz0 hz1 hz2 rfl (by decide) _ _ _ rfl (hown2.alloc _) ⟨w2.heap.size, 0, none⟩ 1 1 [.string (dotsS (bAt s k))] rfl rfl (cell_one_new _ _ _) (by simp [Value.oneCell']) (by unfold maxLen; omega) (by omega) (by simp; omega) ?_; intro v' w3 hown' hgrow _))
        have hB2 : Below (w.heap.size + 1) W1 w3 := ((hB.trans (hb2.mono hsz)).alloc (by omega) _).grown hgrow (by simp; omega) (fun j ej => by have := (hown2.lt j ej).1; omega)
        exact ⟨⟨k + 1, by omega, by go_num, by rw [strsK_succ]; exact hown', hB2, hA2⟩, by simp [intOf]; omega⟩
      · have hp' : okP (bAt s k) = false := by simpa using hp
        have hbad := badAt_at hA hlt hp'
        have hn : ¬ printOK s := fun h => by have := h.2.2; omega
        have HV := Lib.hid (printV_no hn)
        have HE := Lib.hid (printE_no hn)
        have hb : bAt s k = 0 ∨ 63 < bAt s k := by
          unfold okP at hp'; simp only [ne_eq, decide_eq_false_iff_not] at hp'; omega
        clear hp hp' hbad hn hA
        by_cases hb0 : bAt s k = 0
        · have u1 : (((bAt s k : Nat) : Int) == 0) = true := by rw [hb0]; rfl
          clear hb0 hb
          go_wp2
          go_ret2
          exact ⟨ret_se HV.out HE.out, hBw⟩
        · have u1 : (((bAt s k : Nat) : Int) == 0) = false := beq_eq_false_iff_ne.2 (by omega)
          have u2 : 63 < bAt s k := by omega
          clear hb0 hb
          go_wp2
          go_ret2
          exact ⟨ret_se HV.out HE.out, hBw⟩
    · obtain rfl : k = s.size := by omega
      have hok : printOK s := ⟨h1, h4', badAt_all hA⟩
      have HV := Lib.hid (show bytesOf (printT (bytesN s)) = printV s by unfold printV; rw [if_pos hok])
      have HE := Lib.hid (show (0 : Int) = printE s by unfold printE; rw [if_pos hok])
      rcases hown.2 with ⟨_, h0⟩ | ⟨g, cap, cur, rfl, hg0, hg1, hcap, _⟩
      · omega
      · have hgs : g < wr.heap.size := (Array.getElem?_eq_some_iff.1 hg1).1
        have hcs : ∀ (j : Nat) x, (dotsXs s)[j]? = some x → wr.cell? ⟨g, 0 + j, none⟩ = some (.string x) := fun j x hx => by
          have hj : j < s.size := by rw [← dotsXs_len]; exact (List.getElem?_eq_some_iff.1 hx).1
          rw [Nat.zero_add, hown.cellAt j (by omega)]
          exact strsK_at s j x hx
        have HCS := Lib.hid hcs
        clear hok hcs hg1
        go_wp2_with (go_at_call 74; refine (join_at s h4' g cap wr HCS.out hgs hcap).mono ?_; rintro e w2 ⟨rfl, hb2⟩)
        go_ret2
        exact ⟨ret_se HV.out HE.out, hBw.trans (hb2.mono hBw.size)⟩
end Go.Proofs.YtalehelgemmmeaaGreatDoor.Ce
