/-
  cell.Print, and the document's.
-/
import Derived.Test.YtjflefchhbihkaaGreatDoorEb
namespace Go.Proofs.YtjflefchhbihkaaGreatDoor.Ce
open Go.RowKit

/-- The text of cells. -/
def printT : List Nat → List Nat
  | [] => []
  | [x] => dotsN x 6
  | x :: y :: r => dotsN x 6 ++ 45 :: printT (y :: r)
theorem printT_snoc (x : Nat) : ∀ l : List Nat, l ≠ [] → printT (l ++ [x]) = printT l ++ 45 :: dotsN x 6
  | [], h => absurd rfl h
  | [y], _ => rfl
  | y :: z :: r, _ => by
    have ih := printT_snoc x (z :: r) (by simp)
    show dotsN y 6 ++ 45 :: printT ((z :: r) ++ [x]) = (dotsN y 6 ++ 45 :: printT (z :: r)) ++ 45 :: dotsN x 6
    rw [ih]; simp
theorem printT_len : ∀ l : List Nat, (printT l).length ≤ 7 * l.length
  | [] => by simp [printT]
  | [x] => by have := dotsN_len x 6; simp only [printT, List.length_cons, List.length_nil]; omega
  | x :: y :: r => by
    have ih := printT_len (y :: r)
    have := dotsN_len x 6
    simp only [printT, List.length_append, List.length_cons] at ih ⊢
    omega
def okP (b : Nat) : Bool := decide (b ≠ 0 ∧ b ≤ 63)
def printOK (s : ByteArray) : Prop := 1 ≤ s.size ∧ s.size ≤ 4 ∧ badAt okP s = s.size
instance (s : ByteArray) : Decidable (printOK s) := by unfold printOK; infer_instance
def printV (s : ByteArray) : ByteArray := if printOK s then bytesOf (printT (bytesN s)) else emptyS
def printE (s : ByteArray) : Int := if printOK s then 0 else 1
theorem printV_no {s : ByteArray} (h : ¬ printOK s) : emptyS = printV s := by unfold printV; rw [if_neg h]
theorem printE_no {s : ByteArray} (h : ¬ printOK s) : 1 = printE s := by unfold printE; rw [if_neg h]

set_option maxRecDepth 100000 in
set_option maxHeartbeats 4000000 in
/-- stylusref02.Print -/
theorem rprint_any (s : ByteArray) (hs : s.size ≤ 70000) (w : World) :
    Calls Tryz.prog 60 #[.string s] w fun e w' => e = .returned (.tuple #[.string (printV s), .int .i64 (printE s)]) ∧ Below w.heap.size w w' := by
  by_cases h0 : s.size = 0
  · have hn : ¬ printOK s := fun h => by have := h.1; omega
    have HV := Lib.hid (printV_no hn)
    have HE := Lib.hid (printE_no hn)
    have t1 : (((s.size : Nat) : Int) == 0) = true := by rw [h0]; rfl
    clear hn h0
    go_enter Tryz.func60, Tryz.ntmps60
    go_wp2
    go_ret2
    exact ⟨ret_se HV.out HE.out, Below.refl _ _⟩
  by_cases h4 : 4 < s.size
  · have hn : ¬ printOK s := fun h => by have := h.2.1; omega
    have HV := Lib.hid (printV_no hn)
    have HE := Lib.hid (printE_no hn)
    have t1 : (((s.size : Nat) : Int) == 0) = false := beq_eq_false_iff_ne.2 (by omega)
    clear hn h0
    go_enter Tryz.func60, Tryz.ntmps60
    go_wp2
    go_ret2
    exact ⟨ret_se HV.out HE.out, Below.refl _ _⟩
  have t1 : (((s.size : Nat) : Int) == 0) = false := beq_eq_false_iff_ne.2 (by omega)
  have t2 : decide (4 < s.size) = false := by simp; omega
  have h1 : 1 ≤ s.size := by omega
  have h4' : s.size ≤ 4 := by omega
  clear h0 h4
  go_enter Tryz.func60, Tryz.ntmps60
  go_wp2
  go_loopw [4, 5] (fun v i wr => ∃ (k : Nat) (t : ByteArray), k ≤ s.size ∧ i = .int .i64 k ∧ v = .string t ∧ t = bytesOf (printT ((bytesN s).take k)) ∧ allP okP s k ∧ Below w.heap.size w wr) (fun _ i _ => s.size - (intOf i).toNat)
  case atStart => exact ⟨0, _, by omega, rfl, rfl, rfl, allP.zero _ _, Below.refl _ _⟩
  case round =>
    obtain ⟨k, t, hk, rfl, rfl, ht, hA, hB⟩ := hrel
    have htl : t.size ≤ 7 * 4 := by
      rw [ht, bytesOf_size]
      refine Nat.le_trans (printT_len _) ?_
      rw [List.length_take]; omega
    by_cases hlt : k < s.size
    · have h256 := bAt_lt s k
      have E1 := bAt_get s k hlt
      have hT := take_snoc s k hlt
      by_cases hp : okP (bAt s k) = true
      · have hA2 := hA.succ hp
        have hb : bAt s k ≠ 0 ∧ bAt s k ≤ 63 := by unfold okP at hp; simpa using hp
        have HT := Lib.hid ht
        have HT2 := Lib.hid hT
        have hdl : (dotsS (bAt s k)).size ≤ 6 := by rw [dotsS_size]; exact popN_le _
        obtain ⟨b, hbb⟩ : ∃ b, bAt s k = b := ⟨_, rfl⟩
        rw [hbb] at E1 hb h256 hdl HT2
        obtain ⟨hb0, hb63⟩ := hb
        have u1 : ((b : Int) == 0) = false := by simp; omega
        have u2 : decide (63 < (b : Int)) = false := by simp; omega
        clear hp ht hT hb0 hbb
        by_cases hk0 : k = 0
        · subst hk0
          have HX := Lib.hid (show t ++ dotsS b = bytesOf (printT ((bytesN s).take (0 + 1))) by
            rw [HT2.out, HT.out]
            simp only [List.take_zero, List.nil_append, printT]
            show bytesOf [] ++ bytesOf (dotsN b 6) = _
            rw [← bytesOf_append]; rfl)
          go_wp2_with (go_at_call 79; refine (rdots_any b h256 _).mono ?_; rintro e w' ⟨rfl, hb⟩)
          exact ⟨⟨0 + 1, _, by omega, by go_num, rfl, HX.out, hA2, hB.trans (hb.mono hB.size)⟩, by simp [intOf]; omega⟩
        · have hk1 : 0 < k := by omega
          have HX := Lib.hid (show t ++ { data := #[45] } ++ dotsS b = bytesOf (printT ((bytesN s).take (k + 1))) by
            rw [HT2.out, printT_snoc _ _ (by
              intro e
              have := congrArg List.length e
              rw [List.length_take, bytesN_len] at this
              simp only [List.length_nil] at this
              omega), bytesOf_append, HT.out, ByteArray.append_assoc]
            congr 1)
          have hz : (t ++ { data := #[45] }).size ≤ 7 * 4 + 1 := by
            rw [ByteArray.size_append]
            show t.size + 1 ≤ _
            omega
          clear hk0
          go_wp2_with (go_at_call 79; refine (rdots_any b h256 _).mono ?_; rintro e w' ⟨rfl, hb⟩)
          exact ⟨⟨k + 1, _, by omega, by go_num, rfl, HX.out, hA2, hB.trans (hb.mono hB.size)⟩, by simp [intOf]; omega⟩
      · have hp' : okP (bAt s k) = false := by simpa using hp
        have hbad := badAt_at hA hlt hp'
        have hn : ¬ printOK s := fun h => by have := h.2.2; omega
        have HV := Lib.hid (printV_no hn)
        have HE := Lib.hid (printE_no hn)
        have hb : bAt s k = 0 ∨ 63 < bAt s k := by
          unfold okP at hp'; simp only [ne_eq, decide_eq_false_iff_not] at hp'; omega
        obtain ⟨b, hbb⟩ : ∃ b, bAt s k = b := ⟨_, rfl⟩
        rw [hbb] at E1 hb
        clear hp hp' hbad hn ht hT hbb hA
        by_cases hb0 : b = 0
        · have u1 : ((b : Int) == 0) = true := by rw [hb0]; rfl
          clear hb0 hb
          go_wp2
          go_ret2
          exact ⟨ret_se HV.out HE.out, hB⟩
        · have u1 : ((b : Int) == 0) = false := by simp; omega
          have u2 : 63 < b := by omega
          clear hb0 hb
          go_wp2
          go_ret2
          exact ⟨ret_se HV.out HE.out, hB⟩
    · obtain rfl : k = s.size := by omega
      have hok : printOK s := ⟨h1, h4', badAt_all hA⟩
      have HV := Lib.hid (show t = printV s by unfold printV; rw [if_pos hok, ht, ← bytesN_len, List.take_length])
      have HE := Lib.hid (show (0 : Int) = printE s by unfold printE; rw [if_pos hok])
      clear ht hok
      go_wp2
      go_ret2
      exact ⟨ret_se HV.out HE.out, hB⟩
end Go.Proofs.YtjflefchhbihkaaGreatDoor.Ce
