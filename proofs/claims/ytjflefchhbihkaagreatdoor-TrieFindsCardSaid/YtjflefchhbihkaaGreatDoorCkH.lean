/-
  Layer 9's document: what is missing.
-/
import Derived.Test.YtjflefchhbihkaaGreatDoorQc
import Derived.Test.YtjflefchhbihkaaGreatDoorCeQ
namespace Go.Proofs.YtjflefchhbihkaaGreatDoor.Ck
open Go.RowKit Ba Ru

theorem not_empty {M : ByteArray} (h : M ≠ { data := #[] }) : M.toList.isEmpty = false := by
  rw [ByteArray.toList_eq, List.isEmpty_eq_false_iff]
  intro e
  apply h
  apply ByteArray.ext
  apply Array.ext'
  exact e
theorem want_a : ∀ k : Fin 26, wantL[k.val]? = some (1, [97 + k.val]) := by decide +kernel
theorem want_a' (k : Fin 26) : wantL[0 + k.val]? = some (1, [97 + k.val]) := by rw [Nat.zero_add]; exact want_a k
theorem want_b : ∀ k : Fin 12, wantL[26 + k.val]? = some (6, [Ka.markL.getD k.val 0]) := by decide +kernel
theorem want_c : ∀ k : Fin 10, wantL[38 + k.val]? = some (7, [48 + k.val]) := by decide +kernel
theorem want_d : ∀ k : Fin 13, wantL[48 + k.val]? = some (8, namesL.getD k.val []) := by decide +kernel
theorem want_size : wantL.length = 61 := by decide +kernel
/-- The first n that are wanted are there. -/
def HadTo (l : List Rl) (n : Nat) : Prop := ∀ j, j < n → ∀ v, wantL[j]? = some v → hasB l v = true
theorem HadTo.step {l : List Rl} {n : Nat} {v : Int × List Nat} (h : HadTo l n) (hv : wantL[n]? = some v) (hb : hasB l v = true) : HadTo l (n + 1) := fun j hj u hu => by
  rcases Nat.lt_or_ge j n with h1 | h1
  · exact h j h1 u hu
  · obtain rfl : j = n := by omega
    rw [hv] at hu; cases hu; exact hb
theorem HadTo.miss {l : List Rl} {n : Nat} {v : Int × List Nat} (h : HadTo l n) (hv : wantL[n]? = some v) (hb : hasB l v = false) : missR l = v.2 := by
  unfold missR
  have hf : wantL.find? (fun w => !hasB l w) = some v := by
    rw [List.find?_eq_some_iff_getElem]
    obtain ⟨hn, e⟩ := List.getElem?_eq_some_iff.1 hv
    refine ⟨by rw [hb]; rfl, n, hn, e, fun j hj => ?_⟩
    rw [h j hj _ (List.getElem?_eq_getElem (by omega))]; rfl
  rw [hf]
theorem HadTo.all {l : List Rl} (h : HadTo l 61) : missR l = [] := (miss_nil l).2 fun w hw => by
  obtain ⟨j, hj, e⟩ := List.getElem_of_mem hw
  exact h j (by rw [← want_size]; exact hj) w (by rw [List.getElem?_eq_getElem hj, e])
theorem marks_n : bytesN Ka.marksS = Ka.markL := by decide +kernel
theorem mark_ext (k : Fin 12) : bytesN (Ka.marksS.extract k.val (k.val + 1)) = [Ka.markL.getD k.val 0] := by
  rw [bytesN_ext, marks_n]
  revert k
  decide +kernel
theorem marks_size : Ka.marksS.size = 12 := by decide +kernel
theorem back_one (w : World) (n : Nat) (hn : n < 256) (z : Int) (hz : (n : Int) = z) :
    (convert 54 9 (.slice (some ⟨w.heap.size, 0, none⟩) 1 1)).run Tryz.prog (w.alloc (.cells #[.int .u8 z] 5)) = .ok (.string (bytesOf [n])) (w.alloc (.cells #[.int .u8 z] 5)) := by
  subst hz
  exact Ce.back_of_row [n] (fun x hx => by rw [List.mem_singleton.1 hx]; exact hn) (World.ownsRow_lit (base := w.heap.size) (e := 5) (size := 1) w #[.int .u8 (n : Int)] 1 (Nat.le_refl _) (by decide) rfl)
set_option maxRecDepth 100000 in
set_option maxHeartbeats 8000000 in
/-- stylusref09.Missing -/
theorem rmissing_any (v : Value) (l : List Rl) (off : Nat) (hl : l.length ≤ 1000000) (hf : ∀ x ∈ l, FitR x) (m : List Nat) (hm : missR l = m) (w : World) (hv : ReadsR off w w.heap.size v l) :
    Calls Tryz.prog 29 #[v] w fun e w' => e = .returned (.string (bytesOf m)) ∧ Below w.heap.size w w' := by
  have HRV := Lib.hid hv
  have HF := Lib.hid hf
  have HM := Lib.hid hm
  obtain ⟨A, c, rfl, -⟩ := hv
  clear hf hm
  obtain ⟨nl, hnl⟩ : ∃ nl, l.length = nl := ⟨_, rfl⟩
  rw [hnl] at HRV ⊢
  clear hnl
  go_enter Tryz.func29, Tryz.ntmps29
  go_wp2
  go_loopw [3] (fun i wr => ∃ k : Nat, k ≤ 26 ∧ i = .int .i64 k ∧ HadTo l (0 + k) ∧ Below w.heap.size w wr) (fun i _ => 26 - (intOf i).toNat)
  case atStart => exact ⟨0, by omega, rfl, (fun j hj => by omega), Below.refl _ _⟩
  case round =>
    obtain ⟨k, hk, rfl, hN, hB⟩ := hrel
    have HH := Lib.hid hN
    have HBW := Lib.hid hB
    clear hN hB
    by_cases hlt : k < 26
    · have hback := back_one wr (97 + k) (by omega) (97 + (k : Int)) (by omega)
      have hv : wantL[0 + k]? = some (1, [97 + k]) := want_a' ⟨k, hlt⟩
      obtain ⟨hb, hhb⟩ : ∃ hb, hasB l (1, [97 + k]) = hb := ⟨_, rfl⟩
      have HV := Lib.hid hv
      have HHB := Lib.hid hhb
      have HAS := Lib.hid (show ∀ W, Below w.heap.size w W → Calls Tryz.prog 45 #[.slice A nl c, .int .i64 1, .string (bytesOf [97 + k])] W fun e w' => e = .returned (.bool hb) ∧ w' = W from fun W hW => by
        have h := rhas_any _ l off 1 (bytesOf [97 + k]) hl HF.out W w.heap.size (HRV.out.below hW)
        rw [bytesN_bytesOf _ (fun x hx => by rw [List.mem_singleton.1 hx]; omega), hhb] at h
        exact h)
      have t1 : decide ((k : Int) < 26) = true := decide_eq_true (by omega)
      clear hv hhb
      go_wp2_with fail
      have HB2 := Lib.hid (HBW.out.alloc HBW.out.size (.cells #[.int .u8 (97 + (k : Int))] 5))
      refine (HAS.out _ HB2.out).mono ?_
      rintro e w2 ⟨rfl, rfl⟩
      cases hb
      case true =>
        have HNX := Lib.hid (HH.out.step HV.out HHB.out)
        clear hback
        generalize wr.alloc _ = w3 at HB2 ⊢
        go_wp2
        go_roundw
        case rel => exact ⟨k + 1, by omega, by go_num, HNX.out, HB2.out⟩
        case measure => simp [intOf]; omega
      case false =>
        have HE := Lib.hid (HH.out.miss HV.out HHB.out)
        clear hback
        generalize wr.alloc _ = w3 at HB2 ⊢
        go_wp2
        go_ret
        exact ⟨ret_str (by rw [← HM.out, HE.out]), HB2.out⟩
    · have HH := Lib.hid (show HadTo l 26 from by
        obtain rfl : k = 26 := by omega
        exact HH.out)
      have tz : decide ((k : Int) < 26) = false := decide_eq_false (by omega)
      clear hlt
      go_wp2_with fail
      refine (Ka.rmarks_any _).mono ?_
      rintro e w' ⟨rfl, rfl⟩
      obtain ⟨M, hM⟩ : ∃ M, Ka.marksS = M := ⟨_, rfl⟩
      rw [hM]
      have hMs : M.size = 12 := by rw [← hM]; exact marks_size
      have HMX := Lib.hid (show ∀ k : Fin 12, bytesN (M.extract k.val (k.val + 1)) = [Ka.markL.getD k.val 0] by rw [← hM]; exact mark_ext)
      have hM1 : M.size ≤ 12 := by omega
      have hM2 : 12 ≤ M.size := by omega
      clear hM hMs
      go_wp2
      go_loopw [6] (fun i wr => ∃ k : Nat, k ≤ 12 ∧ i = .int .i64 k ∧ HadTo l (26 + k) ∧ Below w.heap.size w wr) (fun i _ => 12 - (intOf i).toNat)
      case atStart => exact ⟨0, by omega, rfl, HH.out, HBW.out⟩
      case round =>
        obtain ⟨k, hk, rfl, hN, hB⟩ := hrel
        clear HH HBW
        have HH := Lib.hid hN
        have HBW := Lib.hid hB
        clear hN hB
        by_cases hlt : k < 12
        · have hv : wantL[26 + k]? = some (6, [Ka.markL.getD k 0]) := want_b ⟨k, hlt⟩
          obtain ⟨P, hP⟩ : ∃ P, M.extract k (k + 1) = P := ⟨_, rfl⟩
          have hPN : bytesN P = [Ka.markL.getD k 0] := by rw [← hP]; exact HMX.out ⟨k, hlt⟩
          obtain ⟨hb, hhb⟩ : ∃ hb, hasB l (6, [Ka.markL.getD k 0]) = hb := ⟨_, rfl⟩
          have HV := Lib.hid hv
          have HHB := Lib.hid hhb
          have HPN := Lib.hid hPN
          have HP := Lib.hid hP
          have HAS := Lib.hid (show ∀ W, Below w.heap.size w W → Calls Tryz.prog 45 #[.slice A nl c, .int .i64 6, .string (M.extract k (k + 1))] W fun e w' => e = .returned (.bool hb) ∧ w' = W from fun W hW => by
            rw [hP]
            have h := rhas_any _ l off 6 P hl HF.out W w.heap.size (HRV.out.below hW)
            rw [hPN, hhb] at h
            exact h)
          have t1 : decide ((k : Int) < (M.size : Int)) = true := decide_eq_true (by omega)
          clear hv hhb hPN hP
          go_wp2_with fail
          refine (HAS.out _ HBW.out).mono ?_
          rintro e w2 ⟨rfl, rfl⟩
          cases hb
          case true =>
            have HNX := Lib.hid (HH.out.step HV.out HHB.out)
            go_wp2
            go_roundw
            case rel => exact ⟨k + 1, by omega, by go_num, HNX.out, HBW.out⟩
            case measure => simp [intOf]; omega
          case false =>
            have HE := Lib.hid (HH.out.miss HV.out HHB.out)
            go_wp2
            go_ret
            exact ⟨ret_str (by rw [← HM.out, HE.out]; exact eq_lit _ (by rw [HP.out]; exact HPN.out)), HBW.out⟩
        · have HH := Lib.hid (show HadTo l 38 from by
            obtain rfl : k = 12 := by omega
            exact HH.out)
          have tz : decide ((k : Int) < (M.size : Int)) = false := decide_eq_false (by omega)
          have tz2 : decide (k < M.size) = false := decide_eq_false (by omega)
          clear hlt
          go_wp2
          go_loopw [7] (fun i wr => ∃ k : Nat, k ≤ 10 ∧ i = .int .i64 k ∧ HadTo l (38 + k) ∧ Below w.heap.size w wr) (fun i _ => 10 - (intOf i).toNat)
          case atStart => exact ⟨0, by omega, rfl, HH.out, HBW.out⟩
          case round =>
            obtain ⟨k, hk, rfl, hN, hB⟩ := hrel
            clear HH HBW
            have HH := Lib.hid hN
            have HBW := Lib.hid hB
            clear hN hB
            by_cases hlt : k < 10
            · have hback := back_one wr (48 + k) (by omega) (48 + (k : Int)) (by omega)
              have hv : wantL[38 + k]? = some (7, [48 + k]) := want_c ⟨k, hlt⟩
              obtain ⟨hb, hhb⟩ : ∃ hb, hasB l (7, [48 + k]) = hb := ⟨_, rfl⟩
              have HV := Lib.hid hv
              have HHB := Lib.hid hhb
              have HAS := Lib.hid (show ∀ W, Below w.heap.size w W → Calls Tryz.prog 45 #[.slice A nl c, .int .i64 7, .string (bytesOf [48 + k])] W fun e w' => e = .returned (.bool hb) ∧ w' = W from fun W hW => by
                have h := rhas_any _ l off 7 (bytesOf [48 + k]) hl HF.out W w.heap.size (HRV.out.below hW)
                rw [bytesN_bytesOf _ (fun x hx => by rw [List.mem_singleton.1 hx]; omega), hhb] at h
                exact h)
              have t1 : decide ((k : Int) < 10) = true := decide_eq_true (by omega)
              clear hv hhb
              go_wp2_with fail
              have HB2 := Lib.hid (HBW.out.alloc HBW.out.size (.cells #[.int .u8 (48 + (k : Int))] 5))
              refine (HAS.out _ HB2.out).mono ?_
              rintro e w2 ⟨rfl, rfl⟩
              cases hb
              case true =>
                have HNX := Lib.hid (HH.out.step HV.out HHB.out)
                clear hback
                generalize wr.alloc _ = w3 at HB2 ⊢
                go_wp2
                go_roundw
                case rel => exact ⟨k + 1, by omega, by go_num, HNX.out, HB2.out⟩
                case measure => simp [intOf]; omega
              case false =>
                have HE := Lib.hid (HH.out.miss HV.out HHB.out)
                clear hback
                generalize wr.alloc _ = w3 at HB2 ⊢
                go_wp2
                go_ret
                exact ⟨ret_str (by rw [← HM.out, HE.out]), HB2.out⟩
            · have HH := Lib.hid (show HadTo l 48 from by
                obtain rfl : k = 10 := by omega
                exact HH.out)
              have tz : decide ((k : Int) < 10) = false := decide_eq_false (by omega)
              clear hlt
              go_wp2_with fail
              refine (rnames_any _).mono ?_
              rintro e w4 ⟨v4, rfl, own, hb4⟩
              have HB4 := Lib.hid (chain HBW.out HBW.out.size hb4)
              have HO4 := Lib.hid own
              obtain ⟨g, cap, rfl, -, -, hcap⟩ := own_slice own (by decide)
              clear own hb4
              go_wp2
              go_loopw [10] (fun i wr => ∃ k : Nat, k ≤ 13 ∧ i = .int .i64 k ∧ HadTo l (48 + k) ∧ wr = w4) (fun i _ => 13 - (intOf i).toNat)
              case atStart => exact ⟨0, by omega, rfl, HH.out, rfl⟩
              case round =>
                obtain ⟨k, hk, rfl, hN, rfl⟩ := hrel
                clear HH HBW
                have HH := Lib.hid hN
                clear hN
                by_cases hlt : k < 13
                · have hv : wantL[48 + k]? = some (8, namesL.getD k []) := want_d ⟨k, hlt⟩
                  obtain ⟨d, hd⟩ : ∃ d, namesL[k]? = some d := ⟨_, List.getElem?_eq_getElem (show k < namesL.length from hlt)⟩
                  rw [List.getD_eq_getElem?_getD, hd, Option.getD_some] at hv
                  have C1 : wr.cell? ⟨g, k, none⟩ = some (.string (bytesOf d)) := by
                    have := HO4.out.cellAt (k * 1 + 0) (by show k * 1 + 0 < 13 * 1; omega)
                    rw [rows_at cS cS_len namesL k d hd 0 (by omega)] at this
                    simpa [cS] using this
                  have hdl : ∀ x ∈ d, x < 256 := by
                    have hx : ∀ j : Fin 13, ∀ x ∈ namesL[j.val]?.getD [], x < 256 := by decide +kernel
                    have := hx ⟨k, hlt⟩
                    rw [hd] at this
                    exact this
                  obtain ⟨hb, hhb⟩ : ∃ hb, hasB l (8, d) = hb := ⟨_, rfl⟩
                  have HV := Lib.hid hv
                  have HHB := Lib.hid hhb
                  have HAS := Lib.hid (show Calls Tryz.prog 45 #[.slice A nl c, .int .i64 8, .string (bytesOf d)] wr fun e w' => e = .returned (.bool hb) ∧ w' = wr by
                    have h := rhas_any _ l off 8 (bytesOf d) hl HF.out wr w.heap.size (HRV.out.below HB4.out)
                    rw [bytesN_bytesOf d hdl, hhb] at h
                    exact h)
                  have k0 : (0 : Int) ≤ (k : Int) := by omega
                  have k1 : (k : Int) < 13 := by omega
                  clear hv hhb hdl hd
                  go_wp2_with fail
                  refine HAS.out.mono ?_
                  rintro e w2 ⟨rfl, rfl⟩
                  cases hb
                  case true =>
                    have HNX := Lib.hid (HH.out.step HV.out HHB.out)
                    go_wp2
                    go_roundw
                    case rel => exact ⟨k + 1, by omega, by go_num, HNX.out, trivial⟩
                    case measure => simp [intOf]; omega
                  case false =>
                    have HE := Lib.hid (HH.out.miss HV.out HHB.out)
                    go_wp2
                    go_ret
                    exact ⟨ret_str (by rw [← HM.out, HE.out]), HB4.out⟩
                · obtain rfl : k = 13 := by omega
                  have HE := Lib.hid HH.out.all
                  go_wp2
                  go_ret
                  exact ⟨ret_str (by rw [← HM.out, HE.out]; rfl), HB4.out⟩
end Go.Proofs.YtjflefchhbihkaaGreatDoor.Ck
