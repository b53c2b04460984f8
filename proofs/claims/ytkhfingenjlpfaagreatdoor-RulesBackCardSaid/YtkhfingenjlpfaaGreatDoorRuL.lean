/-
  RulesBack, whatever it is called with.
-/
import Derived.Test.YtkhfingenjlpfaaGreatDoorRuK
import Derived.Test.YtkhfingenjlpfaaGreatDoorRvR
namespace Go.Proofs.YtkhfingenjlpfaaGreatDoor.Ru
open Go.RowKit Ba

set_option maxRecDepth 100000 in
set_option maxHeartbeats 16000000 in
/-- styluslaw08.RulesBack -/
theorem rback_row (R : RLands) (l : List Rl) (A : Option Addr) (off c : Nat) (s : ByteArray) (hs : s.size ≤ maxLen) (w : World) (hL : LaidR w) (hcl : l.length ≤ c) (hcm : c ≤ maxLen) (hf : ∀ x ∈ l, FitR x) (hl : ReadsR off w w.heap.size (.slice A l.length c) l) :
    Calls Tryz.prog 5 #[.slice A l.length c, .string s] w fun e w' => e = .returned (.bool true) ∧ Below w.heap.size w w' := by
  have HL := Lib.hid hL
  have hLN := hL.1
  have HV := Lib.hid hl
  have hlm : l.length ≤ maxLen := Nat.le_trans hcl hcm
  have HC := Lib.hid (show CapsR (.slice A l.length c) from fun A' n c' e => by injection e with _ e1 e2; subst e1; subst e2; exact ⟨hcl, hcm⟩)
  have HF := Lib.hid hf
  clear hL hl hf hcl hcm
  obtain ⟨nl, hnl⟩ : ∃ nl, l.length = nl := ⟨_, rfl⟩
  rw [hnl] at HV HC hlm ⊢
  have HNL := Lib.hid hnl
  clear hnl
  obtain ⟨lb, hlb⟩ : ∃ lb, longV l = lb := ⟨_, rfl⟩
  have HLB := Lib.hid hlb
  clear hlb
  go_enter Tryz.func5, Tryz.ntmps5
  cases lb
  case true =>
    go_wp2_with fail
    refine (long8_at _ l off (by rw [HNL.out]; exact hlm) _ _ HV.out true HLB.out).mono ?_
    rintro e w' ⟨rfl, rfl⟩
    go_wp2_with fail
    refine (awake8 R _ HL.out).mono ?_
    rintro e w' ⟨rfl, hb⟩
    go_wp2
    go_ret
    exact ⟨rfl, hb⟩
  case false =>
    obtain ⟨hl5, hl50⟩ := not_long HLB.out
    rw [HNL.out] at hl5
    by_cases hbig : 5000 < s.size
    · go_wp2_with fail
      refine (long8_at _ l off (by rw [HNL.out]; exact hlm) _ _ HV.out false HLB.out).mono ?_
      rintro e w' ⟨rfl, rfl⟩
      go_wp2_with fail
      refine (awake8 R _ HL.out).mono ?_
      rintro e w' ⟨rfl, hb⟩
      go_wp2
      go_ret
      exact ⟨rfl, hb⟩
    · have tb : decide (5000 < (s.size : Int)) = false := decide_eq_false (by omega)
      have s5 : s.size ≤ 5000 := by omega
      have HFX := Lib.hid (show ∀ x ∈ l, FitR x ∧ x.left.length ≤ 9000 ∧ x.cells.length ≤ 9000 from fun x hx => ⟨HF.out x hx, by have := (hl50 x hx).1; omega, by have := (hl50 x hx).2; omega⟩)
      obtain ⟨t, zn, hpz⟩ : ∃ t zn, printZ l = (t, zn) := ⟨_, _, rfl⟩
      have HPR := Lib.hid (fun W hW hv => R.print_at _ l off (by rw [HNL.out]; omega) HFX.out HC.out (bytesOf t) ((zn : Nat) : Int) (by rw [hpz]) (by rw [hpz]) W hW hv)
      have hbk := fun h0 : zn = 0 => back_rules (show printZ l = (t, 0) by rw [hpz, h0]) HF.out
      obtain ⟨a, ha⟩ : ∃ a, bytesOf t = a := ⟨_, rfl⟩
      rw [ha] at HPR hbk
      have ham : a.size ≤ maxLen := by
        rw [← ha, bytesOf_size]
        by_cases h0 : zn = 0
        · have h1 := printZ_ok_may (show printZ l = (t, 0) by rw [hpz, h0])
          have h2 := text_len l h1.1
          rw [h1.2]
          rw [HNL.out] at h2
          unfold maxLen
          omega
        · have : t = [] := by
            unfold printZ printR at hpz
            split at hpz
            · exact (Prod.mk.inj hpz).1.symm
            · split at hpz
              · exact absurd (Prod.mk.inj hpz).2.symm h0
              · exact (Prod.mk.inj hpz).1.symm
          rw [this]; exact Nat.zero_le _
      clear hbig hpz ha hl50
      go_wp2_with fail
      refine (long8_at _ l off (by rw [HNL.out]; exact hlm) _ _ HV.out false HLB.out).mono ?_
      rintro e w' ⟨rfl, rfl⟩
      go_wp2_with fail
      refine (HPR.out _ HL.out HV.out).mono ?_
      rintro e w1 ⟨rfl, hb1⟩
      have HB1 := Lib.hid hb1
      have HL1 := Lib.hid (HL.out.below hb1 hLN)
      have HV1 := Lib.hid ((HV.out.below hb1).mono hb1.size)
      clear hb1
      go_upto_if 33 with fail
      go_cut [] (fun wx => Below w'.heap.size w' wx)
      case first =>
        by_cases h0 : zn = 0
        · have hbz := hbk h0
          clear hbk
          subst h0
          by_cases hbig : 65536 < a.size
          · rw [if_pos hbig] at hbz
            have HP := Lib.hid (fun W hW => R.parse_at a ham [] 0 4 (by rw [hbz]) (by rw [hbz]; rfl) (by rw [hbz]; rfl) W hW)
            clear hbz
            go_wp2_with fail
            refine (HP.out _ HL1.out).mono ?_
            rintro e w2 ⟨v2, rfl, -, -, hb2⟩
            have HB2 := Lib.hid (chain HB1.out HB1.out.size hb2)
            have HL2 := Lib.hid (HL.out.below HB2.out hLN)
            clear hb2
            go_wp2_with fail
            refine (awake8 R _ HL2.out).mono ?_
            rintro e w3 ⟨rfl, hb3⟩
            have HB3 := Lib.hid (chain HB2.out HB2.out.size hb3)
            clear hb3
            go_wp2
            go_ret
            exact ⟨rfl, HB3.out⟩
          · rw [if_neg hbig] at hbz
            have HP := Lib.hid (fun W hW => R.parse_at a ham (numL 1 l) 0 0 (by rw [hbz]) (by rw [hbz]; rfl) (by rw [hbz]; rfl) W hW)
            clear hbz
            go_wp2_with fail
            refine (HP.out _ HL1.out).mono ?_
            rintro e w2 ⟨v2, rfl, hr2, -, hb2⟩
            have HB2 := Lib.hid (chain HB1.out HB1.out.size hb2)
            have HR2 := Lib.hid hr2
            have HV2 := Lib.hid ((HV1.out.below hb2).mono hb2.size)
            clear hb2 hr2
            go_wp2_with fail
            refine (runlined_any _ l off (by rw [HNL.out]; omega) _ HV2.out).mono ?_
            rintro e w3 ⟨v3, rfl, own3, hb3⟩
            have HB3 := Lib.hid (chain HB2.out HB2.out.size hb3)
            have HR3 := Lib.hid ((HR2.out.below hb3).mono hb3.size)
            have HO3 := Lib.hid (Reads.of_own (f := cR) (n := 5) cR_len rfl own3)
            clear own3 hb3
            go_wp2_with fail
            refine (rsame_any _ _ (numL 1 l) 0 0 (by rw [numL_len, HNL.out]; omega) _ _ _ HR3.out HO3.out).mono ?_
            rintro e w4 ⟨rfl, nq, hq⟩
            have HB4 := Lib.hid (show Below w'.heap.size w' w4 by rw [hq]; exact Ba.below_drewN HB3.out nq)
            clear hq
            go_wp2
            go_meet
            exact HB4.out
        · have z0 : ((zn : Int) == 0) = false := beq_eq_false_iff_ne.2 (by omega)
          clear h0 hbk
          go_wp2
          go_meet
          exact HB1.out
      case rest =>
        have HBC := Lib.hid hcut
        have HLC := Lib.hid (HL.out.below hcut hLN)
        clear hcut HPR HB1 HL1 HV1 hbk
        obtain ⟨m, n, z, hpm⟩ : ∃ m n z, parseZ s = (m, n, z) := ⟨_, _, _, rfl⟩
        have HP := Lib.hid (fun W hW => R.parse_at s hs m (n : Int) (z : Int) (by rw [hpm]) (by rw [hpm]) (by rw [hpm]) W hW)
        have n0 : (0 : Int) ≤ (n : Int) := by omega
        by_cases hz : z = 0
        · subst hz
          obtain ⟨hmm, hlt, t2, hpr, hpp, hts⟩ := back_text s5 hpm
          have hml := parse_len hpm
          have HMF := Lib.hid (parse_fits hpm)
          simp only [] at HMF
          obtain ⟨a2, ha2⟩ : ∃ a2, bytesOf t2 = a2 := ⟨_, rfl⟩
          rw [ha2] at hpp hts
          have HMM := Lib.hid hmm
          have HLT := Lib.hid hlt
          have HPR2 := Lib.hid (fun v hc W hW hv => R.print_at v m 0 (by omega) HMF.out hc a2 0 (by rw [hpr]; exact ha2) (by rw [hpr]; rfl) W hW hv)
          have HPP := Lib.hid (fun W hW => R.parse_at a2 (Nat.le_trans hts (by decide)) (numL 1 m) 0 0 (by rw [hpp]) (by rw [hpp]; rfl) (by rw [hpp]; rfl) W hW)
          clear hmm hlt hpr hpp ha2 hpm
          go_wp2_with fail
          refine (HP.out _ HLC.out).mono ?_
          rintro e w5 ⟨v5, rfl, hr5, hc5, hb5⟩
          have HB5 := Lib.hid (chain HBC.out HBC.out.size hb5)
          have HL5 := Lib.hid (HL.out.below HB5.out hLN)
          have HR5 := Lib.hid hr5
          have HC5 := Lib.hid hc5
          clear hb5 hc5
          obtain ⟨A5, c5, rfl, hA5⟩ := hr5
          have HA5 := Lib.hid hA5
          obtain ⟨nm, hnm⟩ : ∃ nm, m.length = nm := ⟨_, rfl⟩
          have HNM := Lib.hid hnm
          rw [hnm] at HR5 HC5 hml ⊢
          clear hA5 hnm
          go_wp2
          go_loopw [13] (fun u13 wr => ∃ k : Nat, u13 = .int .i64 k ∧ k ≤ nm ∧ Below w5.heap.size w5 wr) (fun u13 _ => nm - (intOf u13).toNat)
          case atStart => exact ⟨0, rfl, Nat.zero_le _, Below.refl _ _⟩
          case round =>
            obtain ⟨k, rfl, hk, hB⟩ := hrel
            have HBR := Lib.hid hB
            by_cases hltk : k < nm
            · obtain ⟨g, rfl, hgw, hg⟩ := HA5.out (by rw [HNM.out]; omega)
              obtain ⟨x, hx⟩ : ∃ x, m[k]? = some x := ⟨_, List.getElem?_eq_getElem (by rw [HNM.out]; exact hltk)⟩
              obtain ⟨g0, g1, g2, g3, g4⟩ := rcell hg k x hx
              have g0 := (hB.cell (p := ⟨g, 0 + k * 5, none⟩) hgw).trans g0
              have g1 := (hB.cell (p := ⟨g, 0 + k * 5 + 1, none⟩) hgw).trans g1
              have g2 := (hB.cell (p := ⟨g, 0 + k * 5 + 2, none⟩) hgw).trans g2
              have g3 := (hB.cell (p := ⟨g, 0 + k * 5 + 3, none⟩) hgw).trans g3
              have g4 := (hB.cell (p := ⟨g, 0 + k * 5 + 4, none⟩) hgw).trans g4
              simp only [Nat.zero_add] at g0 g1 g2 g3 g4
              obtain ⟨f1, f2, f3⟩ := HMF.out x (List.mem_of_getElem? hx)
              obtain ⟨m1, m2⟩ := HMM.out x (List.mem_of_getElem? hx)
              have HMAY := Lib.hid (fun W hW => m1 ▸ R.may x f1 f2 f3 W hW)
              have HLR := Lib.hid (HL5.out.below hB (by have := HB5.out.size; omega))
              have hgr : g < wr.heap.size := Nat.lt_of_lt_of_le hgw hB.size
              have u1 : decide (x.line < 1) = false := decide_eq_false (by omega)
              by_cases hk0 : k = 0
              · subst hk0
                obtain ⟨xw, xl, xc, xp, xn⟩ := x
                simp only [Nat.zero_mul, Nat.zero_add] at g0 g1 g2 g3 g4
                simp only [aggR] at HMAY
                simp only [] at u1
                clear hx f1 f2 f3 m1 m2 hg hB
                go_upto_region 16 with fail
                go_cut [116] (fun u116 wx => u116 = .bool false ∧ Below w5.heap.size w5 wx)
                case first =>
                  have HKC := Lib.hid (show ∀ W : World, Below wr.heap.size wr W → W.cell? ⟨g, 0, none⟩ = some (.int .i64 xw) ∧ W.cell? ⟨g, 1, none⟩ = some (.string (bytesOf xl)) ∧ W.cell? ⟨g, 2, none⟩ = some (.string (bytesOf xc)) ∧ W.cell? ⟨g, 3, none⟩ = some (.int .i64 xp) ∧ W.cell? ⟨g, 4, none⟩ = some (.int .i64 xn) ∧ Below wr.heap.size wr W from fun W hW => ⟨(hW.cell hgr).trans g0, (hW.cell hgr).trans g1, (hW.cell hgr).trans g2, (hW.cell hgr).trans g3, (hW.cell hgr).trans g4, hW⟩)
                  have HCC := Lib.hid (show ∀ W W' : World, (W.cell? ⟨g, 0, none⟩ = some (.int .i64 xw) ∧ W.cell? ⟨g, 1, none⟩ = some (.string (bytesOf xl)) ∧ W.cell? ⟨g, 2, none⟩ = some (.string (bytesOf xc)) ∧ W.cell? ⟨g, 3, none⟩ = some (.int .i64 xp) ∧ W.cell? ⟨g, 4, none⟩ = some (.int .i64 xn) ∧ Below wr.heap.size wr W) → Below W.heap.size W W' → W'.cell? ⟨g, 0, none⟩ = some (.int .i64 xw) ∧ W'.cell? ⟨g, 1, none⟩ = some (.string (bytesOf xl)) ∧ W'.cell? ⟨g, 2, none⟩ = some (.string (bytesOf xc)) ∧ W'.cell? ⟨g, 3, none⟩ = some (.int .i64 xp) ∧ W'.cell? ⟨g, 4, none⟩ = some (.int .i64 xn) ∧ Below wr.heap.size wr W' from fun W W' h hb => HKC.out W' (chain h.2.2.2.2.2 h.2.2.2.2.2.size hb))
                  have HLC := Lib.hid (show ∀ W : World, (W.cell? ⟨g, 0, none⟩ = some (.int .i64 xw) ∧ W.cell? ⟨g, 1, none⟩ = some (.string (bytesOf xl)) ∧ W.cell? ⟨g, 2, none⟩ = some (.string (bytesOf xc)) ∧ W.cell? ⟨g, 3, none⟩ = some (.int .i64 xp) ∧ W.cell? ⟨g, 4, none⟩ = some (.int .i64 xn) ∧ Below wr.heap.size wr W) → LaidR W from fun W h => HLR.out.below h.2.2.2.2.2 (by have := HB5.out.size; have := HBR.out.size; omega))
                  have n01 : (0 : Int) < (nm : Int) := by omega
                  have hS0 := HKC.out _ (Below.refl _ _).drew
                  refine wp_region_held_drew (S := fun W => W.cell? ⟨g, 0, none⟩ = some (.int .i64 xw) ∧ W.cell? ⟨g, 1, none⟩ = some (.string (bytesOf xl)) ∧ W.cell? ⟨g, 2, none⟩ = some (.string (bytesOf xc)) ∧ W.cell? ⟨g, 3, none⟩ = some (.int .i64 xp) ∧ W.cell? ⟨g, 4, none⟩ = some (.int .i64 xn) ∧ Below wr.heap.size wr W) (by kernel_rfl) hS0 (fun hHeld => ?_)
                  refine Rg.take_w 0 (by simp only [List.getElem?_toArray, List.getElem?_cons_zero]; rfl) (by kernel_rfl) (by kernel_rfl) (by kernel_rfl) (.slice (some ⟨g, 0, none⟩) nm c5) (by exact fun _ _ _ h => h) (by rfl) (by intro W hSw; (try dsimp only at hSw); go_simp) (by with_reducible assumption) ?_
                  try simp only [Act.put, List.setIfInBounds_toArray, List.set_cons_zero, List.set_cons_succ]
                  refine Rg.take_w 1 (by simp only [List.getElem?_toArray, List.getElem?_cons_succ, List.getElem?_cons_zero]; rfl) (by kernel_rfl) (by kernel_rfl) (by kernel_rfl) (.int .i64 0) (by exact fun _ _ _ h => h) (by rfl) (by intro W hSw; (try dsimp only at hSw); go_simp) (by with_reducible assumption) ?_
                  try simp only [Act.put, List.setIfInBounds_toArray, List.set_cons_zero, List.set_cons_succ]
                  refine Rg.take_w 2 (by simp only [List.getElem?_toArray, List.getElem?_cons_succ, List.getElem?_cons_zero]; rfl) (by kernel_rfl) (by kernel_rfl) (by kernel_rfl) (.pointer (some ⟨g, 0, none⟩)) (by exact fun _ _ _ h => h) (by rfl) (by intro W hSw; (try dsimp only at hSw); go_simp) (by with_reducible assumption) ?_
                  try simp only [Act.put, List.setIfInBounds_toArray, List.set_cons_zero, List.set_cons_succ]
                  refine Rg.take_w 3 (by simp only [List.getElem?_toArray, List.getElem?_cons_succ, List.getElem?_cons_zero]; rfl) (by kernel_rfl) (by kernel_rfl) (by kernel_rfl) (.agg #[.int .i64 xw, .string (bytesOf xl), .string (bytesOf xc), .int .i64 xp, .int .i64 xn]) (by exact fun _ _ _ h => h) (by rfl) (by intro W hSw; (try dsimp only at hSw); go_simp) (by with_reducible assumption) ?_
                  try simp only [Act.put, List.setIfInBounds_toArray, List.set_cons_zero, List.set_cons_succ]
                  refine Rg.take_one 4 (by simp only [List.getElem?_toArray, List.getElem?_cons_succ, List.getElem?_cons_zero]; rfl) (by kernel_rfl) (fun K hK => ?_)
                  go_simp
                  go_at_call 21
                  refine (HMAY.out _ (HLC.out _ hS0)).mono ?_
                  rintro en w6 ⟨rfl, hb6⟩
                  have hS6 := HCC.out _ _ hS0 hb6
                  go_wp2_with fail
                  refine hK.out _ _ hS6 (fun hHeld6 => ?_)
                  clear hK K
                  try simp only [Act.put, List.setIfInBounds_toArray, List.set_cons_zero, List.set_cons_succ]
                  refine Rg.take_w 5 (by simp only [List.getElem?_toArray, List.getElem?_cons_succ, List.getElem?_cons_zero]; rfl) (by kernel_rfl) (by kernel_rfl) (by kernel_rfl) (.bool false) (by exact fun _ _ _ h => h) (by rfl) (by intro W hSw; (try dsimp only at hSw); go_simp) (by with_reducible assumption) ?_
                  try simp only [Act.put, List.setIfInBounds_toArray, List.set_cons_zero, List.set_cons_succ]
                  refine Rg.take_w 6 (by simp only [List.getElem?_toArray, List.getElem?_cons_succ, List.getElem?_cons_zero]; rfl) (by kernel_rfl) (by kernel_rfl) (by kernel_rfl) (.bool false) (by exact fun _ _ _ h => h) (by rfl) (by intro W hSw; (try dsimp only at hSw); go_simp) (by with_reducible assumption) ?_
                  try simp only [Act.put, List.setIfInBounds_toArray, List.set_cons_zero, List.set_cons_succ]
                  refine Rg.take_w 7 (by simp only [List.getElem?_toArray, List.getElem?_cons_succ, List.getElem?_cons_zero]; rfl) (by kernel_rfl) (by kernel_rfl) (by kernel_rfl) (.slice (some ⟨g, 0, none⟩) nm c5) (by exact fun _ _ _ h => h) (by rfl) (by intro W hSw; (try dsimp only at hSw); go_simp) (by with_reducible assumption) ?_
                  try simp only [Act.put, List.setIfInBounds_toArray, List.set_cons_zero, List.set_cons_succ]
                  refine Rg.take_w 8 (by simp only [List.getElem?_toArray, List.getElem?_cons_succ, List.getElem?_cons_zero]; rfl) (by kernel_rfl) (by kernel_rfl) (by kernel_rfl) (.int .i64 0) (by exact fun _ _ _ h => h) (by rfl) (by intro W hSw; (try dsimp only at hSw); go_simp) (by with_reducible assumption) ?_
                  try simp only [Act.put, List.setIfInBounds_toArray, List.set_cons_zero, List.set_cons_succ]
                  refine Rg.take_w 9 (by simp only [List.getElem?_toArray, List.getElem?_cons_succ, List.getElem?_cons_zero]; rfl) (by kernel_rfl) (by kernel_rfl) (by kernel_rfl) (.pointer (some ⟨g, 0, none⟩)) (by exact fun _ _ _ h => h) (by rfl) (by intro W hSw; (try dsimp only at hSw); go_simp) (by with_reducible assumption) ?_
                  try simp only [Act.put, List.setIfInBounds_toArray, List.set_cons_zero, List.set_cons_succ]
                  refine Rg.take_w 10 (by simp only [List.getElem?_toArray, List.getElem?_cons_succ, List.getElem?_cons_zero]; rfl) (by kernel_rfl) (by kernel_rfl) (by kernel_rfl) (.pointer (some ⟨g, 4, none⟩)) (by exact fun _ _ _ h => h) (by rfl) (by intro W hSw; (try dsimp only at hSw); go_simp) (by with_reducible assumption) ?_
                  try simp only [Act.put, List.setIfInBounds_toArray, List.set_cons_zero, List.set_cons_succ]
                  refine Rg.take_w 11 (by simp only [List.getElem?_toArray, List.getElem?_cons_succ, List.getElem?_cons_zero]; rfl) (by kernel_rfl) (by kernel_rfl) (by kernel_rfl) (.int .i64 xn) (by exact fun _ _ _ h => h) (by rfl) (by intro W hSw; (try dsimp only at hSw); go_simp) (by with_reducible assumption) ?_
                  try simp only [Act.put, List.setIfInBounds_toArray, List.set_cons_zero, List.set_cons_succ]
                  refine Rg.take_w 12 (by simp only [List.getElem?_toArray, List.getElem?_cons_succ, List.getElem?_cons_zero]; rfl) (by kernel_rfl) (by kernel_rfl) (by kernel_rfl) (.bool false) (by exact fun _ _ _ h => h) (by rfl) (by intro W hSw; (try dsimp only at hSw); go_simp) (by with_reducible assumption) ?_
                  try simp only [Act.put, List.setIfInBounds_toArray, List.set_cons_zero, List.set_cons_succ]
                  refine Rg.take_w 13 (by simp only [List.getElem?_toArray, List.getElem?_cons_succ, List.getElem?_cons_zero]; rfl) (by kernel_rfl) (by kernel_rfl) (by kernel_rfl) (.bool false) (by exact fun _ _ _ h => h) (by rfl) (by intro W hSw; (try dsimp only at hSw); go_simp) (by with_reducible assumption) ?_
                  try simp only [Act.put, List.setIfInBounds_toArray, List.set_cons_zero, List.set_cons_succ]
                  refine Rg.take_w 14 (by simp only [List.getElem?_toArray, List.getElem?_cons_succ, List.getElem?_cons_zero]; rfl) (by kernel_rfl) (by kernel_rfl) (by kernel_rfl) (.bool false) (by exact fun _ _ _ h => h) (by rfl) (by intro W hSw; (try dsimp only at hSw); go_simp) (by with_reducible assumption) ?_
                  try simp only [Act.put, List.setIfInBounds_toArray, List.set_cons_zero, List.set_cons_succ]
                  refine Rg.take_w 15 (by simp only [List.getElem?_toArray, List.getElem?_cons_succ, List.getElem?_cons_zero]; rfl) (by kernel_rfl) (by kernel_rfl) (by kernel_rfl) (.int .i64 0) (by exact fun _ _ _ h => h) (by rfl) (by intro W hSw; (try dsimp only at hSw); go_simp) (by with_reducible assumption) ?_
                  try simp only [Act.put, List.setIfInBounds_toArray, List.set_cons_zero, List.set_cons_succ]
                  refine Rg.take_w 16 (by simp only [List.getElem?_toArray, List.getElem?_cons_succ, List.getElem?_cons_zero]; rfl) (by kernel_rfl) (by kernel_rfl) (by kernel_rfl) (.bool false) (by exact fun _ _ _ h => h) (by rfl) (by intro W hSw; (try dsimp only at hSw); go_simp) (by with_reducible assumption) ?_
                  try simp only [Act.put, List.setIfInBounds_toArray, List.set_cons_zero, List.set_cons_succ]
                  refine Rg.take_w 17 (by simp only [List.getElem?_toArray, List.getElem?_cons_succ, List.getElem?_cons_zero]; rfl) (by kernel_rfl) (by kernel_rfl) (by kernel_rfl) (.bool false) (by exact fun _ _ _ h => h) (by rfl) (by intro W hSw; (try dsimp only at hSw); go_simp) (by with_reducible assumption) ?_
                  try simp only [Act.put, List.setIfInBounds_toArray, List.set_cons_zero, List.set_cons_succ]
                  refine Rg.take_un 18 (by simp only [List.getElem?_toArray, List.getElem?_cons_succ, List.getElem?_cons_zero]; rfl) (by kernel_rfl) (by kernel_rfl) (by kernel_rfl) (by exact fun _ _ _ h => h) (by rfl) (by with_reducible assumption) ?_
                  try simp only [Act.put, List.setIfInBounds_toArray, List.set_cons_zero, List.set_cons_succ]
                  refine Rg.take_un 19 (by simp only [List.getElem?_toArray, List.getElem?_cons_succ, List.getElem?_cons_zero]; rfl) (by kernel_rfl) (by kernel_rfl) (by kernel_rfl) (by exact fun _ _ _ h => h) (by rfl) (by with_reducible assumption) ?_
                  try simp only [Act.put, List.setIfInBounds_toArray, List.set_cons_zero, List.set_cons_succ]
                  refine Rg.take_un 20 (by simp only [List.getElem?_toArray, List.getElem?_cons_succ, List.getElem?_cons_zero]; rfl) (by kernel_rfl) (by kernel_rfl) (by kernel_rfl) (by exact fun _ _ _ h => h) (by rfl) (by with_reducible assumption) ?_
                  try simp only [Act.put, List.setIfInBounds_toArray, List.set_cons_zero, List.set_cons_succ]
                  refine Rg.take_un 21 (by simp only [List.getElem?_toArray, List.getElem?_cons_succ, List.getElem?_cons_zero]; rfl) (by kernel_rfl) (by kernel_rfl) (by kernel_rfl) (by exact fun _ _ _ h => h) (by rfl) (by with_reducible assumption) ?_
                  try simp only [Act.put, List.setIfInBounds_toArray, List.set_cons_zero, List.set_cons_succ]
                  refine Rg.take_un 22 (by simp only [List.getElem?_toArray, List.getElem?_cons_succ, List.getElem?_cons_zero]; rfl) (by kernel_rfl) (by kernel_rfl) (by kernel_rfl) (by exact fun _ _ _ h => h) (by rfl) (by with_reducible assumption) ?_
                  try simp only [Act.put, List.setIfInBounds_toArray, List.set_cons_zero, List.set_cons_succ]
                  refine Rg.take_un 23 (by simp only [List.getElem?_toArray, List.getElem?_cons_succ, List.getElem?_cons_zero]; rfl) (by kernel_rfl) (by kernel_rfl) (by kernel_rfl) (by exact fun _ _ _ h => h) (by rfl) (by with_reducible assumption) ?_
                  try simp only [Act.put, List.setIfInBounds_toArray, List.set_cons_zero, List.set_cons_succ]
                  refine Rg.take_un 24 (by simp only [List.getElem?_toArray, List.getElem?_cons_succ, List.getElem?_cons_zero]; rfl) (by kernel_rfl) (by kernel_rfl) (by kernel_rfl) (by exact fun _ _ _ h => h) (by rfl) (by with_reducible assumption) ?_
                  try simp only [Act.put, List.setIfInBounds_toArray, List.set_cons_zero, List.set_cons_succ]
                  refine Rg.take_un 25 (by simp only [List.getElem?_toArray, List.getElem?_cons_succ, List.getElem?_cons_zero]; rfl) (by kernel_rfl) (by kernel_rfl) (by kernel_rfl) (by exact fun _ _ _ h => h) (by rfl) (by with_reducible assumption) ?_
                  try simp only [Act.put, List.setIfInBounds_toArray, List.set_cons_zero, List.set_cons_succ]
                  refine Rg.take_un 26 (by simp only [List.getElem?_toArray, List.getElem?_cons_succ, List.getElem?_cons_zero]; rfl) (by kernel_rfl) (by kernel_rfl) (by kernel_rfl) (by exact fun _ _ _ h => h) (by rfl) (by with_reducible assumption) ?_
                  try simp only [Act.put, List.setIfInBounds_toArray, List.set_cons_zero, List.set_cons_succ]
                  refine Rg.take_un 27 (by simp only [List.getElem?_toArray, List.getElem?_cons_succ, List.getElem?_cons_zero]; rfl) (by kernel_rfl) (by kernel_rfl) (by kernel_rfl) (by exact fun _ _ _ h => h) (by rfl) (by with_reducible assumption) ?_
                  try simp only [Act.put, List.setIfInBounds_toArray, List.set_cons_zero, List.set_cons_succ]
                  refine Rg.take_un 28 (by simp only [List.getElem?_toArray, List.getElem?_cons_succ, List.getElem?_cons_zero]; rfl) (by kernel_rfl) (by kernel_rfl) (by kernel_rfl) (by exact fun _ _ _ h => h) (by rfl) (by with_reducible assumption) ?_
                  try simp only [Act.put, List.setIfInBounds_toArray, List.set_cons_zero, List.set_cons_succ]
                  refine Rg.take_un 29 (by simp only [List.getElem?_toArray, List.getElem?_cons_succ, List.getElem?_cons_zero]; rfl) (by kernel_rfl) (by kernel_rfl) (by kernel_rfl) (by exact fun _ _ _ h => h) (by rfl) (by with_reducible assumption) ?_
                  try simp only [Act.put, List.setIfInBounds_toArray, List.set_cons_zero, List.set_cons_succ]
                  refine Rg.take_w 30 (by simp only [List.getElem?_toArray, List.getElem?_cons_succ, List.getElem?_cons_zero]; rfl) (by kernel_rfl) (by kernel_rfl) (by kernel_rfl) (.bool false) (by exact fun _ _ _ h => h) (by rfl) (by intro W hSw; (try dsimp only at hSw); go_simp) (by with_reducible assumption) ?_
                  try simp only [Act.put, List.setIfInBounds_toArray, List.set_cons_zero, List.set_cons_succ]
                  refine Rg.take_w 31 (by simp only [List.getElem?_toArray, List.getElem?_cons_succ, List.getElem?_cons_zero]; rfl) (by kernel_rfl) (by kernel_rfl) (by kernel_rfl) (.bool false) (by exact fun _ _ _ h => h) (by rfl) (by intro W hSw; (try dsimp only at hSw); go_simp) (by with_reducible assumption) ?_
                  try simp only [Act.put, List.setIfInBounds_toArray, List.set_cons_zero, List.set_cons_succ]
                  refine wpAnyH_done (by kernel_rfl) ?_ _
                  have HBx := Lib.hid (chain HBR.out HBR.out.size hS6.2.2.2.2.2)
                  go_wp2
                  go_meet
                  exact ⟨rfl, HBx.out⟩
                case rest =>
                  obtain ⟨rfl, hBx⟩ := hcut
                  have HBX := Lib.hid hBx
                  clear hBx
                  go_wp2
                  go_roundw
                  case rel => exact ⟨0 + 1, by go_num, by omega, HBX.out⟩
                  case measure => simp [intOf]; omega
              · obtain ⟨p, hp⟩ : ∃ p : Nat, k = p + 1 := ⟨k - 1, by omega⟩
                obtain ⟨y, hy⟩ : ∃ y, m[p]? = some y := ⟨_, List.getElem?_eq_getElem (by rw [HNM.out]; omega)⟩
                have y4 := (rcell hg p y hy).2.2.2.2
                have y4 := (hB.cell (p := ⟨g, 0 + p * 5 + 4, none⟩) hgw).trans y4
                have hxy := HLT.out p y x hy (by rw [← hp]; exact hx)
                simp only [Nat.zero_add] at y4
                obtain ⟨yn, hyn⟩ : ∃ yn, y.line = yn := ⟨_, rfl⟩
                rw [hyn] at y4 hxy
                obtain ⟨xw, xl, xc, xp, xn⟩ := x
                simp only [aggR] at HMAY
                simp only [] at u1 hxy g0 g1 g2 g3 g4
                have u2 : decide (xn ≤ yn) = false := decide_eq_false (by omega)
                have u3 : decide (yn ≥ xn) = false := decide_eq_false (by omega)
                have u4 : decide ((0 : Int) < (k : Int)) = true := decide_eq_true (by omega)
                have u5 : decide (0 < k) = true := decide_eq_true (by omega)
                have u6 : 0 < k := by omega
                have v1 : IntKind.i64.wrap ((k : Int) - 1) = (p : Int) := by rw [IntWalk.i64_in _ (by omega)]; omega
                have v2 : (p : Int) < (nm : Int) := by omega
                have v3 : (k : Int) < (nm : Int) := by omega
                clear hx f1 f2 f3 m1 m2 hg hB hy hyn hp
                go_upto_region 16 with fail
                go_cut [116] (fun u116 wx => u116 = .bool false ∧ Below w5.heap.size w5 wx)
                case first =>
                  have HKC := Lib.hid (show ∀ W : World, Below wr.heap.size wr W → W.cell? ⟨g, k * 5, none⟩ = some (.int .i64 xw) ∧ W.cell? ⟨g, k * 5 + 1, none⟩ = some (.string (bytesOf xl)) ∧ W.cell? ⟨g, k * 5 + 2, none⟩ = some (.string (bytesOf xc)) ∧ W.cell? ⟨g, k * 5 + 3, none⟩ = some (.int .i64 xp) ∧ W.cell? ⟨g, k * 5 + 4, none⟩ = some (.int .i64 xn) ∧ W.cell? ⟨g, p * 5 + 4, none⟩ = some (.int .i64 yn) ∧ Below wr.heap.size wr W from fun W hW => ⟨(hW.cell hgr).trans g0, (hW.cell hgr).trans g1, (hW.cell hgr).trans g2, (hW.cell hgr).trans g3, (hW.cell hgr).trans g4, (hW.cell hgr).trans y4, hW⟩)
                  have HCC := Lib.hid (show ∀ W W' : World, (W.cell? ⟨g, k * 5, none⟩ = some (.int .i64 xw) ∧ W.cell? ⟨g, k * 5 + 1, none⟩ = some (.string (bytesOf xl)) ∧ W.cell? ⟨g, k * 5 + 2, none⟩ = some (.string (bytesOf xc)) ∧ W.cell? ⟨g, k * 5 + 3, none⟩ = some (.int .i64 xp) ∧ W.cell? ⟨g, k * 5 + 4, none⟩ = some (.int .i64 xn) ∧ W.cell? ⟨g, p * 5 + 4, none⟩ = some (.int .i64 yn) ∧ Below wr.heap.size wr W) → Below W.heap.size W W' → W'.cell? ⟨g, k * 5, none⟩ = some (.int .i64 xw) ∧ W'.cell? ⟨g, k * 5 + 1, none⟩ = some (.string (bytesOf xl)) ∧ W'.cell? ⟨g, k * 5 + 2, none⟩ = some (.string (bytesOf xc)) ∧ W'.cell? ⟨g, k * 5 + 3, none⟩ = some (.int .i64 xp) ∧ W'.cell? ⟨g, k * 5 + 4, none⟩ = some (.int .i64 xn) ∧ W'.cell? ⟨g, p * 5 + 4, none⟩ = some (.int .i64 yn) ∧ Below wr.heap.size wr W' from fun W W' h hb => HKC.out W' (chain h.2.2.2.2.2.2 h.2.2.2.2.2.2.size hb))
                  have HLC := Lib.hid (show ∀ W : World, (W.cell? ⟨g, k * 5, none⟩ = some (.int .i64 xw) ∧ W.cell? ⟨g, k * 5 + 1, none⟩ = some (.string (bytesOf xl)) ∧ W.cell? ⟨g, k * 5 + 2, none⟩ = some (.string (bytesOf xc)) ∧ W.cell? ⟨g, k * 5 + 3, none⟩ = some (.int .i64 xp) ∧ W.cell? ⟨g, k * 5 + 4, none⟩ = some (.int .i64 xn) ∧ W.cell? ⟨g, p * 5 + 4, none⟩ = some (.int .i64 yn) ∧ Below wr.heap.size wr W) → LaidR W from fun W h => HLR.out.below h.2.2.2.2.2.2 (by have := HB5.out.size; have := HBR.out.size; omega))
                  go_region_held3 (fun W => W.cell? ⟨g, k * 5, none⟩ = some (.int .i64 xw) ∧ W.cell? ⟨g, k * 5 + 1, none⟩ = some (.string (bytesOf xl)) ∧ W.cell? ⟨g, k * 5 + 2, none⟩ = some (.string (bytesOf xc)) ∧ W.cell? ⟨g, k * 5 + 3, none⟩ = some (.int .i64 xp) ∧ W.cell? ⟨g, k * 5 + 4, none⟩ = some (.int .i64 xn) ∧ W.cell? ⟨g, p * 5 + 4, none⟩ = some (.int .i64 yn) ∧ Below wr.heap.size wr W)
                    (first | assumption | exact HKC.out _ (Below.refl _ _) | exact HKC.out _ (Below.refl _ _).drew)
                    (first
                      | (go_at_call 21; refine (HMAY.out _ (HLC.out _ (by assumption))).mono ?_; rintro en w6 ⟨rfl, hb6⟩; have hS6 := HCC.out _ _ (by assumption) hb6))
                  have hS : w6.cell? ⟨g, k * 5, none⟩ = some (.int .i64 xw) ∧ w6.cell? ⟨g, k * 5 + 1, none⟩ = some (.string (bytesOf xl)) ∧ w6.cell? ⟨g, k * 5 + 2, none⟩ = some (.string (bytesOf xc)) ∧ w6.cell? ⟨g, k * 5 + 3, none⟩ = some (.int .i64 xp) ∧ w6.cell? ⟨g, k * 5 + 4, none⟩ = some (.int .i64 xn) ∧ w6.cell? ⟨g, p * 5 + 4, none⟩ = some (.int .i64 yn) ∧ Below wr.heap.size wr w6 := by assumption
                  have HBx := Lib.hid (chain HBR.out HBR.out.size hS.2.2.2.2.2.2)
                  clear hS
                  go_wp2
                  go_meet
                  exact ⟨rfl, HBx.out⟩
                case rest =>
                  obtain ⟨rfl, hBx⟩ := hcut
                  have HBX := Lib.hid hBx
                  clear hBx
                  go_wp2
                  go_roundw
                  case rel => exact ⟨k + 1, by go_num, by omega, HBX.out⟩
                  case measure => simp [intOf]; omega
            · obtain rfl : k = nm := by omega
              have HLR := Lib.hid (HL5.out.below hB (by have := HB5.out.size; omega))
              have HRR := Lib.hid ((HR5.out.below hB).mono hB.size)
              clear hB
              go_wp2_with fail
              refine (HPR2.out _ HC5.out _ HLR.out HRR.out).mono ?_
              rintro e w7 ⟨rfl, hb7⟩
              have HB7 := Lib.hid (chain HBR.out HBR.out.size hb7)
              have HL7 := Lib.hid (HL5.out.below HB7.out (by have := HB5.out.size; omega))
              have HR7 := Lib.hid ((HRR.out.below hb7).mono hb7.size)
              clear hb7
              go_wp2_with fail
              refine (HPP.out _ HL7.out).mono ?_
              rintro e w8 ⟨v8, rfl, hr8, -, hb8⟩
              have HB8 := Lib.hid (chain HB7.out HB7.out.size hb8)
              have HL8 := Lib.hid (HL5.out.below HB8.out (by have := HB5.out.size; omega))
              have HR8 := Lib.hid hr8
              have HM8 := Lib.hid ((HR7.out.below hb8).mono hb8.size)
              clear hb8 hr8
              go_wp2_with fail
              refine (runlined_any _ m 0 (by rw [HNM.out]; omega) _ HM8.out).mono ?_
              rintro e w9 ⟨v9, rfl, own9, hb9⟩
              have HB9 := Lib.hid (chain HB8.out HB8.out.size hb9)
              have HL9 := Lib.hid (HL5.out.below HB9.out (by have := HB5.out.size; omega))
              have HR9 := Lib.hid ((HR8.out.below hb9).mono hb9.size)
              have HO9 := Lib.hid (Reads.of_own (f := cR) (n := 5) cR_len rfl own9)
              clear own9 hb9
              go_wp2_with fail
              refine (rsame_any _ _ (numL 1 m) 0 0 (by rw [numL_len, HNM.out]; omega) _ _ _ HR9.out HO9.out).mono ?_
              rintro e w10 ⟨rfl, nq, hq⟩
              have HB10 := Lib.hid (show Below w5.heap.size w5 w10 by rw [hq]; exact Ba.below_drewN HB9.out nq)
              have HL10 := Lib.hid (HL5.out.below HB10.out (by have := HB5.out.size; omega))
              clear hq
              go_wp2_with fail
              refine (awake8 R _ HL10.out).mono ?_
              rintro e w11 ⟨rfl, hb11⟩
              have HB11 := Lib.hid (chain HB5.out HB5.out.size (chain HB10.out HB10.out.size hb11))
              clear hb11
              go_wp2
              go_ret
              exact ⟨rfl, HB11.out⟩
        · have hme : m = [] := parse_none hpm hz
          subst hme
          have z1 : ((z : Int) != 0) = true := by rw [bne, beq_eq_false_iff_ne.2 (by omega)]; rfl
          clear hpm hz
          go_wp2_with fail
          refine (HP.out _ HLC.out).mono ?_
          rintro e w5 ⟨v5, rfl, ⟨A5, c5, rfl, -⟩, -, hb5⟩
          have HB5 := Lib.hid (chain HBC.out HBC.out.size hb5)
          have HL5 := Lib.hid (HL.out.below HB5.out hLN)
          clear hb5
          go_wp2_with fail
          refine (awake8 R _ HL5.out).mono ?_
          rintro e w6 ⟨rfl, hb6⟩
          have HB6 := Lib.hid (chain HB5.out HB5.out.size hb6)
          clear hb6
          go_wp2
          go_ret
          exact ⟨rfl, HB6.out⟩
end Go.Proofs.YtkhfingenjlpfaaGreatDoor.Ru
