/-
  RulesPrints, whatever it is called with.
-/
import Derived.Test.YtkhfingenjlpfaaGreatDoorRuK
import Derived.Test.YtkhfingenjlpfaaGreatDoorRvR
import Derived.Lib.SliceRun
namespace Go.Proofs.YtkhfingenjlpfaaGreatDoor.Ru
open Go.RowKit Ba

/-- Nothing appended. -/
theorem wpList_append_zero {P : Program} (w : World) {ops : Array Oper} {rest : List Oper} {o : Oper} {a : Act} {Q : Exit → Act → World → Prop} (hg : o.guard = none) (s x : Operand) (t : TypeId) (hop : o.op = Op.call { callee := Callee.builtin Builtin.append, args := #[s, x], argTypes := #[t, t] })
    (base : Nat) (e : TypeId) (i : TypeInfo) (size : Nat) (h1 : P.underlying t = some (.slice e)) (h2 : P.info? e = some i) (v : Value) (n : Nat) (xs : List Value) (hs : a.eval s = v) (hown : w.ownsRow base e size v n xs) (A : Option Addr) (c : Nat) (hx : a.eval x = .slice A 0 c) (hK : wpList P ops Q rest (a.put o.dst v) w) :
    wpList P ops Q (o :: rest) a w := by
  refine wpList_plain hg fun K hK' => ?_
  have hrun : (Builtin.append_ #[t, t] o.type #[v, .slice A 0 c]).run P w = .ok v w := by
    rcases hown.2 with ⟨rfl, rfl⟩ | ⟨g, cap, cur, rfl, _, _, hnc, _⟩ <;> cases A <;>
      simp [Builtin.append_, run_underlying h1, sizeOf, typeInfo, Builtin.lenOf, Builtin.firstCells, storeCells, loadCells, loadCellsFrom, *]
  unfold Oper.wp
  simp [execOp, hop, resolve, invoke, builtin, hs, hx, hrun, Result.andThen]
  exact hK' _ _ hK
theorem below_cells {B b : Nat} (hb : B ≤ b) : ∀ (vs : List Value) (o : Nat) (w : World), Below B w (w.setCells b o vs)
  | [], _, _w => Below.refl _ _
  | v :: r, o, w => ((Below.refl B w).setCell (p := ⟨b, o, none⟩) hb v).trans (below_cells hb r (o + 1) _)
/-- 'clear(s)', of whatever elements. -/
theorem run_clear_any {P : Program} (w : World) (t e ty : TypeId) (z : Value) (ht : P.underlying t = some (.slice e)) (hv : ∀ w, (zeroValue e).run P w = .ok z w) (b n c : Nat) (hn : 0 < n)
    (hc : ∀ j, j < n * z.cells.size → (w.cell? ⟨b, j, none⟩).isSome = true) (hf : ∀ j, w.frozen? ⟨b, j, none⟩ = false) (h1 : ∀ v ∈ (Builtin.zeroCells z.cells n).toList, v.oneCell' = true) :
    (Builtin.clear_ #[t] ty #[.slice (some ⟨b, 0, none⟩) n c]).run P w = .ok (.tuple #[]) (w.setCells b 0 (Builtin.zeroCells z.cells n).toList) := by
  have hst := run_storeCells_cells (P := P) b 0 (Builtin.zeroCells z.cells n).toList 0 w (fun j hj => by
    rw [Array.length_toList] at hj
    simp only [Nat.zero_add]
    exact hc j (by simpa [Builtin.zeroCells] using hj)) (fun j _ => hf _) h1
  simp only [Nat.add_zero] at hst
  obtain ⟨m, rfl⟩ : ∃ m, n = m + 1 := ⟨n - 1, by omega⟩
  simp [Builtin.clear_, run_underlying ht, hv, hst]
theorem zero_string (w : World) : (zeroValue 9).run Tryz.prog w = .ok (.string { data := #[] }) w := by
  obtain ⟨i0, hi0, hz0, -, -⟩ := info_parts infoS
  simp [zeroValue, typeInfo, hi0, hz0]
theorem own_formR {w : World} {B e size n : Nat} {v : Value} {xs : List Value} (h : w.ownsRow B e size v n xs) : ∃ A c, v = .slice A n c ∧ n ≤ c ∧ c ≤ maxLen ∧ (0 < n → ∃ g, A = some ⟨g, 0, none⟩ ∧ B ≤ g) := by
  rcases h.2 with ⟨rfl, rfl⟩ | ⟨g, cap, cur, rfl, h0, _, h1, h2, _⟩
  · exact ⟨none, 0, rfl, Nat.le_refl _, Nat.zero_le _, fun h => by omega⟩
  · exact ⟨_, _, rfl, h1, h2, fun _ => ⟨g, rfl, h0⟩⟩
theorem capsR_own {w : World} {B e size n : Nat} {v : Value} {xs : List Value} (h : w.ownsRow B e size v n xs) : CapsR v := by
  obtain ⟨A, c, rfl, h1, h2, -⟩ := own_formR h
  intro A' n' c' e
  injection e with _ e1 e2
  subst e1; subst e2
  exact ⟨h1, h2⟩
/-- 'clear(names)'. -/
theorem run_clear_strings (w : World) (ty : TypeId) (B : Nat) (v : Value) (n : Nat) (l : List (List Nat)) (hl : l.length = n) (hown : w.ownsRow B 9 1 v n (rows cS l)) :
    ∃ w', (Builtin.clear_ #[35] ty #[v]).run Tryz.prog w = .ok (.tuple #[]) w' ∧ Below B w w' := by
  obtain ⟨A, c, rfl, -, -, hA⟩ := own_formR hown
  rcases Nat.eq_zero_or_pos n with h0 | h0
  · subst h0
    refine ⟨w, ?_, Below.refl _ _⟩
    cases A <;> simp [Builtin.clear_, run_underlying Tryz.underlying35]
  · obtain ⟨g, rfl, hBg⟩ := hA h0
    refine ⟨_, run_clear_any w _ _ ty _ Tryz.underlying35 zero_string g n c h0 (fun j hj => ?_) (fun j => hown.frozenAt j) ?_, below_cells hBg _ _ _⟩
    · have hj : j < n * 1 := hj
      rw [hown.cellAt j hj, List.getElem?_eq_getElem (by rw [rows_length cS cS_len, hl]; exact hj)]; rfl
    · intro u hu
      unfold Builtin.zeroCells at hu
      rw [Array.toList_map, List.mem_map] at hu
      obtain ⟨i, -, rfl⟩ := hu
      have e : (Value.string { data := #[] }).cells = #[.string { data := #[] }] := rfl
      rw [e, Array.size_singleton, Nat.mod_one]
      rfl
theorem cells_newsR {g off : Nat} {w : World} {l : List Rl} (h : ∀ k x, l[k]? = some x → ∀ j u, (cR x)[j]? = some u → w.cell? ⟨g, off + (k * 5 + j), none⟩ = some u) :
    ∀ j u, (rows cR l)[j]? = some u → w.cell? ((⟨g, off, none⟩ : Addr).add j) = some u := by
  intro j u hu
  have hj : j < (rows cR l).length := (List.getElem?_eq_some_iff.1 hu).1
  rw [rows_length cR cR_len] at hj
  have hk : j / 5 < l.length := by omega
  have e := rows_at cR cR_len l (j / 5) _ (List.getElem?_eq_getElem hk) (j % 5) (Nat.mod_lt _ (by omega))
  have e2 : j / 5 * 5 + j % 5 = j := by omega
  rw [e2, hu] at e
  have := h (j / 5) _ (List.getElem?_eq_getElem hk) (j % 5) u e.symm
  rw [e2] at this
  have e3 : (⟨g, off, none⟩ : Addr).add j = ⟨g, off + j, none⟩ := by unfold Addr.add; split <;> simp_all
  rw [e3]; exact this
theorem rows_cellsR (l : List Rl) : ∀ u ∈ rows cR l, u.oneCell' = true := by
  intro u hu
  unfold rows at hu
  rw [List.mem_flatMap] at hu
  obtain ⟨x, _, hx⟩ := hu
  simp [cR] at hx
  rcases hx with rfl | rfl | rfl | rfl | rfl <;> rfl
theorem str_cell {W : World} {B g n c k : Nat} {l : List (List Nat)} {s : List Nat} (h : W.ownsRow B 9 1 (.slice (some ⟨g, 0, none⟩) n c) n (rows cS l)) (hk : k < n) (hs : l[k]? = some s) : W.cell? ⟨g, k, none⟩ = some (.string (bytesOf s)) := by
  rw [h.cellAt k (by omega)]
  have := rows_at cS cS_len l k s hs 0 (by omega)
  rw [Nat.mul_one, Nat.add_zero] at this
  exact this
/-- 'append([]Rule{}, l...)'. -/
theorem wpList_append_rules (w : World) {ops : Array Oper} {rest : List Oper} {o : Oper} {a : Act} {Q : Exit → Act → World → Prop} (hgd : o.guard = none) (s x : Operand)
    (ho : o.op = .call { callee := .builtin .append, args := #[s, x], argTypes := #[23, 23] })
    (v0 : Value) (hs : a.eval s = v0) (B : Nat) (hown : w.ownsRow B 39 5 v0 0 []) (hB : B ≤ w.heap.size) (A : Option Addr) (n c off B' : Nat) (l : List Rl) (hx : a.eval x = .slice A n c) (hl : l.length = n) (hn : n ≤ 9000) (hr : ReadsR off w B' (.slice A n c) l)
    (h : ∀ v' w', w'.ownsRow B 39 5 v' n (rows cR l) → w.grownBy w' v0.ownBlock → wpList Tryz.prog ops Q rest (a.put o.dst v') w') : wpList Tryz.prog ops Q (o :: rest) a w := by
  obtain ⟨i0, hi0, hz0, hz1, hz2⟩ := info_parts infoR
  rcases Nat.eq_zero_or_pos n with h0 | h0
  · subst h0
    have : l = [] := List.length_eq_zero_iff.1 hl
    subst this
    exact wpList_append_zero w hgd s x _ ho B _ i0 5 Tryz.underlying23 hi0 v0 0 [] hs hown A c hx (h v0 w hown ⟨rfl, rfl, rfl, Nat.le_refl _, fun _ _ _ => rfl⟩)
  · obtain ⟨A', c', e, hA⟩ := hr
    injection e with e1 e2 e3
    subst e1
    obtain ⟨g, rfl, -, hc⟩ := hA (by omega)
    refine wpList_append_own w hgd s x _ ho B _ i0 _ 5 56 Tryz.underlying23 hi0 hz0 hz1 hz2 rfl (by decide) v0 0 [] hs hown ⟨g, off, none⟩ n c (rows cR l) hx (by rw [rows_length cR cR_len, hl]) (cells_newsR hc) (rows_cellsR l) (by unfold maxLen; omega) (by omega) hB ?_
    intro v' w' h1 h2 _
    rw [Nat.zero_add, List.nil_append] at h1
    exact h v' w' h1 h2

set_option maxRecDepth 100000 in
set_option maxHeartbeats 16000000 in
/-- styluslaw08.RulesPrints -/
theorem rprints_row (R : RLands) (l : List Rl) (A : Option Addr) (off c : Nat) (nm : ByteArray) (b : Nat) (_hnm : nm.size ≤ maxLen) (hb2 : b < 256) (w : World) (hL : LaidR w) (hcl : l.length ≤ c) (hcm : c ≤ maxLen) (hf : ∀ x ∈ l, FitR x) (hl : ReadsR off w w.heap.size (.slice A l.length c) l) :
    Calls Tryz.prog 4 #[.slice A l.length c, .string nm, .int .u8 (b : Int)] w fun e w' => e = .returned (.bool true) ∧ Below w.heap.size w w' := by
  have HL := Lib.hid hL
  have hLN := hL.1
  have HV := Lib.hid hl
  have hlm : l.length ≤ maxLen := Nat.le_trans hcl hcm
  have HF := Lib.hid hf
  clear hL hl hf hcl hcm
  obtain ⟨nl, hnl⟩ : ∃ nl, l.length = nl := ⟨_, rfl⟩
  rw [hnl] at HV hlm ⊢
  have HNL := Lib.hid hnl
  clear hnl
  obtain ⟨lb, hlb⟩ : ∃ lb, longV l = lb := ⟨_, rfl⟩
  have HLB := Lib.hid hlb
  clear hlb
  go_enter Tryz.func4, Tryz.ntmps4
  cases lb
  case true =>
    go_wp2_with fail
    refine (long8_at _ l off (by rw [HNL.out]; exact hlm) _ _ HV.out true HLB.out).mono ?_
    rintro e w' ⟨rfl, rfl⟩
    go_wp2_with fail
    refine (awake8 R _ HL.out).mono ?_
    rintro e w' ⟨rfl, hb⟩
    go_wp2
    go_ret
    exact ⟨rfl, hb⟩
  case false =>
    obtain ⟨hl5, hl50⟩ := not_long HLB.out
    rw [HNL.out] at hl5
    by_cases hbig : 50 < nm.size
    · go_wp2_with fail
      refine (long8_at _ l off (by rw [HNL.out]; exact hlm) _ _ HV.out false HLB.out).mono ?_
      rintro e w' ⟨rfl, rfl⟩
      go_wp2_with fail
      refine (awake8 R _ HL.out).mono ?_
      rintro e w' ⟨rfl, hb⟩
      go_wp2
      go_ret
      exact ⟨rfl, hb⟩
    · have tb : decide (50 < (nm.size : Int)) = false := decide_eq_false (by omega)
      have n5 : nm.size ≤ 50 := by omega
      have HFX := Lib.hid (show ∀ x ∈ l, FitR x ∧ x.left.length ≤ 9000 ∧ x.cells.length ≤ 9000 from fun x hx => ⟨HF.out x hx, by have := (hl50 x hx).1; omega, by have := (hl50 x hx).2; omega⟩)
      obtain ⟨t, zn, hpz⟩ : ∃ t zn, printZ l = (t, zn) := ⟨_, _, rfl⟩
      have HPZ := Lib.hid hpz
      obtain ⟨a, ha⟩ : ∃ a, bytesOf t = a := ⟨_, rfl⟩
      have HAT := Lib.hid ha
      obtain ⟨sg, hsg⟩ : ∃ sg, bytesOf (firstR l 8 (bytesN nm)) = sg := ⟨_, rfl⟩
      obtain ⟨mk, hmk⟩ : ∃ mk, bytesOf (firstR l 6 [b]) = mk := ⟨_, rfl⟩
      obtain ⟨dg, hdg⟩ : ∃ dg, bytesOf (firstR l 7 [b]) = dg := ⟨_, rfl⟩
      have HSG := Lib.hid hsg
      have HMK := Lib.hid hmk
      have HDG := Lib.hid hdg
      clear hbig hpz ha hl50 hsg hmk hdg
      go_wp2_with fail
      refine (long8_at _ l off (by rw [HNL.out]; exact hlm) _ _ HV.out false HLB.out).mono ?_
      rintro e w' ⟨rfl, rfl⟩
      go_wp2_with (at_builtin; refine wpList_append_rules _ rfl _ _ rfl (.slice (some ⟨w'.heap.size, 0, none⟩) 0 0) rfl w'.heap.size (World.ownsRow_lit w' #[] 0 (Nat.le_refl _) (by decide) rfl) (by simp) A nl c off w'.heap.size l rfl HNL.out (by omega) (HV.out.below ((Below.refl _ w').alloc (Nat.le_refl _) _)) ?_; intro v4 w4 hown4 hgrow4; have hB4 : Below w'.heap.size w' w4 := ((Below.refl _ w').alloc (Nat.le_refl _) _).grown hgrow4 (by simp) (fun j ej => by have ej : w'.heap.size = j := (by injection ej); omega); have HO4 := Lib.hid (Reads.of_own (f := cR) (n := 5) cR_len HNL.out hown4); have HC4 := Lib.hid (capsR_own hown4); have HB4 := Lib.hid hB4; have HV4 := Lib.hid ((HV.out.below hB4).mono hB4.size); have HL4 := Lib.hid (HL.out.below hB4 hLN); clear hown4 hgrow4 hB4)
      go_wp2_with fail
      refine (R.print_at v4 l 0 (by rw [HNL.out]; omega) HFX.out HC4.out a ((zn : Nat) : Int) (by rw [HPZ.out]; exact HAT.out) (by rw [HPZ.out]) _ HL4.out HO4.out).mono ?_
      rintro e w5 ⟨rfl, hb5⟩
      have HB5 := Lib.hid (chain HB4.out HB4.out.size hb5)
      have HV5 := Lib.hid ((HV4.out.below hb5).mono hb5.size)
      have HO5 := Lib.hid ((HO4.out.below hb5).mono hb5.size)
      have HL5 := Lib.hid (HL.out.below HB5.out hLN)
      clear hb5
      go_wp2_with fail
      refine (rprintZ_any _ l off (by rw [HNL.out]; omega) HFX.out _ HV5.out).mono ?_
      rintro e w6 ⟨rfl, hb6⟩
      have HB6 := Lib.hid (chain HB5.out HB5.out.size hb6)
      have HV6 := Lib.hid ((HV5.out.below hb6).mono hb6.size)
      have HO6 := Lib.hid ((HO5.out.below hb6).mono hb6.size)
      have HL6 := Lib.hid (HL.out.below HB6.out hLN)
      clear hb6
      rw [HPZ.out]
      simp only []
      rw [HAT.out]
      have s1 : (a.toList != a.toList) = false := by simp
      have s2 : (a.toList == a.toList) = true := by simp
      have s3 : (sg.toList != sg.toList) = false := by simp
      have s4 : (sg.toList == sg.toList) = true := by simp
      have s5 : (mk.toList != mk.toList) = false := by simp
      have s6 : (mk.toList == mk.toList) = true := by simp
      have s7 : (dg.toList != dg.toList) = false := by simp
      have s8 : (dg.toList == dg.toList) = true := by simp
      have s9 : ((zn : Int) != (zn : Int)) = false := by simp
      go_wp2_with fail
      refine (R.sign v4 l 0 nm (by rw [HNL.out]; omega) HFX.out (by omega) HC4.out _ HL6.out HO6.out).mono ?_
      rintro e w7 ⟨rfl, hb7⟩
      rw [HSG.out]
      have HB7 := Lib.hid (chain HB6.out HB6.out.size hb7)
      have HV7 := Lib.hid ((HV6.out.below hb7).mono hb7.size)
      have HO7 := Lib.hid ((HO6.out.below hb7).mono hb7.size)
      have HL7 := Lib.hid (HL.out.below HB7.out hLN)
      clear hb7
      go_wp2_with fail
      refine (rsign_any _ l off nm (by rw [HNL.out]; omega) HF.out _ _ HV7.out).mono ?_
      rintro e w8 ⟨rfl, rfl⟩
      rw [HSG.out]
      go_wp2_with fail
      refine (R.mark v4 l 0 b (by rw [HNL.out]; omega) HFX.out hb2 HC4.out _ HL7.out HO7.out).mono ?_
      rintro e w9 ⟨rfl, hb9⟩
      rw [HMK.out]
      have HB9 := Lib.hid (chain HB7.out HB7.out.size hb9)
      have HV9 := Lib.hid ((HV7.out.below hb9).mono hb9.size)
      have HO9 := Lib.hid ((HO7.out.below hb9).mono hb9.size)
      clear hb9
      go_wp2_with fail
      refine (rmark_any _ l off b hb2 (by rw [HNL.out]; omega) HF.out _ HV9.out).mono ?_
      rintro e w10 ⟨rfl, hb10⟩
      rw [HMK.out]
      have HB10 := Lib.hid (chain HB9.out HB9.out.size hb10)
      have HV10 := Lib.hid ((HV9.out.below hb10).mono hb10.size)
      have HO10 := Lib.hid ((HO9.out.below hb10).mono hb10.size)
      have HL10 := Lib.hid (HL.out.below HB10.out hLN)
      clear hb10
      go_wp2_with fail
      refine (R.digit v4 l 0 b (by rw [HNL.out]; omega) HFX.out hb2 HC4.out _ HL10.out HO10.out).mono ?_
      rintro e w11 ⟨rfl, hb11⟩
      rw [HDG.out]
      have HB11 := Lib.hid (chain HB10.out HB10.out.size hb11)
      have HV11 := Lib.hid ((HV10.out.below hb11).mono hb11.size)
      have HO11 := Lib.hid ((HO10.out.below hb11).mono hb11.size)
      clear hb11
      go_wp2_with fail
      refine (rdigit_any _ l off b hb2 (by rw [HNL.out]; omega) HF.out _ HV11.out).mono ?_
      rintro e w12 ⟨rfl, hb12⟩
      rw [HDG.out]
      have HB12 := Lib.hid (chain HB11.out HB11.out.size hb12)
      have HV12 := Lib.hid ((HV11.out.below hb12).mono hb12.size)
      have HO12 := Lib.hid ((HO11.out.below hb12).mono hb12.size)
      clear hb12 s1 s2 s3 s4 s5 s6 s7 s8 s9
      go_wp2_with fail
      refine (R.names _ (HL.out.below HB12.out hLN)).mono ?_
      rintro e w13 ⟨v13, rfl, own13, hb13⟩
      have HS13 := Lib.hid hb13
      have HN13 := Lib.hid own13
      clear own13 hb13
      go_wp2_with fail
      refine (rnames_any _).mono ?_
      rintro e w14 ⟨v14, rfl, own14, hb14⟩
      have HS14 := Lib.hid (HS13.out.trans (hb14.mono HS13.out.size))
      have own13 := own_below HN13.out hb14
      have own14 : w14.ownsRow w13.heap.size 9 1 v14 13 (rows cS namesL) := own14
      obtain ⟨A13, c13, rfl, -, -, hA13⟩ := own_formR own13
      obtain ⟨g13, rfl, hg13⟩ := hA13 (by decide)
      obtain ⟨A14, c14, rfl, -, -, hA14⟩ := own_formR own14
      obtain ⟨g14, rfl, hg14⟩ := hA14 (by decide)
      have HN14 := Lib.hid own13
      have HW14 := Lib.hid own14
      clear own13 own14 hb14 HN13 hA13 hA14 hg13 hg14
      go_wp2
      go_loopw [14] (fun u14 wr => ∃ k : Nat, u14 = .int .i64 k ∧ k ≤ 13 ∧ Below w14.heap.size w14 wr) (fun u14 _ => 13 - (intOf u14).toNat)
      case atStart => exact ⟨0, rfl, by omega, Below.refl _ _⟩
      case round =>
        obtain ⟨k, rfl, hk, hB⟩ := hrel
        have HB := Lib.hid hB
        by_cases hlt : k < 13
        · obtain ⟨nb, hnb⟩ : ∃ nb, namesL[k]? = some nb := ⟨_, List.getElem?_eq_getElem (show k < namesL.length from hlt)⟩
          have y1 := str_cell (own_below HN14.out hB) hlt hnb
          have y2 := str_cell (own_below HW14.out hB) hlt hnb
          obtain ⟨sb, hsb⟩ : ∃ sb, bytesOf nb = sb := ⟨_, rfl⟩
          rw [hsb] at y1 y2
          have i0 : (0 : Int) ≤ (k : Int) := by omega
          have i1 : (k : Int) < 13 := by omega
          have s1 : (sb.toList != sb.toList) = false := by simp
          have s2 : (sb.toList == sb.toList) = true := by simp
          have s3 : ((13 : Int) != 13) = false := rfl
          clear hB hnb hsb
          go_upto_region 12 with fail
          go_quiet (fail)
          go_wp2
          go_roundw
          case rel => exact ⟨k + 1, by go_num, by omega, Ba.below_drewN HB.out _⟩
          case measure => simp [intOf]; omega
        · obtain rfl : k = 13 := by omega
          obtain ⟨wa, hcl, hba⟩ : ∃ wa, (∀ ty, (Builtin.clear_ #[35] ty #[.slice (some ⟨g13, 0, none⟩) 13 c13]).run Tryz.prog wr = .ok (.tuple #[]) wa) ∧ Below w12.heap.size wr wa := by
            obtain ⟨wa, h1, h2⟩ := run_clear_strings wr 35 w12.heap.size _ 13 namesL rfl (own_below HN14.out hB)
            exact ⟨wa, fun ty => h1, h2⟩
          have hSR := HS14.out.trans (hB.mono HS14.out.size)
          have HSA := Lib.hid (hSR.trans hba)
          have HBA := Lib.hid (HB12.out.trans (HSA.out.mono HB12.out.size))
          have HVA := Lib.hid (HV12.out.below HSA.out)
          have HOA := Lib.hid (HO12.out.below HSA.out)
          obtain ⟨A4, c4, rfl, hA4⟩ := HOA.out
          obtain ⟨A1, c1, e1, hA1⟩ := HVA.out
          obtain ⟨rfl, -, -⟩ := Value.slice.inj e1
          clear e1
          have HA4 := Lib.hid hA4
          have HA1 := Lib.hid hA1
          rw [HNL.out] at HOA
          rw [HNL.out]
          clear hA4 hA1 hB hba hSR HB HC4 HO4 HO5 HO6 HO7 HO9 HO10 HO11 HO12
          go_wp2
          clear hcl
          go_loopw [15] (fun u15 wr => ∃ k : Nat, u15 = .int .i64 k ∧ k ≤ nl ∧ Below wa.heap.size wa wr) (fun u15 _ => nl - (intOf u15).toNat)
          case atStart => exact ⟨0, rfl, Nat.zero_le _, Below.refl _ _⟩
          case round =>
            obtain ⟨k, rfl, hk, hB⟩ := hrel
            have HB := Lib.hid hB
            have HBR := Lib.hid (chain HBA.out HBA.out.size hB)
            have HLR := Lib.hid (HL.out.below HBR.out hLN)
            have HVR := Lib.hid (HVA.out.below (hB.mono HSA.out.size))
            have HOR := Lib.hid (HOA.out.below (hB.mono HSA.out.size))
            have hsA := HSA.out.size
            by_cases hlt : k < nl
            · have d1 : decide ((k : Int) < (nl : Int)) = true := decide_eq_true (by omega)
              by_cases h50 : k < 50
              · have d2 : decide ((k : Int) < 50) = true := decide_eq_true (by omega)
                obtain ⟨g4, rfl, hg4w, hg4⟩ := HA4.out (by rw [HNL.out]; omega)
                obtain ⟨g0, rfl, hg0w, hg0⟩ := HA1.out (by rw [HNL.out]; omega)
                obtain ⟨x, hx⟩ : ∃ x, l[k]? = some x := ⟨_, List.getElem?_eq_getElem (by rw [HNL.out]; exact hlt)⟩
                obtain ⟨a0, a1, a2, a3, a4⟩ := rcell hg4 k x hx
                obtain ⟨b0, b1, b2, b3, b4⟩ := rcell hg0 k x hx
                have r4 : g4 < wa.heap.size := by omega
                have r0 : g0 < wa.heap.size := by omega
                have a0 := (hB.cell (p := ⟨g4, 0 + k * 5, none⟩) r4).trans a0
                have a1 := (hB.cell (p := ⟨g4, 0 + k * 5 + 1, none⟩) r4).trans a1
                have a2 := (hB.cell (p := ⟨g4, 0 + k * 5 + 2, none⟩) r4).trans a2
                have a3 := (hB.cell (p := ⟨g4, 0 + k * 5 + 3, none⟩) r4).trans a3
                have a4 := (hB.cell (p := ⟨g4, 0 + k * 5 + 4, none⟩) r4).trans a4
                have b0 := (hB.cell (p := ⟨g0, off + k * 5, none⟩) r0).trans b0
                have b1 := (hB.cell (p := ⟨g0, off + k * 5 + 1, none⟩) r0).trans b1
                have b2 := (hB.cell (p := ⟨g0, off + k * 5 + 2, none⟩) r0).trans b2
                have b3 := (hB.cell (p := ⟨g0, off + k * 5 + 3, none⟩) r0).trans b3
                have b4 := (hB.cell (p := ⟨g0, off + k * 5 + 4, none⟩) r0).trans b4
                simp only [Nat.zero_add] at a0 a1 a2 a3 a4
                obtain ⟨f1, f2, f3⟩ := HFX.out x (List.mem_of_getElem? hx)
                obtain ⟨bm, hbm⟩ : ∃ bm, mayR prC x = bm := ⟨_, rfl⟩
                have HM1 := Lib.hid (fun W hW => hbm ▸ R.may x f1 f2 f3 W hW)
                have HM2 := Lib.hid (fun W => rmay_any x f1 (by omega) (by omega) bm hbm W)
                have i0 : (0 : Int) ≤ (k : Int) := by omega
                have i1 : (k : Int) < (nl : Int) := by omega
                have q4 : g4 < wr.heap.size := Nat.lt_of_lt_of_le r4 hB.size
                have q0 : g0 < wr.heap.size := Nat.lt_of_lt_of_le r0 hB.size
                have z1 : (bm != bm) = false := by simp
                obtain ⟨xw, xl, xc, xp, xn⟩ := x
                simp only [aggR] at HM1 HM2
                simp only [] at a0 a1 a2 a3 a4 b0 b1 b2 b3 b4
                clear hx f1 f2 f3 hbm hg4 hg0 hB
                go_upto_region 18 with fail
                go_cut [117] (fun u117 wx => u117 = .bool false ∧ Below wa.heap.size wa wx)
                case first =>
                  have HKC := Lib.hid (show ∀ W : World, Below wr.heap.size wr W → W.cell? ⟨g4, k * 5, none⟩ = some (.int .i64 xw) ∧ W.cell? ⟨g4, k * 5 + 1, none⟩ = some (.string (bytesOf xl)) ∧ W.cell? ⟨g4, k * 5 + 2, none⟩ = some (.string (bytesOf xc)) ∧ W.cell? ⟨g4, k * 5 + 3, none⟩ = some (.int .i64 xp) ∧ W.cell? ⟨g4, k * 5 + 4, none⟩ = some (.int .i64 xn) ∧ W.cell? ⟨g0, off + k * 5, none⟩ = some (.int .i64 xw) ∧ W.cell? ⟨g0, off + k * 5 + 1, none⟩ = some (.string (bytesOf xl)) ∧ W.cell? ⟨g0, off + k * 5 + 2, none⟩ = some (.string (bytesOf xc)) ∧ W.cell? ⟨g0, off + k * 5 + 3, none⟩ = some (.int .i64 xp) ∧ W.cell? ⟨g0, off + k * 5 + 4, none⟩ = some (.int .i64 xn) ∧ Below wr.heap.size wr W from fun W hW => ⟨(hW.cell q4).trans a0, (hW.cell q4).trans a1, (hW.cell q4).trans a2, (hW.cell q4).trans a3, (hW.cell q4).trans a4, (hW.cell q0).trans b0, (hW.cell q0).trans b1, (hW.cell q0).trans b2, (hW.cell q0).trans b3, (hW.cell q0).trans b4, hW⟩)
                  have HCC := Lib.hid (show ∀ W W' : World, (W.cell? ⟨g4, k * 5, none⟩ = some (.int .i64 xw) ∧ W.cell? ⟨g4, k * 5 + 1, none⟩ = some (.string (bytesOf xl)) ∧ W.cell? ⟨g4, k * 5 + 2, none⟩ = some (.string (bytesOf xc)) ∧ W.cell? ⟨g4, k * 5 + 3, none⟩ = some (.int .i64 xp) ∧ W.cell? ⟨g4, k * 5 + 4, none⟩ = some (.int .i64 xn) ∧ W.cell? ⟨g0, off + k * 5, none⟩ = some (.int .i64 xw) ∧ W.cell? ⟨g0, off + k * 5 + 1, none⟩ = some (.string (bytesOf xl)) ∧ W.cell? ⟨g0, off + k * 5 + 2, none⟩ = some (.string (bytesOf xc)) ∧ W.cell? ⟨g0, off + k * 5 + 3, none⟩ = some (.int .i64 xp) ∧ W.cell? ⟨g0, off + k * 5 + 4, none⟩ = some (.int .i64 xn) ∧ Below wr.heap.size wr W) → Below W.heap.size W W' → W'.cell? ⟨g4, k * 5, none⟩ = some (.int .i64 xw) ∧ W'.cell? ⟨g4, k * 5 + 1, none⟩ = some (.string (bytesOf xl)) ∧ W'.cell? ⟨g4, k * 5 + 2, none⟩ = some (.string (bytesOf xc)) ∧ W'.cell? ⟨g4, k * 5 + 3, none⟩ = some (.int .i64 xp) ∧ W'.cell? ⟨g4, k * 5 + 4, none⟩ = some (.int .i64 xn) ∧ W'.cell? ⟨g0, off + k * 5, none⟩ = some (.int .i64 xw) ∧ W'.cell? ⟨g0, off + k * 5 + 1, none⟩ = some (.string (bytesOf xl)) ∧ W'.cell? ⟨g0, off + k * 5 + 2, none⟩ = some (.string (bytesOf xc)) ∧ W'.cell? ⟨g0, off + k * 5 + 3, none⟩ = some (.int .i64 xp) ∧ W'.cell? ⟨g0, off + k * 5 + 4, none⟩ = some (.int .i64 xn) ∧ Below wr.heap.size wr W' from fun W W' h hb => HKC.out W' (chain h.2.2.2.2.2.2.2.2.2.2 h.2.2.2.2.2.2.2.2.2.2.size hb))
                  have HLC := Lib.hid (show ∀ W : World, (W.cell? ⟨g4, k * 5, none⟩ = some (.int .i64 xw) ∧ W.cell? ⟨g4, k * 5 + 1, none⟩ = some (.string (bytesOf xl)) ∧ W.cell? ⟨g4, k * 5 + 2, none⟩ = some (.string (bytesOf xc)) ∧ W.cell? ⟨g4, k * 5 + 3, none⟩ = some (.int .i64 xp) ∧ W.cell? ⟨g4, k * 5 + 4, none⟩ = some (.int .i64 xn) ∧ W.cell? ⟨g0, off + k * 5, none⟩ = some (.int .i64 xw) ∧ W.cell? ⟨g0, off + k * 5 + 1, none⟩ = some (.string (bytesOf xl)) ∧ W.cell? ⟨g0, off + k * 5 + 2, none⟩ = some (.string (bytesOf xc)) ∧ W.cell? ⟨g0, off + k * 5 + 3, none⟩ = some (.int .i64 xp) ∧ W.cell? ⟨g0, off + k * 5 + 4, none⟩ = some (.int .i64 xn) ∧ Below wr.heap.size wr W) → LaidR W from fun W h => HLR.out.below h.2.2.2.2.2.2.2.2.2.2 (by have := HBR.out.size; omega))
                  have HEC := Lib.hid (show ∀ W : World, (W.cell? ⟨g4, k * 5, none⟩ = some (.int .i64 xw) ∧ W.cell? ⟨g4, k * 5 + 1, none⟩ = some (.string (bytesOf xl)) ∧ W.cell? ⟨g4, k * 5 + 2, none⟩ = some (.string (bytesOf xc)) ∧ W.cell? ⟨g4, k * 5 + 3, none⟩ = some (.int .i64 xp) ∧ W.cell? ⟨g4, k * 5 + 4, none⟩ = some (.int .i64 xn) ∧ W.cell? ⟨g0, off + k * 5, none⟩ = some (.int .i64 xw) ∧ W.cell? ⟨g0, off + k * 5 + 1, none⟩ = some (.string (bytesOf xl)) ∧ W.cell? ⟨g0, off + k * 5 + 2, none⟩ = some (.string (bytesOf xc)) ∧ W.cell? ⟨g0, off + k * 5 + 3, none⟩ = some (.int .i64 xp) ∧ W.cell? ⟨g0, off + k * 5 + 4, none⟩ = some (.int .i64 xn) ∧ Below wr.heap.size wr W) → Below wa.heap.size wa W from fun W h => chain HB.out HB.out.size h.2.2.2.2.2.2.2.2.2.2)
                  have hS0 := HKC.out _ (Below.refl _ _).drew
                  refine wp_region_held_drew (S := fun W => W.cell? ⟨g4, k * 5, none⟩ = some (.int .i64 xw) ∧ W.cell? ⟨g4, k * 5 + 1, none⟩ = some (.string (bytesOf xl)) ∧ W.cell? ⟨g4, k * 5 + 2, none⟩ = some (.string (bytesOf xc)) ∧ W.cell? ⟨g4, k * 5 + 3, none⟩ = some (.int .i64 xp) ∧ W.cell? ⟨g4, k * 5 + 4, none⟩ = some (.int .i64 xn) ∧ W.cell? ⟨g0, off + k * 5, none⟩ = some (.int .i64 xw) ∧ W.cell? ⟨g0, off + k * 5 + 1, none⟩ = some (.string (bytesOf xl)) ∧ W.cell? ⟨g0, off + k * 5 + 2, none⟩ = some (.string (bytesOf xc)) ∧ W.cell? ⟨g0, off + k * 5 + 3, none⟩ = some (.int .i64 xp) ∧ W.cell? ⟨g0, off + k * 5 + 4, none⟩ = some (.int .i64 xn) ∧ Below wr.heap.size wr W) (by kernel_rfl) hS0 (fun hHeld => ?_)
                  refine Rg.take_w 0 (by simp only [List.getElem?_toArray, List.getElem?_cons_zero]; rfl) (by kernel_rfl) (by kernel_rfl) (by kernel_rfl) (.slice (some ⟨g4, 0, none⟩) nl c4) (by exact fun _ _ _ h => h) (by rfl) (by intro W hSw; (try dsimp only at hSw); go_simp) (by with_reducible assumption) ?_
                  try simp only [Act.put, List.setIfInBounds_toArray, List.set_cons_zero, List.set_cons_succ]
                  refine Rg.take_w 1 (by simp only [List.getElem?_toArray, List.getElem?_cons_succ, List.getElem?_cons_zero]; rfl) (by kernel_rfl) (by kernel_rfl) (by kernel_rfl) (.int .i64 (k : Int)) (by exact fun _ _ _ h => h) (by rfl) (by intro W hSw; (try dsimp only at hSw); go_simp) (by with_reducible assumption) ?_
                  try simp only [Act.put, List.setIfInBounds_toArray, List.set_cons_zero, List.set_cons_succ]
                  refine Rg.take_w 2 (by simp only [List.getElem?_toArray, List.getElem?_cons_succ, List.getElem?_cons_zero]; rfl) (by kernel_rfl) (by kernel_rfl) (by kernel_rfl) (.pointer (some ⟨g4, k * 5, none⟩)) (by exact fun _ _ _ h => h) (by rfl) (by intro W hSw; (try dsimp only at hSw); go_simp) (by with_reducible assumption) ?_
                  try simp only [Act.put, List.setIfInBounds_toArray, List.set_cons_zero, List.set_cons_succ]
                  refine Rg.take_w 3 (by simp only [List.getElem?_toArray, List.getElem?_cons_succ, List.getElem?_cons_zero]; rfl) (by kernel_rfl) (by kernel_rfl) (by kernel_rfl) (.agg #[.int .i64 xw, .string (bytesOf xl), .string (bytesOf xc), .int .i64 xp, .int .i64 xn]) (by exact fun _ _ _ h => h) (by rfl) (by intro W hSw; (try dsimp only at hSw); go_simp) (by with_reducible assumption) ?_
                  try simp only [Act.put, List.setIfInBounds_toArray, List.set_cons_zero, List.set_cons_succ]
                  refine Rg.take_w 5 (by simp only [List.getElem?_toArray, List.getElem?_cons_succ, List.getElem?_cons_zero]; rfl) (by kernel_rfl) (by kernel_rfl) (by kernel_rfl) (.slice (some ⟨g0, off, none⟩) nl c) (by exact fun _ _ _ h => h) (by rfl) (by intro W hSw; (try dsimp only at hSw); go_simp) (by with_reducible assumption) ?_
                  try simp only [Act.put, List.setIfInBounds_toArray, List.set_cons_zero, List.set_cons_succ]
                  refine Rg.take_w 6 (by simp only [List.getElem?_toArray, List.getElem?_cons_succ, List.getElem?_cons_zero]; rfl) (by kernel_rfl) (by kernel_rfl) (by kernel_rfl) (.int .i64 (k : Int)) (by exact fun _ _ _ h => h) (by rfl) (by intro W hSw; (try dsimp only at hSw); go_simp) (by with_reducible assumption) ?_
                  try simp only [Act.put, List.setIfInBounds_toArray, List.set_cons_zero, List.set_cons_succ]
                  refine Rg.take_w 7 (by simp only [List.getElem?_toArray, List.getElem?_cons_succ, List.getElem?_cons_zero]; rfl) (by kernel_rfl) (by kernel_rfl) (by kernel_rfl) (.pointer (some ⟨g0, off + k * 5, none⟩)) (by exact fun _ _ _ h => h) (by rfl) (by intro W hSw; (try dsimp only at hSw); go_simp) (by with_reducible assumption) ?_
                  try simp only [Act.put, List.setIfInBounds_toArray, List.set_cons_zero, List.set_cons_succ]
                  refine Rg.take_w 8 (by simp only [List.getElem?_toArray, List.getElem?_cons_succ, List.getElem?_cons_zero]; rfl) (by kernel_rfl) (by kernel_rfl) (by kernel_rfl) (.agg #[.int .i64 xw, .string (bytesOf xl), .string (bytesOf xc), .int .i64 xp, .int .i64 xn]) (by exact fun _ _ _ h => h) (by rfl) (by intro W hSw; (try dsimp only at hSw); go_simp) (by with_reducible assumption) ?_
                  try simp only [Act.put, List.setIfInBounds_toArray, List.set_cons_zero, List.set_cons_succ]
                  refine Rg.take_one 4 (by simp only [List.getElem?_toArray, List.getElem?_cons_succ, List.getElem?_cons_zero]; rfl) (by kernel_rfl) (fun K hK => ?_)
                  go_simp
                  go_at_call 21
                  refine (HM1.out _ (HLC.out _ hS0)).mono ?_
                  rintro en w16 ⟨rfl, hbw16⟩
                  have hS16 := HCC.out _ _ hS0 hbw16
                  go_wp2_with fail
                  refine hK.out _ _ hS16 (fun hHeldw16 => ?_)
                  clear hK K
                  try simp only [Act.put, List.setIfInBounds_toArray, List.set_cons_zero, List.set_cons_succ]
                  refine Rg.take_one 9 (by simp only [List.getElem?_toArray, List.getElem?_cons_succ, List.getElem?_cons_zero]; rfl) (by kernel_rfl) (fun K hK => ?_)
                  go_simp
                  go_at_call 22
                  refine (HM2.out _).mono ?_
                  rintro en w17 ⟨rfl, hbw17⟩
                  have hS17 := HCC.out _ _ hS16 hbw17
                  go_wp2_with fail
                  refine hK.out _ _ hS17 (fun hHeldw17 => ?_)
                  clear hK K
                  try simp only [Act.put, List.setIfInBounds_toArray, List.set_cons_zero, List.set_cons_succ]
                  refine Rg.take_w 10 (by simp only [List.getElem?_toArray, List.getElem?_cons_succ, List.getElem?_cons_zero]; rfl) (by kernel_rfl) (by kernel_rfl) (by kernel_rfl) (.bool false) (by exact fun _ _ _ h => h) (by rfl) (by intro W hSw; (try dsimp only at hSw); go_simp) (by with_reducible assumption) ?_
                  try simp only [Act.put, List.setIfInBounds_toArray, List.set_cons_zero, List.set_cons_succ]
                  refine wpAnyH_done (by kernel_rfl) ?_ _
                  have HE := Lib.hid (HEC.out _ hS17)
                  go_wp2
                  go_meet
                  exact ⟨rfl, HE.out⟩
                case rest =>
                  obtain ⟨rfl, hBx⟩ := hcut
                  have HBX := Lib.hid hBx
                  clear hBx
                  go_wp2
                  go_roundw
                  case rel => exact ⟨k + 1, by go_num, by omega, HBX.out⟩
                  case measure => simp [intOf]; omega
              · have d2 : decide ((k : Int) < 50) = false := decide_eq_false (by omega)
                clear hB
                go_wp2_with fail
                refine (rsame_any _ _ l 0 off (by rw [HNL.out]; omega) _ _ _ HOR.out HVR.out).mono ?_
                rintro e w20 ⟨rfl, nq, hq⟩
                have HB20 := Lib.hid (show Below w'.heap.size w' w20 by rw [hq]; exact Ba.below_drewN HBR.out nq)
                have HL20 := Lib.hid (HL.out.below HB20.out hLN)
                clear hq
                go_wp2_with fail
                refine (awake8 R _ HL20.out).mono ?_
                rintro e w21 ⟨rfl, hb21⟩
                have HB21 := Lib.hid (chain HB20.out HB20.out.size hb21)
                clear hb21
                go_wp2
                go_ret
                exact ⟨rfl, HB21.out⟩
            · obtain rfl : k = nl := by omega
              clear hB
              go_wp2_with fail
              refine (rsame_any _ _ l 0 off (by rw [HNL.out]; omega) _ _ _ HOR.out HVR.out).mono ?_
              rintro e w20 ⟨rfl, nq, hq⟩
              have HB20 := Lib.hid (show Below w'.heap.size w' w20 by rw [hq]; exact Ba.below_drewN HBR.out nq)
              have HL20 := Lib.hid (HL.out.below HB20.out hLN)
              clear hq
              go_wp2_with fail
              refine (awake8 R _ HL20.out).mono ?_
              rintro e w21 ⟨rfl, hb21⟩
              have HB21 := Lib.hid (chain HB20.out HB20.out.size hb21)
              clear hb21
              go_wp2
              go_ret
              exact ⟨rfl, HB21.out⟩
end Go.Proofs.YtkhfingenjlpfaaGreatDoor.Ru
