/-
  Layer 8's document: a table, printed.
-/
import Derived.Test.YtkhfingenjlpfaaGreatDoorRuH
namespace Go.Proofs.YtkhfingenjlpfaaGreatDoor.Ru
open Go.RowKit Ba

theorem bytesOf_app (a b : List Nat) : bytesOf (a ++ b) = bytesOf a ++ bytesOf b := Ce.bytesOf_append a b
theorem textR_step (l : List Rl) (k : Nat) (x : Rl) (h : l[k]? = some x) : textR prC (l.take (k + 1)) = textR prC (l.take k) ++ (lineR prC x ++ [10]) := by
  unfold textR
  rw [List.take_add_one, h, Option.toList_some, List.flatMap_append, List.flatMap_singleton]
/-- A rule that may be: its parts. -/
theorem may_parts {x : Rl} (h : mayR prC x = true) : ∃ (q : Nat) (t : List Nat), x.what = (q : Int) ∧ 1 ≤ q ∧ q ≤ 8 ∧ leftB q x.left = true ∧ prC x.cells = some t ∧ (q ≤ 5 → ∃ p : Nat, x.prio = (p : Int) ∧ p ≤ 99) ∧ (5 < q → x.prio = 0) := by
  unfold mayR at h
  simp only [Bool.and_eq_true, decide_eq_true_eq] at h
  obtain ⟨⟨⟨⟨h1, h8⟩, hl⟩, hc⟩, hp⟩ := h
  obtain ⟨q, hq⟩ := Int.eq_ofNat_of_zero_le (show 0 ≤ x.what by omega)
  obtain ⟨t, ht⟩ := Option.isSome_iff_exists.1 hc
  rw [hq, Int.toNat_natCast] at hl
  refine ⟨q, t, hq, by omega, by omega, hl, ht, fun h5 => ?_, fun h5 => ?_⟩
  · rw [if_pos (by omega)] at hp
    have hp : 0 ≤ x.prio ∧ x.prio ≤ 99 := by simpa using hp
    obtain ⟨p, hp2⟩ := Int.eq_ofNat_of_zero_le hp.1
    exact ⟨p, hp2, by omega⟩
  · rw [if_neg (by omega)] at hp
    simpa using hp
theorem left_len {q : Nat} {s : List Nat} (h : leftB q s = true) : s.length ≤ 12 := by
  unfold leftB at h
  by_cases h5 : q ≤ 5
  · rw [if_pos h5, Bool.and_eq_true, decide_eq_true_eq] at h
    exact h.1.2
  rw [if_neg h5] at h
  by_cases h6 : q = 6
  · rw [if_pos h6] at h
    match s, h with
    | [b], _ => simp
  rw [if_neg h6] at h
  by_cases h7 : q = 7
  · rw [if_pos h7] at h
    match s, h with
    | [b], _ => simp
  rw [if_neg h7, List.contains_iff_mem] at h
  have : ∀ s ∈ namesL, s.length ≤ 12 := by decide +kernel
  exact this s h
theorem prC_len {c t : List Nat} (h : prC c = some t) : t.length ≤ 28 ∧ Ce.printV (bytesOf c) = bytesOf t := by
  unfold prC at h
  split at h
  · rename_i hk
    cases h
    refine ⟨?_, ?_⟩
    · have h1 := Ce.printT_len c
      have h2 := hk.2.2.1
      have h3 : (Ce.bytesOf c).size = c.length := Ce.bytesOf_size c
      omega
    · show (if Ce.printOK (Ce.bytesOf c) then Ce.bytesOf (Ce.printT (Ce.bytesN (Ce.bytesOf c))) else _) = _
      rw [if_pos hk.2, Ce.bytesN_bytesOf c hk.1]; rfl
  · cases h
theorem word_len : ∀ q : Fin 9, (wordL q.val).length ≤ 5 := by decide +kernel
theorem digL_len (p : Nat) : (digL p).length ≤ 2 := by unfold digL; split <;> simp
theorem line_len {x : Rl} (h : mayR prC x = true) : (lineR prC x ++ [10]).length ≤ 60 := by
  obtain ⟨q, t, hq, h1, h8, hl, hc, h5, -⟩ := may_parts h
  have e1 := left_len hl
  have e2 := (prC_len hc).1
  have e3 : (wordL q).length ≤ 5 := word_len ⟨q, by omega⟩
  have e4 := digL_len x.prio.toNat
  unfold lineR
  rw [hq, Int.toNat_natCast, hc, Option.getD_some]
  split <;> simp only [List.length_append, List.length_cons, List.length_nil] <;> omega
theorem text_len : ∀ (l : List Rl), (∀ x ∈ l, mayR prC x = true) → (textR prC l).length ≤ 60 * l.length
  | [], _ => Nat.le_refl _
  | x :: l, h => by
    have ih := text_len l fun y hy => h y (List.mem_cons_of_mem _ hy)
    have hx := line_len (h x (List.mem_cons_self ..))
    unfold textR at ih ⊢
    rw [List.flatMap_cons, List.length_append, List.length_cons]
    omega
theorem printZ_many {l : List Rl} (h : 400 < l.length) : printZ l = ([], 4) := by unfold printZ printR; rw [if_pos h]
theorem printZ_bad {l : List Rl} {k : Nat} {x : Rl} (h : l.length ≤ 400) (hx : l[k]? = some x) (hn : mayR prC x = false) : printZ l = ([], 1) := by
  unfold printZ printR
  rw [if_neg (by omega), if_neg]
  intro ha
  have := List.all_eq_true.1 ha x (List.mem_of_getElem? hx)
  rw [hn] at this; cases this
theorem printZ_ok {l : List Rl} (h : l.length ≤ 400) (ha : ∀ x ∈ l, mayR prC x = true) : printZ l = (textR prC l, 0) := by
  unfold printZ printR
  rw [if_neg (by omega), if_pos (List.all_eq_true.2 ha)]
theorem take_may {l : List Rl} {k : Nat} {x : Rl} (h : ∀ y ∈ l.take k, mayR prC y = true) (hx : l[k]? = some x) (hn : mayR prC x = true) : ∀ y ∈ l.take (k + 1), mayR prC y = true := fun y hy => by
  rw [List.take_add_one, hx, List.mem_append] at hy
  rcases hy with hy | hy
  · exact h y hy
  · rw [Option.toList_some, List.mem_singleton] at hy
    rw [hy]; exact hn
/-- What the next line adds to the text. -/
def lineS (q : Nat) (L D : ByteArray) : ByteArray := bytesOf (wordL q) ++ { data := #[32] } ++ L ++ { data := #[32] } ++ D
theorem line_short {x : Rl} {q : Nat} {t : List Nat} (hq : x.what = (q : Int)) (hc : prC x.cells = some t) (h5 : 5 < q) : bytesOf (lineR prC x) = bytesOf (wordL q) ++ ({ data := #[32] } ++ (bytesOf x.left ++ ({ data := #[32] } ++ bytesOf t))) := by
  unfold lineR
  rw [hq, Int.toNat_natCast, hc, Option.getD_some, if_neg (by omega), List.append_nil, bytesOf_app, show (32 :: (x.left ++ 32 :: t) : List Nat) = [32] ++ (x.left ++ ([32] ++ t)) from rfl, bytesOf_app, bytesOf_app, bytesOf_app]
  rfl
theorem line_prio {x : Rl} {q p : Nat} {t : List Nat} (hq : x.what = (q : Int)) (hc : prC x.cells = some t) (h5 : q ≤ 5) (hp : x.prio = (p : Int)) : bytesOf (lineR prC x) = bytesOf (wordL q) ++ ({ data := #[32] } ++ (bytesOf x.left ++ ({ data := #[32] } ++ (bytesOf t ++ ({ data := #[32] } ++ bytesOf (digL p)))))) := by
  unfold lineR
  rw [hq, Int.toNat_natCast, hc, Option.getD_some, if_pos (by omega), hp, Int.toNat_natCast, bytesOf_app, show (32 :: (x.left ++ 32 :: (t ++ 32 :: digL p)) : List Nat) = [32] ++ (x.left ++ ([32] ++ (t ++ ([32] ++ digL p)))) from rfl, bytesOf_app, bytesOf_app, bytesOf_app, bytesOf_app, bytesOf_app]
  rfl
def StrTo (r : List Nat × Nat) (w : World) (e : Ending) (w' : World) : Prop := e = .returned (.tuple #[.string (bytesOf r.1), .int .i64 ((r.2 : Nat) : Int)]) ∧ Below w.heap.size w w'
theorem word_cell {W : World} {B gw cw q : Nat} {wd : ByteArray} (h : W.ownsRow B 9 1 (.slice (some ⟨gw, 0, none⟩) 9 cw) 9 (rows cS ([] :: wordsL))) (q1 : 1 ≤ q) (q8 : q ≤ 8) (hw : bytesOf (wordL q) = wd) : W.cell? ⟨gw, q, none⟩ = some (.string wd) := by
  rw [← hw]
  exact part_at h (words_at q1 q8) (by omega)
set_option maxRecDepth 100000 in
set_option maxHeartbeats 8000000 in
/-- stylusref08.Print -/
theorem rprintZ_any (v : Value) (l : List Rl) (off : Nat) (hl : l.length ≤ 1000) (hf : ∀ x ∈ l, FitR x ∧ x.left.length ≤ 9000 ∧ x.cells.length ≤ 9000) (w : World) (hv : ReadsR off w w.heap.size v l) :
    Calls Tryz.prog 12 #[v] w (StrTo (printZ l) w) := by
  obtain ⟨A, c, rfl, hA⟩ := hv
  have HA := Lib.hid hA; clear hA
  have HF := Lib.hid hf; clear hf
  go_enter Tryz.func12, Tryz.ntmps12
  by_cases hbig : 400 < l.length
  · have HFIN := Lib.hid (show StrTo (printZ l) w (.returned (.tuple #[.string { data := #[] }, .int .i64 4])) w from by rw [printZ_many hbig]; exact ⟨rfl, Below.refl _ _⟩)
    go_wp2
    refine bodyPost_ret (v := .tuple #[.string { data := #[] }, .int .i64 4]) (by simp [results, Tryz.f12, go_sem]) rfl ?_
    exact HFIN.out
  have h400 : l.length ≤ 400 := by omega
  have t400 : decide (400 < (l.length : Int)) = false := decide_eq_false (by omega)
  clear hbig
  go_wp2
  go_loopw [4, 5] (fun u4 u5 wr => ∃ (k : Nat) (t : ByteArray), u5 = .int .i64 k ∧ u4 = .string t ∧ k ≤ l.length ∧ (∀ y ∈ l.take k, mayR prC y = true) ∧ bytesOf (textR prC (l.take k)) = t ∧ Below w.heap.size w wr) (fun _ u5 _ => l.length - (intOf u5).toNat)
  case atStart => exact ⟨0, _, rfl, rfl, by omega, fun y hy => by simp at hy, rfl, Below.refl _ _⟩
  case round =>
    obtain ⟨k, t, rfl, rfl, hk, hM, ht, hB⟩ := hrel
    have hBs := hB.size
    by_cases hlt : k < l.length
    · obtain ⟨g, rfl, hgw, hg⟩ := HA.out (by omega)
      obtain ⟨x, hx⟩ : ∃ x, l[k]? = some x := ⟨_, List.getElem?_eq_getElem hlt⟩
      obtain ⟨g0, g1, g2, g3, g4⟩ := rcell hg k x hx
      have g0 := (hB.cell (p := ⟨g, off + k * 5, none⟩) hgw).trans g0
      have g1 := (hB.cell (p := ⟨g, off + k * 5 + 1, none⟩) hgw).trans g1
      have g2 := (hB.cell (p := ⟨g, off + k * 5 + 2, none⟩) hgw).trans g2
      have g3 := (hB.cell (p := ⟨g, off + k * 5 + 3, none⟩) hgw).trans g3
      have g4 := (hB.cell (p := ⟨g, off + k * 5 + 4, none⟩) hgw).trans g4
      obtain ⟨hf1, hf2, hf3⟩ := HF.out x (List.mem_of_getElem? hx)
      have HMAY := Lib.hid (fun b (hb : mayR prC x = b) W => rmay_any x hf1 (by omega) (by omega) b hb W)
      have HB := Lib.hid hB
      cases hmay : mayR prC x with
      | false =>
        have HM1 := Lib.hid (HMAY.out false hmay)
        have HFIN := Lib.hid (show ∀ W, Below w.heap.size w W → StrTo (printZ l) w (.returned (.tuple #[.string { data := #[] }, .int .i64 1])) W from fun W hW => by rw [printZ_bad h400 hx hmay]; exact ⟨rfl, hW⟩)
        obtain ⟨xw, xl, xc, xp, xn⟩ := x
        simp only [aggR] at g0 g1 g2 g3 g4 HM1
        clear hg hx hmay hf1 hf2 hf3 HMAY hM ht hB HA HF
        go_wp2_with fail
        refine (HM1.out _).mono ?_
        rintro e w5 ⟨rfl, hb5⟩
        have HB5 := Lib.hid (chain HB.out HB.out.size hb5)
        clear hb5
        go_wp2
        refine bodyPost_ret (v := .tuple #[.string { data := #[] }, .int .i64 1]) (by simp [results, Tryz.f12, go_sem]) rfl ?_
        exact HFIN.out _ HB5.out
      | true =>
        obtain ⟨q, T, hq, q1, q8, hlf, hpc, hp5, hp6⟩ := may_parts hmay
        have HM1 := Lib.hid (HMAY.out true hmay)
        obtain ⟨e1, e2⟩ := prC_len hpc
        obtain ⟨z, hz⟩ : ∃ z, Ce.printE (bytesOf x.cells) = z := ⟨_, rfl⟩
        have HPR := Lib.hid (fun W => hz ▸ e2 ▸ Ce.rprint_any (bytesOf x.cells) (by rw [bytesOf_size]; omega) W)
        have e3 := text_len (l.take k) hM
        have hts : t.size ≤ 60 * 400 := by
          rw [← ht, bytesOf_size]
          have : (l.take k).length ≤ 400 := by rw [List.length_take]; omega
          omega
        have hwd : (bytesOf (wordL q)).size ≤ 5 := by rw [bytesOf_size]; exact word_len ⟨q, by omega⟩
        have hLs : (bytesOf x.left).size ≤ 12 := by rw [bytesOf_size]; exact left_len hlf
        have hDs : (bytesOf T).size ≤ 28 := by rw [bytesOf_size]; exact e1
        have HNM := Lib.hid (take_may hM hx hmay)
        have HST := Lib.hid (show bytesOf (textR prC (l.take (k + 1))) = t ++ (bytesOf (lineR prC x) ++ { data := #[10] }) by rw [textR_step l k x hx, bytesOf_app, bytesOf_app, ht]; rfl)
        have HLS := Lib.hid (fun h5 => line_short hq hpc h5)
        have HLP := Lib.hid (fun p h5 hp => line_prio (p := p) hq hpc h5 hp)
        obtain ⟨xw, xl, xc, xp, xn⟩ := x
        obtain rfl : xw = (q : Int) := hq
        simp only [aggR] at g0 g1 g2 g3 g4 HM1
        simp only [] at HPR HLS HLP hLs hp5 hp6
        obtain ⟨wd, hwd2⟩ : ∃ wd, bytesOf (wordL q) = wd := ⟨_, rfl⟩
        obtain ⟨L, hL2⟩ : ∃ L, bytesOf xl = L := ⟨_, rfl⟩
        obtain ⟨C, hC2⟩ : ∃ C, bytesOf xc = C := ⟨_, rfl⟩
        obtain ⟨D, hD2⟩ : ∃ D, bytesOf T = D := ⟨_, rfl⟩
        rw [hwd2] at hwd HLS HLP
        rw [hL2] at g1 hLs HM1 HLS HLP
        rw [hC2] at g2 HM1 HPR
        rw [hD2] at hDs HLS HLP HPR
        have HWD := Lib.hid hwd2
        have q0 : (0 : Int) ≤ (q : Int) := by omega
        have q9 : (q : Int) < 9 := by omega
        clear hg hx hmay hf1 hf2 hf3 HMAY hM ht hB HF hz e2 e3 hlf hpc hwd2 hL2 hC2 hD2
        go_wp2_with fail
        refine (HM1.out _).mono ?_
        rintro e w5 ⟨rfl, hb5⟩
        have HB5 := Lib.hid (chain HB.out HB.out.size hb5)
        have hgr : g < wr.heap.size := by omega
        have G0 := (hb5.cell (p := ⟨g, off + k * 5, none⟩) hgr).trans g0
        have G1 := (hb5.cell (p := ⟨g, off + k * 5 + 1, none⟩) hgr).trans g1
        have G2 := (hb5.cell (p := ⟨g, off + k * 5 + 2, none⟩) hgr).trans g2
        have G3 := (hb5.cell (p := ⟨g, off + k * 5 + 3, none⟩) hgr).trans g3
        have hg5 : g < w5.heap.size := Nat.lt_of_lt_of_le hgr hb5.size
        clear hb5 g0 g1 g2 g3 g4
        go_wp2_with fail
        refine (HPR.out _).mono ?_
        rintro e w6 ⟨rfl, hb6⟩
        have HB6 := Lib.hid (chain HB5.out HB5.out.size hb6)
        have g0 := (hb6.cell (p := ⟨g, off + k * 5, none⟩) hg5).trans G0
        have g1 := (hb6.cell (p := ⟨g, off + k * 5 + 1, none⟩) hg5).trans G1
        have g3 := (hb6.cell (p := ⟨g, off + k * 5 + 3, none⟩) hg5).trans G3
        have hg6 : g < w6.heap.size := Nat.lt_of_lt_of_le hg5 hb6.size
        clear hb6 G0 G1 G2 G3
        go_upto_region 10 with fail
        have c1 : ¬ (9223372036854775807 < t.size + wd.size) := by omega
        have c2 : ¬ (9223372036854775807 < t.size + wd.size + 1) := by omega
        have c3 : ¬ (9223372036854775807 < t.size + wd.size + 1 + L.size) := by omega
        have c4 : ¬ (9223372036854775807 < t.size + wd.size + 1 + L.size + 1) := by omega
        have c5 : ¬ (9223372036854775807 < t.size + wd.size + 1 + L.size + 1 + D.size) := by omega
        go_cut [4] (fun u4 wx => u4 = .string (t ++ wd ++ { data := #[32] } ++ L ++ { data := #[32] } ++ D) ∧ wx.cell? ⟨g, off + k * 5, none⟩ = some (.int .i64 (q : Int)) ∧ wx.cell? ⟨g, off + k * 5 + 3, none⟩ = some (.int .i64 xp) ∧ Below w.heap.size w wx)
        case first =>
          go_region_with (first
          | (go_at_call 32; refine (rwords_any _).mono ?_; rintro e w7 ⟨vw, rfl, own7, hb7⟩; obtain ⟨gw, cw, rfl, -⟩ := own_slice (show w7.ownsRow _ _ 1 vw 9 _ from own7) (by decide); have WC := word_cell own7 q1 q8 HWD.out; have H0 := (hb7.cell (p := ⟨g, off + k * 5, none⟩) hg6).trans g0; have H1 := (hb7.cell (p := ⟨g, off + k * 5 + 1, none⟩) hg6).trans g1; have HF := Lib.hid (show w7.cell? ⟨g, off + k * 5, none⟩ = some (.int .i64 (q : Int)) ∧ w7.cell? ⟨g, off + k * 5 + 3, none⟩ = some (.int .i64 xp) ∧ Below w.heap.size w w7 from ⟨H0, (hb7.cell (p := ⟨g, off + k * 5 + 3, none⟩) hg6).trans g3, by first | exact chain HB6.out.drew HB6.out.drew.size hb7 | exact chain HB6.out HB6.out.size hb7 | exact chain HB6.out.drew.drew HB6.out.drew.drew.size hb7⟩); clear hb7 own7))
          all_goals
            go_wp2_with fail
            go_meet
            exact ⟨rfl, HF.out⟩
        case rest =>
          obtain ⟨rfl, g0', g3', hB7⟩ := hcut
          have HB7 := Lib.hid hB7
          have hs7 := hB7.size
          obtain ⟨S1, hS1⟩ : ∃ S1, t ++ wd ++ { data := #[32] } ++ L ++ { data := #[32] } ++ D = S1 := ⟨_, rfl⟩
          have hSs : S1.size ≤ 25000 := by
            rw [← hS1]
            simp only [ByteArray.size_append]
            have : ({ data := #[32] } : ByteArray).size = 1 := rfl
            omega
          rw [hS1]
          have HS1 := Lib.hid hS1
          clear hS1 hB7 c1 c2 c3 c4 c5 g0 g1 g3
          by_cases h5 : 5 < q
          · have t5 : decide ((q : Int) ≤ 5) = false := decide_eq_false (by omega)
            have HNX := Lib.hid (show bytesOf (textR prC (l.take (k + 1))) = S1 ++ { data := #[10] } by
              rw [HST.out, HLS.out h5, ← HS1.out]
              simp only [ByteArray.append_assoc])
            clear h5
            go_wp2
            go_roundw
            case rel => exact ⟨k + 1, _, by go_num, rfl, by omega, HNM.out, HNX.out, HB7.out⟩
            case measure => simp [intOf]; omega
          · have t5 : (q : Int) ≤ 5 := by omega
            obtain ⟨p, rfl, hp9⟩ := hp5 (by omega)
            have HLQ := Lib.hid (show bytesOf (textR prC (l.take (k + 1))) = ((S1 ++ { data := #[32] }) ++ bytesOf (digL p)) ++ { data := #[10] } by
              rw [HST.out, HLP.out p (by omega) rfl, ← HS1.out]
              simp only [ByteArray.append_assoc])
            have p0 : (0 : Int) ≤ (p : Int) := by omega
            clear h5 hp5 hp6
            by_cases h9 : 9 < p
            · have h9i : 9 < (p : Int) := by omega
              have hb1 := Ce.back_of_one wc (48 + p / 10) (by omega) (48 + (p : Int) / 10) (by omega)
              have hb2 := Ce.back_of_one (wc.alloc (.cells #[.int .u8 (48 + (p : Int) / 10)] 5)) (48 + p % 10) (by omega) (48 + (p : Int) % 10) (by omega)
              rw [World.size_alloc] at hb2
              obtain ⟨d1, hd1⟩ : ∃ d1, Ce.bytesOf [48 + p / 10] = d1 := ⟨_, rfl⟩
              obtain ⟨d2, hd2⟩ : ∃ d2, Ce.bytesOf [48 + p % 10] = d2 := ⟨_, rfl⟩
              rw [hd1] at hb1
              rw [hd2] at hb2
              have hz1 : d1.size = 1 := by rw [← hd1, Ce.bytesOf_size]; rfl
              have hz2 : d2.size = 1 := by rw [← hd2, Ce.bytesOf_size]; rfl
              have HNX := Lib.hid (show bytesOf (textR prC (l.take (k + 1))) = (((S1 ++ { data := #[32] }) ++ d1) ++ d2) ++ { data := #[10] } by
                rw [HLQ.out, show digL p = [48 + p / 10] ++ [48 + p % 10] by unfold digL; rw [if_pos h9]; rfl, bytesOf_app]
                show (S1 ++ { data := #[32] } ++ (Ce.bytesOf [48 + p / 10] ++ Ce.bytesOf [48 + p % 10])) ++ _ = _
                rw [hd1, hd2]
                simp only [ByteArray.append_assoc])
              have HBE := Lib.hid ((HB7.out.alloc hs7 (.cells #[.int .u8 (48 + (p : Int) / 10)] 5)).alloc (by simp; omega) (.cells #[.int .u8 (48 + (p : Int) % 10)] 5))
              clear hd1 hd2 h9
              go_wp2
              go_roundw
              case rel => exact ⟨k + 1, _, by go_num, rfl, by omega, HNM.out, HNX.out, HBE.out⟩
              case measure => simp [intOf]; omega
            · have h9i : decide (9 < (p : Int)) = false := decide_eq_false (by omega)
              have hb2 := Ce.back_of_one wc (48 + p % 10) (by omega) (48 + (p : Int) % 10) (by omega)
              obtain ⟨d2, hd2⟩ : ∃ d2, Ce.bytesOf [48 + p % 10] = d2 := ⟨_, rfl⟩
              rw [hd2] at hb2
              have hz2 : d2.size = 1 := by rw [← hd2, Ce.bytesOf_size]; rfl
              have HNX := Lib.hid (show bytesOf (textR prC (l.take (k + 1))) = ((S1 ++ { data := #[32] }) ++ d2) ++ { data := #[10] } by
                rw [HLQ.out, show digL p = [48 + p % 10] by unfold digL; rw [if_neg h9]]
                show (S1 ++ { data := #[32] } ++ Ce.bytesOf [48 + p % 10]) ++ _ = _
                rw [hd2])
              have HBE := Lib.hid (HB7.out.alloc hs7 (.cells #[.int .u8 (48 + (p : Int) % 10)] 5))
              clear hd2 h9
              go_wp2
              go_roundw
              case rel => exact ⟨k + 1, _, by go_num, rfl, by omega, HNM.out, HNX.out, HBE.out⟩
              case measure => simp [intOf]; omega
    · obtain rfl : k = l.length := by omega
      rw [List.take_length] at hM ht
      have HFIN := Lib.hid (show StrTo (printZ l) w (.returned (.tuple #[.string t, .int .i64 0])) wr from by rw [printZ_ok h400 hM]; exact ⟨by rw [ht]; rfl, hB⟩)
      clear hM ht hB
      go_wp2
      refine bodyPost_ret (v := .tuple #[.string t, .int .i64 0]) (by simp [results, Tryz.f12, go_sem]) rfl ?_
      exact HFIN.out
end Go.Proofs.YtkhfingenjlpfaaGreatDoor.Ru
