/-
  RulesNothing, whatever it is called with.
-/
import Derived.Test.YtkhfingenjlpfaaDoorRuK
namespace Go.Proofs.YtkhfingenjlpfaaDoor.Ru
open Go.RowKit Ba

theorem bytesN_cat (u t : ByteArray) : bytesN (u ++ t) = bytesN u ++ bytesN t := by
  unfold bytesN; rw [ByteArray.data_append, Array.toList_append, List.map_append]
/-- What extra holds behind k bytes. -/
def noLF (s : ByteArray) (k : Nat) : List Nat := ((bytesN s).take k).filter fun b => b != 10
theorem noLF_step (s : ByteArray) (k : Nat) (h : k < s.size) : noLF s (k + 1) = noLF s k ++ (if bAt s k = 10 then [] else [bAt s k]) := by
  unfold noLF
  rw [show (bytesN s).take (k + 1) = (bytesN s).take k ++ [bAt s k] from Ce.take_snoc s k h, List.filter_append]
  congr 1
  by_cases h10 : bAt s k = 10
  · rw [if_pos h10, List.filter_cons_of_neg (by simpa using h10), List.filter_nil]
  · rw [if_neg h10, List.filter_cons_of_pos (by simpa using h10), List.filter_nil]
theorem noLF_no (s : ByteArray) (k : Nat) : 10 ∉ noLF s k := fun h => by
  unfold noLF at h
  have := (List.mem_filter.1 h).2
  simp at this
theorem noLF_len (s : ByteArray) (k : Nat) : (noLF s k).length ≤ k := by
  unfold noLF
  exact Nat.le_trans (List.length_filter_le _ _) (by rw [List.length_take]; omega)
theorem ext_byte (s : ByteArray) (k : Nat) (h : k < s.size) : bytesN (s.extract k (k + 1)) = [bAt s k] := by
  rw [bytesN_ext, show k + 1 - k = 1 by omega]
  have hl : k < (bytesN s).length := by rw [bytesN_len]; exact h
  rw [List.drop_eq_getElem_cons hl]
  unfold bAt
  rw [List.getD_eq_getElem?_getD, List.getElem?_eq_getElem hl]
  rfl
theorem go_place : ∀ (m : List (List Nat)) (n : Nat) (acc : List Rl), (goP psC m n acc).2.1 ≤ n + m.length
  | [], n, acc => Nat.zero_le _
  | t :: m, n, acc => by
    rw [List.length_cons]
    by_cases hs : t = [] ∨ t.head? = some 35
    · rw [go_skip hs]; have := go_place m (n + 1) acc; omega
    · cases hr : ruleA psC t n with
      | none => rw [go_bad hs hr]; show n ≤ _; omega
      | some x =>
        rw [go_rule hs hr]
        by_cases h4 : acc.length = 400
        · rw [if_pos h4]; show n ≤ _; omega
        · rw [if_neg h4]; have := go_place m (n + 1) (acc ++ [x]); omega
theorem place_le {s : ByteArray} {l : List Rl} {n z : Nat} (h : parseZ s = (l, n, z)) : n ≤ s.size + 2 := by
  have h3 : (parseZ s).2.1 = n := by rw [h]
  rw [← h3]
  unfold parseZ parseR
  split
  · exact Nat.zero_le _
  · have := go_place (splitL 10 (bytesN s)) 1 []
    have h2 := split_length 10 (bytesN s)
    rw [bytesN_len] at h2
    omega
/-- The table with a line ahead that says nothing. -/
theorem ahead_is {s u : ByteArray} {l : List Rl} {n z : Nat} (h : parseZ s = (l, n, z)) {e : List Nat} (he : 10 ∉ e) (h0 : e = [] ∨ e.head? = some 35) (hu : bytesN u = e ++ 10 :: bytesN s) (hl : u.size ≤ 65536) :
    parseZ u = (l.map up, if z = 0 then n else n + 1, z) := by
  have hs : parseR psC (bytesN s) = (l, n, z) := h
  unfold parseZ
  rw [hu, parse_ahead he h0 (by rw [← hu, bytesN_len]; exact hl), hs]
theorem behind_is {s u : ByteArray} {l : List Rl} {n z : Nat} (h : parseZ s = (l, n, z)) (hz : z ≠ 0) {e : List Nat} (hu : bytesN u = bytesN s ++ 10 :: e) (hl : u.size ≤ 65536) : parseZ u = ([], n, z) := by
  have hs : parseR psC (bytesN s) = (l, n, z) := h
  obtain ⟨h1, h2⟩ := parse_behind (ps := psC) (L := bytesN s) (M := e) (by rw [hs]; exact hz) (by rw [← hu, bytesN_len]; exact hl)
  unfold parseZ
  rw [hu, h1]
  rw [hs] at h2 ⊢
  obtain rfl : l = [] := h2
  rfl
theorem zero_place {s : ByteArray} {l : List Rl} {n : Nat} (h : parseZ s = (l, n, 0)) : n = 0 := by
  have hs : parseR psC (bytesN s) = (l, n, 0) := h
  have := parse_zero (ps := psC) (bytesN s) (by rw [hs])
  rw [hs] at this
  exact this

set_option maxRecDepth 100000 in
set_option maxHeartbeats 16000000 in
/-- styluslaw08.RulesNothing -/
theorem rnothing_row (R : RLands) (s ln mo : ByteArray) (hs : s.size ≤ maxLen) (w : World) (hL : LaidR w) :
    Calls Tryd.prog 3 #[.string s, .string ln, .string mo] w fun e w' => e = .returned (.bool true) ∧ Below w.heap.size w w' := by
  have HL := Lib.hid hL
  have hLN := hL.1
  clear hL
  go_enter Tryd.func3, Tryd.ntmps3
  by_cases hbig : 3000 < s.size ∨ 200 < ln.size ∨ 200 < mo.size
  · have HA := Lib.hid (awake8 R _ HL.out)
    have hend : ∀ w' : World, Below w.heap.size w w' → Below w.heap.size w w' := fun _ h => h
    by_cases b1 : 3000 < s.size
    · have t1 : decide (3000 < (s.size : Int)) = true := decide_eq_true (by omega)
      clear hbig hend
      go_wp2_with fail
      refine HA.out.mono ?_
      rintro e w' ⟨rfl, hb⟩
      go_wp2
      go_ret
      exact ⟨rfl, hb⟩
    · have t1 : decide (3000 < (s.size : Int)) = false := decide_eq_false (by omega)
      by_cases b2 : 200 < ln.size
      · have t2 : decide (200 < (ln.size : Int)) = true := decide_eq_true (by omega)
        clear hbig hend
        go_wp2_with fail
        refine HA.out.mono ?_
        rintro e w' ⟨rfl, hb⟩
        go_wp2
        go_ret
        exact ⟨rfl, hb⟩
      · have t2 : decide (200 < (ln.size : Int)) = false := decide_eq_false (by omega)
        have t3 : decide (200 < (mo.size : Int)) = true := decide_eq_true (by omega)
        clear hbig hend
        go_wp2_with fail
        refine HA.out.mono ?_
        rintro e w' ⟨rfl, hb⟩
        go_wp2
        go_ret
        exact ⟨rfl, hb⟩
  · have s3 : s.size ≤ 3000 := by omega
    have l2 : ln.size ≤ 200 := by omega
    have m2 : mo.size ≤ 200 := by omega
    have t1 : decide (3000 < (s.size : Int)) = false := decide_eq_false (by omega)
    have t2 : decide (200 < (ln.size : Int)) = false := decide_eq_false (by omega)
    have t3 : decide (200 < (mo.size : Int)) = false := decide_eq_false (by omega)
    obtain ⟨l, n, z, hpz⟩ : ∃ l n z, parseZ s = (l, n, z) := ⟨_, _, _, rfl⟩
    have HPZ := Lib.hid hpz
    clear hbig hpz
    go_wp2
    clear t1 t2 t3
    go_loop [7, 8] (fun u7 u8 => ∃ (k : Nat) (P : ByteArray), u8 = .int .i64 k ∧ k ≤ ln.size ∧ u7 = .string P ∧ bytesN P = noLF ln k) (fun _ u8 => ln.size - (intOf u8).toNat)
    case atStart => exact ⟨0, _, rfl, Nat.zero_le _, rfl, rfl⟩
    case round =>
      obtain ⟨k, P, rfl, hk, rfl, hP⟩ := hrel
      have hPs : P.size ≤ k := by rw [← bytesN_len, hP]; exact noLF_len ln k
      by_cases hlt : k < ln.size
      · have E1 := bAt_get ln k hlt
        have hst := noLF_step ln k hlt
        have hx := ext_byte ln k hlt
        have hxs := ext_size ln k (k + 1) (by omega)
        have c1 : ¬ (9223372036854775807 < P.size + (ln.extract k (k + 1)).size) := by rw [hxs]; omega
        obtain ⟨b, hb⟩ : ∃ b, bAt ln k = b := ⟨_, rfl⟩
        rw [hb] at E1 hst hx
        by_cases h10 : b = 10
        · subst h10
          rw [if_pos rfl, List.append_nil] at hst
          have HS := Lib.hid (show bytesN P = noLF ln (k + 1) by rw [hst, hP])
          clear hst hx hxs hb hP
          go_wp2
          go_round
          case rel => exact ⟨k + 1, P, by go_num, by omega, rfl, HS.out⟩
          case measure => simp [intOf]; omega
        · have u1 : ((b : Int) != 10) = true := by rw [bne, beq_eq_false_iff_ne.2 (by omega)]; rfl
          rw [if_neg h10] at hst
          have HS := Lib.hid (show bytesN (P ++ ln.extract k (k + 1)) = noLF ln (k + 1) by rw [hst, bytesN_cat, hP, hx])
          clear hst hx hb hP h10
          go_wp2
          go_round
          case rel => exact ⟨k + 1, _, by go_num, by omega, rfl, HS.out⟩
          case measure => simp [intOf]; omega
      · obtain rfl : k = ln.size := by omega
        have hE : 10 ∉ 35 :: bytesN P := by rw [hP]; intro h; rcases List.mem_cons.1 h with h | h; cases h; exact noLF_no _ _ h
        have hu1 : bytesN ((({ data := #[35] } ++ P) ++ { data := #[10] }) ++ s) = (35 :: bytesN P) ++ 10 :: bytesN s := by
          rw [bytesN_cat, bytesN_cat, bytesN_cat, List.append_assoc]; rfl
        have hu2 : bytesN ({ data := #[10] } ++ s) = [] ++ 10 :: bytesN s := by rw [bytesN_cat]; rfl
        have z1 : ((({ data := #[35] } ++ P) ++ { data := #[10] }) ++ s : ByteArray).size = P.size + s.size + 2 := by
          rw [← bytesN_len, hu1]; simp [bytesN_len]; omega
        have z2 : ({ data := #[10] } ++ s : ByteArray).size = s.size + 1 := by rw [← bytesN_len, hu2]; simp [bytesN_len]
        have hp1 := ahead_is HPZ.out hE (.inr rfl) hu1 (by omega)
        have hp2 := ahead_is HPZ.out (e := []) (by simp) (.inl rfl) hu2 (by omega)
        have hn := place_le HPZ.out
        have hln := parse_len HPZ.out
        have HFU := Lib.hid (parse_fits hp1)
        simp only [] at HFU
        have HP0 := Lib.hid (fun W hW => R.parse_at s hs l (n : Int) (z : Int) (by rw [HPZ.out]) (by rw [HPZ.out]) (by rw [HPZ.out]) W hW)
        obtain ⟨n1, hn1⟩ : ∃ n1, (if z = 0 then n else n + 1) = n1 := ⟨_, rfl⟩
        rw [hn1] at hp1 hp2
        have HP1 := Lib.hid (fun W hW => R.parse_at _ (by rw [z1]; unfold maxLen; omega) (l.map up) (n1 : Int) (z : Int) (by rw [hp1]) (by rw [hp1]) (by rw [hp1]) W hW)
        have HP2 := Lib.hid (fun W hW => R.parse_at _ (by rw [z2]; unfold maxLen; omega) (l.map up) (n1 : Int) (z : Int) (by rw [hp2]) (by rw [hp2]) (by rw [hp2]) W hW)
        have HN1 := Lib.hid hn1
        have HLN := Lib.hid (show (l.map up).length = l.length from List.length_map _)
        obtain ⟨nl, hnl⟩ : ∃ nl, l.length = nl := ⟨_, rfl⟩
        rw [hnl] at hln HLN
        have HNL := Lib.hid hnl
        have c1 : ¬ (9223372036854775807 < 1 + P.size) := by omega
        have c2 : ¬ (9223372036854775807 < 1 + P.size + 1) := by omega
        have c3 : ¬ (9223372036854775807 < 1 + P.size + 1 + s.size) := by omega
        have c4 : ¬ (9223372036854775807 < 1 + s.size) := by omega
        clear hE hu1 hu2 z1 z2 hp1 hp2 hP hn1 hnl
        go_wp2_with fail
        refine (HP0.out _ HL.out).mono ?_
        rintro e w9 ⟨v9, rfl, hr9, -, hb9⟩
        have HB9 := Lib.hid hb9
        have HL9 := Lib.hid (HL.out.below hb9 hLN)
        have HR9 := Lib.hid hr9
        clear hb9 hr9
        go_wp2_with fail
        refine (HP1.out _ HL9.out).mono ?_
        rintro e w10 ⟨v10, rfl, hr10, -, hb10⟩
        have HB10 := Lib.hid (chain HB9.out HB9.out.size hb10)
        have HL10 := Lib.hid (HL.out.below HB10.out hLN)
        have HR9' := Lib.hid ((HR9.out.below hb10).mono hb10.size)
        have HR10 := Lib.hid hr10
        clear hb10 hr10
        go_wp2_with fail
        refine (HP2.out _ HL10.out).mono ?_
        rintro e w11 ⟨v11, rfl, hr11, -, hb11⟩
        have HB11 := Lib.hid (chain HB10.out HB10.out.size hb11)
        have HR9a := Lib.hid ((HR9'.out.below hb11).mono hb11.size)
        have HR10a := Lib.hid ((HR10.out.below hb11).mono hb11.size)
        have HR11 := Lib.hid hr11
        have q0 : ((z : Int) != (z : Int)) = false := by simp
        clear hb11 hr11
        go_wp2_with fail
        refine (runlined_any _ l 0 (by rw [HNL.out]; omega) _ HR9a.out).mono ?_
        rintro e w12 ⟨v12, rfl, own12, hb12⟩
        have HB12 := Lib.hid (chain HB11.out HB11.out.size hb12)
        have HR9b := Lib.hid ((HR9a.out.below hb12).mono hb12.size)
        have HR10b := Lib.hid ((HR10a.out.below hb12).mono hb12.size)
        have HR11b := Lib.hid ((HR11.out.below hb12).mono hb12.size)
        have HO12 := Lib.hid (Reads.of_own (f := cR) (n := 5) cR_len rfl own12)
        clear own12 hb12
        go_wp2_with fail
        refine (runlined_any _ (l.map up) 0 (by rw [HLN.out]; omega) _ HR10b.out).mono ?_
        rintro e w13 ⟨v13, rfl, own13, hb13⟩
        have HB13 := Lib.hid (chain HB12.out HB12.out.size hb13)
        have HR9c := Lib.hid ((HR9b.out.below hb13).mono hb13.size)
        have HR10c := Lib.hid ((HR10b.out.below hb13).mono hb13.size)
        have HR11c := Lib.hid ((HR11b.out.below hb13).mono hb13.size)
        have HO12c := Lib.hid ((HO12.out.below hb13).mono hb13.size)
        rw [num_up] at own13
        have HO13 := Lib.hid (Reads.of_own (f := cR) (n := 5) cR_len rfl own13)
        clear own13 hb13
        go_wp2_with fail
        refine (rsame_any _ _ (numL 1 l) 0 0 (by rw [numL_len, HNL.out]; omega) _ _ _ HO12c.out HO13.out).mono ?_
        rintro e w14 ⟨rfl, nq, hq⟩
        have HB14 := Lib.hid (show Below w.heap.size w w14 by rw [hq]; exact Ba.below_drewN HB13.out nq)
        have HR9d := Lib.hid (show ReadsR 0 w14 w13.heap.size v9 l by rw [hq]; exact Reads.drewN HR9c.out nq)
        have HR10d := Lib.hid (show ReadsR 0 w14 w13.heap.size v10 (l.map up) by rw [hq]; exact Reads.drewN HR10c.out nq)
        have HR11d := Lib.hid (show ReadsR 0 w14 w13.heap.size v11 (l.map up) by rw [hq]; exact Reads.drewN HR11c.out nq)
        have hsz14 : w14.heap.size = w13.heap.size := by rw [hq]; rfl
        clear hq
        go_wp2_with fail
        refine (rsame_any _ _ (l.map up) 0 0 (by rw [HLN.out]; omega) _ _ _ HR10d.out HR11d.out).mono ?_
        rintro e w15 ⟨rfl, nq2, hq⟩
        have HB15 := Lib.hid (show Below w.heap.size w w15 by rw [hq]; exact Ba.below_drewN HB14.out nq2)
        have hr9 : ReadsR 0 w15 w13.heap.size v9 l := by rw [hq]; exact Reads.drewN HR9d.out nq2
        have hr10 : ReadsR 0 w15 w13.heap.size v10 (l.map up) := by rw [hq]; exact Reads.drewN HR10d.out nq2
        have hsz15 : w15.heap.size = w13.heap.size := by rw [hq]; exact hsz14
        clear hq hsz14
        obtain ⟨A9, c9, rfl, hA9⟩ := hr9
        obtain ⟨A10, c10, rfl, hA10⟩ := hr10
        have HA9 := Lib.hid hA9
        have HA10 := Lib.hid hA10
        clear hA9 hA10 HR9 HR9' HR9a HR9b HR9c HR9d HR10 HR10a HR10b HR10c HR10d
        rw [HNL.out, HLN.out]
        go_wp2
        go_loopw [18] (fun u18 wr => ∃ k : Nat, u18 = .int .i64 k ∧ k ≤ nl ∧ Below w15.heap.size w15 wr) (fun u18 _ => nl - (intOf u18).toNat)
        case atStart => exact ⟨0, rfl, Nat.zero_le _, Below.refl _ _⟩
        case round =>
          obtain ⟨k, rfl, hk, hB⟩ := hrel
          have HB := Lib.hid hB
          by_cases hltk : k < nl
          · obtain ⟨g, rfl, hgw, hg⟩ := HA9.out (by rw [HNL.out]; omega)
            obtain ⟨g2, rfl, hgw2, hg2⟩ := HA10.out (by rw [HLN.out]; omega)
            obtain ⟨x, hx⟩ : ∃ x, l[k]? = some x := ⟨_, List.getElem?_eq_getElem (by rw [HNL.out]; exact hltk)⟩
            have hx2 : (l.map up)[k]? = some (up x) := by rw [List.getElem?_map, hx]; rfl
            have y4 := (rcell hg k x hx).2.2.2.2
            have z4 := (rcell hg2 k (up x) hx2).2.2.2.2
            have y4 := (hB.cell (p := ⟨g, 0 + k * 5 + 4, none⟩) (show g < w15.heap.size by omega)).trans y4
            have z4 := (hB.cell (p := ⟨g2, 0 + k * 5 + 4, none⟩) (show g2 < w15.heap.size by omega)).trans z4
            simp only [Nat.zero_add] at y4 z4
            obtain ⟨f1, f2, f3⟩ := HFU.out (up x) (List.mem_of_getElem? hx2)
            have f4 := f1.2.2.1
            obtain ⟨a, ha⟩ : ∃ a, x.line = a := ⟨_, rfl⟩
            have ea : (up x).line = a + 1 := by rw [← ha]; rfl
            rw [ha] at y4
            rw [ea] at z4 f4
            unfold I64 at f4
            have i0 : (0 : Int) ≤ (k : Int) := by omega
            have i1 : (k : Int) < (nl : Int) := by omega
            obtain ⟨f5, f6⟩ := f4
            have f7 : IntKind.i64.wrap (a + 1) = a + 1 := IntWalk.i64_in _ (by omega)
            have q5 : ((a + 1 : Int) != (a + 1 : Int)) = false := by simp
            clear hx hx2 f1 f2 f3 hg hg2 hB ha ea
            go_upto_region 17 with fail
            go_quiet (fail)
            go_wp2
            go_roundw
            case rel => exact ⟨k + 1, by go_num, by omega, Ba.below_drewN HB.out _⟩
            case measure => simp [intOf]; omega
          · obtain rfl : k = nl := by omega
            have HBB := Lib.hid (chain HB15.out HB15.out.size hB)
            have HLL := Lib.hid (HL.out.below HBB.out hLN)
            clear hB
            by_cases hz : z = 0
            · subst hz
              obtain rfl : n1 = n := by rw [← HN1.out, if_pos rfl]
              obtain rfl : n1 = 0 := zero_place HPZ.out
              go_wp2_with fail
              refine (awake8 R _ HLL.out).mono ?_
              rintro e w16 ⟨rfl, hb16⟩
              have HB16 := Lib.hid (chain HBB.out HBB.out.size hb16)
              clear hb16
              go_wp2
              go_ret
              exact ⟨rfl, HB16.out⟩
            · have e1 : n + 1 = n1 := by rw [← HN1.out, if_neg hz]
              have hu3 : bytesN ((s ++ { data := #[10] }) ++ mo) = bytesN s ++ 10 :: bytesN mo := by
                rw [bytesN_cat, bytesN_cat, List.append_assoc]; rfl
              have z3 : ((s ++ { data := #[10] }) ++ mo : ByteArray).size = s.size + mo.size + 1 := by
                rw [← bytesN_len, hu3]; simp [bytesN_len]; omega
              have hp3 := behind_is HPZ.out hz hu3 (by omega)
              have HP3 := Lib.hid (fun W hW => R.parse_at _ (by rw [z3]; unfold maxLen; omega) [] (n : Int) (z : Int) (by rw [hp3]) (by rw [hp3]) (by rw [hp3]) W hW)
              have z0 : ((z : Int) == 0) = false := beq_eq_false_iff_ne.2 (by omega)
              have y1 : IntKind.i64.wrap ((n : Int) + 1) = (n1 : Int) := by rw [IntWalk.i64_in _ (by omega)]; omega
              have y2 : ((n1 : Int) == (n1 : Int)) = true := by simp
              have y3 : ((n : Int) == (n : Int)) = true := by simp
              have y5 : ((z : Int) == (z : Int)) = true := by simp
              have d1 : ¬ (9223372036854775807 < s.size + 1) := by omega
              have d2 : ¬ (9223372036854775807 < s.size + 1 + mo.size) := by omega
              clear hu3 z3 hp3 hz
              go_wp2_with fail
              refine (HP3.out _ HLL.out).mono ?_
              rintro e w16 ⟨v16, rfl, ⟨A16, c16, rfl, -⟩, -, hb16⟩
              have HB16 := Lib.hid (chain HBB.out HBB.out.size hb16)
              have HL16 := Lib.hid (HL.out.below HB16.out hLN)
              clear hb16
              go_wp2_with fail
              refine (awake8 R _ HL16.out).mono ?_
              rintro e w17 ⟨rfl, hb17⟩
              have HB17 := Lib.hid (chain HB16.out HB16.out.size hb17)
              clear hb17
              go_wp2
              go_ret
              exact ⟨rfl, HB17.out⟩
theorem rnothing_row3 (R : RLands) (s ln mo : ByteArray) (hs : s.size ≤ maxLen) (_ : ln.size ≤ maxLen) (_ : mo.size ≤ maxLen) (w : World) (hL : LaidR w) :
    Calls Tryd.prog 3 #[.string s, .string ln, .string mo] w fun e w' => e = .returned (.bool true) ∧ Below w.heap.size w w' := rnothing_row R s ln mo hs w hL
end Go.Proofs.YtkhfingenjlpfaaDoor.Ru
