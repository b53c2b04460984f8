/-
  The landed package rules: a rule's line, told; figures, read.
-/
import Derived.Test.YtkhfingenjlpfaaGreatDoorRvC
import Derived.Test.YtkhfingenjlpfaaGreatDoorVg
import Derived.Maps.AppendAt
namespace Go.Proofs.YtkhfingenjlpfaaGreatDoor.Ru
open Go.RowKit Ba

/-! ### figures -/
/-- What strconv.Atoi answers. -/
def prioZ (L : List Nat) : Int := match Lib.atoiAll (L.map UInt8.ofNat) with
  | .ok v => v
  | .range => Lib.atoiSat (L.map UInt8.ofNat)
  | _ => 0
theorem prioZ_dig (n : Nat) (h : n < 100) : prioZ (digL n) = (n : Int) := by
  have : ∀ k : Fin 100, prioZ (digL k.val) = (k.val : Int) := by decide +kernel
  exact this ⟨n, h⟩
theorem prioZ_nil : prioZ [] = 0 := by decide +kernel
theorem ofNat_bytesN (s : ByteArray) : (bytesN s).map UInt8.ofNat = s.data.toList := by
  unfold bytesN
  rw [List.map_map]
  have : (UInt8.ofNat ∘ UInt8.toNat) = id := by funext x; simp
  rw [this, List.map_id]
/-- strconv.Atoi -/
theorem atoi_at (s : ByteArray) (hs : s.size ≤ 70000) (w : World) (hL : LaidR w) :
    Calls Tryz.prog 48 #[.string s] w fun e w' => ∃ ev, e = .returned (.tuple #[.int .i64 (prioZ (bytesN s)), ev]) ∧ Below w.heap.size w w' := by
  obtain ⟨z, hz⟩ : ∃ z, prioZ (bytesN s) = z := ⟨_, rfl⟩
  rw [hz]
  unfold prioZ at hz
  rw [ofNat_bytesN] at hz
  cases h : Lib.atoiAll s.data.toList with
  | ok v =>
    rw [h] at hz
    obtain rfl : v = z := hz
    refine (Tryz.strconv_Atoi_ok s (by omega) v h w).mono ?_
    rintro e w' ⟨rfl, rfl | ⟨t, rfl⟩⟩
    · exact ⟨_, rfl, Below.refl _ _⟩
    · exact ⟨_, rfl, Lib.bytesWorld_below _ _ _⟩
  | range =>
    rw [h] at hz
    obtain rfl : Lib.atoiSat s.data.toList = z := hz
    obtain ⟨te, pe, hv⟩ := hL.2.2.2.2.1
    refine (Tryz.strconv_Atoi_range s (by omega) h _ w hv (.inr ⟨te, pe, rfl⟩)).mono ?_
    rintro e w' ⟨N, rfl, -, -, hb⟩
    exact ⟨_, rfl, hb⟩
  | _ =>
    rw [h] at hz
    obtain rfl : (0 : Int) = z := hz
    obtain ⟨te, pe, hv⟩ := hL.2.2.2.1
    refine (Any.strconv_Atoi_syntax Tryz.laysC172 s (by omega) h _ w hv (.inr ⟨te, pe, rfl⟩)).mono ?_
    rintro e w' ⟨N, rfl, -, -, hb⟩
    exact ⟨_, rfl, hb⟩
theorem decDigits_dig (n : Nat) (h : n < 100) : Lib.decDigits n = (digL n).map UInt8.ofNat := by
  unfold digL
  by_cases h9 : 9 < n
  · rw [if_pos h9, Lib.decDigits, dif_neg (by omega), Lib.decDigits, dif_pos (by omega)]
    rfl
  · rw [if_neg h9, Lib.decDigits, dif_pos (by omega), Nat.mod_eq_of_lt (by omega)]
    rfl
/-- strconv.Itoa -/
theorem itoa_at (n : Nat) (h : n < 100) (w : World) :
    Calls Tryz.prog 54 #[.int .i64 (n : Int)] w fun e w' => e = .returned (.string (bytesOf (digL n))) ∧ w = w' :=
  (Tryz.strconv_Itoa_small n h w).mono fun e w' ⟨he, hw⟩ => ⟨by rw [he, decDigits_dig n h]; rfl, hw.symm⟩

/-! ### strings.Join, at a blank -/
theorem join_blank : ∀ l : List (List Nat), Lib.join ((l.map bytesOf).map fun (b : ByteArray) => b.data.toList) [32] = (joinL 32 l).map UInt8.ofNat
  | [] => rfl
  | [x] => by simp [Lib.join, List.intercalate, joinL, bytesOf]
  | x :: y :: r => by
    have ih := join_blank (y :: r)
    have e : Lib.join (((x :: y :: r).map bytesOf).map fun (b : ByteArray) => b.data.toList) [32] = (bytesOf x).data.toList ++ 32 :: Lib.join (((y :: r).map bytesOf).map fun (b : ByteArray) => b.data.toList) [32] := by
      simp [Lib.join, List.intercalate]
    rw [e, ih]
    simp [joinL, bytesOf]
theorem joinS_at (l : List (List Nat)) (n : Nat) (hn : l.length = n) (hn9 : n ≤ 1000) (B g c : Nat) (w : World) (hown : w.ownsRow B 9 1 (.slice (some ⟨g, 0, none⟩) n c) n (rows cS l)) (hlen : (joinL 32 l).length ≤ 1000000) (r : List Nat) (hr : joinL 32 l = r) :
    Calls Tryz.prog 55 #[.slice (some ⟨g, 0, none⟩) n c, .string { data := #[32] }] w fun e w' => e = .returned (.string (bytesOf r)) ∧ Below w.heap.size w w' := by
  have hj := join_blank l
  have hgc : g < w.heap.size ∧ n ≤ c := by
    rcases hown.2 with ⟨h, h0⟩ | ⟨g', cap, cur, h, _, hg, h1, _⟩
    · cases h
    · injection h with e1 e2 e3
      injection e1 with e1
      injection e1 with e1 _ _
      subst e1; subst e3
      exact ⟨(Array.getElem?_eq_some_iff.1 hg).1, h1⟩
  have hc : ∀ (j : Nat) x, (l.map bytesOf)[j]? = some x → w.cell? ⟨g, 0 + j, none⟩ = some (.string x) := fun j x hx => by
    rw [List.getElem?_map] at hx
    cases hy : l[j]? with
    | none => rw [hy] at hx; cases hx
    | some y =>
      rw [hy] at hx
      obtain rfl : bytesOf y = x := by simpa using hx
      have hjn : j < n := by rw [← hn]; exact (List.getElem?_eq_some_iff.1 hy).1
      rw [Nat.zero_add, hown.cellAt j (show j < n * 1 by omega)]
      have := rows_at cS (fun _ => rfl) l j y hy 0 (by decide)
      rw [Nat.mul_one, Nat.add_zero] at this
      exact this
  have := Tryz.strings_Join g 0 c (l.map bytesOf) { data := #[32] } w hc hgc.1 (by rw [List.length_map]; omega) (by rw [List.length_map, hn]; exact hgc.2) (by
    show (Lib.join ((l.map bytesOf).map fun (b : ByteArray) => b.data.toList) [32]).length ≤ _
    rw [hj, List.length_map]; omega)
  rw [List.length_map, hn] at this
  refine this.mono fun e w' ⟨he, hb⟩ => ⟨?_, hb⟩
  rw [he]
  show Ending.returned (.string ⟨(Lib.join ((l.map bytesOf).map fun (b : ByteArray) => b.data.toList) [32]).toArray⟩) = _
  rw [hj, hr]; rfl

/-! ### a rule's line -/
theorem infoS1 : (Tryz.prog.info? 9).map (fun i => (i.zero, i.size, i.bytes)) = some (some (.string { data := #[] }), 1, 16) := by kernel_rfl
theorem wordL_len : ∀ k : Fin 9, (wordL k.val).length ≤ 6 := by decide +kernel
theorem digL_len2 (n : Nat) : (digL n).length ≤ 2 := by unfold digL; split <;> simp
theorem printV_len (T : ByteArray) : (Ce.printV T).size ≤ 100 := by
  unfold Ce.printV
  by_cases h : Ce.printOK T
  · rw [if_pos h]
    have h1 := Ce.printT_len (bytesN T)
    show (bytesOf (Ce.printT (bytesN T))).size ≤ 100
    rw [bytesOf_size]
    have h2 := h.2.1
    rw [bytesN_len] at h1
    omega
  · rw [if_neg h]; exact Nat.zero_le _
/-- A rule's line, by its parts. -/
def lineT (k : Nat) (S V : List Nat) (p : Int) : List Nat := wordL k ++ 32 :: (S ++ 32 :: (V ++ if k ≤ 5 then 32 :: digL p.toNat else []))
theorem line_three {k : Nat} (h : ¬ k ≤ 5) (S V : List Nat) (p : Int) : joinL 32 [wordL k, S, V] = lineT k S V p := by
  unfold lineT
  rw [if_neg h, List.append_nil]; rfl
theorem line_four {k : Nat} (h : k ≤ 5) (S V : List Nat) (p : Int) : joinL 32 [wordL k, S, V, digL p.toNat] = lineT k S V p := by
  unfold lineT
  rw [if_pos h]; rfl
set_option maxRecDepth 100000 in
set_option maxHeartbeats 8000000 in
/-- rules.lineOf -/
theorem line5_at (k : Nat) (hk1 : 1 ≤ k) (hk8 : k ≤ 8) (S T : ByteArray) (hS : S.size ≤ 70000) (hT : T.size ≤ 70000) (p l : Int) (hp : k ≤ 5 → 0 ≤ p ∧ p ≤ 99) (w : World) (hL : LaidR w) :
    Calls Tryz.prog 29 #[.agg #[.int .i64 (k : Int), .string S, .string T, .int .i64 p, .int .i64 l]] w fun e w' => e = .returned (.string (bytesOf (lineT k (bytesN S) (bytesN (Ce.printV T)) p))) ∧ Below w.heap.size w w' := by
  obtain ⟨q, hq⟩ : ∃ q, Ce.printE T = q := ⟨_, rfl⟩
  obtain ⟨V, hV⟩ : ∃ V, Ce.printV T = V := ⟨_, rfl⟩
  have hVl : V.size ≤ 100 := by rw [← hV]; exact printV_len T
  have HPR := Lib.hid (hq ▸ hV ▸ Ce.print_any T (by omega))
  have HL := Lib.hid hL
  have hwl : (wordL k).length ≤ 6 := wordL_len ⟨k, by omega⟩
  obtain ⟨R, hR⟩ : ∃ R, lineT k (bytesN S) (bytesN V) p = R := ⟨_, rfl⟩
  obtain ⟨P, hP⟩ : ∃ P, bytesOf (wordL k) = P := ⟨_, rfl⟩
  have hwt : wordsT[k]? = some (wordL k) := words_at hk1 hk8
  rw [hV, hR]
  have HR := Lib.hid hR
  have HP := Lib.hid hP
  have HW := Lib.hid hwt
  have HPP := Lib.hid hp
  have k0 : (0 : Int) ≤ (k : Int) := by omega
  have k9 : (k : Int) < 9 := by omega
  clear hq hV hL hR hP hwt hp
  go_enter Tryz.func29, Tryz.ntmps29
  go_upto_region 1 with fail
  generalize hw1 : w.alloc _ = w1
  have hst : StB w1 w.heap.size k S T p l := by rw [← hw1]; exact StB.new w k S T p l
  have hb1 : Below w.heap.size w w1 := by rw [← hw1]; exact (Below.refl _ _).alloc (Nat.le_refl _) _
  have HB1 := Lib.hid hb1
  have HL1 := Lib.hid (HL.out.kept hb1)
  have HS1 := Lib.hid hst
  have C2 := hst.c2
  clear hw1 hst hb1
  go_wp2_with fail
  refine (HPR.out _).mono ?_
  rintro e w2 ⟨rfl, hb2⟩
  have HB2 := Lib.hid (chain HB1.out HB1.out.size hb2)
  have HL2 := Lib.hid (HL1.out.kept hb2)
  have HS2 := Lib.hid (HS1.out.kept hb2)
  obtain ⟨D0, D1, D3⟩ : w2.cell? ⟨w.heap.size, 0, none⟩ = some (.int .i64 (k : Int)) ∧ w2.cell? ⟨w.heap.size, 1, none⟩ = some (.string S) ∧ w2.cell? ⟨w.heap.size, 3, none⟩ = some (.int .i64 p) := ⟨HS2.out.c0, HS2.out.c1, HS2.out.c3⟩
  have DW : w2.cell? ⟨0, k, none⟩ = some (.string P) := by rw [← HP.out]; exact HL2.out.2.2.1 k _ HW.out
  clear hb2 C2
  go_upto_region 2 with fail
  go_still_tail 7, (by kernel_rfl)
  change wpList _ _ _ _ _ (w2.drewN 1)
  have hw2s := HS2.out.lt
  clear D0 D1 D3 DW
  go_upto_region 3 with fail
  have hb3 : Below w2.heap.size w2 ((w2.drewN 1).alloc (.cells #[.string P, .string S, .string V] 9)) := (Ba.below_drewN (Below.refl _ _) 1).alloc (by simp) _
  have own3 : ((w2.drewN 1).alloc (.cells #[.string P, .string S, .string V] 9)).ownsRow w2.heap.size 9 1 (.slice (some ⟨w2.heap.size, 0, none⟩) 3 3) 3 [.string P, .string S, .string V] := by
    have := World.ownsRow_lit (base := w2.heap.size) (e := 9) (size := 1) (w2.drewN 1) #[.string P, .string S, .string V] 3 (by simp) (by decide) rfl
    simpa using this
  generalize (w2.drewN 1).alloc (.cells #[.string P, .string S, .string V] 9) = w3 at hb3 own3 ⊢
  have HB3 := Lib.hid (chain HB2.out HB2.out.size hb3)
  have HS3 := Lib.hid (HS2.out.kept hb3)
  have HO3 := Lib.hid own3
  have hs3 : w2.heap.size < w3.heap.size := by
    rcases own3.2 with ⟨h, _⟩ | ⟨g', cap, cur, h, _, hg, _⟩
    · cases h
    · injection h with e1 _ _
      injection e1 with e1
      injection e1 with e1 _ _
      rw [e1]; exact (Array.getElem?_eq_some_iff.1 hg).1
  have F0 := HS3.out.c0
  have F3 := HS3.out.c3
  clear hb3 own3
  by_cases h5 : k ≤ 5
  · have HO := Lib.hid (fun W => ofLetters_at (k : Int) true (decide_eq_true (by omega)) W)
    obtain ⟨p0, p9⟩ := HPP.out h5
    obtain ⟨n, rfl⟩ := Int.eq_ofNat_of_zero_le p0
    obtain ⟨D, hD⟩ : ∃ D, bytesOf (digL n) = D := ⟨_, rfl⟩
    have HI := Lib.hid (fun W => hD ▸ itoa_at n (by omega) W)
    have HD := Lib.hid hD
    obtain ⟨i0, hi0, hz0, hz1, hz2⟩ := info_parts infoS1
    have HJ := Lib.hid (show ∀ g c W, W.ownsRow w2.heap.size 9 1 (.slice (some ⟨g, 0, none⟩) 4 c) 4 ([.string P, .string S, .string V] ++ [.string D]) → Calls Tryz.prog 55 #[.slice (some ⟨g, 0, none⟩) 4 c, .string { data := #[32] }] W fun e w' => e = .returned (.string (bytesOf R)) ∧ Below W.heap.size W w' from fun g c W hW => joinS_at [wordL k, bytesN S, bytesN V, digL n] 4 rfl (by decide) w2.heap.size g c W (by
      have : rows cS [wordL k, bytesN S, bytesN V, digL n] = [.string P, .string S, .string V] ++ [.string D] := by
        show [Value.string (bytesOf (wordL k)), .string (bytesOf (bytesN S)), .string (bytesOf (bytesN V)), .string (bytesOf (digL n))] = _
        rw [HP.out, bytesOf_bytesN, bytesOf_bytesN, HD.out]; rfl
      rw [this]; exact hW) (by
      show (wordL k ++ 32 :: (bytesN S ++ 32 :: (bytesN V ++ 32 :: digL n))).length ≤ _
      have := digL_len2 n
      simp only [List.length_append, List.length_cons, bytesN_len]; omega) R (by rw [← HR.out]; exact line_four h5 (bytesN S) (bytesN V) (n : Int)))
    clear hD p0 p9
    go_wp2_with (first
      | (go_at_call 53; refine (HO.out _).mono ?_; rintro e w' ⟨rfl, rfl⟩)
      | (go_at_call 54; refine (HI.out _).mono ?_; rintro e w' ⟨rfl, rfl⟩)
      | (at_builtin; go_loud (refine wpList_append_own _ rfl _ _ 35 rfl w2.heap.size 9 i0 _ 1 16 Tryz.underlying35 hi0 hz0 hz1 hz2 rfl (by decide) _ 3 [.string P, .string S, .string V] rfl (HO3.out.alloc _) ⟨w3.heap.size, 0, none⟩ 1 1 [.string D] rfl rfl (cell_one_new _ _ _) (by simp [Value.oneCell']) (by unfold maxLen; omega) (by omega) (by simp; omega) ?_); intro v4 w4 own4 grow4 _; have HO4 := Lib.hid own4; have HB4 := Lib.hid (show Below w.heap.size w w4 from ((HB3.out.alloc (by have := HB3.out.size; omega) _).grown grow4 (by have := HB3.out.size; simp; omega) (fun j ej => by have ej : w2.heap.size = j := (by injection ej); have := HB2.out.size; omega))); clear own4 grow4))
    obtain ⟨g4, c4, rfl, -⟩ := own_slice HO4.out (by decide)
    refine (HJ.out _ _ _ HO4.out).mono ?_
    rintro e w5 ⟨rfl, hb5⟩
    have HB5 := Lib.hid (chain HB4.out HB4.out.size hb5)
    clear hb5
    go_wp2
    go_ret
    exact ⟨rfl, HB5.out⟩
  · have HO := Lib.hid (fun W => ofLetters_at (k : Int) false (decide_eq_false (by omega)) W)
    have HJ := Lib.hid (joinS_at [wordL k, bytesN S, bytesN V] 3 rfl (by decide) w2.heap.size w2.heap.size 3 w3 (by
      have : rows cS [wordL k, bytesN S, bytesN V] = [.string P, .string S, .string V] := by
        show [Value.string (bytesOf (wordL k)), .string (bytesOf (bytesN S)), .string (bytesOf (bytesN V))] = _
        rw [HP.out, bytesOf_bytesN, bytesOf_bytesN]
      rw [this]; exact HO3.out) (by
      show (wordL k ++ 32 :: (bytesN S ++ 32 :: bytesN V)).length ≤ _
      simp only [List.length_append, List.length_cons, bytesN_len]; omega) R (by rw [line_three h5, HR.out]))
    clear h5
    go_wp2_with (first
      | (go_at_call 53; refine (HO.out _).mono ?_; rintro e w' ⟨rfl, rfl⟩)
      | (go_at_call 55; refine HJ.out.mono ?_; rintro e w4 ⟨rfl, hb4⟩; have HB4 := Lib.hid (chain HB3.out HB3.out.size hb4); clear hb4))
    go_ret
    exact ⟨rfl, HB4.out⟩
/-- A rule that may be, by its line. -/
theorem lineR_parts {what : Int} {left cells : List Nat} {prio line : Int} (hl : ∀ b ∈ left, b < 256) (hc : ∀ b ∈ cells, b < 256) (h : mayR prC ⟨what, left, cells, prio, line⟩ = true) :
    ∃ k : Nat, what = (k : Int) ∧ 1 ≤ k ∧ k ≤ 8 ∧ (k ≤ 5 → 0 ≤ prio ∧ prio ≤ 99) ∧ lineR prC ⟨what, left, cells, prio, line⟩ = lineT k (bytesN (bytesOf left)) (bytesN (Ce.printV (bytesOf cells))) prio := by
  have h0 := h
  unfold mayR at h
  simp only [Bool.and_eq_true, decide_eq_true_eq] at h
  obtain ⟨⟨⟨⟨h1, h8⟩, -⟩, hpc⟩, hp⟩ := h
  obtain ⟨k, rfl⟩ := Int.eq_ofNat_of_zero_le (show 0 ≤ what by omega)
  refine ⟨k, rfl, by omega, by omega, fun h5 => ?_, ?_⟩
  · rw [if_pos (by omega)] at hp
    simpa using hp
  · rw [bytesN_bytesOf _ hl]
    rw [prC_some hc, decide_eq_true_eq] at hpc
    have hok : Ce.printOK (bytesOf cells) := by
      unfold Ce.printE at hpc
      split at hpc
      · assumption
      · cases hpc
    have e1 : prC cells = some (Ce.printT cells) := by unfold prC; rw [if_pos ⟨hc, hok⟩]
    have e2 : bytesN (Ce.printV (bytesOf cells)) = Ce.printT cells := by
      unfold Ce.printV
      rw [if_pos hok]
      show bytesN (bytesOf (Ce.printT (bytesN (bytesOf cells)))) = _
      rw [bytesN_bytesOf cells hc, bytesN_bytesOf _ (Ce.printT_lt cells)]
    unfold lineR lineT
    rw [e1, e2]
    simp only [Int.toNat_natCast, Option.getD_some]
    by_cases h5 : k ≤ 5
    · rw [if_pos h5, if_pos (by omega)]
    · rw [if_neg h5, if_neg (by omega)]
/-- rules.lineOf, of a rule that may be -/
theorem lineOf_at (x : Rl) (hl : ∀ b ∈ x.left, b < 256) (hc : ∀ b ∈ x.cells, b < 256) (h1 : x.left.length ≤ 70000) (h2 : x.cells.length ≤ 70000) (hm : mayR prC x = true) (w : World) (hL : LaidR w) :
    Calls Tryz.prog 29 #[aggR x] w fun e w' => e = .returned (.string (bytesOf (lineR prC x))) ∧ Below w.heap.size w w' := by
  obtain ⟨what, left, cells, prio, line⟩ := x
  obtain ⟨k, rfl, k1, k8, hp, hr⟩ := lineR_parts hl hc hm
  rw [hr]
  exact line5_at k k1 k8 (bytesOf left) (bytesOf cells) (by rw [bytesOf_size]; exact h1) (by rw [bytesOf_size]; exact h2) prio line hp w hL
end Go.Proofs.YtkhfingenjlpfaaGreatDoor.Ru
