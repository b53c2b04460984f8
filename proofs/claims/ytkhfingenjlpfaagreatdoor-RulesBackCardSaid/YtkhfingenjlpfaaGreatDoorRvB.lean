/-
  The landed package rules: whether a rule may be; the cells of a sign, a mark, a digit.
-/
import Derived.Test.YtkhfingenjlpfaaGreatDoorRvA
import Derived.Test.YtkhfingenjlpfaaGreatDoorRuG
import Derived.Test.YtkhfingenjlpfaaGreatDoorVh
namespace Go.Proofs.YtkhfingenjlpfaaGreatDoor.Ru
open Go.RowKit Ba

set_option maxRecDepth 100000 in
set_option maxHeartbeats 4000000 in
/-- rules.May, by its parts -/
theorem may5_at (z : Int) (S T : ByteArray) (hS : S.size ≤ 70000) (hT : T.size ≤ 70000) (p l : Int) (b : Bool) (hb : (decide (Ce.printE T = 0) && leftX z (bytesN S) && prioX z p) = b) (w : World) (hL : LaidR w) :
    Calls Tryz.prog 21 #[.agg #[.int .i64 z, .string S, .string T, .int .i64 p, .int .i64 l]] w fun e w' => e = .returned (.bool b) ∧ Below w.heap.size w w' := by
  obtain ⟨q, hq⟩ : ∃ q, Ce.printE T = q := ⟨_, rfl⟩
  obtain ⟨V, hV⟩ : ∃ V, Ce.printV T = V := ⟨_, rfl⟩
  have HPR := Lib.hid (hq ▸ hV ▸ Ce.print_any T (by omega))
  rw [hq] at hb
  have hq01 : q = 0 ∨ q = 1 := by
    rw [← hq]; unfold Ce.printE; split
    · exact .inl rfl
    · exact .inr rfl
  have HL := Lib.hid hL
  clear hq hV hL
  go_enter Tryz.func21, Tryz.ntmps21
  go_upto_region 1 with fail
  generalize hw1 : w.alloc _ = w1
  have hst : StB w1 w.heap.size z S T p l := by rw [← hw1]; exact StB.new w z S T p l
  have hb1 : Below w.heap.size w w1 := by rw [← hw1]; exact (Below.refl _ _).alloc (Nat.le_refl _) _
  have HB1 := Lib.hid hb1
  have HL1 := Lib.hid (HL.out.kept hb1)
  have HS1 := Lib.hid hst
  have C2 := hst.c2
  clear hw1 hst hb1
  go_wp2_with fail
  refine (HPR.out _).mono ?_
  rintro e w2 ⟨rfl, hb2⟩
  have HB2 := Lib.hid (chain HB1.out HB1.out.size hb2)
  have HL2 := Lib.hid (HL1.out.kept hb2)
  have HS2 := Lib.hid (HS1.out.kept hb2)
  obtain ⟨D0, D1, D2, D3, D4⟩ : w2.cell? ⟨w.heap.size, 0, none⟩ = some (.int .i64 z) ∧ w2.cell? ⟨w.heap.size, 1, none⟩ = some (.string S) ∧ w2.cell? ⟨w.heap.size, 2, none⟩ = some (.string T) ∧ w2.cell? ⟨w.heap.size, 3, none⟩ = some (.int .i64 p) ∧ w2.cell? ⟨w.heap.size, 4, none⟩ = some (.int .i64 l) := ⟨HS2.out.c0, HS2.out.c1, HS2.out.c2, HS2.out.c3, HS2.out.c4⟩
  clear hb2 C2
  rcases hq01 with rfl | rfl
  · obtain ⟨lx, hlx⟩ : ∃ lx, leftX z (bytesN S) = lx := ⟨_, rfl⟩
    rw [hlx, decide_eq_true rfl, Bool.true_and] at hb
    have HLX := Lib.hid hlx
    clear hlx
    cases lx
    · obtain rfl : false = b := by rw [← hb]; rfl
      clear hb
      go_wp2_with (go_at_call 38; refine (mayLeft_at z S T hS p l false HLX.out _ HL2.out).mono ?_; rintro e w3 ⟨rfl, hb3⟩; have HB3 := Lib.hid (chain HB2.out HB2.out.size hb3); clear hb3)
      go_ret
      exact ⟨rfl, HB3.out⟩
    · rw [Bool.true_and] at hb
      have HPX := Lib.hid hb
      clear hb
      go_wp2_with fail
      refine (mayLeft_at z S T hS p l true HLX.out _ HL2.out).mono ?_
      rintro e w3 ⟨rfl, hb3⟩
      have HB3 := Lib.hid (chain HB2.out HB2.out.size hb3)
      obtain ⟨E0, E1, E2, E3, E4⟩ : w3.cell? ⟨w.heap.size, 0, none⟩ = some (.int .i64 z) ∧ w3.cell? ⟨w.heap.size, 1, none⟩ = some (.string S) ∧ w3.cell? ⟨w.heap.size, 2, none⟩ = some (.string T) ∧ w3.cell? ⟨w.heap.size, 3, none⟩ = some (.int .i64 p) ∧ w3.cell? ⟨w.heap.size, 4, none⟩ = some (.int .i64 l) :=
        have h := HS2.out.kept hb3
        ⟨h.c0, h.c1, h.c2, h.c3, h.c4⟩
      clear hb3 D0 D1 D2 D3 D4
      go_wp2_with fail
      refine (mayPrio_at z S T p l b HPX.out _).mono ?_
      rintro e w4 ⟨rfl, hb4⟩
      have HB4 := Lib.hid (chain HB3.out HB3.out.size hb4)
      clear hb4
      go_wp2
      go_ret
      exact ⟨rfl, HB4.out⟩
  · obtain rfl : false = b := by rw [← hb]; rfl
    clear hb
    go_wp2
    go_ret
    exact ⟨rfl, HB2.out⟩
/-- rules.May -/
theorem may_at (x : Rl) (hl : ∀ b ∈ x.left, b < 256) (hc : ∀ b ∈ x.cells, b < 256) (h1 : x.left.length ≤ 70000) (h2 : x.cells.length ≤ 70000) (b : Bool) (hb : mayR prC x = b) (w : World) (hL : LaidR w) :
    Calls Tryz.prog 21 #[aggR x] w fun e w' => e = .returned (.bool b) ∧ Below w.heap.size w w' := by
  obtain ⟨what, left, cells, prio, line⟩ := x
  rw [mayR_x hc] at hb
  refine may5_at what (bytesOf left) (bytesOf cells) (by rw [bytesOf_size]; exact h1) (by rw [bytesOf_size]; exact h2) prio line b ?_ w hL
  rw [bytesN_bytesOf _ hl]
  exact hb

/-! ### a rule that is looked for -/
def isR (k : Int) (s : List Nat) (x : Rl) : Bool := x.what == k && x.left == s
theorem firstR_is (l : List Rl) (k : Int) (s : List Nat) : firstR l k s = ((l.find? (isR k s)).map (·.cells)).getD [] := rfl
set_option maxRecDepth 100000 in
set_option maxHeartbeats 2000000 in
/-- What cellsOf looks for. -/
theorem isR_at (k : Int) (s : ByteArray) (x : Rl) (hl : ∀ b ∈ x.left, b < 256) (b1 b2 : Nat) (w : World) (h1 : w.cell? ⟨b1, 0, none⟩ = some (.int .i64 k)) (h2 : w.cell? ⟨b2, 0, none⟩ = some (.string s)) (hlt1 : b1 < w.heap.size) (hlt2 : b2 < w.heap.size) :
    Calls Tryz.prog 58 #[aggR x, .pointer (some ⟨b1, 0, none⟩), .pointer (some ⟨b2, 0, none⟩)] w fun e w' => e = .returned (.bool (isR k (bytesN s) x)) ∧ Below w.heap.size w w' := by
  obtain ⟨what, left, cells, prio, line⟩ := x
  show Calls _ _ #[.agg #[.int .i64 what, .string (bytesOf left), .string (bytesOf cells), .int .i64 prio, .int .i64 line], _, _] w fun e w' => e = .returned (.bool (what == k && left == bytesN s)) ∧ _
  have hb1 := (Below.refl w.heap.size w).alloc (Nat.le_refl _) (.cells #[.int .i64 what, .string (bytesOf left), .string (bytesOf cells), .int .i64 prio, .int .i64 line] 39)
  have HBW := Lib.hid hb1
  have k1 := (hb1.cell (p := ⟨b1, 0, none⟩) hlt1).trans h1
  have k2 := (hb1.cell (p := ⟨b2, 0, none⟩) hlt2).trans h2
  have HE := Lib.hid (show ((bytesOf left).toList == s.toList) = (left == bytesN s) from by
    by_cases e : left = bytesN s
    · have e2 : bytesOf left = s := by rw [e]; exact bytesOf_bytesN s
      rw [e2, beq_iff_eq.2 e]; simp
    · rw [beq_eq_false_iff_ne.2 e]
      exact toList_ne (fun h => e (by rw [← h, bytesN_bytesOf _ hl])))
  clear hb1 h1 h2
  by_cases e : what = k
  · have u1 : (what == k) = true := beq_iff_eq.2 e
    clear e
    go_enter Tryz.func58, Tryz.ntmps58
    go_wp2
    go_ret
    exact ⟨ret_bool HE.out, HBW.out⟩
  · have u1 : (what == k) = false := beq_eq_false_iff_ne.2 e
    clear e
    go_enter Tryz.func58, Tryz.ntmps58
    go_wp2
    go_ret
    exact ⟨rfl, HBW.out⟩
/-- How slices.IndexFunc ends. -/
def FirstTo (l : List Rl) (q : Rl → Bool) (w : World) (e : Ending) (w' : World) : Prop :=
  ((∃ (k : Nat) (x : Rl), e = .returned (.int .i64 (k : Int)) ∧ l[k]? = some x ∧ l.find? q = some x) ∨ (e = .returned (.int .i64 (-1)) ∧ l.find? q = none)) ∧ Below w.heap.size w w'
theorem find_at {l : List Rl} {q : Rl → Bool} : ∀ {k : Nat} {x : Rl}, l[k]? = some x → q x = true → (∀ j y, j < k → l[j]? = some y → q y = false) → l.find? q = some x := by
  induction l with
  | nil => intro k x h; simp at h
  | cons y l ih =>
    intro k x h hq hn
    cases k with
    | zero =>
      simp at h; subst h
      rw [List.find?_cons, hq]
    | succ k =>
      have h0 := hn 0 y (by omega) rfl
      rw [List.find?_cons, h0]
      exact ih (k := k) (by simpa using h) hq (fun j z hj hz => hn (j + 1) z (by omega) (by simpa using hz))
theorem find_no {l : List Rl} {q : Rl → Bool} (h : ∀ j y, j < l.length → l[j]? = some y → q y = false) : l.find? q = none := by
  rw [List.find?_eq_none]
  intro x hx
  obtain ⟨j, hj, e⟩ := List.getElem_of_mem hx
  rw [h j x hj (by rw [List.getElem?_eq_getElem hj, e])]
  simp
set_option maxRecDepth 100000 in
set_option maxHeartbeats 4000000 in
/-- slices.IndexFunc, at what cellsOf looks for -/
theorem indexF_at (l : List Rl) (A : Option Addr) (off n c : Nat) (hn : l.length = n) (hn9 : n ≤ 1000) (hf : ∀ x ∈ l, FitR x) (k : Int) (s : ByteArray) (b1 b2 : Nat) (w : World) (hl : ReadsR off w w.heap.size (.slice A n c) l)
    (h1 : w.cell? ⟨b1, 0, none⟩ = some (.int .i64 k)) (h2 : w.cell? ⟨b2, 0, none⟩ = some (.string s)) (hlt1 : b1 < w.heap.size) (hlt2 : b2 < w.heap.size) :
    Calls Tryz.prog 57 #[.slice A n c, .func (.func 58) #[] #[.pointer (some ⟨b1, 0, none⟩), .pointer (some ⟨b2, 0, none⟩)]] w (FirstTo l (isR k (bytesN s)) w) := by
  obtain ⟨A', c', e, hA⟩ := hl
  injection e with e1 e2 e3
  subst e1; subst e3
  have HA := Lib.hid hA
  have HN := Lib.hid hn
  have HF := Lib.hid hf
  have HK1 := Lib.hid (show ∀ W : World, Below w.heap.size w W → W.cell? ⟨b1, 0, none⟩ = some (.int .i64 k) ∧ W.cell? ⟨b2, 0, none⟩ = some (.string s) ∧ b1 < W.heap.size ∧ b2 < W.heap.size from fun W hW => ⟨(hW.cell (p := ⟨b1, 0, none⟩) hlt1).trans h1, (hW.cell (p := ⟨b2, 0, none⟩) hlt2).trans h2, Nat.lt_of_lt_of_le hlt1 hW.size, Nat.lt_of_lt_of_le hlt2 hW.size⟩)
  clear hA hn hf h1 h2 hlt1 hlt2 e2
  go_enter Tryz.func57, Tryz.ntmps57
  go_wp2
  go_loopw [8] (fun u8 wr => ∃ j : Nat, u8 = .int .i64 (j : Int) ∧ j ≤ n ∧ (∀ i y, i < j → l[i]? = some y → isR k (bytesN s) y = false) ∧ Below w.heap.size w wr) (fun u8 _ => n - (intOf u8).toNat)
  case atStart => exact ⟨0, rfl, Nat.zero_le _, fun i y h => by omega, Below.refl _ _⟩
  case round =>
    obtain ⟨j, rfl, hj, hq, hB⟩ := hrel
    have HQ := Lib.hid hq
    have HB := Lib.hid hB
    have j0 : (0 : Int) ≤ (j : Int) := by omega
    clear hq
    by_cases hlt : j < n
    · obtain ⟨g, rfl, hgw, hg⟩ := HA.out (by rw [HN.out]; omega)
      obtain ⟨x, hx⟩ : ∃ x, l[j]? = some x := ⟨_, List.getElem?_eq_getElem (by rw [HN.out]; exact hlt)⟩
      obtain ⟨g0, g1, g2, g3, g4⟩ := rcell hg j x hx
      have g0 := (hB.cell (p := ⟨g, off + j * 5, none⟩) hgw).trans g0
      have g1 := (hB.cell (p := ⟨g, off + j * 5 + 1, none⟩) hgw).trans g1
      have g2 := (hB.cell (p := ⟨g, off + j * 5 + 2, none⟩) hgw).trans g2
      have g3 := (hB.cell (p := ⟨g, off + j * 5 + 3, none⟩) hgw).trans g3
      have g4 := (hB.cell (p := ⟨g, off + j * 5 + 4, none⟩) hgw).trans g4
      have hxf := HF.out x (List.mem_of_getElem? hx)
      obtain ⟨bq, hbq⟩ : ∃ bq, isR k (bytesN s) x = bq := ⟨_, rfl⟩
      obtain ⟨k1, k2, k3, k4⟩ := HK1.out wr hB
      have hir := isR_at k s x hxf.2.2.2.1 b1 b2 wr k1 k2 k3 k4
      rw [hbq] at hir
      have HIR := Lib.hid hir
      have HX := Lib.hid hx
      have HBQ := Lib.hid hbq
      have j1 : (j : Int) < (n : Int) := by omega
      obtain ⟨xw, xl, xc, xp, xn⟩ := x
      simp only [aggR] at HIR
      simp only [] at g0 g1 g2 g3 g4
      clear hx hxf hg hgw k1 k2 k3 k4 hir hbq hB
      cases bq
      · have HNX := Lib.hid (show ∀ i y, i < j + 1 → l[i]? = some y → isR k (bytesN s) y = false from fun i y h1 h2 => by
          rcases Nat.lt_or_ge i j with h | h
          · exact HQ.out i y h h2
          · obtain rfl : i = j := by omega
            rw [HX.out] at h2; cases h2; exact HBQ.out)
        go_wp2_with fail
        refine HIR.out.mono ?_
        rintro e w2 ⟨rfl, hb2⟩
        have HB2 := Lib.hid (chain HB.out HB.out.size hb2)
        clear hb2
        go_wp2
        go_roundw
        case rel => exact ⟨j + 1, by go_num, by omega, HNX.out, HB2.out⟩
        case measure => simp [intOf]; omega
      · have HFI := Lib.hid (find_at HX.out HBQ.out HQ.out)
        go_wp2_with fail
        refine HIR.out.mono ?_
        rintro e w2 ⟨rfl, hb2⟩
        have HB2 := Lib.hid (chain HB.out HB.out.size hb2)
        clear hb2
        go_wp2
        go_ret
        exact ⟨.inl ⟨j, _, rfl, HX.out, HFI.out⟩, HB2.out⟩
    · obtain rfl : j = n := by omega
      have HFI := Lib.hid (find_no (l := l) (q := isR k (bytesN s)) (fun i y h1 h2 => HQ.out i y (by rw [← HN.out]; exact h1) h2))
      clear hB
      go_wp2
      go_ret
      exact ⟨.inr ⟨rfl, HFI.out⟩, HB.out⟩
theorem clone_at (s : ByteArray) (h : s.size ≤ 281474976710656) (w : World) : Calls Tryz.prog 46 #[.string s] w fun e w' => e = .returned (.string s) ∧ Below w.heap.size w w' := by
  go_enter Tryz.func46, Tryz.ntmps46
  go_wp2_with (go_at_call 69; refine (Tryz.stringslite_Clone s _ h).mono ?_; rintro e w' ⟨rfl, hb⟩)
  go_ret
  exact ⟨rfl, hb⟩
set_option maxRecDepth 100000 in
set_option maxHeartbeats 4000000 in
/-- rules.cellsOf -/
theorem cellsOf_at (v : Value) (l : List Rl) (off : Nat) (hl9 : l.length ≤ 1000) (hf : ∀ x ∈ l, FitR x ∧ x.left.length ≤ 9000 ∧ x.cells.length ≤ 9000) (k : Int) (s : ByteArray) (r : List Nat) (hr : firstR l k (bytesN s) = r) (w : World) (hv : ReadsR off w w.heap.size v l) :
    Calls Tryz.prog 33 #[v, .int .i64 k, .string s] w fun e w' => e = .returned (.string (bytesOf r)) ∧ Below w.heap.size w w' := by
  obtain ⟨A, c, rfl, hA⟩ := hv
  obtain ⟨n, hn⟩ : ∃ n, l.length = n := ⟨_, rfl⟩
  rw [hn] at hl9 ⊢
  have HA := Lib.hid hA
  have HN := Lib.hid hn
  have HF := Lib.hid hf
  have HR := Lib.hid hr
  clear hA hn hf hr
  go_enter Tryz.func33, Tryz.ntmps33
  go_upto_region 1 with fail
  generalize hw1 : (w.alloc _).alloc _ = w1
  have c1 : w1.cell? ⟨w.heap.size, 0, none⟩ = some (.int .i64 k) := by rw [← hw1]; simp
  have c2 : w1.cell? ⟨w.heap.size + 1, 0, none⟩ = some (.string s) := by rw [← hw1]; simp
  have hsz : w1.heap.size = w.heap.size + 1 + 1 := by rw [← hw1]; simp
  have hb1 : Below w.heap.size w w1 := by rw [← hw1]; exact ((Below.refl _ _).alloc (Nat.le_refl _) _).alloc (by simp) _
  have hrd : ReadsR off w1 w1.heap.size (.slice A n c) l := (Reads.below (show ReadsR off w w.heap.size (.slice A n c) l from ⟨A, c, by rw [HN.out], HA.out⟩) hb1).mono hb1.size
  have HI := Lib.hid (indexF_at l A off n c HN.out hl9 (fun x hx => (HF.out x hx).1) k s w.heap.size (w.heap.size + 1) w1 hrd c1 c2 (by omega) (by omega))
  have HB1 := Lib.hid hb1
  have HRD := Lib.hid hrd
  clear hw1 c1 c2 hsz hb1 hrd HA
  go_wp2_with fail
  refine HI.out.mono ?_
  rintro e w2 ⟨hres, hb2⟩
  have HB2 := Lib.hid (chain HB1.out HB1.out.size hb2)
  have HR2 := Lib.hid (HRD.out.below hb2)
  clear hb2
  rcases hres with ⟨j, x, rfl, hx, hfi⟩ | ⟨rfl, hfi⟩
  · obtain ⟨A', c', e, hA⟩ := HR2.out
    injection e with e1 e2 e3
    subst e1; subst e3
    have hjn : j < n := by rw [← HN.out]; exact (List.getElem?_eq_some_iff.1 hx).1
    obtain ⟨g, rfl, hgw, hg⟩ := hA (by rw [HN.out]; omega)
    have g2 := (rcell hg j x hx).2.2.1
    have hxf := HF.out x (List.mem_of_getElem? hx)
    have hcl : (bytesOf x.cells).size ≤ 281474976710656 := by rw [bytesOf_size]; have := hxf.2.2; omega
    have HV := Lib.hid (show x.cells = r by rw [← HR.out, firstR_is, hfi]; rfl)
    have j0 : (0 : Int) ≤ (j : Int) := by omega
    have j1 : (j : Int) < (n : Int) := by omega
    have j2 : decide ((j : Int) < 0) = false := decide_eq_false (by omega)
    clear hx hfi hg hgw hA hxf e2
    go_wp2_with fail
    refine (clone_at _ hcl _).mono ?_
    rintro e w3 ⟨rfl, hb3⟩
    have HB3 := Lib.hid (chain HB2.out HB2.out.size hb3)
    clear hb3
    go_wp2
    go_ret
    exact ⟨ret_str (by rw [HV.out]), HB3.out⟩
  · have HV := Lib.hid (show [] = r by rw [← HR.out, firstR_is, hfi]; rfl)
    clear hfi
    go_wp2
    go_ret
    exact ⟨ret_str (by rw [← HV.out]; rfl), HB2.out⟩
set_option maxHeartbeats 2000000 in
/-- rules.Sign -/
theorem sign_at (v : Value) (l : List Rl) (off : Nat) (s : ByteArray) (hl9 : l.length ≤ 1000) (hf : ∀ x ∈ l, FitR x ∧ x.left.length ≤ 9000 ∧ x.cells.length ≤ 9000) (w : World) (hv : ReadsR off w w.heap.size v l) :
    Calls Tryz.prog 13 #[v, .string s] w fun e w' => e = .returned (.string (bytesOf (firstR l 8 (bytesN s)))) ∧ Below w.heap.size w w' := by
  have HC := Lib.hid (cellsOf_at v l off hl9 hf 8 s _ rfl w hv)
  clear hv hf
  go_enter Tryz.func13, Tryz.ntmps13
  go_wp2_with fail
  refine HC.out.mono ?_
  rintro e w2 ⟨rfl, hb2⟩
  go_wp2
  go_ret
  exact ⟨rfl, hb2⟩
set_option maxHeartbeats 2000000 in
/-- rules.Mark -/
theorem mark_at (v : Value) (l : List Rl) (off : Nat) (c : Nat) (hl9 : l.length ≤ 1000) (hf : ∀ x ∈ l, FitR x ∧ x.left.length ≤ 9000 ∧ x.cells.length ≤ 9000) (hc : c < 256) (w : World) (hv : ReadsR off w w.heap.size v l) :
    Calls Tryz.prog 15 #[v, .int .u8 (c : Int)] w fun e w' => e = .returned (.string (bytesOf (firstR l 6 [c]))) ∧ Below w.heap.size w w' := by
  have HF := Lib.hid hf
  have HV := Lib.hid hv
  have HN := Lib.hid (show bytesN (bytesOf [c]) = [c] from bytesN_bytesOf [c] (fun x hx => by rw [List.mem_singleton.1 hx]; exact hc))
  clear hv hf
  go_enter Tryz.func15, Tryz.ntmps15
  go_wp2_with fail
  refine (alone_at c hc _).mono ?_
  rintro e w1 ⟨rfl, hb1⟩
  have HC := Lib.hid (cellsOf_at v l off hl9 HF.out 6 (bytesOf [c]) (firstR l 6 [c]) (by rw [HN.out]) w1 ((HV.out.below hb1).mono hb1.size))
  go_wp2_with fail
  refine HC.out.mono ?_
  rintro e w2 ⟨rfl, hb2⟩
  have HB2 := Lib.hid (chain hb1 hb1.size hb2)
  clear hb1 hb2
  go_wp2
  go_ret
  exact ⟨rfl, HB2.out⟩
set_option maxHeartbeats 2000000 in
/-- rules.Digit -/
theorem digit_at (v : Value) (l : List Rl) (off : Nat) (c : Nat) (hl9 : l.length ≤ 1000) (hf : ∀ x ∈ l, FitR x ∧ x.left.length ≤ 9000 ∧ x.cells.length ≤ 9000) (hc : c < 256) (w : World) (hv : ReadsR off w w.heap.size v l) :
    Calls Tryz.prog 17 #[v, .int .u8 (c : Int)] w fun e w' => e = .returned (.string (bytesOf (firstR l 7 [c]))) ∧ Below w.heap.size w w' := by
  have HF := Lib.hid hf
  have HV := Lib.hid hv
  have HN := Lib.hid (show bytesN (bytesOf [c]) = [c] from bytesN_bytesOf [c] (fun x hx => by rw [List.mem_singleton.1 hx]; exact hc))
  clear hv hf
  go_enter Tryz.func17, Tryz.ntmps17
  go_wp2_with fail
  refine (alone_at c hc _).mono ?_
  rintro e w1 ⟨rfl, hb1⟩
  have HC := Lib.hid (cellsOf_at v l off hl9 HF.out 7 (bytesOf [c]) (firstR l 7 [c]) (by rw [HN.out]) w1 ((HV.out.below hb1).mono hb1.size))
  go_wp2_with fail
  refine HC.out.mono ?_
  rintro e w2 ⟨rfl, hb2⟩
  have HB2 := Lib.hid (chain hb1 hb1.size hb2)
  clear hb1 hb2
  go_wp2
  go_ret
  exact ⟨rfl, HB2.out⟩
end Go.Proofs.YtkhfingenjlpfaaGreatDoor.Ru
