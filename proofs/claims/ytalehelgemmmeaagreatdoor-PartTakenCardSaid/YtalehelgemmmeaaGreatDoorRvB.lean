/-
  The landed package rules: whether a rule may be; the cells of a sign, a mark, a digit.
-/
import Derived.Test.YtalehelgemmmeaaGreatDoorRvA
import Derived.Test.YtalehelgemmmeaaGreatDoorRuG
import Derived.Test.YtalehelgemmmeaaGreatDoorVh
namespace Go.Proofs.YtalehelgemmmeaaGreatDoor.Ru
open Go.RowKit Ba

set_option maxRecDepth 100000 in
set_option maxHeartbeats 4000000 in
/-- rules.May, by its parts -/
theorem may5_at (z : Int) (S T : ByteArray) (hS : S.size ≤ 70000) (hT : T.size ≤ 70000) (p l : Int) (b : Bool) (hb : (decide (Ce.printE T = 0) && leftX z (bytesN S) && prioX z p) = b) (w : World) (hL : LaidR w) :
    Calls Tryz.prog 40 #[.agg #[.int .i64 z, .string S, .string T, .int .i64 p, .int .i64 l]] w fun e w' => e = .returned (.bool b) ∧ Below w.heap.size w w' := by
  obtain ⟨q, hq⟩ : ∃ q, Ce.printE T = q := ⟨_, rfl⟩
  obtain ⟨V, hV⟩ : ∃ V, Ce.printV T = V := ⟨_, rfl⟩
  have HPR := Lib.hid (hq ▸ hV ▸ Ce.print_any T (by omega))
  rw [hq] at hb
  have hq01 : q = 0 ∨ q = 1 := by
    rw [← hq]; unfold Ce.printE; split
    · exact .inl rfl
    · exact .inr rfl
  have HL := Lib.hid hL
  clear hq hV hL
  go_enter Tryz.func40, Tryz.ntmps40
  go_upto_region 1 with fail
  generalize hw1 : w.alloc _ = w1
  have hst : StB w1 w.heap.size z S T p l := by rw [← hw1]; exact StB.new w z S T p l
  have hb1 : Below w.heap.size w w1 := by rw [← hw1]; exact (Below.refl _ _).alloc (Nat.le_refl _) _
  have HB1 := Lib.hid hb1
  have HL1 := Lib.hid (HL.out.kept hb1)
  have HS1 := Lib.hid hst
  have C2 := hst.c2
  clear hw1 hst hb1
  go_wp2_with fail
  refine (HPR.out _).mono ?_
  rintro e w2 ⟨rfl, hb2⟩
  have HB2 := Lib.hid (chain HB1.out HB1.out.size hb2)
  have HL2 := Lib.hid (HL1.out.kept hb2)
  have HS2 := Lib.hid (HS1.out.kept hb2)
  obtain ⟨D0, D1, D2, D3, D4⟩ : w2.cell? ⟨w.heap.size, 0, none⟩ = some (.int .i64 z) ∧ w2.cell? ⟨w.heap.size, 1, none⟩ = some (.string S) ∧ w2.cell? ⟨w.heap.size, 2, none⟩ = some (.string T) ∧ w2.cell? ⟨w.heap.size, 3, none⟩ = some (.int .i64 p) ∧ w2.cell? ⟨w.heap.size, 4, none⟩ = some (.int .i64 l) := ⟨HS2.out.c0, HS2.out.c1, HS2.out.c2, HS2.out.c3, HS2.out.c4⟩
  clear hb2 C2
  rcases hq01 with rfl | rfl
  · obtain ⟨lx, hlx⟩ : ∃ lx, leftX z (bytesN S) = lx := ⟨_, rfl⟩
    rw [hlx, decide_eq_true rfl, Bool.true_and] at hb
    have HLX := Lib.hid hlx
    clear hlx
    cases lx
    · obtain rfl : false = b := by rw [← hb]; rfl
      clear hb
      go_wp2_with (go_at_call 57; refine (mayLeft_at z S T hS p l false HLX.out _ HL2.out).mono ?_; rintro e w3 ⟨rfl, hb3⟩; have HB3 := Lib.hid (chain HB2.out HB2.out.size hb3); clear hb3)
      go_ret
      exact ⟨rfl, HB3.out⟩
    · rw [Bool.true_and] at hb
      have HPX := Lib.hid hb
      clear hb
      go_wp2_with fail
      refine (mayLeft_at z S T hS p l true HLX.out _ HL2.out).mono ?_
      rintro e w3 ⟨rfl, hb3⟩
      have HB3 := Lib.hid (chain HB2.out HB2.out.size hb3)
      obtain ⟨E0, E1, E2, E3, E4⟩ : w3.cell? ⟨w.heap.size, 0, none⟩ = some (.int .i64 z) ∧ w3.cell? ⟨w.heap.size, 1, none⟩ = some (.string S) ∧ w3.cell? ⟨w.heap.size, 2, none⟩ = some (.string T) ∧ w3.cell? ⟨w.heap.size, 3, none⟩ = some (.int .i64 p) ∧ w3.cell? ⟨w.heap.size, 4, none⟩ = some (.int .i64 l) :=
        have h := HS2.out.kept hb3
        ⟨h.c0, h.c1, h.c2, h.c3, h.c4⟩
      clear hb3 D0 D1 D2 D3 D4
      go_wp2_with fail
      refine (mayPrio_at z S T p l b HPX.out _).mono ?_
      rintro e w4 ⟨rfl, hb4⟩
      have HB4 := Lib.hid (chain HB3.out HB3.out.size hb4)
      clear hb4
      go_wp2
      go_ret
      exact ⟨rfl, HB4.out⟩
  · obtain rfl : false = b := by rw [← hb]; rfl
    clear hb
    go_wp2
    go_ret
    exact ⟨rfl, HB2.out⟩
/-- rules.May -/
theorem may_at (x : Rl) (hl : ∀ b ∈ x.left, b < 256) (hc : ∀ b ∈ x.cells, b < 256) (h1 : x.left.length ≤ 70000) (h2 : x.cells.length ≤ 70000) (b : Bool) (hb : mayR prC x = b) (w : World) (hL : LaidR w) :
    Calls Tryz.prog 40 #[aggR x] w fun e w' => e = .returned (.bool b) ∧ Below w.heap.size w w' := by
  obtain ⟨what, left, cells, prio, line⟩ := x
  rw [mayR_x hc] at hb
  refine may5_at what (bytesOf left) (bytesOf cells) (by rw [bytesOf_size]; exact h1) (by rw [bytesOf_size]; exact h2) prio line b ?_ w hL
  rw [bytesN_bytesOf _ hl]
  exact hb

/-! ### a rule that is looked for -/
def isR (k : Int) (s : List Nat) (x : Rl) : Bool := x.what == k && x.left == s
theorem firstR_is (l : List Rl) (k : Int) (s : List Nat) : firstR l k s = ((l.find? (isR k s)).map (·.cells)).getD [] := rfl
/-- How slices.IndexFunc ends. -/
def FirstTo (l : List Rl) (q : Rl → Bool) (w : World) (e : Ending) (w' : World) : Prop :=
  ((∃ (k : Nat) (x : Rl), e = .returned (.int .i64 (k : Int)) ∧ l[k]? = some x ∧ l.find? q = some x) ∨ (e = .returned (.int .i64 (-1)) ∧ l.find? q = none)) ∧ Below w.heap.size w w'
theorem find_at {l : List Rl} {q : Rl → Bool} : ∀ {k : Nat} {x : Rl}, l[k]? = some x → q x = true → (∀ j y, j < k → l[j]? = some y → q y = false) → l.find? q = some x := by
  induction l with
  | nil => intro k x h; simp at h
  | cons y l ih =>
    intro k x h hq hn
    cases k with
    | zero =>
      simp at h; subst h
      rw [List.find?_cons, hq]
    | succ k =>
      have h0 := hn 0 y (by omega) rfl
      rw [List.find?_cons, h0]
      exact ih (k := k) (by simpa using h) hq (fun j z hj hz => hn (j + 1) z (by omega) (by simpa using hz))
theorem find_no {l : List Rl} {q : Rl → Bool} (h : ∀ j y, j < l.length → l[j]? = some y → q y = false) : l.find? q = none := by
  rw [List.find?_eq_none]
  intro x hx
  obtain ⟨j, hj, e⟩ := List.getElem_of_mem hx
  rw [h j x hj (by rw [List.getElem?_eq_getElem hj, e])]
  simp
theorem clone_at (s : ByteArray) (h : s.size ≤ 281474976710656) (w : World) : Calls Tryz.prog 30 #[.string s] w fun e w' => e = .returned (.string s) ∧ Below w.heap.size w w' := by
  go_enter Tryz.func30, Tryz.ntmps30
  go_wp2_with (go_at_call 48; refine (Tryz.stringslite_Clone s _ h).mono ?_; rintro e w' ⟨rfl, hb⟩)
  go_ret
  exact ⟨rfl, hb⟩
end Go.Proofs.YtalehelgemmmeaaGreatDoor.Ru
