/-
  Put together: TiB, TiE.
-/
import Derived.Test.YtjflefchhbihkaaGreatDoorSb
import Derived.Test.YtjflefchhbihkaaGreatDoorCkK
namespace Go.Proofs.YtjflefchhbihkaaGreatDoor.Ti
open Go.RowKit Ba Ru Ck

/-- The blocks from lo to hi are as they were. -/
def Kept (w w' : World) (lo hi : Nat) : Prop := w.heap.size ≤ w'.heap.size ∧ ∀ b, lo ≤ b → b < hi → w'.heap[b]? = w.heap[b]?
theorem Kept.of_below {w w' : World} {B lo hi : Nat} (h : Below B w w') (hB : hi ≤ B) : Kept w w' lo hi := ⟨h.size, fun b _ h2 => h.block b (by omega)⟩
theorem Kept.trans {a b c : World} {lo hi : Nat} (h : Kept a b lo hi) (k : Kept b c lo hi) : Kept a c lo hi := ⟨Nat.le_trans h.1 k.1, fun i h1 h2 => (k.2 i h1 h2).trans (h.2 i h1 h2)⟩
abbrev FitL (l : List Rl) : Prop := ∀ x ∈ l, FitR x ∧ x.left.length ≤ 9000 ∧ x.cells.length ≤ 9000
/-- What a landed package trie answers: 'Is w t l lo hi': t is the ready table of the rules l; all that it holds lies in blocks from lo on, ahead of hi. -/
structure TLands where
  Is : World → Value → List Rl → Nat → Nat → Prop
  keep : ∀ {w w' : World} {t : Value} {l : List Rl} {lo hi : Nat}, Is w t l lo hi → Kept w w' lo hi → Is w' t l lo hi
  ptr : ∀ {w : World} {t : Value} {l : List Rl} {lo hi : Nat}, Is w t l lo hi → (∃ a, t = .pointer (some a)) ∧ hi ≤ w.heap.size
  new : ∀ (v : Value) (l : List Rl) (off : Nat), l.length ≤ 1000 → FitL l → CapsR v → ∀ w : World, Laid9 w → ReadsR off w w.heap.size v l → Calls Tryz.prog 9 #[v] w fun e w' =>
    Below w.heap.size w w' ∧ (((tableR prC l).2 = 0 ∧ ∃ t, e = .returned (.tuple #[t, .int .i64 0, .int .i64 0]) ∧ Is w' t l w.heap.size w'.heap.size) ∨ ((tableR prC l).2 ≠ 0 ∧ e = .returned (.tuple #[.pointer none, .int .i64 (tableR prC l).1, .int .i64 (((tableR prC l).2 : Nat) : Int)])))
  matchT : ∀ {t : Value} {l : List Rl} {lo hi : Nat} (S : ByteArray) (p row : Int), S.size ≤ 9000 → I64 p → I64 row → l.length ≤ 1000 → Acc prC l → FitL l → ∀ w : World, Laid9 w → Is w t l lo hi → Calls Tryz.prog 12 #[t, .string S, .int .i64 p, .int .i64 row] w fun e w' =>
    e = .returned (.tuple #[.int .i64 (numV (matchN l (bytesN S) p row)), .bool (okV (matchN l (bytesN S) p row))]) ∧ Below w.heap.size w w'
  word : ∀ {t : Value} {l : List Rl} {lo hi : Nat} (S : ByteArray), S.size ≤ 9000 → l.length ≤ 1000 → Acc prC l → FitL l → ∀ w : World, Laid9 w → Is w t l lo hi → Calls Tryz.prog 14 #[t, .string S] w fun e w' =>
    e = .returned (.tuple #[.int .i64 (numV (wordN l (bytesN S))), .bool (okV (wordN l (bytesN S)))]) ∧ Below w.heap.size w w'
  find : ∀ {t : Value} {l : List Rl} {lo hi : Nat} (q : Int) (S : ByteArray), S.size ≤ 9000 → I64 q → l.length ≤ 1000 → Acc prC l → FitL l → ∀ w : World, Laid9 w → Is w t l lo hi → Calls Tryz.prog 16 #[t, .int .i64 q, .string S] w fun e w' =>
    e = .returned (.tuple #[.int .i64 (numV (findN l q (bytesN S))), .bool (okV (findN l q (bytesN S)))]) ∧ Below w.heap.size w w'
  sign : ∀ {t : Value} {l : List Rl} {lo hi : Nat} (S : ByteArray), S.size ≤ 9000 → l.length ≤ 1000 → Acc prC l → FitL l → ∀ w : World, Laid9 w → Is w t l lo hi → Calls Tryz.prog 18 #[t, .string S] w fun e w' =>
    e = .returned (.string (bytesOf (signC l (bytesN S)))) ∧ Below w.heap.size w w'
  rules : ∀ {t : Value} {l : List Rl} {lo hi : Nat}, l.length ≤ 1000 → Acc prC l → FitL l → ∀ w : World, Laid9 w → Is w t l lo hi → Calls Tryz.prog 20 #[t] w fun e w' =>
    ∃ v, e = .returned v ∧ w'.ownsRow w.heap.size 58 5 v l.length (rows cR l) ∧ Below w.heap.size w w'
end Go.Proofs.YtjflefchhbihkaaGreatDoor.Ti
namespace Go.Proofs.YtjflefchhbihkaaGreatDoor.Ti
open Go.RowKit Ba Ru Ck

set_option maxRecDepth 100000 in
set_option maxHeartbeats 2000000 in
/-- styluslaw10.is, of a rule that it is -/
theorem is_yes (v : Value) (l : List Rl) (off k : Nat) (x : Rl) (q : Int) (t : ByteArray) (hl : l.length ≤ 1000000) (hx : l[k]? = some x) (h1 : x.what = q) (h2 : bytesOf x.left = t) (w : World) (B : Nat) (hv : ReadsR off w B v l) :
    Calls Tryz.prog 24 #[v, .int .i64 (k : Int), .bool true, .int .i64 q, .string t] w fun e w' => e = .returned (.bool true) ∧ w' = w := by
  obtain ⟨A, c, rfl, hA⟩ := hv
  have hlt : k < l.length := (List.getElem?_eq_some_iff.1 hx).1
  obtain ⟨g, rfl, -, hg⟩ := hA (by omega)
  obtain ⟨g0, g1, -, -, -⟩ := rcell hg k x hx
  rw [h1] at g0
  rw [h2] at g1
  have k0 : decide ((0 : Int) ≤ (k : Int)) = true := decide_eq_true (by omega)
  have k1 : decide ((k : Int) < (l.length : Int)) = true := decide_eq_true (by omega)
  clear hA hg hx h1 h2
  go_enter Tryz.func24, Tryz.ntmps24
  go_wp2
  go_ret
  exact ⟨by simp [], rfl⟩
set_option maxHeartbeats 4000000 in
/-- styluslaw10.long -/
theorem long10_at (v : Value) (l : List Rl) (off : Nat) (_hl : l.length ≤ maxLen) (w : World) (B : Nat) (hv : ReadsR off w B v l) (b : Bool) (hb : long9 l = b) :
    Calls Tryz.prog 7 #[v] w fun e w' => e = .returned (.bool b) ∧ w' = w := by
  obtain ⟨A, c, rfl, hA⟩ := hv
  have HA := Lib.hid hA; clear hA
  have HB := Lib.hid hb; clear hb
  go_enter Tryz.func7, Tryz.ntmps7
  by_cases h450 : 450 < l.length
  · have HV := Lib.hid (show true = b by rw [← HB.out]; unfold long9; rw [decide_eq_true h450, Bool.true_or])
    go_wp2
    go_ret
    rw [← HV.out]
    exact ⟨rfl, rfl⟩
  have t450 : decide (450 < (l.length : Int)) = false := decide_eq_false (by omega)
  have h451 : l.length ≤ 450 := by omega
  clear h450
  go_wp2
  go_loopw [3] (fun i wr => ∃ k : Nat, k ≤ l.length ∧ i = .int .i64 k ∧ (∀ x ∈ l.take k, longX x = false) ∧ wr = w) (fun i _ => l.length - (intOf i).toNat)
  case atStart => exact ⟨0, by omega, rfl, fun x hx => by simp at hx, rfl⟩
  case round =>
    obtain ⟨k, hk, rfl, hN, rfl⟩ := hrel
    by_cases hlt : k < l.length
    · obtain ⟨g, rfl, -, hg⟩ := HA.out (by omega)
      obtain ⟨x, hx⟩ : ∃ x, l[k]? = some x := ⟨_, List.getElem?_eq_getElem hlt⟩
      obtain ⟨-, g1, g2, -, -⟩ := rcell hg k x hx
      have s1 : (bytesOf x.left).size = x.left.length := bytesOf_size _
      have s2 : (bytesOf x.cells).size = x.cells.length := bytesOf_size _
      have HX := Lib.hid hx
      obtain ⟨L, hL⟩ : ∃ L, bytesOf x.left = L := ⟨_, rfl⟩
      obtain ⟨C, hC⟩ : ∃ C, bytesOf x.cells = C := ⟨_, rfl⟩
      rw [hL] at g1 s1
      rw [hC] at g2 s2
      have hyes : longX x = true → true = b := fun h => by
        rw [← HB.out]; unfold long9
        rw [List.any_eq_true.2 ⟨x, List.mem_of_getElem? hx, h⟩, Bool.or_true]
      have hno : longX x = false → ∀ y ∈ l.take (k + 1), longX y = false := fun h y hy => by
        rw [List.take_add_one, HX.out, List.mem_append] at hy
        rcases hy with hy | hy
        · exact hN y hy
        · rw [Option.toList_some, List.mem_singleton] at hy
          rw [hy]; exact h
      clear hg hx hL hC hN HA
      by_cases c1 : 50 < L.size
      · have HV := Lib.hid (hyes (by unfold longX; rw [decide_eq_true (by omega), Bool.true_or]))
        clear hyes hno s1 s2
        go_wp2
        go_ret
        rw [← HV.out]
        exact ⟨rfl, rfl⟩
      · have u1 : decide (50 < (L.size : Int)) = false := decide_eq_false (by omega)
        by_cases c2 : 50 < C.size
        · have HV := Lib.hid (hyes (by unfold longX; rw [decide_eq_true (p := 50 < x.cells.length) (by omega), Bool.or_true]))
          clear hyes hno s1 s2 c1
          go_wp2
          go_ret
          rw [← HV.out]
          exact ⟨rfl, rfl⟩
        · have u2 : decide (50 < (C.size : Int)) = false := decide_eq_false (by omega)
          have HV := Lib.hid (hno (by unfold longX; rw [decide_eq_false (by omega), decide_eq_false (by omega)]; rfl))
          clear hyes hno s1 s2 c1 c2
          go_wp2
          go_roundw
          case rel => exact ⟨k + 1, by omega, by go_num, HV.out, trivial⟩
          case measure => simp [intOf]; omega
    · obtain rfl : k = l.length := by omega
      rw [List.take_length] at hN
      have HV := Lib.hid (show false = b by
        rw [← HB.out]; unfold long9
        rw [decide_eq_false (by omega), List.any_eq_false.2 (fun x hx => by rw [hN x hx]; exact Bool.false_ne_true)]; rfl)
      clear hN
      go_wp2
      go_ret
      rw [← HV.out]
      exact ⟨rfl, rfl⟩
end Go.Proofs.YtjflefchhbihkaaGreatDoor.Ti
