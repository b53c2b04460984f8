/-
  What the landed lex answers (a premise here: Lands), and styluslaw03's read, spoilt, awake over it.
-/
import Derived.Test.YtgdealdpphcamaaDoorLxU
namespace Go.Proofs.YtgdealdpphcamaaDoor.Lx
open Go.RowKit

/-- What the landed package answers. -/
structure Lands : Prop where
  of : ∀ s : ByteArray, s.size ≤ 9000 → ∀ w : World, Ka.Laid w → Calls Tryd.prog 8 #[.string s] w fun e w' => Gives s e w' w.heap.size ∧ Below w.heap.size w w'
  name : ∀ c : Nat, c < 256 → ∀ w : World, Ka.Laid w → Calls Tryd.prog 11 #[.int .u8 (c : Int)] w fun e w' => e = .returned (.string (nameS c)) ∧ Below w.heap.size w w'
  letters : ∀ w : World, Ka.Laid w → Calls Tryd.prog 13 #[] w fun e w' => e = .returned (.string lettersS) ∧ Below w.heap.size w w'

theorem below_drewN {B : Nat} {a w : World} (h : Below B a w) (n : Nat) : Below B a (w.drewN n) := h.trans ⟨rfl, rfl, rfl, Nat.le_refl _, fun _ _ => rfl⟩
theorem lexF_length (s : ByteArray) : ∀ n p, (lexF s n p).1.length ≤ n
  | 0, p => by simp [lexF]
  | n + 1, p => by
    unfold lexF
    by_cases h : p < s.size
    · rw [if_pos h]
      cases hs : stepF s p with
      | inr e => simp
      | inl xq =>
        obtain ⟨x, q⟩ := xq
        have := lexF_length s n q
        simp only [List.length_cons]; omega
    · rw [if_neg h]; simp
theorem lexV_length (s : ByteArray) : (lexV s).length ≤ 8192 := by
  unfold lexV
  by_cases h : 8192 < s.size
  · rw [if_pos h]; simp
  · rw [if_neg h]
    have := lexF_length s s.size 0
    cases h2 : (lexA s 0).2 with
    | none => show (lexF s s.size 0).1.length ≤ 8192; omega
    | some x => simp
theorem Holds.mono {w : World} {B B' : Nat} {v : Value} {xs : List Lx} (h : Holds w B v xs) (hb : B ≤ B') : Holds w B' v xs := by
  obtain ⟨A, c, rfl, hA⟩ := h
  refine ⟨A, c, rfl, fun h0 => ?_⟩
  obtain ⟨g, rfl, hg, hk⟩ := hA h0
  exact ⟨g, rfl, by omega, hk⟩
theorem Holds.nil (w : World) (B c : Nat) : Holds w B (.slice none 0 c) [] := ⟨none, c, rfl, fun h => absurd h (by simp)⟩
/-- A row that is built where it stands. -/
theorem Holds.new (w : World) (xs : List Lx) (vs : Array Value) (T : TypeId) (c n : Nat) (hn : xs.length = n) (hv : vs.toList = cellsLx xs) : Holds (w.alloc (.cells vs T)) (w.heap.size + 1) (.slice (some ⟨w.heap.size, 0, none⟩) n c) xs := by
  subst hn
  refine ⟨_, c, rfl, fun _ => ⟨w.heap.size, rfl, by omega, fun k x hx => ?_⟩⟩
  have hc : ∀ j u, (cellsLx xs)[j]? = some u → (w.alloc (.cells vs T)).cell? ⟨w.heap.size, j, none⟩ = some u := by
    intro j u h
    rw [← hv] at h
    simp at h ⊢
    exact h
  have ha := cellsLx_at xs k x hx
  have c0 := ha 0 (by omega)
  rw [Nat.add_zero] at c0
  exact ⟨hc _ _ c0, hc _ _ (ha 1 (by omega)), hc _ _ (ha 2 (by omega)), hc _ _ (ha 3 (by omega))⟩
theorem Gives.holds {s : ByteArray} {e : Ending} {w' : World} {B : Nat} (h : Gives s e w' B) : ∃ v, e = .returned (.tuple #[v, .int .i64 ((lexAt s : Nat) : Int), .int .i64 ((lexE s : Nat) : Int)]) ∧ Holds w' w'.heap.size v (lexV s) := by
  obtain ⟨v, h1, h2⟩ := h
  exact ⟨v, h1, Holds.of_own rfl h2⟩
theorem of_at (L : Lands) (s : ByteArray) (hs : s.size ≤ 9000) (xs : List Lx) (p q : Int) (hx : lexV s = xs) (hp : ((lexAt s : Nat) : Int) = p) (hq : ((lexE s : Nat) : Int) = q) (w : World) (hL : Ka.Laid w) :
    Calls Tryd.prog 8 #[.string s] w fun e w' => ∃ v, e = .returned (.tuple #[v, .int .i64 p, .int .i64 q]) ∧ Holds w' w'.heap.size v xs ∧ Below w.heap.size w w' := by
  subst hx; subst hp; subst hq
  refine (L.of s hs w hL).mono ?_
  rintro e w' ⟨hg, hb⟩
  obtain ⟨v, h1, h2⟩ := hg.holds
  exact ⟨v, h1, h2, hb⟩

set_option maxHeartbeats 2000000 in
/-- styluslaw03.read -/
theorem read_at (L : Lands) (s : ByteArray) (hs : s.size ≤ 9000) (xs : List Lx) (hx : lexV s = xs) (hp : lexAt s = 0) (hq : lexE s = 0) (u : Value) (w : World) (hL : Ka.Laid w) (hu : Holds w w.heap.size u xs) :
    Calls Tryd.prog 15 #[.string s, u] w fun e w' => e = .returned (.bool true) ∧ Below w.heap.size w w' := by
  have hlen : xs.length ≤ 70000 := by have := lexV_length s; rw [hx] at this; omega
  have HX := Lib.hid hx; have HP := Lib.hid hp; have HQ := Lib.hid hq
  clear hx hp hq
  go_enter Tryd.func15, Tryd.ntmps15
  go_wp2_with (go_at_call 8; refine (of_at L s hs xs 0 0 HX.out (by rw [HP.out]; rfl) (by rw [HQ.out]; rfl) _ hL).mono ?_; rintro e w' ⟨v, rfl, hv, hb⟩)
  refine (same_any v u xs hlen _ _ _ hv (hu.below hb)).mono ?_
  rintro e w' ⟨rfl, n, rfl⟩
  go_wp2
  go_ret
  exact ⟨rfl, below_drewN hb n⟩
set_option maxHeartbeats 2000000 in
/-- styluslaw03.spoilt -/
theorem spoilt_at (L : Lands) (s : ByteArray) (hs : s.size ≤ 9000) (p q : Int) (hx : lexV s = []) (hp : ((lexAt s : Nat) : Int) = p) (hq : ((lexE s : Nat) : Int) = q) (w : World) (hL : Ka.Laid w) :
    Calls Tryd.prog 16 #[.string s, .int .i64 p, .int .i64 q] w fun e w' => e = .returned (.bool true) ∧ Below w.heap.size w w' := by
  have HX := Lib.hid hx; have HP := Lib.hid hp; have HQ := Lib.hid hq
  clear hx hp hq
  go_enter Tryd.func16, Tryd.ntmps16
  go_wp2_with (go_at_call 8; refine (of_at L s hs [] p q HX.out HP.out HQ.out _ hL).mono ?_; rintro e w' ⟨v, rfl, ⟨A, c, rfl, -⟩, hb⟩)
  go_ret
  exact ⟨rfl, hb⟩
end Go.Proofs.YtgdealdpphcamaaDoor.Lx
