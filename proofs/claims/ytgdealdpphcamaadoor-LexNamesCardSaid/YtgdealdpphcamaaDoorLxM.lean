/-
  What a source is read as: plain facts. No program stands in it but for its name.
-/
import Derived.Test.YtgdealdpphcamaaDoorKaB
namespace Go.Proofs.YtgdealdpphcamaaDoor.Lx
open Go.RowKit

theorem ret_ib {k : IntKind} {a b : Int} {x y : Bool} (h : a = b) (h' : x = y) : Ending.returned (.tuple #[.int k a, .bool x]) = .returned (.tuple #[.int k b, .bool y]) := by rw [h, h']
theorem chain {B : Nat} {a b c : World} (h : Below B a b) (hB : B ≤ b.heap.size) (k : Below b.heap.size b c) : Below B a c := h.trans (k.mono hB)

def emptyS : ByteArray := ⟨#[]⟩
def bytesOf (l : List Nat) : ByteArray := ⟨(l.map UInt8.ofNat).toArray⟩
theorem bytesOf_size (l : List Nat) : (bytesOf l).size = l.length := by
  show ((l.map UInt8.ofNat).toArray).size = _
  simp
def bytesN (s : ByteArray) : List Nat := s.data.toList.map UInt8.toNat
theorem bytesN_len (s : ByteArray) : (bytesN s).length = s.size := by unfold bytesN; rw [List.length_map, Array.length_toList]; rfl
def bAt (s : ByteArray) (i : Nat) : Nat := (bytesN s).getD i 0
theorem bAt_lt (s : ByteArray) (i : Nat) : bAt s i < 256 := by
  unfold bAt bytesN
  rw [List.getD_eq_getElem?_getD, List.getElem?_map]
  cases h : s.data.toList[i]? with
  | none => simp
  | some x => simpa using UInt8.toNat_lt x
theorem bAt_get (s : ByteArray) (k : Nat) (h : k < s.size) : s[k].toNat = bAt s k := by
  unfold bAt bytesN
  have hl : k < s.data.toList.length := by simpa using h
  rw [List.getD_eq_getElem?_getD, List.getElem?_map, List.getElem?_eq_getElem hl]
  rfl
theorem bytesN_bytesOf (l : List Nat) (h : ∀ x ∈ l, x < 256) : bytesN (bytesOf l) = l := by
  unfold bytesN bytesOf
  rw [List.toList_toArray, List.map_map]
  conv => rhs; rw [← List.map_id l]
  apply List.map_congr_left
  intro x hx
  have := h x hx
  simp [Nat.mod_eq_of_lt this]
theorem bytesOf_bytesN (s : ByteArray) : bytesOf (bytesN s) = s := by
  unfold bytesN bytesOf
  rw [List.map_map]
  have : (UInt8.ofNat ∘ UInt8.toNat) = id := by funext x; simp
  rw [this, List.map_id, Array.toArray_toList]
theorem bytes_ext {s t : ByteArray} (h : bytesN s = bytesN t) : s = t := by rw [← bytesOf_bytesN s, h, bytesOf_bytesN]
theorem bytesN_ext (s : ByteArray) (f e : Nat) : bytesN (s.extract f e) = ((bytesN s).drop f).take (e - f) := by
  unfold bytesN
  rw [ByteArray.data_extract, Array.toList_extract, List.extract_eq_take_drop, List.map_take, List.map_drop]
theorem toList_ne {d d' : ByteArray} (h : d ≠ d') : (d.toList == d'.toList) = false := by
  rw [beq_eq_false_iff_ne]
  intro e
  rw [ByteArray.toList_eq, ByteArray.toList_eq] at e
  exact h (ByteArray.ext (Array.toList_inj.1 e))
theorem ext_size (s : ByteArray) (a b : Nat) (hb : b ≤ s.size) : (s.extract a b).size = b - a := by
  rw [ByteArray.size_extract]; omega

/-- The letters of names, in order. -/
def lettersL : List Nat := [49, 50, 51, 112, 108, 105, 116, 114, 99, 110, 101, 115, 107]
def lettersS : ByteArray := { data := #[49, 50, 51, 112, 108, 105, 116, 114, 99, 110, 101, 115, 107] }
def letterN (k : Nat) : Nat := lettersL.getD k 0
theorem letters_at : ∀ k : Fin 13, ((lettersS[k.val]'(k.isLt)).toNat : Int) = ((letterN k.val : Nat) : Int) := by decide +kernel
/-- The name with a letter; none: there is none. -/
def nameL (c : Nat) : List Nat := if c = 49 ∨ c = 50 ∨ c = 51 then [104, c] else if c ∈ lettersL then [c] else []
def nameS (c : Nat) : ByteArray := bytesOf (nameL c)
theorem nameL_len (c : Nat) : (nameL c).length ≤ 2 := by unfold nameL; split <;> (try split) <;> simp
theorem nameS_size (c : Nat) : (nameS c).size = (nameL c).length := bytesOf_size _
theorem letterN_lt : ∀ k : Fin 13, letterN k.val < 256 ∧ letterN k.val ≠ 0 ∧ nameL (letterN k.val) ≠ [] := by decide +kernel
theorem letter_mem : ∀ b : Fin 256, (b.val ∈ lettersL) ↔ ∃ k : Fin 13, letterN k.val = b.val := by decide +kernel
/-- The first k letters are others. -/
def NoneOf (c : Nat) (k : Nat) : Prop := ∀ j, j < k → letterN j ≠ c
theorem NoneOf.zero (c : Nat) : NoneOf c 0 := fun _ h => absurd h (by omega)
theorem NoneOf.succ {c k : Nat} (h : NoneOf c k) (hk : letterN k ≠ c) : NoneOf c (k + 1) := fun j hj => by
  rcases Nat.lt_or_ge j k with h1 | h1
  · exact h j h1
  · obtain rfl : j = k := by omega
    exact hk
theorem NoneOf.all {c : Nat} (h : NoneOf c 13) (hc : c < 256) : c ∉ lettersL := fun hm => by
  obtain ⟨k, hk⟩ := (letter_mem ⟨c, hc⟩).1 hm
  exact h k.val k.isLt hk

set_option maxHeartbeats 400000 in
/-- stylusref03.Letters -/
theorem rletters_any (w : World) : Calls Tryd.prog 14 #[] w fun e w' => e = .returned (.string lettersS) ∧ w = w' := by
  go_enter Tryd.func14, Tryd.ntmps14
  go_wp2
  go_ret
  exact ⟨rfl, rfl⟩

theorem back_one (W : World) (g : Nat) (x : Nat) (hx : x < 256) (h : W.cell? ⟨g, 0, none⟩ = some (.int .u8 (x : Int))) :
    (convert 46 9 (.slice (some ⟨g, 0, none⟩) 1 1)).run Tryd.prog W = .ok (.string (bytesOf [x])) W := by
  exact run_convert_bytes_back (P := Tryd.prog) W 46 9 5 ⟨g, 0, none⟩ 1 [UInt8.ofNat x] Tryd.underlying46 Tryd.underlying5 Tryd.underlying9 (fun j hj => by
    obtain rfl : j = 0 := by simp at hj; omega
    have e : (⟨g, 0, none⟩ : Addr).add 0 = ⟨g, 0, none⟩ := by unfold Addr.add; split <;> simp_all
    have e3 : (UInt8.ofNat x).toNat = x := by simp [Nat.mod_eq_of_lt hx]
    rw [e]
    simp only [List.getElem_cons_zero, e3, h])

set_option maxHeartbeats 2000000 in
/-- stylusref03.Name -/
theorem rname_any (c : Nat) (hc : c < 256) (w : World) :
    Calls Tryd.prog 12 #[.int .u8 (c : Int)] w fun e w' => e = .returned (.string (nameS c)) ∧ Below w.heap.size w w' := by
  have hcv := back_one (w.alloc (.cells #[.int .u8 (c : Int)] 5)) w.heap.size c hc (by simp)
  have hz : (bytesOf [c]).size ≤ 1 := by rw [bytesOf_size]; simp
  by_cases hd : c = 49 ∨ c = 50 ∨ c = 51
  · have HN := Lib.hid (show ({ data := #[104] } : ByteArray) ++ bytesOf [c] = nameS c by
      unfold nameS nameL; rw [if_pos hd]
      rcases hd with rfl | rfl | rfl <;> decide +kernel)
    have hb : Below w.heap.size w (w.alloc (.cells #[.int .u8 (c : Int)] 5)) := (Below.refl _ w).alloc (Nat.le_refl _) _
    by_cases h1 : c = 49
    · have t1 : ((c : Int) == 49) = true := beq_iff_eq.2 (by omega)
      clear hd h1
      go_enter Tryd.func12, Tryd.ntmps12
      go_wp2
      go_ret
      exact ⟨congrArg (fun z => Ending.returned (.string z)) HN.out, hb⟩
    have t1 : ((c : Int) == 49) = false := beq_eq_false_iff_ne.2 (by omega)
    by_cases h2 : c = 50
    · have t2 : ((c : Int) == 50) = true := beq_iff_eq.2 (by omega)
      clear hd h1 h2
      go_enter Tryd.func12, Tryd.ntmps12
      go_wp2
      go_ret
      exact ⟨congrArg (fun z => Ending.returned (.string z)) HN.out, hb⟩
    have t2 : ((c : Int) == 50) = false := beq_eq_false_iff_ne.2 (by omega)
    have t3 : ((c : Int) == 51) = true := beq_iff_eq.2 (by omega)
    clear hd h1 h2
    go_enter Tryd.func12, Tryd.ntmps12
    go_wp2
    go_ret
    exact ⟨congrArg (fun z => Ending.returned (.string z)) HN.out, hb⟩
  · have t1 : ((c : Int) == 49) = false := beq_eq_false_iff_ne.2 (by omega)
    have t2 : ((c : Int) == 50) = false := beq_eq_false_iff_ne.2 (by omega)
    have t3 : ((c : Int) == 51) = false := beq_eq_false_iff_ne.2 (by omega)
    have HD := Lib.hid hd
    clear hd
    go_enter Tryd.func12, Tryd.ntmps12
    go_wp2
    go_loop [3] (fun i => ∃ k : Nat, k ≤ 13 ∧ i = .int .i64 k ∧ NoneOf c k) (fun i => 13 - (intOf i).toNat)
    case atStart => exact ⟨0, by omega, rfl, NoneOf.zero c⟩
    case round =>
      obtain ⟨k, hk, rfl, hp⟩ := hrel
      by_cases hlt : k < 13
      · have hs' : k < lettersS.size := hlt
        have hm : (((lettersS[k]'hs').toNat : Nat) : Int) = ((letterN k : Nat) : Int) := letters_at ⟨k, hlt⟩
        by_cases he : letterN k = c
        · have HN := Lib.hid (show bytesOf [c] = nameS c by
            unfold nameS nameL
            rw [if_neg HD.out, if_pos ((letter_mem ⟨c, hc⟩).2 ⟨⟨k, hlt⟩, he⟩)])
          have hb : ((((lettersS[k]'hs').toNat : Nat) : Int) == (c : Int)) = true := by rw [hm, he]; simp
          have hB : Below w.heap.size w (w.alloc (.cells #[.int .u8 (c : Int)] 5)) := (Below.refl _ w).alloc (Nat.le_refl _) _
          clear hm he
          go_wp2_with (go_at_call 14; refine (rletters_any _).mono ?_; rintro e w' ⟨rfl, rfl⟩)
          go_ret
          exact ⟨congrArg (fun z => Ending.returned (.string z)) HN.out, hB⟩
        · have HP := Lib.hid (hp.succ he)
          have hb : ((((lettersS[k]'hs').toNat : Nat) : Int) == (c : Int)) = false := by rw [hm]; exact beq_eq_false_iff_ne.2 (by omega)
          clear hm he
          go_wp2_with (go_at_call 14; refine (rletters_any _).mono ?_; rintro e w' ⟨rfl, rfl⟩)
          exact ⟨⟨k + 1, by omega, by go_num, HP.out⟩, by simp [intOf]; omega⟩
      · obtain rfl : k = 13 := by omega
        have HN := Lib.hid (show emptyS = nameS c by
          unfold nameS nameL
          rw [if_neg HD.out, if_neg (hp.all hc)]; rfl)
        have hb0 : Below w.heap.size w w := Below.refl _ _
        clear hp
        go_wp2_with (go_at_call 14; refine (rletters_any _).mono ?_; rintro e w' ⟨rfl, rfl⟩)
        go_ret
        exact ⟨congrArg (fun z => Ending.returned (.string z)) HN.out, hb0⟩
end Go.Proofs.YtgdealdpphcamaaDoor.Lx
