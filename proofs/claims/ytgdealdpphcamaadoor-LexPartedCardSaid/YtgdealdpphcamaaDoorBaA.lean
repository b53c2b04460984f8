/-
  Bytes of texts, as numbers: plain facts that texts on any layer use. No program stands in it but for its name.
-/
import Derived.Test.YtgdealdpphcamaaDoorRows
import Derived.WalkKit
import Derived.WalkSpells
import Derived.WalkLawsBesides
import Derived.Lib.Hide
import Derived.Lib.IndexLaws
import Derived.OwnWalk
import Derived.RangeFuncBox
namespace Go.Proofs.YtgdealdpphcamaaDoor.Ba
open Go.RowKit

theorem ret_int {k : IntKind} {a b : Int} (h : a = b) : Ending.returned (.int k a) = .returned (.int k b) := by rw [h]
theorem ret_bool {a b : Bool} (h : a = b) : Ending.returned (.bool a) = .returned (.bool b) := by rw [h]
theorem ret_str {a b : ByteArray} (h : a = b) : Ending.returned (.string a) = .returned (.string b) := by rw [h]
theorem chain {B : Nat} {a b c : World} (h : Below B a b) (hB : B ≤ b.heap.size) (k : Below b.heap.size b c) : Below B a c := h.trans (k.mono hB)
theorem below_drewN {B : Nat} {a w : World} (h : Below B a w) (n : Nat) : Below B a (w.drewN n) := h.trans ⟨rfl, rfl, rfl, Nat.le_refl _, fun _ _ => rfl⟩
theorem own_below {W W' : World} {B e size n : Nat} {v : Value} {xs : List Value} (h : W.ownsRow B e size v n xs) (hb : Below W.heap.size W W') : W'.ownsRow B e size v n xs := by
  refine ⟨h.1, ?_⟩
  rcases h.2 with hn | ⟨g, cap, cur, hv, hbg, hg, rest⟩
  · exact .inl hn
  · exact .inr ⟨g, cap, cur, hv, hbg, (hb.block g (Array.getElem?_eq_some_iff.1 hg).1).trans hg, rest⟩
theorem keepsFrom_below {B : Nat} {W W' : World} (h : Below W.heap.size W W') : KeepsFrom B W W' := ⟨h.size, fun k _ _ hk _ => (h.block k (Array.getElem?_eq_some_iff.1 hk).1).trans hk⟩

def emptyS : ByteArray := ⟨#[]⟩
def bytesOf (l : List Nat) : ByteArray := ⟨(l.map UInt8.ofNat).toArray⟩
theorem bytesOf_size (l : List Nat) : (bytesOf l).size = l.length := by
  show ((l.map UInt8.ofNat).toArray).size = _
  simp
def bytesN (s : ByteArray) : List Nat := s.data.toList.map UInt8.toNat
theorem bytesN_len (s : ByteArray) : (bytesN s).length = s.size := by unfold bytesN; rw [List.length_map, Array.length_toList]; rfl
def bAt (s : ByteArray) (i : Nat) : Nat := (bytesN s).getD i 0
theorem bAt_lt (s : ByteArray) (i : Nat) : bAt s i < 256 := by
  unfold bAt bytesN
  rw [List.getD_eq_getElem?_getD, List.getElem?_map]
  cases h : s.data.toList[i]? with
  | none => simp
  | some x => simpa using UInt8.toNat_lt x
theorem bAt_get (s : ByteArray) (k : Nat) (h : k < s.size) : s[k].toNat = bAt s k := by
  unfold bAt bytesN
  have hl : k < s.data.toList.length := by simpa using h
  rw [List.getD_eq_getElem?_getD, List.getElem?_map, List.getElem?_eq_getElem hl]
  rfl
theorem bytesN_bytesOf (l : List Nat) (h : ∀ x ∈ l, x < 256) : bytesN (bytesOf l) = l := by
  unfold bytesN bytesOf
  rw [List.toList_toArray, List.map_map]
  conv => rhs; rw [← List.map_id l]
  apply List.map_congr_left
  intro x hx
  have := h x hx
  simp [Nat.mod_eq_of_lt this]
theorem bytesOf_bytesN (s : ByteArray) : bytesOf (bytesN s) = s := by
  unfold bytesN bytesOf
  rw [List.map_map]
  have : (UInt8.ofNat ∘ UInt8.toNat) = id := by funext x; simp
  rw [this, List.map_id, Array.toArray_toList]
theorem bytes_ext {s t : ByteArray} (h : bytesN s = bytesN t) : s = t := by rw [← bytesOf_bytesN s, h, bytesOf_bytesN]
theorem bytesN_ext (s : ByteArray) (f e : Nat) : bytesN (s.extract f e) = ((bytesN s).drop f).take (e - f) := by
  unfold bytesN
  rw [ByteArray.data_extract, Array.toList_extract, List.extract_eq_take_drop, List.map_take, List.map_drop]
theorem toList_ne {d d' : ByteArray} (h : d ≠ d') : (d.toList == d'.toList) = false := by
  rw [beq_eq_false_iff_ne]
  intro e
  rw [ByteArray.toList_eq, ByteArray.toList_eq] at e
  exact h (ByteArray.ext (Array.toList_inj.1 e))
theorem toList_is {d d' : ByteArray} (h : d = d') : (d.toList == d'.toList) = true := by rw [h]; simp
theorem ext_size (s : ByteArray) (a b : Nat) (hb : b ≤ s.size) : (s.extract a b).size = b - a := by
  rw [ByteArray.size_extract]; omega
theorem bAt_ext (s : ByteArray) (f e j : Nat) (he : e ≤ s.size) (hj : f + j < e) : bAt (s.extract f e) j = bAt s (f + j) := by
  have h1 : j < (s.extract f e).size := by rw [ByteArray.size_extract]; omega
  rw [← bAt_get _ j h1, ← bAt_get s (f + j) (by omega), ByteArray.getElem_extract]
theorem ext_all (s : ByteArray) : s.extract 0 s.size = s := by simp
theorem ext_front (s : ByteArray) (f e : Nat) (h1 : f ≤ e) (h2 : e ≤ s.size) : (s.extract f s.size).extract 0 (e - f) = s.extract f e := by
  rw [ByteArray.extract_extract]
  congr 1
  omega
theorem ext_back (s : ByteArray) (f k : Nat) (h2 : f ≤ s.size) : (s.extract f s.size).extract k (s.extract f s.size).size = s.extract (f + k) s.size := by
  rw [ByteArray.extract_extract, ext_size _ _ _ (Nat.le_refl _)]
  congr 1
  omega
theorem toList_at (t : ByteArray) (k : Nat) (h : k < t.size) : t.data.toList[k]? = some (t[k]'h) := by
  have hl : k < t.data.toList.length := by simpa using h
  rw [List.getElem?_eq_getElem hl]; rfl
end Go.Proofs.YtgdealdpphcamaaDoor.Ba
