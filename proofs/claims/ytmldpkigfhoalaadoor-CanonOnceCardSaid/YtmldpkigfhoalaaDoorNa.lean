/-
  Put together: NuA, NuB, NuC, NuD, NuE, NuF, NuG.
-/
import Derived.Test.YtmldpkigfhoalaaDoorTrD
import Derived.Test.YtmldpkigfhoalaaDoorVa
import Derived.Deep.AppendLies
import Derived.Deep.RegionLaw
import Derived.Test.YtmldpkigfhoalaaDoorVg
import Derived.Deep.DeepCutAuto
namespace Go.Proofs.YtmldpkigfhoalaaDoor.Nu
open Go.RowKit Tr

/-- A kind is a flow's. -/
def flowedK (k : Nat) : Bool := k == 49 || k == 50 || k == 51 || k == 112 || k == 105 || k == 99 || k == 110

/-- The place of the flow in which node a is, looked for below place n; -1: in none. -/
def flowF (t : List Nd) (a : Nat) : Nat → Int
  | 0 => -1
  | n + 1 => match t[n]? with
    | some x => if flowedK x.kind = true ∧ (a : Int) < (n : Int) + x.size then (n : Int) else flowF t a n
    | none => flowF t a n
theorem flowF_succ {t : List Nd} {a m : Nat} {x : Nd} (hx : t[m]? = some x) : flowF t a (m + 1) = if flowedK x.kind = true ∧ (a : Int) < (m : Int) + x.size then (m : Int) else flowF t a m := by
  rw [flowF, hx]
def flowV (t : List Nd) (a : Nat) : Int := flowF t a a
theorem flowF_lt (t : List Nd) (a : Nat) : ∀ n, -1 ≤ flowF t a n ∧ flowF t a n < (n : Int)
  | 0 => by unfold flowF; omega
  | n + 1 => by
    have ih := flowF_lt t a n
    unfold flowF
    cases t[n]? with
    | none => simp only []; omega
    | some x => simp only []; split <;> omega

end Go.Proofs.YtmldpkigfhoalaaDoor.Nu
namespace Go.Proofs.YtmldpkigfhoalaaDoor.Nu
open Go.RowKit Tr

/-- A byte of a flow's texts: what it is, in which node, its place there. -/
structure Sp where
  c : Nat
  node : Nat
  place : Nat
def cS (x : Sp) : List Value := [.int .u8 (x.c : Int), .int .i64 (x.node : Int), .int .i64 (x.place : Int)]
theorem cS_len (x : Sp) : (cS x).length = 3 := rfl
/-- What byte k of a text gives. -/
def spAt (i : Nat) (s : ByteArray) (k : Nat) : List Sp :=
  if Lx.white (Lx.bAt s k) = false then [⟨Lx.bAt s k, i, k⟩] else if k = 0 ∨ Lx.white (Lx.bAt s (k - 1)) = false then [⟨32, i, k⟩] else []
def textSp (i : Nat) (s : ByteArray) (k : Nat) : List Sp := (List.range k).flatMap (spAt i s)
theorem textSp_succ (i : Nat) (s : ByteArray) (k : Nat) : textSp i s (k + 1) = textSp i s k ++ spAt i s k := by
  unfold textSp; rw [List.range_succ, List.flatMap_append]; simp
theorem spAt_len (i : Nat) (s : ByteArray) (k : Nat) : (spAt i s k).length ≤ 1 := by
  unfold spAt
  repeat' split
  all_goals simp
theorem textSp_len (i : Nat) (s : ByteArray) : ∀ k, (textSp i s k).length ≤ k
  | 0 => by simp [textSp]
  | k + 1 => by rw [textSp_succ, List.length_append]; have := textSp_len i s k; have := spAt_len i s k; omega
/-- What node i gives to flow f. -/
def nodeSp (t : List Nd) (f i : Nat) : List Sp :=
  match t[i]? with
  | some x => if f < i ∧ x.kind = 46 ∧ flowV t i = (f : Int) then textSp i x.text x.text.size else []
  | none => []
def spotsF (t : List Nd) (f n : Nat) : List Sp := (List.range n).flatMap (nodeSp t f)
theorem spotsF_succ (t : List Nd) (f n : Nat) : spotsF t f (n + 1) = spotsF t f n ++ nodeSp t f n := by
  unfold spotsF; rw [List.range_succ, List.flatMap_append]; simp
theorem spotsF_first (t : List Nd) (f : Nat) : ∀ n, n ≤ f + 1 → spotsF t f n = []
  | 0, _ => rfl
  | n + 1, h => by
    rw [spotsF_succ, spotsF_first t f n (by omega), List.nil_append]
    unfold nodeSp
    cases t[n]? with
    | none => rfl
    | some x => simp only []; rw [if_neg (fun h' => by omega)]
theorem spotsF_len {t : List Nd} (hx : ∀ x ∈ t, x.text.size ≤ 9000) (f : Nat) : ∀ n, (spotsF t f n).length ≤ n * 9000
  | 0 => by simp [spotsF]
  | n + 1 => by
    rw [spotsF_succ, List.length_append]
    have h1 := spotsF_len hx f n
    have h2 : (nodeSp t f n).length ≤ 9000 := by
      unfold nodeSp
      cases h : t[n]? with
      | none => simp
      | some x =>
        simp only []
        split
        · have := textSp_len n x.text x.text.size; have := hx x (List.mem_of_getElem? h); omega
        · simp
    omega
/-- The bytes of flow f's texts. -/
def spotsV (t : List Nd) (f : Nat) : List Sp := match t[f]? with | some x => spotsF t f (f + x.size.toNat) | none => []

end Go.Proofs.YtmldpkigfhoalaaDoor.Nu
namespace Go.Proofs.YtmldpkigfhoalaaDoor.Nu
open Go.RowKit Tr

def blackS (x : Sp) : Bool := decide (x.c ≠ 32)
/-- The last one's byte; a space, if there is none. -/
def lastC (l : List Sp) : Nat := (l.getLast?.map Sp.c).getD 32
/-- What place n gives, if this has been kept so far. -/
def keepAt (l : List Sp) (n : Nat) (out : List Sp) : List Sp :=
  match l[n]? with
  | some x => if x.c ≠ 32 then [x] else if lastC out ≠ 32 ∧ (l.drop n).any blackS = true then [x] else []
  | none => []
def keptN (l : List Sp) : Nat → List Sp
  | 0 => []
  | n + 1 => keptN l n ++ keepAt l n (keptN l n)
def keptV (l : List Sp) : List Sp := keptN l l.length
theorem keptN_len (l : List Sp) : ∀ n, (keptN l n).length ≤ n
  | 0 => by simp [keptN]
  | n + 1 => by
    unfold keptN
    rw [List.length_append]
    have h1 := keptN_len l n
    have h2 : (keepAt l n (keptN l n)).length ≤ 1 := by
      unfold keepAt
      repeat' split
      all_goals simp
    omega
theorem keptN_black {l : List Sp} {n : Nat} {x : Sp} (hx : l[n]? = some x) (h : x.c ≠ 32) : keptN l (n + 1) = keptN l n ++ [x] := by
  rw [keptN]; unfold keepAt; rw [hx]; simp only []; rw [if_pos h]
theorem keptN_space {l : List Sp} {n : Nat} {x : Sp} (hx : l[n]? = some x) (h : x.c = 32) (h1 : lastC (keptN l n) ≠ 32) (h2 : (l.drop n).any blackS = true) : keptN l (n + 1) = keptN l n ++ [x] := by
  rw [keptN]; unfold keepAt; rw [hx]; simp only []; rw [if_neg (by omega), if_pos ⟨h1, h2⟩]
theorem keptN_gone {l : List Sp} {n : Nat} {x : Sp} (hx : l[n]? = some x) (h : x.c = 32) (h1 : ¬ (lastC (keptN l n) ≠ 32 ∧ (l.drop n).any blackS = true)) : keptN l (n + 1) = keptN l n := by
  rw [keptN]; unfold keepAt; rw [hx]; simp only []; rw [if_neg (by omega), if_neg h1, List.append_nil]
/-- How many of the places from i up to k are no spaces. -/
def blackN (l : List Sp) (i k : Nat) : Nat := (((l.take k).drop i).filter blackS).length
theorem blackN_first (l : List Sp) (i : Nat) : blackN l i i = 0 := by
  unfold blackN; rw [List.drop_of_length_le (by rw [List.length_take]; omega)]; rfl
theorem blackN_succ {l : List Sp} {i k : Nat} {x : Sp} (h : i ≤ k) (hx : l[k]? = some x) : blackN l i (k + 1) = blackN l i k + if x.c ≠ 32 then 1 else 0 := by
  have hk := (List.getElem?_eq_some_iff.1 hx).1
  unfold blackN
  rw [List.take_add_one, hx, List.drop_append_of_le_length (by rw [List.length_take]; omega), List.filter_append, List.length_append]
  by_cases hc : x.c = 32 <;> simp [blackS, hc]
theorem blackN_le (l : List Sp) (i k : Nat) : blackN l i k ≤ k := by
  unfold blackN
  refine Nat.le_trans (List.length_filter_le _ _) ?_
  rw [List.length_drop, List.length_take]; omega
theorem blackN_any (l : List Sp) (i : Nat) : 0 < blackN l i l.length ↔ (l.drop i).any blackS = true := by
  unfold blackN
  rw [List.take_length, List.any_eq_true, List.length_pos_iff_exists_mem]
  constructor
  · rintro ⟨x, hx⟩
    rw [List.mem_filter] at hx
    exact ⟨x, hx.1, hx.2⟩
  · rintro ⟨x, h1, h2⟩
    exact ⟨x, List.mem_filter.2 ⟨h1, h2⟩⟩
theorem lastC_at {l : List Sp} {r : Nat} {x : Sp} (h : l.length = r + 1) (hx : l[r]? = some x) : lastC l = x.c := by
  unfold lastC
  rw [List.getLast?_eq_getElem?, h, Nat.add_sub_cancel, hx]; rfl
abbrev ReadsS (w : World) (B : Nat) (v : Value) (l : List Sp) : Prop := Ba.Reads cS 3 0 w B v l

end Go.Proofs.YtmldpkigfhoalaaDoor.Nu
namespace Go.Proofs.YtmldpkigfhoalaaDoor.Nu
open Go.RowKit Tr

theorem nu_some {α : Type} {l : List α} {i : Nat} (hi : i < l.length) : ∃ b, l[i]? = some b := ⟨_, List.getElem?_eq_getElem hi⟩
theorem nu_modify {α : Type} {l : List α} {i : Nat} {b : α} (hb : l[i]? = some b) (f : α → α) : l.set i (f b) = l.modify i f := by
  apply List.ext_getElem?
  intro j
  rw [List.getElem?_set, List.getElem?_modify]
  by_cases h : i = j
  · subst h
    have := (List.getElem?_eq_some_iff.1 hb).1
    rw [if_pos rfl, if_pos this, hb]; simp
  · rw [if_neg h]; simp only [if_neg h]; cases l[j]? <;> rfl
def noText (x : Nd) : Nd := { x with text := emptyS }
def blankN (t : List Nd) : Nat → List Nd
  | 0 => t
  | n + 1 => match t[n]? with
    | some x => if x.kind = 46 then (blankN t n).modify n noText else blankN t n
    | none => blankN t n
def placeAt (t : List Nd) (i : Nat) : Int := match t[i]? with | some x => x.place | none => 0
def putSp (t : List Nd) (s : Sp) (x : Nd) : Nd := { x with text := x.text ++ oneS s.c, place := if x.text.size = 0 then wrap64 (placeAt t s.node + (s.place : Int)) else x.place }
def addSp (t : List Nd) (out : List Nd) (s : Sp) : List Nd := out.modify s.node (putSp t s)
def flowSp (t : List Nd) (i : Nat) : List Sp := keptV (spotsV t i)
def textsN (t : List Nd) : Nat → List Nd
  | 0 => blankN t t.length
  | n + 1 => match t[n]? with
    | some x => if flowedK x.kind = true then (flowSp t n).foldl (addSp t) (textsN t n) else textsN t n
    | none => textsN t n
def textsV (t : List Nd) : List Nd := textsN t t.length
theorem blankN_len (t : List Nd) : ∀ n, (blankN t n).length = t.length
  | 0 => rfl
  | n + 1 => by
    unfold blankN
    cases t[n]? with
    | none => exact blankN_len t n
    | some x => simp only []; split <;> simp [blankN_len t n]
theorem addSp_len (t : List Nd) : ∀ (l : List Sp) (out : List Nd), (l.foldl (addSp t) out).length = out.length
  | [], _ => rfl
  | s :: l, out => by rw [List.foldl_cons, addSp_len t l]; simp [addSp]
theorem textsN_len (t : List Nd) : ∀ n, (textsN t n).length = t.length
  | 0 => blankN_len t _
  | n + 1 => by
    unfold textsN
    cases t[n]? with
    | none => exact textsN_len t n
    | some x =>
      simp only []
      split
      · rw [addSp_len]; exact textsN_len t n
      · exact textsN_len t n
/-- A row of nodes of its own: one cell of one node set. -/
theorem own_set {w : World} {N g k c i : Nat} {l : List Nd} (own : w.ownsRow N 37 4 (.slice (some ⟨g, 0, none⟩) k c) k (Ba.rows cN l)) {x : Nd} (hx : l[i]? = some x) (j : Nat) (hj : j < 4) (f : Nd → Nd) (v : Value) (hf : (cN x).set j v = cN (f x)) (hNg : N ≤ g) :
    (w.setCell ⟨g, i * 4 + j, none⟩ v).ownsRow N 37 4 (.slice (some ⟨g, 0, none⟩) k c) k (Ba.rows cN (l.modify i f)) ∧ Below N w (w.setCell ⟨g, i * 4 + j, none⟩ v) := by
  refine ⟨?_, (Below.refl N w).setCell (p := ⟨g, i * 4 + j, none⟩) hNg _⟩
  rw [← nu_modify hx, ← Ba.rows_set cN cN_len l i x (f x) hx j v hj hf]
  exact (own.stored _ _).1
theorem own_cells {w : World} {N g k c i : Nat} {l : List Nd} (hk : l.length = k) (own : w.ownsRow N 37 4 (.slice (some ⟨g, 0, none⟩) k c) k (Ba.rows cN l)) {x : Nd} (hx : l[i]? = some x) :
    w.cell? ⟨g, i * 4, none⟩ = some (.int .u8 (x.kind : Int)) ∧ w.cell? ⟨g, i * 4 + 1, none⟩ = some (.string x.text) ∧ w.cell? ⟨g, i * 4 + 2, none⟩ = some (.int .i64 x.place) ∧ w.cell? ⟨g, i * 4 + 3, none⟩ = some (.int .i64 x.size) := by
  have hi := (List.getElem?_eq_some_iff.1 hx).1
  have key : ∀ j, j < 4 → w.cell? ⟨g, i * 4 + j, none⟩ = (cN x)[j]? := fun j hj => by
    rw [own.cellAt _ (by omega), Ba.rows_at cN cN_len _ _ _ hx j hj]
  exact ⟨key 0 (by omega), key 1 (by omega), key 2 (by omega), key 3 (by omega)⟩
/-- What is kept of a flow stands in nodes of the row. -/
theorem spAt_in {i : Nat} {s : ByteArray} {k : Nat} {x : Sp} (h : x ∈ spAt i s k) : x.c < 256 ∧ x.node = i ∧ x.place = k := by
  unfold spAt at h
  split at h
  · rw [List.mem_singleton] at h; subst h; exact ⟨Lx.bAt_lt _ _, rfl, rfl⟩
  · split at h
    · rw [List.mem_singleton] at h; subst h; exact ⟨by show (32 : Nat) < 256; omega, rfl, rfl⟩
    · cases h
theorem nodeSp_in {t : List Nd} {f i : Nat} {x : Sp} (h : x ∈ nodeSp t f i) : x.c < 256 ∧ x.node = i ∧ i < t.length ∧ ∃ y, t[i]? = some y ∧ x.place < y.text.size := by
  unfold nodeSp at h
  cases hy : t[i]? with
  | none => rw [hy] at h; cases h
  | some y =>
    rw [hy] at h
    simp only [] at h
    split at h
    · unfold textSp at h
      obtain ⟨k, hk, hx⟩ := List.mem_flatMap.1 h
      obtain ⟨a, b, c⟩ := spAt_in hx
      exact ⟨a, b, (List.getElem?_eq_some_iff.1 hy).1, y, rfl, by rw [c]; exact List.mem_range.1 hk⟩
    · cases h
theorem spotsV_in {t : List Nd} {f : Nat} {x : Sp} (h : x ∈ spotsV t f) : x.c < 256 ∧ x.node < t.length ∧ ∃ y, t[x.node]? = some y ∧ x.place < y.text.size := by
  unfold spotsV at h
  cases hy : t[f]? with
  | none => rw [hy] at h; cases h
  | some y =>
    rw [hy] at h
    obtain ⟨i, -, hx⟩ := List.mem_flatMap.1 h
    obtain ⟨a, b, c, d⟩ := nodeSp_in hx
    exact ⟨a, by omega, by rw [b]; exact d⟩
theorem keepAt_in {l : List Sp} {n : Nat} {out : List Sp} {x : Sp} (h : x ∈ keepAt l n out) : x ∈ l := by
  unfold keepAt at h
  cases hy : l[n]? with
  | none => rw [hy] at h; cases h
  | some y =>
    rw [hy] at h
    simp only [] at h
    have hm := List.mem_of_getElem? hy
    split at h
    · rw [List.mem_singleton] at h; subst h; exact hm
    · split at h
      · rw [List.mem_singleton] at h; subst h; exact hm
      · cases h
theorem keptN_in {l : List Sp} {x : Sp} : ∀ n, x ∈ keptN l n → x ∈ l
  | 0, h => by cases h
  | n + 1, h => by
    rw [keptN] at h
    rcases List.mem_append.1 h with h | h
    · exact keptN_in n h
    · exact keepAt_in h
theorem flowSp_in {t : List Nd} {f : Nat} {x : Sp} (h : x ∈ flowSp t f) : x.c < 256 ∧ x.node < t.length ∧ ∃ y, t[x.node]? = some y ∧ x.place < y.text.size := spotsV_in (keptN_in _ h)
theorem spotsV_len {t : List Nd} (hx : ∀ x ∈ t, x.text.size ≤ 9000 ∧ x.size ≤ 70000) (f : Nat) (hf : f ≤ 9000) : (spotsV t f).length ≤ 720000000 := by
  unfold spotsV
  cases h : t[f]? with
  | none => simp
  | some y =>
    simp only []
    have h1 := spotsF_len (fun x h => (hx x h).1) f (f + y.size.toNat)
    have h2 := (hx y (List.mem_of_getElem? h)).2
    omega
end Go.Proofs.YtmldpkigfhoalaaDoor.Nu
namespace Go.Proofs.YtmldpkigfhoalaaDoor.Nu
open Go.RowKit Tr

theorem own_put {w : World} {N g k c i : Nat} {l : List Nd} (own : w.ownsRow N 37 4 (.slice (some ⟨g, 0, none⟩) k c) k (Ba.rows cN l)) {x x' : Nd} (hx : l[i]? = some x) (j : Nat) (hj : j < 4) (v : Value) (hf : (cN x).set j v = cN x') (hNg : N ≤ g) :
    (w.setCell ⟨g, i * 4 + j, none⟩ v).ownsRow N 37 4 (.slice (some ⟨g, 0, none⟩) k c) k (Ba.rows cN (l.set i x')) ∧ Below N w (w.setCell ⟨g, i * 4 + j, none⟩ v) := by
  refine ⟨?_, (Below.refl N w).setCell (p := ⟨g, i * 4 + j, none⟩) hNg _⟩
  rw [← Ba.rows_set cN cN_len l i x x' hx j v hj hf]
  exact (own.stored _ _).1
theorem addSp_bound (t : List Nd) : ∀ (l : List Sp) (out : List Nd) (B : Nat), (∀ y ∈ out, y.text.size ≤ B) → ∀ y ∈ l.foldl (addSp t) out, y.text.size ≤ B + l.length
  | [], _, _, h => fun y hy => by simpa using h y hy
  | s :: l, out, B, h => fun y hy => by
    rw [List.foldl_cons] at hy
    have := addSp_bound t l (addSp t out s) (B + 1) (fun z hz => by
      obtain ⟨j, hj⟩ := List.mem_iff_getElem?.1 hz
      unfold addSp at hj
      rw [List.getElem?_modify] at hj
      obtain ⟨u, hu, he⟩ := Option.map_eq_some_iff.1 hj
      have hb := h u (List.mem_of_getElem? hu)
      by_cases hjj : s.node = j
      · rw [if_pos hjj] at he; subst he
        show (u.text ++ oneS s.c).size ≤ B + 1
        rw [ByteArray.size_append, show (oneS s.c).size = 1 from Lx.bytesOf_size _]; omega
      · rw [if_neg hjj] at he; subst he; show u.text.size ≤ B + 1; omega) y hy
    rw [List.length_cons]; omega
theorem blankN_bound {t : List Nd} {B : Nat} (h : ∀ y ∈ t, y.text.size ≤ B) : ∀ n, ∀ y ∈ blankN t n, y.text.size ≤ B
  | 0 => h
  | n + 1 => fun y hy => by
    unfold blankN at hy
    have ih := blankN_bound h n
    cases hx : t[n]? with
    | none => rw [hx] at hy; exact ih y hy
    | some x =>
      rw [hx] at hy
      simp only [] at hy
      split at hy
      · obtain ⟨j, hj⟩ := List.mem_iff_getElem?.1 hy
        rw [List.getElem?_modify] at hj
        obtain ⟨u, hu, he⟩ := Option.map_eq_some_iff.1 hj
        have hb := ih u (List.mem_of_getElem? hu)
        by_cases hjj : n = j
        · rw [if_pos hjj] at he; subst he; show (0 : Nat) ≤ B; omega
        · rw [if_neg hjj] at he; subst he; exact hb
      · exact ih y hy
/-- Rows whose sizes are a tree's. -/
def Sized (t : List Nd) : Prop := ∀ (i : Nat) (x : Nd), t[i]? = some x → x.kind < 256 ∧ x.text.size ≤ 9000 ∧ ∃ z : Nat, x.size = (z : Int) ∧ 1 ≤ z ∧ i + z ≤ t.length
theorem flowSp_len {t : List Nd} (h : Sized t) (f : Nat) : (flowSp t f).length ≤ t.length * 9000 := by
  refine Nat.le_trans (keptN_len _ _) ?_
  unfold spotsV
  cases hy : t[f]? with
  | none => simp
  | some y =>
    simp only []
    obtain ⟨-, -, z, hz, -, hfz⟩ := h f y hy
    have h1 := spotsF_len (fun x hx => by obtain ⟨j, hj⟩ := List.mem_iff_getElem?.1 hx; exact (h j x hj).2.1) f (f + y.size.toNat)
    rw [hz, Int.toNat_natCast] at h1 ⊢
    exact Nat.le_trans h1 (Nat.mul_le_mul_right _ hfz)
theorem textsN_bound {t : List Nd} (h : Sized t) {K E : Nat} (hK : t.length * 9000 ≤ K) (hE : 9000 ≤ E) : ∀ n, ∀ y ∈ textsN t n, y.text.size ≤ E + n * K
  | 0 => fun y hy => by
    have := blankN_bound (t := t) (B := E) (fun x hx => by obtain ⟨j, hj⟩ := List.mem_iff_getElem?.1 hx; exact Nat.le_trans (h j x hj).2.1 hE) t.length y hy
    rw [Nat.zero_mul]; exact this
  | n + 1 => fun y hy => by
    have hm : (n + 1) * K = n * K + K := Nat.succ_mul n K
    rw [textsN] at hy
    have ih := textsN_bound h hK hE n
    cases hx : t[n]? with
    | none => rw [hx] at hy; have := ih y hy; omega
    | some x =>
      rw [hx] at hy
      simp only [] at hy
      split at hy
      · have h1 := addSp_bound t (flowSp t n) (textsN t n) (E + n * K) ih y hy
        have h2 := flowSp_len h n
        omega
      · have := ih y hy; omega
theorem fold_take {t : List Nd} {L : List Sp} {k : Nat} {s : Sp} (hs : L[k]? = some s) (out : List Nd) : (L.take (k + 1)).foldl (addSp t) out = addSp t ((L.take k).foldl (addSp t) out) s := by
  rw [List.take_add_one, hs, Option.toList_some, List.foldl_append]; rfl
def TextsTo (t : List Nd) (w : World) (e : Ending) (w' : World) : Prop := ∃ v, e = .returned v ∧ w'.ownsRow w.heap.size 37 4 v t.length (Ba.rows cN (textsV t)) ∧ Below w.heap.size w w'
/-- Between two rounds: the row of its own holds these nodes. -/
def TxR (w : World) (V : Value) (m : Nat) (out : List Nd) (wr : World) : Prop := wr.ownsRow w.heap.size 37 4 V m (Ba.rows cN out) ∧ Below w.heap.size w wr
/-- The inner loop: so many bytes are put; all but the row of its own lies as it did. -/
def TxI (w : World) (go : Nat) (V : Value) (m : Nat) (t : List Nd) (L : List Sp) (out : List Nd) (w3 : World) (u7 : Value) (wi : World) : Prop := ∃ k : Nat, u7 = .int .i64 k ∧ k ≤ L.length ∧ TxR w V m ((L.take k).foldl (addSp t) out) wi ∧ (∀ b, b < w3.heap.size → b ≠ go → wi.heap[b]? = w3.heap[b]?) ∧ w3.heap.size ≤ wi.heap.size

/-- Between the two stores of a round. -/
def Tx17 (w : World) (go : Nat) (V : Value) (m : Nat) (out : List Nd) (w3 wx : World) : Prop := wx.ownsRow w.heap.size 37 4 V m (Ba.rows cN out) ∧ Below w.heap.size w wx ∧ (∀ b, b < w3.heap.size → b ≠ go → wx.heap[b]? = w3.heap[b]?) ∧ w3.heap.size ≤ wx.heap.size
/-- Behind the store of a text, whose new byte lay in a block of its own. -/
theorem tx_end {w W w3 : World} {go n cap : Nat} {out : List Nd} (own : W.ownsRow w.heap.size 37 4 (.slice (some ⟨go, 0, none⟩) n cap) n (Ba.rows cN out)) (hB : Below w.heap.size w W) (hf : ∀ b, b < w3.heap.size → b ≠ go → W.heap[b]? = w3.heap[b]?) (hs : w3.heap.size ≤ W.heap.size) (o : Obj) :
    TxR w (.slice (some ⟨go, 0, none⟩) n cap) n out (W.alloc o).drew ∧ (∀ b, b < w3.heap.size → b ≠ go → (W.alloc o).drew.heap[b]? = w3.heap[b]?) ∧ w3.heap.size ≤ (W.alloc o).drew.heap.size :=
  ⟨⟨Lx.own_below own (Lx.below_drewN ((Below.refl _ _).alloc (Nat.le_refl _) _) 1), Lx.below_drewN (hB.alloc hB.size _) 1⟩,
    fun b hb hbg => (Below.heap_alloc W o b (by omega)).trans (hf b hb hbg), Nat.le_trans hs (by show W.heap.size ≤ (W.alloc o).heap.size; simp)⟩

end Go.Proofs.YtmldpkigfhoalaaDoor.Nu
namespace Go.Proofs.YtmldpkigfhoalaaDoor.Nu
open Go.RowKit Tr

def decS (x : Nd) : Nd := { x with size := x.size - 1 }
def decN (t : List Nd) (a : Nat) : Nat → List Nd
  | 0 => t.take a
  | n + 1 => match t[n]? with
    | some x => if (a : Int) < (n : Int) + x.size then (decN t a n).modify n decS else decN t a n
    | none => decN t a n
def withoutV (t : List Nd) (a : Nat) : List Nd := decN t a a ++ t.drop (a + 1)
theorem decN_len (t : List Nd) (a : Nat) : ∀ n, (decN t a n).length = min a t.length
  | 0 => by simp [decN]
  | n + 1 => by
    unfold decN
    cases t[n]? with
    | none => exact decN_len t a n
    | some x => simp only []; split <;> simp [decN_len t a n]
theorem decN_far (t : List Nd) (a : Nat) : ∀ n j, n ≤ j → j < a → (decN t a n)[j]? = t[j]?
  | 0, j, _, h => by unfold decN; rw [List.getElem?_take, if_pos h]
  | n + 1, j, h1, h2 => by
    have ih := decN_far t a n j (by omega) h2
    unfold decN
    cases t[n]? with
    | none => exact ih
    | some x =>
      simp only []
      split
      · rw [List.getElem?_modify]
        simp only [if_neg (show ¬ n = j by omega)]
        rw [ih]; cases t[j]? <;> rfl
      · exact ih
def WithTo (t : List Nd) (a m : Nat) (w : World) (e : Ending) (w' : World) : Prop := ∃ v, e = .returned v ∧ w'.ownsRow w.heap.size 37 4 v (m - 1) (Ba.rows cN (withoutV t a)) ∧ Below w.heap.size w w'
theorem nu_news {t : List Nd} {off g : Nat} {w : World} (hcell : ∀ k x, t[k]? = some x → ∀ j u, (cN x)[j]? = some u → w.cell? ⟨g, off + (k * 4 + j), none⟩ = some u) : ∀ j u, (Ba.rows cN t)[j]? = some u → w.cell? ((⟨g, off, none⟩ : Addr).add j) = some u := fun j u hu => by
  have hj : j < (Ba.rows cN t).length := (List.getElem?_eq_some_iff.1 hu).1
  rw [Ba.rows_length cN cN_len] at hj
  have e := Ba.rows_at cN cN_len t (j / 4) _ (List.getElem?_eq_getElem (by omega)) (j % 4) (Nat.mod_lt _ (by omega))
  have e2 : j / 4 * 4 + j % 4 = j := by omega
  rw [e2, hu] at e
  have := hcell (j / 4) _ (List.getElem?_eq_getElem (by omega)) (j % 4) u e.symm
  rw [e2] at this
  have e3 : (⟨g, off, none⟩ : Addr).add j = ⟨g, off + j, none⟩ := by unfold Addr.add; split <;> simp_all
  rw [e3]; exact this
theorem nu_one (t : List Nd) : ∀ u ∈ Ba.rows cN t, u.oneCell' = true := fun u hu => by
  unfold Ba.rows at hu
  rw [List.mem_flatMap] at hu
  obtain ⟨x, _, hx⟩ := hu
  simp [cN] at hx
  rcases hx with rfl | rfl | rfl | rfl <;> rfl
theorem cells_take {t : List Nd} {off g a : Nat} {w : World} (hcell : ∀ k x, t[k]? = some x → ∀ j u, (cN x)[j]? = some u → w.cell? ⟨g, off + (k * 4 + j), none⟩ = some u) : ∀ k x, (t.take a)[k]? = some x → ∀ j u, (cN x)[j]? = some u → w.cell? ⟨g, off + (k * 4 + j), none⟩ = some u := fun k x hx => by
  rw [List.getElem?_take] at hx
  split at hx
  · exact hcell k x hx
  · cases hx
theorem cells_drop {t : List Nd} {off g a : Nat} {w : World} (hcell : ∀ k x, t[k]? = some x → ∀ j u, (cN x)[j]? = some u → w.cell? ⟨g, off + (k * 4 + j), none⟩ = some u) : ∀ k x, (t.drop a)[k]? = some x → ∀ j u, (cN x)[j]? = some u → w.cell? ⟨g, off + a * 4 + (k * 4 + j), none⟩ = some u := fun k x hx j u hu => by
  rw [List.getElem?_drop] at hx
  have := hcell (a + k) x hx j u hu
  rw [Nat.add_mul] at this
  rw [show off + a * 4 + (k * 4 + j) = off + (a * 4 + k * 4 + j) by omega]; exact this

end Go.Proofs.YtmldpkigfhoalaaDoor.Nu
namespace Go.Proofs.YtmldpkigfhoalaaDoor.Nu
open Go.RowKit Tr

/-- The place of the innermost node around node a, looked for below place n; -1: none. -/
def parF (t : List Nd) (a : Nat) : Nat → Int
  | 0 => -1
  | n + 1 => match t[n]? with
    | some x => if (a : Int) < (n : Int) + x.size then (n : Int) else parF t a n
    | none => parF t a n
def parV (t : List Nd) (a : Nat) : Int := parF t a a
theorem parF_succ {t : List Nd} {a m : Nat} {x : Nd} (hx : t[m]? = some x) : parF t a (m + 1) = if (a : Int) < (m : Int) + x.size then (m : Int) else parF t a m := by
  rw [parF, hx]

end Go.Proofs.YtmldpkigfhoalaaDoor.Nu
