/-
  Put together: TiC, TjM.
-/
import Derived.Test.YtalehelgemmmeaaGreatDoorSa
import Derived.Test.YtalehelgemmmeaaGreatDoorQc
import Derived.Test.YtalehelgemmmeaaGreatDoorRuG
import Derived.WalkKit
import Derived.WalkSpells
import Derived.Lib.Hide
import Derived.Maps.OwnOps
import Derived.Maps.Views
import Derived.Maps.OwnSet
import Derived.DeepKeys4
import Derived.StringKeys
namespace Go.Proofs.YtalehelgemmmeaaGreatDoor.Ti
open Go.RowKit Ba Ru Ck

/-- What finding answers: the number and true, or 0 and false. -/
def numV (o : Option Nat) : Int := match o with | some k => ((k : Nat) : Int) | none => 0
def okV (o : Option Nat) : Bool := o.isSome
theorem first_here {l : List Rl} {p : Rl → Bool} {k : Nat} {x : Rl} (hk : l[k]? = some x) (hN : ∀ y ∈ l.take k, p y = false) (hp : p x = true) : l.findIdx? p = some k := by
  obtain ⟨hl, rfl⟩ := List.getElem?_eq_some_iff.1 hk
  rw [List.findIdx?_eq_some_iff_getElem]
  refine ⟨hl, hp, fun j hj => ?_⟩
  intro h
  rw [hN _ (List.mem_of_getElem? (i := j) (by rw [List.getElem?_take, if_pos hj]; exact List.getElem?_eq_getElem (by omega)))] at h
  cases h
theorem first_step {l : List Rl} {p : Rl → Bool} {k : Nat} {x : Rl} (hk : l[k]? = some x) (hN : ∀ y ∈ l.take k, p y = false) (hp : p x = false) : ∀ y ∈ l.take (k + 1), p y = false := by
  intro y hy
  rw [List.take_add_one, hk, Option.toList_some] at hy
  rcases List.mem_append.1 hy with hy | hy
  · exact hN y hy
  · rw [List.mem_singleton.1 hy]; exact hp
theorem first_end {l : List Rl} {p : Rl → Bool} (hN : ∀ y ∈ l.take l.length, p y = false) : l.findIdx? p = none := by
  rw [List.take_length] at hN
  exact List.findIdx?_eq_none_iff.2 hN
end Go.Proofs.YtalehelgemmmeaaGreatDoor.Ti
namespace Go.Proofs.YtalehelgemmmeaaGreatDoor.Ti
open Go.RowKit Go.Maps Ba Ru Ck

def zInt : DataW Unit := .lit (.int .i64 0)
theorem zeroInt (w : World) : (zeroValue 3).run Tryz.prog w = .ok (.int .i64 0) w := by kernel_rfl
/-- Keys of a kind: what they are as values. -/
structure KeyKind {κ : Type} (K T : TypeId) (enc : κ → Value) (dom : κ → Prop) : Prop where
  law : Keyed Tryz.prog K
  under : Tryz.prog.underlying T = some (.map K 3)
  key : ∀ k, dom k → ∃ l, keyOf Tryz.prog K (enc k) = some l
  inj : ∀ k k', dom k → dom k' → enc k = enc k' → k = k'
section
variable {κ : Type} {K T : TypeId} {enc : κ → Value} {dom : κ → Prop} {w : World} {B n : Nat} {g : κ → Option Nat}
/-- Block B is a map of n keys that answers g. -/
def MapIs (K : TypeId) (enc : κ → Value) (dom : κ → Prop) (w : World) (B n : Nat) (g : κ → Option Nat) : Prop :=
  ∃ D : DataW Unit, w.ownsMap Tryz.prog K (plainElem Tryz.prog 3) B n D ∧ Maps.size D = n ∧ ∀ k, dom k → ∀ l, keyOf Tryz.prog K (enc k) = some l → Maps.has D l = okV (g k) ∧ D.atKey l zInt = .lit (.int .i64 (numV (g k)))
theorem MapIs.of_block {w' : World} (h : MapIs K enc dom w B n g) (hb : w'.heap[B]? = w.heap[B]?) : MapIs K enc dom w' B n g := by
  obtain ⟨D, ⟨es, clock, h1, h2⟩, h3⟩ := h
  exact ⟨D, ⟨es, clock, hb.trans h1, h2⟩, h3⟩
theorem MapIs.lt (h : MapIs K enc dom w B n g) : B < w.heap.size := by
  obtain ⟨D, h1, _⟩ := h
  exact h1.lt
theorem MapIs.new (K : TypeId) (enc : κ → Value) (dom : κ → Prop) (w : World) : MapIs K enc dom (w.alloc (.map #[] 0)) w.heap.size 0 fun _ => none :=
  ⟨_, World.ownsMap_made w _ _ _, rfl, fun _ _ _ _ => ⟨rfl, rfl⟩⟩
theorem MapIs.alike {g' : κ → Option Nat} (h : MapIs K enc dom w B n g) (hg : ∀ k, dom k → g k = g' k) : MapIs K enc dom w B n g' := by
  obtain ⟨D, h1, h2, h3⟩ := h
  exact ⟨D, h1, h2, fun k hk l hl => by rw [← hg k hk]; exact h3 k hk l hl⟩
theorem MapIs.look (h : MapIs K enc dom w B n g) (KK : KeyKind K T enc dom) {k : κ} (hk : dom k) :
    (Instr.lookup T (.map (some B)) (enc k) true).run Tryz.prog w = .ok (.tuple #[.int .i64 (numV (g k)), .bool (okV (g k))]) w := by
  obtain ⟨D, h1, -, h3⟩ := h
  obtain ⟨l, hl⟩ := KK.key k hk
  obtain ⟨v, ps, hr, hv⟩ := h1.look_ok KK.law KK.under (zeroInt w) (plainElem_int Tryz.underlying3 (a := 0) (by decide)) hl
  obtain ⟨c, rfl, hc, _⟩ := plainElem_int_inv Tryz.underlying3 hv
  obtain ⟨e1, e2⟩ := h3 k hk l hl
  have hc := congrArg Prod.fst hc
  unfold zInt at e2
  simp only [e2, DataW.lit.injEq, Lit.int.injEq, true_and] at hc
  rw [e1] at hr
  rw [hr, ← hc]
theorem MapIs.count (h : MapIs K enc dom w B n g) (KK : KeyKind K T enc dom) (ty : TypeId) : (Builtin.len_ #[T] ty #[.map (some B)]).run Tryz.prog w = .ok (.int .i64 (n : Int)) w := by
  obtain ⟨D, h1, h2, -⟩ := h
  rw [h1.len KK.under ty, h2]
theorem look_none (KK : KeyKind K T enc dom) {k : κ} (hk : dom k) (w : World) : (Instr.lookup T (.map none) (enc k) true).run Tryz.prog w = .ok (.tuple #[.int .i64 0, .bool false]) w := by
  obtain ⟨l, hl⟩ := KK.key k hk
  exact Maps.look_nil true KK.law KK.under (zeroInt w) hl
/-- What a map answers behind a store. -/
def setK [DecidableEq κ] (g : κ → Option Nat) (x : κ) (r : Nat) : κ → Option Nat := fun y => if y = x then some r else g y
theorem MapIs.put [DecidableEq κ] (h : MapIs K enc dom w B n g) (KK : KeyKind K T enc dom) (hn : n < maxLen) {k : κ} (hk : dom k) (hg : g k = none) {r : Nat} (hr : r ≤ maxLen) :
    ∃ w', (Instr.mapUpdate T (.map (some B)) (enc k) (.int .i64 (r : Int))).run Tryz.prog w = .ok () w' ∧ MapIs K enc dom w' B (n + 1) (setK g k r) ∧ w.grownBy w' (some B) := by
  obtain ⟨D, h1, h2, h3⟩ := h
  obtain ⟨l, hl⟩ := KK.key k hk
  unfold maxLen at hr
  obtain ⟨w', e1, e2, e3⟩ := h1.update KK.law KK.under hn hl (plainElem_int Tryz.underlying3 (a := (r : Int)) (WalkArith.wf_i64 (by omega)))
  obtain ⟨f1, -⟩ := h3 k hk l hl
  refine ⟨w', e1, ⟨_, e2, ?_, fun y hy m hm => ?_⟩, e3⟩
  · rw [size_put (h1.tidy KK.law), f1, hg, h2]; rfl
  · unfold setK
    by_cases he : y = k
    · subst he
      rw [hl] at hm
      cases hm
      rw [if_pos rfl]
      exact ⟨Maps.has_put_same h1.isMap (KK.law.key hl) _, Maps.atKey_put_same h1.isMap (KK.law.key hl) _ _⟩
    · rw [if_neg he]
      have hne : m ≠ l := fun e => he (KK.inj y k hy hk (KK.law.inj (e ▸ hm) hl))
      rw [Maps.has_put_other hne, Maps.atKey_put_other hne]
      exact h3 y hy m hm
end
/-! ### the four kinds -/
theorem laidOut : laidOutB Tryz.prog = true := by kernel_rfl
theorem typesP : ∃ d, Tryz.prog.types.size + 1 = d + 2 := ⟨_, rfl⟩
theorem cellsOne (t : TypeId) (h : Tryz.prog.cellsOf t = 1) : Tryz.prog.cellsOf t = 1 := h
theorem wf8 {a : Nat} (ha : a < 256) : (Lit.int .u8 (a : Int)).wf = true := by
  have h : ∀ k : Fin 256, (Lit.int .u8 ((k.val : Nat) : Int)).wf = true := by decide +kernel
  exact h ⟨a, ha⟩
/-- A place and a cell. -/
def stepV (x : Nat × Nat) : Value := .agg #[.int .i64 (x.1 : Int), .int .u8 (x.2 : Int)]
def stepD (x : Nat × Nat) : Prop := x.1 ≤ maxLen ∧ x.2 < 256
theorem stepRow : (93 : TypeId) < Tryz.prog.types.size := of_decide_eq_true (by kernel_rfl)
theorem stepWide : (match Tryz.prog.underlying 93 with | some (.array _ _) | some (.struct _) => true | _ => false) = true := by rw [Tryz.underlying93]
theorem stepKey : Tryz.prog.keyTypeAt 2 93 = true := by kernel_rfl
theorem keyTypeS : Tryz.prog.keyType 93 = true := by kernel_rfl
theorem cellsS : Tryz.prog.cellsOf 93 = 2 := by kernel_rfl
theorem cellsI : Tryz.prog.cellsOf 3 = 1 := by kernel_rfl
theorem cellsB8 : Tryz.prog.cellsOf 5 = 1 := by kernel_rfl
theorem cellsT : Tryz.prog.cellsOf 9 = 1 := by kernel_rfl
set_option maxRecDepth 100000 in
theorem stepKind : KeyKind 93 46 stepV stepD where
  law := Keyed.of_law (deep_law_laid laidOut (m := 2) (by omega) stepRow stepKey stepWide)
  under := Tryz.underlying46
  key := fun x hx => by
    obtain ⟨d, hd⟩ := typesP
    have h1 : (Lit.int .i64 (x.1 : Int)).wf = true := WalkArith.wf_i64 (by have := hx.1; unfold maxLen at this; omega)
    have h2 := wf8 hx.2
    unfold keyOf stepV
    rw [Tryz.underlying93]
    simp only [keyTypeS, hd]
    simp [Value.formed, Tryz.underlying93, cellsS, Program.keyLits, Tryz.underlying3, Tryz.underlying5, cellsI, cellsB8, h1, h2, Value.cells]
  inj := fun x y _ _ e => by
    unfold stepV at e
    simp at e
    exact Prod.ext (by omega) (by omega)
/-- A What and a Left. -/
def aboutV (x : Int × List Nat) : Value := .agg #[.int .i64 x.1, .string (bytesOf x.2)]
def aboutD (x : Int × List Nat) : Prop := I64 x.1 ∧ x.2.length ≤ maxLen ∧ ∀ b ∈ x.2, b < 256
theorem aboutRow : (76 : TypeId) < Tryz.prog.types.size := of_decide_eq_true (by kernel_rfl)
theorem aboutWide : (match Tryz.prog.underlying 76 with | some (.array _ _) | some (.struct _) => true | _ => false) = true := by rw [Tryz.underlying76]
theorem aboutKey : Tryz.prog.keyTypeAt 2 76 = true := by kernel_rfl
theorem keyTypeA : Tryz.prog.keyType 76 = true := by kernel_rfl
theorem cellsA : Tryz.prog.cellsOf 76 = 2 := by kernel_rfl
theorem size_bytesOf (s : List Nat) : (bytesOf s).size = s.length := by simp [bytesOf, ByteArray.size]
set_option maxRecDepth 100000 in
theorem aboutKind : KeyKind 76 45 aboutV aboutD where
  law := Keyed.of_law (deep_law_laid laidOut (m := 2) (by omega) aboutRow aboutKey aboutWide)
  under := Tryz.underlying45
  key := fun x hx => by
    obtain ⟨d, hd⟩ := typesP
    have h1 : (Lit.int .i64 x.1).wf = true := WalkArith.wf_i64 (by have := hx.1; unfold I64 at this; omega)
    have h2 : (bytesOf x.2).size ≤ maxLen := by rw [size_bytesOf]; exact hx.2.1
    unfold keyOf aboutV
    rw [Tryz.underlying76]
    simp only [keyTypeA, hd]
    simp [Value.formed, Tryz.underlying76, cellsA, Program.keyLits, Tryz.underlying3, Tryz.underlying9, cellsI, cellsT, h1, h2, Value.cells]
  inj := fun x y hx hy e => by
    unfold aboutV at e
    simp only [Value.agg.injEq, Array.mk.injEq, List.cons.injEq, Value.int.injEq, Value.string.injEq, true_and, and_true] at e
    exact Prod.ext e.1 (bytesOf_inj hx.2.2 hy.2.2 e.2)
/-- A word's cells. -/
def wordV (s : List Nat) : Value := .string (bytesOf s)
def wordD (s : List Nat) : Prop := s.length ≤ maxLen ∧ ∀ b ∈ s, b < 256
theorem wordKind : KeyKind 9 44 wordV wordD where
  law := string_keyed Tryz.underlying9
  under := Tryz.underlying44
  key := fun s hs => ⟨_, WideMaps.keyOf_string_mk Tryz.underlying9 (by rw [size_bytesOf]; exact hs.1)⟩
  inj := fun x y hx hy e => by
    unfold wordV at e
    exact bytesOf_inj hx.2 hy.2 (by simpa using e)
/-- A place. -/
def placeV (p : Nat) : Value := .int .i64 (p : Int)
def placeD (p : Nat) : Prop := p ≤ maxLen
theorem placeKind : KeyKind 3 47 placeV placeD where
  law := int_keyed Tryz.underlying3
  under := Tryz.underlying47
  key := fun p hp => ⟨_, keyOf_int_mk Tryz.underlying3 (WalkArith.wf_i64 (by unfold placeD maxLen at hp; omega))⟩
  inj := fun x y _ _ e => by
    unfold placeV at e
    simp at e
    omega
end Go.Proofs.YtalehelgemmmeaaGreatDoor.Ti
