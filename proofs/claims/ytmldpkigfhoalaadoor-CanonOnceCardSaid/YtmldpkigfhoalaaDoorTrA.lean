/-
  The document's helpers of layer 4: in, last, many, Texts.
-/
import Derived.Test.YtmldpkigfhoalaaDoorVb
import Derived.Test.YtmldpkigfhoalaaDoorVg
import Derived.OwnWalk
import Derived.Deep.QuietTactic
import Derived.BigQuiet
import Derived.BigRegion
namespace Go.Proofs.YtmldpkigfhoalaaDoor.Tr
open Go.RowKit

theorem inK_yes {k : Nat} {s : ByteArray} {j : Nat} (hj : j < s.size) (h : Lx.bAt s j = k) : inK k s = true := by
  unfold inK
  rw [List.contains_iff_mem]
  subst h
  unfold Lx.bAt
  rw [List.getD_eq_getElem?_getD, List.getElem?_eq_getElem (by rw [Lx.bytesN_len]; exact hj)]
  exact List.getElem_mem _
theorem inK_no {k : Nat} {s : ByteArray} (h : ∀ j, j < s.size → Lx.bAt s j ≠ k) : inK k s = false := by
  unfold inK
  rw [← Bool.not_eq_true, List.contains_iff_mem]
  intro hm
  obtain ⟨j, hj, he⟩ := List.mem_iff_getElem.1 hm
  rw [Lx.bytesN_len] at hj
  refine h j hj ?_
  unfold Lx.bAt
  rw [List.getD_eq_getElem?_getD, List.getElem?_eq_getElem (by rw [Lx.bytesN_len]; exact hj)]
  exact he


/-- The cells of an open node, of a node. -/
def cO (o : Op) : List Value := [.int .u8 (o.kind : Int), .string o.kids, .int .i64 (o.spot : Int), .int .i64 (o.notes : Int), .int .i64 (o.first : Int), .string o.text]
def cN (x : Nd) : List Value := [.int .u8 (x.kind : Int), .string x.text, .int .i64 x.place, .int .i64 x.size]
theorem cO_len (o : Op) : (cO o).length = 6 := rfl
theorem cN_len (x : Nd) : (cN x).length = 4 := rfl
abbrev ReadsO (w : World) (B : Nat) (v : Value) (p : List Op) : Prop := Ba.Reads cO 6 0 w B v p
/-- What stands in the cells of one open node. -/
theorem ReadsO.cells {w : World} {B : Nat} {v : Value} {p : List Op} (h : ReadsO w B v p) (h0 : 0 < p.length) :
    ∃ g c, v = .slice (some ⟨g, 0, none⟩) p.length c ∧ g < B ∧ ∀ k o, p[k]? = some o →
      w.cell? ⟨g, k * 6, none⟩ = some (.int .u8 (o.kind : Int)) ∧ w.cell? ⟨g, k * 6 + 1, none⟩ = some (.string o.kids) ∧ w.cell? ⟨g, k * 6 + 2, none⟩ = some (.int .i64 (o.spot : Int)) ∧
      w.cell? ⟨g, k * 6 + 3, none⟩ = some (.int .i64 (o.notes : Int)) ∧ w.cell? ⟨g, k * 6 + 4, none⟩ = some (.int .i64 (o.first : Int)) ∧ w.cell? ⟨g, k * 6 + 5, none⟩ = some (.string o.text) := by
  obtain ⟨g, c, rfl, hg, hk⟩ := h.at h0
  refine ⟨g, c, rfl, hg, fun k o ho => ?_⟩
  have e := hk k o ho
  simp only [Nat.zero_add] at e
  exact ⟨e 0 _ rfl, e 1 _ rfl, e 2 _ rfl, e 3 _ rfl, e 4 _ rfl, e 5 _ rfl⟩
def kindsOk (p : List Op) : Prop := ∀ o ∈ p, o.kind < 256 ∧ o.kids.size ≤ 70000
def lastI (p : List Op) (ks : ByteArray) : Int := if lastP p ks = 0 then -1 else (lastP p ks : Int)

end Go.Proofs.YtmldpkigfhoalaaDoor.Tr
