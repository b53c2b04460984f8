/-
  lex's names: the letter of one, and the closures by which one is looked for.
-/
import Derived.Test.YtbldloniijmchaaDoorVa
import Derived.Test.YtbldloniijmchaaDoorVh
import Derived.Deep.QuietTactic
import Derived.BigQuiet
namespace Go.Proofs.YtbldloniijmchaaDoor.Lx
open Go.RowKit

def namesS : ByteArray := { data := #[104, 49, 32, 104, 50, 32, 104, 51, 32, 112, 32, 108, 32, 105, 32, 116, 32, 114, 32, 99, 32, 110, 32, 101, 32, 115, 32, 107] }
/-- The text of a part of names. -/
def ptS (x : Sp.Pt namesS) : ByteArray := namesS.extract x.1.1 x.1.2
theorem names_all : (Sp.partsA 32 namesS 0).map ptS = (List.range 13).map (fun k => nameS (letterN k)) := by decide +kernel
theorem names_len : (Sp.partsA 32 namesS 0).length = 13 := by
  have := congrArg List.length names_all
  simpa using this
theorem names_at {pre : List (Sp.Pt namesS)} {x : Sp.Pt namesS} (h : pre ++ [x] <+: Sp.partsA 32 namesS 0) : pre.length < 13 ∧ ptS x = nameS (letterN pre.length) := by
  obtain ⟨r, hr⟩ := h
  have hl : pre.length < 13 := by
    have := congrArg List.length hr
    rw [names_len] at this
    simp at this; omega
  refine ⟨hl, ?_⟩
  have h1 := names_all
  rw [← hr] at h1
  have h2 := congrArg (fun l => l[pre.length]?) h1
  simp only [List.map_append, List.append_assoc, List.map_cons, List.map_nil] at h2
  rw [List.getElem?_append_right (by simp)] at h2
  simpa [hl] using h2
/-- The first name that is as asked. -/
def findS (f : Nat → Bool) : ByteArray := match (List.range 13).find? f with | some k => nameS (letterN k) | none => emptyS
theorem findS_at {f : Nat → Bool} {k : Nat} (h : ∀ j, j < k → f j = false) (hk : k < 13) (hf : f k = true) : findS f = nameS (letterN k) := by
  unfold findS
  have : (List.range 13).find? f = some k := by
    rw [List.find?_range_eq_some]
    exact ⟨hf, by simpa using hk, fun j hj => by simpa using h j hj⟩
  rw [this]
theorem findS_none {f : Nat → Bool} (h : ∀ j, j < 13 → f j = false) : findS f = emptyS := by
  unfold findS
  have : (List.range 13).find? f = none := by
    rw [List.find?_eq_none]
    intro j hj
    have := h j (List.mem_range.1 hj)
    simpa using this
  rw [this]
theorem nameS_none : nameS 0 = emptyS := by decide +kernel
/-- By what stands at a place. -/
theorem findS_open (s : ByteArray) (p : Nat) : findS (fun k => decide (fits s p (letterN k))) = nameS (openC s p) := by
  unfold findS openC
  cases (List.range 13).find? (fun k => decide (fits s p (letterN k))) with
  | none => exact nameS_none.symm
  | some k => rfl
theorem letterN_inj : ∀ j k : Fin 13, letterN j.val = letterN k.val → j = k := by decide +kernel
/-- By its letter. -/
theorem findS_name (c : Nat) (hc : c < 256) : findS (fun k => decide (letterN k = c)) = nameS c := by
  by_cases h : c ∈ lettersL
  · obtain ⟨k, hk⟩ := (letter_mem ⟨c, hc⟩).1 h
    rw [findS_at (k := k.val) (fun j hj => ?_) k.isLt (by simpa using hk)]
    · rw [hk]
    · have hjk : letterN j ≠ c := fun e => by
        have := letterN_inj ⟨j, by omega⟩ k (by rw [hk]; exact e)
        have := congrArg Fin.val this
        simp at this; omega
      simpa using hjk
  · rw [findS_none (fun j hj => ?_)]
    · unfold nameS nameL
      rw [if_neg, if_neg h]; rfl
      intro h2; apply h
      rcases h2 with rfl | rfl | rfl <;> decide
    · have hjc : letterN j ≠ c := fun e => h ((letter_mem ⟨c, hc⟩).2 ⟨⟨j, hj⟩, e⟩)
      simpa using hjc
theorem lastN : ∀ k : Fin 13, bAt (nameS (letterN k.val)) ((nameS (letterN k.val)).size - 1) = letterN k.val ∧ 0 < (nameS (letterN k.val)).size ∧ (nameS (letterN k.val)).size ≤ 2 ∧ letterN k.val < 256 := by decide +kernel

set_option maxHeartbeats 1000000 in
/-- lex.letterOf -/
theorem letterOf_at (t : ByteArray) (c : Nat) (h0 : 0 < t.size) (h1 : t.size ≤ 70000) (hc : bAt t (t.size - 1) = c) (w : World) :
    Calls Tryd.prog 69 #[.string t] w fun e w' => e = .returned (.int .u8 (c : Int)) ∧ w = w' := by
  have hz : t.size - 1 < t.size := by omega
  have E1 := bAt_get t (t.size - 1) hz
  rw [hc] at E1
  have j0 : (1 : Int) ≤ (t.size : Int) := by omega
  have j1 : (0 : Int) ≤ (t.size : Int) - 1 := by omega
  have j2 : (t.size : Int) - 1 < (t.size : Int) := by omega
  have j3 : ((t.size : Int) - 1).toNat = t.size - 1 := by omega
  clear hc
  go_enter Tryd.func69, Tryd.ntmps69
  go_wp2
  go_ret
  exact ⟨rfl, rfl⟩
theorem prefix_fits (b : ByteArray) (c : Nat) : Lib.hasPrefix b.data.toList (nameS c).data.toList = decide (fits b 0 c) := by
  rw [← Lib.hasPrefix_raw]
  unfold fits
  by_cases h1 : (nameS c).size ≤ b.size
  · by_cases h2 : b.extract 0 (nameS c).size = nameS c
    · have h3 : 0 + (nameS c).size ≤ b.size ∧ b.extract 0 (0 + (nameS c).size) = nameS c := ⟨by omega, by rw [Nat.zero_add]; exact h2⟩
      rw [h2]; simp only [h3, and_self, decide_true]; simp [h1]
    · have h3 : ¬ (0 + (nameS c).size ≤ b.size ∧ b.extract 0 (0 + (nameS c).size) = nameS c) := fun h => h2 (by have := h.2; rwa [Nat.zero_add] at this)
      rw [toList_ne h2, decide_eq_false h3, Bool.and_false]
  · have h3 : ¬ (0 + (nameS c).size ≤ b.size ∧ b.extract 0 (0 + (nameS c).size) = nameS c) := fun h => h1 (by have := h.1; omega)
    rw [decide_eq_false h1, decide_eq_false h3, Bool.false_and]

set_option maxHeartbeats 1000000 in
/-- The closure in opening. -/
theorem asksO_at (b n : ByteArray) (v : Bool) (hv : Lib.hasPrefix b.data.toList n.data.toList = v) (B : Nat) (w : World) (hB : w.cell? ⟨B, 0, none⟩ = some (.string b)) :
    Calls Tryd.prog 67 #[.string n, .pointer (some ⟨B, 0, none⟩)] w fun e w' => e = .returned (.bool v) ∧ Below w.heap.size w w' := by
  have HV := Lib.hid hv
  clear hv
  go_enter Tryd.func67, Tryd.ntmps67
  go_wp2_with (go_at_call 68; refine (Tryd.strings_HasPrefix b n _).mono ?_; rintro e w' ⟨rfl, rfl⟩)
  go_ret
  exact ⟨Ba.ret_bool HV.out, Below.refl _ _⟩
end Go.Proofs.YtbldloniijmchaaDoor.Lx
