/-
  Layer 9's document: what is missing.
-/
import Derived.Test.YtalehelgemmmeaaGreatDoorQc
import Derived.Test.YtalehelgemmmeaaGreatDoorCeQ
namespace Go.Proofs.YtalehelgemmmeaaGreatDoor.Ck
open Go.RowKit Ba Ru

theorem not_empty {M : ByteArray} (h : M ≠ { data := #[] }) : M.toList.isEmpty = false := by
  rw [ByteArray.toList_eq, List.isEmpty_eq_false_iff]
  intro e
  apply h
  apply ByteArray.ext
  apply Array.ext'
  exact e
theorem want_a : ∀ k : Fin 26, wantL[k.val]? = some (1, [97 + k.val]) := by decide +kernel
theorem want_a' (k : Fin 26) : wantL[0 + k.val]? = some (1, [97 + k.val]) := by rw [Nat.zero_add]; exact want_a k
theorem want_b : ∀ k : Fin 12, wantL[26 + k.val]? = some (6, [Ka.markL.getD k.val 0]) := by decide +kernel
theorem want_c : ∀ k : Fin 10, wantL[38 + k.val]? = some (7, [48 + k.val]) := by decide +kernel
theorem want_d : ∀ k : Fin 13, wantL[48 + k.val]? = some (8, namesL.getD k.val []) := by decide +kernel
theorem want_size : wantL.length = 61 := by decide +kernel
/-- The first n that are wanted are there. -/
def HadTo (l : List Rl) (n : Nat) : Prop := ∀ j, j < n → ∀ v, wantL[j]? = some v → hasB l v = true
theorem HadTo.step {l : List Rl} {n : Nat} {v : Int × List Nat} (h : HadTo l n) (hv : wantL[n]? = some v) (hb : hasB l v = true) : HadTo l (n + 1) := fun j hj u hu => by
  rcases Nat.lt_or_ge j n with h1 | h1
  · exact h j h1 u hu
  · obtain rfl : j = n := by omega
    rw [hv] at hu; cases hu; exact hb
theorem HadTo.miss {l : List Rl} {n : Nat} {v : Int × List Nat} (h : HadTo l n) (hv : wantL[n]? = some v) (hb : hasB l v = false) : missR l = v.2 := by
  unfold missR
  have hf : wantL.find? (fun w => !hasB l w) = some v := by
    rw [List.find?_eq_some_iff_getElem]
    obtain ⟨hn, e⟩ := List.getElem?_eq_some_iff.1 hv
    refine ⟨by rw [hb]; rfl, n, hn, e, fun j hj => ?_⟩
    rw [h j hj _ (List.getElem?_eq_getElem (by omega))]; rfl
  rw [hf]
theorem HadTo.all {l : List Rl} (h : HadTo l 61) : missR l = [] := (miss_nil l).2 fun w hw => by
  obtain ⟨j, hj, e⟩ := List.getElem_of_mem hw
  exact h j (by rw [← want_size]; exact hj) w (by rw [List.getElem?_eq_getElem hj, e])
theorem marks_n : bytesN Ka.marksS = Ka.markL := by decide +kernel
theorem mark_ext (k : Fin 12) : bytesN (Ka.marksS.extract k.val (k.val + 1)) = [Ka.markL.getD k.val 0] := by
  rw [bytesN_ext, marks_n]
  revert k
  decide +kernel
theorem marks_size : Ka.marksS.size = 12 := by decide +kernel
theorem back_one (w : World) (n : Nat) (hn : n < 256) (z : Int) (hz : (n : Int) = z) :
    (convert 105 9 (.slice (some ⟨w.heap.size, 0, none⟩) 1 1)).run Tryz.prog (w.alloc (.cells #[.int .u8 z] 5)) = .ok (.string (bytesOf [n])) (w.alloc (.cells #[.int .u8 z] 5)) := by
  subst hz
  exact Ce.back_of_row [n] (fun x hx => by rw [List.mem_singleton.1 hx]; exact hn) (World.ownsRow_lit (base := w.heap.size) (e := 5) (size := 1) w #[.int .u8 (n : Int)] 1 (Nat.le_refl _) (by decide) rfl)
end Go.Proofs.YtalehelgemmmeaaGreatDoor.Ck
