/-
  The document's Read of layer 4.
-/
import Derived.Test.YtbldloniijmchaaGreatDoorTuBt
import Derived.Test.YtbldloniijmchaaGreatDoorTuBo
import Derived.Test.YtbldloniijmchaaGreatDoorTuBc
namespace Go.Proofs.YtbldloniijmchaaGreatDoor.Tr
open Go.RowKit

set_option maxRecDepth 100000 in
set_option maxHeartbeats 16000000 in
/-- stylusref04.Read -/
theorem read_at (v : Value) (l : List Lx.Lx) (hl : l.length ≤ 9000) (hs : SafeL l) (w : World) (hv : Ba.Reads Lx.cellsX 4 0 w w.heap.size v l) :
    Calls Tryz.prog 35 #[v] w (ReadsTo w l) := by
  obtain ⟨i0, hi0, hz0, hz1, hz2⟩ := info_parts infoNodeR
  obtain ⟨ti, hj0, hy0, hy1, hy2⟩ := info_parts infoOpen
  obtain ⟨A, c, rfl, hA⟩ := hv
  have HA := Lib.hid hA
  have HS := Lib.hid hs
  have HZ := Lib.hid (RdM.zero w)
  have HZB := Lib.hid (show Below w.heap.size w (w.alloc (.cells #[.int .u8 0, .string { data := #[] }, .int .i64 0, .int .i64 0, .int .i64 0, .string { data := #[] }] 110)) from (Below.refl _ w).alloc (Nat.le_refl _) _)
  clear hA hs
  go_enter Tryz.func35, Tryz.ntmps35
  go_wp2
  go_loopw [4, 5, 6] (fun V T i wr => RdR w l V T i wr) (fun _ _ i _ => l.length - (intOf i).toNat)
  case atStart => exact ⟨0, by omega, rfl, HZ.out, HZB.out⟩
  case round =>
    obtain ⟨k, hk, rfl, hR, hB⟩ := hrel
    by_cases hlt : k < l.length
    · obtain ⟨gl, rfl, hgl, hcell⟩ := HA.out (by omega)
      have hBs := hB
      go_upto_block 1 with fail
      by_cases e1 : ∀ x, l[k]? = some x → x.kind = 1
      · refine round_text l hl w gl c k HS hgl hcell hk hlt _ _ wr hR hB e1 _ _ _ _ _ _ _ _ _ _ _ _ _ _ _ _ _ _ _ _ _ _ _ _ _ _ _ _ _ _ _ _ _ _ _ _ _ _ _ _ _ _ _ _ _ _ _ _ _ _ _ _ _ _ _ _ _ _ _ _ _ _ _ _ _ _ _ _ _ _ _ _ _ _ _ _ _ _ _ _ _ _ _ _ _ _ _ _ _ _ _ _ _ _ _ _ _ _ _ _ _ _ _ _ _ _ _ _ _ _ _ _ _ _ _ _ _ _ _ _ _ _ _ _ _ _ _ _ _ _ _ _ _ _ _ _ _ _ _ _ _ _ _ _ _ _ _ _ _ _ _ _ _ _ _ _ _ _ _ _ _ _ _ _ _ _ _ _ _ _ _ _ _ _ _ _ _ _ _ ?_
        intro V' T'
        intros
        rename_i w' h
        have H := Lib.hid h
        clear h hR hB hBs e1 hcell
        go_wp2
        go_roundw
        case rel => exact ⟨k + 1, by omega, by go_num, H.out.1, H.out.2⟩
        case measure => simp [intOf]; omega
      by_cases e2 : ∀ x, l[k]? = some x → x.kind = 2
      · refine round_opened l hl w gl c k HS hgl hcell hk hlt _ _ wr hR hB e2 _ _ _ _ _ _ _ _ _ _ _ _ _ _ _ _ _ _ _ _ _ _ _ _ _ _ _ _ _ _ _ _ _ _ _ _ _ _ _ _ _ _ _ _ _ _ _ _ _ _ _ _ _ _ _ _ _ _ _ _ _ _ _ _ _ _ _ _ _ _ _ _ _ _ _ _ _ _ _ _ _ _ _ _ _ _ _ _ _ _ _ _ _ _ _ _ _ _ _ _ _ _ _ _ _ _ _ _ _ _ _ _ _ _ _ _ _ _ _ _ _ _ _ _ _ _ _ _ _ _ _ _ _ _ _ _ _ _ _ _ _ _ _ _ _ _ _ _ _ _ _ _ _ _ _ _ _ _ _ _ _ _ _ _ _ _ _ _ _ _ _ _ _ _ _ _ _ _ _ ?_
        intro V' T'
        intros
        rename_i w' h
        have H := Lib.hid h
        clear h hR hB hBs e1 e2 hcell
        go_wp2
        go_roundw
        case rel => exact ⟨k + 1, by omega, by go_num, H.out.1, H.out.2⟩
        case measure => simp [intOf]; omega
      · refine round_closed l hl w gl c k HS hgl hcell hk hlt _ _ wr hR hB (fun x hx => ⟨fun h => e1 fun y hy => by rw [hx] at hy; cases hy; exact h, fun h => e2 fun y hy => by rw [hx] at hy; cases hy; exact h⟩) _ _ _ _ _ _ _ _ _ _ _ _ _ _ _ _ _ _ _ _ _ _ _ _ _ _ _ _ _ _ _ _ _ _ _ _ _ _ _ _ _ _ _ _ _ _ _ _ _ _ _ _ _ _ _ _ _ _ _ _ _ _ _ _ _ _ _ _ _ _ _ _ _ _ _ _ _ _ _ _ _ _ _ _ _ _ _ _ _ _ _ _ _ _ _ _ _ _ _ _ _ _ _ _ _ _ _ _ _ _ _ _ _ _ _ _ _ _ _ _ _ _ _ _ _ _ _ _ _ _ _ _ _ _ _ _ _ _ _ _ _ _ _ _ _ _ _ _ _ _ _ _ _ _ _ _ _ _ _ _ _ _ _ _ _ _ _ _ _ _ _ _ _ _ _ _ _ _ _ ?_
        intro V' T'
        intros
        rename_i w' h
        have H := Lib.hid h
        clear h hR hB hBs e1 e2 hcell
        go_wp2
        go_roundw
        case rel => exact ⟨k + 1, by omega, by go_num, H.out.1, H.out.2⟩
        case measure => simp [intOf]; omega
    · obtain rfl : k = l.length := by omega
      have HF := Lib.hid (show ReadsTo w l (.returned (.tuple #[u5, u4])) wr from ⟨u4, u5, rfl, by rw [List.take_length] at hR; exact hR, hB⟩)
      clear hR hB
      go_wp2
      go_ret2
      exact HF.out
end Go.Proofs.YtbldloniijmchaaGreatDoor.Tr
