/-
  What strings.SplitSeq hands back, at a dash, goes over just the text's parts.
-/
import Derived.Test.YtkhfingenjlpfaaGreatDoorCeJ
import Derived.Test.YtkhfingenjlpfaaGreatDoorCeK
import Derived.Test.YtkhfingenjlpfaaGreatDoorCeL
import Derived.Shelf.Abstract
import Derived.Shelf.RegionOpen
import Derived.OwnWalkIn
import Derived.TacticsInMore
import Derived.LoopNIn
import Derived.LoopIn
namespace Go.Proofs.YtkhfingenjlpfaaGreatDoor.Ce
open Go.RowKit Go.Shelf
attribute [local go_sem] Oper.semAt_some

/-- What a round is handed: the part's text. -/
def encP (s : ByteArray) (x : Pt s) : Array Value := #[.string (s.extract x.1.1 x.1.2)]
/-- The iterator's three boxes lie as they lay. -/
def KeepB (Bs : Nat) (W W' : World) : Prop := ∀ k, Bs ≤ k → k < Bs + 3 → W'.heap[k]? = W.heap[k]?
theorem KeepB.trans {Bs : Nat} {A B C : World} (h : KeepB Bs A B) (k : KeepB Bs B C) : KeepB Bs A C := fun i h1 h2 => (k i h1 h2).trans (h i h1 h2)
theorem keepB_b {Bs : Nat} {w : World} (hn : Bs + 3 ≤ w.heap.size) (W : World) (l : Nat) (o o' : Obj) (hl : w.heap.size ≤ l) (_ : W.heap[l]? = some o) (_ : o.isCells = false) (_ : o.isWalk = false) : KeepB Bs W (W.putObj l o') :=
  fun i _ h2 => World.putObj_heap_other (by omega)
/-- The boxes: the rest of the text, the separator, and how much of it stays. -/
def Boxes (Bs : Nat) (t : ByteArray) (W : World) : Prop :=
  W.cell? ⟨Bs, 0, none⟩ = some (.string t) ∧ W.frozen? ⟨Bs, 0, none⟩ = false ∧ W.cell? ⟨Bs + 1, 0, none⟩ = some (.string { data := #[45] }) ∧ W.cell? ⟨Bs + 2, 0, none⟩ = some (.int .i64 0)
theorem Boxes.keep {Bs : Nat} {t : ByteArray} {W W' : World} (h : Boxes Bs t W) (k : KeepB Bs W W') : Boxes Bs t W' :=
  ⟨(World.cell?_of_block (w := W) (k Bs (by omega) (by omega))).trans h.1, (World.frozen?_of_block (w := W) (k Bs (by omega) (by omega))).trans h.2.1, (World.cell?_of_block (w := W) (k (Bs + 1) (by omega) (by omega))).trans h.2.2.1, (World.cell?_of_block (w := W) (k (Bs + 2) (by omega) (by omega))).trans h.2.2.2⟩
theorem Boxes.set {Bs : Nat} {t : ByteArray} {W : World} (h : Boxes Bs t W) (t' : ByteArray) : Boxes Bs t' (W.setCell ⟨Bs, 0, none⟩ (.string t')) :=
  ⟨World.cell?_setCell_same' _ _ _ (by rw [h.1]; rfl), by rw [World.frozen?_setCell]; exact h.2.1,
   (World.cell?_setCell_other _ _ _ _ (fun he => by injection he with h1 _; omega)).trans h.2.2.1, (World.cell?_setCell_other _ _ _ _ (fun he => by injection he with h1 _; omega)).trans h.2.2.2⟩
def restLen (Bs : Nat) (W : World) : Nat := match W.cell? ⟨Bs, 0, none⟩ with | some (.string t) => t.size | _ => 0
theorem restLen_of {Bs : Nat} {t : ByteArray} {W : World} (h : Boxes Bs t W) : restLen Bs W = t.size := by unfold restLen; rw [h.1]

theorem index_at (t : ByteArray) (z : Int) (hz : Lib.indexByte t.data.toList 45 = z) (w : World) :
    Calls Tryz.prog 87 #[.string t, .string { data := #[45] }] w fun e w' => e = .returned (.int .i64 z) ∧ w = w' :=
  (Tryz.strings_Index_one t 45 w).mono fun _ _ ⟨he, hw⟩ => ⟨by rw [he, hz], hw.symm⟩

set_option maxRecDepth 100000 in
set_option maxHeartbeats 2000000 in
theorem split1_in (n : Nat) (l Bs : Nat) (s : ByteArray) (hs : s.size ≤ 70000) (J Jx : List (Pt s) → World → Prop)
    (hJo : ∀ pre V v, J pre V → J pre (V.setCell ⟨Bs, 0, none⟩ v))
    (hY : ∀ pre x W, J pre W → pre.length < (partsA s 0).length → YieldAt Fence.wide (n - 1) Tryz.prog l (encP s x) W fun e W' =>
      (e = .returned (.bool true) ∧ J (pre ++ [x]) W' ∧ KeepB Bs W W') ∨ (e = .returned (.bool false) ∧ Jx (pre ++ [x]) W'))
    (W : World) (hB : Boxes Bs s W) (h0 : J [] W) :
    CallsIn Fence.wide n Tryz.prog 85 #[.func (.yield l) #[] #[], .pointer (some ⟨Bs + 1, 0, none⟩), .pointer (some ⟨Bs, 0, none⟩), .pointer (some ⟨Bs + 2, 0, none⟩)] W fun e W' => (∃ v, e = .returned v) ∧
      ((∃ ys, ys = partsA s 0 ∧ J ys W') ∨ (∃ pre, pre <+: partsA s 0 ∧ Jx pre W')) := by
  have hsep := hB.2.2.1
  refine callsIn_of_wp Tryz.func85 rfl trivial ?_ rfl
  simp only [Tryz.ntmps85, List.size_toArray, List.length_cons, List.length_nil, Nat.reduceAdd, Nat.reduceSub, Array.replicate_succ, Array.replicate_zero, List.push_toArray, List.append_toArray, List.nil_append, List.cons_append]
  gi_wp2
  clear hsep
  gi_loopw [] (fun wr => ∃ (pre : List (Pt s)) (f : Nat), f ≤ s.size ∧ ComeP s pre f ∧ J pre wr ∧ Boxes Bs (s.extract f s.size) wr)
    (fun wr => restLen Bs wr)
  case atStart => exact ⟨[], 0, by omega, ComeP.zero s, h0, by rw [ext_all]; exact hB⟩
  case round =>
    obtain ⟨pre, f, hf, hcm, hJs, hBr⟩ := hrel
    obtain ⟨c1, c2, c3, c4⟩ := hBr
    have hI := index_rest s f hf
    obtain ⟨d1, d2, _, _⟩ := dash_is s f hf
    have hz := ext_size s f s.size (Nat.le_refl _)
    obtain ⟨fn, tmps, assign, body, hy, hR⟩ := hY pre ⟨(f, dash s f), d1, d2⟩ wr hJs (hcm.lt hf)
    dsimp only [encP] at hy
    by_cases hlt : dash s f < s.size
    · rw [if_pos hlt] at hI
      have hcs := hcm.succ hf hlt
      rw [← ext_front s f (dash s f) d1 d2] at hy
      have HB := Lib.hid (ext_back s f (dash s f - f + 1) hf)
      obtain ⟨t, ht⟩ : ∃ t, s.extract f s.size = t := ⟨_, rfl⟩
      have hBr : Boxes Bs t wr := by rw [← ht]; exact ⟨c1, c2, c3, c4⟩
      rw [ht] at c1 hI hy hz HB
      obtain ⟨o, ho⟩ : ∃ o, dash s f - f = o := ⟨_, rfl⟩
      rw [ho] at hI hy HB
      have hot : o + 1 ≤ t.size := by omega
      have hts : t.size ≤ 70000 := by omega
      have HI := Lib.hid hI
      have HO := Lib.hid ho
      have HZ := Lib.hid hz
      clear hI ht ho hz
      gi_wp2_with (refine ⟨trivial, fun h => Bool.noConfusion h, ?_⟩; gi_at_call 87; refine (callsIn_wide.2 (index_at t _ HI.out wr)).mono ?_; rintro e w' ⟨rfl, rfl⟩)
      refine ⟨fun h => Bool.noConfusion h, hR.mono ?_⟩
      rintro e W3 (⟨rfl, hJ3, hk3⟩ | ⟨rfl, hJx3⟩)
      · have hB3 := hBr.keep hk3
        obtain ⟨e1, e2, e3, e4⟩ := id hB3
        gi_wp2
        go_roundw
        case rel => exact ⟨_, _, by omega, hcs, hJo _ _ _ hJ3, by
          have h2 : t.extract (o + 1) t.size = s.extract (dash s f + 1) s.size := by
            rw [HB.out]
            congr 1
            have := HO.out
            omega
          rw [← h2]
          exact hB3.set _⟩
        case measure =>
          have hm : (t.extract (o + 1) t.size).size < t.size := by rw [ext_size _ _ _ (Nat.le_refl _)]; omega
          rw [restLen_of hBr]
          exact (restLen_of (hB3.set _)).symm ▸ hm
      · gi_wp2
        refine bodyPost_ret (results_none rfl _ _ _) rfl ?_
        exact ⟨⟨_, rfl⟩, .inr ⟨_, hcs.front, hJx3⟩⟩
    · rw [if_neg hlt] at hI
      have hall := hcm.last hf hlt
      have hds : dash s f = s.size := by omega
      obtain ⟨t, ht⟩ : ∃ t, s.extract f s.size = t := ⟨_, rfl⟩
      have hpt : s.extract f (dash s f) = t := by rw [hds, ht]
      rw [hpt] at hy
      rw [ht] at c1 hI
      have HI := Lib.hid hI
      clear hI ht hds hpt
      gi_wp2_with (refine ⟨trivial, fun h => Bool.noConfusion h, ?_⟩; gi_at_call 87; refine (callsIn_wide.2 (index_at t _ HI.out wr)).mono ?_; rintro e w' ⟨rfl, rfl⟩)
      refine ⟨fun h => Bool.noConfusion h, hR.mono ?_⟩
      rintro e W3 (⟨rfl, hJ3, hk3⟩ | ⟨rfl, hJx3⟩)
      · gi_wp2
        go_end0
        exact ⟨⟨_, rfl⟩, .inl ⟨_, hall.symm, hJ3⟩⟩
      · gi_wp2
        go_end0
        exact ⟨⟨_, rfl⟩, .inr ⟨_, ⟨[], by rw [List.append_nil]; exact hall.symm⟩, hJx3⟩⟩

set_option maxRecDepth 100000 in
set_option maxHeartbeats 1000000 in
/-- strings.SplitSeq: three boxes; the function value captures them. -/
theorem split0_any (s : ByteArray) (w : World) :
    Calls Tryz.prog 42 #[.string s, .string { data := #[45] }] w fun e w' => e = .returned (.func (.func 85) #[] #[.pointer (some ⟨w.heap.size + 1, 0, none⟩), .pointer (some ⟨w.heap.size, 0, none⟩), .pointer (some ⟨w.heap.size + 2, 0, none⟩)]) ∧
      w' = ((w.alloc (.cells #[.string s] 9)).alloc (.cells #[.string { data := #[45] }] 9)).alloc (.cells #[.int .i64 0] 3) := by
  go_enter Tryz.func42, Tryz.ntmps42
  go_wp2
  go_ret
  exact ⟨rfl, rfl⟩

/-- What strings.SplitSeq hands back owes what the law on such iterators asks. -/
theorem split_hands (n : Nat) (Bs : Nat) (s : ByteArray) (hs : s.size ≤ 70000) (w : World) (hw : Bs + 3 ≤ w.heap.size) (hB : Boxes Bs s w) :
    Hands Tryz.prog n 85 #[.pointer (some ⟨Bs + 1, 0, none⟩), .pointer (some ⟨Bs, 0, none⟩), .pointer (some ⟨Bs + 2, 0, none⟩)] Bs (encP s) (KeepB Bs) (fun ys => ys = partsA s 0) (fun pre => pre <+: partsA s 0) (partsA s 0).length w := fun l J Jx W hW hJo hY h0 =>
  split1_in n l Bs s hs J Jx hJo hY W (hB.keep fun k _ h2 => hW.block k (by omega)) h0
end Go.Proofs.YtkhfingenjlpfaaGreatDoor.Ce
