/-
  chars.runEnd answers the place behind the run; what chars.Runs hands back goes over just the text's runs, each with its place, and ends where it is told to.
-/
import Derived.Test.YtplibmipbhadmaaDoorChM
import Derived.RangeFuncNested
import Derived.RangeFuncBound
import Derived.RangeFuncCalls
import Derived.RangeFuncLeaves
import Derived.RangeFuncBox
import Derived.Shelf.Abstract
import Derived.Shelf.RegionOpen
import Derived.OwnWalkIn
import Derived.TacticsInMore
import Derived.LoopNIn
import Derived.LoopIn
import Derived.Maps.AppendAt
namespace Go.Proofs.YtplibmipbhadmaaDoor
open Go.RowKit Go.Shelf

theorem class_byte (s : ByteArray) (k : Nat) (h : k < s.size) (v : Int) (hv : kc s k = v) (w : World) (hL : Laid w) :
    Calls Tryd.prog 7 #[.int .u8 ((s[k].toNat : Nat) : Int)] w fun e w' => e = .returned (.int .i64 v) ∧ w = w' := by
  have hb := bAt_lt s k
  rw [bAt_get s k h]
  exact class_at _ v hb.1 hb.2 hv w hL

/-- All bytes from f up to k are of one class. -/
def Alike1 (s : ByteArray) (f k : Nat) : Prop := ∀ j, f ≤ j → j < k → kc s j = kc s f
theorem Alike1.one (s : ByteArray) (f : Nat) : Alike1 s f (f + 1) := fun j h1 h2 => by
  have e : j = f := by omega
  rw [e]
theorem Alike1.succ {s : ByteArray} {f k : Nat} (h : Alike1 s f k) (hc : kc s k = kc s f) : Alike1 s f (k + 1) := fun j h1 h2 => by
  rcases Nat.lt_or_ge j k with h3 | h3
  · exact h j h1 h3
  · have e : j = k := by omega
    rw [e]; exact hc

set_option maxHeartbeats 1000000 in
/-- chars.runEnd -/
theorem runEnd_any (s : ByteArray) (f : Nat) (hf : f < s.size) (hs : s.size ≤ maxLen) (w : World) (hL : Laid w) :
    Calls Tryd.prog 31 #[.string s, .int .i64 (f : Int)] w fun e w' => e = .returned (.int .i64 ((nextEnd s f : Nat) : Int)) ∧ w = w' := by
  unfold maxLen at hs
  have HE := Lib.hid (nextEnd_is s f hf)
  go_enter Tryd.func31, Tryd.ntmps31
  go_wp2_with (go_at_call 7; refine (class_byte s f hf _ rfl w hL).mono ?_; rintro e w' ⟨rfl, rfl⟩)
  go_loop [6] (fun t => ∃ k : Nat, f < k ∧ k ≤ s.size ∧ t = .int .i64 k ∧ Alike1 s f k) (fun t => s.size - (intOf t).toNat)
  case atStart =>
    exact ⟨f + 1, by omega, by omega, by go_num, Alike1.one s f⟩
  case round =>
    obtain ⟨k, hk1, hk2, rfl, hj⟩ := hrel
    by_cases hlt : k < s.size
    · by_cases hc : kc s k = kc s f
      · have HN := hj.succ hc
        have HC := Lib.hid hc; clear hc
        go_wp2_with (go_at_call 7; refine (class_byte s k hlt _ HC.out w hL).mono ?_; rintro e w' ⟨rfl, rfl⟩)
        go_round
        case rel => exact ⟨k + 1, by omega, by omega, by go_num, HN⟩
        case measure => simp [intOf]; omega
      · have HR := Lib.hid (IsEnd.unique (s := s) ⟨hk1, by omega, hj, fun _ => hc⟩ HE.out)
        have hb : (kc s k == kc s f) = false := by simpa using hc
        clear hc
        go_wp2_with (go_at_call 7; refine (class_byte s k hlt _ rfl w hL).mono ?_; rintro e w' ⟨rfl, rfl⟩)
        go_ret
        exact ⟨ret_int (by rw [HR.out]), rfl⟩
    · have HR := Lib.hid (IsEnd.unique (s := s) ⟨hk1, by omega, hj, fun h => absurd h hlt⟩ HE.out)
      go_wp2
      go_ret
      exact ⟨ret_int (by rw [HR.out]), rfl⟩

attribute [local go_sem] Oper.semAt_some

/-- The runs in pre have come; those from f on are still to come. -/
def Come (s : ByteArray) (pre : List (Rn s)) (f : Nat) : Prop := runsA s 0 = pre ++ runsA s f
theorem Come.zero (s : ByteArray) : Come s [] 0 := rfl
theorem Come.succ {s : ByteArray} {pre : List (Rn s)} {f : Nat} (h : Come s pre f) (hf : f < s.size) :
    Come s (pre ++ [⟨(f, nextEnd s f), (nextEnd_is s f hf).1, (nextEnd_is s f hf).2.1⟩]) (nextEnd s f) := by
  unfold Come at h ⊢; rw [h, runsA_step s f hf]; simp
theorem Come.lt {s : ByteArray} {pre : List (Rn s)} {f : Nat} (h : Come s pre f) (hf : f < s.size) : pre.length < (runsA s 0).length := by
  unfold Come at h; rw [h, runsA_step s f hf]; simp
theorem Come.front {s : ByteArray} {pre : List (Rn s)} {f : Nat} (h : Come s pre f) : pre <+: runsA s 0 := ⟨_, h.symm⟩
theorem Come.all {s : ByteArray} {pre : List (Rn s)} {f : Nat} (h : Come s pre f) (hf : s.size ≤ f) : pre = runsA s 0 := by
  unfold Come at h; rw [h, runsA_end s f hf]; simp

/-- What lay below n₀, and block Bn, lies as it lay. -/
def KeepN (n₀ Bn : Nat) (W W' : World) : Prop := Below n₀ W W' ∧ W'.heap[Bn]? = W.heap[Bn]?
theorem KeepN.refl (n₀ Bn : Nat) (W : World) : KeepN n₀ Bn W W := ⟨Below.refl _ _, rfl⟩
theorem KeepN.trans {n₀ Bn : Nat} {A B C : World} (h : KeepN n₀ Bn A B) (k : KeepN n₀ Bn B C) : KeepN n₀ Bn A C := ⟨h.1.trans k.1, k.2.trans h.2⟩
theorem KeepN.of {n₀ Bn : Nat} {A B : World} (h : Below n₀ A B) (hB : Bn < n₀) : KeepN n₀ Bn A B := ⟨h, h.block Bn hB⟩
theorem keepN_b {n₀ Bn : Nat} {w : World} (hn : n₀ ≤ w.heap.size) (hB : Bn < w.heap.size) (W : World) (l : Nat) (o o' : Obj) (hl : w.heap.size ≤ l) (h : W.heap[l]? = some o) (_ : o.isCells = false) (_ : o.isWalk = false) : KeepN n₀ Bn W (W.putObj l o') :=
  ⟨(Below.refl n₀ W).grown (grownBy_putObj' W l o') (by have := (Array.getElem?_eq_some_iff.1 h).1; omega) (fun k e => by cases e; omega), World.putObj_heap_other (by omega)⟩

/-- What a round is handed: the run's place, and its text. -/
def encR (s : ByteArray) (x : Rn s) : Array Value := #[.int .i64 ((x.1.1 : Nat) : Int), .string (s.extract x.1.1 x.1.2)]

set_option maxRecDepth 100000 in
set_option maxHeartbeats 1000000 in
/-- What chars.Runs hands back, called with any loop's body that keeps what lay below n₀. -/
theorem runs1_in (n : Nat) (l Bn n₀ : Nat) (s : ByteArray) (hs : s.size ≤ maxLen) (h0n : 0 < n₀) (J Jx : List (Rn s) → World → Prop)
    (hY : ∀ pre x W, J pre W → pre.length < (runsA s 0).length → YieldAt Fence.wide (n - 1) Tryd.prog l (encR s x) W fun e W' =>
      (e = .returned (.bool true) ∧ J (pre ++ [x]) W' ∧ KeepN n₀ Bn W W') ∨ (e = .returned (.bool false) ∧ Jx (pre ++ [x]) W'))
    (W : World) (hBn : W.cell? ⟨Bn, 0, none⟩ = some (.string s)) (hL : Laid W) (h0 : J [] W) :
    CallsIn Fence.wide n Tryd.prog 30 #[.func (.yield l) #[] #[], .pointer (some ⟨Bn, 0, none⟩)] W fun e W' => (∃ v, e = .returned v) ∧
      ((∃ ys, ys = runsA s 0 ∧ J ys W') ∨ (∃ pre, pre <+: runsA s 0 ∧ Jx pre W')) := by
  unfold maxLen at hs
  refine callsIn_of_wp Tryd.func30 rfl trivial ?_ rfl
  simp only [Tryd.ntmps30, List.size_toArray, List.length_cons, List.length_nil, Nat.reduceAdd, Nat.reduceSub, Array.replicate_succ, Array.replicate_zero, List.push_toArray, List.append_toArray, List.nil_append, List.cons_append]
  gi_wp2
  gi_loopw [3] (fun i wr => ∃ (pre : List (Rn s)) (f : Nat), i = .int .i64 f ∧ f ≤ s.size ∧ Come s pre f ∧ J pre wr ∧ KeepN n₀ Bn W wr)
    (fun i _ => s.size - (intOf i).toNat)
  case atStart => exact ⟨[], 0, rfl, by omega, Come.zero s, h0, KeepN.refl _ _ _⟩
  case round =>
    obtain ⟨pre, f, rfl, hf, hcm, hJs, hnx⟩ := hrel
    have hLr : Laid wr := hL.below hnx.1 h0n
    have hcr : wr.cell? ⟨Bn, 0, none⟩ = some (.string s) := (World.cell?_of_block (w := W) hnx.2).trans hBn
    by_cases hlt : f < s.size
    · obtain ⟨he1, he2, _, _⟩ := nextEnd_is s f hlt
      have hcs := hcm.succ hlt
      obtain ⟨fn, tmps, assign, body, hy, hR⟩ := hY pre ⟨(f, nextEnd s f), he1, he2⟩ wr hJs (hcm.lt hlt)
      dsimp only [encR] at hy
      gi_wp2_with (refine ⟨trivial, fun h => Bool.noConfusion h, ?_⟩; gi_at_call 31; refine (callsIn_wide.2 (runEnd_any s f hlt hs wr hLr)).mono ?_; rintro e w' ⟨rfl, rfl⟩)
      refine ⟨fun h => Bool.noConfusion h, hR.mono ?_⟩
      rintro e W3 (⟨rfl, hJ3, hk3⟩ | ⟨rfl, hJx3⟩)
      · gi_wp2
        go_roundw
        case rel => exact ⟨_, _, rfl, he2, hcs, hJ3, hnx.trans hk3⟩
        case measure => simp [intOf]; omega
      · gi_wp2
        refine bodyPost_ret (results_none rfl _ _ _) rfl ?_
        exact ⟨⟨_, rfl⟩, .inr ⟨_, hcs.front, hJx3⟩⟩
    · gi_wp2
      go_end0
      exact ⟨⟨_, rfl⟩, .inl ⟨_, hcm.all (by omega), hJs⟩⟩

set_option maxHeartbeats 1000000 in
/-- chars.Runs: the text is boxed; the function value captures the box. -/
theorem runs0_any (s : ByteArray) (w : World) :
    Calls Tryd.prog 28 #[.string s] w fun e w' => e = .returned (.func (.func 30) #[] #[.pointer (some ⟨w.heap.size, 0, none⟩)]) ∧ w' = w.alloc (.cells #[.string s] 9) := by
  go_enter Tryd.func28, Tryd.ntmps28
  go_wp2
  go_ret
  exact ⟨rfl, rfl⟩

/-- The contract of what chars.Runs hands back. -/
theorem runs_stops (n : Nat) (Bn n₀ : Nat) (s : ByteArray) (hs : s.size ≤ maxLen) (h0n : 0 < n₀) (w : World) (hB : Bn < w.heap.size) (hc : w.cell? ⟨Bn, 0, none⟩ = some (.string s)) (hL : Laid w) :
    SeqStopsK Fence.wide n Tryd.prog 30 #[.pointer (some ⟨Bn, 0, none⟩)] (encR s) (KeepN n₀ Bn) (fun ys => ys = runsA s 0) (fun pre => pre <+: runsA s 0) (runsA s 0).length w := fun l J Jx W hW _ _ hY h0 =>
  runs1_in n l Bn n₀ s hs h0n J Jx hY W ((hW.cell (p := ⟨Bn, 0, none⟩) hB).trans hc) (hL.below hW hL.1) h0
end Go.Proofs.YtplibmipbhadmaaDoor
