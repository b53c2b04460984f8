/-
  A loop over an iterator that keeps one variable of its own in a cell (as what strings.SplitSeq hands back does): the caller's invariant abides whatever is stored there.
-/
import Derived.Test.YtkhfingenjlpfaaGreatDoorCeM
import Derived.RangeFuncNested
import Derived.RangeFuncBound
import Derived.RangeFuncCalls
import Derived.RangeFuncLeaves
import Derived.RangeFuncBox
namespace Go.Proofs.YtkhfingenjlpfaaGreatDoor.Ce
open Go.RowKit

/-- How a round's body may be left: it goes on, or the function returns. -/
def leftAs {α : Type} (B : Nat) (Kp : World → World → Prop) (I Ix : List α → World → Prop) (xs : List α) (W : World) : Exit → Act → World → Prop
  | .normal, _, W' => KeepsFrom B W W' ∧ Kp W W' ∧ I xs W'
  | .ret, _, W' => KeepsFrom B W W' ∧ Ix xs W'
  | _, _, _ => False

/-- What an iterator with one cell of its own owes: at whatever invariant that abides a store into that cell. -/
def Hands {α : Type} (P : Program) (n gf : Nat) (lb : Array Value) (own : Nat) (encs : α → Array Value) (Kp : World → World → Prop) (S Sp : List α → Prop) (N : Nat) (w : World) : Prop :=
  ∀ (l : Nat) (J Jx : List α → World → Prop) (W : World), Below w.heap.size w W → (∀ pre V v, J pre V → J pre (V.setCell ⟨own, 0, none⟩ v)) →
    (∀ pre x V, J pre V → pre.length < N → YieldAt Fence.wide (n - 1) P l (encs x) V fun e V' =>
      (e = .returned (.bool true) ∧ J (pre ++ [x]) V' ∧ Kp V V') ∨ (e = .returned (.bool false) ∧ Jx (pre ++ [x]) V')) →
    J [] W →
    CallsIn Fence.wide n P gf (#[.func (.yield l) #[] #[]] ++ lb) W fun e W' => (∃ v, e = .returned v) ∧ ((∃ xs, S xs ∧ J xs W') ∨ (∃ pre, Sp pre ∧ Jx pre W'))

theorem wpIn_range_cell {α : Type} {P : Program} {n gf own : Nat} {lb : Array Value} {g : Operand} {ps : Array Tmp} {assign body : Code} {Q : Exit → Act → World → Prop} {a : Act} {w : World}
    (_h1 : 1 ≤ n) (hg : a.eval g = .func (.func gf) #[] lb) (eg : ∀ args w, (callFunc gf args).run P w = .ok (.enter gf args) w) (hown : own < w.heap.size)
    {encs : α → Array Value} {Kp : World → World → Prop} {S Sp : List α → Prop} {N : Nat} (hseq : Hands P (n - 1) gf lb own encs Kp S Sp N w)
    (hKt : ∀ {A B C : World}, Kp A B → Kp B C → Kp A C) (hKb : ∀ (W : World) (l : Nat) (o o' : Obj), w.heap.size ≤ l → W.heap[l]? = some o → o.isCells = false → o.isWalk = false → Kp W (W.putObj l o'))
    (hps : ∀ x, (encs x).size = ps.size)
    (I Ix : List α → World → Prop) (hI : OwnFrom w.heap.size I) (hIx : OwnFrom w.heap.size Ix) (hIo : ∀ pre V v, I pre V → I pre (V.setCell ⟨own, 0, none⟩ v)) (h0 : I [] w) (a₁ : α → Act)
    (hassign : ∀ (l : Nat) (x : α) (W : World) (K : Act → World → Prop), K (a₁ x) W →
      assign.wpIn (Fence.wide.inRound l) (n - 1 - 1) P (Exit.then K (fun _ _ _ => False)) { tmps := (ps.zip (encs x)).foldl (fun t (p, v) => t.setIfInBounds p v) a.tmps, defers := [] } W)
    (hbody : ∀ (l : Nat) (pre : List α) (x : α) (W : World), I pre W → pre.length < N → body.wpIn (Fence.wide.inRound l) (n - 1 - 1) P (leftAs w.heap.size Kp I Ix (pre ++ [x]) W) (a₁ x) W)
    (hdone : ∀ (D : Nat) (xs : List α) (W : World), w.heap.size ≤ D → S xs → I xs W → W.heap[D]? = some (.deferred (some [])) → Q .normal { a with defers := { target := .collected D, args := #[] } :: a.defers } W)
    (hstop : ∀ (D : Nat) (pre : List α) (W : World), w.heap.size ≤ D → Sp pre → Ix pre W → W.heap[D]? = some (.deferred (some [])) → Code.ret.wpIn Fence.wide n P Q { a with defers := { target := .collected D, args := #[] } :: a.defers } W) :
    (Code.rangeFunc g ps assign body).wpIn Fence.wide n P Q a w := by
  refine wpIn_rangeFunc fun fn hfn => ?_
  -- the loop's record, in its states
  let r : LoopState → Option Code → Loop := fun st pe => { state := st, pending := pe, fn, tmps := a.tmps, params := ps, assign, body, defers := w.heap.size }
  let Marks : LoopState → Option Code → World → Prop := fun st pe W => W.heap[w.heap.size + 1]? = some (.loop (r st pe)) ∧ W.heap[w.heap.size]? = some (.deferred (some []))
  let W1 : World := (w.alloc (.deferred (some []))).alloc (.loop (r .ready none))
  have m1 : Marks .ready none W1 := by
    refine ⟨?_, (Below.heap_alloc _ _ _ (by simp)).trans (World.alloc_heap_new w _)⟩
    have := World.alloc_heap_new (w.alloc (.deferred (some []))) (.loop (r .ready none))
    rwa [World.size_alloc] at this
  have b1 : Below w.heap.size w W1 := ((Below.refl _ w).alloc (Nat.le_refl _) _).alloc (by simp) _
  have i1 : I [] W1 := hI.alloc _ (hI.alloc _ h0)
  -- what turns the record alone
  have turn : ∀ (st : LoopState) (pe : Option Code) (st' : LoopState) (pe' : Option Code) (W : World), Marks st pe W → Marks st' pe' (W.putObj (w.heap.size + 1) (.loop (r st' pe'))) := fun st pe st' pe' W hm =>
    ⟨World.putObj_heap_same (Array.getElem?_eq_some_iff.1 hm.1).1, (World.putObj_heap_other (by omega)).trans hm.2⟩
  refine ⟨w.heap.size + 1, [{ target := .collected w.heap.size, args := #[] }], W1, { target := .fn (.func gf) lb, args := #[.func (.yield (w.heap.size + 1)) #[] #[]] }, W1, gf,
    #[.func (.yield (w.heap.size + 1)) #[] #[]] ++ lb, W1, run_enterLoop_outer _ _ _ _ _, ?_, fun _ _ => trivial, ?_, fun h => Bool.noConfusion h, ?_⟩
  · simp only [resolve, hg]; simp [go_sem]
  · simp [invoke, go_sem, eg]
  refine (hseq (w.heap.size + 1) (fun pre W => I pre W ∧ Marks .ready none W) (fun pre W => Ix pre W ∧ Marks .done (some .ret) W) W1 b1
    (fun pre V v h => ⟨hIo pre V v h.1, (Below.heap_setCell V ⟨own, 0, none⟩ v (w.heap.size + 1) (show w.heap.size + 1 ≠ own by omega)).trans h.2.1, (Below.heap_setCell V ⟨own, 0, none⟩ v w.heap.size (show w.heap.size ≠ own by omega)).trans h.2.2⟩)
    ?_ ⟨i1, m1⟩).mono ?_
  · -- a round
    rintro pre x V ⟨hi, hm⟩ hlen
    have hlt : w.heap.size + 1 < V.heap.size := (Array.getElem?_eq_some_iff.1 hm.1).1
    let V2 : World := V.putObj (w.heap.size + 1) (.loop (r .busy none))
    have m2 : Marks .busy none V2 := turn .ready none .busy none V hm
    have k2 : Kp V V2 := hKb _ _ _ _ (by omega) hm.1 rfl rfl
    refine ⟨fn, _, assign, body, run_yield (P := P) (args := encs x) hm.1 (hps x), roundIn_of_wpIn hfn (hassign _ x V _ ⟨V2, run_beginRound hm.1 rfl, ?_⟩)⟩
    refine wpIn_mono (hbody _ pre x V2 (hI.putObj _ hi (by omega) hm.1 rfl) hlen) ?_
    intro e a3 V3 hp
    match e, hp with
    | .normal, ⟨hk3, hkp, hi3⟩ =>
      have m3 : Marks .busy none V3 := ⟨hk3.same _ _ (by omega) m2.1 rfl, hk3.same _ _ (Nat.le_refl _) m2.2 rfl⟩
      exact ⟨_, _, run_endRound (P := P) none m3.1, .inl ⟨rfl, ⟨hI.putObj _ hi3 (by omega) m3.1 rfl, turn .busy none .ready none V3 m3⟩, hKt (hKt k2 hkp) (hKb _ _ _ _ (by omega) m3.1 rfl rfl)⟩⟩
    | .ret, ⟨hk3, hi3⟩ =>
      have m3 : Marks .busy none V3 := ⟨hk3.same _ _ (by omega) m2.1 rfl, hk3.same _ _ (Nat.le_refl _) m2.2 rfl⟩
      exact ⟨_, _, run_endRound (P := P) (some .ret) m3.1, .inr ⟨rfl, hIx.putObj _ hi3 (by omega) m3.1 rfl, turn .busy none .done (some .ret) V3 m3⟩⟩
  · -- behind the iterator
    rintro e W2 ⟨⟨v, rfl⟩, (⟨xs, hS, hi, hm⟩ | ⟨pre, hSp, hi, hm⟩)⟩
    · exact ⟨none, _, run_endLoop (P := P) hm.1 (by simp [r]), hdone _ xs _ (Nat.le_refl _) hS (hI.putObj _ hi (by omega) hm.1 rfl) ((World.putObj_heap_other (by omega)).trans hm.2)⟩
    · exact ⟨some .ret, _, run_endLoop (P := P) hm.1 (by simp [r]), hstop _ pre _ (Nat.le_refl _) hSp (hIx.putObj _ hi (by omega) hm.1 rfl) ((World.putObj_heap_other (by omega)).trans hm.2)⟩
end Go.Proofs.YtkhfingenjlpfaaGreatDoor.Ce
