/-
  A loop over an iterator that keeps cells of its own, of texts and numbers, that it lays when it is called, and that itself loops over another iterator: the caller's invariant abides stores into cells of such types above the loop's begin, and new memory.
-/
import Derived.Test.YtkhfingenjlpfaaGreatDoorVg
namespace Go.Proofs.YtkhfingenjlpfaaGreatDoor.Ra
open Go.RowKit

/-- A cell of a text or a number that was laid at B or above. -/
def Plain (B : Nat) (W : World) (a : Addr) : Prop := B ≤ a.block ∧ ∃ cs fr T, W.heap[a.block]? = some (.cells cs T fr) ∧ (T = 9 ∨ T = 3)
/-- What a round keeps: cells but those of the types in A; at n1 and above what is no cells. -/
def KpA (A : TypeId → Prop) (n1 : Nat) (V V' : World) : Prop :=
  V.heap.size ≤ V'.heap.size ∧ (∀ (j : Nat) cs T fr, ¬ A T → V.heap[j]? = some (.cells cs T fr) → V'.heap[j]? = some (.cells cs T fr)) ∧ (∀ (j : Nat) (o : Obj), n1 ≤ j → V.heap[j]? = some o → o.isCells = false → V'.heap[j]? = some o)
theorem KpA.refl (A : TypeId → Prop) (n1 : Nat) (V : World) : KpA A n1 V V := ⟨Nat.le_refl _, fun _ _ _ _ _ h => h, fun _ _ _ h _ => h⟩
theorem KpA.trans {A : TypeId → Prop} {n1 : Nat} {X Y Z : World} (h : KpA A n1 X Y) (k : KpA A n1 Y Z) : KpA A n1 X Z :=
  ⟨Nat.le_trans h.1 k.1, fun j cs T fr hA e => k.2.1 j cs T fr hA (h.2.1 j cs T fr hA e), fun j o hj e he => k.2.2 j o hj (h.2.2 j o hj e he) he⟩
theorem KpA.of {A : TypeId → Prop} {n1 : Nat} {V V' : World} (h : Below V.heap.size V V') : KpA A n1 V V' :=
  ⟨h.size, fun j _ _ _ _ e => (h.block j (Array.getElem?_eq_some_iff.1 e).1).trans e, fun j _ _ e _ => (h.block j (Array.getElem?_eq_some_iff.1 e).1).trans e⟩
theorem KpA.set {A : TypeId → Prop} {n1 : Nat} {V : World} {a : Addr} {cs : Array Value} {T : TypeId} {fr : Nat × Nat} (h : V.heap[a.block]? = some (.cells cs T fr)) (hA : A T) (v : Value) : KpA A n1 V (V.setCell a v) :=
  ⟨(KeepsOthers.setCell V a v).size, fun j cs' T' fr' hA' e => (Below.heap_setCell V a v j (fun ej => by subst ej; rw [h] at e; cases e; exact hA' hA)).trans e, fun j o _ e ho => (KeepsOthers.setCell V a v).same j o e ho⟩
theorem KpA.grown {A : TypeId → Prop} {n1 : Nat} {V V' : World} {row : Option Nat} (hg : V.grownBy V' row) (hr : ∀ r, row = some r → ∃ cs T fr, V.heap[r]? = some (.cells cs T fr) ∧ A T) : KpA A n1 V V' :=
  ⟨hg.size, fun j cs T fr hA e => (hg.block j (Array.getElem?_eq_some_iff.1 e).1 (fun ej => by
    obtain ⟨cs', T', fr', e', hA'⟩ := hr j ej.symm
    rw [e] at e'; cases e'; exact hA hA')).trans e, fun j o _ e ho => (hg.block j (Array.getElem?_eq_some_iff.1 e).1 (fun ej => by
    obtain ⟨cs', T', fr', e', _⟩ := hr j ej.symm
    rw [e] at e'; cases e'; cases ho)).trans e⟩

/-- What an iterator owes that hands out ws, at whatever invariant that abides a store into a plain cell laid since the loop's begin, new memory, and other loops' records. -/
def HandsT {α : Type} (P : Program) (n gf : Nat) (lb : Array Value) (encs : α → Array Value) (A : TypeId → Prop) (ws : List α) (w : World) : Prop :=
  ∀ (l : Nat) (J Jx : List α → World → Prop) (W : World), Below w.heap.size w W → w.heap.size + 2 ≤ W.heap.size → (∀ pre V a v, Plain W.heap.size V a → J pre V → J pre (V.setCell a v)) → (∀ pre V V', Below V.heap.size V V' → J pre V → J pre V') →
    OwnFrom W.heap.size J → OwnFrom W.heap.size Jx →
    (∀ pre x V, J pre V → pre ++ [x] <+: ws → YieldAt Fence.wide (n - 2) P l (encs x) V fun e V' =>
      (e = .returned (.bool true) ∧ J (pre ++ [x]) V' ∧ KpA A (w.heap.size + 2) V V') ∨ (e = .returned (.bool false) ∧ Jx (pre ++ [x]) V' ∧ KeepsFrom (w.heap.size + 2) V V')) →
    J [] W →
    CallsIn Fence.wide n P gf (#[.func (.yield l) #[] #[]] ++ lb) W fun e W' => (∃ v, e = .returned v) ∧ (J ws W' ∨ (∃ pre, pre <+: ws ∧ Jx pre W'))

theorem wpIn_range_typed {α : Type} {P : Program} {n gf : Nat} {lb : Array Value} {g : Operand} {ps : Array Tmp} {assign body : Code} {Q : Exit → Act → World → Prop} {a : Act} {w : World}
    (hg : a.eval g = .func (.func gf) #[] lb) (eg : ∀ args w, (callFunc gf args).run P w = .ok (.enter gf args) w)
    {encs : α → Array Value} {A : TypeId → Prop} {ws : List α} (hseq : HandsT P (n - 1) gf lb encs A ws w)
    (hps : ∀ x, (encs x).size = ps.size)
    (I Ix : List α → World → Prop) (hI : OwnFrom w.heap.size I) (hIx : OwnFrom w.heap.size Ix) (hIo : ∀ pre V a v, Plain w.heap.size V a → I pre V → I pre (V.setCell a v)) (hIb : ∀ pre V V', Below V.heap.size V V' → I pre V → I pre V') (h0 : I [] w) (a₁ : α → Act)
    (hassign : ∀ (l : Nat) (x : α) (W : World) (K : Act → World → Prop), K (a₁ x) W →
      assign.wpIn (Fence.wide.inRound l) (n - 1 - 2) P (Exit.then K (fun _ _ _ => False)) { tmps := (ps.zip (encs x)).foldl (fun t (p, v) => t.setIfInBounds p v) a.tmps, defers := [] } W)
    (hbody : ∀ (l : Nat) (pre : List α) (x : α) (W : World), I pre W → pre ++ [x] <+: ws → body.wpIn (Fence.wide.inRound l) (n - 1 - 2) P (leftAs w.heap.size (KpA A (w.heap.size + 2)) I Ix (pre ++ [x]) W) (a₁ x) W)
    (hdone : ∀ (D : Nat) (W : World), w.heap.size ≤ D → I ws W → W.heap[D]? = some (.deferred (some [])) → Q .normal { a with defers := { target := .collected D, args := #[] } :: a.defers } W)
    (hstop : ∀ (D : Nat) (pre : List α) (W : World), w.heap.size ≤ D → pre <+: ws → Ix pre W → W.heap[D]? = some (.deferred (some [])) → Code.ret.wpIn Fence.wide n P Q { a with defers := { target := .collected D, args := #[] } :: a.defers } W) :
    (Code.rangeFunc g ps assign body).wpIn Fence.wide n P Q a w := by
  refine wpIn_rangeFunc fun fn hfn => ?_
  let r : LoopState → Option Code → Loop := fun st pe => { state := st, pending := pe, fn, tmps := a.tmps, params := ps, assign, body, defers := w.heap.size }
  let Marks : LoopState → Option Code → World → Prop := fun st pe W => W.heap[w.heap.size + 1]? = some (.loop (r st pe)) ∧ W.heap[w.heap.size]? = some (.deferred (some []))
  let W1 : World := (w.alloc (.deferred (some []))).alloc (.loop (r .ready none))
  have m1 : Marks .ready none W1 := by
    refine ⟨?_, (Below.heap_alloc _ _ _ (by simp)).trans (World.alloc_heap_new w _)⟩
    have := World.alloc_heap_new (w.alloc (.deferred (some []))) (.loop (r .ready none))
    rwa [World.size_alloc] at this
  have b1 : Below w.heap.size w W1 := ((Below.refl _ w).alloc (Nat.le_refl _) _).alloc (by simp) _
  have s1 : W1.heap.size = w.heap.size + 1 + 1 := by
    show ((w.alloc (.deferred (some []))).alloc (.loop (r .ready none))).heap.size = _
    rw [World.size_alloc, World.size_alloc]
  have i1 : I [] W1 := hI.alloc _ (hI.alloc _ h0)
  have turn : ∀ (st : LoopState) (pe : Option Code) (st' : LoopState) (pe' : Option Code) (W : World), Marks st pe W → Marks st' pe' (W.putObj (w.heap.size + 1) (.loop (r st' pe'))) := fun st pe st' pe' W hm =>
    ⟨World.putObj_heap_same (Array.getElem?_eq_some_iff.1 hm.1).1, (World.putObj_heap_other (by omega)).trans hm.2⟩
  have kmark : ∀ (st : LoopState) (pe : Option Code) (st' : LoopState) (pe' : Option Code) (W : World), Marks st pe W → KpA A (w.heap.size + 2) W (W.putObj (w.heap.size + 1) (.loop (r st' pe'))) := fun st pe st' pe' W hm =>
    ⟨(grownBy_putObj' W (w.heap.size + 1) (.loop (r st' pe'))).size, fun j cs T fr _ e => (World.putObj_heap_other (fun ej => by subst ej; rw [hm.1] at e; cases e)).trans e, fun j o hj e _ => (World.putObj_heap_other (by omega)).trans e⟩
  have mgrow : ∀ (st : LoopState) (pe : Option Code) (V V' : World) (row : Option Nat), Marks st pe V → V.grownBy V' row → (∀ q, row = some q → W1.heap.size ≤ q ∧ ∃ o : Obj, V.heap[q]? = some o ∧ o.isCells = false) → Marks st pe V' := fun st pe V V' row hm hgr hr =>
    ⟨(hgr.block _ (Array.getElem?_eq_some_iff.1 hm.1).1 (fun e => by have := (hr _ e.symm).1; omega)).trans hm.1, (hgr.block _ (Array.getElem?_eq_some_iff.1 hm.2).1 (fun e => by have := (hr _ e.symm).1; omega)).trans hm.2⟩
  refine ⟨w.heap.size + 1, [{ target := .collected w.heap.size, args := #[] }], W1, { target := .fn (.func gf) lb, args := #[] ++ #[.func (.yield (w.heap.size + 1)) #[] #[]] }, W1, gf,
    #[] ++ #[.func (.yield (w.heap.size + 1)) #[] #[]] ++ lb, W1, run_enterLoop_outer _ _ _ _ _, ?_, fun _ _ => trivial, ?_, fun h => Bool.noConfusion h, ?_⟩
  · simp only [resolve, hg]; simp [go_sem]
  · simp [invoke, go_sem, eg]
  have hcall := hseq (w.heap.size + 1) (fun pre W => I pre W ∧ Marks .ready none W) (fun pre W => Ix pre W ∧ Marks .done (some .ret) W) W1 b1 (by omega)
    (fun pre V c v hp h => by
      obtain ⟨hp1, cs, fr, T, hp2, hp3⟩ := hp
      refine ⟨hIo pre V c v ⟨by omega, cs, fr, T, hp2, hp3⟩ h.1, (Below.heap_setCell V c v (w.heap.size + 1) (fun e => ?_)).trans h.2.1, (Below.heap_setCell V c v w.heap.size (by omega)).trans h.2.2⟩
      rw [← e, h.2.1] at hp2; cases hp2)
    (fun pre V V' hb h => ⟨hIb pre V V' hb h.1, (hb.block _ (Array.getElem?_eq_some_iff.1 h.2.1).1).trans h.2.1, (hb.block _ (Array.getElem?_eq_some_iff.1 h.2.2).1).trans h.2.2⟩)
    (fun pre V V' row h hgr hr => ⟨hI pre V V' row h.1 hgr (fun q e => ⟨by have := (hr q e).1; omega, (hr q e).2⟩), mgrow _ _ V V' row h.2 hgr hr⟩)
    (fun pre V V' row h hgr hr => ⟨hIx pre V V' row h.1 hgr (fun q e => ⟨by have := (hr q e).1; omega, (hr q e).2⟩), mgrow _ _ V V' row h.2 hgr hr⟩)
    ?_ ⟨i1, m1⟩
  · refine CallsIn.mono hcall ?_
    rintro e W2 ⟨⟨v, rfl⟩, (⟨hi, hm⟩ | ⟨pre, hSp, hi, hm⟩)⟩
    · exact ⟨none, _, run_endLoop (P := P) hm.1 (by simp [r]), hdone _ _ (Nat.le_refl _) (hI.putObj _ hi (by omega) hm.1 rfl) ((World.putObj_heap_other (by omega)).trans hm.2)⟩
    · exact ⟨some .ret, _, run_endLoop (P := P) hm.1 (by simp [r]), hstop _ pre _ (Nat.le_refl _) hSp (hIx.putObj _ hi (by omega) hm.1 rfl) ((World.putObj_heap_other (by omega)).trans hm.2)⟩
  · rintro pre x V ⟨hi, hm⟩ hpre
    have hlt : w.heap.size + 1 < V.heap.size := (Array.getElem?_eq_some_iff.1 hm.1).1
    let V2 : World := V.putObj (w.heap.size + 1) (.loop (r .busy none))
    have m2 : Marks .busy none V2 := turn .ready none .busy none V hm
    have k2 : KpA A (w.heap.size + 2) V V2 := kmark .ready none .busy none V hm
    refine ⟨fn, _, assign, body, run_yield (P := P) (args := encs x) hm.1 (hps x), roundIn_of_wpIn hfn (hassign _ x V _ ⟨V2, run_beginRound hm.1 rfl, ?_⟩)⟩
    refine wpIn_mono (hbody _ pre x V2 (hI.putObj _ hi (by omega) hm.1 rfl) hpre) ?_
    intro e a3 V3 hp
    match e, hp with
    | .normal, ⟨hk3, hkp, hi3⟩ =>
      have m3 : Marks .busy none V3 := ⟨hk3.same _ _ (by omega) m2.1 rfl, hk3.same _ _ (Nat.le_refl _) m2.2 rfl⟩
      exact ⟨_, _, run_endRound (P := P) none m3.1, .inl ⟨rfl, ⟨hI.putObj _ hi3 (by omega) m3.1 rfl, turn .busy none .ready none V3 m3⟩, (k2.trans hkp).trans (kmark .busy none .ready none V3 m3)⟩⟩
    | .ret, ⟨hk3, hi3⟩ =>
      have m3 : Marks .busy none V3 := ⟨hk3.same _ _ (by omega) m2.1 rfl, hk3.same _ _ (Nat.le_refl _) m2.2 rfl⟩
      have kk : KeepsFrom (w.heap.size + 2) V (V3.putObj (w.heap.size + 1) (.loop (r .done (some .ret)))) := by
        have e1 := kmark .ready none .busy none V hm
        have e3 := kmark .busy none .done (some .ret) V3 m3
        exact ⟨Nat.le_trans e1.1 (Nat.le_trans hk3.size e3.1), fun j o hj e he => e3.2.2 j o hj (hk3.same j o (by omega) (e1.2.2 j o hj e he) he) he⟩
      exact ⟨_, _, run_endRound (P := P) (some .ret) m3.1, .inr ⟨rfl, ⟨hIx.putObj _ hi3 (by omega) m3.1 rfl, turn .busy none .done (some .ret) V3 m3⟩, kk⟩⟩
end Go.Proofs.YtkhfingenjlpfaaGreatDoor.Ra
