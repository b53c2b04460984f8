/-
  The landed package rules: Parse.
-/
import Derived.Test.YtkhfingenjlpfaaGreatDoorRvF
import Derived.Maps.AppendAt
import Derived.Deep.AppendLies
import Derived.Sort.CutIn
namespace Go.Proofs.YtkhfingenjlpfaaGreatDoor.Ru
open Go.RowKit Go.Shelf Ba
attribute [local go_sem] Oper.semAt_some

/-! ### what the lines say, one by one -/
def stepS (acc : List Rl) (x : Nat × ByteArray) : Option (List Rl) := match ruleA psC (bytesN x.2) (x.1 : Int) with
  | none => none
  | some r => if acc.length = 400 then none else some (acc ++ [r])
def okS : List (Nat × ByteArray) → List Rl → Option (List Rl)
  | [], acc => some acc
  | x :: m, acc => match stepS acc x with | none => none | some a => okS m a
def goS : List (Nat × ByteArray) → List Rl → List Rl × Nat × Nat
  | [], acc => (acc, 0, 0)
  | x :: m, acc => match ruleA psC (bytesN x.2) (x.1 : Int) with
    | none => ([], x.1, 6)
    | some r => if acc.length = 400 then ([], x.1, 4) else goS m (acc ++ [r])
theorem goS_none {x : Nat × ByteArray} (h : ruleA psC (bytesN x.2) (x.1 : Int) = none) (m : List (Nat × ByteArray)) (acc : List Rl) : goS (x :: m) acc = ([], x.1, 6) := by
  show (match ruleA psC (bytesN x.2) (x.1 : Int) with | none => _ | some r => _) = _
  rw [h]
theorem goS_some {x : Nat × ByteArray} {r : Rl} (h : ruleA psC (bytesN x.2) (x.1 : Int) = some r) (m : List (Nat × ByteArray)) (acc : List Rl) : goS (x :: m) acc = if acc.length = 400 then ([], x.1, 4) else goS m (acc ++ [r]) := by
  show (match ruleA psC (bytesN x.2) (x.1 : Int) with | none => _ | some r => _) = _
  rw [h]
theorem stepS_some {x : Nat × ByteArray} {r : Rl} {acc : List Rl} (h : ruleA psC (bytesN x.2) (x.1 : Int) = some r) (h4 : acc.length ≠ 400) : stepS acc x = some (acc ++ [r]) := by
  unfold stepS; rw [h]; show (if acc.length = 400 then _ else _) = _; rw [if_neg h4]
theorem stepS_inv {x : Nat × ByteArray} {acc a : List Rl} (h : stepS acc x = some a) : ∃ r, ruleA psC (bytesN x.2) (x.1 : Int) = some r ∧ acc.length ≠ 400 ∧ a = acc ++ [r] := by
  unfold stepS at h
  cases e : ruleA psC (bytesN x.2) (x.1 : Int) with
  | none => rw [e] at h; cases h
  | some r =>
    rw [e] at h
    have h : (if acc.length = 400 then none else some (acc ++ [r])) = some a := h
    by_cases h4 : acc.length = 400
    · rw [if_pos h4] at h; cases h
    · rw [if_neg h4] at h; cases h; exact ⟨r, rfl, h4, rfl⟩
theorem okS_snoc : ∀ (l : List (Nat × ByteArray)) (x : Nat × ByteArray) (acc a a' : List Rl), okS l acc = some a → stepS a x = some a' → okS (l ++ [x]) acc = some a'
  | [], x, acc, a, a', h, h2 => by
    cases h
    show (match stepS acc x with | none => none | some a => okS [] a) = _
    rw [h2]; rfl
  | y :: l, x, acc, a, a', h, h2 => by
    have h : (match stepS acc y with | none => none | some a => okS l a) = some a := h
    show (match stepS acc y with | none => none | some a => okS (l ++ [x]) a) = _
    cases e : stepS acc y with
    | none => rw [e] at h; cases h
    | some b => rw [e] at h; exact okS_snoc l x b a a' h h2
theorem goS_app : ∀ (l m : List (Nat × ByteArray)) (acc a : List Rl), okS l acc = some a → goS (l ++ m) acc = goS m a
  | [], m, acc, a, h => by cases h; rfl
  | y :: l, m, acc, a, h => by
    have h : (match stepS acc y with | none => none | some a => okS l a) = some a := h
    cases e : stepS acc y with
    | none => rw [e] at h; cases h
    | some b =>
      rw [e] at h
      obtain ⟨r, hr, h4, rfl⟩ := stepS_inv e
      show goS (y :: (l ++ m)) acc = _
      rw [goS_some hr, if_neg h4]
      exact goS_app l m _ a h
theorem okS_len : ∀ (l : List (Nat × ByteArray)) (acc a : List Rl), acc.length ≤ 400 → okS l acc = some a → a.length ≤ 400
  | [], acc, a, h0, h => by cases h; exact h0
  | y :: l, acc, a, h0, h => by
    have h : (match stepS acc y with | none => none | some a => okS l a) = some a := h
    cases e : stepS acc y with
    | none => rw [e] at h; cases h
    | some b =>
      rw [e] at h
      obtain ⟨r, hr, h4, rfl⟩ := stepS_inv e
      exact okS_len l _ a (by rw [List.length_append]; show acc.length + 1 ≤ 400; omega) h
theorem says_iff (t : List Nat) : (t = [] ∨ t.head? = some 35) ↔ saysB t = false := by
  unfold saysB
  by_cases h1 : t = []
  · subst h1; simp
  · by_cases h2 : t.head? = some 35
    · rw [h2]; simp
    · simp [h1, h2]
theorem goP_says (s : ByteArray) : ∀ (l : List (Sp.Pt s)) (n : Nat) (acc : List Rl), goP psC (l.map fun x => bytesN (s.extract x.1.1 x.1.2)) (n + 1) acc = goS (saysL s l n) acc
  | [], n, acc => rfl
  | x :: l, n, acc => by
    rw [List.map_cons]
    by_cases h : saysB (bytesN (s.extract x.1.1 x.1.2)) = true
    · have e : saysL s (x :: l) n = (n + 1, s.extract x.1.1 x.1.2) :: saysL s l (n + 1) := by
        show (if saysB (bytesN (s.extract x.1.1 x.1.2)) then _ else _) = _
        rw [if_pos h]
      have hs : ¬ (bytesN (s.extract x.1.1 x.1.2) = [] ∨ (bytesN (s.extract x.1.1 x.1.2)).head? = some 35) := fun k => by rw [(says_iff _).1 k] at h; cases h
      rw [e]
      cases hr : ruleA psC (bytesN (s.extract x.1.1 x.1.2)) ((n + 1 : Nat) : Int) with
      | none => rw [go_bad hs hr, goS_none (x := (n + 1, s.extract x.1.1 x.1.2)) hr]
      | some r =>
        rw [go_rule hs hr, goS_some (x := (n + 1, s.extract x.1.1 x.1.2)) hr]
        by_cases h4 : acc.length = 400
        · rw [if_pos h4, if_pos h4]
        · rw [if_neg h4, if_neg h4]
          exact goP_says s l (n + 1) _
    · have h : saysB (bytesN (s.extract x.1.1 x.1.2)) = false := by simpa using h
      have e : saysL s (x :: l) n = saysL s l (n + 1) := by
        show (if saysB (bytesN (s.extract x.1.1 x.1.2)) then _ else _) = _
        rw [if_neg (by rw [h]; exact Bool.false_ne_true)]
      rw [e, go_skip ((says_iff _).2 h)]
      exact goP_says s l (n + 1) acc
theorem parseZ_says (s : ByteArray) (h : s.size ≤ 65536) : parseZ s = goS (saysA s) [] := by
  unfold parseZ parseR saysA
  rw [if_neg (by rw [bytesN_len]; omega), ← goP_says s (Sp.partsA 10 s 0) 0 [], parts_split 10 s (s.size + 1) 0 (by omega) (Nat.zero_le _), List.drop_zero]
  rfl
/-- What Parse's cells hold between two rounds. -/
structure PsI (w : World) (pre : List (Nat × ByteArray)) (acc : List Rl) (v : Value) (V : World) : Prop where
  ok : okS pre [] = some acc
  b0 : Boxed V w.heap.size 23 v
  own : V.ownsRow (w.heap.size + 4) 39 5 v acc.length (rows cR acc)
  b1 : Boxed V (w.heap.size + 1) 3 (.int .i64 0)
  b2 : Boxed V (w.heap.size + 1 + 1) 24 (.int .i64 0)
  bel : Below w.heap.size w V
  z : w.heap.size + 4 ≤ V.heap.size
/-- A round that does not go on. -/
def PsX (w : World) (s : ByteArray) (V : World) : Prop := ∃ n e, parseZ s = ([], n, e) ∧ Boxed V w.heap.size 23 (.slice none 0 0) ∧ Boxed V (w.heap.size + 1) 3 (.int .i64 ((n : Nat) : Int)) ∧ Boxed V (w.heap.size + 1 + 1) 24 (.int .i64 ((e : Nat) : Int)) ∧ Below w.heap.size w V
theorem own_grown {W W' : World} {B e size n : Nat} {v : Value} {xs : List Value} (h : W.ownsRow B e size v n xs) {row : Option Nat} (hg : W.grownBy W' row) (hr : ∀ r, row = some r → ∃ o : Obj, W.heap[r]? = some o ∧ o.isCells = false) : W'.ownsRow B e size v n xs := by
  refine ⟨h.1, ?_⟩
  rcases h.2 with hn | ⟨g, cap, cur, hv, hb, hgg, rest⟩
  · exact .inl hn
  · refine .inr ⟨g, cap, cur, hv, hb, (hg.block g (Array.getElem?_eq_some_iff.1 hgg).1 (fun ej => ?_)).trans hgg, rest⟩
    obtain ⟨o, ho, hc⟩ := hr g ej.symm
    rw [hgg] at ho; cases ho; cases hc
theorem own_far {W : World} {B e size n : Nat} {v : Value} {xs : List Value} (h : W.ownsRow B e size v n xs) {a : Addr} {cs : Array Value} {fr : Nat × Nat} {T : TypeId} (ha : W.heap[a.block]? = some (.cells cs T fr)) (hT : T ≠ e) (u : Value) : (W.setCell a u).ownsRow B e size v n xs := by
  refine ⟨h.1, ?_⟩
  rcases h.2 with hn | ⟨g, cap, cur, hv, hb, hgg, rest⟩
  · exact .inl hn
  · refine .inr ⟨g, cap, cur, hv, hb, (Below.heap_setCell W a u g (fun ej => ?_)).trans hgg, rest⟩
    rw [ej] at hgg
    rw [ha] at hgg
    injection hgg with hgg
    injection hgg with _ e2 _
    exact hT e2
section
variable {w : World} {pre : List (Nat × ByteArray)} {acc : List Rl} {v : Value} {V V' : World}
theorem PsI.below (h : PsI w pre acc v V) (hb : Below V.heap.size V V') : PsI w pre acc v V' :=
  ⟨h.ok, (hb.block _ h.b0.lt).trans h.b0, own_below h.own hb, (hb.block _ h.b1.lt).trans h.b1, (hb.block _ h.b2.lt).trans h.b2, chain h.bel h.bel.size hb, Nat.le_trans h.z hb.size⟩
theorem PsI.grown (h : PsI w pre acc v V) {row : Option Nat} (hg : V.grownBy V' row) (hr : ∀ r, row = some r → w.heap.size + 4 ≤ r ∧ ∃ o : Obj, V.heap[r]? = some o ∧ o.isCells = false) : PsI w pre acc v V' :=
  ⟨h.ok, h.b0.kept hg (fun e => by have := (hr _ e.symm).1; omega), own_grown h.own hg (fun r e => (hr r e).2), h.b1.kept hg (fun e => by have := (hr _ e.symm).1; omega), h.b2.kept hg (fun e => by have := (hr _ e.symm).1; omega), h.bel.grown hg h.bel.size (fun j ej => by have := (hr _ ej).1; omega), Nat.le_trans h.z hg.size⟩
theorem PsI.plain (h : PsI w pre acc v V) {a : Addr} (hp : Ra.Plain (w.heap.size + 4) V a) (u : Value) : PsI w pre acc v (V.setCell a u) := by
  obtain ⟨h1, cs, fr, T, h2, h3⟩ := hp
  have far : ∀ {B : Nat} {t : TypeId} {x : Value}, B < w.heap.size + 4 → Boxed V B t x → Boxed (V.setCell a u) B t x := fun hB hx => (Below.heap_setCell V a u _ (by omega)).trans hx
  exact ⟨h.ok, far (by omega) h.b0, own_far h.own h2 (by rcases h3 with rfl | rfl <;> decide) u, far (by omega) h.b1, far (by omega) h.b2, h.bel.setCell (p := a) (by omega) u, by rw [World.size_setCell]; exact h.z⟩
theorem PsX.grown {s : ByteArray} (h : PsX w s V) {row : Option Nat} (hg : V.grownBy V' row) (hr : ∀ r, row = some r → w.heap.size + 4 ≤ r ∧ ∃ o : Obj, V.heap[r]? = some o ∧ o.isCells = false) : PsX w s V' := by
  obtain ⟨n, e, h1, h2, h3, h4, h5⟩ := h
  exact ⟨n, e, h1, h2.kept hg (fun e => by have := (hr _ e.symm).1; omega), h3.kept hg (fun e => by have := (hr _ e.symm).1; omega), h4.kept hg (fun e => by have := (hr _ e.symm).1; omega), h5.grown hg h5.size (fun j ej => by have := (hr _ ej).1; omega)⟩
/-- The results are set. -/
theorem PsI.fail {s : ByteArray} (h : PsI w pre acc v V) (n e : Nat) (hz : parseZ s = ([], n, e)) (B : Nat) :
    KeepsFrom B V (((V.setCell ⟨w.heap.size, 0, none⟩ (.slice none 0 0)).setCell ⟨w.heap.size + 1, 0, none⟩ (.int .i64 ((n : Nat) : Int))).setCell ⟨w.heap.size + 1 + 1, 0, none⟩ (.int .i64 ((e : Nat) : Int))) ∧
    PsX w s (((V.setCell ⟨w.heap.size, 0, none⟩ (.slice none 0 0)).setCell ⟨w.heap.size + 1, 0, none⟩ (.int .i64 ((n : Nat) : Int))).setCell ⟨w.heap.size + 1 + 1, 0, none⟩ (.int .i64 ((e : Nat) : Int))) :=
  ⟨(((KeepsOthers.setCell _ _ _).trans (KeepsOthers.setCell _ _ _)).trans (KeepsOthers.setCell _ _ _)).from _, n, e, hz,
    ((h.b0.set (.slice none 0 0)).other (B' := w.heap.size + 1) (by omega) _).other (B' := w.heap.size + 1 + 1) (by omega) _,
    ((h.b1.other (B' := w.heap.size) (by omega) (.slice none 0 0)).set (.int .i64 ((n : Nat) : Int))).other (B' := w.heap.size + 1 + 1) (by omega) _,
    ((h.b2.other (B' := w.heap.size) (by omega) (.slice none 0 0)).other (B' := w.heap.size + 1) (by omega) _).set _,
    ((h.bel.setCell (p := ⟨w.heap.size, 0, none⟩) (Nat.le_refl _) _).setCell (p := ⟨w.heap.size + 1, 0, none⟩) (by show w.heap.size ≤ w.heap.size + 1; omega) _).setCell (p := ⟨w.heap.size + 1 + 1, 0, none⟩) (by show w.heap.size ≤ w.heap.size + 1 + 1; omega) _⟩
end
theorem capsG_nil : CapsR (.slice none 0 0) := fun A m c ee => by injection ee with _ e1 e2; subst e1; subst e2; exact ⟨Nat.le_refl _, by decide⟩
theorem capsG {W : World} {B e size n : Nat} {v : Value} {xs : List Value} (h : W.ownsRow B e size v n xs) : CapsR v := fun A m c hv => by
  rcases h.2 with ⟨h1, h0⟩ | ⟨g, c', _, h1, _, _, hc, hc2, _⟩
  · rw [h1] at hv; injection hv with _ a b; subst a; subst b; exact ⟨Nat.le_refl _, by decide⟩
  · rw [h1] at hv; injection hv with _ a b; subst a; subst b; exact ⟨hc, hc2⟩
theorem saysL_size (s : ByteArray) : ∀ (l : List (Sp.Pt s)) (n : Nat), ∀ x ∈ saysL s l n, x.2.size ≤ s.size
  | [], n, x, h => by cases h
  | y :: l, n, x, h => by
    have h : x ∈ (if saysB (bytesN (s.extract y.1.1 y.1.2)) then (n + 1, s.extract y.1.1 y.1.2) :: saysL s l (n + 1) else saysL s l (n + 1)) := h
    split at h
    · rcases List.mem_cons.1 h with rfl | h
      · show (s.extract y.1.1 y.1.2).size ≤ s.size
        rw [ext_size s _ _ y.2.2]; have := y.2.2; omega
      · exact saysL_size s l (n + 1) x h
    · exact saysL_size s l (n + 1) x h
section
variable {w : World} {pre : List (Nat × ByteArray)} {acc : List Rl} {v v' : Value} {V V5 : World} {X Tmp : Obj}
theorem PsI.mid (h : PsI w pre acc v V) (hg : ((V.alloc X).alloc Tmp).grownBy V5 v.ownBlock) : Boxed V5 w.heap.size 23 v := by
  have hb4 : Below V.heap.size V ((V.alloc X).alloc Tmp) := ((Below.refl _ V).alloc (Nat.le_refl _) _).alloc (by simp) _
  have h4 := h.below hb4
  exact h4.b0.kept hg (fun e => by have := (h4.own.lt _ e.symm).1; omega)
/-- A round: the store behind an append. -/
theorem PsI.step (h : PsI w pre acc v V) {x : Nat × ByteArray} {r : Rl} (hs : stepS acc x = some (acc ++ [r])) (hown : V5.ownsRow (w.heap.size + 4) 39 5 v' (acc.length + 1) (rows cR acc ++ cR r)) (hg : ((V.alloc X).alloc Tmp).grownBy V5 v.ownBlock) :
    PsI w (pre ++ [x]) (acc ++ [r]) v' (V5.setCell ⟨w.heap.size, 0, none⟩ v') ∧ (∀ B, KeepsFrom B V (V5.setCell ⟨w.heap.size, 0, none⟩ v')) ∧ ∀ n1, Ra.KpA ArR n1 V (V5.setCell ⟨w.heap.size, 0, none⟩ v') := by
  have hb4 : Below V.heap.size V ((V.alloc X).alloc Tmp) := ((Below.refl _ V).alloc (Nat.le_refl _) _).alloc (by simp) _
  have h4 := h.below hb4
  have b0 := h.mid hg
  have hrow : ∀ g, v.ownBlock = some g → w.heap.size + 4 ≤ g ∧ ∃ cs fr, ((V.alloc X).alloc Tmp).heap[g]? = some (.cells cs 39 fr) := fun g e => by
    refine ⟨(h4.own.lt _ e).1, ?_⟩
    rcases h4.own.2 with ⟨rfl, _⟩ | ⟨g', cap, cur, rfl, _, hgb, _⟩
    · simp [Value.ownBlock] at e
    · obtain rfl : g' = g := by simpa [Value.ownBlock] using e
      exact ⟨_, _, hgb⟩
  have hbW : Below w.heap.size w V5 := h4.bel.grown hg h4.bel.size (fun j ej => by have := (hrow j ej).1; omega)
  refine ⟨⟨okS_snoc _ _ _ _ _ h.ok hs, b0.set v', ?_, ?_, ?_, hbW.setCell (p := ⟨w.heap.size, 0, none⟩) (Nat.le_refl _) v', ?_⟩, fun B => ?_, fun n1 => ?_⟩
  · rw [List.length_append, rows_snoc]
    exact ownsRow_setCell_below hown (by show w.heap.size < w.heap.size + 4; omega) _
  · exact (h4.b1.kept hg (fun e => by have := (hrow _ e.symm).1; omega)).other (by omega) _
  · exact (h4.b2.kept hg (fun e => by have := (hrow _ e.symm).1; omega)).other (by omega) _
  · rw [World.size_setCell]; exact Nat.le_trans h4.z hg.size
  · refine ((((KeepsOthers.alloc V X).trans (KeepsOthers.alloc _ Tmp)).trans (KeepsOthers.of_grownBy hg fun j o ej hj => ?_)).trans (KeepsOthers.setCell _ _ _)).from _
    obtain ⟨-, cs, fr, e⟩ := hrow j ej
    rw [e] at hj; cases hj; rfl
  · refine ((Ra.KpA.of hb4).trans (Ra.KpA.grown hg fun r e => ?_)).trans (Ra.KpA.set (a := ⟨w.heap.size, 0, none⟩) b0 (.inl rfl) v')
    obtain ⟨-, cs, fr, e2⟩ := hrow r e
    exact ⟨cs, _, fr, e2, .inr rfl⟩
end
theorem ret_pz {v : Value} {a b c d : Int} (h1 : a = c) (h2 : b = d) : Ending.returned (.tuple #[v, .int .i64 a, .int .i64 b]) = .returned (.tuple #[v, .int .i64 c, .int .i64 d]) := by rw [h1, h2]
/-- rules.lines -/
theorem lines0_any (s : ByteArray) (w : World) :
    Calls Tryz.prog 25 #[.string s] w fun e w' => e = .returned (.func (.func 41) #[] #[.pointer (some ⟨w.heap.size, 0, none⟩)]) ∧ w' = w.alloc (.cells #[.string s] 9) := by
  go_enter Tryz.func25, Tryz.ntmps25
  go_wp2
  go_ret
  exact ⟨rfl, rfl⟩
/-- How Parse ends. -/
def ParseTo (s : ByteArray) (w : World) (e : Ending) (w' : World) : Prop :=
  ∃ v, e = .returned (.tuple #[v, .int .i64 (((parseZ s).2.1 : Nat) : Int), .int .i64 (((parseZ s).2.2 : Nat) : Int)]) ∧ ReadsR 0 w' w'.heap.size v (parseZ s).1 ∧ CapsR v ∧ Below w.heap.size w w'
set_option maxRecDepth 100000 in
set_option maxHeartbeats 8000000 in
/-- rules.Parse, of a text that is too long -/
theorem parse_big (s : ByteArray) (hs : 65536 < s.size) (_hm : s.size ≤ maxLen) (w : World) :
    Calls Tryz.prog 7 #[.string s] w (ParseTo s w) := by
  have hz : parseZ s = ([], 0, 4) := by unfold parseZ parseR; rw [if_pos (by rw [bytesN_len]; exact hs)]
  unfold ParseTo
  rw [hz]
  have t1 : decide (65536 < (s.size : Int)) = true := decide_eq_true (by omega)
  unfold maxLen at _hm
  go_enter Tryz.func7, Tryz.ntmps7
  go_wp2
  refine bodyPost_ret (v := .tuple #[.slice none 0 0, .int .i64 0, .int .i64 4]) (by simp [results, Tryz.f7, go_sem]) rfl ?_
  exact ⟨_, rfl, Reads.nil _ _ _, capsG_nil, (((Below.refl _ w).alloc (Nat.le_refl _) _).alloc (by simp) _).alloc (by simp; omega) _⟩
set_option maxRecDepth 100000 in
set_option maxHeartbeats 8000000 in
/-- rules.Parse -/
theorem parse_small (s : ByteArray) (hs : s.size ≤ 65536) (w : World) (hL : LaidR w) :
    Calls Tryz.prog 7 #[.string s] w (ParseTo s w) := by
  have hfn : ∀ f, Fence.wide.fn f := fun _ => trivial
  obtain ⟨i0, hi, hz0, hz1, hz2⟩ := info_parts infoR
  have hLN := hL.1
  have HL := Lib.hid hL
  have t1 : decide (65536 < (s.size : Int)) = false := decide_eq_false (by omega)
  clear hL
  refine (callsIn_wide (n := 6)).1 ?_
  refine callsIn_of_wp_marks Tryz.func7 rfl trivial ?_ rfl
  simp only [Tryz.ntmps7, List.size_toArray, List.length_cons, List.length_nil, Nat.reduceAdd, Nat.reduceSub, Array.replicate_succ, Array.replicate_zero, List.push_toArray, List.append_toArray, List.nil_append, List.cons_append]
  gi_wp2_with (gi_at_call 25; refine (callsIn_wide.2 (lines0_any s _)).mono ?_; rintro e w' ⟨rfl, rfl⟩)
  obtain ⟨W0, hW0⟩ : ∃ W0, ((((w.alloc (.cells #[.slice none 0 0] 23)).alloc (.cells #[.int .i64 0] 3)).alloc (.cells #[.int .i64 0] 24)).alloc (.cells #[.string s] 9)) = W0 := ⟨_, rfl⟩
  have hsz : W0.heap.size = w.heap.size + 4 := by rw [← hW0]; simp
  have hI0 : PsI w [] [] (.slice none 0 0) W0 := by
    rw [← hW0]
    refine ⟨rfl, (((Boxed.new w _ _).alloc _).alloc _).alloc _, World.ownsRow_nil _ _ _ _, ?_, ?_, ?_, by simp⟩
    · have := ((Boxed.new (w.alloc (.cells #[.slice none 0 0] 23)) 3 (.int .i64 0)).alloc (.cells #[.int .i64 0] 24)).alloc (.cells #[.string s] 9)
      rwa [World.size_alloc] at this
    · have := (Boxed.new ((w.alloc (.cells #[.slice none 0 0] 23)).alloc (.cells #[.int .i64 0] 3)) 24 (.int .i64 0)).alloc (.cells #[.string s] 9)
      rwa [World.size_alloc, World.size_alloc] at this
    · exact ((((Below.refl _ w).alloc (Nat.le_refl _) _).alloc (by simp) _).alloc (by simp; omega) _).alloc (by simp; omega) _
  have hT0 : Boxed W0 (w.heap.size + 1 + 1 + 1) 9 (.string s) := by
    rw [← hW0]
    have := Boxed.new (((w.alloc (.cells #[.slice none 0 0] 23)).alloc (.cells #[.int .i64 0] 3)).alloc (.cells #[.int .i64 0] 24)) 9 (.string s)
    rwa [World.size_alloc, World.size_alloc, World.size_alloc] at this
  rw [hW0]
  clear hW0
  refine Ra.wpIn_range_typed (gf := 41) (lb := #[.pointer (some ⟨w.heap.size + 1 + 1 + 1, 0, none⟩)]) rfl (enters_of Tryz.func41 (by kernel_rfl) rfl)
    (lines_hands 5 (w.heap.size + 1 + 1 + 1) (by decide) s (by omega) W0 hT0) (fun _ => rfl)
    (fun pre V => ∃ acc v, PsI w pre acc v V) (fun _ V => PsX w s V)
    (fun pre A B row hs' hg hr => by obtain ⟨acc, v, h⟩ := hs'; exact ⟨acc, v, h.grown hg (fun r e => by have := hr r e; exact ⟨by omega, this.2⟩)⟩)
    (fun pre A B row hs' hg hr => PsX.grown hs' hg (fun r e => by have := hr r e; exact ⟨by omega, this.2⟩))
    (fun pre V a u hp hs' => by obtain ⟨acc, v, h⟩ := hs'; exact ⟨acc, v, h.plain (by rw [← hsz]; exact hp) u⟩)
    (fun pre V V' hb hs' => by obtain ⟨acc, v, h⟩ := hs'; exact ⟨acc, v, h.below hb⟩)
    ⟨[], _, hI0⟩
    (fun x => { tmps := #[.string s, undef, .pointer (some ⟨w.heap.size, 0, none⟩), .pointer (some ⟨w.heap.size + 1, 0, none⟩), .pointer (some ⟨w.heap.size + 1 + 1, 0, none⟩), .int .i64 ((x.1 : Nat) : Int), .string x.2, undef, undef, .string s, .int .i64 ((s.size : Nat) : Int), .bool false, .string s,
      .func (.func 41) #[] #[.pointer (some ⟨w.heap.size + 1 + 1 + 1, 0, none⟩)], .int .i64 ((x.1 : Nat) : Int), .string x.2, undef, undef, undef, undef, undef, undef, undef, undef, undef, undef, undef, undef, undef, undef, undef, undef, undef, undef, undef, undef, undef], defers := [] }) ?assign ?body ?done ?stop
  case assign =>
    intro l x V K hK
    dsimp only [encL]
    gi_wp2
    exact hK
  case body =>
    rintro l pre x V ⟨acc, v, hI⟩ hpre
    have hxs : x.2.size ≤ s.size := saysL_size s _ 0 x (hpre.subset (List.mem_append.2 (.inr (List.mem_singleton.2 rfl))))
    have hdec : ∃ rest, saysA s = pre ++ (x :: rest) := by
      obtain ⟨rest, hr⟩ := hpre
      exact ⟨rest, by rw [← hr, List.append_assoc]; rfl⟩
    have hzz := parseZ_says s hs
    obtain ⟨rest, hrest⟩ := hdec
    rw [hrest, goS_app pre (x :: rest) [] acc hI.ok] at hzz
    have hlen := okS_len pre [] acc (Nat.zero_le _) hI.ok
    obtain ⟨m, t⟩ := x
    simp only [] at hxs
    have hro := ruleOf_at t (by omega) V (HL.out.below hI.bel hLN)
    unfold ReadTo at hro
    have hrr := read_rule cellLaw prioZ_dig prioZ_nil (bytesN t) ((m : Nat) : Int)
    obtain ⟨ob, hob⟩ : ∃ ob, (mayR prC (readR psC prioZ (bytesN t)) && lineR prC (readR psC prioZ (bytesN t)) == bytesN t) = ob := ⟨_, rfl⟩
    rw [hob] at hro hrr
    obtain ⟨R, hR⟩ : ∃ R, readR psC prioZ (bytesN t) = R := ⟨_, rfl⟩
    rw [hR] at hro hrr
    obtain ⟨q, a, b, p, l0⟩ := R
    obtain ⟨A, hA⟩ : ∃ A, bytesOf a = A := ⟨_, rfl⟩
    obtain ⟨B, hB⟩ : ∃ B, bytesOf b = B := ⟨_, rfl⟩
    unfold aggR at hro
    rw [hA, hB] at hro
    have HRO := Lib.hid hro
    have HI := Lib.hid hI
    have z0 : w.heap.size + 4 ≤ V.heap.size := hI.z
    clear hro hob hR hI hpre hrest
    cases ob
    · have hn : ruleA psC (bytesN t) ((m : Nat) : Int) = none := hrr
      rw [goS_none (x := (m, t)) hn] at hzz
      have HZ := Lib.hid hzz
      clear hzz hrr hn
      gi_wp2_with (gi_at_call 26; refine (CallsIn.inRound l (callsIn_wide.2 HRO.out)).mono ?_; rintro e V1 ⟨rfl, hb1⟩; have hI1 := HI.out.below (hb1.alloc (Nat.le_trans hb1.size (Nat.le_refl _)) (.cells #[.int .i64 q, .string A, .string B, .int .i64 p, .int .i64 l0] 39)); have c0 := hI1.b0.cell; have f0 := hI1.b0.frozen; have c1 := hI1.b1.cell; have f1 := hI1.b1.frozen; have c2 := hI1.b2.cell; have f2 := hI1.b2.frozen; have HK := Lib.hid (keepsFrom_below (B := W0.heap.size) (hb1.alloc (Nat.le_trans hb1.size (Nat.le_refl _)) (.cells #[.int .i64 q, .string A, .string B, .int .i64 p, .int .i64 l0] 39))); have HI1 := Lib.hid hI1; clear hI1 hb1)
      obtain ⟨k1, k2⟩ := HI1.out.fail m 6 HZ.out W0.heap.size
      exact ⟨HK.out.trans k1, k2⟩
    · have hn : ruleA psC (bytesN t) ((m : Nat) : Int) = some ⟨q, a, b, p, (m : Int)⟩ := hrr
      rw [goS_some (x := (m, t)) hn] at hzz
      by_cases h4 : acc.length = 400
      · rw [if_pos h4] at hzz
        have HZ := Lib.hid hzz
        have H4 := Lib.hid h4
        clear hzz hrr hn
        obtain ⟨g, cap, hv⟩ : ∃ g cap, v = .slice (some ⟨g, 0, none⟩) 400 cap := by
          rcases HI.out.own.2 with ⟨_, h0⟩ | ⟨g, cap, cur, hv, _⟩
          · omega
          · exact ⟨g, cap, by rw [hv, h4]⟩
        subst hv
        clear h4
        gi_wp2_with (gi_at_call 26; refine (CallsIn.inRound l (callsIn_wide.2 HRO.out)).mono ?_; rintro e V1 ⟨rfl, hb1⟩; have hI1 := HI.out.below (hb1.alloc (Nat.le_trans hb1.size (Nat.le_refl _)) (.cells #[.int .i64 q, .string A, .string B, .int .i64 p, .int .i64 l0] 39)); have c0 := hI1.b0.cell; have f0 := hI1.b0.frozen; have c1 := hI1.b1.cell; have f1 := hI1.b1.frozen; have c2 := hI1.b2.cell; have f2 := hI1.b2.frozen; have HK := Lib.hid (keepsFrom_below (B := W0.heap.size) (hb1.alloc (Nat.le_trans hb1.size (Nat.le_refl _)) (.cells #[.int .i64 q, .string A, .string B, .int .i64 p, .int .i64 l0] 39))); have HI1 := Lib.hid hI1; clear hI1 hb1)
        obtain ⟨k1, k2⟩ := HI1.out.fail m 4 HZ.out W0.heap.size
        exact ⟨HK.out.trans k1, k2⟩
      · have HST := Lib.hid (stepS_some (x := (m, t)) hn h4)
        obtain ⟨k, hk⟩ : ∃ k, acc.length = k := ⟨_, rfl⟩
        have HKL := Lib.hid hk
        rw [hk] at hlen h4
        have t4 : ((k : Int) == 400) = false := beq_eq_false_iff_ne.2 (by omega)
        have hvs := HI.out.own.2
        rw [hk] at hvs
        clear hzz hrr hn hk
        rcases hvs with ⟨rfl, -⟩ | ⟨g, cap, cur, rfl, -⟩
        · gi_upto_region 12 with (gi_at_call 26; refine (CallsIn.inRound l (callsIn_wide.2 HRO.out)).mono ?_; rintro e V1 ⟨rfl, hb1⟩; have hI1 := HI.out.below hb1; have c0 := hI1.b0.cell; have lt1 := hI1.b0.lt; have z1 := hI1.z; have own1 := hI1.own; rw [HKL.out] at own1; have HK1 := Lib.hid (keepsFrom_below (B := W0.heap.size) hb1); have HA1 := Lib.hid (Ra.KpA.of (A := ArR) (n1 := W0.heap.size + 2) hb1); have HI1 := Lib.hid hI1; clear hI1 hb1)
          generalize Value.slice none 0 0 = vv at c0 own1 HI1 ⊢
          gi_wp2_with (gi_at_builtin; refine wpListIn_append_own _ rfl _ _ 23 rfl (w.heap.size + 4) 39 i0 _ 5 56 Tryz.underlying23 hi hz0 hz1 hz2 rfl (by decide) _ k (rows cR acc) rfl ((own1.alloc _).alloc _) ⟨V1.heap.size + 1, 0, none⟩ 1 1 [.int .i64 q, .string A, .string B, .int .i64 p, .int .i64 ((m : Nat) : Int)] rfl rfl (World.news_of_block (cs := #[.int .i64 q, .string A, .string B, .int .i64 p, .int .i64 ((m : Nat) : Int)]) (t := 39) (fr := (0, 0)) (by have := World.alloc_heap_new (V1.alloc (.cells #[.int .i64 q, .string A, .string B, .int .i64 p, .int .i64 ((m : Nat) : Int)] 39)) (.cells #[.int .i64 q, .string A, .string B, .int .i64 p, .int .i64 ((m : Nat) : Int)] 39); rwa [World.size_alloc] at this)) (by simp [Value.oneCell']) (by unfold maxLen; omega) (by omega) (by simp; omega) ?_; intro v' V5 hown' hgrow _; obtain ⟨g5, c5, rfl, -⟩ := own_slice hown' (Nat.succ_pos k); have hmid := HI1.out.mid hgrow; have e1 := hmid.cell; have f1 := hmid.frozen; have HS := Lib.hid (HI1.out.step HST.out (by rw [HKL.out]; show V5.ownsRow _ _ _ _ _ (rows cR acc ++ [.int .i64 q, .string (bytesOf a), .string (bytesOf b), .int .i64 p, .int .i64 ((m : Nat) : Int)]); rw [hA, hB]; exact hown') hgrow); clear hmid hown' hgrow)
          obtain ⟨s1, s2, s3⟩ := HS.out
          exact ⟨HK1.out.trans (s2 _), HA1.out.trans (s3 _), _, _, s1⟩
        · gi_upto_region 12 with (gi_at_call 26; refine (CallsIn.inRound l (callsIn_wide.2 HRO.out)).mono ?_; rintro e V1 ⟨rfl, hb1⟩; have hI1 := HI.out.below hb1; have c0 := hI1.b0.cell; have lt1 := hI1.b0.lt; have z1 := hI1.z; have own1 := hI1.own; rw [HKL.out] at own1; have HK1 := Lib.hid (keepsFrom_below (B := W0.heap.size) hb1); have HA1 := Lib.hid (Ra.KpA.of (A := ArR) (n1 := W0.heap.size + 2) hb1); have HI1 := Lib.hid hI1; clear hI1 hb1)
          generalize Value.slice (some ⟨g, 0, none⟩) k cap = vv at c0 own1 HI1 ⊢
          gi_wp2_with (gi_at_builtin; refine wpListIn_append_own _ rfl _ _ 23 rfl (w.heap.size + 4) 39 i0 _ 5 56 Tryz.underlying23 hi hz0 hz1 hz2 rfl (by decide) _ k (rows cR acc) rfl ((own1.alloc _).alloc _) ⟨V1.heap.size + 1, 0, none⟩ 1 1 [.int .i64 q, .string A, .string B, .int .i64 p, .int .i64 ((m : Nat) : Int)] rfl rfl (World.news_of_block (cs := #[.int .i64 q, .string A, .string B, .int .i64 p, .int .i64 ((m : Nat) : Int)]) (t := 39) (fr := (0, 0)) (by have := World.alloc_heap_new (V1.alloc (.cells #[.int .i64 q, .string A, .string B, .int .i64 p, .int .i64 ((m : Nat) : Int)] 39)) (.cells #[.int .i64 q, .string A, .string B, .int .i64 p, .int .i64 ((m : Nat) : Int)] 39); rwa [World.size_alloc] at this)) (by simp [Value.oneCell']) (by unfold maxLen; omega) (by omega) (by simp; omega) ?_; intro v' V5 hown' hgrow _; obtain ⟨g5, c5, rfl, -⟩ := own_slice hown' (Nat.succ_pos k); have hmid := HI1.out.mid hgrow; have e1 := hmid.cell; have f1 := hmid.frozen; have HS := Lib.hid (HI1.out.step HST.out (by rw [HKL.out]; show V5.ownsRow _ _ _ _ _ (rows cR acc ++ [.int .i64 q, .string (bytesOf a), .string (bytesOf b), .int .i64 p, .int .i64 ((m : Nat) : Int)]); rw [hA, hB]; exact hown') hgrow); clear hmid hown' hgrow)
          obtain ⟨s1, s2, s3⟩ := HS.out
          exact ⟨HK1.out.trans (s2 _), HA1.out.trans (s3 _), _, _, s1⟩
  case done =>
    rintro D V hD ⟨acc, v, hI⟩ hK
    have hz := parseZ_says s hs
    have hg := goS_app (saysA s) [] [] acc hI.ok
    rw [List.append_nil] at hg
    rw [hg] at hz
    have HZ := Lib.hid (show parseZ s = (acc, 0, 0) from hz)
    have HI := Lib.hid hI
    obtain ⟨-, a0, own, a1, a2, aB, z⟩ := id hI
    have c0 := a0.cell
    have f0 := a0.frozen
    have c1 := a1.cell
    have f1 := a1.frozen
    have c2 := a2.cell
    have f2 := a2.frozen
    clear hz hg hI a0 a1 a2 aB z
    rcases own.2 with ⟨rfl, -⟩ | ⟨g, cap, cur, rfl, -⟩
    all_goals
      clear own
      obtain ⟨-, a0, own, a1, a2, aB, z⟩ := HI.out
      gi_wp2
      generalize hv : Value.slice _ _ _ = v at a0 own ⊢
      have hK' := (((KeepsOthers.setCell V ⟨w.heap.size, 0, none⟩ v).trans (KeepsOthers.setCell _ ⟨w.heap.size + 1, 0, none⟩ (.int .i64 0))).trans (KeepsOthers.setCell _ ⟨w.heap.size + 1 + 1, 0, none⟩ (.int .i64 0))).same D _ hK rfl
      refine ⟨by simp, .inl ⟨_, _, rfl, run_takeDeferred hK', ?_⟩⟩
      have k0 := cell_kept (((a0.set v).other (B' := w.heap.size + 1) (by omega) (.int .i64 0)).other (B' := w.heap.size + 1 + 1) (by omega) (.int .i64 0)).cell (grownBy_putObj' _ D (.deferred none)) (fun r e => by cases e; exact ⟨_, hK', rfl⟩)
      have k1 := cell_kept (((a1.other (B' := w.heap.size) (by omega) v).set (.int .i64 0)).other (B' := w.heap.size + 1 + 1) (by omega) (.int .i64 0)).cell (grownBy_putObj' _ D (.deferred none)) (fun r e => by cases e; exact ⟨_, hK', rfl⟩)
      have k2 := cell_kept (((a2.other (B' := w.heap.size) (by omega) v).other (B' := w.heap.size + 1) (by omega) (.int .i64 0)).set (.int .i64 0)).cell (grownBy_putObj' _ D (.deferred none)) (fun r e => by cases e; exact ⟨_, hK', rfl⟩)
      have own' := own_grown (ownsRow_setCell_below (ownsRow_setCell_below (ownsRow_setCell_below own (a := ⟨w.heap.size, 0, none⟩) (by show w.heap.size < w.heap.size + 4; omega) v) (a := ⟨w.heap.size + 1, 0, none⟩) (by show w.heap.size + 1 < w.heap.size + 4; omega) (.int .i64 0)) (a := ⟨w.heap.size + 1 + 1, 0, none⟩) (by show w.heap.size + 1 + 1 < w.heap.size + 4; omega) (.int .i64 0)) (grownBy_putObj' _ D (.deferred none)) (fun r e => by cases e; exact ⟨_, hK', rfl⟩)
      refine ⟨.tuple #[v, .int .i64 0, .int .i64 0], ?_, v, ?_, ?_, capsG own, ?_⟩
      · simp [results, Tryz.f7, go_sem, k0, k1, k2]
      · rw [HZ.out]; rfl
      · rw [HZ.out]; exact Reads.of_own (f := cR) (n := 5) cR_len rfl own'
      · exact (((aB.setCell (p := ⟨w.heap.size, 0, none⟩) (Nat.le_refl _) _).setCell (p := ⟨w.heap.size + 1, 0, none⟩) (by show w.heap.size ≤ w.heap.size + 1; omega) _).setCell (p := ⟨w.heap.size + 1 + 1, 0, none⟩) (by show w.heap.size ≤ w.heap.size + 1 + 1; omega) _).trans (belowK_b (w := w) (Nat.le_refl _) _ D _ _ (by omega) hK' rfl rfl)
  case stop =>
    rintro D pre V hD hpre ⟨n, e, hz, a0, a1, a2, aB⟩ hK
    have HZ := Lib.hid hz
    gi_wp2
    refine ⟨by simp, .inl ⟨_, _, rfl, run_takeDeferred hK, ?_⟩⟩
    have k0 := cell_kept a0.cell (grownBy_putObj' _ D (.deferred none)) (fun r e => by cases e; exact ⟨_, hK, rfl⟩)
    have k1 := cell_kept a1.cell (grownBy_putObj' _ D (.deferred none)) (fun r e => by cases e; exact ⟨_, hK, rfl⟩)
    have k2 := cell_kept a2.cell (grownBy_putObj' _ D (.deferred none)) (fun r e => by cases e; exact ⟨_, hK, rfl⟩)
    refine ⟨.tuple #[.slice none 0 0, .int .i64 ((n : Nat) : Int), .int .i64 ((e : Nat) : Int)], ?_, .slice none 0 0, ?_, ?_, ?_, aB.trans (belowK_b (w := w) (Nat.le_refl _) V D _ _ (by omega) hK rfl rfl)⟩
    · simp [results, Tryz.f7, go_sem, k0, k1, k2]
    · rw [HZ.out]
    · rw [HZ.out]; exact Reads.nil _ _ _
    · intro A m c ee; injection ee with _ e1 e2; subst e1; subst e2; exact ⟨Nat.le_refl _, by decide⟩
end Go.Proofs.YtkhfingenjlpfaaGreatDoor.Ru
