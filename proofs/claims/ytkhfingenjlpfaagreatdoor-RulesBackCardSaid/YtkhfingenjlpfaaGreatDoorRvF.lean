/-
  The landed package rules: the lines of a text that say something, handed on one by one.
-/
import Derived.Test.YtkhfingenjlpfaaGreatDoorRvE
import Derived.Test.YtkhfingenjlpfaaGreatDoorRaT
import Derived.Test.YtkhfingenjlpfaaGreatDoorVg
import Derived.Sort.QuietIn
namespace Go.Proofs.YtkhfingenjlpfaaGreatDoor.Ru
open Go.RowKit Go.Shelf Ba
attribute [local go_sem] Oper.semAt_some

/-! ### a text's lines -/
theorem parts_split (c : UInt8) (s : ByteArray) : ∀ n f, s.size + 1 - f ≤ n → f ≤ s.size → (Sp.partsA c s f).map (fun x => bytesN (s.extract x.1.1 x.1.2)) = splitL c.toNat ((bytesN s).drop f)
  | 0, f, hn, hf => by omega
  | n + 1, f, hn, hf => by
    obtain ⟨d1, d2, d3, d4⟩ := Sp.dash_is c s f hf
    rw [Sp.partsA_step c s f hf]
    by_cases hlt : Sp.dash c s f < s.size
    · rw [if_pos hlt, List.map_cons, parts_split c s n (Sp.dash c s f + 1) (by omega) (by omega), split_drop d1 (by rw [bytesN_len]; exact hlt) (d4 hlt) d3, bytesN_ext]
    · rw [if_neg hlt, split_last (fun j h1 h2 => d3 j h1 (by rw [bytesN_len] at h2; omega)), List.map_cons, List.map_nil, bytesN_ext]
      congr 1
      rw [List.take_of_length_le (by rw [List.length_drop, bytesN_len]; show s.size - f ≤ Sp.dash c s f - f; omega)]
/-- Does a line say something? -/
def saysB (t : List Nat) : Bool := !(t == [] || t.head? == some 35)
/-- The lines that say something, with their numbers. -/
def saysL (s : ByteArray) : List (Sp.Pt s) → Nat → List (Nat × ByteArray)
  | [], _ => []
  | x :: r, n => if saysB (bytesN (s.extract x.1.1 x.1.2)) then (n + 1, s.extract x.1.1 x.1.2) :: saysL s r (n + 1) else saysL s r (n + 1)
theorem saysL_snoc (s : ByteArray) (x : Sp.Pt s) : ∀ (l : List (Sp.Pt s)) (n : Nat), saysL s (l ++ [x]) n = saysL s l n ++ if saysB (bytesN (s.extract x.1.1 x.1.2)) then [(n + l.length + 1, s.extract x.1.1 x.1.2)] else []
  | [], n => by
    show (if saysB (bytesN (s.extract x.1.1 x.1.2)) then _ else _) = [] ++ _
    rw [List.nil_append]; rfl
  | y :: l, n => by
    have ih := saysL_snoc s x l (n + 1)
    rw [show n + 1 + l.length + 1 = n + (y :: l).length + 1 by simp only [List.length_cons]; omega] at ih
    show (if saysB (bytesN (s.extract y.1.1 y.1.2)) then (n + 1, _) :: saysL s (l ++ [x]) (n + 1) else saysL s (l ++ [x]) (n + 1)) = (if saysB (bytesN (s.extract y.1.1 y.1.2)) then (n + 1, _) :: saysL s l (n + 1) else saysL s l (n + 1)) ++ _
    rw [ih]
    split <;> rfl
theorem saysL_app (s : ByteArray) : ∀ (l m : List (Sp.Pt s)) (n : Nat), saysL s (l ++ m) n = saysL s l n ++ saysL s m (n + l.length)
  | [], m, n => rfl
  | y :: l, m, n => by
    have ih := saysL_app s l m (n + 1)
    rw [show n + 1 + l.length = n + (y :: l).length by simp only [List.length_cons]; omega] at ih
    show (if saysB (bytesN (s.extract y.1.1 y.1.2)) then (n + 1, _) :: saysL s (l ++ m) (n + 1) else saysL s (l ++ m) (n + 1)) = (if saysB (bytesN (s.extract y.1.1 y.1.2)) then (n + 1, _) :: saysL s l (n + 1) else saysL s l (n + 1)) ++ _
    rw [ih]
    split <;> rfl
theorem saysL_pre (s : ByteArray) {l m : List (Sp.Pt s)} (h : l <+: m) : saysL s l 0 <+: saysL s m 0 := by
  obtain ⟨r, rfl⟩ := h
  exact ⟨_, (saysL_app s l r 0).symm⟩
/-- .. all of them. -/
def saysA (s : ByteArray) : List (Nat × ByteArray) := saysL s (Sp.partsA 10 s 0) 0
/-- What a round is handed: the line's number, and the line. -/
def encL (x : Nat × ByteArray) : Array Value := #[.int .i64 (x.1 : Int), .string x.2]
/-- Rules, and rows of them. -/
def ArR (T : TypeId) : Prop := T = 23 ∨ T = 39
def TyAt (W : World) (b : Nat) (T : TypeId) : Prop := ∃ cs fr, W.heap[b]? = some (.cells cs T fr)
theorem TyAt.below {W W' : World} {b : Nat} {T : TypeId} (h : TyAt W b T) (hb : Below W.heap.size W W') : TyAt W' b T := by
  obtain ⟨cs, fr, e⟩ := h
  exact ⟨cs, fr, (hb.block b (Array.getElem?_eq_some_iff.1 e).1).trans e⟩
theorem TyAt.set {W : World} {b : Nat} {T : TypeId} (h : TyAt W b T) (a : Addr) (v : Value) : TyAt (W.setCell a v) b T := by
  obtain ⟨cs, fr, e⟩ := h
  by_cases hab : b = a.block
  · subst hab
    refine ⟨if a.spot.isSome = true then cs else cs.setIfInBounds a.off v, fr, ?_⟩
    simp [World.setCell, Array.getElem?_modify, e]
  · exact ⟨cs, fr, (Below.heap_setCell W a v b hab).trans e⟩
theorem TyAt.keep {A : TypeId → Prop} {n1 : Nat} {W W' : World} {b : Nat} {T : TypeId} (h : TyAt W b T) (k : Ra.KpA A n1 W W') (hA : ¬ A T) : TyAt W' b T := by
  obtain ⟨cs, fr, e⟩ := h
  exact ⟨cs, fr, k.2.1 b cs T fr hA e⟩
theorem TyAt.grown {W W' : World} {b : Nat} {T : TypeId} {row : Option Nat} (h : TyAt W b T) (hg : W.grownBy W' row) (hr : ∀ r, row = some r → ∃ o : Obj, W.heap[r]? = some o ∧ o.isCells = false) : TyAt W' b T := by
  obtain ⟨cs, fr, e⟩ := h
  refine ⟨cs, fr, (hg.block b (Array.getElem?_eq_some_iff.1 e).1 (fun ej => ?_)).trans e⟩
  obtain ⟨o, ho, hc⟩ := hr b ej.symm
  rw [e] at ho; cases ho; cases hc
theorem notA_string : ¬ ArR 9 := by unfold ArR; decide
theorem notA_int : ¬ ArR 3 := by unfold ArR; decide
theorem notA_func : ¬ ArR 64 := by unfold ArR; decide
/-- What lines' boxes hold between two rounds. -/
structure LnI (J : List (Nat × ByteArray) → World → Prop) (s : ByteArray) (l b : Nat) (pre : List (Sp.Pt s)) (V : World) : Prop where
  j : J (saysL s pre 0) V
  y : Boxed V b 64 (.func (.yield l) #[] #[])
  n : Boxed V (b + 1) 3 (.int .i64 ((pre.length : Nat) : Int))
  t0 : TyAt V (b + 1 + 1) 9
  t1 : TyAt V (b + 1 + 1 + 1) 9
  t2 : TyAt V (b + 1 + 1 + 2) 3
  z : b + 5 ≤ V.heap.size
section
variable {J : List (Nat × ByteArray) → World → Prop} {s : ByteArray} {l b : Nat} {pre : List (Sp.Pt s)} {V V' : World}
theorem LnI.below (hJb : ∀ pre V V', Below V.heap.size V V' → J pre V → J pre V') (h : LnI J s l b pre V) (hb : Below V.heap.size V V') : LnI J s l b pre V' :=
  ⟨hJb _ _ _ hb h.j, (hb.block _ h.y.lt).trans h.y, (hb.block _ h.n.lt).trans h.n, h.t0.below hb, h.t1.below hb, h.t2.below hb, Nat.le_trans h.z hb.size⟩
theorem LnI.grown {B0 : Nat} (hJo : OwnFrom B0 J) (h : LnI J s l b pre V) {row : Option Nat} (hg : V.grownBy V' row) (hr : ∀ r, row = some r → B0 ≤ r ∧ b + 5 ≤ r ∧ ∃ o : Obj, V.heap[r]? = some o ∧ o.isCells = false) : LnI J s l b pre V' :=
  ⟨hJo _ _ _ row h.j hg (fun r e => ⟨(hr r e).1, (hr r e).2.2⟩), h.y.kept hg (fun e => by have := (hr _ e.symm).2.1; omega), h.n.kept hg (fun e => by have := (hr _ e.symm).2.1; omega), h.t0.grown hg (fun r e => (hr r e).2.2), h.t1.grown hg (fun r e => (hr r e).2.2), h.t2.grown hg (fun r e => (hr r e).2.2), Nat.le_trans h.z hg.size⟩
/-- A store into the box of what is left of the text. -/
theorem LnI.own (hJp : ∀ pre V a v, Ra.Plain b V a → J pre V → J pre (V.setCell a v)) (h : LnI J s l b pre V) (v : Value) : LnI J s l b pre (V.setCell ⟨b + 1 + 1, 0, none⟩ v) := by
  obtain ⟨cs, fr, e⟩ := h.t0
  exact ⟨hJp _ _ _ _ ⟨by show b ≤ b + 1 + 1; omega, cs, fr, _, e, .inl rfl⟩ h.j, h.y.other (by omega) v, h.n.other (by omega) v, h.t0.set _ _, h.t1.set _ _, h.t2.set _ _, by rw [World.size_setCell]; exact h.z⟩
/-- The number is counted up. -/
theorem LnI.up (hJp : ∀ pre V a v, Ra.Plain b V a → J pre V → J pre (V.setCell a v)) (h : LnI J s l b pre V) (z : Int) (hz : z = ((pre.length + 1 : Nat) : Int)) :
    J (saysL s pre 0) (V.setCell ⟨b + 1, 0, none⟩ (.int .i64 z)) ∧ Boxed (V.setCell ⟨b + 1, 0, none⟩ (.int .i64 z)) b 64 (.func (.yield l) #[] #[]) ∧ Boxed (V.setCell ⟨b + 1, 0, none⟩ (.int .i64 z)) (b + 1) 3 (.int .i64 ((pre.length + 1 : Nat) : Int)) ∧
      TyAt (V.setCell ⟨b + 1, 0, none⟩ (.int .i64 z)) (b + 1 + 1) 9 ∧ TyAt (V.setCell ⟨b + 1, 0, none⟩ (.int .i64 z)) (b + 1 + 1 + 1) 9 ∧ TyAt (V.setCell ⟨b + 1, 0, none⟩ (.int .i64 z)) (b + 1 + 1 + 2) 3 ∧ b + 5 ≤ (V.setCell ⟨b + 1, 0, none⟩ (.int .i64 z)).heap.size ∧
      (∀ B, KeepsFrom B V (V.setCell ⟨b + 1, 0, none⟩ (.int .i64 z))) ∧ Sp.KeepB (b + 1 + 1) V (V.setCell ⟨b + 1, 0, none⟩ (.int .i64 z)) := by
  subst hz
  exact ⟨hJp _ _ _ _ ⟨by show b ≤ b + 1; omega, _, _, _, h.n, .inr rfl⟩ h.j, h.y.other (by omega) _, h.n.set _, h.t0.set _ _, h.t1.set _ _, h.t2.set _ _, by rw [World.size_setCell]; exact h.z,
    fun B => (KeepsOthers.setCell _ _ _).from _, fun k h1 _ => Below.heap_setCell V _ _ k (by show k ≠ b + 1; omega)⟩
end
theorem saysB_none {t : ByteArray} (h : bytesN t = []) : saysB (bytesN t) = false := by rw [h]; rfl
theorem prefix_hash (t : ByteArray) : Lib.hasPrefix t.data.toList [35] = ((bytesN t).head? == some 35) := by
  unfold Lib.hasPrefix bytesN
  cases h : t.data.toList with
  | nil => rfl
  | cons x r =>
    show (35 == x && List.isPrefixOf [] r) = (some x.toNat == some 35)
    by_cases e : x = 35
    · subst e; rfl
    · have e2 : x.toNat ≠ 35 := fun k => e (UInt8.toNat_inj.1 k)
      rw [beq_eq_false_iff_ne.2 (fun k => e k.symm), beq_eq_false_iff_ne.2 (fun k => e2 (Option.some.inj k))]
      rfl
theorem hp_at (t : ByteArray) (b : Bool) (hb : ((bytesN t).head? == some 35) = b) (w : World) :
    Calls Tryz.prog 43 #[.string t, .string { data := #[35] }] w fun e w' => e = .returned (.bool b) ∧ w = w' :=
  (Tryz.strings_HasPrefix t { data := #[35] } w).mono fun e w' ⟨he, hw⟩ => ⟨by rw [he, ← hb, ← prefix_hash t], hw.symm⟩
theorem yield_more {m m' l : Nat} {args : Array Value} {W : World} {R : Ending → World → Prop} (h : YieldAt Fence.wide m Tryz.prog l args W R) : YieldAt Fence.wide m' Tryz.prog l args W R := by
  obtain ⟨fn, tmps, assign, body, hy, h1, h2⟩ := h
  exact ⟨fn, tmps, assign, body, hy, h1, fun c cs _ => h2 c cs (fun _ h => by simp [Fence.wide] at h)⟩
set_option maxRecDepth 100000 in
set_option maxHeartbeats 8000000 in
/-- What lines gives owes what the law on such iterators asks. -/
theorem lines_hands (n T0 : Nat) (hn : 1 ≤ n) (s : ByteArray) (hs : s.size ≤ 70000) (w : World) (hb : Boxed w T0 9 (.string s)) :
    Ra.HandsT Tryz.prog n 41 #[.pointer (some ⟨T0, 0, none⟩)] encL ArR (saysA s) w := by
  intro l J Jx W hW hW2 hJp hJb hJo hJxo hY h0
  have ht0 : Boxed W T0 9 (.string s) := (hW.block T0 hb.lt).trans hb
  have cT := ht0.cell
  have cTl : T0 < W.heap.size := ht0.lt
  have HT0 := Lib.hid ht0
  clear ht0 hb
  have hfn : ∀ f, Fence.wide.fn f := fun _ => trivial
  refine callsIn_of_wp_marks Tryz.func41 rfl trivial ?_ rfl
  simp only [Tryz.ntmps41, List.size_toArray, List.length_cons, List.length_nil, Nat.reduceAdd, Nat.reduceSub, Array.replicate_succ, Array.replicate_zero, List.push_toArray, List.append_toArray, List.nil_append, List.cons_append]
  gi_wp2_with (gi_at_call 42; refine (callsIn_wide.2 (Sp.split0_any 10 s _)).mono ?_; rintro e w' ⟨rfl, rfl⟩)
  obtain ⟨W0, hW0⟩ : ∃ W0, (((((W.alloc (.cells #[.func (.yield l) #[] #[]] 64)).alloc (.cells #[.int .i64 0] 3)).alloc (.cells #[.string s] 9)).alloc (.cells #[.string { data := #[10] }] 9)).alloc (.cells #[.int .i64 0] 3)) = W0 := ⟨_, rfl⟩
  have hsz : W0.heap.size = W.heap.size + 5 := by rw [← hW0]; simp
  have hz2 : ((W.alloc (.cells #[.func (.yield l) #[] #[]] 64)).alloc (.cells #[.int .i64 0] 3)).heap.size = W.heap.size + 1 + 1 := by simp
  have hI0 : LnI J s l W.heap.size [] W0 := by
    have hbw : Below W.heap.size W W0 := by
      rw [← hW0]
      exact (((((Below.refl _ W).alloc (Nat.le_refl _) _).alloc (by simp) _).alloc (by simp; omega) _).alloc (by simp; omega) _).alloc (by simp; omega) _
    refine ⟨hJb _ _ _ hbw h0, ?_, ?_, ?_, ?_, ?_, by omega⟩
    · rw [← hW0]; exact ((((Boxed.new W _ _).alloc _).alloc _).alloc _).alloc _
    · rw [← hW0]
      have := (((Boxed.new (W.alloc (.cells #[.func (.yield l) #[] #[]] 64)) 3 (.int .i64 0)).alloc (.cells #[.string s] 9)).alloc (.cells #[.string { data := #[10] }] 9)).alloc (.cells #[.int .i64 0] 3)
      rwa [World.size_alloc] at this
    · obtain ⟨X, hX⟩ : ∃ X, ((W.alloc (.cells #[.func (.yield l) #[] #[]] 64)).alloc (.cells #[.int .i64 0] 3)) = X := ⟨_, rfl⟩
      rw [hX] at hz2 hW0
      rw [← hW0, ← hz2]
      exact ⟨_, _, ((Boxed.new X 9 (.string s)).alloc (.cells #[.string { data := #[10] }] 9)).alloc (.cells #[.int .i64 0] 3)⟩
    · obtain ⟨X, hX⟩ : ∃ X, ((W.alloc (.cells #[.func (.yield l) #[] #[]] 64)).alloc (.cells #[.int .i64 0] 3)) = X := ⟨_, rfl⟩
      rw [hX] at hz2 hW0
      rw [← hW0, ← hz2]
      have := (Boxed.new (X.alloc (.cells #[.string s] 9)) 9 (.string { data := #[10] })).alloc (.cells #[.int .i64 0] 3)
      rw [World.size_alloc] at this
      exact ⟨_, _, this⟩
    · obtain ⟨X, hX⟩ : ∃ X, ((W.alloc (.cells #[.func (.yield l) #[] #[]] 64)).alloc (.cells #[.int .i64 0] 3)) = X := ⟨_, rfl⟩
      rw [hX] at hz2 hW0
      rw [← hW0, ← hz2]
      have := Boxed.new ((X.alloc (.cells #[.string s] 9)).alloc (.cells #[.string { data := #[10] }] 9)) 3 (.int .i64 0)
      rw [World.size_alloc, World.size_alloc] at this
      exact ⟨_, _, this⟩
  have hX0 : Sp.Boxes 10 (W.heap.size + 1 + 1) s W0 := by
    obtain ⟨X, hX⟩ : ∃ X, ((W.alloc (.cells #[.func (.yield l) #[] #[]] 64)).alloc (.cells #[.int .i64 0] 3)) = X := ⟨_, rfl⟩
    rw [hX] at hz2 hW0
    rw [← hW0, ← hz2]
    have x1 := ((Boxed.new X 9 (.string s)).alloc (.cells #[.string { data := #[10] }] 9)).alloc (.cells #[.int .i64 0] 3)
    have x2 := (Boxed.new (X.alloc (.cells #[.string s] 9)) 9 (.string { data := #[10] })).alloc (.cells #[.int .i64 0] 3)
    have x3 := Boxed.new ((X.alloc (.cells #[.string s] 9)).alloc (.cells #[.string { data := #[10] }] 9)) 3 (.int .i64 0)
    rw [World.size_alloc] at x2
    rw [World.size_alloc, World.size_alloc] at x3
    exact ⟨x1.cell, x1.frozen, x2.cell, x3.cell⟩
  rw [hW0]
  clear hW0 hz2 h0 cT cTl
  refine Ra.wpIn_range_made (own := fun a => a = ⟨W.heap.size + 1 + 1, 0, none⟩) hn (gf := 85) (fa := #[]) (lb := #[.pointer (some ⟨W.heap.size + 1 + 1 + 1, 0, none⟩), .pointer (some ⟨W.heap.size + 1 + 1, 0, none⟩), .pointer (some ⟨W.heap.size + 1 + 1 + 2, 0, none⟩)]) rfl (enters_of Tryz.func85 (by kernel_rfl) rfl) (fun a ha => by subst ha; show W.heap.size + 1 + 1 < W0.heap.size; omega)
    (Sp.split_hands 10 (n - 1) (W.heap.size + 1 + 1) s hs W0 (by omega) hX0) Sp.KeepB.trans (Sp.keepB_b (by omega)) (fun _ _ _ _ h => h) (fun _ => rfl)
    (fun pre V => LnI J s l W.heap.size pre V) (fun _ V => ∃ q, q <+: saysA s ∧ Jx q V)
    (fun pre A B' row hs' hg hr => LnI.grown hJo hs' hg (fun r e => by have := hr r e; exact ⟨by omega, by omega, this.2⟩))
    (fun pre A B' row hs' hg hr => by obtain ⟨q, hq, hjx⟩ := hs'; exact ⟨q, hq, hJxo _ _ _ row hjx hg (fun r e => by have := hr r e; exact ⟨by omega, this.2⟩)⟩)
    (fun pre V a v ha hs' => by subst ha; exact LnI.own hJp hs' v)
    (fun pre V V' hb hs' => LnI.below hJb hs' hb)
    hI0
    (fun x => { tmps := #[.func (.yield l) #[] #[], .pointer (some ⟨T0, 0, none⟩), .pointer (some ⟨W.heap.size, 0, none⟩), .pointer (some ⟨W.heap.size + 1, 0, none⟩), .string (s.extract x.1.1 x.1.2), .string s,
      .func (.func 85) #[] #[.pointer (some ⟨W.heap.size + 1 + 1 + 1, 0, none⟩), .pointer (some ⟨W.heap.size + 1 + 1, 0, none⟩), .pointer (some ⟨W.heap.size + 1 + 1 + 2, 0, none⟩)],
      .string (s.extract x.1.1 x.1.2), undef, undef, undef, undef, undef, undef, undef, undef, undef, undef, undef, undef, undef], defers := [] }) ?assign ?body ?done ?stop
  case assign =>
    intro l2 x V K hK
    dsimp only [Sp.encP]
    gi_wp2
    exact hK
  case body =>
    rintro l2 pre x V hI hpre
    have hpl : pre.length ≤ 70001 := by
      have h1 := hpre.length_le
      have h2 := Sp.partsA_len 10 s 0
      rw [List.length_append] at h1
      omega
    have hsn := saysL_snoc s x pre 0
    rw [Nat.zero_add] at hsn
    have hpr := saysL_pre s hpre
    rw [hsn] at hpr
    obtain ⟨t, ht⟩ : ∃ t, s.extract x.1.1 x.1.2 = t := ⟨_, rfl⟩
    rw [ht] at hsn hpr ⊢
    have HSN := Lib.hid hsn
    have HPR := Lib.hid hpr
    have hlen9 : (pre ++ [x]).length = pre.length + 1 := by rw [List.length_append]; rfl
    obtain ⟨m, hm⟩ : ∃ m, pre.length = m := ⟨_, rfl⟩
    have HU := Lib.hid (fun z (hz : z = ((m + 1 : Nat) : Int)) => hI.up hJp z (by rw [hm]; exact hz))
    have c0 := hI.n.cell
    have f0 := hI.n.frozen
    rw [hm] at c0 hpl hlen9
    have HM := Lib.hid hm
    have HL9 := Lib.hid hlen9
    have zI : W.heap.size + 5 ≤ V.heap.size := hI.z
    clear hsn hpr hm hlen9 ht hI
    by_cases h0 : t.size = 0
    · obtain rfl : t = { data := #[] } := ByteArray.size_eq_zero_iff.1 h0
      gi_wp2
      obtain ⟨u1, u2, u3, u4, u5, u6, u7, u8, u9⟩ := HU.out ((m : Int) + 1) (by omega)
      exact ⟨u8 _, u9, ⟨by rw [HSN.out, if_neg (by decide), List.append_nil]; exact u1, u2, by rw [HL9.out]; rw [HM.out] at u3; exact u3, u4, u5, u6, u7⟩⟩
    have e0 : t.toList.isEmpty = false := Ce.isEmpty_no t h0
    have hne : bytesN t ≠ [] := fun e => h0 (by rw [← bytesN_len, e]; rfl)
    by_cases h35 : ((bytesN t).head? == some 35) = true
    · have HP := Lib.hid (fun W => hp_at t true h35 W)
      have hsb : saysB (bytesN t) = false := by unfold saysB; rw [h35]; simp
      have HSB := Lib.hid hsb
      clear h35 hsb h0 hne
      gi_wp2
      refine ⟨fun h => Bool.noConfusion h, (CallsIn.inRound l2 (callsIn_wide.2 (HP.out _))).mono ?_⟩
      rintro e w' ⟨rfl, rfl⟩
      gi_wp2
      obtain ⟨u1, u2, u3, u4, u5, u6, u7, u8, u9⟩ := HU.out ((m : Int) + 1) (by omega)
      exact ⟨u8 _, u9, ⟨by rw [HSN.out, if_neg (by rw [HSB.out]; exact Bool.false_ne_true), List.append_nil]; exact u1, u2, by rw [HL9.out]; rw [HM.out] at u3; exact u3, u4, u5, u6, u7⟩⟩
    · have h35 : ((bytesN t).head? == some 35) = false := by simpa using h35
      have HP := Lib.hid (fun W => hp_at t false h35 W)
      have hsb : saysB (bytesN t) = true := by
        unfold saysB
        rw [h35, beq_eq_false_iff_ne.2 hne]; rfl
      have HSB := Lib.hid hsb
      obtain ⟨u1, u2, u3, u4, u5, u6, u7, u8, u9⟩ := HU.out ((m : Int) + 1) (by omega)
      have hsn2 := HSN.out
      rw [if_pos hsb] at hsn2
      have hpr2 := HPR.out
      rw [if_pos hsb] at hpr2
      obtain ⟨fn, tmps, assign, body, hy0, hRd⟩ := yield_more (m' := n - 1 - 1 - 1) (hY (saysL s pre 0) (pre.length + 1, t) _ u1 hpr2)
      rw [HM.out] at u3
      have hy : (Instr.yield l #[.int .i64 ((m : Int) + 1), .string t]).run Tryz.prog (V.setCell ⟨W.heap.size + 1, 0, none⟩ (.int .i64 ((m : Int) + 1))) = .ok (.round l fn tmps assign body) (V.setCell ⟨W.heap.size + 1, 0, none⟩ (.int .i64 ((m : Int) + 1))) := by
        have := hy0
        dsimp only [encL] at this
        rw [HM.out] at this
        exact this
      have e1 : (V.setCell ⟨W.heap.size + 1, 0, none⟩ (.int .i64 ((m : Int) + 1))).cell? ⟨W.heap.size, 0, none⟩ = some (.func (.yield l) #[] #[]) := u2.cell
      have e2 : (V.setCell ⟨W.heap.size + 1, 0, none⟩ (.int .i64 ((m : Int) + 1))).cell? ⟨W.heap.size + 1, 0, none⟩ = some (.int .i64 ((m : Int) + 1)) := u3.cell
      have HRd := Lib.hid hRd
      have HS2 := Lib.hid hsn2
      have HP2 := Lib.hid hpr2
      have HUU := Lib.hid (show _ ∧ _ ∧ _ ∧ _ ∧ _ ∧ _ ∧ _ ∧ _ from ⟨u2, u3, u4, u5, u6, u7, u8, u9⟩)
      clear h35 hsb h0 hne hsn2 hpr2 hy0 hRd u1 u2 u3 u4 u5 u6 u7 u8 u9
      gi_wp2
      refine ⟨fun h => Bool.noConfusion h, (CallsIn.inRound l2 (callsIn_wide.2 (HP.out _))).mono ?_⟩
      rintro e w' ⟨rfl, rfl⟩
      gi_wp2
      refine ⟨fun h => Bool.noConfusion h, RoundIn.mono (show RoundIn (Fence.wide.inRound l2) _ _ _ _ _ _ _ _ _ from HRd.out) ?_⟩
      clear hy e1 e2
      rintro e V2 (⟨rfl, hj2, hk2⟩ | ⟨rfl, hjx2, hk2⟩)
      · gi_wp2
        obtain ⟨u2, u3, u4, u5, u6, u7, u8, u9⟩ := HUU.out
        refine ⟨(u8 _).trans ⟨hk2.1, fun j o hj e he => hk2.2.2 j o (by omega) e he⟩, ?_, ⟨by rw [HS2.out]; exact hj2, ?_, ?_, u4.keep hk2 notA_string, u5.keep hk2 notA_string, u6.keep hk2 notA_int, Nat.le_trans u7 hk2.1⟩⟩
        · intro j h1 h2
          refine Eq.trans ?_ (u9 j h1 h2)
          have hj : j = W.heap.size + 1 + 1 ∨ j = W.heap.size + 1 + 1 + 1 ∨ j = W.heap.size + 1 + 1 + 2 := by omega
          rcases hj with rfl | rfl | rfl
          · obtain ⟨cs, fr, e⟩ := u4
            rw [hk2.2.1 _ cs _ fr notA_string e, e]
          · obtain ⟨cs, fr, e⟩ := u5
            rw [hk2.2.1 _ cs _ fr notA_string e, e]
          · obtain ⟨cs, fr, e⟩ := u6
            rw [hk2.2.1 _ cs _ fr notA_int e, e]
        · exact hk2.2.1 _ _ _ _ notA_func u2
        · rw [HL9.out]; exact hk2.2.1 _ _ _ _ notA_int u3
      · gi_wp2
        obtain ⟨u2, u3, u4, u5, u6, u7, u8, u9⟩ := HUU.out
        exact ⟨(u8 _).trans ⟨hk2.size, fun j o hj e he => hk2.same j o (by omega) e he⟩, _, HP2.out, hjx2⟩
  case done =>
    rintro D V hD hI _ hK
    gi_wp2
    refine ⟨by simp, .inl ⟨_, _, rfl, run_takeDeferred hK, ?_⟩⟩
    refine ⟨.tuple #[], ?_, ⟨_, rfl⟩, .inl (hJo.putObj _ hI.j (by omega) hK rfl)⟩
    simp [results, Tryz.f41, go_sem]
  case stop =>
    rintro D pre V hD hpre ⟨q, hq, hjx⟩ hK
    gi_wp2
    refine ⟨by simp, .inl ⟨_, _, rfl, run_takeDeferred hK, ?_⟩⟩
    refine ⟨.tuple #[], ?_, ⟨_, rfl⟩, .inr ⟨q, hq, hJxo.putObj _ hjx (by omega) hK rfl⟩⟩
    simp [results, Tryz.f41, go_sem]
end Go.Proofs.YtkhfingenjlpfaaGreatDoor.Ru
