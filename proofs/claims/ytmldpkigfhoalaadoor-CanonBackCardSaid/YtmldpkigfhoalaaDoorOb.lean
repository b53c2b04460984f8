/-
  Put together: CnF, CnG, CnH.
-/
import Derived.Test.YtmldpkigfhoalaaDoorOa
import Derived.Test.YtmldpkigfhoalaaDoorVc
namespace Go.Proofs.YtmldpkigfhoalaaDoor.Cn
open Go.RowKit Tr Nu

/-- What parts say, d open ahead of them. -/
def wrC : Nat → List Lx.Lx → List Nat
  | _, [] => []
  | d, x :: l => if x.kind = 1 then Lx.bytesN x.text ++ wrC d l
      else if x.kind = 2 then 123 :: (Lx.nameL x.name ++ 32 :: wrC (d + 1) l)
      else 125 :: ((if d = 1 then [10] else []) ++ wrC (d - 1) l)
/-- The canonical text. -/
def canV (t : List Nd) : ByteArray := match evA t 0 t.length with | some L => Lx.bytesOf (wrC 0 L) | none => emptyS
/-- With LF as a text, behind each one at the top. -/
def lfL : Nat → List Lx.Lx → List Lx.Lx
  | _, [] => []
  | d, x :: l => if x.kind = 1 then x :: lfL d l
      else if x.kind = 2 then x :: lfL (d + 1) l
      else x :: ((if d = 1 then [txL nlS] else []) ++ lfL (d - 1) l)
theorem wrC_k1 {d : Nat} {x : Lx.Lx} {l : List Lx.Lx} (h : x.kind = 1) : wrC d (x :: l) = Lx.bytesN x.text ++ wrC d l := by rw [wrC, if_pos h]
theorem wrC_k2 {d : Nat} {x : Lx.Lx} {l : List Lx.Lx} (h : x.kind = 2) : wrC d (x :: l) = 123 :: (Lx.nameL x.name ++ 32 :: wrC (d + 1) l) := by rw [wrC, if_neg (by omega), if_pos h]
theorem wrC_k3 {d : Nat} {x : Lx.Lx} {l : List Lx.Lx} (h1 : x.kind ≠ 1) (h2 : x.kind ≠ 2) : wrC d (x :: l) = 125 :: ((if d = 1 then [10] else []) ++ wrC (d - 1) l) := by rw [wrC, if_neg h1, if_neg h2]
theorem lfL_k1 {d : Nat} {x : Lx.Lx} {l : List Lx.Lx} (h : x.kind = 1) : lfL d (x :: l) = x :: lfL d l := by rw [lfL, if_pos h]
theorem lfL_k2 {d : Nat} {x : Lx.Lx} {l : List Lx.Lx} (h : x.kind = 2) : lfL d (x :: l) = x :: lfL (d + 1) l := by rw [lfL, if_neg (by omega), if_pos h]
theorem lfL_k3 {d : Nat} {x : Lx.Lx} {l : List Lx.Lx} (h1 : x.kind ≠ 1) (h2 : x.kind ≠ 2) : lfL d (x :: l) = x :: ((if d = 1 then [txL nlS] else []) ++ lfL (d - 1) l) := by rw [lfL, if_neg h1, if_neg h2]
/-- Parts that can be written and read: no text stands behind one (b: one stands ahead), nor at the top. -/
def Wr : Bool → Nat → List Lx.Lx → Prop
  | _, _, [] => True
  | b, d, x :: l => if x.kind = 1 then b = false ∧ d ≠ 0 ∧ x = txL x.text ∧ x.text.size ≠ 0 ∧ (Lx.bytesN x.text).all Lx.okT = true ∧ Wr true d l
      else if x.kind = 2 then x = opL x.name ∧ Lx.nameL x.name ≠ [] ∧ Wr false (d + 1) l
      else x = clL ∧ d ≠ 0 ∧ Wr false (d - 1) l
theorem nodeC_lt (c : Nat) : ∀ x ∈ Lx.nameL c, x < 256 := by
  unfold Lx.nameL Lx.lettersL
  intro x hx
  split at hx
  · simp at hx; omega
  · split at hx
    · rename_i h; simp at hx h; omega
    · cases hx
theorem wrC_lt : ∀ (l : List Lx.Lx) (d : Nat), ∀ x ∈ wrC d l, x < 256
  | [], _, x, hx => by cases hx
  | y :: l, d, x, hx => by
    by_cases h1 : y.kind = 1
    · rw [wrC_k1 h1] at hx
      rcases List.mem_append.1 hx with h | h
      · unfold Lx.bytesN at h
        obtain ⟨b, -, rfl⟩ := List.mem_map.1 h
        exact UInt8.toNat_lt b
      · exact wrC_lt l _ x h
    · by_cases h2 : y.kind = 2
      · rw [wrC_k2 h2] at hx
        rcases List.mem_cons.1 hx with rfl | h
        · decide
        · rcases List.mem_append.1 h with h | h
          · exact nodeC_lt _ x h
          · rcases List.mem_cons.1 h with rfl | h
            · decide
            · exact wrC_lt l _ x h
      · rw [wrC_k3 h1 h2] at hx
        rcases List.mem_cons.1 hx with rfl | h
        · decide
        · rcases List.mem_append.1 h with h | h
          · split at h
            · rw [List.mem_singleton] at h; omega
            · cases h
          · exact wrC_lt l _ x h
theorem drop_size {s : ByteArray} {p : Nat} {l : List Nat} (h : (Lx.bytesN s).drop p = l) (hl : l ≠ []) : p + l.length = s.size := by
  have := congrArg List.length h
  rw [List.length_drop, Lx.bytesN_len] at this
  have : 0 < l.length := List.length_pos_iff.2 hl
  omega
theorem drop_at {s : ByteArray} {p : Nat} {l : List Nat} (h : (Lx.bytesN s).drop p = l) (j : Nat) (_hj : j < l.length) : Lx.bAt s (p + j) = l.getD j 0 := by
  unfold Lx.bAt
  rw [← h, List.getD_eq_getElem?_getD, List.getD_eq_getElem?_getD, List.getElem?_drop]
theorem drop_more {s : ByteArray} {p : Nat} {a l : List Nat} (h : (Lx.bytesN s).drop p = a ++ l) : (Lx.bytesN s).drop (p + a.length) = l := by
  rw [← List.drop_drop, h, List.drop_left]
theorem openC_is {s : ByteArray} {q : Nat} {k : Fin 13} (h : Lx.fits s q (Lx.letterN k.val)) : Lx.openC s q = Lx.letterN k.val :=
  Lx.openC_at (fun j hj hfj => by
    have := fits_uniq (j := ⟨j, by omega⟩) (k := k) hfj h
    have := congrArg Fin.val this
    simp at this; omega) k.isLt h
theorem name_fin {c : Nat} (h : Lx.nameL c ≠ []) : ∃ k : Fin 13, Lx.letterN k.val = c := by
  have hc := nameL_small h
  refine (Lx.letter_mem ⟨c, hc⟩).1 ?_
  unfold Lx.nameL at h
  split at h
  · rename_i h2
    show c ∈ Lx.lettersL
    rcases h2 with rfl | rfl | rfl <;> decide
  · split at h
    · assumption
    · exact absurd rfl h
theorem white_32 : Lx.white 32 = true := by decide +kernel
theorem okT_10 : Lx.okT 10 = true := by decide +kernel
theorem okT_brace : Lx.okT 123 = false ∧ Lx.okT 125 = false := Lx.okT_not
/-- A text that stands at p, and something else behind it. -/
theorem text_step {s : ByteArray} {p : Nat} {tx rest : List Nat} (h : (Lx.bytesN s).drop p = tx ++ rest) (h0 : tx ≠ []) (hok : tx.all Lx.okT = true) (hlt : ∀ x ∈ tx, x < 256) (hr : rest = [] ∨ ∃ b r, rest = b :: r ∧ Lx.okT b = false) :
    p < s.size ∧ Lx.stepF s p = .inl (⟨1, 0, Lx.bytesOf tx, p⟩, p + tx.length) := by
  have hpos : 0 < tx.length := List.length_pos_iff.2 h0
  have hsz := drop_size h (by simp [h0])
  rw [List.length_append] at hsz
  have hin : ∀ j, j < tx.length → Lx.okT (Lx.bAt s (p + j)) = true := fun j hj => by
    rw [drop_at h j (by rw [List.length_append]; omega), List.getD_eq_getElem?_getD, List.getElem?_append_left hj, List.getElem?_eq_getElem hj]
    exact List.all_eq_true.1 hok _ (List.getElem_mem hj)
  have htend : Lx.tend s p = p + tx.length := by
    refine Lx.IsTend.unique (Lx.tend_is s p (by omega)) ⟨by omega, by omega, fun j h1 h2 => ?_, fun h1 => ?_⟩
    · have := hin (j - p) (by omega)
      rwa [show p + (j - p) = j by omega] at this
    · rcases hr with rfl | ⟨b, r, rfl, hb⟩
      · simp at hsz; omega
      · rw [drop_at h tx.length (by simp), List.getD_eq_getElem?_getD, List.getElem?_append_right (Nat.le_refl _), Nat.sub_self]
        exact hb
  have hb := hin 0 hpos
  rw [Nat.add_zero] at hb
  refine ⟨by omega, ?_⟩
  rw [Lx.step_text hb, htend]
  have e : s.extract p (p + tx.length) = Lx.bytesOf tx := by
    apply Lx.bytes_ext
    rw [Lx.bytesN_ext, h, Lx.bytesN_bytesOf _ hlt, show p + tx.length - p = tx.length by omega, List.take_left]
  rw [e]
theorem wr_head {d : Nat} {l : List Lx.Lx} (h : Wr true d l) : wrC d l = [] ∨ ∃ b r, wrC d l = b :: r ∧ Lx.okT b = false := by
  cases l with
  | nil => exact .inl rfl
  | cons x l =>
    by_cases h1 : x.kind = 1
    · unfold Wr at h
      rw [if_pos h1] at h
      exact absurd h.1 (by decide)
    · by_cases h2 : x.kind = 2
      · exact .inr ⟨_, _, wrC_k2 h2, okT_brace.1⟩
      · exact .inr ⟨_, _, wrC_k3 h1 h2, okT_brace.2⟩
theorem lex_wr (s : ByteArray) : ∀ (l : List Lx.Lx) (b : Bool) (d p : Nat), Wr b d l → (Lx.bytesN s).drop p = wrC d l → (Lx.lexA s p).2 = none ∧ (Lx.lexA s p).1.map bareX = lfL d l
  | [], _, _, p, _, h => by
    have : s.size ≤ p := by
      have := congrArg List.length h
      rw [List.length_drop, Lx.bytesN_len] at this
      rw [show ∀ d, wrC d ([] : List Lx.Lx) = [] from fun _ => rfl] at this
      have h0 : ([] : List Nat).length = 0 := rfl
      omega
    rw [Lx.lexA_end s p this]; exact ⟨rfl, rfl⟩
  | x :: l, b, d, p, hw, h => by
    unfold Wr at hw
    by_cases h1 : x.kind = 1
    · rw [if_pos h1] at hw
      obtain ⟨-, -, hx, h0, hok, hl⟩ := hw
      rw [wrC_k1 h1] at h
      have hne : Lx.bytesN x.text ≠ [] := fun e => h0 (by rw [← Lx.bytesN_len, e]; rfl)
      obtain ⟨hp, hs⟩ := text_step h hne hok (fun y hy => by unfold Lx.bytesN at hy; obtain ⟨b, -, rfl⟩ := List.mem_map.1 hy; exact UInt8.toNat_lt b) (wr_head hl)
      obtain ⟨i1, i2⟩ := lex_wr s l true d _ hl (drop_more h)
      rw [Lx.lexA_step s p hp, hs, lfL_k1 h1]
      simp only []
      refine ⟨i1, ?_⟩
      rw [List.map_cons, i2, Lx.bytesOf_bytesN, hx]; rfl
    · rw [if_neg h1] at hw
      by_cases h2 : x.kind = 2
      · rw [if_pos h2] at hw
        obtain ⟨hx, hn, hl⟩ := hw
        rw [wrC_k2 h2] at h
        obtain ⟨k, hk⟩ := name_fin hn
        have hlen : 0 < (Lx.nameL x.name).length := List.length_pos_iff.2 hn
        have hsz := drop_size h (by simp)
        rw [List.length_cons, List.length_append, List.length_cons] at hsz
        have hb : Lx.bAt s p = 123 := by have := drop_at h 0 (by simp); rw [Nat.add_zero] at this; exact this
        have hd1 := drop_more (a := [123]) h
        have hd1 : (Lx.bytesN s).drop (p + 1) = Lx.nameL x.name ++ 32 :: wrC (d + 1) l := hd1
        have hfit : Lx.fits s (p + 1) (Lx.letterN k.val) := by
          rw [hk]
          unfold Lx.fits
          rw [Lx.nameS_size]
          refine ⟨by omega, Lx.bytes_ext ?_⟩
          rw [Lx.bytesN_ext, hd1, show p + 1 + (Lx.nameL x.name).length - (p + 1) = (Lx.nameL x.name).length by omega, List.take_left]
          exact (Lx.bytesN_bytesOf _ (nodeC_lt _)).symm
        have hop := openC_is hfit
        have hc0 : Lx.openC s (p + 1) ≠ 0 := by rw [hop]; exact (Lx.letterN_lt k).2.1
        have hd2 := drop_more hd1
        have hskip : Lx.skip s (p + 1 + (Lx.nameS (Lx.openC s (p + 1))).size) = p + 1 + (Lx.nameL x.name).length + 1 := by
          rw [hop, hk, Lx.nameS_size]
          unfold Lx.skip
          rw [if_pos]
          refine ⟨by omega, ?_⟩
          have := drop_at hd2 0 (by simp)
          rw [Nat.add_zero] at this
          rw [this]; exact white_32
        obtain ⟨i1, i2⟩ := lex_wr s l false (d + 1) _ hl (drop_more (a := [32]) hd2)
        rw [Lx.lexA_step s p (by omega), Lx.step_open hb hc0, hskip, lfL_k2 h2]
        simp only []
        refine ⟨i1, ?_⟩
        rw [List.map_cons]
        have i2 : (Lx.lexA s (p + 1 + (Lx.nameL x.name).length + 1)).1.map bareX = lfL (d + 1) l := i2
        rw [i2, hop, hk]
        conv => rhs; rw [hx]
        rfl
      · rw [if_neg h2] at hw
        obtain ⟨hx, hd, hl⟩ := hw
        rw [wrC_k3 h1 h2] at h
        have hsz := drop_size h (by simp)
        rw [List.length_cons] at hsz
        have hb : Lx.bAt s p = 125 := by have := drop_at h 0 (by simp); rw [Nat.add_zero] at this; exact this
        have hd1 := drop_more (a := [125]) h
        rw [Lx.lexA_step s p (by omega), Lx.step_close hb, lfL_k3 h1 h2]
        simp only []
        by_cases hone : d = 1
        · subst hone
          rw [if_pos rfl] at hd1 ⊢
          have hd1 : (Lx.bytesN s).drop (p + 1) = [10] ++ wrC 0 l := hd1
          have hr : wrC 0 l = [] ∨ ∃ b r, wrC 0 l = b :: r ∧ Lx.okT b = false := by
            refine wr_head (d := 0) ?_
            cases l with
            | nil => trivial
            | cons y l =>
              have hl : Wr false 0 (y :: l) := hl
              unfold Wr at hl ⊢
              by_cases g1 : y.kind = 1
              · rw [if_pos g1] at hl; exact absurd rfl hl.2.1
              · rw [if_neg g1] at hl ⊢; exact hl
          obtain ⟨hp, hs⟩ := text_step hd1 (by simp) (by rw [List.all_cons, okT_10]; rfl) (by simp) hr
          obtain ⟨i1, i2⟩ := lex_wr s l false 0 _ hl (drop_more hd1)
          rw [Lx.lexA_step s (p + 1) hp, hs]
          simp only []
          refine ⟨i1, ?_⟩
          rw [List.map_cons, List.map_cons]
          have i2 : (Lx.lexA s (p + 1 + [10].length)).1.map bareX = lfL 0 l := i2
          rw [i2, hx]; rfl
        · rw [if_neg hone] at hd1 ⊢
          obtain ⟨i1, i2⟩ := lex_wr s l false (d - 1) _ hl hd1
          refine ⟨i1, ?_⟩
          rw [List.map_cons]
          have i2 : (Lx.lexA s (p + 1)).1.map bareX = lfL (d - 1) l := i2
          rw [i2, hx]; rfl
end Go.Proofs.YtmldpkigfhoalaaDoor.Cn
namespace Go.Proofs.YtmldpkigfhoalaaDoor.Cn
open Go.RowKit Tr Nu

/-- Parts without places. -/
def LxOk (x : Lx.Lx) : Prop := (∃ s, x = txL s) ∨ (∃ k, k ≠ 46 ∧ x = opL k) ∨ x = clL
theorem snoc_ind {α : Type} {P : List α → Prop} (h0 : P []) (h1 : ∀ l x, P l → P (l ++ [x])) : ∀ (n : Nat) (l : List α), l.length = n → P l
  | 0, l, h => by rw [List.eq_nil_of_length_eq_zero h]; exact h0
  | n + 1, l, h => by
    rcases List.eq_nil_or_concat l with rfl | ⟨l', x, rfl⟩
    · exact h0
    · rw [List.concat_eq_append] at h ⊢
      exact h1 l' x (snoc_ind h0 h1 n l' (by rw [List.length_append, List.length_singleton] at h; omega))
theorem zip_read (L : List Lx.Lx) : (∀ x ∈ L, LxOk x) → okR ([], [root]) L → 0 < (readL L).2.length ∧ Zip (readL L).1 (pathOf (readL L).2) L := by
  refine snoc_ind (P := fun L => (∀ x ∈ L, LxOk x) → okR ([], [root]) L → 0 < (readL L).2.length ∧ Zip (readL L).1 (pathOf (readL L).2) L) ?_ ?_ L.length L rfl
  · intro _ _; exact ⟨by decide, .base .nil⟩
  · intro L x ih hx hok
    rw [okR_snoc] at hok
    obtain ⟨h1, h2, h3⟩ := hok
    obtain ⟨i1, i2⟩ := ih (fun y hy => hx y (by simp [hy])) h1
    rw [readL_snoc]
    rw [show L.foldl stepR ([], [root]) = readL L from rfl] at h2 h3
    generalize readL L = S at i1 i2 h2 h3 ⊢
    obtain ⟨t, o⟩ := S
    simp only [] at i1 i2 h2 h3
    rcases hx x (by simp) with ⟨s, rfl⟩ | ⟨k, hk, rfl⟩ | rfl
    · have ht : textsP o = true := by
        cases e : textsP o with
        | true => rfl
        | false => exact absurd ⟨rfl, e⟩ h2
      have hst := stepR_text t s 0 ht
      have hpath : pathOf (stepR (t, o) (txL s)).2 = pathOf o ∧ (stepR (t, o) (txL s)).2.length = o.length := by
        unfold txL
        rw [hst]
        simp only []
        split
        · exact ⟨(path_modify _ _ (addText s) (fun o => ⟨rfl, rfl⟩)).trans (path_modify _ _ (addKid 46) (fun o => ⟨rfl, rfl⟩)), by rw [List.length_modify, List.length_modify]⟩
        · exact ⟨path_modify _ _ (addKid 46) (fun o => ⟨rfl, rfl⟩), List.length_modify ..⟩
      rw [hpath.1, hpath.2, show (stepR (t, o) (txL s)).1 = t ++ [⟨46, s, 0, 1⟩] by unfold txL; rw [hst]; rfl]
      exact ⟨i1, i2.text s 0⟩
    · obtain ⟨p2, hp2, hpl⟩ : ∃ p2, (stepR (t, o) (opL k)).2 = p2 ++ [⟨k, emptyS, t.length, 0, 0, emptyS⟩] ∧ (pathOf p2 = pathOf o ∧ p2.length = o.length) := by
        unfold opL
        rw [stepR_open]
        refine ⟨_, rfl, ?_⟩
        split
        · exact ⟨(path_modify _ _ addNote (fun o => ⟨rfl, rfl⟩)).trans (path_modify _ _ (addKid k) (fun o => ⟨rfl, rfl⟩)), by rw [List.length_modify, List.length_modify]⟩
        · exact ⟨path_modify _ _ (addKid k) (fun o => ⟨rfl, rfl⟩), List.length_modify ..⟩
      have ht : (stepR (t, o) (opL k)).1 = t ++ [⟨k, emptyS, 0, 1⟩] := by unfold opL; rw [stepR_open]; rfl
      rw [ht, hp2, path_snoc _ _ (by rw [hpl.2]; exact i1), hpl.1]
      exact ⟨by simp, i2.opened k 0 hk⟩
    · have hlen : o.length ≠ 1 := err_close h3
      obtain ⟨o0, ol, rfl⟩ : ∃ o0 ol, o = o0 ++ [ol] := ⟨o.dropLast, o.getLast (by intro e; subst e; simp at i1), (List.dropLast_concat_getLast _).symm⟩
      have h0 : 0 < o0.length := by rw [List.length_append, List.length_singleton] at hlen; omega
      have hst : stepR (t, o0 ++ [ol]) clL = (t.modify ol.spot (setSize ((t.length : Int) - (ol.spot : Int))), ((if ol.kind = 114 ∧ ((o0 ++ [ol]).getD ((o0 ++ [ol]).length - 1 - 1) root).first = 0 then (o0 ++ [ol]).modify ((o0 ++ [ol]).length - 1 - 1) (setFirst ol.kids.size) else (o0 ++ [ol])).take ((o0 ++ [ol]).length - 1))) := by
        unfold clL
        rw [stepR_close, topP_snoc]
      have hpath : pathOf (stepR (t, o0 ++ [ol]) clL).2 = pathOf o0 ∧ (stepR (t, o0 ++ [ol]) clL).2.length = o0.length := by
        rw [hst]
        simp only []
        split
        · rw [List.length_append, List.length_singleton, Nat.add_sub_cancel]
          have e : (((o0 ++ [ol]).modify (o0.length - 1) (setFirst ol.kids.size)).take o0.length) = o0.modify (o0.length - 1) (setFirst ol.kids.size) := by
            apply List.ext_getElem?
            intro j
            rcases Nat.lt_or_ge j o0.length with hj | hj
            · rw [List.getElem?_take_of_lt hj, List.getElem?_modify, List.getElem?_modify, List.getElem?_append_left hj]
            · rw [List.getElem?_eq_none (by rw [List.length_take]; omega), List.getElem?_eq_none (by rw [List.length_modify]; exact hj)]
          rw [e]
          exact ⟨path_modify _ _ (setFirst ol.kids.size) (fun o => ⟨rfl, rfl⟩), List.length_modify ..⟩
        · rw [List.length_append, List.length_singleton, Nat.add_sub_cancel, List.take_append_of_le_length (Nat.le_refl _), List.take_length]
          exact ⟨rfl, rfl⟩
      rw [path_snoc _ _ h0] at i2
      refine ⟨by rw [hpath.2]; exact h0, ?_⟩
      rw [hpath.1, hst]
      exact i2.closed
/-- A row, but for places, is told by what it is read from. -/
def bareE (x : Lx.Lx) : Ev := ⟨x.kind, x.name, x.text, 0⟩
theorem evE_asIs {F : List Nd} {L : List Lx.Lx} (h : Wf F L) (K : Nat → ByteArray × Int) (O : Nat → Int) : ∀ p, (∀ j y, F[j]? = some y → y.kind = 46 → (K (p + j)).1 = y.text) → (evE K O p L).map ev0 = L.map bareE := by
  induction h with
  | nil => intro p _; rfl
  | @text F L s pl hF ih =>
    intro p hK
    rw [evE_app, wf_nod hF, List.map_append, List.map_append, ih p fun j y hj => hK j y (by rw [List.getElem?_append_left (List.getElem?_eq_some_iff.1 hj).1]; exact hj)]
    congr 1
    have := hK F.length _ List.getElem?_concat_length rfl
    show [ev0 (txE (K (p + F.length)).1 (K (p + F.length)).2)] = [bareE (txL s)]
    unfold ev0 txE
    rw [this]; rfl
  | @node F G L M k pl hF hG hk ih1 ih2 =>
    intro p hK
    rw [evE_app, evE_node, wf_nod hF, List.map_append, List.map_append, List.map_cons, List.map_append, List.map_cons,
      ih1 p fun j y hj => hK j y (by rw [List.getElem?_append_left (List.getElem?_eq_some_iff.1 hj).1]; exact hj),
      ih2 _ fun j y hj => by
        rw [show p + F.length + 1 + j = p + (F.length + (j + 1)) by omega]
        exact hK (F.length + (j + 1)) y (by rw [List.getElem?_append_right (by omega), show F.length + (j + 1) - F.length = j + 1 by omega]; exact hj),
      List.map_cons, List.map_append]
    rfl
theorem wf_bare {F : List Nd} {L : List Lx.Lx} (h : Wf F L) : F.map bare = ((L.map bareE).foldl bld ([], [])).1 := by
  have h1 := row_0 (evE (asIs F) (placeAt F) 0 L) [] []
  rw [evE_asIs h (asIs F) (placeAt F) 0 (fun j y hj _ => by rw [Nat.zero_add]; unfold asIs; rw [hj])] at h1
  have h2 := wf_asIs h
  unfold rowE rowS at h2
  rw [h2] at h1
  exact h1
theorem wf_uniq {F F' : List Nd} {L : List Lx.Lx} (h : Wf F L) (h' : Wf F' L) : F.map bare = F'.map bare := by rw [wf_bare h, wf_bare h']
theorem wf_ok {F : List Nd} {L : List Lx.Lx} (h : Wf F L) : ∀ x ∈ L, LxOk x := by
  induction h with
  | nil => intro x hx; cases hx
  | text s pl _ ih =>
    intro x hx
    rcases List.mem_append.1 hx with h | h
    · exact ih x h
    · rw [List.mem_singleton] at h; exact .inl ⟨s, h⟩
  | node k pl _ _ hk ih1 ih2 =>
    intro x hx
    rcases List.mem_append.1 hx with h | h
    · exact ih1 x h
    · rcases List.mem_cons.1 h with rfl | h
      · exact .inr (.inl ⟨k, hk, rfl⟩)
      · rcases List.mem_append.1 h with h | h
        · exact ih2 x h
        · rw [List.mem_singleton] at h; exact .inr (.inr h)
/-- What a tree that may be is read from, read, is it. -/
theorem read_back {u : List Nd} {L : List Lx.Lx} (hW : Wf u L) (hok : okR ([], [root]) L) : (readL L).1.map bare = u.map bare ∧ (readL L).2.length = 1 := by
  obtain ⟨-, hZ⟩ := zip_read L (wf_ok hW) hok
  have hl : (readL L).2.length = 1 := wf_len hW ([], [root])
  have hp : pathOf (readL L).2 = [] := by
    unfold pathOf
    rw [List.map_eq_nil_iff, List.drop_eq_nil_iff]; omega
  exact ⟨wf_uniq (hZ.wf hp) hW, hl⟩
theorem errFrom_bare : ∀ (l : List Lx.Lx) (T : List Nd) (p : List Tr.Op), (errFrom (T, p) l = none ↔ errFrom (T.map bare, p) (l.map bareX) = none) ∧ (l.map bareX).foldl stepR (T.map bare, p) = ((l.foldl stepR (T, p)).1.map bare, (l.foldl stepR (T, p)).2)
  | [], _, _ => ⟨Iff.rfl, rfl⟩
  | x :: l, T, p => by
    rw [List.map_cons, List.foldl_cons, List.foldl_cons, stepR_bare]
    obtain ⟨i1, i2⟩ := errFrom_bare l (stepR (T, p) x).1 (stepR (T, p) x).2
    refine ⟨?_, i2⟩
    unfold errFrom
    simp only []
    have he := errStep_bare T p x
    rw [stepR_bare]
    by_cases h0 : (errStep T p x).2 = 0
    · rw [if_pos h0, if_pos (by rw [he]; exact h0)]
      have e : (stepR (T, p) x) = ((stepR (T, p) x).1, (stepR (T, p) x).2) := rfl
      rw [e]
      exact i1
    · rw [if_neg h0, if_neg (by rw [he]; exact h0)]
      exact ⟨fun h => (by cases h), fun h => (by cases h)⟩
/-- One that is open at the top, and no more, takes no text. -/
def TopNo (p : List Tr.Op) : Prop := ∀ o, p[0]? = some o → o.kind = 0
theorem topNo_texts {p : List Tr.Op} (h : TopNo p) (h1 : p.length = 1) : textsP p = false := by
  obtain ⟨r, rfl⟩ := List.length_eq_one_iff.1 h1
  exact texts_root (h r rfl)
theorem topNo_kd {p q : List Tr.Op} (h : TopNo p) (hq : ∀ o, q[0]? = some o → ∃ o', p[0]? = some o' ∧ o.kind = o'.kind) : TopNo q := fun o ho => by
  obtain ⟨o', h1, h2⟩ := hq o ho
  rw [h2]; exact h o' h1
theorem nl_dark : darkAt nlS = none := by decide +kernel
theorem read_lf : ∀ (l : List Lx.Lx) (d : Nat) (st : List Nd × List Tr.Op), (∀ x ∈ l, LxOk x) → okR st l → st.2.length = d + 1 → (st.2.map Tr.Op.kind)[0]? = some 0 → errFrom st (lfL d l) = none ∧ (lfL d l).foldl stepR st = l.foldl stepR st
  | [], _, _, _, _, _, _ => ⟨rfl, rfl⟩
  | x :: l, d, st, hx, hok, hd, h0 => by
    have hxl : ∀ y ∈ l, LxOk y := fun y hy => hx y (List.mem_cons_of_mem _ hy)
    obtain ⟨k1, k2, k3⟩ := hok
    obtain ⟨T, p⟩ := st
    simp only [] at k1 k2 hd h0
    rcases hx x (List.mem_cons_self ..) with ⟨s, rfl⟩ | ⟨k, hk, rfl⟩ | rfl
    · have hkd := Nl.kd_text T p (txL s) rfl
      have hl : (stepR (T, p) (txL s)).2.length = p.length := step_tx (T, p) s
      obtain ⟨i1, i2⟩ := read_lf l d (stepR (T, p) (txL s)) hxl k3 (by rw [hl]; exact hd) (by show (Nl.kdO _)[0]? = _; rw [hkd]; exact h0)
      rw [lfL_k1 rfl, List.foldl_cons, List.foldl_cons]
      refine ⟨?_, i2⟩
      unfold errFrom; rw [if_pos k2]; exact i1
    · have hkd := Nl.kd_open T p (opL k) rfl
      have hl : (stepR (T, p) (opL k)).2.length = p.length + 1 := step_op (T, p) k
      obtain ⟨i1, i2⟩ := read_lf l (d + 1) (stepR (T, p) (opL k)) hxl k3 (by rw [hl, hd]) (by
        show (Nl.kdO _)[0]? = _
        rw [hkd, List.getElem?_append_left (by unfold Nl.kdO; rw [List.length_map]; omega)]; exact h0)
      rw [lfL_k2 rfl, List.foldl_cons, List.foldl_cons]
      refine ⟨?_, i2⟩
      unfold errFrom; rw [if_pos k2]; exact i1
    · have hkd := Nl.kd_close T p clL (by decide) (by decide)
      have hl : (stepR (T, p) clL).2.length = p.length - 1 := step_cl (T, p)
      have hne : p.length ≠ 1 := err_close k2
      have h0' : ((stepR (T, p) clL).2.map Tr.Op.kind)[0]? = some 0 := by
        show (Nl.kdO _)[0]? = _
        rw [hkd, List.getElem?_take, if_pos (by omega)]; exact h0
      obtain ⟨i1, i2⟩ := read_lf l (d - 1) (stepR (T, p) clL) hxl k3 (by rw [hl]; omega) h0'
      rw [lfL_k3 (by decide) (by decide), List.foldl_cons, List.foldl_cons]
      by_cases hone : d = 1
      · subst hone
        rw [if_pos rfl, List.singleton_append, List.foldl_cons]
        have hl1 : (stepR (T, p) clL).2.length = 1 := by rw [hl]; omega
        have htx : textsP (stepR (T, p) clL).2 = false := topNo_texts (fun o ho => by
          rw [List.getElem?_map, ho] at h0'
          simpa using h0') hl1
        have hsame : stepR (stepR (T, p) clL) (txL nlS) = stepR (T, p) clL := stepR_none (stepR (T, p) clL).1 nlS 0 htx
        rw [hsame]
        refine ⟨?_, i2⟩
        unfold errFrom
        rw [if_pos k2]
        unfold errFrom
        rw [if_pos (show (errStep (stepR (T, p) clL).1 (stepR (T, p) clL).2 (txL nlS)).2 = 0 from (err_white htx).2 nl_dark), hsame]
        exact i1
      · rw [if_neg hone, List.nil_append]
        refine ⟨?_, i2⟩
        unfold errFrom; rw [if_pos k2]; exact i1
theorem okR_err : ∀ (l : List Lx.Lx) (st : List Nd × List Tr.Op), okR st l → errFrom st l = none
  | [], _, _ => rfl
  | x :: l, st, h => by
    unfold errFrom
    rw [if_pos h.2.1]; exact okR_err l _ h.2.2
/-- What a row of parts that may be read says can be written. -/
theorem wr_of {L : List Lx.Lx} (hok : okR ([], [root]) L) (hx : ∀ x ∈ L, LxOk x) (hn : ∀ k, opL k ∈ L → Lx.nameL k ≠ []) (ht : ∀ s, txL s ∈ L → s.size ≠ 0 ∧ (Lx.bytesN s).all Lx.okT = true)
    (hno : ∀ A s s' B, L ≠ A ++ txL s :: txL s' :: B) : Wr false 0 L := by
  have key : ∀ (l A : List Lx.Lx) (b : Bool), L = A ++ l → okR (readL A) l → (b = true → ∃ A' s, A = A' ++ [txL s]) → ((readL A).2.map Tr.Op.kind)[0]? = some 0 → Wr b ((readL A).2.length - 1) l := by
    intro l
    induction l with
    | nil => intro A b _ _ _ _; trivial
    | cons x l ih =>
      intro A b hL hok hb h0
      have hx' := hx x (by rw [hL]; simp)
      obtain ⟨k1, k2, k3⟩ := hok
      have hL' : L = (A ++ [x]) ++ l := by rw [hL]; simp
      have ih := ih (A ++ [x])
      rw [readL_snoc] at ih
      generalize readL A = S at k1 k2 k3 ih h0 ⊢
      obtain ⟨T, p⟩ := S
      simp only [] at k1 k2 h0 ⊢
      have hp0 : 0 < p.length := by
        cases p with
        | nil => simp at h0
        | cons _ _ => exact Nat.succ_pos _
      rcases hx' with ⟨s, rfl⟩ | ⟨k, hk, rfl⟩ | rfl
      · have hkd := Nl.kd_text T p (txL s) rfl
        have hl : (stepR (T, p) (txL s)).2.length = p.length := step_tx (T, p) s
        have ih := ih true hL' k3 (fun _ => ⟨A, s, rfl⟩) (by show (Nl.kdO _)[0]? = _; rw [hkd]; exact h0)
        rw [hl] at ih
        unfold Wr
        rw [if_pos (show (txL s).kind = 1 from rfl)]
        refine ⟨?_, ?_, rfl, (ht s (by rw [hL]; simp)).1, (ht s (by rw [hL]; simp)).2, ih⟩
        · cases b with
          | false => rfl
          | true =>
            obtain ⟨A', s', rfl⟩ := hb rfl
            exact absurd (by rw [hL]; simp) (hno A' s' s l)
        · intro e
          have htx : textsP p = false := topNo_texts (fun o ho => by
            rw [List.getElem?_map, ho] at h0
            simpa using h0) (by omega)
          exact k1 ⟨rfl, htx⟩
      · have hkd := Nl.kd_open T p (opL k) rfl
        have hl : (stepR (T, p) (opL k)).2.length = p.length + 1 := step_op (T, p) k
        have ih := ih false hL' k3 (fun e => by cases e) (by
          show (Nl.kdO _)[0]? = _
          rw [hkd, List.getElem?_append_left (by unfold Nl.kdO; rw [List.length_map]; omega)]; exact h0)
        rw [hl] at ih
        unfold Wr
        rw [if_neg (show ¬ (opL k).kind = 1 from (by decide : ¬ (2 : Nat) = 1)), if_pos (show (opL k).kind = 2 from rfl)]
        refine ⟨rfl, hn k (by rw [hL]; simp), ?_⟩
        rw [show p.length - 1 + 1 = p.length + 1 - 1 by omega]; exact ih
      · have hkd := Nl.kd_close T p clL (by decide) (by decide)
        have hl : (stepR (T, p) clL).2.length = p.length - 1 := step_cl (T, p)
        have hne : p.length ≠ 1 := err_close k2
        have ih := ih false hL' k3 (fun e => by cases e) (by
          show (Nl.kdO _)[0]? = _
          rw [hkd, List.getElem?_take, if_pos (by omega)]; exact h0)
        rw [hl] at ih
        unfold Wr
        rw [if_neg (by decide : ¬ clL.kind = 1), if_neg (by decide : ¬ clL.kind = 2)]
        exact ⟨rfl, by omega, ih⟩
  exact key L [] false rfl hok (fun e => by cases e) rfl
theorem wr_parse {u : List Nd} {L : List Lx.Lx} (hW : Wf u L) (hok : okR ([], [root]) L) (hw : Wr false 0 L) (hsz : (canV u).size ≤ 8192) :
    Parsed (canV u) ∧ (parseA (canV u)).1.map bare = u.map bare ∧ (parseA (canV u)).2 = (0, 0) := by
  have hcan : canV u = Lx.bytesOf (wrC 0 L) := by unfold canV; rw [wf_ev0 hW]
  have hbytes : Lx.bytesN (canV u) = wrC 0 L := by rw [hcan, Lx.bytesN_bytesOf _ (wrC_lt L 0)]
  obtain ⟨l1, l2⟩ := lex_wr (canV u) L false 0 0 hw (by rw [List.drop_zero, hbytes])
  obtain ⟨hV, -, hE⟩ := Lx.lex_ok (s := canV u) (l := (Lx.lexA (canV u) 0).1) (by omega) (by rw [← l1])
  obtain ⟨r1, r2⟩ := read_lf L 0 ([], [root]) (wf_ok hW) hok rfl rfl
  obtain ⟨b1, b2⟩ := errFrom_bare (Lx.lexV (canV u)) [] [root]
  rw [hV, l2] at b1 b2
  obtain ⟨q1, q2⟩ := read_back hW hok
  have hrd : ((readL (Lx.lexV (canV u))).1.map bare, (readL (Lx.lexV (canV u))).2) = readL L := by
    rw [hV]
    unfold readL
    rw [← r2]
    exact b2.symm
  have hP : Parsed (canV u) := by
    refine ⟨hE, ?_, ?_⟩
    · rw [hV]; exact b1.2 r1
    · rw [show (readL (Lx.lexV (canV u))).2 = (readL L).2 by rw [← hrd], q2]; exact Nat.le_refl 1
  refine ⟨hP, ?_, by rw [parseA_ok hP]⟩
  rw [parseA_ok hP]
  show (readL (Lx.lexV (canV u))).1.map bare = _
  have : (readL (Lx.lexV (canV u))).1.map bare = (readL L).1 := by rw [← hrd]
  rw [this, ← q1]
  rw [← this, List.map_map]
  rfl
end Go.Proofs.YtmldpkigfhoalaaDoor.Cn
namespace Go.Proofs.YtmldpkigfhoalaaDoor.Cn
open Go.RowKit Tr Nu

theorem same_bare : ∀ t u : List Nd, sameV t u = true → t.map bare = u.map bare
  | [], [], _ => rfl
  | [], y :: u, h => by unfold sameV at h; simp at h
  | x :: t, [], h => by unfold sameV at h; simp at h
  | x :: t, y :: u, h => by
    unfold sameV at h
    rw [Bool.and_eq_true, decide_eq_true_eq, List.zip_cons_cons, List.all_cons, Bool.and_eq_true] at h
    obtain ⟨h1, h2, h3⟩ := h
    unfold sameNd at h2
    rw [decide_eq_true_eq] at h2
    have ih := same_bare t u (by unfold sameV; rw [Bool.and_eq_true, decide_eq_true_eq]; exact ⟨by simpa using h1, h3⟩)
    rw [List.map_cons, List.map_cons, ih]
    obtain ⟨a, b, c, d⟩ := x
    obtain ⟨a', b', c', d'⟩ := y
    simp only [] at h2
    obtain ⟨rfl, rfl, rfl⟩ := h2
    rfl
theorem evA_bare (t : List Nd) (a e : Nat) : evA (t.map bare) a e = evA t a e := evF_bare t (e - a) a e
theorem evA_of_bare {t u : List Nd} (h : t.map bare = u.map bare) : evA t 0 t.length = evA u 0 u.length := by
  have hl : t.length = u.length := by have := congrArg List.length h; simpa using this
  rw [← evA_bare t, ← evA_bare u, h, hl]
theorem can_bare {t u : List Nd} (h : t.map bare = u.map bare) : canV t = canV u := by unfold canV; rw [evA_of_bare h]
theorem check_bare {t u : List Nd} (h : t.map bare = u.map bare) : checkV t = checkV u := by rw [← checkV_bare t, ← checkV_bare u, h]
theorem bare_at {t u : List Nd} (h : t.map bare = u.map bare) (i : Nat) : (t[i]?).map bare = (u[i]?).map bare := by rw [← List.getElem?_map, ← List.getElem?_map, h]
theorem bare_bones {t u : List Nd} (h : t.map bare = u.map bare) : Bones t u := fun i => by
  have hi := bare_at h i
  cases h1 : t[i]? with
  | none => rw [h1, Option.map_none, eq_comm, Option.map_eq_none_iff] at hi; rw [hi]
  | some x =>
    rw [h1, Option.map_some, eq_comm, Option.map_eq_some_iff] at hi
    obtain ⟨y, hy, e⟩ := hi
    rw [hy]
    unfold bare at e
    cases x; cases y
    simp at e
    simp [e]
theorem rawF_bare {t u : List Nd} (h : t.map bare = u.map bare) (f : Nat) : ∀ n, rawF u f n = rawF t f n
  | 0 => rfl
  | n + 1 => by
    rw [rawF_succ, rawF_succ, rawF_bare h f n]
    congr 1
    have hi := bare_at h n
    unfold nodeRaw
    cases h1 : t[n]? with
    | none => rw [h1, Option.map_none, eq_comm, Option.map_eq_none_iff] at hi; rw [hi]
    | some x =>
      rw [h1, Option.map_some, eq_comm, Option.map_eq_some_iff] at hi
      obtain ⟨y, hy, e⟩ := hi
      rw [hy]
      unfold bare at e
      have e1 := congrArg Nd.kind e
      have e2 := congrArg Nd.text e
      simp only [] at e1 e2
      simp only [e1, e2, flowV_bones (bare_bones h)]
theorem newText_bare {t u : List Nd} (ht : Szs t) (hu : Szs u) (h : t.map bare = u.map bare) (i : Nat) : newText u i = newText t i := by
  have hl : u.length = t.length := by have := congrArg List.length h; simpa using this.symm
  unfold newText keptAt
  rw [flowV_bones (bare_bones h)]
  by_cases h0 : 0 ≤ flowV t i
  · rw [if_pos h0, if_pos h0]
    obtain ⟨f, hf⟩ : ∃ f : Nat, flowV t i = (f : Int) := ⟨(flowV t i).toNat, by omega⟩
    obtain ⟨-, x, hx, -, -⟩ := flowV_in hf
    obtain ⟨-, y, hy, -, -⟩ := flowV_in ((flowV_bones (bare_bones h) i).trans hf)
    rw [hf, Int.toNat_natCast, flowSp_sz ht hx, flowSp_sz hu hy, rawF_bare h, hl]
  · rw [if_neg h0, if_neg h0]
theorem norm_bare {t u : List Nd} (hc : checkV t = 0) (h : t.map bare = u.map bare) : (normV t).map bare = (normV u).map bare := by
  obtain ⟨L, hW, hE⟩ := check_wf hc
  obtain ⟨M, hW', hE'⟩ := check_wf ((check_bare h).symm.trans hc)
  have hLM : L = M := by
    have := evA_of_bare h
    rw [hE, hE'] at this
    exact Option.some.inj this
  subst hLM
  rw [normV_is hW, normV_is hW']
  have h1 := row_0 (joinE (evE (asNew t) (placeAt t) 0 L)) [] []
  have h2 := row_0 (joinE (evE (asNew u) (placeAt u) 0 L)) [] []
  have h3 := join_0 (evE (asNew t) (placeAt t) 0 L) []
  have h4 := join_0 (evE (asNew u) (placeAt u) 0 L) []
  have h5 := evE_0 (asNew u) (asNew t) (placeAt u) (placeAt t) (fun i => newText_bare (wf_szs hW) (wf_szs hW') h i) L L 0 rfl
  rw [h5, ← h3] at h4
  exact (h1.trans (congrArg (fun l : List Ev => (l.foldl bld (([] : List Nd).map bare, [])).1) h4.symm)).trans h2.symm
theorem is_bare {t u : List Nd} (h : t.map bare = u.map bare) : isV t = isV u := by
  have key : ∀ t u : List Nd, t.map bare = u.map bare → isV t = true → isV u = true := fun t u h ht => by
    unfold isV at ht ⊢
    rw [Bool.and_eq_true, decide_eq_true_eq] at ht ⊢
    refine ⟨(check_bare h).symm.trans ht.1, bare_same _ _ ?_⟩
    rw [← h, same_bare _ _ ht.2, norm_bare ht.1 h]
  cases h1 : isV t with
  | true => exact (key t u h h1).symm
  | false =>
    cases h2 : isV u with
    | false => rfl
    | true => rw [key u t h.symm h2] at h1; cases h1
theorem is_check {t : List Nd} (h : isV t = true) : checkV t = 0 := by
  unfold isV at h
  rw [Bool.and_eq_true, decide_eq_true_eq] at h; exact h.1
theorem rd_no {J : List Ev} (h : Rd J) : ∀ (A B : List Ev) (y x : Ev), J = A ++ y :: x :: B → ¬ (y.kind = 1 ∧ x.kind = 1) := by
  have key : ∀ (A B A' : List Ev) (y x z : Ev), A' ++ [z] = A ++ y :: x :: B → (B = [] ∧ A' = A ++ [y] ∧ z = x) ∨ ∃ B', A' = A ++ y :: x :: B' := fun A B A' y x z e => by
    rcases List.eq_nil_or_concat B with rfl | ⟨B', w, rfl⟩
    · refine .inl ⟨rfl, ?_⟩
      have e : A' ++ [z] = (A ++ [y]) ++ [x] := by rw [e]; simp
      obtain ⟨e1, e2⟩ := List.append_inj' e rfl
      exact ⟨e1, by simpa using e2⟩
    · rw [List.concat_eq_append] at e
      have e : A' ++ [z] = (A ++ y :: x :: B') ++ [w] := by rw [e]; simp
      exact .inr ⟨B', (List.append_inj' e rfl).1⟩
  induction h with
  | nil => intro A B y x e; simp at e
  | node _ hk ih =>
    intro A B y x e hh
    rcases key A B _ y x _ e with ⟨-, -, rfl⟩ | ⟨B', h⟩
    · exact hk hh.2
    · exact ih A B' y x h hh
  | text _ he _ _ ih =>
    intro A B y x e hh
    rcases key A B _ y x _ e with ⟨-, rfl, -⟩ | ⟨B', h⟩
    · exact he y (List.getLast?_concat ..) hh.1
    · exact ih A B' y x h hh
theorem wf_in {F : List Nd} {L : List Lx.Lx} (h : Wf F L) : ∀ z ∈ L, (z.kind = 1 → ∃ x ∈ F, x.kind = 46 ∧ x.text = z.text) ∧ (z.kind = 2 → ∃ x ∈ F, x.kind = z.name ∧ x.kind ≠ 46) := by
  have up : ∀ {F G : List Nd} {z : Lx.Lx}, (∀ x ∈ F, x ∈ G) → ((z.kind = 1 → ∃ x ∈ F, x.kind = 46 ∧ x.text = z.text) ∧ (z.kind = 2 → ∃ x ∈ F, x.kind = z.name ∧ x.kind ≠ 46)) → (z.kind = 1 → ∃ x ∈ G, x.kind = 46 ∧ x.text = z.text) ∧ (z.kind = 2 → ∃ x ∈ G, x.kind = z.name ∧ x.kind ≠ 46) := fun hs h =>
    ⟨fun k => by obtain ⟨x, hx, h⟩ := h.1 k; exact ⟨x, hs x hx, h⟩, fun k => by obtain ⟨x, hx, h⟩ := h.2 k; exact ⟨x, hs x hx, h⟩⟩
  induction h with
  | nil => intro z hz; cases hz
  | text s pl _ ih =>
    intro z hz
    rcases List.mem_append.1 hz with h | h
    · exact up (fun x hx => List.mem_append_left _ hx) (ih z h)
    · rw [List.mem_singleton] at h
      subst h
      exact ⟨fun _ => ⟨_, List.mem_append_right _ (List.mem_singleton.2 rfl), rfl, rfl⟩, fun k => by cases k⟩
  | node k pl _ _ hk ih1 ih2 =>
    intro z hz
    rcases List.mem_append.1 hz with h | h
    · exact up (fun x hx => List.mem_append_left _ hx) (ih1 z h)
    · rcases List.mem_cons.1 h with rfl | h
      · exact ⟨fun k => (by cases k), fun _ => ⟨_, List.mem_append_right _ (List.mem_cons_self ..), rfl, hk⟩⟩
      · rcases List.mem_append.1 h with h | h
        · exact up (fun x hx => List.mem_append_right _ (List.mem_cons_of_mem _ hx)) (ih2 z h)
        · rw [List.mem_singleton] at h
          subst h
          exact ⟨fun k => (by cases k), fun k => (by cases k)⟩
/-- What a normalised tree says can be written, and read. -/
theorem is_wr {t : List Nd} (h : isV t = true) : ∃ L, Wf t L ∧ evA t 0 t.length = some L ∧ okR ([], [root]) L ∧ Wr false 0 L := by
  have hc := is_check h
  obtain ⟨hn, L, hE, hok⟩ := (checkV_ok t).1 hc
  obtain ⟨L', hW, hE'⟩ := check_wf hc
  rw [hE'] at hE
  cases hE
  refine ⟨L, hW, hE', hok, wr_of hok (wf_ok hW) (fun k hk => ?_) (fun s hs => ?_) (fun A s s' B e => ?_)⟩
  · obtain ⟨x, hx, h1, h2⟩ := (wf_in hW _ hk).2 rfl
    have := hn x hx
    unfold nodeOk at this
    rw [if_neg h2, Bool.and_eq_true, decide_eq_true_eq, Lx.nameS_size] at this
    intro e
    have h1 : x.kind = k := h1
    rw [h1, e] at this
    exact this.1.2 rfl
  · obtain ⟨x, hx, h1, h2⟩ := (wf_in hW _ hs).1 rfl
    have := hn x hx
    unfold nodeOk at this
    rw [if_pos h1, Bool.and_eq_true, decide_eq_true_eq] at this
    have h2 : x.text = s := h2
    rw [h2] at this
    exact this
  · unfold isV at h
    rw [Bool.and_eq_true] at h
    have hb := same_bare _ _ h.2
    have hv := evA_of_bare hb
    rw [hE', wf_ev0 (norm_wf hW)] at hv
    have hv := Option.some.inj hv
    rw [hv] at e
    obtain ⟨A', R, e1, rfl, e2⟩ := List.map_eq_append_iff.1 e
    obtain ⟨y, R2, rfl, hy, e3⟩ := List.map_eq_cons_iff.1 e2
    obtain ⟨x, B', rfl, hx, -⟩ := List.map_eq_cons_iff.1 e3
    refine rd_no (rd_join _) A' B' y x e1 ⟨?_, ?_⟩
    · exact congrArg Lx.Lx.kind hy
    · exact congrArg Lx.Lx.kind hx
/-- What Write answers. -/
def writeE (t : List Nd) : Nat := if checkV t ≠ 0 then checkV t else if isV t = false then 1 else if 8192 < (canV t).size then 4 else 0
def writeS (t : List Nd) : ByteArray := if writeE t = 0 then canV t else emptyS
theorem writeE_ok {t : List Nd} (h : writeE t = 0) : isV t = true ∧ (canV t).size ≤ 8192 := by
  unfold writeE at h
  by_cases h1 : checkV t ≠ 0
  · rw [if_pos h1] at h; exact absurd h h1
  · rw [if_neg h1] at h
    by_cases h2 : isV t = false
    · rw [if_pos h2] at h; cases h
    · rw [if_neg h2] at h
      by_cases h3 : 8192 < (canV t).size
      · rw [if_pos h3] at h; cases h
      · exact ⟨by simpa using h2, by omega⟩
theorem writeE_is {t : List Nd} (h : isV t = true) : writeE t = if 8192 < (canV t).size then 4 else 0 := by
  unfold writeE
  rw [if_neg (by rw [is_check h]; exact fun e => e rfl), if_neg (by rw [h]; exact fun e => Bool.noConfusion e)]
theorem writeE_no {t : List Nd} (h : writeE t ≠ 0) (h4 : writeE t ≠ 4) : isV t = false := by
  cases e : isV t with
  | false => rfl
  | true =>
    rw [writeE_is e] at h h4
    split at h
    · rename_i h1; rw [if_pos h1] at h4; exact absurd rfl h4
    · exact absurd rfl h
theorem write_bare {t u : List Nd} (h : t.map bare = u.map bare) : writeE t = writeE u ∧ writeS t = writeS u := by
  have e : writeE t = writeE u := by unfold writeE; rw [check_bare h, is_bare h, can_bare h]
  exact ⟨e, by unfold writeS; rw [e, can_bare h]⟩
/-- P6.4 -/
theorem back_of {t : List Nd} (h : writeE t = 0) : Parsed (writeS t) ∧ (parseA (writeS t)).1.map bare = t.map bare ∧ (parseA (writeS t)).2 = (0, 0) := by
  obtain ⟨h1, h2⟩ := writeE_ok h
  obtain ⟨L, hW, -, hok, hw⟩ := is_wr h1
  have : writeS t = canV t := by unfold writeS; rw [if_pos h]
  rw [this]
  exact wr_parse hW hok hw h2
theorem back_same {t : List Nd} (h : writeE t = 0) : sameV (parseA (writeS t)).1 t = true ∧ isV (parseA (writeS t)).1 = true :=
  ⟨bare_same _ _ (back_of h).2.1, by rw [is_bare (back_of h).2.1]; exact (writeE_ok h).1⟩
theorem write_eq {t u : List Nd} (ht : writeE t = 0) (hu : writeE u = 0) : writeS t = writeS u ↔ sameV t u = true := by
  constructor
  · intro e
    have h1 := (back_of ht).2.1
    rw [e, (back_of hu).2.1] at h1
    exact bare_same _ _ h1.symm
  · intro e
    exact (write_bare (same_bare _ _ e)).2
/-- What Of answers: the text, the place, the error. -/
def canonA (s : ByteArray) : ByteArray × Nat × Nat :=
  if (parseA s).2.2 ≠ 0 then (emptyS, (parseA s).2.1, (parseA s).2.2) else (writeS (normV (parseA s).1), 0, writeE (normV (parseA s).1))
theorem parse_check {s : ByteArray} (h : (parseA s).2.2 = 0) : checkV (parseA s).1 = 0 := by
  have hP := parsed_of h
  rw [parseA_ok hP]
  exact (parse_may s hP.1 hP.2.1 hP.2.2).1
theorem canonA_e {s : ByteArray} (h : (parseA s).2.2 = 0) : canonA s = (writeS (normV (parseA s).1), 0, writeE (normV (parseA s).1)) ∧ isV (normV (parseA s).1) = true := by
  unfold canonA
  rw [if_neg (by rw [h]; exact fun e => e rfl)]
  exact ⟨rfl, is_norm (parse_check h)⟩
/-- P6.5 -/
theorem once_of {s : ByteArray} (h : (canonA s).2.2 = 0) : (parseA s).2.2 = 0 ∧ canonA (canonA s).1 = ((canonA s).1, 0, 0) ∧ (parseA (canonA s).1).2 = (0, 0) ∧ sameV (normV (parseA s).1) (parseA (canonA s).1).1 = true := by
  have hp : (parseA s).2.2 = 0 := by
    by_cases e : (parseA s).2.2 = 0
    · exact e
    · unfold canonA at h; rw [if_pos e] at h; exact absurd h e
  obtain ⟨h1, h2⟩ := canonA_e hp
  rw [h1] at h ⊢
  have hw : writeE (normV (parseA s).1) = 0 := h
  obtain ⟨b1, b2, b3⟩ := back_of hw
  have e2 : (parseA (writeS (normV (parseA s).1))).2.2 = 0 := by rw [b3]
  obtain ⟨c1, c2⟩ := canonA_e e2
  have hnb := norm_bare (parse_check e2) b2
  rw [norm_norm (parse_check hp)] at hnb
  obtain ⟨w1, w2⟩ := write_bare hnb
  refine ⟨hp, ?_, b3, bare_same _ _ b2.symm⟩
  show canonA (writeS (normV (parseA s).1)) = _
  rw [c1, w1, w2, hw]
end Go.Proofs.YtmldpkigfhoalaaDoor.Cn
