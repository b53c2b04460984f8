/-
  The landed tree's parser: a step, against the document's.
-/
import Derived.Test.YtbldloniijmchaaDoorTsL
import Derived.Test.YtbldloniijmchaaDoorVd
namespace Go.Proofs.YtbldloniijmchaaDoor.Tr
open Go.RowKit

set_option maxRecDepth 100000 in
set_option maxHeartbeats 8000000 in
/-- close, where nothing is open. -/
theorem pclose_none {w : World} {N P M n L : Nat} {o : St} {t : List Nd} {z : Int} (h : PaM w N P M n L o t z) (kd nm pl : Nat) (tx : ByteArray) (h1 : ¬ 1 < o.lv.length) :
    Calls Tryd.prog 29 #[.pointer (some ⟨P, 0, none⟩), .agg #[.int .i64 (kd : Int), .int .u8 (nm : Int), .string tx, .int .i64 (pl : Int)]] w fun e w' =>
      e = .returned (.bool false) ∧ w'.cell? ⟨P, 6, none⟩ = some (.int .i64 z) ∧ Below N w w' := by
  obtain ⟨v, hsx⟩ := PaB.start h ⟨kd, nm, tx, pl⟩ 76
  obtain ⟨m, hm⟩ := h.op.len
  obtain ⟨b, hb⟩ := some_at (l := o.lv) (i := m) (by omega)
  obtain ⟨s, hs⟩ : ∃ s, b.start = s := ⟨_, rfl⟩
  have HST := Lib.hid (hsx _ rfl)
  have HM := Lib.hid hm
  have HB := Lib.hid hb
  have HS := Lib.hid hs
  have H1 := Lib.hid h1
  have hP := h.op.ltP
  clear h hsx hm hb hs h1
  go_enter Tryd.func29, Tryd.ntmps29
  go_wp2_with (first
    | (go_at_call 47; refine (top_at HST.out.pa.op m HM.out).mono ?_; rintro e w' ⟨rfl, j, rfl⟩; have h2 := HST.out.drewN j; clear HST; generalize (w.alloc (.cells #[.int .i64 (kd : Int), .int .u8 (nm : Int), .string tx, .int .i64 (pl : Int)] 76)).drewN j = w1 at h2; have b1 := (h2.pa.op.at HB.out).2.1; rw [HS.out] at b1; replace h2 := Lib.hid h2)
    | (go_at_call 33; refine (leave_none h2.out.pa.op H1.out).mono ?_; rintro e w3 ⟨rfl, rfl⟩))
  go_ret
  exact ⟨rfl, h2.out.pa.pl, h2.out.below.below⟩
/-- Behind a step of the parser. -/
structure After (w w' : World) (N P M n L : Nat) (t : List Nd) (p : List Op) (x : Lx.Lx) (v : Bool) : Prop where
  below : Below N w w'
  no : v = false → ∃ z : Nat, w'.cell? ⟨P, 6, none⟩ = some (.int .i64 (z : Int)) ∧ errStep t p x = (z, 2)
  yes : v = true → ∃ L' o' tl', ∃ z : Nat, PaM w' N P M n L' o' tl' (z : Int) ∧ Moved N P L L' w w' ∧ SimS (stepR (t, p) x).1 (stepR (t, p) x).2 o' ∧ SimT (stepR (t, p) x).1 tl' (stepR (t, p) x).2 ∧
    ((errStep t p x).2 = 0 → o'.deep = false ∧ o'.much = false) ∧ ((errStep t p x).2 ≠ 0 → z = (errStep t p x).1 ∧ beyondS o' = (errStep t p x).2)
/-- The parser, between two steps. -/
structure Ready (w : World) (N P M n L : Nat) (o : St) (tl : List Nd) (z : Int) (t : List Nd) (p : List Op) (k Mb : Nat) : Prop where
  pa : PaM w N P M n L o tl z
  s : SimS t p o
  sk : SimT t tl p
  b : Bnd k Mb t p
  deep : o.deep = false
  much : o.much = false
theorem cast_add (a b : Nat) : ((a : Int) + (b : Int)) = ((a + b : Nat) : Int) := by omega
theorem dark_bad (s : ByteArray) : badF darkB s = (darkAt s).getD s.size := rfl
theorem dark_lt {s : ByteArray} {i : Nat} (h : darkAt s = some i) : i < s.size := List.mem_range.1 (List.mem_of_find?_eq_some h)
theorem call_text {w : World} {N P M n L : Nat} {o : St} {tl t : List Nd} {p : List Op} {k Mb : Nat} (pl nm : Nat) (tx : ByteArray) (h : Ready w N P M n L o tl (pl : Int) t p k Mb) (hk : k < 100000) (hM : Mb < 1000000000000) (htx : tx.size < 1000000) (hpl : pl < 1000000) (hL : Ka.Laid w) :
    Calls Tryd.prog 27 #[.pointer (some ⟨P, 0, none⟩), .agg #[.int .i64 ((1 : Nat) : Int), .int .u8 (nm : Int), .string tx, .int .i64 (pl : Int)]] w fun e w' => ∃ v, e = .returned (.bool v) ∧ After w w' N P M n L t p ⟨1, nm, tx, pl⟩ v := by
  obtain ⟨b1, b2, b3, b4, b5, b6⟩ := bounds h.s h.b
  have hlen := h.sk.len
  have hnd := h.b.nodes
  have hmt := h.s.rel.texts
  by_cases ht : textsP p = true
  · obtain ⟨s1, s2, s3, s4⟩ := h.s.text nm tx pl ht
    rw [h.deep] at s2
    rw [h.much, Bool.false_or] at s3
    refine (ptext_yes h.pa 1 nm pl tx (by rw [hmt, ht]) (by omega) (by omega) (by omega) ⟨by omega, fun b hb => by have := b6 b hb; omega⟩).mono ?_
    rintro e w' ⟨rfl, q1, q2⟩
    refine ⟨true, rfl, q2.below, (fun e => by cases e), fun _ => ⟨L, _, _, pl, q1, q2, s1, ?_, fun e0 => ⟨s2, by rw [s3, e0]; rfl⟩, fun e0 => ?_⟩⟩
    · rw [step_text t p nm tx pl ht]
      refine h.sk.text _ ?_
      simp only []
      split
      · rw [sp_modify _ _ (addText tx) (fun _ => rfl), sp_modify _ _ (addKid 46) (fun _ => rfl)]
      · rw [sp_modify _ _ (addKid 46) (fun _ => rfl)]
    · have e4 : (errStep t p ⟨1, nm, tx, pl⟩).2 = 4 := s4.resolve_left e0
      have hm : (sayS o tx.size).much = true := by rw [s3, e4]; rfl
      refine ⟨?_, by unfold beyondS; rw [s2, hm, e4]; rfl⟩
      rw [err_text_eq t p nm tx pl ht] at e4 ⊢
      split
      · rfl
      · rename_i hc; rw [if_neg hc] at e4; cases e4
  · rw [Bool.not_eq_true] at ht
    have hst : stepR (t, p) ⟨1, nm, tx, pl⟩ = (t, p) := by
      unfold stepR
      simp only [ht]
      rfl
    have her : errStep t p ⟨1, nm, tx, pl⟩ = (match darkAt tx with | some i => (pl + i, 2) | none => (0, 0)) := by
      unfold errStep
      simp only [ht]
      rfl
    have hb := dark_bad tx
    refine (ptext_no pl h.pa 1 nm pl tx (by rw [hmt, ht]) (by omega) (by omega) hL (badF darkB tx) rfl).mono ?_
    rintro e w' ⟨rfl, q1, q2⟩
    refine ⟨_, rfl, q2.below, fun e0 => ?_, fun e0 => ?_⟩
    · rw [cast_add] at q1
      refine ⟨_, q1.pl, ?_⟩
      rw [her]
      cases hd : darkAt tx with
      | none => rw [hb, hd] at e0; simp at e0
      | some i => rw [hb, hd]; rfl
    · have e1 : (errStep t p ⟨1, nm, tx, pl⟩).2 = 0 := by
        rw [her]
        cases hd : darkAt tx with
        | none => rfl
        | some i =>
          have := dark_lt hd
          rw [hb, hd] at e0
          simp at e0; omega
      rw [cast_add] at q1
      exact ⟨L, o, tl, _, q1, q2, by rw [hst]; exact h.s, by rw [hst]; exact h.sk, fun _ => ⟨h.deep, h.much⟩, fun e2 => absurd e1 e2⟩
theorem call_open {w : World} {N P M n L : Nat} {o : St} {tl t : List Nd} {p : List Op} {k Mb : Nat} (pl nm : Nat) (h : Ready w N P M n L o tl (pl : Int) t p k Mb) (hk : k < 100000) (hnm : nm < 256) (h46 : nm ≠ 46) :
    Calls Tryd.prog 28 #[.pointer (some ⟨P, 0, none⟩), .agg #[.int .i64 ((2 : Nat) : Int), .int .u8 (nm : Int), .string emptyS, .int .i64 (pl : Int)]] w fun e w' => ∃ v, e = .returned (.bool v) ∧ After w w' N P M n L t p ⟨2, nm, emptyS, pl⟩ v := by
  obtain ⟨b1, b2, b3, b4, b5, b6⟩ := bounds h.s h.b
  have hlen := h.sk.len
  have hnd := h.b.nodes
  have hpos := h.s.rel.pos
  have hmt := h.s.rel.opens h46
  by_cases ht : opensP p nm = true
  · obtain ⟨s1, s2, s3, s4⟩ := h.s.open emptyS pl hnm h46 ht
    rw [h.deep, Bool.false_or] at s2
    rw [h.much, Bool.false_or] at s3
    refine (popen_yes h.pa 2 nm pl emptyS hnm (by rw [hmt, ht]) (by omega) (by omega) (by have := b3 nm; omega) (by omega) (by omega)).mono ?_
    rintro e w' ⟨rfl, L', q1, q2⟩
    refine ⟨true, rfl, q2.below, (fun e => by cases e), fun _ => ⟨L', _, _, pl, q1, q2, s1, ?_, fun e0 => ?_, fun e0 => ?_⟩⟩
    · rw [step_open]
      refine h.sk.open ⟨nm, emptyS, (pl : Int), 1⟩ ?_
      have hq : sp (if nm = 110 then (p.modify (p.length - 1) (addKid nm)).modify (lastP p aroundS) addNote else p.modify (p.length - 1) (addKid nm)) = sp p := by
        split
        · rw [sp_modify _ _ addNote (fun _ => rfl), sp_modify _ _ (addKid nm) (fun _ => rfl)]
        · rw [sp_modify _ _ (addKid nm) (fun _ => rfl)]
      rw [sp_snoc _ _ (by split <;> simp [hpos]), hq]
    · have hd : (enterS o nm).deep = false := by rw [s2, e0]; rfl
      exact ⟨hd, by rw [s3 hd, e0]; rfl⟩
    · have hpl : pl = (errStep t p ⟨2, nm, emptyS, pl⟩).1 := by
        rw [err_open_eq t p nm emptyS pl ht] at e0 ⊢
        split
        · rfl
        · split
          · rfl
          · rename_i c1 c2; rw [if_neg c1, if_neg c2] at e0; exact absurd rfl e0
      refine ⟨hpl, ?_⟩
      rcases s4 with e | e | e
      · exact absurd e e0
      · have hd : (enterS o nm).deep = false := by rw [s2, e]; rfl
        unfold beyondS
        rw [hd, s3 hd, e]; rfl
      · unfold beyondS
        rw [s2, e]; rfl
  · rw [Bool.not_eq_true] at ht
    have her : errStep t p ⟨2, nm, emptyS, pl⟩ = (pl, 2) := by
      unfold errStep
      simp only [ht]
      rfl
    refine (popen_no h.pa 2 nm pl emptyS hnm (by rw [hmt, ht]) (by omega)).mono ?_
    rintro e w' ⟨rfl, q1, q2⟩
    exact ⟨false, rfl, q2.below, fun _ => ⟨pl, q1.pl, her⟩, fun e => by cases e⟩
theorem call_close {w : World} {N P M n L : Nat} {o : St} {tl t : List Nd} {p : List Op} {k Mb : Nat} (pl nm : Nat) (h : Ready w N P M n L o tl (pl : Int) t p k Mb) (hk : k < 100000) :
    Calls Tryd.prog 29 #[.pointer (some ⟨P, 0, none⟩), .agg #[.int .i64 ((3 : Nat) : Int), .int .u8 (nm : Int), .string emptyS, .int .i64 (pl : Int)]] w fun e w' => ∃ v, e = .returned (.bool v) ∧ After w w' N P M n L t p ⟨3, nm, emptyS, pl⟩ v := by
  obtain ⟨b1, b2, b3, b4, b5, b6⟩ := bounds h.s h.b
  have hlen := h.sk.len
  have hnd := h.b.nodes
  have hpos := h.s.rel.pos
  have hl := h.s.rel.len
  obtain ⟨s1, s2, s3⟩ := h.s.close nm emptyS pl
  by_cases h1 : 1 < o.lv.length
  · have hst := h.s.rel.top.start
    have hsp := sp_top (p := p) (by omega) hpos
    have hin : (topP p).spot < t.length := h.sk.lt _ (by rw [hsp]; simp)
    refine (pclose_at h.pa 3 nm pl emptyS h1 (by rw [hst, hlen]; exact hin) (by omega) (by omega)).mono ?_
    rintro e w' ⟨rfl, q1, q2, q3⟩
    refine ⟨_, rfl, q2, fun e0 => ⟨pl, q1, s2.resolve_left (fun e => by rw [s1.2 e] at e0; cases e0)⟩, fun e0 => ?_⟩
    obtain ⟨q4, q5⟩ := q3 e0
    have e1 := s1.1 e0
    refine ⟨L, _, _, pl, q4, q5, s3 e0, ?_, fun _ => ⟨h.deep, h.much⟩, fun e2 => absurd e1 e2⟩
    have hs : stepR (t, p) ⟨3, nm, emptyS, pl⟩ = (t.modify (topP p).spot (setSize ((t.length : Int) - ((topP p).spot : Int))), (if (topP p).kind = 114 ∧ (p.getD (p.length - 1 - 1) root).first = 0 then p.modify (p.length - 1 - 1) (setFirst (topP p).kids.size) else p).take (p.length - 1)) := by
      unfold stepR
      simp only []
      rw [if_neg (by decide), if_neg (by decide)]
    rw [hs]
    unfold closeT
    rw [hst, h.s.nodes]
    refine h.sk.close (s := (topP p).spot) ?_ _
    rw [hsp]
    congr 1
    split
    · have : ∀ (i m : Nat) (f : Op → Op), ((p.modify i f).take m) = (p.take m).modify i f := fun i m f => by
        apply List.ext_getElem?
        intro n
        rw [List.getElem?_modify, List.getElem?_take, List.getElem?_take, List.getElem?_modify]
        by_cases q1 : n < m <;> by_cases q2 : i = n <;> simp [q1, q2]
      rw [this, sp_modify _ _ (setFirst _) (fun _ => rfl)]
    · rfl
  · have hlb : leaveB o = false := by unfold leaveB; rw [if_pos (by omega)]
    refine (pclose_none h.pa 3 nm pl emptyS h1).mono ?_
    rintro e w' ⟨rfl, q1, q2⟩
    exact ⟨false, rfl, q2, fun _ => ⟨pl, q1, s2.resolve_left (fun e => by rw [s1.2 e] at hlb; cases hlb)⟩, fun e => by cases e⟩
end Go.Proofs.YtbldloniijmchaaDoor.Tr
