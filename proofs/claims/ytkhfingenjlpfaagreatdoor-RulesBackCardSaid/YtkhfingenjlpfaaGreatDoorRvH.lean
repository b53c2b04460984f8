/-
  The landed package rules: Print.
-/
import Derived.Test.YtkhfingenjlpfaaGreatDoorRvE
import Derived.Test.YtkhfingenjlpfaaGreatDoorRuI
import Derived.Lib.Builder
import Derived.Lib.AppendStr
import Derived.Lib.UnsafeStr
namespace Go.Proofs.YtkhfingenjlpfaaGreatDoor.Ru
open Go.RowKit Ba

/-- What WriteString's contract asks of the program. -/
theorem lays166 : Go.Proofs.Lays.n166 Tryz.prog Tryz.lays156_ren :=
  let L := Tryz.lays156
  { mixed := L.mixed, f166 := L.f166, f240 := L.f240, f276 := L.f276, t0 := L.t0, a0 := L.a0, z0 := L.z0, v0 := L.v0, t3 := L.t3, a3 := L.a3, z3 := L.z3, v3 := L.v3, t4 := L.t4, a4 := L.a4, z4 := L.z4, v4 := L.v4, t9 := L.t9, a9 := L.a9, z9 := L.z9, v9 := L.v9,
    t20 := L.t20, a20 := L.a20, z20 := L.z20, v20 := L.v20, t37 := L.t37, a37 := L.a37, z37 := L.z37, v37 := L.v37, t70 := L.t70, a70 := L.a70, z70 := L.z70, v70 := L.v70, t72 := L.t72, a72 := L.a72, z72 := L.z72, v72 := L.v72, t75 := L.t75, a75 := L.a75, z75 := L.z75, v75 := L.v75, t164 := L.t164, a164 := L.a164, z164 := L.z164, v164 := L.v164 }
/-- A builder at block b, above B, that holds the bytes of S. -/
abbrev BldS (B b : Nat) (S : ByteArray) (w : World) : Prop := Lib.IsBuilder 53 5 B b (Lib.strCells S) w
theorem bldAt_below {B b : Nat} {p : Value} {bs : List Value} {w w' : World} (h : Lib.BuilderAt 53 5 B b p bs w) (hb : Below w.heap.size w w') : Lib.BuilderAt 53 5 B b p bs w' := by
  obtain ⟨h1, v, h2, h3, h4⟩ := h
  exact ⟨h1, v, (hb.block b (Array.getElem?_eq_some_iff.1 h2).1).trans h2, own_below h3 hb, h4⟩
theorem BldS.below {B b : Nat} {S : ByteArray} {w w' : World} (h : BldS B b S w) (hb : Below w.heap.size w w') : BldS B b S w' := by
  rcases h with h | h
  · exact .inl (bldAt_below h hb)
  · exact .inr (bldAt_below h hb)
theorem cat_cellsR (S s : ByteArray) : Lib.strCells (S ++ s) = Lib.strCells S ++ Lib.strCells s := by
  unfold Lib.strCells
  rw [ByteArray.data_append, Array.toList_append, List.map_append]
theorem writeS_at (B b : Nat) (S s : ByteArray) (w : World) (h : BldS B b S w) (hS : S.size ≤ 1000000) (hs : s.size ≤ 1000000) (hB : B ≤ w.heap.size) :
    Calls Tryz.prog 28 #[.pointer (some ⟨b, 0, none⟩), .string s] w fun e w' => e = .returned (.tuple #[.int .i64 ((s.size : Nat) : Int), .nilIface]) ∧ BldS B b (S ++ s) w' ∧ Below B w w' := by
  refine (Go.Proofs.Any.Builder_WriteString lays166 Tryz.Builder_Extra_156 B b (Lib.strCells S) s w h (by rw [Lib.strCells_length]; omega) hB).mono ?_
  rintro e w' ⟨rfl, h1, h2⟩
  refine ⟨rfl, .inr ?_, h2⟩
  rw [cat_cellsR]; exact h1
theorem stringS_at (B b : Nat) (S : ByteArray) (w : World) (h : BldS B b S w) (hB : B ≤ w.heap.size) :
    Calls Tryz.prog 30 #[.pointer (some ⟨b, 0, none⟩)] w fun e w' => e = .returned (.string S) ∧ Below B w w' := by
  refine (Tryz.Builder_String_any B b S.data.toList w h hB).mono ?_
  rintro e w' ⟨rfl, h2⟩
  exact ⟨rfl, h2⟩
theorem BldS.new (w : World) : BldS w.heap.size w.heap.size { data := #[] } (w.alloc (.cells #[.pointer none, .slice none 0 0] 53)) :=
  .inl ⟨Nat.le_refl _, .slice none 0 0, World.alloc_heap_new w _, World.ownsRow_nil _ _ _ _, by simp [Value.ownBlock]⟩
theorem textR_take {l : List Rl} {k : Nat} {x : Rl} (hx : l[k]? = some x) : bytesOf (textR prC (l.take (k + 1))) = bytesOf (textR prC (l.take k)) ++ (bytesOf (lineR prC x) ++ { data := #[10] }) := by
  have e : textR prC (l.take (k + 1)) = textR prC (l.take k) ++ (lineR prC x ++ [10]) := by
    unfold textR
    rw [List.take_add_one, hx, Option.toList_some, List.flatMap_append, List.flatMap_cons, List.flatMap_nil, List.append_nil]
  have ap : ∀ a b : List Nat, bytesOf (a ++ b) = bytesOf a ++ bytesOf b := fun a b => by
    refine ByteArray.ext ?_
    show ((a ++ b).map UInt8.ofNat).toArray = _
    rw [ByteArray.data_append]
    show _ = (a.map UInt8.ofNat).toArray ++ (b.map UInt8.ofNat).toArray
    simp
  rw [e, ap, ap]; rfl
/-- How Print ends. -/
def PrintTo (l : List Rl) (w : World) (e : Ending) (w' : World) : Prop :=
  e = .returned (.tuple #[.string (bytesOf (printZ l).1), .int .i64 (((printZ l).2 : Nat) : Int)]) ∧ Below w.heap.size w w'
set_option maxRecDepth 100000 in
set_option maxHeartbeats 8000000 in
/-- rules.Print -/
theorem print_at' (v : Value) (l : List Rl) (off : Nat) (hl9 : l.length ≤ 1000) (hf : ∀ x ∈ l, FitR x ∧ x.left.length ≤ 9000 ∧ x.cells.length ≤ 9000) (w : World) (hL : LaidR w) (hv : ReadsR off w w.heap.size v l) :
    Calls Tryz.prog 11 #[v] w (PrintTo l w) := by
  obtain ⟨A, c, rfl, hA⟩ := hv
  obtain ⟨n, hn⟩ : ∃ n, l.length = n := ⟨_, rfl⟩
  rw [hn] at hl9 ⊢
  have HA := Lib.hid hA
  have HN := Lib.hid hn
  have HF := Lib.hid hf
  have HL := Lib.hid hL
  have hLN := hL.1
  unfold PrintTo
  by_cases h4 : 400 < n
  · have hz := printZ_many (l := l) (by rw [hn]; exact h4)
    rw [hz]
    have u1 : decide (400 < (n : Int)) = true := decide_eq_true (by omega)
    clear hA hn hf hL hz h4
    go_enter Tryz.func11, Tryz.ntmps11
    go_wp2
    go_ret2
    exact ⟨rfl, Below.refl _ _⟩
  · have u1 : decide (400 < (n : Int)) = false := decide_eq_false (by omega)
    have n4 : n ≤ 400 := by omega
    have hB0 : Below w.heap.size w (w.alloc (.cells #[.pointer none, .slice none 0 0] 53)) := (Below.refl _ w).alloc (Nat.le_refl _) _
    have HB0 := Lib.hid hB0
    have HD0 := Lib.hid (BldS.new w)
    clear hA hn hf hL h4 hB0
    go_enter Tryz.func11, Tryz.ntmps11
    go_wp2
    generalize w.alloc (.cells #[.pointer none, .slice none 0 0] 53) = w0 at HB0 HD0 ⊢
    go_loopw [12] (fun u12 wr => ∃ k : Nat, u12 = .int .i64 (k : Int) ∧ k ≤ n ∧ (∀ y ∈ l.take k, mayR prC y = true) ∧ BldS w.heap.size w.heap.size (bytesOf (textR prC (l.take k))) wr ∧ Below w.heap.size w wr) (fun u12 _ => n - (intOf u12).toNat)
    case atStart => exact ⟨0, rfl, Nat.zero_le _, fun y hy => by simp at hy, HD0.out, HB0.out⟩
    case round =>
      obtain ⟨k, rfl, hk, hm, hd, hB⟩ := hrel
      have HM := Lib.hid hm
      have HD := Lib.hid hd
      have HB := Lib.hid hB
      have k0 : (0 : Int) ≤ (k : Int) := by omega
      clear hm hd
      by_cases hlt : k < n
      · obtain ⟨g, rfl, hgw, hg⟩ := HA.out (by rw [HN.out]; omega)
        obtain ⟨x, hx⟩ : ∃ x, l[k]? = some x := ⟨_, List.getElem?_eq_getElem (by rw [HN.out]; exact hlt)⟩
        obtain ⟨g0, g1, g2, g3, g4⟩ := rcell hg k x hx
        have g0 := (hB.cell (p := ⟨g, off + k * 5, none⟩) hgw).trans g0
        have g1 := (hB.cell (p := ⟨g, off + k * 5 + 1, none⟩) hgw).trans g1
        have g2 := (hB.cell (p := ⟨g, off + k * 5 + 2, none⟩) hgw).trans g2
        have g3 := (hB.cell (p := ⟨g, off + k * 5 + 3, none⟩) hgw).trans g3
        have g4 := (hB.cell (p := ⟨g, off + k * 5 + 4, none⟩) hgw).trans g4
        obtain ⟨f1, f2, f3⟩ := HF.out x (List.mem_of_getElem? hx)
        obtain ⟨mb, hmb⟩ : ∃ mb, mayR prC x = mb := ⟨_, rfl⟩
        have HMB := Lib.hid hmb
        have HX := Lib.hid hx
        have HMAY := Lib.hid (fun W hW => may_at x f1.2.2.2.1 f1.2.2.2.2.1 (by omega) (by omega) mb hmb W hW)
        have HLN := Lib.hid (fun hm W hW => lineOf_at x f1.2.2.2.1 f1.2.2.2.2.1 (by omega) (by omega) hm W hW)
        have HTK := Lib.hid (textR_take hx)
        have HLL := Lib.hid (fun (h : mb = true) => line_len (show mayR prC x = true by rw [hmb, h]))
        have HTM := Lib.hid (fun (h : mb = true) => take_may HM.out hx (show mayR prC x = true by rw [hmb, h]))
        have HTL := Lib.hid (text_len (l.take k) HM.out)
        have HBAD := Lib.hid (fun (h : mb = false) => printZ_bad (l := l) (by rw [HN.out]; exact n4) hx (show mayR prC x = false by rw [hmb, h]))
        have k1 : (k : Int) < (n : Int) := by omega
        obtain ⟨xw, xl, xc, xp, xn⟩ := x
        simp only [aggR] at HMAY HLN
        simp only [] at g0 g1 g2 g3 g4
        obtain ⟨L, hLL⟩ : ∃ L, bytesOf xl = L := ⟨_, rfl⟩
        obtain ⟨C, hCC⟩ : ∃ C, bytesOf xc = C := ⟨_, rfl⟩
        rw [hLL] at g1 HMAY HLN
        rw [hCC] at g2 HMAY HLN
        clear hx f1 f2 f3 hmb hg hgw hB hLL hCC
        go_upto_region 7 with fail
        have hst := StB.new wr xw L C xp xn
        have hb1 : Below wr.heap.size wr (wr.alloc (.cells #[.int .i64 xw, .string L, .string C, .int .i64 xp, .int .i64 xn] 39)) := (Below.refl _ _).alloc (Nat.le_refl _) _
        clear g0 g1 g2 g3 g4
        generalize wr.alloc (.cells #[.int .i64 xw, .string L, .string C, .int .i64 xp, .int .i64 xn] 39) = w1 at hst hb1 ⊢
        have HB1 := Lib.hid (chain HB.out HB.out.size hb1)
        have HL1 := Lib.hid (HL.out.below HB1.out hLN)
        have HS1 := Lib.hid hst
        have HD1 := Lib.hid (HD.out.below hb1)
        obtain ⟨c0, c1, c2, c3, c4⟩ : w1.cell? ⟨wr.heap.size, 0, none⟩ = some (.int .i64 xw) ∧ w1.cell? ⟨wr.heap.size, 1, none⟩ = some (.string L) ∧ w1.cell? ⟨wr.heap.size, 2, none⟩ = some (.string C) ∧ w1.cell? ⟨wr.heap.size, 3, none⟩ = some (.int .i64 xp) ∧ w1.cell? ⟨wr.heap.size, 4, none⟩ = some (.int .i64 xn) := ⟨hst.c0, hst.c1, hst.c2, hst.c3, hst.c4⟩
        clear hst hb1
        go_wp2_with fail
        refine (HMAY.out _ HL1.out).mono ?_
        rintro e w2 ⟨rfl, hb2⟩
        have HB2 := Lib.hid (chain HB1.out HB1.out.size hb2)
        have HL2 := Lib.hid (HL.out.below HB2.out hLN)
        have HS2 := HS1.out.kept hb2
        have HD2 := Lib.hid (HD1.out.below hb2)
        obtain ⟨d0, d1, d2, d3, d4⟩ : w2.cell? ⟨wr.heap.size, 0, none⟩ = some (.int .i64 xw) ∧ w2.cell? ⟨wr.heap.size, 1, none⟩ = some (.string L) ∧ w2.cell? ⟨wr.heap.size, 2, none⟩ = some (.string C) ∧ w2.cell? ⟨wr.heap.size, 3, none⟩ = some (.int .i64 xp) ∧ w2.cell? ⟨wr.heap.size, 4, none⟩ = some (.int .i64 xn) := ⟨HS2.c0, HS2.c1, HS2.c2, HS2.c3, HS2.c4⟩
        clear hb2 HS2 c0 c1 c2 c3 c4
        cases mb
        · have HZ := Lib.hid (HBAD.out rfl)
          go_wp2
          go_ret2
          refine ⟨?_, HB2.out⟩
          rw [HZ.out]; rfl
        · obtain ⟨LN, hLNN⟩ : ∃ LN, bytesOf (lineR prC ⟨xw, xl, xc, xp, xn⟩) = LN := ⟨_, rfl⟩
          have hlz : LN.size ≤ 60 := by
            have := HLL.out rfl
            rw [List.length_append] at this
            rw [← hLNN, bytesOf_size]; omega
          have HTK2 := Lib.hid (show bytesOf (textR prC (l.take (k + 1))) = bytesOf (textR prC (l.take k)) ++ (LN ++ { data := #[10] }) by rw [← hLNN]; exact HTK.out)
          have HLN2 := Lib.hid (fun W hW => (show Calls Tryz.prog 29 #[.agg #[.int .i64 xw, .string L, .string C, .int .i64 xp, .int .i64 xn]] W fun e w' => e = .returned (.string LN) ∧ Below W.heap.size W w' from by rw [← hLNN]; exact HLN.out HMB.out W hW))
          obtain ⟨S, hS⟩ : ∃ S, bytesOf (textR prC (l.take k)) = S := ⟨_, rfl⟩
          have hSz : S.size ≤ 60 * 400 := by
            rw [← hS, bytesOf_size]
            have h1 := HTL.out
            have h2 : (l.take k).length ≤ 400 := by rw [List.length_take]; omega
            omega
          rw [hS] at HTK2 HD2
          have HTMM := Lib.hid (HTM.out rfl)
          clear hLNN hS
          go_wp2_with fail
          refine (HLN2.out _ HL2.out).mono ?_
          rintro e w3 ⟨rfl, hb3⟩
          have HB3 := Lib.hid (chain HB2.out HB2.out.size hb3)
          have HD3 := Lib.hid (HD2.out.below hb3)
          clear hb3 d0 d1 d2 d3 d4
          go_wp2_with fail
          have hMz : (LN ++ { data := #[10] } : ByteArray).size ≤ 61 := by
            rw [ByteArray.size_append]
            have : ({ data := #[10] } : ByteArray).size = 1 := rfl
            omega
          generalize (LN ++ { data := #[10] } : ByteArray) = M at HTK2 hMz ⊢
          have HWS := Lib.hid (writeS_at w.heap.size w.heap.size S M w3 HD3.out (by omega) (by omega) HB3.out.size)
          refine HWS.out.mono ?_
          rintro e w4 ⟨rfl, hd4, hb4⟩
          have HD4 := Lib.hid hd4
          have HB4 := Lib.hid (HB3.out.trans hb4)
          clear hd4 hb4
          go_wp2
          go_roundw
          case rel => exact ⟨k + 1, by go_num, by omega, HTMM.out, by rw [HTK2.out]; exact HD4.out, HB4.out⟩
          case measure => simp [intOf]; omega
      · obtain rfl : k = n := by omega
        have hall : l.take k = l := List.take_of_length_le (by rw [HN.out]; exact Nat.le_refl _)
        rw [hall] at HM HD
        have HZ := Lib.hid (printZ_ok (l := l) (by rw [HN.out]; exact n4) HM.out)
        clear hall hB
        go_wp2_with fail
        refine (stringS_at w.heap.size w.heap.size _ _ HD.out HB.out.size).mono ?_
        rintro e w2 ⟨rfl, hb2⟩
        have HB2 := Lib.hid (HB.out.trans hb2)
        clear hb2
        go_wp2
        go_ret2
        refine ⟨?_, HB2.out⟩
        rw [HZ.out]; rfl
end Go.Proofs.YtkhfingenjlpfaaGreatDoor.Ru
