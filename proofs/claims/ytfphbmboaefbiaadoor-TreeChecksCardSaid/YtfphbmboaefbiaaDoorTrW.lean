/-
  styluslaw04.awake: the chapter's examples.
-/
import Derived.Test.YtfphbmboaefbiaaDoorTrV
namespace Go.Proofs.YtfphbmboaefbiaaDoor.Tr
open Go.RowKit

/-- What kinds asks of a source, to be decided. -/
def kindsD (s want sizes : ByteArray) : Bool :=
  decide (s.size ≤ 9000) && (decide ((parseA s).2.1 = 0) && (decide ((parseA s).2.2 = 0) && (decide ((parseA s).1.length = want.size) && (decide ((parseA s).1.length = sizes.size) && (decide ((parseA s).1.length ≤ 9000) &&
    (decide ((parseA s).1.map (fun x => (x.kind, x.size)) = (List.range (parseA s).1.length).map fun k => (Lx.bAt want k, (Lx.bAt sizes k : Int) - 48)) && (List.range (parseA s).1.length).all fun k => decide (48 ≤ Lx.bAt sizes k)))))))
def wrongD (s : ByteArray) (p : Nat) : Bool := decide (s.size ≤ 9000) && ((parseA s).1.isEmpty && (decide ((parseA s).2.1 = p) && decide ((parseA s).2.2 = 2)))
theorem kinds_lit (L : Lands) (s want sizes : ByteArray) (h : kindsD s want sizes = true) (w : World) (hL : Ka.Laid w) :
    Calls Tryd.prog 18 #[.string s, .string want, .string sizes] w fun e w' => e = .returned (.bool true) ∧ Below w.heap.size w w' := by
  unfold kindsD at h
  simp only [Bool.and_eq_true, decide_eq_true_eq, List.all_eq_true, List.mem_range] at h
  obtain ⟨h1, h2, h3, h4, h5, h6, h7, h8⟩ := h
  refine kinds_at L s want sizes h1 _ rfl h2 h3 h4 h5 h6 (fun k x hx => ?_) w hL
  have hk := (List.getElem?_eq_some_iff.1 hx).1
  have e : ((parseA s).1.map (fun x => (x.kind, x.size)))[k]? = some (x.kind, x.size) := by rw [List.getElem?_map, hx]; rfl
  rw [h7, List.getElem?_map, List.getElem?_range hk] at e
  have e := Option.some.inj e
  exact ⟨(congrArg Prod.fst e).symm, h8 k hk, (congrArg Prod.snd e).symm⟩
theorem wrong_lit (L : Lands) (s : ByteArray) (p : Nat) (h : wrongD s p = true) (w : World) (hL : Ka.Laid w) :
    Calls Tryd.prog 19 #[.string s, .int .i64 (p : Int)] w fun e w' => e = .returned (.bool true) ∧ Below w.heap.size w w' := by
  unfold wrongD at h
  simp only [Bool.and_eq_true, decide_eq_true_eq, List.isEmpty_iff] at h
  exact wrong_at L s h.1 p h.2.1 h.2.2.1 h.2.2.2 w hL

set_option maxRecDepth 100000 in
set_option maxHeartbeats 4000000 in
/-- styluslaw04.awake -/
theorem awake_any (L : Lands) (w : World) (hL : Ka.Laid w) : Calls Tryd.prog 8 #[] w fun e w' => e = .returned (.bool true) ∧ Below w.heap.size w w' := by
  have HB0 : Below w.heap.size w w := Below.refl _ _
  have hL0 := hL
  go_enter Tryd.func8, Tryd.ntmps8
  go_wp2_with fail
  refine (kinds_lit L { data := #[123, 112, 32, 97, 123, 101, 32, 98, 125, 125] } { data := #[112, 46, 101, 46] } { data := #[52, 49, 50, 49] } (by decide +kernel) _ hL0).mono ?_
  rintro e w1 ⟨rfl, hb1⟩
  have HB1 := Ba.chain HB0 HB0.size hb1
  have hL1 := hL.below HB1 hL.1
  clear hb1 HB0
  go_wp2_with fail
  refine (kinds_lit L { data := #[123, 108, 123, 105, 32, 97, 123, 108, 123, 105, 32, 98, 125, 125, 125, 125] } { data := #[108, 105, 46, 108, 105, 46] } { data := #[54, 53, 49, 51, 50, 49] } (by decide +kernel) _ hL1).mono ?_
  rintro e w2 ⟨rfl, hb2⟩
  have HB2 := Ba.chain HB1 HB1.size hb2
  have hL2 := hL.below HB2 hL.1
  clear hb2 HB1 hL1
  go_wp2_with fail
  refine (kinds_lit L { data := #[123, 107, 125, 32, 123, 112, 125] } { data := #[107, 112] } { data := #[49, 49] } (by decide +kernel) _ hL2).mono ?_
  rintro e w3 ⟨rfl, hb3⟩
  have HB3 := Ba.chain HB2 HB2.size hb3
  have hL3 := hL.below HB3 hL.1
  clear hb3 HB2 hL2
  go_wp2_with fail
  refine (wrong_lit L { data := #[120] } 0 (by decide +kernel) _ hL3).mono ?_
  rintro e w4 ⟨rfl, hb4⟩
  have HB4 := Ba.chain HB3 HB3.size hb4
  have hL4 := hL.below HB4 hL.1
  clear hb4 HB3 hL3
  go_wp2_with fail
  refine (wrong_lit L { data := #[123, 112] } 2 (by decide +kernel) _ hL4).mono ?_
  rintro e w5 ⟨rfl, hb5⟩
  have HB5 := Ba.chain HB4 HB4.size hb5
  have hL5 := hL.below HB5 hL.1
  clear hb5 HB4 hL4
  go_wp2_with fail
  refine (wrong_lit L { data := #[125] } 0 (by decide +kernel) _ hL5).mono ?_
  rintro e w6 ⟨rfl, hb6⟩
  have HB6 := Ba.chain HB5 HB5.size hb6
  have hL6 := hL.below HB6 hL.1
  clear hb6 HB5 hL5
  go_wp2_with fail
  refine (wrong_lit L { data := #[123, 108, 125] } 2 (by decide +kernel) _ hL6).mono ?_
  rintro e w7 ⟨rfl, hb7⟩
  have HB7 := Ba.chain HB6 HB6.size hb7
  have hL7 := hL.below HB7 hL.1
  clear hb7 HB6 hL6
  go_wp2_with fail
  refine (wrong_lit L { data := #[123, 116, 123, 114, 123, 99, 32, 97, 125, 123, 99, 32, 98, 125, 125, 123, 114, 123, 99, 32, 99, 125, 125, 125] } 22 (by decide +kernel) _ hL7).mono ?_
  rintro e w8 ⟨rfl, hb8⟩
  have HB8 := Ba.chain HB7 HB7.size hb8
  have hL8 := hL.below HB8 hL.1
  clear hb8 HB7 hL7
  go_wp2_with fail
  refine (wrong_lit L { data := #[123, 112, 123, 101, 123, 115, 123, 101, 32, 97, 125, 125, 125, 125] } 6 (by decide +kernel) _ hL8).mono ?_
  rintro e w9 ⟨rfl, hb9⟩
  have HB9 := Ba.chain HB8 HB8.size hb9
  have hL9 := hL.below HB9 hL.1
  clear hb9 HB8 hL8
  go_wp2
  go_ret
  exact ⟨rfl, HB9⟩
end Go.Proofs.YtfphbmboaefbiaaDoor.Tr
