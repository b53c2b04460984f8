/-
  What the rows' proofs over this program share: the listed variables as the program's text lays them.
-/
import Derived.Test.YtkhfingenjlpfaaGreatDoorRuC
import Derived.Test.YtkhfingenjlpfaaGreatDoorTie
import Derived.ProofKit
import Derived.LaidMore
import Derived.OpenShut
import Derived.Lay
import Derived.SevenTiedAt
import Derived.Stop.Joined
import Derived.Stop.LaidErr
import Derived.Lib.LaidTab
namespace Go.Proofs.YtkhfingenjlpfaaGreatDoor.Ru
open Go.ChangeShapes Go.WideShapes Go.ChangeAt Go.RowKit

theorem own : ownKnob Tryz.prog.godebug = none := by kernel_rfl
theorem gTab : Tryz.prog.globalNamed "stylus/chars.classes" = some 3 := by kernel_rfl
theorem tTab : (Tryz.prog.globals[3]?).map (·.type) = some 129 := by kernel_rfl
theorem tSpace : (Tryz.prog.globals[1]?).map (·.type) = some 83 := by kernel_rfl
theorem gES : Tryz.prog.globalNamed "strconv.ErrSyntax" = some 5 := by kernel_rfl
theorem gER : Tryz.prog.globalNamed "strconv.ErrRange" = some 6 := by kernel_rfl
theorem gWords : Tryz.prog.globalNamed "stylus/rules.words" = some 0 := by kernel_rfl
theorem tWords : (Tryz.prog.globals[0]?).map (·.type) = some 77 := by kernel_rfl
def laidV : List (String × DataW Unit) := [("math/bits.deBruijn32tab", Rows.laid_math_bits_deBruijn32tab), ("math/bits.deBruijn64tab", Rows.laid_math_bits_deBruijn64tab), ("internal/strconv.uint64pow10", Rows.laid_internal_strconv_uint64pow10), ("unicode/utf8.acceptRanges", Rows.laid_unicode_utf8_acceptRanges), ("strconv.ErrRange", Rows.laid_strconv_ErrRange), ("strconv.ErrSyntax", Rows.laid_strconv_ErrSyntax), ("stylus/chars.classes", Rows.laid_stylus_chars_classes), ("unicode.White_Space", Rows.laid_unicode_White_Space), ("strings.asciiSpace", Rows.laid_strings_asciiSpace), ("stylus/rules.words", Rows.laid_stylus_rules_words), ("unicode/utf8.first", Rows.laid_unicode_utf8_first)]
def tabL : List Int := [6597069766656, 0, 4919056986126943301, 4611761005120402227, 2459565876494606880, 2345624805922, 1229782938247303440, 1172812402961, 0, 0, 0, 0, 0, 0, 0, 0]
def rR : List (String × DataW Unit) := [("unicode/utf8.first", Rows.laid_unicode_utf8_first)]
theorem plainV : (laidV.all fun x => x.2.handleName?.isNone) = true := by kernel_rfl
set_option maxRecDepth 100000 in
theorem parts_of {W : World} (h : laidMetH Tryz.prog laidV W) :
    laidMet Tryz.prog (("strconv.ErrRange", Rows.laid_strconv_ErrRange) :: laidV.drop 5) W ∧ laidMet Tryz.prog (("strconv.ErrSyntax", Rows.laid_strconv_ErrSyntax) :: laidV.drop 6) W ∧ laidMet Tryz.prog (("stylus/chars.classes", Lib.tabData .u64 tabL) :: laidV.drop 7) W ∧
    laidMet Tryz.prog (("strings.asciiSpace", Lib.tabData .u8 Lib.asciiSpaceTab) :: laidV.drop 9) W ∧ laidMet Tryz.prog (("stylus/rules.words", Rows.laid_stylus_rules_words) :: laidV.drop 10) W := by
  rw [MakeChecks.laidMetH_plain _ _ _ plainV] at h
  have h4 : laidMet Tryz.prog (laidV.drop 4) W := laidMet.tail (laidMet.tail (laidMet.tail (laidMet.tail h)))
  have h5 : laidMet Tryz.prog (laidV.drop 5) W := laidMet.tail h4
  have h6 : laidMet Tryz.prog (laidV.drop 6) W := laidMet.tail h5
  have h8 : laidMet Tryz.prog (laidV.drop 8) W := laidMet.tail (laidMet.tail h6)
  exact ⟨h4, h5, h6, h8, laidMet.tail h8⟩
theorem lt_of_cell {W : World} {g i : Nat} {v : Value} (h : W.cell? ⟨g, i, none⟩ = some v) : g < W.heap.size := by
  rcases Nat.lt_or_ge g W.heap.size with hz | hz
  · exact hz
  · rw [World.cell?, Array.getElem?_eq_none (by exact hz)] at h
    simp at h
theorem bytesOf_list (s : ByteArray) (l : List Nat) (hl : s.data.toList = l.map UInt8.ofNat) : s = Ba.bytesOf l := by
  unfold Ba.bytesOf
  rw [← hl]
/-- An array of texts that reads as these texts holds them, cell for cell. -/
theorem cells_of_texts {H : Type} {enc : TypeId × Value → H} {P : Program} {w : World} {base : Nat} {sp : Nat → Bool} {held : Bool} {fuel : Nat} {t e : TypeId} {n : Nat} {cs : List Value} {zs : List (List Nat)} {p : List MemPlace}
    (ht : P.underlying t = some (.array n e)) (he : P.underlying e = some .string) (hce : P.cellsOf e = 1) (hct : P.cellsOf t = n)
    (h : DataW.trod enc P w base sp held fuel t cs = some (.agg (zs.map fun z => .lit (.string (z.map UInt8.ofNat))), p)) : ∀ (i : Nat) (z : List Nat), zs[i]? = some z → cs[i]? = some (.string (Ba.bytesOf z)) := by
  cases fuel with
  | zero => simp [DataW.trod] at h
  | succ fuel =>
    simp only [DataW.trod, ht, hce, hct, Nat.mul_one] at h
    split at h
    · rename_i hl
      obtain ⟨xs, hm, hx⟩ := Option.map_eq_some_iff.1 h
      have hxs : xs.map (·.1) = zs.map fun z => (DataW.lit (.string (z.map UInt8.ofNat)) : DataW H) := by
        have := congrArg Prod.fst hx
        simpa using this
      have hxl : xs.length = n := by simpa using Lib.mapM_length hm
      have hzl : zs.length = n := by
        have := congrArg List.length hxs
        simp at this
        omega
      intro i z hz
      have hi : i < n := by rw [← hzl]; exact (List.getElem?_eq_some_iff.1 hz).1
      obtain ⟨b, hb, hf⟩ := Lib.mapM_at hm i i (by simp [hi])
      obtain ⟨s, hc, rfl, _⟩ := DataW.trod_string he hf
      have h1 : cs[i]? = some (.string s) := by
        have := congrArg (·[0]?) hc
        simpa [List.getElem?_take, List.getElem?_drop] using this
      have h2 : (xs.map (·.1))[i]? = some (DataW.lit (.string s.data.toList) : DataW H) := by simp [hb]
      rw [hxs, List.getElem?_map, hz] at h2
      have h3 : z.map UInt8.ofNat = s.data.toList := by simpa using h2
      rw [h1, bytesOf_list s z h3.symm]
    · cases h
theorem words_of {P : Program} {W : World} {name : String} {zs : List (List Nat)} {rest : List (String × DataW Unit)} {g : Nat} {t e : TypeId} {n : Nat}
    (hg : P.globalNamed name = some g) (hty : (P.globals[g]?).map (·.type) = some t) (ht : P.underlying t = some (.array n e)) (he : P.underlying e = some .string) (hce : P.cellsOf e = 1) (hct : P.cellsOf t = n)
    (h : laidMet P ((name, .agg (zs.map fun z => .lit (.string (z.map UInt8.ofNat)))) :: rest) W) (i : Nat) (z : List Nat) (hz : zs[i]? = some z) : W.cell? ⟨g, i, none⟩ = some (.string (Ba.bytesOf z)) := by
  obtain ⟨ps, ⟨g', t', cs, fuel, p, q, hg', ht', hvar, hd, _, _⟩, _⟩ := h
  obtain rfl := Option.some.inj (hg.symm.trans hg')
  obtain rfl := Option.some.inj (hty.symm.trans ht')
  have := World.var?_cell hg hvar i
  rw [this]
  simpa using cells_of_texts ht he hce hct hd i z hz
theorem star : "*" ++ "errors.errorString" = "*errors.errorString" := by decide
theorem rowES (u : TypeId) (h : Tryz.prog.typeName? 3 u = some "*errors.errorString") : u = 150 :=
  typeName_ptr_named (nm := "errors.errorString") (by rw [star]; kernel_rfl) (by kernel_rfl) (by decide) u (by rw [star]; exact h)
theorem tES : (Tryz.prog.globals[5]?).map (·.type) = some 55 := by kernel_rfl
theorem tER : (Tryz.prog.globals[6]?).map (·.type) = some 55 := by kernel_rfl
theorem sent_cell {n : String} {g : Nat} {text : List UInt8} {r : List (String × DataW Unit)} {W : World} (h : laidMet Tryz.prog ((n, .iface "*errors.errorString" (.ptr (.agg [.lit (.string text)]))) :: r) W)
    (hg : Tryz.prog.globalNamed n = some g) (ht : (Tryz.prog.globals[g]?).map (·.type) = some 55) : ∃ te pe, W.cell? ⟨g, 0, none⟩ = some (.iface te pe) := by
  obtain ⟨a, s, hv, -, -, -⟩ := laid_sentinel h hg ht Tryz.underlying55 rowES Tryz.underlying150 Tryz.underlying152 rfl rfl Tryz.underlying9 (by kernel_rfl) (by kernel_rfl)
  exact ⟨150, .pointer (some a), by simpa using World.var?_cell hg hv 0⟩
set_option maxRecDepth 100000 in
theorem laid_of {W : World} (h : laidMetH Tryz.prog laidV W) : LaidR W := by
  obtain ⟨hR, hS, hC, hA, hW⟩ := parts_of h
  have hT := Lib.tabIs_of_head gTab tTab Tryz.underlying129 Tryz.underlying128 (by kernel_rfl) (by kernel_rfl) hC
  have hc : ∀ i : Nat, i < 16 → W.cell? ⟨3, i, none⟩ = some (.int .u64 (Ka.tabN i : Int)) := fun i hi => by
    have := hT.cell gTab i hi
    rw [this]
    have e : ∀ i : Fin 16, tabL.getD i.val 0 = ((Ka.tabN i.val : Nat) : Int) := by decide +kernel
    exact congrArg (fun z => some (Value.int .u64 z)) (e ⟨i, hi⟩)
  have hP := Lib.tabIs_of_head gSpace tSpace Tryz.underlying83 Tryz.underlying5 (by kernel_rfl) (by kernel_rfl) hA
  obtain ⟨t3, p3, h3⟩ := sent_cell hS gES tES
  obtain ⟨t4, p4, h4⟩ := sent_cell hR gER tER
  have hw : ∀ (i : Nat) (s : List Nat), wordsT[i]? = some s → W.cell? ⟨0, i, none⟩ = some (.string (Ba.bytesOf s)) :=
    words_of (zs := wordsT) gWords tWords Tryz.underlying77 Tryz.underlying9 (by kernel_rfl) (by kernel_rfl) hW
  have l0 := lt_of_cell (hc 0 (by decide))
  have l1 := lt_of_cell (hw 0 [] rfl)
  have l2 := lt_of_cell h3
  have l3 := lt_of_cell h4
  have l4 := lt_of_cell (hP.cell gSpace 0 (by decide))
  exact ⟨by unfold topG; omega, ⟨l0, hc⟩, hw, ⟨t3, p3, h3⟩, ⟨t4, p4, h4⟩, hP⟩
end Go.Proofs.YtkhfingenjlpfaaGreatDoor.Ru
