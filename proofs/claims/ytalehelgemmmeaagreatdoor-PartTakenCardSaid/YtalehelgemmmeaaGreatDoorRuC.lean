/-
  What cells are as texts, of package cell; rules in memory; what a landed package rules answers (a premise).
-/
import Derived.Test.YtalehelgemmmeaaGreatDoorRuB
import Derived.Test.YtalehelgemmmeaaGreatDoorCeU
import Derived.Test.YtalehelgemmmeaaGreatDoorVg
import Derived.Lib.LaidTab
import Derived.Lib.Space
namespace Go.Proofs.YtalehelgemmmeaaGreatDoor.Ru
open Go.RowKit Ba

/-- The text of cells; the cells of a text. -/
def prC (c : List Nat) : Option (List Nat) := if (∀ x ∈ c, x < 256) ∧ Ce.printOK (Ce.bytesOf c) then some (Ce.printT c) else none
def psC (t : List Nat) : Option (List Nat) := if ∀ x ∈ t, x < 256 then Ce.parseL (Ce.bytesOf t) else none
theorem parseE_of {s : ByteArray} {l : List Nat} (h : Ce.parseL s = some l) : Ce.parseE s = 0 ∧ Ce.parseV s = Ce.bytesOf l ∧ (∀ y ∈ l, y < 256) := by
  have hl := Ce.pSt_le (show Ce.pSt s (Ce.partsA s 0) = some l from h)
  exact ⟨by unfold Ce.parseE; rw [h], by unfold Ce.parseV; rw [h], fun y hy => Nat.lt_trans (hl.2 y hy) (by decide)⟩
theorem parseL_of {s : ByteArray} (h : Ce.parseE s = 0) : ∃ l, Ce.parseL s = some l := by
  unfold Ce.parseE at h
  cases e : Ce.parseL s with
  | none => rw [e] at h; cases h
  | some l => exact ⟨l, rfl⟩
theorem printT_dig : ∀ (l : List Nat), ∀ x ∈ Ce.printT l, x = 45 ∨ 49 ≤ x ∧ x ≤ 54
  | [], x, h => by simp [Ce.printT] at h
  | [y], x, h => by
    simp only [Ce.printT, Ce.dotsN, List.mem_map, List.mem_filter, List.mem_range] at h
    obtain ⟨i, ⟨hi, _⟩, rfl⟩ := h
    omega
  | y :: z :: r, x, h => by
    simp only [Ce.printT, List.mem_append, List.mem_cons] at h
    rcases h with h | rfl | h
    · simp only [Ce.dotsN, List.mem_map, List.mem_filter, List.mem_range] at h
      obtain ⟨i, ⟨hi, _⟩, rfl⟩ := h
      omega
    · exact .inl rfl
    · exact printT_dig (z :: r) x h
theorem cellLaw : CellLaw prC psC where
  there := fun c t h => by
    unfold prC at h
    by_cases hc : (∀ x ∈ c, x < 256) ∧ Ce.printOK (Ce.bytesOf c)
    · rw [if_pos hc] at h
      cases h
      obtain ⟨h1, h2, h3⟩ := Ce.print_there _ hc.2
      have hV : Ce.printV (Ce.bytesOf c) = Ce.bytesOf (Ce.printT c) := by unfold Ce.printV; rw [if_pos hc.2, Ce.bytesN_bytesOf _ hc.1]
      rw [hV] at h1 h3
      obtain ⟨l, hl⟩ := parseL_of h3
      obtain ⟨-, e2, e3⟩ := parseE_of hl
      unfold psC
      rw [if_pos (Ce.printT_lt c), hl]
      rw [e2] at h1
      have := congrArg Ce.bytesN h1
      rw [Ce.bytesN_bytesOf _ e3, Ce.bytesN_bytesOf _ hc.1] at this
      rw [this]
    · rw [if_neg hc] at h; cases h
  back := fun t c h => by
    unfold psC at h
    by_cases ht : ∀ x ∈ t, x < 256
    · rw [if_pos ht] at h
      obtain ⟨e1, e2, e3⟩ := parseE_of h
      obtain ⟨h1, h2⟩ := Ce.parse_there _ e1
      rw [e2] at h1 h2
      rcases Ce.print_cases (Ce.bytesOf c) with ⟨hok, -, hV⟩ | hE
      · unfold prC
        rw [if_pos ⟨e3, hok⟩]
        rw [h1, Ce.bytesN_bytesOf _ e3] at hV
        have := congrArg Ce.bytesN hV
        rw [Ce.bytesN_bytesOf _ ht, Ce.bytesN_bytesOf _ (Ce.printT_lt c)] at this
        rw [this]
      · rw [hE] at h2; cases h2
    · rw [if_neg ht] at h; cases h
  free := fun c t h => by
    unfold prC at h
    split at h
    · cases h
      exact ⟨fun k => by have := printT_dig c _ k; omega, fun k => by have := printT_dig c _ k; omega⟩
    · cases h
/-- The table's rules, the line, the error; the text, the error. -/
def parseZ (s : ByteArray) : List Rl × Nat × Nat := parseR psC (bytesN s)
def printZ (l : List Rl) : List Nat × Nat := printR prC l

/-- A rule's cells. -/
def cR (x : Rl) : List Value := [.int .i64 x.what, .string (bytesOf x.left), .string (bytesOf x.cells), .int .i64 x.prio, .int .i64 x.line]
theorem cR_len (x : Rl) : (cR x).length = 5 := rfl
abbrev ReadsR (off : Nat) (w : World) (B : Nat) (v : Value) (l : List Rl) : Prop := Reads cR 5 off w B v l
def I64 (z : Int) : Prop := -9223372036854775808 ≤ z ∧ z ≤ 9223372036854775807
/-- A rule that a program can hold. -/
def FitR (x : Rl) : Prop := I64 x.what ∧ I64 x.prio ∧ I64 x.line ∧ (∀ b ∈ x.left, b < 256) ∧ (∀ b ∈ x.cells, b < 256) ∧ x.left.length ≤ maxLen ∧ x.cells.length ≤ maxLen
def aggR (x : Rl) : Value := .agg #[.int .i64 x.what, .string (bytesOf x.left), .string (bytesOf x.cells), .int .i64 x.prio, .int .i64 x.line]
/-- A slice with room for what it holds. -/
def CapsR (v : Value) : Prop := ∀ A n c, v = .slice A n c → n ≤ c ∧ c ≤ maxLen
/-- The cells of the first rule of a What with a left side. -/
def firstR (l : List Rl) (k : Int) (s : List Nat) : List Nat := ((l.find? fun x => x.what == k && x.left == s).map (·.cells)).getD []
/-- The rows of cells of a string slice. -/
def cS (s : List Nat) : List Value := [.string (bytesOf s)]

/-- The words of the Whats, none ahead. -/
def wordsT : List (List Nat) := [] :: wordsL
theorem gSpace : Tryz.prog.globalNamed "strings.asciiSpace" = some 1 := by kernel_rfl
theorem tabIs_below {w w' : World} {n : String} {g : Nat} {k : IntKind} {zs : List Int} {B : Nat} (hg : Tryz.prog.globalNamed n = some g) (h : Lib.TabIs Tryz.prog w n k zs) (hb : Below B w w') (hB : g < B) : Lib.TabIs Tryz.prog w' n k zs := by
  unfold Lib.TabIs World.var? at h ⊢
  rw [hg] at h ⊢
  simp only [Option.bind_some] at h ⊢
  rw [hb.block g hB]
  exact h
/-- The greatest of the listed variables' blocks. -/
def topG : Nat := max 0 1
/-- What package rules reads lies in its blocks. -/
def LaidR (w : World) : Prop := topG < w.heap.size ∧ Ka.Laid w ∧ Lib.TabIs Tryz.prog w "strings.asciiSpace" .u8 Lib.asciiSpaceTab
theorem LaidR.below {w w' : World} {B : Nat} (h : LaidR w) (hb : Below B w w') (hB : topG < B) : LaidR w' := by
  obtain ⟨h0, h1, h5⟩ := h
  unfold topG at hB
  exact ⟨Nat.lt_of_lt_of_le h0 hb.size, h1.below hb (by omega), tabIs_below gSpace h5 hb (by omega)⟩
theorem LaidR.space {w : World} (h : LaidR w) : Lib.TabIs Tryz.prog w "strings.asciiSpace" .u8 Lib.asciiSpaceTab := h.2.2
theorem LaidR.ka {w : World} (h : LaidR w) : Ka.Laid w := h.2.1
theorem LaidR.kept {w w' : World} (h : LaidR w) (hb : Below w.heap.size w w') : LaidR w' := h.below hb h.1
end Go.Proofs.YtalehelgemmmeaaGreatDoor.Ru
