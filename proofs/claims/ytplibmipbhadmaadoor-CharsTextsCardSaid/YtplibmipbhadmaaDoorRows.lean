/-
  NARROWER THAN 'FOR EVERY INPUT', by the rows' own cells (each row's printed sentence says how): CharsOf: laid · CharsTexts: laid · CharsParted: laid · CharsCased: laid.
  DERIVED. THE GIVEN ROWS OF THIS SEAT. 4 by the template 'for every input the law returns true; each argument reads behind the call as it read before'; 0 by the template 'total and deterministic' (their statements: YtplibmipbhadmaaDoorTotals.lean).
  GIVEN WITH THE SEED: the statements are not yours to turn. If you find one false, say at which input.
  Laid BY PROGRAM, IN A SANDBOX (cutbox-rows.mjs): the forced cells as the released guide's own fill.sh prints them over the translation d1d4130a72cdbd22… (all of the seat's roots in one cut). By AI agents, Wed Nov 11 2026. No macro, syntax, notation, axiom, sorry.
-/
import Derived.Test.YtplibmipbhadmaaDoorChecked
import GoSem.Claim
import GoSem.ClaimJoined
import GoSem.ClaimMapViews
import Derived.JoinedTies
import Derived.KernelRfl
namespace Go.Proofs.YtplibmipbhadmaaDoor
/- THE CELL 'sum', in the pinned program and in every row, IS THE sha256 OF THE DUMP (.gsa) THAT YtplibmipbhadmaaDoorProg.lean LOADS. Nothing in Lean hashes anything: it is a label: what it is worth is what the hold of that sum in a sandbox is worth. -/
noncomputable def Tryd.pinned : Pinned := { name := "ytplibmipbhadmaadoor", sum := "d1d4130a72cdbd225101910675f7e5f2712170c663a99133eb74aa9dd0295b0a", checked := Tryd.checked }
namespace Rows
def none {H : Type} : Left H := { results := [], args := [] }

/- WHAT THE LISTED PACKAGE-LEVEL VARIABLES READ AS WHEN THE CALL BEGINS. Each datum BY PROGRAM (the guide's laid-datum.mjs) off the statement by which the dump's own 'gosem.cut.vars' lays the variable. In a bare row this is a premise. The card (YtplibmipbhadmaaDoorCards.lean) ties it to the program's text. -/
def laid_stylus_chars_classes {H : Type} : DataW H := .agg [.lit (.int .u64 6597069766656), .lit (.int .u64 0), .lit (.int .u64 4919056986126943301), .lit (.int .u64 4611761005120402227), .lit (.int .u64 2459565876494606880), .lit (.int .u64 2345624805922), .lit (.int .u64 1229782938247303440), .lit (.int .u64 1172812402961), .lit (.int .u64 0), .lit (.int .u64 0), .lit (.int .u64 0), .lit (.int .u64 0), .lit (.int .u64 0), .lit (.int .u64 0), .lit (.int .u64 0), .lit (.int .u64 0)]

/-- 'styluslaw01.CharsOf': WHATEVER THE INPUT: true; the input reads as it did. -/
def charsOfSpec : ChangeSpec := { name := "charsOf", fn := fun _ => fun
  | [d] => { results := [.lit (.bool true)], args := [d] }
  | _ => none }
def charsOfRow : OpenClaim := { program := "ytplibmipbhadmaadoor", sum := "d1d4130a72cdbd225101910675f7e5f2712170c663a99133eb74aa9dd0295b0a", func := "stylus/styluslaw01.CharsOf", spec := "charsOf", unfollowed := true, recurses := true, named := ["stylus/chars.classes"], apart := false, laid := [("stylus/chars.classes", laid_stylus_chars_classes)] }
def CharsOfSaid : Prop := charsOfRow.holds Tryd.pinned (OpenSpec.ofChange charsOfSpec)

/-- ITS FALSE NEIGHBOUR: 'it returns false'. Refute it at one input. -/
def charsOfWrong : ChangeSpec := { name := "charsOf", fn := fun _ => fun
  | [d] => { results := [.lit (.bool false)], args := [d] }
  | _ => none }
def CharsOfWrongFalsely : Prop := charsOfRow.holds Tryd.pinned (OpenSpec.ofChange charsOfWrong)

/-- 'styluslaw01.CharsTexts': WHATEVER THE INPUT: true; the input reads as it did. -/
def charsTextsSpec : ChangeSpec := { name := "charsTexts", fn := fun _ => fun
  | [d] => { results := [.lit (.bool true)], args := [d] }
  | _ => none }
def charsTextsRow : OpenClaim := { program := "ytplibmipbhadmaadoor", sum := "d1d4130a72cdbd225101910675f7e5f2712170c663a99133eb74aa9dd0295b0a", func := "stylus/styluslaw01.CharsTexts", spec := "charsTexts", unfollowed := true, recurses := true, named := ["stylus/chars.classes"], apart := false, laid := [("stylus/chars.classes", laid_stylus_chars_classes)] }
def CharsTextsSaid : Prop := charsTextsRow.holds Tryd.pinned (OpenSpec.ofChange charsTextsSpec)

/-- ITS FALSE NEIGHBOUR: 'it returns false'. Refute it at one input. -/
def charsTextsWrong : ChangeSpec := { name := "charsTexts", fn := fun _ => fun
  | [d] => { results := [.lit (.bool false)], args := [d] }
  | _ => none }
def CharsTextsWrongFalsely : Prop := charsTextsRow.holds Tryd.pinned (OpenSpec.ofChange charsTextsWrong)

/-- 'styluslaw01.CharsParted': WHATEVER THE INPUT: true; the input reads as it did. -/
def charsPartedSpec : ChangeSpec := { name := "charsParted", fn := fun _ => fun
  | [d1, d2] => { results := [.lit (.bool true)], args := [d1, d2] }
  | _ => none }
def charsPartedRow : OpenClaim := { program := "ytplibmipbhadmaadoor", sum := "d1d4130a72cdbd225101910675f7e5f2712170c663a99133eb74aa9dd0295b0a", func := "stylus/styluslaw01.CharsParted", spec := "charsParted", unfollowed := true, recurses := true, named := ["stylus/chars.classes"], apart := false, laid := [("stylus/chars.classes", laid_stylus_chars_classes)] }
def CharsPartedSaid : Prop := charsPartedRow.holds Tryd.pinned (OpenSpec.ofChange charsPartedSpec)

/-- ITS FALSE NEIGHBOUR: 'it returns false'. Refute it at one input. -/
def charsPartedWrong : ChangeSpec := { name := "charsParted", fn := fun _ => fun
  | [d1, d2] => { results := [.lit (.bool false)], args := [d1, d2] }
  | _ => none }
def CharsPartedWrongFalsely : Prop := charsPartedRow.holds Tryd.pinned (OpenSpec.ofChange charsPartedWrong)

/-- 'styluslaw01.CharsCased': WHATEVER THE INPUT: true; the input reads as it did. -/
def charsCasedSpec : ChangeSpec := { name := "charsCased", fn := fun _ => fun
  | [d] => { results := [.lit (.bool true)], args := [d] }
  | _ => none }
def charsCasedRow : OpenClaim := { program := "ytplibmipbhadmaadoor", sum := "d1d4130a72cdbd225101910675f7e5f2712170c663a99133eb74aa9dd0295b0a", func := "stylus/styluslaw01.CharsCased", spec := "charsCased", unfollowed := true, recurses := true, named := ["stylus/chars.classes"], apart := false, laid := [("stylus/chars.classes", laid_stylus_chars_classes)] }
def CharsCasedSaid : Prop := charsCasedRow.holds Tryd.pinned (OpenSpec.ofChange charsCasedSpec)

/-- ITS FALSE NEIGHBOUR: 'it returns false'. Refute it at one input. -/
def charsCasedWrong : ChangeSpec := { name := "charsCased", fn := fun _ => fun
  | [d] => { results := [.lit (.bool false)], args := [d] }
  | _ => none }
def CharsCasedWrongFalsely : Prop := charsCasedRow.holds Tryd.pinned (OpenSpec.ofChange charsCasedWrong)

/- THE SECOND FORM. 'bulk': how many values and letters a reading holds, each counted each time it is reached (what is shared counts as often as it is met; a slice's spare places count too). A statement '..UptoSaid' is the law's where the arguments, and the package variables that the reading takes, are together of bulk at most 1048576: NARROWER than '..Said'. Prove '..Said' where nothing that the law and all that it calls make is longer than what came in: it says more and counts as full. Else prove '..UptoSaid'. A law counts once. -/
mutual
def uptoBulk {H : Type} : DataW H → Nat
  | .lit (.string bytes) => bytes.length + 1
  | .lit _ => 1
  | .nil => 1
  | .ptr d => uptoBulk d + 1
  | .slice elems spare => uptoBulkAll elems + uptoBulkAll spare + 1
  | .agg parts => uptoBulkAll parts + 1
  | .iface _ d => uptoBulk d + 1
  | .map entries => uptoBulkEntries entries + 1
  | .held _ => 1
def uptoBulkAll {H : Type} : List (DataW H) → Nat
  | [] => 0
  | d :: r => uptoBulk d + uptoBulkAll r
def uptoBulkEntries {H : Type} : List (Lit × DataW H) → Nat
  | [] => 0
  | x :: r => uptoBulkEntry x + uptoBulkEntries r
def uptoBulkEntry {H : Type} : Lit × DataW H → Nat
  | (.string bytes, d) => bytes.length + uptoBulk d + 1
  | (_, d) => uptoBulk d + 1
 end
def uptoSmall : (H : Type) → List (DataW H) → Bool := fun _ ds => decide (uptoBulkAll ds ≤ 1048576)
def OpenSpec.upto (s : _root_.Go.ChangeSpec) : _root_.Go.OpenSpec := { _root_.Go.OpenSpec.ofChange s with cond := some uptoSmall }

/-- 'styluslaw01.CharsOf', WHERE WHAT IT READS IS OF BULK AT MOST 1048576: true; the input reads as it did. -/
def charsOfUptoRow : OpenClaim := { program := "ytplibmipbhadmaadoor", sum := "d1d4130a72cdbd225101910675f7e5f2712170c663a99133eb74aa9dd0295b0a", func := "stylus/styluslaw01.CharsOf", spec := "charsOf", unfollowed := true, recurses := true, named := ["stylus/chars.classes"], apart := false, laid := [("stylus/chars.classes", laid_stylus_chars_classes)], narrowed := true }
def CharsOfUptoSaid : Prop := charsOfUptoRow.holds Tryd.pinned (OpenSpec.upto charsOfSpec)

/-- 'styluslaw01.CharsTexts', WHERE WHAT IT READS IS OF BULK AT MOST 1048576: true; the input reads as it did. -/
def charsTextsUptoRow : OpenClaim := { program := "ytplibmipbhadmaadoor", sum := "d1d4130a72cdbd225101910675f7e5f2712170c663a99133eb74aa9dd0295b0a", func := "stylus/styluslaw01.CharsTexts", spec := "charsTexts", unfollowed := true, recurses := true, named := ["stylus/chars.classes"], apart := false, laid := [("stylus/chars.classes", laid_stylus_chars_classes)], narrowed := true }
def CharsTextsUptoSaid : Prop := charsTextsUptoRow.holds Tryd.pinned (OpenSpec.upto charsTextsSpec)

/-- 'styluslaw01.CharsParted', WHERE WHAT IT READS IS OF BULK AT MOST 1048576: true; the input reads as it did. -/
def charsPartedUptoRow : OpenClaim := { program := "ytplibmipbhadmaadoor", sum := "d1d4130a72cdbd225101910675f7e5f2712170c663a99133eb74aa9dd0295b0a", func := "stylus/styluslaw01.CharsParted", spec := "charsParted", unfollowed := true, recurses := true, named := ["stylus/chars.classes"], apart := false, laid := [("stylus/chars.classes", laid_stylus_chars_classes)], narrowed := true }
def CharsPartedUptoSaid : Prop := charsPartedUptoRow.holds Tryd.pinned (OpenSpec.upto charsPartedSpec)

/-- 'styluslaw01.CharsCased', WHERE WHAT IT READS IS OF BULK AT MOST 1048576: true; the input reads as it did. -/
def charsCasedUptoRow : OpenClaim := { program := "ytplibmipbhadmaadoor", sum := "d1d4130a72cdbd225101910675f7e5f2712170c663a99133eb74aa9dd0295b0a", func := "stylus/styluslaw01.CharsCased", spec := "charsCased", unfollowed := true, recurses := true, named := ["stylus/chars.classes"], apart := false, laid := [("stylus/chars.classes", laid_stylus_chars_classes)], narrowed := true }
def CharsCasedUptoSaid : Prop := charsCasedUptoRow.holds Tryd.pinned (OpenSpec.upto charsCasedSpec)

end Rows
end Go.Proofs.YtplibmipbhadmaaDoor
