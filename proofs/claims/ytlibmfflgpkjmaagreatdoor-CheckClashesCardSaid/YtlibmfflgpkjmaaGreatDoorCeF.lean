/-
  cell.Signs, cell.Cells, cell.Count, and the document's.
-/
import Derived.Test.YtlibmfflgpkjmaaGreatDoorCeE
namespace Go.Proofs.YtlibmfflgpkjmaaGreatDoor.Ce
open Go.RowKit

def emptyS : ByteArray := ⟨#[]⟩
def signsV (s : ByteArray) : ByteArray := if badAt signB s = s.size then mapS signR s else emptyS
def signsE (s : ByteArray) : Int := if badAt signB s = s.size then 0 else 1
def cellsV (s : ByteArray) : ByteArray := if badAt fromB s = s.size then mapS fromR s else emptyS
def cellsAt (s : ByteArray) : Nat := if badAt fromB s = s.size then 0 else badAt fromB s
def cellsE (s : ByteArray) : Int := if badAt fromB s = s.size then 0 else 2
theorem ret_se {x y : ByteArray} {a b : Int} (h : x = y) (h' : a = b) : Ending.returned (.tuple #[.string x, .int .i64 a]) = .returned (.tuple #[.string y, .int .i64 b]) := by rw [h, h']
theorem ret_sie {x y : ByteArray} {a b c d : Int} (h : x = y) (h' : a = b) (h2 : c = d) : Ending.returned (.tuple #[.string x, .int .i64 a, .int .i64 c]) = .returned (.tuple #[.string y, .int .i64 b, .int .i64 d]) := by rw [h, h', h2]



/-- How many dots the first k bytes have. -/
def popK (s : ByteArray) : Nat → Nat
  | 0 => 0
  | k + 1 => popK s k + popN (bAt s k)
theorem popN_le (c : Nat) : popN c ≤ 6 := dotsN_len c 6
theorem popK_le (s : ByteArray) : ∀ k, popK s k ≤ 6 * k
  | 0 => Nat.le_refl _
  | k + 1 => by have := popK_le s k; have := popN_le (bAt s k); unfold popK; omega
def popS (s : ByteArray) : Nat := popK s s.size

end Go.Proofs.YtlibmfflgpkjmaaGreatDoor.Ce
