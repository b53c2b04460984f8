/-
  What a landed package trie answers (a premise).
-/
import Derived.Test.YtlgejmcihchngaaGreatDoorSb
import Derived.Test.YtlgejmcihchngaaGreatDoorCkK
namespace Go.Proofs.YtlgejmcihchngaaGreatDoor.Ti
open Go.RowKit Ba Ru Ck
def Kept (w w':World) (lo hi:Nat):Prop:=w.heap.size≤w'.heap.size∧∀ b,lo≤b→b<hi→w'.heap[b]?=w.heap[b]?
theorem Kept.of_below {w w':World} {B lo hi:Nat} (h:Below B w w') (hB:hi≤B):Kept w w' lo hi:=⟨h.size,fun b _ h2=>h.block b (by omega)⟩
theorem Kept.trans {a b c:World} {lo hi:Nat} (h:Kept a b lo hi) (k:Kept b c lo hi):Kept a c lo hi:=⟨Nat.le_trans h.1 k.1,fun i h1 h2=>(k.2 i h1 h2).trans (h.2 i h1 h2)⟩
abbrev FitL (l:List Rl):Prop:=∀ x ∈ l,FitR x∧x.left.length≤9000∧x.cells.length≤9000
structure TLands where
 Is:World→Value→List Rl→Nat→Nat→Prop
 keep:∀ {w w':World} {t:Value} {l:List Rl} {lo hi:Nat},Is w t l lo hi→Kept w w' lo hi→Is w' t l lo hi
 ptr:∀ {w:World} {t:Value} {l:List Rl} {lo hi:Nat},Is w t l lo hi→(∃ a,t=.pointer (some a))∧hi≤w.heap.size
 new:∀ (v:Value) (l:List Rl) (off:Nat),l.length≤1000→FitL l→CapsR v→∀ w:World,Laid9 w→ReadsR off w w.heap.size v l→Calls Tryz.prog 12 #[v] w fun e w' =>
  Below w.heap.size w w'∧(((tableR prC l).2=0∧∃ t,e=.returned (.tuple #[t,.int .i64 0,.int .i64 0])∧Is w' t l w.heap.size w'.heap.size)∨((tableR prC l).2≠0∧e=.returned (.tuple #[.pointer none,.int .i64 (tableR prC l).1,.int .i64 (((tableR prC l).2:Nat):Int)])))
 word:∀ {t:Value} {l:List Rl} {lo hi:Nat} (S:ByteArray),S.size≤100000000→l.length≤1000→Acc prC l→FitL l→∀ w:World,Laid9 w→Is w t l lo hi→Calls Tryz.prog 81 #[t,.string S] w fun e w' =>
  e=.returned (.tuple #[.int .i64 (numV (wordN l (bytesN S))),.bool (okV (wordN l (bytesN S)))])∧Below w.heap.size w w'
 find:∀ {t:Value} {l:List Rl} {lo hi:Nat} (q:Int) (S:ByteArray),S.size≤9000→I64 q→l.length≤1000→Acc prC l→FitL l→∀ w:World,Laid9 w→Is w t l lo hi→Calls Tryz.prog 74 #[t,.int .i64 q,.string S] w fun e w' =>
  e=.returned (.tuple #[.int .i64 (numV (findN l q (bytesN S))),.bool (okV (findN l q (bytesN S)))])∧Below w.heap.size w w'
 sign:∀ {t:Value} {l:List Rl} {lo hi:Nat} (S:ByteArray),S.size≤9000→l.length≤1000→Acc prC l→FitL l→∀ w:World,Laid9 w→Is w t l lo hi→Calls Tryz.prog 120 #[t,.string S] w fun e w' =>
  e=.returned (.string (bytesOf (signC l (bytesN S))))∧Below w.heap.size w w'
 rules:∀ {t:Value} {l:List Rl} {lo hi:Nat},l.length≤1000→Acc prC l→FitL l→∀ w:World,Laid9 w→Is w t l lo hi→Calls Tryz.prog 49 #[t] w fun e w' =>
  ∃ v,e=.returned v∧w'.ownsRow w.heap.size 50 5 v l.length (rows cR l)∧Below w.heap.size w w'
end Go.Proofs.YtlgejmcihchngaaGreatDoor.Ti
