/-
  Layer 8's document: two rows that are the same; the cells of a sign, a mark, a digit; rules with their places as their Lines.
-/
import Derived.Test.YtlgejmcihchngaaGreatDoorRuF
namespace Go.Proofs.YtlgejmcihchngaaGreatDoor.Ru
open Go.RowKit Ba
theorem rcell {l:List Rl} {g off:Nat} {w:World} (hcell:∀ k x,l[k]?=some x→∀ j u,(cR x)[j]?=some u→w.cell? ⟨g,off+(k * 5+j),none⟩=some u) (k:Nat) (x:Rl) (hx:l[k]?=some x) :
  w.cell? ⟨g,off+k * 5,none⟩=some (.int .i64 x.what)∧w.cell? ⟨g,off+k * 5+1,none⟩=some (.string (bytesOf x.left))∧w.cell? ⟨g,off+k * 5+2,none⟩=some (.string (bytesOf x.cells))∧w.cell? ⟨g,off+k * 5+3,none⟩=some (.int .i64 x.prio)∧w.cell? ⟨g,off+k * 5+4,none⟩=some (.int .i64 x.line):=by
 have h:=fun j u hu=>hcell k x hx j u hu
 exact⟨h 0 _ rfl,h 1 _ rfl,h 2 _ rfl,h 3 _ rfl,h 4 _ rfl⟩
theorem Reads.drewN {off:Nat} {w:World} {B:Nat} {v:Value} {l:List Rl} (h:ReadsR off w B v l) (n:Nat):ReadsR off (w.drewN n) B v l:=by
 obtain⟨A,c,rfl,hA⟩:=h
 exact⟨A,c,rfl,fun h=>by obtain⟨g,e,h1,h2⟩:=hA h;exact⟨g,e,h1,fun k x hx j u hu=>by rw[World.cell?_drewN];exact h2 k x hx j u hu⟩⟩
theorem first_cons (x:Rl) (l:List Rl) (k:Int) (s:List Nat):firstR (x::l) k s=if x.what=k∧x.left=s then x.cells else firstR l k s:=by
 unfold firstR
 rw[List.find?_cons]
 by_cases h:x.what=k∧x.left=s
 ·rw[if_pos h,show (x.what==k && x.left==s)=true by rw[h.1,h.2];simp];rfl
 ·rw[if_neg h,show (x.what==k && x.left==s)=false by
   rw[Bool.eq_false_iff]
   intro e
   rw[Bool.and_eq_true,beq_iff_eq,beq_iff_eq]at e
   exact h e]
theorem bytesOf_inj {a b:List Nat} (ha:∀ x ∈ a,x<256) (hb:∀ x ∈ b,x<256) (h:bytesOf a=bytesOf b):a=b:=by
 rw[← bytesN_bytesOf a ha,← bytesN_bytesOf b hb,h]
theorem infoR:(Tryz.prog.info? 50).map (fun i=>(i.zero,i.size,i.bytes))=some (some (.agg #[.int .i64 0,.string { data:=#[] },.string { data:=#[] },.int .i64 0,.int .i64 0]),5,56):=by kernel_rfl
theorem rows_oneR (l:List Rl) (x:Rl):rows cR (l++[x])=rows cR l++[.int .i64 x.what,.string (bytesOf x.left),.string (bytesOf x.cells),.int .i64 x.prio,.int .i64 x.line]:=by rw[rows_snoc];rfl
end Go.Proofs.YtlgejmcihchngaaGreatDoor.Ru
