/-
  Put together: TiJ, TiK.
-/
import Derived.Test.YtjflefchhbihkaaGreatDoorSa
import Derived.Test.YtjflefchhbihkaaGreatDoorTiF
import Derived.Test.YtjflefchhbihkaaGreatDoorSg
import Derived.Test.YtjflefchhbihkaaGreatDoorCkB
import Derived.Test.YtjflefchhbihkaaGreatDoorQf
namespace Go.Proofs.YtjflefchhbihkaaGreatDoor.Ti
open Go.RowKit Ba Ru Ck

/-- The numbers below n of the rules in a row. -/
def inN (l : List Rl) (row : Int) (n : Nat) : List Nat := (List.range n).filter fun k => (l[k]?.map fun x => inB x row).getD false
theorem inN_step {l : List Rl} {row : Int} {k : Nat} {x : Rl} (hx : l[k]? = some x) : inN l row (k + 1) = inN l row k ++ (if inB x row = true then [k] else []) := by
  unfold inN
  rw [List.range_succ, List.filter_append, List.filter_cons, hx, List.filter_nil]
  rfl
theorem inN_mem {l : List Rl} {row : Int} {n k : Nat} (h : k ∈ inN l row n) : ∃ x, l[k]? = some x ∧ inB x row = true := by
  unfold inN at h
  have h := (List.mem_filter.1 h).2
  cases e : l[k]? with
  | none => rw [e] at h; cases h
  | some x => rw [e] at h; exact ⟨x, rfl, h⟩
theorem inN_len (l : List Rl) (row : Int) (n : Nat) : (inN l row n).length ≤ n := by
  unfold inN
  refine Nat.le_trans (List.length_filter_le ..) ?_
  rw [List.length_range]; exact Nat.le_refl _
/-- The number that a byte chooses. -/
def pickN (m : List Nat) (b : Nat) : List Nat := (m[b % m.length]?).toList
/-- The numbers that bytes choose. -/
def outN (m : List Nat) (bs : List Nat) : List Nat := bs.flatMap (pickN m)
theorem outN_step (m : List Nat) {bs : List Nat} {j b k : Nat} (hb : bs[j]? = some b) (hk : m[b % m.length]? = some k) : outN m (bs.take (j + 1)) = outN m (bs.take j) ++ [k] := by
  unfold outN
  rw [List.take_add_one, hb, Option.toList_some, List.flatMap_append, List.flatMap_singleton]
  unfold pickN
  rw [hk]; rfl
theorem outN_nil (bs : List Nat) : outN [] bs = [] := by
  unfold outN pickN
  induction bs with
  | nil => rfl
  | cons b bs ih => rw [List.flatMap_cons, ih]; rfl
theorem outN_mem {m bs : List Nat} {k : Nat} (h : k ∈ outN m bs) : k ∈ m := by
  unfold outN at h
  obtain ⟨b, -, hb⟩ := List.mem_flatMap.1 h
  unfold pickN at hb
  exact List.mem_of_getElem? (Option.mem_toList.1 hb)
theorem outN_len (m bs : List Nat) : (outN m bs).length ≤ bs.length := by
  unfold outN
  induction bs with
  | nil => exact Nat.le_refl _
  | cons b bs ih =>
    rw [List.flatMap_cons, List.length_append, List.length_cons]
    have : (pickN m b).length ≤ 1 := by unfold pickN; cases m[b % m.length]? <;> simp
    omega
/-- The rules of these numbers. -/
def xsN (l : List Rl) (ks : List Nat) : List Rl := ks.filterMap fun k => l[k]?
theorem xsN_snoc {l : List Rl} {ks : List Nat} {k : Nat} {x : Rl} (hx : l[k]? = some x) : cellsR (xsN l (ks ++ [k])) = cellsR (xsN l ks) ++ x.cells := by
  unfold xsN cellsR
  rw [List.filterMap_append, List.flatMap_append, List.filterMap_cons_some hx, List.filterMap_nil, List.flatMap_singleton]
theorem xsN_take {l : List Rl} : ∀ {ks : List Nat}, (∀ k ∈ ks, ∃ x, l[k]? = some x) → ∀ i, xsN l (ks.take i) = (xsN l ks).take i := by
  intro ks
  induction ks with
  | nil => intro _ i; rw [List.take_nil]; unfold xsN; rw [List.filterMap_nil, List.take_nil]
  | cons a ks ih =>
    intro h i
    cases i with
    | zero => rfl
    | succ i =>
      obtain ⟨x, hx⟩ := h a (List.mem_cons_self ..)
      have ih := ih (fun k hk => h k (List.mem_cons_of_mem _ hk)) i
      unfold xsN at ih ⊢
      rw [List.take_succ_cons, List.filterMap_cons_some hx, List.filterMap_cons_some hx, List.take_succ_cons, ih]
/-- P10.6, a number at a time: behind the cells of the first i numbers stands the next one's rule. -/
theorem back_step {l : List Rl} (A : Apart l) (hc : ∀ x ∈ l, x.cells ≠ []) {row : Int} {ks : List Nat} (hr : ∀ k ∈ ks, ∃ x, l[k]? = some x ∧ inB x row = true) {i k : Nat} (hi : ks[i]? = some k) :
    ∃ x, l[k]? = some x ∧ matchN l (cellsR (xsN l ks)) ((cellsR (xsN l (ks.take i))).length : Int) row = some k ∧ cellsR (xsN l (ks.take (i + 1))) = cellsR (xsN l (ks.take i)) ++ x.cells := by
  have hs : ∀ k ∈ ks, ∃ x, l[k]? = some x := fun k hk => by obtain ⟨x, h, -⟩ := hr k hk; exact ⟨x, h⟩
  obtain ⟨x, h1, h2, h3⟩ := back_of A hc hr (xs := xsN l ks) rfl hi
  rw [xsN_take hs, xsN_take hs]
  exact ⟨x, h1, h2, h3⟩
/-- At the end stands nothing. -/
theorem back_end (l : List Rl) (ks : List Nat) (row : Int) : matchN l (cellsR (xsN l ks)) ((cellsR (xsN l (ks.take ks.length))).length : Int) row = none := by
  rw [List.take_length]
  exact match_end _ _ _
theorem cells_few {l : List Rl} {ks : List Nat} {n : Nat} (h : ∀ x ∈ l, x.cells.length ≤ 50) (hn : ks.length ≤ n) : (cellsR (xsN l ks)).length ≤ n * 50 := by
  induction ks generalizing n with
  | nil => exact Nat.zero_le _
  | cons k ks ih =>
    obtain ⟨m, rfl⟩ : ∃ m, n = m + 1 := ⟨n - 1, by rw [List.length_cons] at hn; omega⟩
    have h2 := ih (n := m) (by rw [List.length_cons] at hn; omega)
    have e : xsN l (k :: ks) = (l[k]?).toList ++ xsN l ks := by
      unfold xsN
      cases e : l[k]? with
      | none => rw [List.filterMap_cons_none e]; rfl
      | some x => rw [List.filterMap_cons_some e]; rfl
    rw [e, Nat.succ_mul]
    unfold cellsR at h2 ⊢
    rw [List.flatMap_append, List.length_append]
    have h1 : ((l[k]?).toList.flatMap fun x => x.cells).length ≤ 50 := by
      cases e : l[k]? with
      | none => exact Nat.zero_le _
      | some x =>
        have := h x (List.mem_of_getElem? e)
        rw [Option.toList_some, List.flatMap_singleton]
        exact this
    omega
end Go.Proofs.YtjflefchhbihkaaGreatDoor.Ti
namespace Go.Proofs.YtjflefchhbihkaaGreatDoor.Ti
open Go.RowKit Ba Ru Ck

theorem infoN : (Tryz.prog.info? 3).map (fun i => (i.zero, i.size, i.bytes)) = some (some (.int .i64 0), 1, 8) := by kernel_rfl
/-- The cells of a row of numbers. -/
def iV (ks : List Nat) : List Value := ks.map fun (k : Nat) => .int .i64 (k : Int)
theorem iV_snoc (ks : List Nat) (k : Nat) : iV (ks ++ [k]) = iV ks ++ [.int .i64 (k : Int)] := by unfold iV; rw [List.map_append]; rfl
theorem int_cell {W : World} {B g n c k s : Nat} {ks : List Nat} (h : W.ownsRow B 3 1 (.slice (some ⟨g, 0, none⟩) n c) n (iV ks)) (hk : k < n) (hs : ks[k]? = some s) : W.cell? ⟨g, k, none⟩ = some (.int .i64 (s : Int)) := by
  rw [h.cellAt k (by omega)]
  unfold iV
  rw [List.getElem?_map, hs]
  rfl
theorem cells_lt {l : List Rl} (hf : ∀ x ∈ l, FitR x) (ks : List Nat) : ∀ b ∈ cellsR (xsN l ks), b < 256 := by
  intro b hb
  unfold cellsR xsN at hb
  obtain ⟨x, hx, hb⟩ := List.mem_flatMap.1 hb
  obtain ⟨k, -, hk⟩ := List.mem_filterMap.1 hx
  exact (hf x (List.mem_of_getElem? hk)).2.2.2.2.1 b hb
set_option maxRecDepth 100000 in
set_option maxHeartbeats 4000000 in
/-- styluslaw10.TrieBack -/
theorem back_row (T : TLands) (l : List Rl) (A : Option Addr) (off c : Nat) (row : Int) (bs : List Nat) (A2 : Option Addr) (o2 c2 : Nat) (w : World) (hL : Laid9 w) (hcl : l.length ≤ c) (hcm : c ≤ maxLen) (hf : ∀ x ∈ l, FitR x) (hl : ReadsR off w w.heap.size (.slice A l.length c) l)
    (_h2m : bs.length ≤ maxLen) (h2b : ∀ b ∈ bs, b < 256) (h2 : Reads (fun (b : Nat) => [Value.int .u8 (b : Int)]) 1 o2 w w.heap.size (.slice A2 bs.length c2) bs) :
    Calls Tryz.prog 5 #[.slice A l.length c, .int .i64 row, .slice A2 bs.length c2] w fun e w' => e = .returned (.bool true) ∧ Below w.heap.size w w' := by
  obtain ⟨i0, hi0, hz0, hz1, hz2⟩ := info_parts infoN
  have HL := Lib.hid hL
  have HV := Lib.hid hl
  have HV2 := Lib.hid h2
  have hlm : l.length ≤ maxLen := Nat.le_trans hcl hcm
  have HF := Lib.hid hf
  have HBB := Lib.hid h2b
  have HCAP := Lib.hid (show CapsR (.slice A l.length c) from fun A' n' c' e => by
    injection e with _ e1 e2
    subst e1; subst e2
    exact ⟨hcl, hcm⟩)
  clear hL hl hf hcm hcl h2 h2b
  obtain ⟨nl, hnl⟩ : ∃ nl, l.length = nl := ⟨_, rfl⟩
  obtain ⟨nb, hnb⟩ : ∃ n, bs.length = n := ⟨_, rfl⟩
  rw [hnl] at HV HCAP hlm ⊢
  rw [hnb] at HV2 _h2m ⊢
  have HNL := Lib.hid hnl
  have HNB := Lib.hid hnb
  clear hnl hnb
  obtain ⟨lb, hlb⟩ : ∃ lb, long9 l = lb := ⟨_, rfl⟩
  have HLB := Lib.hid hlb
  clear hlb
  have HAW := Lib.hid (fun (W : World) hW => awake10 T W hW)
  go_enter Tryz.func5, Tryz.ntmps5
  cases lb
  case true =>
    go_wp2_with fail
    refine (long10_at _ l off (by rw [HNL.out]; exact hlm) _ _ HV.out true HLB.out).mono ?_
    rintro e w' ⟨rfl, rfl⟩
    go_wp2_with fail
    refine (HAW.out _ HL.out).mono ?_
    rintro e w' ⟨rfl, hb⟩
    go_wp2
    go_ret
    exact ⟨rfl, hb⟩
  case false =>
  obtain ⟨hl5, hl50⟩ := not_long9 HLB.out
  rw [HNL.out] at hl5
  have HFX := Lib.hid (show FitL l from fun x hx => ⟨HF.out x hx, by have := (hl50 x hx).1; omega, by have := (hl50 x hx).2; omega⟩)
  have HFC := Lib.hid (show ∀ x ∈ l, x.cells.length ≤ 50 from fun x hx => (hl50 x hx).2)
  clear hl50
  go_wp2_with fail
  refine (long10_at _ l off (by rw [HNL.out]; exact hlm) _ _ HV.out false HLB.out).mono ?_
  rintro e w' ⟨rfl, rfl⟩
  by_cases hb : 100 < nb
  · have tb : decide (100 < (nb : Int)) = true := decide_eq_true (by omega)
    go_wp2_with fail
    refine (HAW.out _ HL.out).mono ?_
    rintro e w' ⟨rfl, hb⟩
    go_wp2
    go_ret
    exact ⟨rfl, hb⟩
  have tb : decide (100 < nb) = false := decide_eq_false hb
  have tb2 : decide (100 < (nb : Int)) = false := decide_eq_false (by omega)
  go_wp2_with fail
  refine (T.new _ l off (by rw [HNL.out]; omega) HFX.out HCAP.out _ HL.out HV.out).mono ?_
  rintro e w1 ⟨hb1, h1⟩
  obtain ⟨z, y, hr⟩ : ∃ z y, tableR prC l = (z, y) := ⟨_, _, rfl⟩
  have HR := Lib.hid hr
  rw [hr] at h1
  have HB1 := Lib.hid hb1
  clear hb1 hr
  rcases h1 with ⟨hy, t, rfl, his⟩ | ⟨hy, rfl⟩
  rotate_left
  · have y1 : ((y : Int) == 0) = false := beq_eq_false_iff_ne.2 (by have : y ≠ 0 := hy; omega)
    have y3 : ((y : Int) != 0) = true := bne_iff_ne.2 (by have : y ≠ 0 := hy; omega)
    clear hy
    go_wp2_with fail
    refine (HAW.out _ (HL.out.kept HB1.out)).mono ?_
    rintro e w9 ⟨rfl, hb9⟩
    have HE := Lib.hid (chain HB1.out HB1.out.size hb9)
    clear hb9
    go_wp2
    go_ret
    exact ⟨rfl, HE.out⟩
  have hy : y = 0 := hy
  subst hy
  have HACC := Lib.hid ((table_acc l).1 (by rw [HR.out]))
  obtain ⟨⟨a, rfl⟩, -⟩ := T.ptr his
  have hlen : l.length ≤ 1000 := by rw [HNL.out]; omega
  have HLEN := Lib.hid hlen
  have HMT := Lib.hid (show ∀ (S : ByteArray) (p r : Int) (o : Option Nat), S.size ≤ 9000 → I64 p → I64 r → matchN l (bytesN S) p r = o → ∀ W : World, Below w1.heap.size w1 W → Calls Tryz.prog 12 #[.pointer (some a), .string S, .int .i64 p, .int .i64 r] W fun e w' => e = .returned (.tuple #[.int .i64 (numV o), .bool (okV o)]) ∧ Below W.heap.size W w' from fun S p r o hS hp hr ho W hW => by
    subst ho
    exact T.matchT S p r hS hp hr HLEN.out HACC.out HFX.out W ((HL.out.kept HB1.out).kept hW) (T.keep his (Kept.of_below hW (Nat.le_refl _))))
  have HV1 := Lib.hid ((HV.out.below HB1.out).mono HB1.out.size)
  have HW1 := Lib.hid ((HV2.out.below HB1.out).mono HB1.out.size)
  clear his hlen
  go_upto_region 7 with fail
  obtain ⟨rw_, hrw⟩ : ∃ z, wrap64 (1 + (bits .and .i64 row 255).tmod 3) = z := ⟨_, rfl⟩
  have HI64 := Lib.hid (show I64 rw_ from by rw [← hrw]; unfold I64 wrap64; omega)
  rw [hrw]
  clear hrw
  go_wp2
  go_loopw [10, 12] (fun v i wr => ∃ k : Nat, i = .int .i64 (k : Int) ∧ k ≤ nl ∧ wr.ownsRow w1.heap.size 3 1 v (inN l rw_ k).length (iV (inN l rw_ k)) ∧ Below w1.heap.size w1 wr) (fun _ i _ => nl - (intOf i).toNat)
  case atStart => exact ⟨0, rfl, Nat.zero_le _, World.ownsRow_nil _ _ _ _, Below.refl _ _⟩
  case round =>
    obtain ⟨k, rfl, hk, how, hB⟩ := hrel
    by_cases hlt : k < nl
    · have k0 : (0 : Int) ≤ (k : Int) := by omega
      have k1 : (k : Int) < (nl : Int) := by omega
      have t3 : decide ((k : Int) < (nl : Int)) = true := decide_eq_true (by omega)
      obtain ⟨x, hx⟩ : ∃ x, l[k]? = some x := ⟨_, List.getElem?_eq_getElem (by rw [HNL.out]; exact hlt)⟩
      have HST := Lib.hid (inN_step (row := rw_) hx)
      have hml : (inN l rw_ k).length ≤ 450 := Nat.le_trans (inN_len ..) (by omega)
      obtain ⟨A', c', e, hA⟩ := HV1.out
      injection e with e1 e2 e3
      subst e1; subst e3; clear e2
      obtain ⟨g, rfl, hgw, hg⟩ := hA (by rw [HNL.out]; omega)
      obtain ⟨g0, g1, g2, g3, g4⟩ := rcell hg k x hx
      have g0 := (hB.cell (p := ⟨g, off + k * 5, none⟩) hgw).trans g0
      have g1 := (hB.cell (p := ⟨g, off + k * 5 + 1, none⟩) hgw).trans g1
      have g2 := (hB.cell (p := ⟨g, off + k * 5 + 2, none⟩) hgw).trans g2
      have g3 := (hB.cell (p := ⟨g, off + k * 5 + 3, none⟩) hgw).trans g3
      have g4 := (hB.cell (p := ⟨g, off + k * 5 + 4, none⟩) hgw).trans g4
      obtain ⟨bi, hbi⟩ : ∃ bi, inB x rw_ = bi := ⟨_, rfl⟩
      have HIN := Lib.hid (fun W => hbi ▸ in_at x rw_ W)
      obtain ⟨m, hm⟩ : ∃ m, (inN l rw_ k).length = m := ⟨_, rfl⟩
      rw [hm] at how hml
      have HMM := Lib.hid hm
      have HOW := Lib.hid how
      have HBW := Lib.hid hB
      have hsz := hB.size
      rw [hbi] at HST
      obtain ⟨xq, xl, xc, xp, xn⟩ := x
      obtain ⟨xs, hxs⟩ : ∃ s, bytesOf xl = s := ⟨_, rfl⟩
      obtain ⟨xt, hxt⟩ : ∃ s, bytesOf xc = s := ⟨_, rfl⟩
      simp only [aggR] at HIN
      simp only [] at g0 g1 g2 g3 g4
      rw [hxs, hxt] at HIN
      rw [hxs] at g1
      rw [hxt] at g2
      obtain ⟨A8, c8, rfl, -, -, -⟩ := own_formR how
      clear hx hg hA hbi hxs hxt hm how hB hgw
      go_wp2_with fail
      refine (HIN.out _).mono ?_
      rintro e w2 ⟨rfl, hb2⟩
      clear g0 g1 g2 g3 g4
      have HBW2 := Lib.hid (chain HBW.out HBW.out.size hb2)
      have HOW2 := Lib.hid (own_below HOW.out hb2)
      have hsz2 := HBW2.out.size
      have HLT2 := Lib.hid (own_below HOW.out hb2).lt
      clear hb2 HOW HBW
      cases bi
      case false =>
        have HNX := Lib.hid (show inN l rw_ (k + 1) = inN l rw_ k from by rw [HST.out, if_neg Bool.false_ne_true, List.append_nil])
        go_wp2
        go_roundw
        case rel => exact ⟨k + 1, by go_num, by omega, by rw [HNX.out, HMM.out]; exact HOW2.out, HBW2.out⟩
        case measure => simp [intOf]; omega
      case true =>
        have HNX := Lib.hid (show inN l rw_ (k + 1) = inN l rw_ k ++ [k] from by rw [HST.out, if_pos rfl])
        go_wp2_with (at_builtin; refine wpList_append_own _ rfl _ _ 55 rfl w1.heap.size 3 i0 _ 1 8 Tryz.underlying55 hi0 hz0 hz1 hz2 rfl (by decide) _ _ _ rfl (HOW2.out.alloc _) ⟨w2.heap.size, 0, none⟩ 1 1 [.int .i64 (k : Int)] rfl rfl (World.news_of_block (cs := #[.int .i64 (k : Int)]) (t := 3) (fr := (0, 0)) (heap_alloc_new w2 _)) (by simp [Value.oneCell']) (by unfold maxLen; omega) (by omega) (by simp; omega) ?_; intro v' w8 hown' hgrow _; have HFF := Lib.hid (show w8.ownsRow w1.heap.size 3 1 v' (inN l rw_ (k + 1)).length (iV (inN l rw_ (k + 1))) ∧ Below w1.heap.size w1 w8 from ⟨by rw [HNX.out, iV_snoc, List.length_append, HMM.out]; exact hown', (HBW2.out.alloc hsz2 _).grown hgrow (by simp; omega) (fun j ej => (HLT2.out j ej).1)⟩); clear hown' hgrow)
        go_roundw
        case rel => exact ⟨k + 1, by go_num, by omega, HFF.out.1, HFF.out.2⟩
        case measure => simp [intOf]; omega
    · have hkn : k = nl := by omega
      rw [hkn] at how
      clear hkn
      have t1 : decide (k < nl) = false := decide_eq_false hlt
      obtain ⟨M, hM⟩ : ∃ M, inN l rw_ nl = M := ⟨_, rfl⟩
      rw [hM] at how
      have HMM := Lib.hid (show ∀ k ∈ M, ∃ x, l[k]? = some x ∧ inB x rw_ = true from fun k h => inN_mem (by rw [← hM] at h; exact h))
      have hml : M.length ≤ 450 := by rw [← hM]; exact Nat.le_trans (inN_len ..) hl5
      obtain ⟨nm, hnm⟩ : ∃ nm, M.length = nm := ⟨_, rfl⟩
      rw [hnm] at how hml
      have HNM := Lib.hid hnm
      obtain ⟨W0, rfl⟩ : ∃ W, W = wr := ⟨_, rfl⟩
      obtain ⟨A8, c8, rfl, hc8, hc8m, hA8⟩ := own_formR how
      have HA8 := Lib.hid hA8
      have HOW0 := Lib.hid how
      have HB0 := Lib.hid hB
      clear how hB hM hnm hA8
      go_wp2
      go_loopw [11, 13, 14] (fun v s i w3 => ∃ j : Nat, i = .int .i64 (j : Int) ∧ j ≤ nb ∧ s = .string (bytesOf (cellsR (xsN l (outN M (bs.take j))))) ∧ w3.ownsRow W0.heap.size 3 1 v (outN M (bs.take j)).length (iV (outN M (bs.take j))) ∧ Below W0.heap.size W0 w3) (fun _ _ i _ => nb - (intOf i).toNat)
      case atStart => exact ⟨0, rfl, Nat.zero_le _, rfl, World.ownsRow_nil _ _ _ _, Below.refl _ _⟩
      case round =>
        obtain ⟨j, rfl, hj, rfl, how, hB3⟩ := hrel
        by_cases hjlt : j < nb ∧ 0 < nm
        · obtain ⟨hjlt, hm0⟩ := hjlt
          have j0 : (0 : Int) ≤ (j : Int) := by omega
          have j1 : (j : Int) < (nb : Int) := by omega
          obtain ⟨b, hbj⟩ : ∃ b, bs[j]? = some b := ⟨_, List.getElem?_eq_getElem (by rw [HNB.out]; exact hjlt)⟩
          have hb256 := HBB.out b (List.mem_of_getElem? hbj)
          obtain ⟨A', c', e, hA⟩ := HW1.out
          injection e with e1 e2 e3
          subst e1; subst e3; clear e2
          obtain ⟨g2, rfl, hg2w, hg2⟩ := hA (by rw [HNB.out]; omega)
          have hcb := (hB3.cell (p := ⟨g2, o2 + (j * 1 + 0), none⟩) (Nat.lt_of_lt_of_le hg2w HB0.out.size)).trans ((HB0.out.cell (p := ⟨g2, o2 + (j * 1 + 0), none⟩) hg2w).trans (hg2 j b hbj 0 _ rfl))
          rw [show o2 + (j * 1 + 0) = o2 + j by omega] at hcb
          obtain ⟨g8, rfl, hg8⟩ := HA8.out hm0
          obtain ⟨r, hr⟩ : ∃ r, b % nm = r := ⟨_, rfl⟩
          have hrn : r < nm := by rw [← hr]; exact Nat.mod_lt _ hm0
          obtain ⟨kk, hkk⟩ : ∃ kk, M[r]? = some kk := ⟨_, List.getElem?_eq_getElem (by rw [HNM.out]; exact hrn)⟩
          have HNX := Lib.hid (outN_step M hbj (by rw [HNM.out, hr, hkk]))
          obtain ⟨x, hx, -⟩ := HMM.out kk (List.mem_of_getElem? hkk)
          have hkl : kk < nl := by have := (List.getElem?_eq_some_iff.1 hx).1; rw [HNL.out] at this; exact this
          have y0 := (hB3.cell (p := ⟨g8, r, none⟩) (HOW0.out.lt g8 rfl).2).trans (int_cell HOW0.out hrn hkk)
          obtain ⟨A', c', e, hA'⟩ := HV1.out
          injection e with e1 e2 e3
          subst e1; subst e3; clear e2
          obtain ⟨g, rfl, hgw, hg⟩ := hA' (by rw [HNL.out]; omega)
          obtain ⟨-, -, z2, -, -⟩ := rcell hg kk x hx
          have HG := Lib.hid (show ∀ W : World, Below w1.heap.size w1 W → W.cell? ⟨g, off + kk * 5 + 2, none⟩ = some (.string (bytesOf x.cells)) from fun W hW => (hW.cell (p := ⟨g, off + kk * 5 + 2, none⟩) hgw).trans z2)
          have hlj : (outN M (bs.take j)).length ≤ 100 := Nat.le_trans (outN_len _ _) (by rw [List.length_take]; omega)
          have hcj : (cellsR (xsN l (outN M (bs.take j)))).length ≤ 100 * 50 := cells_few HFC.out hlj
          obtain ⟨sj, hsj⟩ : ∃ sj, bytesOf (cellsR (xsN l (outN M (bs.take j)))) = sj := ⟨_, rfl⟩
          have hsjs : sj.size ≤ 5000 := by rw [← hsj, bytesOf_size]; exact hcj
          have hxcs : (bytesOf x.cells).size ≤ 50 := by rw [bytesOf_size]; exact HFC.out x (List.mem_of_getElem? hx)
          have HCAT := Lib.hid (show bytesOf (cellsR (xsN l (outN M (bs.take j) ++ [kk]))) = sj ++ bytesOf x.cells from by rw [xsN_snoc hx, bytesOf_app, hsj])
          rw [hsj]
          obtain ⟨m, hm⟩ : ∃ m, (outN M (bs.take j)).length = m := ⟨_, rfl⟩
          rw [hm] at how hlj
          have HMJ := Lib.hid hm
          have hrem : Int.tmod (b : Int) (nm : Int) = (r : Int) := by rw [← hr]; rfl
          have hwb : wrap64 (b : Int) = (b : Int) := by unfold wrap64; omega
          have hnz : ((nm : Int) == 0) = false := beq_eq_false_iff_ne.2 (by omega)
          have r0 : (0 : Int) ≤ (r : Int) := by omega
          have r1 : (r : Int) < (nm : Int) := by omega
          have q0 : (0 : Int) ≤ (kk : Int) := by omega
          have q1 : (kk : Int) < (nl : Int) := by omega
          have u1 : decide ((j : Int) < (nb : Int)) = true := decide_eq_true j1
          have u2 : decide ((0 : Int) < (nm : Int)) = true := decide_eq_true (by omega)
          obtain ⟨xt, hxt⟩ : ∃ s, bytesOf x.cells = s := ⟨_, rfl⟩
          rw [hxt] at HG HCAT hxcs
          have HOW := Lib.hid how
          have HB3 := Lib.hid hB3
          have hsz3 := hB3.size
          have HLT := Lib.hid how.lt
          obtain ⟨A9, c9, rfl, -, -, -⟩ := own_formR how
          clear hbj hA hg2 hg2w hr hkk hx hA' hg hgw z2 hsj hm how hB3 hxt hcj hb256
          go_wp2_with (at_builtin; refine wpList_append_own _ rfl _ _ 55 rfl W0.heap.size 3 i0 _ 1 8 Tryz.underlying55 hi0 hz0 hz1 hz2 rfl (by decide) _ _ _ rfl (HOW.out.alloc _) ⟨wr.heap.size, 0, none⟩ 1 1 [.int .i64 (kk : Int)] rfl rfl (World.news_of_block (cs := #[.int .i64 (kk : Int)]) (t := 3) (fr := (0, 0)) (heap_alloc_new wr _)) (by simp [Value.oneCell']) (by unfold maxLen; omega) (by omega) (by simp; omega) ?_; intro v' w8 hown' hgrow _; have HFF := Lib.hid (show w8.ownsRow W0.heap.size 3 1 v' (outN M (bs.take (j + 1))).length (iV (outN M (bs.take (j + 1)))) ∧ Below W0.heap.size W0 w8 from ⟨by rw [HNX.out, iV_snoc, List.length_append, HMJ.out]; exact hown', (HB3.out.alloc hsz3 _).grown hgrow (by simp; omega) (fun j ej => (HLT.out j ej).1)⟩); have z2 := HG.out w8 (chain HB0.out HB0.out.size HFF.out.2); clear hown' hgrow)
          go_roundw
          case rel => exact ⟨j + 1, by go_num, by omega, by rw [HNX.out, HCAT.out], HFF.out.1, HFF.out.2⟩
          case measure => simp [intOf]; omega
        · have HCH := Lib.hid (show outN M (bs.take j) = outN M bs from by
            rcases Nat.eq_zero_or_pos nm with h0 | h0
            · have : M = [] := List.length_eq_zero_iff.1 (by rw [HNM.out]; exact h0)
              rw [this, outN_nil, outN_nil]
            · have : j = nb := by omega
              rw [List.take_of_length_le (by rw [HNB.out]; omega)])
          rw [HCH.out] at how ⊢
          obtain ⟨K, hK⟩ : ∃ K, outN M bs = K := ⟨_, rfl⟩
          rw [hK] at how ⊢
          have HKM := Lib.hid (show ∀ k ∈ K, ∃ x, l[k]? = some x ∧ inB x rw_ = true from fun k h => HMM.out k (outN_mem (by rw [← hK] at h; exact h)))
          have HKL := Lib.hid (show K.length ≤ 100 from by rw [← hK]; exact Nat.le_trans (outN_len _ _) (by rw [HNB.out]; omega))
          obtain ⟨S, hS⟩ : ∃ S, bytesOf (cellsR (xsN l K)) = S := ⟨_, rfl⟩
          have HSN := Lib.hid (show bytesN S = cellsR (xsN l K) from by rw [← hS]; exact bytesN_bytesOf _ (cells_lt HF.out K))
          have hSS : S.size ≤ 100 * 50 := by rw [← hS, bytesOf_size]; exact cells_few HFC.out HKL.out
          rw [hS]
          obtain ⟨no, hno⟩ : ∃ n, K.length = n := ⟨_, rfl⟩
          rw [hno] at how
          have HNO := Lib.hid hno
          have hno4 : no ≤ 100 := by rw [← hno]; exact HKL.out
          have HBX := Lib.hid (chain HB0.out HB0.out.size hB3)
          have HNE := Lib.hid (show ∀ x ∈ l, x.cells ≠ [] from acc_cells HACC.out)
          obtain ⟨W2, rfl⟩ : ∃ W, W = wr := ⟨_, rfl⟩
          obtain ⟨A9, c9, rfl, -, -, hA9⟩ := own_formR how
          have HA9 := Lib.hid hA9
          have HOW2 := Lib.hid how
          clear how hB3 hK hS hno hA9
          by_cases hjn : j < nb
          · have u1 : decide ((j : Int) < (nb : Int)) = true := decide_eq_true (by omega)
            have u2 : decide ((0 : Int) < (nm : Int)) = false := decide_eq_false (by omega)
            have u3 : decide (0 < nm) = false := decide_eq_false (by omega)
            go_wp2
            go_loopw [16, 17] (fun p i w3 => ∃ n : Nat, i = .int .i64 (n : Int) ∧ n ≤ no ∧ p = .int .i64 (((cellsR (xsN l (K.take n))).length : Nat) : Int) ∧ Below W2.heap.size W2 w3) (fun _ i _ => no - (intOf i).toNat)
            case atStart => exact ⟨0, rfl, Nat.zero_le _, rfl, Below.refl _ _⟩
            case round =>
              obtain ⟨n, rfl, hn, rfl, hB4⟩ := hrel
              have HB4 := Lib.hid hB4
              have HBY := Lib.hid (chain HBX.out HBX.out.size hB4)
              by_cases hlt4 : n < no
              · have HLT4 := Lib.hid hlt4
                have n0 : (0 : Int) ≤ (n : Int) := by omega
                have n1 : (n : Int) < (no : Int) := by omega
                have u4 : decide ((n : Int) < (no : Int)) = true := decide_eq_true n1
                obtain ⟨ki, hki⟩ : ∃ ki, K[n]? = some ki := ⟨_, List.getElem?_eq_getElem (by rw [HNO.out]; exact hlt4)⟩
                obtain ⟨x, hx, hmx, hnx⟩ := back_step HACC.out.apart HNE.out HKM.out hki
                have hkl : ki < nl := by have := (List.getElem?_eq_some_iff.1 hx).1; rw [HNL.out] at this; exact this
                obtain ⟨g9, rfl, hg9⟩ := HA9.out (by omega)
                have hg9w := (HOW2.out.lt g9 rfl).2
                have y0 := int_cell HOW2.out hlt4 hki
                obtain ⟨A', c', e, hA'⟩ := HV1.out
                injection e with e1 e2 e3
                subst e1; subst e3; clear e2
                obtain ⟨g, rfl, hgw, hg⟩ := hA' (by rw [HNL.out]; omega)
                obtain ⟨-, -, z2, -, -⟩ := rcell hg ki x hx
                have hpl : (cellsR (xsN l (K.take n))).length ≤ 100 * 50 := cells_few HFC.out (by have := HKL.out; rw [List.length_take]; omega)
                have hnl5 := congrArg List.length hnx
                rw [List.length_append] at hnl5
                obtain ⟨p, hp⟩ : ∃ p, (cellsR (xsN l (K.take n))).length = p := ⟨_, rfl⟩
                rw [hp] at hmx hpl hnl5 ⊢
                have HM := Lib.hid (show Calls Tryz.prog 12 #[.pointer (some a), .string S, .int .i64 (p : Int), .int .i64 rw_] wr fun e w' => e = .returned (.tuple #[.int .i64 ((ki : Nat) : Int), .bool true]) ∧ Below wr.heap.size wr w' from HMT.out S (p : Int) rw_ (some ki) (by omega) (by unfold I64; omega) HI64.out (by rw [HSN.out]; exact hmx) wr HBY.out)
                have hxcs : (bytesOf x.cells).size ≤ 50 := by rw [bytesOf_size]; exact HFC.out x (List.mem_of_getElem? hx)
                have hxsz : (bytesOf x.cells).size = x.cells.length := bytesOf_size _
                obtain ⟨xt, hxt⟩ : ∃ s, bytesOf x.cells = s := ⟨_, rfl⟩
                rw [hxt] at z2 hxcs hxsz
                rw [← hxsz] at hnl5
                have HN5 := Lib.hid hnl5
                have q0 : (0 : Int) ≤ (ki : Int) := by omega
                have q1 : (ki : Int) < (nl : Int) := by omega
                have s1 : ((ki : Int) == (ki : Int)) = true := by simp
                have HZ := Lib.hid (show ∀ W : World, Below wr.heap.size wr W → W.cell? ⟨g9, n, none⟩ = some (.int .i64 (ki : Int)) ∧ W.cell? ⟨g, off + ki * 5 + 2, none⟩ = some (.string xt) ∧ Below W2.heap.size W2 W from fun W hW => by
                  have h := chain HB4.out HB4.out.size hW
                  exact ⟨(h.cell (p := ⟨g9, n, none⟩) hg9w).trans y0, ((chain HBX.out HBX.out.size h).cell (p := ⟨g, off + ki * 5 + 2, none⟩) hgw).trans z2, h⟩)
                clear hki hx hmx hnx hA' hg hgw hg9w y0 z2 hp hxt hB4 hnl5 hxsz
                go_wp2_with fail
                refine HM.out.mono ?_
                rintro e w5 ⟨rfl, hb5⟩
                obtain ⟨y0, z2, hB5⟩ := HZ.out w5 hb5
                have HB5 := Lib.hid hB5
                clear hb5 hB5
                go_wp2
                go_roundw
                case rel => exact ⟨n + 1, by go_num, by have := HLT4.out; omega, by rw [HN5.out]; go_num, HB5.out⟩
                case measure => have := HLT4.out; simp [intOf]; omega
              · have hnn : n = K.length := by rw [HNO.out]; omega
                have hpe : (cellsR (xsN l (K.take n))).length = S.size := by
                  rw [hnn, List.take_length, ← HSN.out]; exact bytesN_len _
                have hme : matchN l (bytesN S) ((S.size : Nat) : Int) rw_ = none := by
                  rw [← bytesN_len S]; exact match_end _ _ _
                rw [hpe]
                have u4 : decide (n < no) = false := decide_eq_false hlt4
                have HM := Lib.hid (show Calls Tryz.prog 12 #[.pointer (some a), .string S, .int .i64 ((S.size : Nat) : Int), .int .i64 rw_] wr fun e w' => e = .returned (.tuple #[.int .i64 0, .bool false]) ∧ Below wr.heap.size wr w' from HMT.out S _ rw_ none (by omega) (by unfold I64; omega) HI64.out hme wr HBY.out)
                clear hpe hme hnn hB4
                go_wp2_with fail
                refine HM.out.mono ?_
                rintro e w5 ⟨rfl, hb5⟩
                have HB5 := Lib.hid (chain HB1.out HB1.out.size (chain HBY.out HBY.out.size hb5))
                clear hb5
                go_wp2_with fail
                refine (HAW.out _ (HL.out.kept HB5.out)).mono ?_
                rintro e w6 ⟨rfl, hb6⟩
                have HB6 := Lib.hid (chain HB5.out HB5.out.size hb6)
                clear hb6
                go_wp2
                go_ret
                exact ⟨rfl, HB6.out⟩
          · have u1 : decide (j < nb) = false := decide_eq_false hjn
            go_wp2
            go_loopw [16, 17] (fun p i w3 => ∃ n : Nat, i = .int .i64 (n : Int) ∧ n ≤ no ∧ p = .int .i64 (((cellsR (xsN l (K.take n))).length : Nat) : Int) ∧ Below W2.heap.size W2 w3) (fun _ i _ => no - (intOf i).toNat)
            case atStart => exact ⟨0, rfl, Nat.zero_le _, rfl, Below.refl _ _⟩
            case round =>
              obtain ⟨n, rfl, hn, rfl, hB4⟩ := hrel
              have HB4 := Lib.hid hB4
              have HBY := Lib.hid (chain HBX.out HBX.out.size hB4)
              by_cases hlt4 : n < no
              · have HLT4 := Lib.hid hlt4
                have n0 : (0 : Int) ≤ (n : Int) := by omega
                have n1 : (n : Int) < (no : Int) := by omega
                have u4 : decide ((n : Int) < (no : Int)) = true := decide_eq_true n1
                obtain ⟨ki, hki⟩ : ∃ ki, K[n]? = some ki := ⟨_, List.getElem?_eq_getElem (by rw [HNO.out]; exact hlt4)⟩
                obtain ⟨x, hx, hmx, hnx⟩ := back_step HACC.out.apart HNE.out HKM.out hki
                have hkl : ki < nl := by have := (List.getElem?_eq_some_iff.1 hx).1; rw [HNL.out] at this; exact this
                obtain ⟨g9, rfl, hg9⟩ := HA9.out (by omega)
                have hg9w := (HOW2.out.lt g9 rfl).2
                have y0 := int_cell HOW2.out hlt4 hki
                obtain ⟨A', c', e, hA'⟩ := HV1.out
                injection e with e1 e2 e3
                subst e1; subst e3; clear e2
                obtain ⟨g, rfl, hgw, hg⟩ := hA' (by rw [HNL.out]; omega)
                obtain ⟨-, -, z2, -, -⟩ := rcell hg ki x hx
                have hpl : (cellsR (xsN l (K.take n))).length ≤ 100 * 50 := cells_few HFC.out (by have := HKL.out; rw [List.length_take]; omega)
                have hnl5 := congrArg List.length hnx
                rw [List.length_append] at hnl5
                obtain ⟨p, hp⟩ : ∃ p, (cellsR (xsN l (K.take n))).length = p := ⟨_, rfl⟩
                rw [hp] at hmx hpl hnl5 ⊢
                have HM := Lib.hid (show Calls Tryz.prog 12 #[.pointer (some a), .string S, .int .i64 (p : Int), .int .i64 rw_] wr fun e w' => e = .returned (.tuple #[.int .i64 ((ki : Nat) : Int), .bool true]) ∧ Below wr.heap.size wr w' from HMT.out S (p : Int) rw_ (some ki) (by omega) (by unfold I64; omega) HI64.out (by rw [HSN.out]; exact hmx) wr HBY.out)
                have hxcs : (bytesOf x.cells).size ≤ 50 := by rw [bytesOf_size]; exact HFC.out x (List.mem_of_getElem? hx)
                have hxsz : (bytesOf x.cells).size = x.cells.length := bytesOf_size _
                obtain ⟨xt, hxt⟩ : ∃ s, bytesOf x.cells = s := ⟨_, rfl⟩
                rw [hxt] at z2 hxcs hxsz
                rw [← hxsz] at hnl5
                have HN5 := Lib.hid hnl5
                have q0 : (0 : Int) ≤ (ki : Int) := by omega
                have q1 : (ki : Int) < (nl : Int) := by omega
                have s1 : ((ki : Int) == (ki : Int)) = true := by simp
                have HZ := Lib.hid (show ∀ W : World, Below wr.heap.size wr W → W.cell? ⟨g9, n, none⟩ = some (.int .i64 (ki : Int)) ∧ W.cell? ⟨g, off + ki * 5 + 2, none⟩ = some (.string xt) ∧ Below W2.heap.size W2 W from fun W hW => by
                  have h := chain HB4.out HB4.out.size hW
                  exact ⟨(h.cell (p := ⟨g9, n, none⟩) hg9w).trans y0, ((chain HBX.out HBX.out.size h).cell (p := ⟨g, off + ki * 5 + 2, none⟩) hgw).trans z2, h⟩)
                clear hki hx hmx hnx hA' hg hgw hg9w y0 z2 hp hxt hB4 hnl5 hxsz
                go_wp2_with fail
                refine HM.out.mono ?_
                rintro e w5 ⟨rfl, hb5⟩
                obtain ⟨y0, z2, hB5⟩ := HZ.out w5 hb5
                have HB5 := Lib.hid hB5
                clear hb5 hB5
                go_wp2
                go_roundw
                case rel => exact ⟨n + 1, by go_num, by have := HLT4.out; omega, by rw [HN5.out]; go_num, HB5.out⟩
                case measure => have := HLT4.out; simp [intOf]; omega
              · have hnn : n = K.length := by rw [HNO.out]; omega
                have hpe : (cellsR (xsN l (K.take n))).length = S.size := by
                  rw [hnn, List.take_length, ← HSN.out]; exact bytesN_len _
                have hme : matchN l (bytesN S) ((S.size : Nat) : Int) rw_ = none := by
                  rw [← bytesN_len S]; exact match_end _ _ _
                rw [hpe]
                have u4 : decide (n < no) = false := decide_eq_false hlt4
                have HM := Lib.hid (show Calls Tryz.prog 12 #[.pointer (some a), .string S, .int .i64 ((S.size : Nat) : Int), .int .i64 rw_] wr fun e w' => e = .returned (.tuple #[.int .i64 0, .bool false]) ∧ Below wr.heap.size wr w' from HMT.out S _ rw_ none (by omega) (by unfold I64; omega) HI64.out hme wr HBY.out)
                clear hpe hme hnn hB4
                go_wp2_with fail
                refine HM.out.mono ?_
                rintro e w5 ⟨rfl, hb5⟩
                have HB5 := Lib.hid (chain HB1.out HB1.out.size (chain HBY.out HBY.out.size hb5))
                clear hb5
                go_wp2_with fail
                refine (HAW.out _ (HL.out.kept HB5.out)).mono ?_
                rintro e w6 ⟨rfl, hb6⟩
                have HB6 := Lib.hid (chain HB5.out HB5.out.size hb6)
                clear hb6
                go_wp2
                go_ret
                exact ⟨rfl, HB6.out⟩
end Go.Proofs.YtjflefchhbihkaaGreatDoor.Ti
