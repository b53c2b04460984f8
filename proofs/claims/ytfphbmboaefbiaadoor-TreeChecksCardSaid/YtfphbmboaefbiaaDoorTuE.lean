/-
  The document's events of layer 4: what a row of nodes would be read from.
-/
import Derived.Test.YtfphbmboaefbiaaDoorTuC
import Derived.Test.YtfphbmboaefbiaaDoorTrZ
namespace Go.Proofs.YtfphbmboaefbiaaDoor.Tr
open Go.RowKit

/-- What events answers. -/
def EvTo (t : List Nd) (a e : Nat) (w : World) (en : Ending) (w' : World) : Prop :=
  (match evA t a e with
    | none => en = .returned (.tuple #[.slice none 0 0, .bool false])
    | some L => ∃ v, en = .returned (.tuple #[v, .bool true]) ∧ (L = [] → v = .slice none 0 0) ∧ L.length ≤ 2 * (e - a) ∧ w'.ownsRow w.heap.size 49 4 v L.length (Ba.rows Lx.cellsX L)) ∧ Below w.heap.size w w'
theorem EvTo.bad {t : List Nd} {a e : Nat} {w w' : World} (h : evA t a e = none) (hb : Below w.heap.size w w') : EvTo t a e w (.returned (.tuple #[.slice none 0 0, .bool false])) w' := by
  unfold EvTo; rw [h]; exact ⟨rfl, hb⟩
/-- The loop: L0 is read, the rest stands at a'. -/
def EvR (t : List Nd) (a e : Nat) (w : World) (u v : Value) (wr : World) : Prop := ∃ (k : Nat) (L0 : List Lx.Lx), u = .int .i64 k ∧ a ≤ k ∧ k ≤ e ∧ evA t a e = (evA t k e).map (L0 ++ ·) ∧ L0.length ≤ 2 * (k - a) ∧ (L0 = [] → v = .slice none 0 0) ∧ wr.ownsRow w.heap.size 49 4 v L0.length (Ba.rows Lx.cellsX L0) ∧ Below w.heap.size w wr
theorem cX_len' (x : Lx.Lx) : (Lx.cellsX x).length = 4 := rfl
theorem cX_one (l : List Lx.Lx) : ∀ u ∈ Ba.rows Lx.cellsX l, u.oneCell' = true := by
  intro u hu
  unfold Ba.rows at hu
  rw [List.mem_flatMap] at hu
  obtain ⟨x, _, hx⟩ := hu
  simp [Lx.cellsX] at hx
  rcases hx with rfl | rfl | rfl | rfl <;> rfl
theorem ev_text {t : List Nd} {k e : Nat} {x : Nd} (h : k < e) (hx : t[k]? = some x) (hk : x.kind = 46) (hs : x.size = 1) (L0 : List Lx.Lx) : (evA t k e).map (L0 ++ ·) = (evA t (k + 1) e).map ((L0 ++ [txL x.text]) ++ ·) := by
  rw [evA_text h hx hk hs]
  cases evA t (k + 1) e <;> simp
theorem ev_node {t : List Nd} {k e n : Nat} {x : Nd} (hx : t[k]? = some x) (hk : x.kind ≠ 46) (hs : x.size = (n : Int)) (h1 : 1 ≤ n) (h2 : k + n ≤ e) {M : List Lx.Lx} (hM : evA t (k + 1) (k + n) = some M) (L0 : List Lx.Lx) : (evA t k e).map (L0 ++ ·) = (evA t (k + n) e).map ((L0 ++ opL x.kind :: (M ++ [clL])) ++ ·) := by
  rw [evA_node hx hk hs h1 h2, hM]
  cases evA t (k + n) e <;> simp
theorem ev_none {t : List Nd} {k e n : Nat} {x : Nd} (hx : t[k]? = some x) (hk : x.kind ≠ 46) (hs : x.size = (n : Int)) (h1 : 1 ≤ n) (h2 : k + n ≤ e) (hM : evA t (k + 1) (k + n) = none) : evA t k e = none := by
  rw [evA_node hx hk hs h1 h2, hM]; rfl
theorem ev_bad {t : List Nd} {k e : Nat} {x : Nd} (h : k < e) (hx : t[k]? = some x) (hb : x.size < 1 ∨ (e : Int) < (k : Int) + x.size) : evA t k e = none := by
  rw [evA_step t k e h, hx]; simp only []; rw [if_pos hb]
theorem ev_bad1 {t : List Nd} {k e : Nat} {x : Nd} (h : k < e) (hx : t[k]? = some x) (hk : x.kind = 46) (hs : x.size ≠ 1) : evA t k e = none := by
  rw [evA_step t k e h, hx]; simp only []
  by_cases hb : x.size < 1 ∨ (e : Int) < (k : Int) + x.size
  · rw [if_pos hb]
  · rw [if_neg hb, if_pos hk, if_neg hs]
theorem box_far {w1 w5 : World} {X : Obj} {v : Value} (hg : (w1.alloc X).grownBy w5 v.ownBlock) {bx i : Nat} {u : Value} (hlt : bx < w1.heap.size) (hne : ∀ j, v.ownBlock = some j → j ≠ bx) (h : w1.cell? ⟨bx, i, none⟩ = some u) : w5.cell? ⟨bx, i, none⟩ = some u := by
  rw [hg.cell_far ⟨bx, i, none⟩ (by simp; omega) (fun e => hne bx e.symm rfl)]
  exact (World.cell?_of_block (w := w1) (a := ⟨bx, i, none⟩) (Below.heap_alloc w1 X bx hlt)).trans h
theorem box_far0 {w1 w5 : World} {v : Value} (hg : w1.grownBy w5 v.ownBlock) {bx i : Nat} {u : Value} (hlt : bx < w1.heap.size) (hne : ∀ j, v.ownBlock = some j → j ≠ bx) (h : w1.cell? ⟨bx, i, none⟩ = some u) : w5.cell? ⟨bx, i, none⟩ = some u :=
  (hg.cell_far ⟨bx, i, none⟩ hlt (fun e => hne bx e.symm rfl)).trans h
theorem own_ne {v : Value} {g n c bx H j : Nat} (hat : v.ownBlock = some g ∨ g = H + 1) (hj : (Value.slice (some ⟨g, 0, none⟩) n c).ownBlock = some j) (hne : ∀ j, v.ownBlock = some j → j ≠ bx) (hlt : bx < H) : j ≠ bx := by
  have : g = j := by simpa [Value.ownBlock] using hj
  subst this
  rcases hat with h | h
  · exact hne _ h
  · omega
theorem own_ne0 {v : Value} {g n c bx H j : Nat} (hat : v.ownBlock = some g ∨ g = H) (hj : (Value.slice (some ⟨g, 0, none⟩) n c).ownBlock = some j) (hne : ∀ j, v.ownBlock = some j → j ≠ bx) (hlt : bx < H) : j ≠ bx := by
  have : g = j := by simpa [Value.ownBlock] using hj
  subst this
  rcases hat with h | h
  · exact hne _ h
  · omega
theorem ev_len {t : List Nd} {a e : Nat} {L : List Lx.Lx} (h : evA t a e = some L) : L.length ≤ 2 * (e - a) := by
  have key : ∀ n a e (L : List Lx.Lx), e - a ≤ n → evA t a e = some L → L.length ≤ 2 * (e - a) := by
    intro n
    induction n with
    | zero => intro a e L hn h; rw [evA_end t a e (by omega)] at h; cases h; simp
    | succ n ih =>
      intro a e L hn h
      by_cases hlt : a < e
      · rw [evA_step t a e hlt] at h
        cases hx : t[a]? with
        | none => rw [hx] at h; cases h
        | some x =>
          rw [hx] at h
          simp only [] at h
          by_cases hs : x.size < 1 ∨ (e : Int) < (a : Int) + x.size
          · rw [if_pos hs] at h; cases h
          rw [if_neg hs] at h
          by_cases hk : x.kind = 46
          · rw [if_pos hk] at h
            by_cases h5 : x.size = 1
            · rw [if_pos h5] at h
              obtain ⟨R, hR, rfl⟩ := Option.map_eq_some_iff.1 h
              have := ih (a + 1) e R (by omega) hR
              simp only [List.length_cons]; omega
            · rw [if_neg h5] at h; cases h
          · rw [if_neg hk] at h
            obtain ⟨K, hK, h3⟩ := Option.bind_eq_some_iff.1 h
            obtain ⟨R, hR, rfl⟩ := Option.map_eq_some_iff.1 h3
            have h1 := ih (a + 1) (a + x.size.toNat) K (by omega) hK
            have h2 := ih (a + x.size.toNat) e R (by omega) hR
            simp only [List.length_cons, List.length_append]; omega
      · rw [evA_end t a e (by omega)] at h; cases h; simp
  exact key _ a e L (Nat.le_refl _) h
theorem EvTo.of_none {t : List Nd} {a e : Nat} {w w' : World} {en : Ending} (hM : evA t a e = none) (h : EvTo t a e w en w') : en = .returned (.tuple #[.slice none 0 0, .bool false]) ∧ Below w.heap.size w w' := by
  unfold EvTo at h; rw [hM] at h; exact h
theorem EvTo.of_some {t : List Nd} {a e : Nat} {w w' : World} {en : Ending} {L : List Lx.Lx} (hM : evA t a e = some L) (h : EvTo t a e w en w') : (∃ v, en = .returned (.tuple #[v, .bool true]) ∧ (L = [] → v = .slice none 0 0) ∧ L.length ≤ 2 * (e - a) ∧ w'.ownsRow w.heap.size 49 4 v L.length (Ba.rows Lx.cellsX L)) ∧ Below w.heap.size w w' := by
  unfold EvTo at h; rw [hM] at h; exact h
theorem own_cap {w : World} {base : Nat} {e : TypeId} {size g n c : Nat} {xs : List Value} (h : w.ownsRow base e size (.slice (some ⟨g, 0, none⟩) n c) n xs) : n ≤ c := by
  rcases h.2 with ⟨h', _⟩ | ⟨g', c', _, h', _, _, h1, _⟩
  · cases h'
  · injection h' with _ _ e; omega
/-- The cells of a row of its own, as news. -/
theorem own_news {w : World} {base : Nat} {e : TypeId} {g n c : Nat} {L : List Lx.Lx} (h : w.ownsRow base e 4 (.slice (some ⟨g, 0, none⟩) n c) n (Ba.rows Lx.cellsX L)) : ∀ j u, (Ba.rows Lx.cellsX L)[j]? = some u → w.cell? ((⟨g, 0, none⟩ : Addr).add j) = some u := fun j u hu => by
  have hj : j < (Ba.rows Lx.cellsX L).length := (List.getElem?_eq_some_iff.1 hu).1
  have hl := h.1
  have hadd : (⟨g, 0, none⟩ : Addr).add j = ⟨g, j, none⟩ := by unfold Addr.add; split <;> simp_all
  rw [hadd, h.cellAt j (by omega), hu]
theorem infoLexR : (Tryd.prog.info? 49).map (fun i => (i.zero, i.size, i.bytes)) = some (some (.agg #[.int .i64 0, .int .u8 0, .string { data := #[] }, .int .i64 0]), 4, 40) := by kernel_rfl

set_option maxRecDepth 100000 in
set_option maxHeartbeats 8000000 in
/-- stylusref04.events -/
theorem events_at (t : List Nd) (off : Nat) (v : Value) (ht : t.length ≤ 9000) (hf : Fit t) : ∀ n a e, e - a ≤ n → a ≤ e → e ≤ t.length → ∀ w : World, ReadsN off w w.heap.size v t →
    Calls Tryd.prog 35 #[v, .int .i64 (a : Int), .int .i64 (e : Int)] w (EvTo t a e w) := by
  intro n
  induction n using Nat.strongRecOn with
  | _ n ih =>
    intro a e hn hae hel w hv
    have IH := Lib.hid ih
    have HF := Lib.hid hf
    obtain ⟨A, c, rfl, hA⟩ := hv
    have HA := Lib.hid hA
    obtain ⟨i0, hi0, hz0, hz1, hz2⟩ := info_parts infoLexR
    clear ih hf hA
    go_enter Tryd.func35, Tryd.ntmps35
    go_wp2
    go_loopw [1, 8] (fun u v wr => EvR t a e w u v wr) (fun u _ _ => e - (intOf u).toNat)
    case atStart => exact ⟨a, [], rfl, Nat.le_refl _, hae, by cases evA t a e <;> simp, by simp, fun _ => rfl, World.ownsRow_nil _ _ _ _, Below.refl _ _⟩
    case round =>
      obtain ⟨k, L0, rfl, hak, hke, hEV, hLL, hnil, own, hB⟩ := hrel
      have HEV := Lib.hid hEV
      have HNL := Lib.hid hnil
      have HB := Lib.hid hB
      have HOW := Lib.hid own
      have hBs := hB.size
      obtain ⟨q, hq⟩ : ∃ q, L0.length = q := ⟨_, rfl⟩
      have HQ := Lib.hid hq
      rw [hq] at hLL
      clear hEV hnil own
      by_cases hlt : k < e
      · obtain ⟨g, rfl, hg, hcell⟩ := HA.out (by omega)
        obtain ⟨⟨xk, xt, xp, xs⟩, hx⟩ := at_some (l := t) (i := k) (by omega)
        have HX := Lib.hid hx
        obtain ⟨hk2, hts, -, hs1, hs2⟩ := HF.out _ (List.mem_of_getElem? hx)
        simp only [] at hk2 hts hs1 hs2
        obtain ⟨d0, d1, d2, d3⟩ := cells_of hcell k _ hx
        have upr := fun i => World.cell?_of_block (w := w) (a := ⟨g, i, none⟩) (hB.block g hg)
        rw [← upr] at d0 d1 d2 d3
        have j0 : (0 : Int) ≤ (k : Int) := by omega
        have j1 : (k : Int) < (t.length : Int) := by omega
        have hbx : Below w.heap.size w (wr.alloc (.cells #[.int .u8 (xk : Int), .string xt, .int .i64 xp, .int .i64 xs] 32)) := hB.alloc hBs _
        have HBX := Lib.hid hbx
        clear hcell hx upr hB hq hbx
        by_cases b1 : xs < 1
        · have HR := Lib.hid (EvTo.bad (show evA t a e = none by rw [HEV.out, ev_bad hlt HX.out (.inl b1)]; rfl) HBX.out)
          have g1 : decide (xs < 1) = true := decide_eq_true b1
          go_wp2
          go_ret2
          exact HR.out
        by_cases b2 : (e : Int) < (k : Int) + xs
        · have HR := Lib.hid (EvTo.bad (show evA t a e = none by rw [HEV.out, ev_bad hlt HX.out (.inr b2)]; rfl) HBX.out)
          have g1 : decide (xs < 1) = false := decide_eq_false b1
          by_cases b3 : (k : Int) + xs ≤ 9223372036854775807
          · have g2 : decide ((e : Int) < (k : Int) + xs) = true := decide_eq_true b2
            go_wp2
            go_ret2
            exact HR.out
          · have hwv : wrap64 ((k : Int) + xs) = (k : Int) + xs - 18446744073709551616 := by unfold wrap64; omega
            have g2 : decide ((e : Int) < wrap64 ((k : Int) + xs)) = false := decide_eq_false (by omega)
            have g3 : decide (wrap64 ((k : Int) + xs) < (k : Int)) = true := decide_eq_true (by omega)
            clear hwv
            go_wp2
            go_ret2
            exact HR.out
        obtain ⟨z, rfl⟩ : ∃ z : Nat, xs = (z : Int) := ⟨xs.toNat, by omega⟩
        have z1 : 1 ≤ z := by omega
        have z2 : k + z ≤ e := by omega
        have g1 : decide ((z : Int) < 1) = false := decide_eq_false (by omega)
        have g2 : decide ((e : Int) < (k : Int) + (z : Int)) = false := decide_eq_false (by omega)
        have g3 : decide ((k : Int) + (z : Int) < (k : Int)) = false := decide_eq_false (by omega)
        clear b1 b2
        by_cases k6 : xk = 46
        · have t1 : ((xk : Int) == 46) = true := beqT k6
          by_cases z3 : z = 1
          · have t2 : ((z : Int) != 1) = false := by rw [bne, show ((z : Int) == 1) = true from beqT z3]; rfl
            have HE2 := Lib.hid (HEV.out.trans (ev_text hlt HX.out k6 (by show (z : Int) = 1; omega) L0))
            have hbw1 : Below wr.heap.size wr (wr.alloc (.cells #[.int .u8 (xk : Int), .string xt, .int .i64 xp, .int .i64 (z : Int)] 32)) := (Below.refl _ wr).alloc (Nat.le_refl _) _
            have own1 := Lx.own_below HOW.out hbw1
            rw [HQ.out] at own1
            have HZ3 := Lib.hid z3
            have y1 : (wr.alloc (.cells #[.int .u8 (xk : Int), .string xt, .int .i64 xp, .int .i64 (z : Int)] 32)).cell? ⟨wr.heap.size, 1, none⟩ = some (.string xt) := by simp
            have y3 : (wr.alloc (.cells #[.int .u8 (xk : Int), .string xt, .int .i64 xp, .int .i64 (z : Int)] 32)).cell? ⟨wr.heap.size, 3, none⟩ = some (.int .i64 (z : Int)) := by simp
            have y0 : (wr.alloc (.cells #[.int .u8 (xk : Int), .string xt, .int .i64 xp, .int .i64 (z : Int)] 32)).cell? ⟨wr.heap.size, 0, none⟩ = some (.int .u8 (xk : Int)) := by simp
            have hs1 : (wr.alloc (.cells #[.int .u8 (xk : Int), .string xt, .int .i64 xp, .int .i64 (z : Int)] 32)).heap.size = wr.heap.size + 1 := by simp
            clear k6 z3 hbw1
            go_upto_region 4 with fail
            generalize wr.alloc (.cells #[.int .u8 (xk : Int), .string xt, .int .i64 xp, .int .i64 (z : Int)] 32) = w1 at *
            have hsz1 := HBX.out.size
            have hne8 : ∀ j, u8.ownBlock = some j → j ≠ wr.heap.size := fun j hj => by have := (HOW.out.lt j hj).2; omega
            have HNE := Lib.hid hne8
            have hlb : wr.heap.size < w1.heap.size := by omega
            have h8b := HOW.out.lt
            have H8B := Lib.hid h8b
            clear hs1 hne8 h8b
            go_wp2_with (at_builtin; refine wpList_append_lies _ rfl _ _ _ rfl w.heap.size 49 i0 _ 4 40 Tryd.underlying36 hi0 hz0 hz1 hz2 rfl (by omega) u8 q _ rfl (own1.alloc _) ⟨w1.heap.size, 0, none⟩ 1 1 [.int .i64 1, .int .u8 0, .string xt, .int .i64 0] rfl rfl (World.news_of_block (cs := #[.int .i64 1, .int .u8 0, .string xt, .int .i64 0]) (t := 49) (fr := (0, 0)) (heap_alloc_new w1 _)) (by simp [Value.oneCell']) (by omega) (by unfold maxLen; omega) (by omega) (by simp; omega) (w1.heap.size + 1) (by simp) ?_; intro gg cap w5 hown5 hgrow5 hat5 hlt5; have y5 := box_far hgrow5 hlb HNE.out y3; replace hown5 := Lib.hid hown5; have hB5 := Lib.hid ((HBX.out.alloc hsz1 _).grown hgrow5 (by simp; omega) (fun j ej => (H8B.out j ej).1)); clear hgrow5 hat5 hlt5)
            go_roundw
            case rel =>
              refine ⟨k + 1, L0 ++ [txL xt], by rw [HZ3.out]; go_num, by omega, by omega, HE2.out, by rw [List.length_append, List.length_singleton, HQ.out]; omega, fun h => by simp at h, ?_, hB5.out⟩
              rw [List.length_append, List.length_singleton, HQ.out, Ba.rows_snoc]
              exact hown5.out
            case measure => simp [intOf]; have := HZ3.out; omega
          · have t2 : ((z : Int) != 1) = true := by rw [bne, show ((z : Int) == 1) = false from beqF z3]; rfl
            have HR := Lib.hid (EvTo.bad (show evA t a e = none by rw [HEV.out, ev_bad1 hlt HX.out k6 (by show (z : Int) ≠ 1; omega)]; rfl) HBX.out)
            clear z3 k6
            go_wp2
            go_ret2
            exact HR.out
        · have t1 : ((xk : Int) == 46) = false := beqF k6
          have hbw1 : Below wr.heap.size wr (wr.alloc (.cells #[.int .u8 (xk : Int), .string xt, .int .i64 xp, .int .i64 (z : Int)] 32)) := (Below.refl _ wr).alloc (Nat.le_refl _) _
          have own1 := Lx.own_below HOW.out hbw1
          rw [HQ.out] at own1
          have y3 : (wr.alloc (.cells #[.int .u8 (xk : Int), .string xt, .int .i64 xp, .int .i64 (z : Int)] 32)).cell? ⟨wr.heap.size, 3, none⟩ = some (.int .i64 (z : Int)) := by simp
          have y0 : (wr.alloc (.cells #[.int .u8 (xk : Int), .string xt, .int .i64 xp, .int .i64 (z : Int)] 32)).cell? ⟨wr.heap.size, 0, none⟩ = some (.int .u8 (xk : Int)) := by simp
          have hs1 : (wr.alloc (.cells #[.int .u8 (xk : Int), .string xt, .int .i64 xp, .int .i64 (z : Int)] 32)).heap.size = wr.heap.size + 1 := by simp
          have HV1 := Lib.hid (show ReadsN off (wr.alloc (.cells #[.int .u8 (xk : Int), .string xt, .int .i64 xp, .int .i64 (z : Int)] 32)) (wr.alloc (.cells #[.int .u8 (xk : Int), .string xt, .int .i64 xp, .int .i64 (z : Int)] 32)).heap.size (.slice (some ⟨g, off, none⟩) t.length c) t from
            (Ba.Reads.below ⟨some ⟨g, off, none⟩, c, rfl, HA.out⟩ HBX.out).mono HBX.out.size)
          have HCALL := Lib.hid (show Calls Tryd.prog 35 #[.slice (some ⟨g, off, none⟩) t.length c, .int .i64 ((k : Int) + 1), .int .i64 ((k : Int) + (z : Int))] (wr.alloc (.cells #[.int .u8 (xk : Int), .string xt, .int .i64 xp, .int .i64 (z : Int)] 32)) (EvTo t (k + 1) (k + z) (wr.alloc (.cells #[.int .u8 (xk : Int), .string xt, .int .i64 xp, .int .i64 (z : Int)] 32))) from
            IH.out (z - 1) (by omega) (k + 1) (k + z) (by omega) (by omega) (by omega) _ HV1.out)
          clear hbw1
          go_upto_region 4 with fail
          generalize wr.alloc (.cells #[.int .u8 (xk : Int), .string xt, .int .i64 xp, .int .i64 (z : Int)] 32) = w1 at *
          have hsz1 := HBX.out.size
          have hne8 : ∀ j, u8.ownBlock = some j → j ≠ wr.heap.size := fun j hj => by have := (HOW.out.lt j hj).2; omega
          have HNE := Lib.hid hne8
          have hlb : wr.heap.size < w1.heap.size := by omega
          have h8b := HOW.out.lt
          have H8B := Lib.hid h8b
          clear hs1 hne8 h8b
          cases hM : evA t (k + 1) (k + z) with
          | none =>
            have HM := Lib.hid hM
            have HN := Lib.hid (show evA t a e = none by rw [HEV.out, ev_none HX.out k6 rfl z1 z2 hM]; rfl)
            clear hM k6
            go_wp2_with (go_at_call 35; refine (show Calls Tryd.prog 35 #[.slice (some ⟨g, off, none⟩) t.length c, .int .i64 ((k : Int) + 1), .int .i64 ((k : Int) + (z : Int))] w1 (EvTo t (k + 1) (k + z) w1) from HCALL.out).mono ?_; rintro en w3 hev; obtain ⟨rfl, hb3⟩ := hev.of_none HM.out; replace hb3 := Lib.hid hb3; clear hev)
            go_ret2
            exact EvTo.bad HN.out (Ba.chain HBX.out HBX.out.size hb3.out)
          | some M =>
            have HM := Lib.hid hM
            have HE2 := Lib.hid (HEV.out.trans (ev_node HX.out k6 rfl z1 z2 hM L0))
            have hml := ev_len hM
            obtain ⟨r, hr⟩ : ∃ r, M.length = r := ⟨_, rfl⟩
            have HR := Lib.hid hr
            rw [hr] at hml
            have hml2 : r ≤ 2 * (z - 1) := by omega
            have HLN := Lib.hid (show (L0 ++ opL xk :: (M ++ [clL])).length = q + 1 + r + 1 by simp [HQ.out, hr]; omega)
            have HRW := Lib.hid (show Ba.rows Lx.cellsX (L0 ++ opL xk :: (M ++ [clL])) = Ba.rows Lx.cellsX L0 ++ Lx.cellsX (opL xk) ++ Ba.rows Lx.cellsX M ++ Lx.cellsX clL by
              rw [Ba.rows_append, Ba.rows_cons, Ba.rows_append, Ba.rows_cons, Ba.rows_nil]; simp)
            clear hM k6 hr hml
            by_cases hr0 : r = 0
            · have HM0 := Lib.hid (show M = [] from List.length_eq_zero_iff.1 (HR.out.trans hr0))
              subst hr0
              go_wp2_with (first | (go_at_call 35; refine (show Calls Tryd.prog 35 #[.slice (some ⟨g, off, none⟩) t.length c, .int .i64 ((k : Int) + 1), .int .i64 ((k : Int) + (z : Int))] w1 (EvTo t (k + 1) (k + z) w1) from HCALL.out).mono ?_; rintro en w3 hev; obtain ⟨⟨v3, rfl, hn3, hl3, own3m⟩, hb3⟩ := hev.of_some HM.out; obtain rfl := hn3 HM0.out; clear own3m hn3 hl3; have y0 := (World.cell?_of_block (w := w1) (a := ⟨wr.heap.size, 0, none⟩) (hb3.block _ hlb)).trans y0; have y3 := (World.cell?_of_block (w := w1) (a := ⟨wr.heap.size, 3, none⟩) (hb3.block _ hlb)).trans y3; have own3 := Lx.own_below own1 hb3; have HB3 := Lib.hid (Ba.chain HBX.out HBX.out.size hb3); have hsz3 := HB3.out.size; have hlb3 : wr.heap.size < w3.heap.size := Nat.lt_of_lt_of_le hlb hb3.size; clear hev) | (at_builtin; refine wpList_append_lies _ rfl _ _ _ rfl w.heap.size 49 i0 _ 4 40 Tryd.underlying36 hi0 hz0 hz1 hz2 rfl (by omega) u8 q _ rfl (own3.alloc _) ⟨w3.heap.size, 0, none⟩ 1 1 [.int .i64 2, .int .u8 (xk : Int), .string { data := #[] }, .int .i64 0] rfl rfl (World.news_of_block (cs := #[.int .i64 2, .int .u8 (xk : Int), .string { data := #[] }, .int .i64 0]) (t := 49) (fr := (0, 0)) (heap_alloc_new w3 _)) (by simp [Value.oneCell']) (by omega) (by unfold maxLen; omega) (by omega) (by simp; omega) (w3.heap.size + 1) (by simp) ?_; intro g1 cap1 w4 hown4 hgrow4 hat4 hlt4; have y4 := box_far hgrow4 hlb3 HNE.out y3; have hN4 : ∀ j, (Value.slice (some ⟨g1, 0, none⟩) (q + 1) cap1).ownBlock = some j → j ≠ wr.heap.size := fun j hj => own_ne hat4 hj HNE.out hlb3; have hB4 := (HB3.out.alloc hsz3 _).grown hgrow4 (by simp; omega) (fun j ej => (H8B.out j ej).1); have hL4 : wr.heap.size < w4.heap.size := Nat.lt_of_lt_of_le hlb3 (Nat.le_trans (by simp) hgrow4.size); have hG4 := hown4.lt; have hcap4 := own_cap hown4; replace hown4 := Lib.hid hown4; have hsz4 := hB4.size; replace hB4 := Lib.hid hB4; replace hN4 := Lib.hid hN4; replace hG4 := Lib.hid hG4; clear hgrow4 hat4 hlt4) | (at_builtin; refine wpList_append_lies _ rfl _ _ _ rfl w.heap.size 49 i0 _ 4 40 Tryd.underlying36 hi0 hz0 hz1 hz2 rfl (by omega) (.slice (some ⟨g1, 0, none⟩) (q + 1) cap1) (q + 1) _ rfl (hown4.out.alloc _) ⟨w4.heap.size, 0, none⟩ 1 1 [.int .i64 3, .int .u8 0, .string { data := #[] }, .int .i64 0] rfl rfl (World.news_of_block (cs := #[.int .i64 3, .int .u8 0, .string { data := #[] }, .int .i64 0]) (t := 49) (fr := (0, 0)) (heap_alloc_new w4 _)) (by simp [Value.oneCell']) (by omega) (by unfold maxLen; omega) (by omega) (by simp; omega) (w4.heap.size + 1) (by simp) ?_; intro g6 cap6 w6 hown6 hgrow6 hat6 hlt6; have y6 := box_far hgrow6 hL4 hN4.out y4; replace hown6 := Lib.hid hown6; have hB6 := Lib.hid ((hB4.out.alloc hsz4 _).grown hgrow6 (by simp; omega) (fun j ej => (hG4.out j ej).1)); clear hgrow6 hat6 hlt6))
              go_roundw
              case rel =>
                refine ⟨k + z, L0 ++ opL xk :: (M ++ [clL]), by go_num, by omega, by omega, HE2.out, ?_, fun h => by simp at h, ?_, hB6.out⟩
                · rw [HLN.out]; omega
                · rw [HLN.out, HRW.out, HM0.out, Ba.rows_nil, List.append_nil]; exact hown6.out
              case measure => simp [intOf]; omega
            · have hr1 : 0 < r := by omega
              go_wp2_with fail
              refine (show Calls Tryd.prog 35 #[.slice (some ⟨g, off, none⟩) t.length c, .int .i64 ((k : Int) + 1), .int .i64 ((k : Int) + (z : Int))] w1 (EvTo t (k + 1) (k + z) w1) from HCALL.out).mono ?_
              rintro en w3 hev
              obtain ⟨⟨v3, rfl, hn3, hl3, own3m⟩, hb3⟩ := hev.of_some HM.out
              rw [HR.out] at own3m
              obtain ⟨gm, cm, hvm, hgm1, hgm2⟩ := own3m.form hr1
              subst hvm
              have HOM := Lib.hid own3m
              have hgm3 : gm ≠ wr.heap.size := by omega
              clear own3m hn3 hl3
              have y0 := (World.cell?_of_block (w := w1) (a := ⟨wr.heap.size, 0, none⟩) (hb3.block _ hlb)).trans y0
              have y3 := (World.cell?_of_block (w := w1) (a := ⟨wr.heap.size, 3, none⟩) (hb3.block _ hlb)).trans y3
              have own3 := Lx.own_below own1 hb3
              have HB3 := Lib.hid (Ba.chain HBX.out HBX.out.size hb3)
              have hsz3 := HB3.out.size
              have hlb3 : wr.heap.size < w3.heap.size := Nat.lt_of_lt_of_le hlb hb3.size
              go_wp2_with (first | (at_builtin; refine wpList_append_lies _ rfl _ _ _ rfl w.heap.size 49 i0 _ 4 40 Tryd.underlying36 hi0 hz0 hz1 hz2 rfl (by omega) u8 q _ rfl (own3.alloc _) ⟨w3.heap.size, 0, none⟩ 1 1 [.int .i64 2, .int .u8 (xk : Int), .string { data := #[] }, .int .i64 0] rfl rfl (World.news_of_block (cs := #[.int .i64 2, .int .u8 (xk : Int), .string { data := #[] }, .int .i64 0]) (t := 49) (fr := (0, 0)) (heap_alloc_new w3 _)) (by simp [Value.oneCell']) (by omega) (by unfold maxLen; omega) (by omega) (by simp; omega) (w3.heap.size + 1) (by simp) ?_; intro g1 cap1 w4 hown4 hgrow4 hat4 hlt4; have y4 := box_far hgrow4 hlb3 HNE.out y3; have hN4 : ∀ j, (Value.slice (some ⟨g1, 0, none⟩) (q + 1) cap1).ownBlock = some j → j ≠ wr.heap.size := fun j hj => own_ne hat4 hj HNE.out hlb3; have hB4 := (HB3.out.alloc hsz3 _).grown hgrow4 (by simp; omega) (fun j ej => (H8B.out j ej).1); have hL4 : wr.heap.size < w4.heap.size := Nat.lt_of_lt_of_le hlb3 (Nat.le_trans (by simp) hgrow4.size); have hG4 := hown4.lt; have hcap4 := own_cap hown4; have hM4 := Lib.hid ((HOM.out.alloc _).kept hgrow4 (.inr (fun e => by have := (H8B.out gm (by rw [← e]; rfl)).2; omega))); replace hown4 := Lib.hid hown4; have hsz4 := hB4.size; replace hB4 := Lib.hid hB4; replace hN4 := Lib.hid hN4; replace hG4 := Lib.hid hG4; clear hgrow4 hat4 hlt4) | (at_builtin; refine wpList_append_lies _ rfl _ _ _ rfl w.heap.size 49 i0 _ 4 40 Tryd.underlying36 hi0 hz0 hz1 hz2 rfl (by omega) (.slice (some ⟨g1, 0, none⟩) (q + 1) cap1) (q + 1) _ rfl hown4.out ⟨gm, 0, none⟩ r cm (Ba.rows Lx.cellsX M) rfl (by rw [Ba.rows_length Lx.cellsX cX_len', HR.out]) (own_news hM4.out) (cX_one M) (by omega) (by unfold maxLen; omega) (by omega) (by omega) w4.heap.size rfl ?_; intro g2 cap2 w5 hown5 hgrow5 hat5 hlt5; have y5 := box_far0 hgrow5 hL4 hN4.out y4; have hN5 : ∀ j, (Value.slice (some ⟨g2, 0, none⟩) (q + 1 + r) cap2).ownBlock = some j → j ≠ wr.heap.size := fun j hj => own_ne0 hat5 hj hN4.out hL4; have hB5 := hB4.out.grown hgrow5 hsz4 (fun j ej => (hG4.out j ej).1); have hL5 := Nat.lt_of_lt_of_le hL4 hgrow5.size; have hG5 := hown5.lt; replace hown5 := Lib.hid hown5; have hsz5 := hB5.size; replace hB5 := Lib.hid hB5; replace hN5 := Lib.hid hN5; replace hG5 := Lib.hid hG5; clear hgrow5 hat5 hlt5) | (at_builtin; refine wpList_append_lies _ rfl _ _ _ rfl w.heap.size 49 i0 _ 4 40 Tryd.underlying36 hi0 hz0 hz1 hz2 rfl (by omega) (.slice (some ⟨g2, 0, none⟩) (q + 1 + r) cap2) (q + 1 + r) _ rfl (hown5.out.alloc _) ⟨w5.heap.size, 0, none⟩ 1 1 [.int .i64 3, .int .u8 0, .string { data := #[] }, .int .i64 0] rfl rfl (World.news_of_block (cs := #[.int .i64 3, .int .u8 0, .string { data := #[] }, .int .i64 0]) (t := 49) (fr := (0, 0)) (heap_alloc_new w5 _)) (by simp [Value.oneCell']) (by omega) (by unfold maxLen; omega) (by omega) (by simp; omega) (w5.heap.size + 1) (by simp) ?_; intro g6 cap6 w6 hown6 hgrow6 hat6 hlt6; have y6 := box_far hgrow6 hL5 hN5.out y5; replace hown6 := Lib.hid hown6; have hB6 := Lib.hid ((hB5.out.alloc hsz5 _).grown hgrow6 (by simp; omega) (fun j ej => (hG5.out j ej).1)); clear hgrow6 hat6 hlt6))
              go_roundw
              case rel =>
                refine ⟨k + z, L0 ++ opL xk :: (M ++ [clL]), by go_num, by omega, by omega, HE2.out, ?_, fun h => by simp at h, ?_, hB6.out⟩
                · rw [HLN.out]; omega
                · rw [HLN.out, HRW.out]; exact hown6.out
              case measure => simp [intOf]; omega
      · obtain rfl : k = e := by omega
        have HF := Lib.hid (show EvTo t a k w (.returned (.tuple #[u8, .bool true])) wr by
          unfold EvTo
          rw [HEV.out, evA_end t k k (Nat.le_refl _)]
          refine ⟨⟨u8, rfl, fun h => HNL.out (by simpa using h), by simp; have := HQ.out; omega, ?_⟩, HB.out⟩
          simpa using HOW.out)
        go_wp2
        go_ret2
        exact HF.out
end Go.Proofs.YtfphbmboaefbiaaDoor.Tr
