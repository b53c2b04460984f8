/-
  Put together: CeE, CeF, CeG, CeH.
-/
import Derived.Test.YtalehelgemmmeaaGreatDoorEa
import Derived.Lib.ConvBytes
import Derived.Laws.IdiomStrings
namespace Go.Proofs.YtalehelgemmmeaaGreatDoor.Ce
open Go.RowKit

/-- The first byte that p does not let; the text's size: none. -/
def badAt (p : Nat → Bool) (s : ByteArray) : Nat := (List.range s.size).findIdx fun j => !p (bAt s j)
def allP (p : Nat → Bool) (s : ByteArray) (k : Nat) : Prop := ∀ j, j < k → p (bAt s j) = true
theorem allP.zero (p : Nat → Bool) (s : ByteArray) : allP p s 0 := fun _ h => absurd h (by omega)
theorem allP.succ {p : Nat → Bool} {s : ByteArray} {k : Nat} (h : allP p s k) (hp : p (bAt s k) = true) : allP p s (k + 1) := fun j hj => by
  rcases Nat.lt_or_ge j k with h1 | h1
  · exact h j h1
  · have e : j = k := by omega
    rw [e]; exact hp
theorem badAt_all {p : Nat → Bool} {s : ByteArray} (h : allP p s s.size) : badAt p s = s.size := by
  unfold badAt
  have : (List.range s.size).findIdx (fun j => !p (bAt s j)) = (List.range s.size).length := List.findIdx_eq_length.2 (fun x hx => by simp [h x (List.mem_range.1 hx)])
  rw [this, List.length_range]
theorem badAt_at {p : Nat → Bool} {s : ByteArray} {k : Nat} (h : allP p s k) (hk : k < s.size) (hp : p (bAt s k) = false) : badAt p s = k := by
  unfold badAt
  refine (List.findIdx_eq (by simpa using hk)).2 ⟨by simp [hp], fun j hj => ?_⟩
  simp [h j hj]
theorem badAt_le (p : Nat → Bool) (s : ByteArray) : badAt p s ≤ s.size := by
  unfold badAt
  have := List.findIdx_le_length (p := fun j => !p (bAt s j)) (xs := List.range s.size)
  simpa using this
theorem allP_of {p : Nat → Bool} {s : ByteArray} (h : badAt p s = s.size) : allP p s s.size := fun j hj => by
  unfold badAt at h
  have h1 : (List.range s.size).findIdx (fun j => !p (bAt s j)) = (List.range s.size).length := by rw [h, List.length_range]
  have := List.findIdx_eq_length.1 h1 j (List.mem_range.2 hj)
  simpa using this
/-- What has become of the first k bytes. -/
def mapK (g : Nat → Nat) (s : ByteArray) (k : Nat) : List Nat := (List.range k).map fun j => g (bAt s j)
def mapS (g : Nat → Nat) (s : ByteArray) : ByteArray := bytesOf (mapK g s s.size)
theorem mapK_succ (g : Nat → Nat) (s : ByteArray) (k : Nat) : mapK g s (k + 1) = mapK g s k ++ [g (bAt s k)] := by simp [mapK, List.range_succ]
theorem mapK_len (g : Nat → Nat) (s : ByteArray) (k : Nat) : (mapK g s k).length = k := by simp [mapK]
theorem mapK_lt (g : Nat → Nat) (hg : ∀ b, g b < 256) (s : ByteArray) (k : Nat) : ∀ x ∈ mapK g s k, x < 256 := by
  intro x hx
  simp only [mapK, List.mem_map] at hx
  obtain ⟨j, _, rfl⟩ := hx
  exact hg _
theorem mapS_size (g : Nat → Nat) (s : ByteArray) : (mapS g s).size = s.size := by unfold mapS; rw [bytesOf_size, mapK_len]
theorem ret3 {x y : ByteArray} {a b : Int} {u v : Bool} (h : x = y) (h' : a = b) (h2 : u = v) : Ending.returned (.tuple #[.string x, .int .i64 a, .bool u]) = .returned (.tuple #[.string y, .int .i64 b, .bool v]) := by rw [h, h', h2]
theorem signR_lt (b : Nat) : signR b < 256 := by
  unfold signR; split
  · rename_i h
    have := signN_lt ⟨b, by omega⟩
    simp only [] at this; omega
  · omega
theorem fromR_lt (b : Nat) : fromR b < 256 := by unfold fromR; split <;> omega


/-- After k rounds: the first k bytes have become what they become, the others stand as they stood. -/
def BecInv (g : Nat → Nat) (w : World) (s : ByteArray) (k : Nat) (wr : World) : Prop :=
  (∀ j, j < s.size → wr.cell? ⟨w.heap.size, j, none⟩ = some (.int .u8 (((if j < k then g (bAt s j) else bAt s j) : Nat) : Int))) ∧ (∀ j, j < s.size → wr.frozen? ⟨w.heap.size, j, none⟩ = false) ∧ Below w.heap.size w wr
theorem bAt_toList (s : ByteArray) (j : Nat) (hj : j < s.data.size) : ((s.data[j].toNat : Nat) : Int) = ((bAt s j : Nat) : Int) := by
  rw [← bAt_get s j hj]; rfl
theorem BecInv.zero (g : Nat → Nat) (w : World) (s : ByteArray) : BecInv g w s 0 (Lib.bytesWorld w 5 s) := by
  refine ⟨fun j hj => ?_, fun j hj => ?_, ?_⟩
  · rw [Lib.bytesWorld_cell w _ s j hj, if_neg (by omega)]
    have hl : j < s.data.toList.length := by simpa using hj
    simp only [bAt, bytesN, List.getD_eq_getElem?_getD, List.getElem?_map, List.getElem?_eq_getElem hl, Option.getD_some, Option.map_some]
  · have hs : s.size ≤ (Lib.bytesCells w 5 s).size := by simp [Lib.bytesCells]
    simp [World.frozen?, Lib.bytesWorld_at_new]
    omega
  · exact ⟨rfl, rfl, rfl, by rw [Lib.bytesWorld_size]; omega, fun k hk => Lib.bytesWorld_at_old w _ s k hk⟩
theorem BecInv.succ {g : Nat → Nat} {w : World} {s : ByteArray} {k : Nat} {wr : World} (h : BecInv g w s k wr) (hk : k < s.size) : BecInv g w s (k + 1) (wr.setCell ⟨w.heap.size, k, none⟩ (.int .u8 ((g (bAt s k) : Nat) : Int))) := by
  refine ⟨fun j hj => ?_, fun j hj => by rw [World.frozen?_setCell]; exact h.2.1 j hj, h.2.2.setCell (p := ⟨w.heap.size, k, none⟩) (Nat.le_refl _) _⟩
  by_cases e : j = k
  · subst e
    rw [if_pos (by omega)]
    exact World.cell?_setCell_same' _ _ _ (by rw [h.1 j hj]; rfl)
  · rw [World.cell?_setCell_other _ _ _ _ (fun he => e (by injection he with _ h2; exact h2.symm)), h.1 j hj]
    by_cases h1 : j < k
    · rw [if_pos h1, if_pos (by omega)]
    · rw [if_neg h1, if_neg (by omega)]
theorem back_of_bec {g : Nat → Nat} (hg : ∀ b, g b < 256) {w : World} {s : ByteArray} {wr : World} (hI : BecInv g w s s.size wr) (cap : Nat) :
    (convert 105 9 (.slice (some ⟨w.heap.size, 0, none⟩) s.size cap)).run Tryz.prog wr = .ok (.string (mapS g s)) wr := by
  have hback := run_convert_bytes_back (P := Tryz.prog) wr 105 9 5 ⟨w.heap.size, 0, none⟩ cap ((mapK g s s.size).map UInt8.ofNat) Tryz.underlying105 Tryz.underlying5 Tryz.underlying9 (fun j hj => by
    have hj' : j < s.size := by simpa [mapK_len] using hj
    have e : (⟨w.heap.size, 0, none⟩ : Addr).add j = ⟨w.heap.size, j, none⟩ := by unfold Addr.add; split <;> simp_all
    rw [e, hI.1 j hj', if_pos hj']
    have e3 : (UInt8.ofNat (g (bAt s j))).toNat = g (bAt s j) := by simp [Nat.mod_eq_of_lt (hg (bAt s j))]
    simp only [mapK, List.getElem_map, List.getElem_range, e3])
  rw [List.length_map, mapK_len] at hback
  exact hback


end Go.Proofs.YtalehelgemmmeaaGreatDoor.Ce
namespace Go.Proofs.YtalehelgemmmeaaGreatDoor.Ce
open Go.RowKit

def emptyS : ByteArray := ⟨#[]⟩
def signsV (s : ByteArray) : ByteArray := if badAt signB s = s.size then mapS signR s else emptyS
def signsE (s : ByteArray) : Int := if badAt signB s = s.size then 0 else 1
def cellsV (s : ByteArray) : ByteArray := if badAt fromB s = s.size then mapS fromR s else emptyS
def cellsAt (s : ByteArray) : Nat := if badAt fromB s = s.size then 0 else badAt fromB s
def cellsE (s : ByteArray) : Int := if badAt fromB s = s.size then 0 else 2
theorem ret_se {x y : ByteArray} {a b : Int} (h : x = y) (h' : a = b) : Ending.returned (.tuple #[.string x, .int .i64 a]) = .returned (.tuple #[.string y, .int .i64 b]) := by rw [h, h']
theorem ret_sie {x y : ByteArray} {a b c d : Int} (h : x = y) (h' : a = b) (h2 : c = d) : Ending.returned (.tuple #[.string x, .int .i64 a, .int .i64 c]) = .returned (.tuple #[.string y, .int .i64 b, .int .i64 d]) := by rw [h, h', h2]



/-- How many dots the first k bytes have. -/
def popK (s : ByteArray) : Nat → Nat
  | 0 => 0
  | k + 1 => popK s k + popN (bAt s k)
theorem popN_le (c : Nat) : popN c ≤ 6 := dotsN_len c 6
theorem popK_le (s : ByteArray) : ∀ k, popK s k ≤ 6 * k
  | 0 => Nat.le_refl _
  | k + 1 => by have := popK_le s k; have := popN_le (bAt s k); unfold popK; omega
def popS (s : ByteArray) : Nat := popK s s.size

end Go.Proofs.YtalehelgemmmeaaGreatDoor.Ce
namespace Go.Proofs.YtalehelgemmmeaaGreatDoor.Ce
open Go.RowKit
theorem bAt_idx (s : ByteArray) (k : Nat) (h : k < s.size) : ((s[k].toNat : Nat) : Int) = ((bAt s k : Nat) : Int) := by rw [bAt_get s k h]
theorem mapK_lt2 {g : Nat → Nat} (hg : ∀ b, g b < 256) (s : ByteArray) (k : Nat) : ∀ x ∈ mapK g s k, x < 256 := mapK_lt g hg s k



/-- Where the document's Of stands: the cell so far, and the last dot. -/
def LastD (c l : Nat) : Prop := l ≤ 6 ∧ c < 2 ^ l ∧ (l = 0 ∨ 2 ^ (l - 1) ≤ c)
theorem last_all : ∀ l : Fin 7, ∀ d : Fin 7, ∀ c : Fin 64, 1 ≤ d.val → LastD c.val l.val → (c.val < 2 ^ (d.val - 1) ↔ l.val < d.val) ∧ (l.val < d.val → LastD (c.val + 2 ^ (d.val - 1)) d.val) := by
  unfold LastD; decide +kernel
theorem bit_dig (b : Nat) (h1 : 49 ≤ b) (h2 : b ≤ 54) : bitN b = powN (b - 48) := by
  unfold bitN powN; rw [if_pos ⟨h1, h2⟩, show b - 48 - 1 = b - 49 from by omega]

set_option maxHeartbeats 4000000 in
/-- stylusref02.Of -/
theorem rof_any (s : ByteArray) (hs : s.size ≤ 70000) (w : World) :
    Calls Tryz.prog 72 #[.string s] w fun e w' => e = .returned (.tuple #[.int .u8 ((ofS s : Nat) : Int), .bool (ofB s)]) ∧ w = w' := by
  go_enter Tryz.func72, Tryz.ntmps72
  go_wp2
  go_loop [4, 5, 6] (fun u v i => ∃ k c l : Nat, k ≤ s.size ∧ i = .int .i64 k ∧ u = .int .i64 c ∧ v = .int .i64 l ∧ ofL ((bytesN s).take k) = some c ∧ LastD c l ∧ (k = 0 ∨ 1 ≤ l)) (fun _ _ i => s.size - (intOf i).toNat)
  case atStart => exact ⟨0, 0, 0, by omega, rfl, rfl, rfl, by simp [ofL], ⟨by omega, by decide, .inl rfl⟩, .inl rfl⟩
  case round =>
    obtain ⟨k, c, l, hk, rfl, rfl, rfl, hc, hL, hkl⟩ := hrel
    have hc64 := ofL_lt _ c hc
    have hl6 := hL.1
    by_cases hlt : k < s.size
    · have E1 := Lib.hid (bAt_idx s k hlt)
      have h256 := bAt_lt s k
      have hbb : c < bitN (bAt s k) → ofL ((bytesN s).take (k + 1)) = some (c + bitN (bAt s k)) := ofL_next s k c hlt hc
      have hno : ¬ c < bitN (bAt s k) → ofS s = 0 := fun h => ofS_fail s k c hlt hc h
      obtain ⟨b, hb⟩ : ∃ b, bAt s k = b := ⟨_, rfl⟩
      rw [hb] at h256 hbb hno E1
      clear hb hc
      have E2 := E1.out
      by_cases d1 : b < 49
      · have h0 := hno (by unfold bitN; rw [if_neg (by omega)]; omega)
        have HR := Lib.hid h0
        have HR2 := Lib.hid (show false = ofB s by unfold ofB; rw [HR.out]; rfl)
        have t1 : decide ((b : Int) - 48 < 1) = true := by simp; omega
        clear hno hbb h0
        go_wp2
        go_ret2
        exact ⟨ret_ib (by rw [HR.out]; rfl) HR2.out, rfl⟩
      · by_cases d2 : 54 < b
        · have h0 := hno (by unfold bitN; rw [if_neg (by omega)]; omega)
          have HR := Lib.hid h0
          have HR2 := Lib.hid (show false = ofB s by unfold ofB; rw [HR.out]; rfl)
          have t1 : decide ((b : Int) - 48 < 1) = false := by simp; omega
          have t2 : decide (6 < (b : Int) - 48) = true := by simp; omega
          clear hno hbb h0
          go_wp2
          go_ret2
          exact ⟨ret_ib (by rw [HR.out]; rfl) HR2.out, rfl⟩
        · obtain ⟨d, rfl⟩ : ∃ d, b = d + 48 := ⟨b - 48, by omega⟩
          have hbit := bit_dig (d + 48) (by omega) (by omega)
          rw [Nat.add_sub_cancel] at hbit
          have hla := last_all ⟨l, by omega⟩ ⟨d, by omega⟩ ⟨c, hc64⟩ (show 1 ≤ d by omega) hL
          simp only [] at hla
          have hpw : 2 ^ (d - 1) = bitN (d + 48) := by rw [hbit]; rfl
          rw [hpw] at hla
          obtain ⟨q, hq⟩ : ∃ q, bitN (d + 48) = q := ⟨_, rfl⟩
          have hq32 := bitN_le (d + 48)
          rw [hq] at hla hbb hno hbit hq32
          have HW := Lib.hid hbit
          have e2 : (((s[k]'hlt).toNat : Nat) : Int) = (d : Int) + 48 := by rw [E1.out]; omega
          have g1 : 1 ≤ d := by omega
          have g6 : d ≤ 6 := by omega
          clear E2 hbit hpw hq d1 d2 h256
          by_cases hlt2 : l < d
          · have HN := Lib.hid (hbb (hla.1.2 hlt2))
            have HL2 := hla.2 hlt2
            have hc2 := ofL_lt _ _ HN.out
            clear hbb hno hla
            go_wp2_with (go_at_call 84; refine ((weight_any d g1 g6 _).mono (fun _ _ h => (HW.out ▸ h))).mono ?_; rintro e w' ⟨rfl, rfl⟩)
            exact ⟨⟨k + 1, c + q, d, by omega, by go_num, by go_num, rfl, HN.out, HL2, .inr g1⟩, by simp [intOf]; omega⟩
          · have HR := Lib.hid (hno (fun h => hlt2 (hla.1.1 h)))
            have HR2 := Lib.hid (show false = ofB s by unfold ofB; rw [HR.out]; rfl)
            have hdl : d ≤ l := by omega
            clear hbb hno hla hlt2
            go_wp2
            go_ret2
            exact ⟨ret_ib (by rw [HR.out]; rfl) HR2.out, rfl⟩
    · obtain rfl : k = s.size := by omega
      have HR := Lib.hid (ofS_end s c hc)
      clear hc
      by_cases hz : s.size = 0
      · have hc0 : c = 0 := by
          have := HR.out
          unfold ofS ofN ofL at this
          rw [List.eq_nil_of_length_eq_zero (show (bytesN s).length = 0 by rw [bytesN_len]; exact hz)] at this
          simpa using this.symm
        have HR2 := Lib.hid (show false = ofB s by unfold ofB; rw [HR.out, hc0]; rfl)
        have hz2 : decide (0 < s.size) = false := decide_eq_false (by omega)
        have hZ := Lib.hid hz
        clear hz hc0
        go_wp2
        go_ret2
        exact ⟨ret_ib (by rw [HR.out]) (by rw [← HR2.out]), rfl⟩
      · have hl1 : 1 ≤ l := by omega
        have hc1 : c ≠ 0 := by
          have h3 := hL.2.2
          have := Nat.one_le_two_pow (n := l - 1)
          omega
        have HR2 := Lib.hid (show true = ofB s by unfold ofB; rw [HR.out]; simp [hc1])
        have hz2 : decide (0 < s.size) = true := decide_eq_true (by omega)
        clear hz hc1
        go_wp2
        go_ret2
        exact ⟨ret_ib (by rw [HR.out]) (by rw [← HR2.out]), rfl⟩
end Go.Proofs.YtalehelgemmmeaaGreatDoor.Ce
namespace Go.Proofs.YtalehelgemmmeaaGreatDoor.Ce
open Go.RowKit

theorem bytesOf_append (a b : List Nat) : bytesOf (a ++ b) = bytesOf a ++ bytesOf b := by
  apply ByteArray.ext
  simp [bytesOf]
theorem bytesOf_one (x : Nat) : bytesOf [x] = { data := #[UInt8.ofNat x] } := rfl
/-- One fresh cell, turned into a string. -/
theorem back_of_one (wr : World) (x : Nat) (hx : x < 256) (v : Int) (hv : v = (x : Int)) :
    (convert 105 9 (.slice (some ⟨wr.heap.size, 0, none⟩) 1 1)).run Tryz.prog (wr.alloc (.cells #[.int .u8 v] 5)) = .ok (.string (bytesOf [x])) (wr.alloc (.cells #[.int .u8 v] 5)) := by
  have hback := run_convert_bytes_back (P := Tryz.prog) (wr.alloc (.cells #[.int .u8 v] 5)) 105 9 5 ⟨wr.heap.size, 0, none⟩ 1 [UInt8.ofNat x] Tryz.underlying105 Tryz.underlying5 Tryz.underlying9 (fun j hj => by
    obtain rfl : j = 0 := by simp at hj; omega
    have e : (⟨wr.heap.size, 0, none⟩ : Addr).add 0 = ⟨wr.heap.size, 0, none⟩ := by unfold Addr.add; split <;> simp_all
    have e3 : (UInt8.ofNat x).toNat = x := by simp [Nat.mod_eq_of_lt hx]
    rw [e]
    simp only [List.getElem_cons_zero, e3, hv]
    simp)
  exact hback


theorem dotsS_size (c : Nat) : (dotsS c).size = popN c := by unfold dotsS popN; rw [bytesOf_size]

end Go.Proofs.YtalehelgemmmeaaGreatDoor.Ce
