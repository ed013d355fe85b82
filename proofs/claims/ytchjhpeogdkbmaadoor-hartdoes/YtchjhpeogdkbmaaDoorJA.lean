/-
  What the document's Field answers, whatever word, place and number of bits is handed in.
-/
import Derived.Test.YtchjhpeogdkbmaaDoorBase
namespace Go.Proofs.YtchjhpeogdkbmaaDoor
open Go.RowKit
set_option linter.unusedVariables false

theorem div_step (v k : Nat) : v / 2 ^ k / 2 = v / 2 ^ (k + 1) := by rw [Nat.div_div_eq_div_mul, ← Nat.pow_succ]

set_option maxHeartbeats 400000 in
theorem bit_any (v : Nat) (hv : v < 4294967296) (a : Int) (w : World) :
    Calls Tryd.prog 39 #[.int .u32 v, .int .i64 a] w fun e w' => e = .returned (.int .i64 (bitN v a)) ∧ w' = w := by
  by_cases h : 0 ≤ a ∧ a ≤ 31
  · obtain ⟨h1, h2⟩ := h
    obtain ⟨n, rfl⟩ := Int.eq_ofNat_of_zero_le h1
    have hn : n ≤ 31 := by omega
    have hb : bitN v n = v / 2 ^ n % 2 := by unfold bitN; rw [if_pos (by omega)]; simp
    rw [hb]
    clear hb
    go_enter Tryd.func39, Tryd.ntmps39
    go_wp2
    go_loop [0, 5] (fun x i => ∃ k : Nat, k ≤ n ∧ i = .int .i64 k ∧ x = .int .u32 (v / 2 ^ k : Nat)) (fun _ i => n - (intOf i).toNat)
    case atStart => exact ⟨0, Nat.zero_le _, rfl, by simp⟩
    case round =>
      obtain ⟨k, hk, rfl, rfl⟩ := hrel
      have hd : v / 2 ^ k ≤ v := Nat.div_le_self _ _
      by_cases hlt : k < n
      · have hs := div_step v k
        have HS : Hid (v / 2 ^ k / 2 = v / 2 ^ (k + 1)) := hs
        clear hs
        generalize v / 2 ^ k = q at *
        go_wp2
        go_round
        case rel => exact ⟨k + 1, by omega, by go_num, by rw [← HS.out]; go_num⟩
        case measure => simp [intOf]; omega
      · obtain rfl : k = n := by omega
        generalize hq : v / 2 ^ k = q at *
        have HR : Hid ((q : Int) = (v : Int) / 2 ^ k) := by show _ = _; rw [← hq]; simp
        clear hq
        go_wp2
        go_ret
        exact ⟨ret_int (by rw [HR.out]), rfl⟩
  · have hb : bitN v a = 0 := by unfold bitN; rw [if_neg h]
    rw [hb]
    clear hb
    by_cases h0 : a < 0
    · go_enter Tryd.func39, Tryd.ntmps39
      go_wp2
      go_ret
      exact ⟨rfl, rfl⟩
    · have h31 : 31 < a := by omega
      go_enter Tryd.func39, Tryd.ntmps39
      go_wp2
      go_ret
      exact ⟨rfl, rfl⟩

end Go.Proofs.YtchjhpeogdkbmaaDoor
namespace Go.Proofs.YtchjhpeogdkbmaaDoor
open Go.RowKit
set_option linter.unusedVariables false

/-- The cells of thirty-two numbers, of which the first k are f's, the others 0. -/
def rowOf (f : Nat → Nat) (k : Nat) : Array Value := ((List.range 32).map fun j => Value.int .i64 ((if j < k then f j else 0 : Nat) : Int)).toArray

theorem rowOf_size (f : Nat → Nat) (k : Nat) : (rowOf f k).size = 32 := by simp [rowOf]

theorem rowOf_at (f : Nat → Nat) (k j : Nat) (h : j < 32) : (rowOf f k)[j]? = some (.int .i64 ((if j < k then f j else 0 : Nat) : Int)) := by
  simp [rowOf, h]

theorem rowOf_set (f : Nat → Nat) (k : Nat) (h : k < 32) : (rowOf f k).setIfInBounds k (.int .i64 (f k)) = rowOf f (k + 1) := by
  apply Array.ext
  · simp [rowOf]
  · intro i h1 h2
    by_cases e : i = k
    · subst e; simp [rowOf]
    · have h1' : i < 32 := by simpa [rowOf] using h1
      rw [Array.getElem_setIfInBounds_ne (by simpa [rowOf] using h1) (fun x => e x.symm)]
      simp only [rowOf, List.getElem_toArray, List.getElem_map, List.getElem_range]
      by_cases hk : i < k
      · simp [hk, show i < k + 1 by omega]
      · simp [hk, show ¬ i < k + 1 by omega]

theorem rowOf_zero (f : Nat → Nat) : rowOf f 0 = (List.replicate 32 (Value.int .i64 0)).toArray := by
  simp [rowOf, List.range_succ]

/-- One block more, or two, and nothing else. -/
def Own1 (w w' : World) : Prop := ∃ o, w' = w.alloc o
def Own2 (w w' : World) : Prop := ∃ o o', w' = (w.alloc o).alloc o'
theorem Own1.bel {w w' : World} (h : Own1 w w') : Below w.heap.size w w' := by
  obtain ⟨o, rfl⟩ := h
  exact (Below.refl _ w).alloc (Nat.le_refl _) _
theorem Own2.bel {w w' : World} (h : Own2 w w') : Below w.heap.size w w' := by
  obtain ⟨o, o', rfl⟩ := h
  exact ((Below.refl _ w).alloc (Nat.le_refl _) _).alloc (by simp) _
theorem Own1.setCell {w wr : World} (h : Own1 w wr) {p : Addr} (hp : p.block = w.heap.size) (u : Value) : Own1 w (wr.setCell p u) := by
  obtain ⟨o, rfl⟩ := h
  refine ⟨((fun | .cells c elem frozen => .cells (if p.spot.isSome then c else c.setIfInBounds p.off u) elem frozen | o => o) : Obj → Obj) o, ?_⟩
  unfold World.setCell World.alloc
  congr 1
  apply Array.ext_getElem?
  intro k
  rw [Array.getElem?_modify, hp]
  by_cases hk : w.heap.size = k
  · subst hk
    simp
    cases o <;> rfl
  · have hk' : k ≠ w.heap.size := fun e => hk e.symm
    simp [hk, hk', Array.getElem?_push]
theorem Own1.two {w a b : World} (h : Own1 w a) (k : Own1 a b) : Own2 w b := by
  obtain ⟨o, rfl⟩ := h
  obtain ⟨p, rfl⟩ := k
  exact ⟨o, p, rfl⟩

set_option maxHeartbeats 1000000 in
set_option maxRecDepth 100000 in
theorem from_ex (f : Nat → Nat) (hf : ∀ j, f j ≤ 1) (w : World) :
    Calls Tryd.prog 104 #[.agg (rowOf f 32)] w fun e w' => e = .returned (.int .u32 (num f 32 : Nat)) ∧ Own1 w w' := by
  generalize hW : w.alloc (.cells (rowOf f 32) 172) = W
  have hcell : ∀ j, j < 32 → W.cell? ⟨w.heap.size, j, none⟩ = some (.int .i64 (f j : Nat)) := by
    intro j hj
    rw [← hW, cell_of_row _ _ _ _ _ (0, 0) (heap_alloc_new w _), rowOf_at f 32 j hj]
    simp [hj]
  have hbel : Own1 w W := ⟨_, hW.symm⟩
  go_enter Tryd.func104, Tryd.ntmps104
  generalize hr : rowOf f 32 = cs at *
  go_wp2
  go_loop [3, 4] (fun x i => ∃ k : Nat, k ≤ 32 ∧ i = .int .i64 ((k : Int) - 1) ∧ x = .int .u32 (num (fun j => f (j + k)) (32 - k) : Nat)) (fun _ i => (intOf i + 1).toNat)
  case atStart => exact ⟨32, Nat.le_refl _, by rfl, by rfl⟩
  case round =>
    obtain ⟨k, hk, rfl, rfl⟩ := hrel
    cases k with
    | zero =>
      go_wp2
      go_ret
      exact ⟨rfl, hbel⟩
    | succ k =>
      have hx := hf k
      have hc := hcell k (by omega)
      have hnum := num_low (fun j => f (j + k)) (32 - (k + 1))
      have hlt := num_lt (fun j => f (j + (k + 1))) (fun j => hf _) (32 - (k + 1))
      have hle : 2 ^ (32 - (k + 1)) ≤ 2 ^ 31 := Nat.pow_le_pow_right (by decide) (by omega)
      have e1 : 32 - (k + 1) + 1 = 32 - k := by omega
      have e2 : (fun j => f (j + 1 + k)) = fun j => f (j + (k + 1)) := by funext j; congr 1; omega
      simp only [Nat.zero_add, e1, e2] at hnum
      have HN : Hid (num (fun j => f (j + k)) (32 - k) = f k + 2 * num (fun j => f (j + (k + 1))) (32 - (k + 1))) := hnum
      have hb : num (fun j => f (j + (k + 1))) (32 - (k + 1)) ≤ 2147483647 := by omega
      clear hnum hlt hle e1 e2 hf hcell
      generalize num (fun j => f (j + (k + 1))) (32 - (k + 1)) = q at *
      generalize f k = x at *
      go_wp2
      go_round
      case rel => exact ⟨k, by omega, by go_num, by rw [HN.out]; go_num⟩
      case measure => simp [intOf]
theorem from_any (f : Nat → Nat) (hf : ∀ j, f j ≤ 1) (w : World) :
    Calls Tryd.prog 104 #[.agg (rowOf f 32)] w fun e w' => e = .returned (.int .u32 (num f 32 : Nat)) ∧ Below w.heap.size w w' :=
  (from_ex f hf w).mono fun _ _ ⟨he, h⟩ => ⟨he, h.bel⟩
end Go.Proofs.YtchjhpeogdkbmaaDoor
namespace Go.Proofs.YtchjhpeogdkbmaaDoor
open Go.RowKit

/-- Block b holds the row of f as far as k. -/
def Holds32 (W : World) (b : Nat) (f : Nat → Nat) (k : Nat) : Prop := W.heap[b]? = some (.cells (rowOf f k) 172 (0, 0))

theorem Holds32.cell {W : World} {b : Nat} {f : Nat → Nat} {k : Nat} (h : Holds32 W b f k) (j : Nat) (hj : j < 32) :
    W.cell? ⟨b, j, none⟩ = some (.int .i64 ((if j < k then f j else 0 : Nat) : Int)) := by
  rw [cell_of_row _ _ _ _ _ (0, 0) h, rowOf_at f k j hj]

theorem Holds32.here {W : World} {b : Nat} {f : Nat → Nat} {k : Nat} (h : Holds32 W b f k) (hk : k < 32) :
    W.cell? ⟨b, k, none⟩ = some (.int .i64 0) := by
  rw [h.cell k hk]; simp

theorem Holds32.thaw {W : World} {b : Nat} {f : Nat → Nat} {k : Nat} (h : Holds32 W b f k) (j : Nat) : W.frozen? ⟨b, j, none⟩ = false :=
  frozen_of_row W b j _ _ h

theorem Holds32.put {W : World} {b : Nat} {f : Nat → Nat} {k : Nat} (h : Holds32 W b f k) (hk : k < 32) :
    Holds32 (W.setCell ⟨b, k, none⟩ (.int .i64 (f k : Nat))) b f (k + 1) := by
  unfold Holds32
  rw [heap_setCell_same W b k _ _ _ h, rowOf_set f k hk]

theorem Holds32.new (w : World) (f : Nat → Nat) : Holds32 (w.alloc (.cells (List.replicate 32 (Value.int .i64 0)).toArray 172)) w.heap.size f 0 := by
  unfold Holds32
  rw [rowOf_zero, heap_alloc_new]

theorem Holds32.put2 {W : World} {b : Nat} {f : Nat → Nat} {k : Nat} (h : Holds32 W b f k) (hk : k < 32) (u : Value) :
    Holds32 ((W.setCell ⟨b, k, none⟩ u).setCell ⟨b, k, none⟩ (.int .i64 (f k : Nat))) b f (k + 1) := by
  unfold Holds32
  rw [heap_setCell_same _ b k _ _ _ (heap_setCell_same W b k _ _ _ h), Array.setIfInBounds_setIfInBounds, rowOf_set f k hk]

set_option maxHeartbeats 1000000 in
set_option maxRecDepth 100000 in
theorem refset_ex (v : Nat) (hv : v < 4294967296) (lo n : Int) (hlo : -9223372036854775808 ≤ lo) (hn : n ≤ 9223372036854775807) (x : Nat) (hx : x < 4294967296) (w : World) :
    Calls Tryd.prog 90 #[.int .u32 v, .int .i64 lo, .int .i64 n, .int .u32 x] w fun e w' => e = .returned (.int .u32 (num (setBit v lo n x) 32 : Nat)) ∧ Own2 w w' := by
  have hnew := Holds32.new w (setBit v lo n x)
  have hz : (List.replicate 32 (Value.int .i64 0)).toArray = #[Value.int .i64 0, .int .i64 0, .int .i64 0, .int .i64 0, .int .i64 0, .int .i64 0, .int .i64 0, .int .i64 0, .int .i64 0, .int .i64 0, .int .i64 0, .int .i64 0, .int .i64 0, .int .i64 0, .int .i64 0, .int .i64 0, .int .i64 0, .int .i64 0, .int .i64 0, .int .i64 0, .int .i64 0, .int .i64 0, .int .i64 0, .int .i64 0, .int .i64 0, .int .i64 0, .int .i64 0, .int .i64 0, .int .i64 0, .int .i64 0, .int .i64 0, .int .i64 0] := by rfl
  rw [hz] at hnew
  clear hz
  have hbel : Own1 w (w.alloc (.cells #[Value.int .i64 0, .int .i64 0, .int .i64 0, .int .i64 0, .int .i64 0, .int .i64 0, .int .i64 0, .int .i64 0, .int .i64 0, .int .i64 0, .int .i64 0, .int .i64 0, .int .i64 0, .int .i64 0, .int .i64 0, .int .i64 0, .int .i64 0, .int .i64 0, .int .i64 0, .int .i64 0, .int .i64 0, .int .i64 0, .int .i64 0, .int .i64 0, .int .i64 0, .int .i64 0, .int .i64 0, .int .i64 0, .int .i64 0, .int .i64 0, .int .i64 0, .int .i64 0] 172)) := ⟨_, rfl⟩
  go_enter Tryd.func90, Tryd.ntmps90
  go_wp2
  go_loopw [10] (fun i wr => ∃ k : Nat, k ≤ 32 ∧ i = .int .i64 k ∧ Holds32 wr w.heap.size (setBit v lo n x) k ∧ Own1 w wr) (fun i _ => 32 - (intOf i).toNat)
  case atStart => exact ⟨0, Nat.zero_le _, rfl, hnew, hbel⟩
  case round =>
    obtain ⟨k, hk, rfl, hH, hB⟩ := hrel
    clear hnew hbel
    by_cases hlt : k < 32
    · have hc := hH.here hlt
      have hf := hH.thaw k
      have hone : setBit v lo n x k = bitN v (k : Int) → Holds32 (wr.setCell ⟨w.heap.size, k, none⟩ (.int .i64 (bitN v (k : Int) : Nat))) w.heap.size (setBit v lo n x) (k + 1) := fun h => by rw [← h]; exact hH.put hlt
      have htwo : ∀ (y : Nat), setBit v lo n x k = y → ∀ u, Holds32 ((wr.setCell ⟨w.heap.size, k, none⟩ u).setCell ⟨w.heap.size, k, none⟩ (.int .i64 (y : Nat))) w.heap.size (setBit v lo n x) (k + 1) := fun y h u => by rw [← h]; exact hH.put2 hlt u
      have H1 : Hid (_) := hone
      have H2 : Hid (_) := htwo
      clear hone htwo
      by_cases c1 : lo ≤ (k : Int)
      · by_cases c2 : -1000 < lo
        · by_cases c3 : (k : Int) - lo < n
          · have hs : setBit v lo n x k = bitN x ((k : Int) - lo) := by unfold setBit; rw [if_neg (by omega), if_pos (by omega)]
            have H3 : Hid (_) := H2.out _ hs
            clear hs H1 H2
            by_cases c4 : 0 ≤ lo
            · go_wp2_with (go_at_call 39; refine (bit_any _ (by assumption) _ _).mono ?_; rintro e w' ⟨rfl, rfl⟩)
              go_roundw
              case rel => exact ⟨k + 1, by omega, by go_num, H3.out _, (hB.setCell (p := ⟨w.heap.size, k, none⟩) rfl _).setCell (p := ⟨w.heap.size, k, none⟩) rfl _⟩
              case measure => simp [intOf]; omega
            · go_wp2_with (go_at_call 39; refine (bit_any _ (by assumption) _ _).mono ?_; rintro e w' ⟨rfl, rfl⟩)
              go_roundw
              case rel => exact ⟨k + 1, by omega, by go_num, H3.out _, (hB.setCell (p := ⟨w.heap.size, k, none⟩) rfl _).setCell (p := ⟨w.heap.size, k, none⟩) rfl _⟩
              case measure => simp [intOf]; omega
          · have hs : setBit v lo n x k = bitN v (k : Int) := by unfold setBit; rw [if_neg (by omega), if_neg (by omega)]
            have H3 : Hid (_) := H1.out hs
            clear hs H1 H2
            by_cases c4 : 0 ≤ lo
            · go_wp2_with (go_at_call 39; refine (bit_any _ (by assumption) _ _).mono ?_; rintro e w' ⟨rfl, rfl⟩)
              go_roundw
              case rel => exact ⟨k + 1, by omega, by go_num, H3.out, hB.setCell (p := ⟨w.heap.size, k, none⟩) rfl _⟩
              case measure => simp [intOf]; omega
            · go_wp2_with (go_at_call 39; refine (bit_any _ (by assumption) _ _).mono ?_; rintro e w' ⟨rfl, rfl⟩)
              go_roundw
              case rel => exact ⟨k + 1, by omega, by go_num, H3.out, hB.setCell (p := ⟨w.heap.size, k, none⟩) rfl _⟩
              case measure => simp [intOf]; omega
        · have c2' : lo ≤ -1000 := by omega
          clear c2
          by_cases c3 : 0 < n
          · by_cases c4 : (k : Int) < n + lo
            · have hs : setBit v lo n x k = 0 := by unfold setBit; rw [if_pos (by omega)]
              have H3 : Hid (_) := H2.out _ hs
              clear hs H1 H2
              go_wp2_with (go_at_call 39; refine (bit_any _ (by assumption) _ _).mono ?_; rintro e w' ⟨rfl, rfl⟩)
              go_roundw
              case rel => exact ⟨k + 1, by omega, by go_num, H3.out _, (hB.setCell (p := ⟨w.heap.size, k, none⟩) rfl _).setCell (p := ⟨w.heap.size, k, none⟩) rfl _⟩
              case measure => simp [intOf]; omega
            · have hs : setBit v lo n x k = bitN v (k : Int) := by unfold setBit; rw [if_neg (by omega), if_neg (by omega)]
              have H3 : Hid (_) := H1.out hs
              clear hs H1 H2
              go_wp2_with (go_at_call 39; refine (bit_any _ (by assumption) _ _).mono ?_; rintro e w' ⟨rfl, rfl⟩)
              go_roundw
              case rel => exact ⟨k + 1, by omega, by go_num, H3.out, hB.setCell (p := ⟨w.heap.size, k, none⟩) rfl _⟩
              case measure => simp [intOf]; omega
          · have hs : setBit v lo n x k = bitN v (k : Int) := by unfold setBit; rw [if_neg (by omega), if_neg (by omega)]
            have H3 : Hid (_) := H1.out hs
            clear hs H1 H2
            go_wp2_with (go_at_call 39; refine (bit_any _ (by assumption) _ _).mono ?_; rintro e w' ⟨rfl, rfl⟩)
            go_roundw
            case rel => exact ⟨k + 1, by omega, by go_num, H3.out, hB.setCell (p := ⟨w.heap.size, k, none⟩) rfl _⟩
            case measure => simp [intOf]; omega
      · have hs : setBit v lo n x k = bitN v (k : Int) := by unfold setBit; rw [if_neg (by omega), if_neg (by omega)]
        have H3 : Hid (_) := H1.out hs
        clear hs H1 H2
        go_wp2_with (go_at_call 39; refine (bit_any _ (by assumption) _ _).mono ?_; rintro e w' ⟨rfl, rfl⟩)
        go_roundw
        case rel => exact ⟨k + 1, by omega, by go_num, H3.out, hB.setCell (p := ⟨w.heap.size, k, none⟩) rfl _⟩
        case measure => simp [intOf]; omega
    · obtain rfl : k = 32 := by omega
      have hrow : wr.heap[w.heap.size]? = some (.cells (rowOf (setBit v lo n x) 32) 172 (0, 0)) := hH
      clear hH
      go_wp2_with (first | (refine wpList_load_row rfl 172 _ rfl w.heap.size rfl 172 (rowOf (setBit v lo n x) 32) (0, 0) _ hrow Tryd.underlying172 rfl (by rw [rowOf_size]; kernel_rfl) ?_) | (go_at_call 104; refine (from_ex (setBit v lo n x) (setBit_le v lo n x) _).mono ?_; rintro e w' ⟨rfl, hb2⟩))
      go_ret
      exact ⟨rfl, hB.two hb2⟩
theorem refset_any (v : Nat) (hv : v < 4294967296) (lo n : Int) (hlo : -9223372036854775808 ≤ lo) (hn : n ≤ 9223372036854775807) (x : Nat) (hx : x < 4294967296) (w : World) :
    Calls Tryd.prog 90 #[.int .u32 v, .int .i64 lo, .int .i64 n, .int .u32 x] w fun e w' => e = .returned (.int .u32 (num (setBit v lo n x) 32 : Nat)) ∧ Below w.heap.size w w' :=
  (refset_ex v hv lo n hlo hn x hx w).mono fun _ _ ⟨he, h⟩ => ⟨he, h.bel⟩
end Go.Proofs.YtchjhpeogdkbmaaDoor
namespace Go.Proofs.YtchjhpeogdkbmaaDoor
open Go.RowKit

def fieldN (v : Nat) (lo n : Int) (i : Nat) : Nat := if (i : Int) < n ∧ -31 ≤ lo ∧ lo ≤ 31 then bitN v (lo + i) else 0
theorem fieldN_le (v : Nat) (lo n : Int) (i : Nat) : fieldN v lo n i ≤ 1 := by
  unfold fieldN; split
  · exact bitN_le _ _
  · omega

/-- A row whose next number is 0 stands as far as the next one. -/
theorem Holds32.skip {W : World} {b : Nat} {f : Nat → Nat} {k : Nat} (h : Holds32 W b f k) (h0 : f k = 0) : Holds32 W b f (k + 1) := by
  have e : rowOf f k = rowOf f (k + 1) := by
    apply Array.ext
    · simp [rowOf]
    · intro i h1 h2
      simp only [rowOf, List.getElem_toArray, List.getElem_map, List.getElem_range]
      by_cases hi : i = k
      · subst hi; simp [h0]
      · by_cases hk : i < k
        · simp [hk, show i < k + 1 by omega]
        · simp [hk, show ¬ i < k + 1 by omega]
  unfold Holds32 at *
  rw [← e]; exact h

theorem Holds32.rest {W : World} {b : Nat} {f : Nat → Nat} {k : Nat} (h : Holds32 W b f k) (h0 : ∀ j, k ≤ j → f j = 0) : ∀ m, Holds32 W b f (k + m)
  | 0 => h
  | m + 1 => (Holds32.rest h h0 m).skip (h0 _ (by omega))

set_option maxHeartbeats 1000000 in
set_option maxRecDepth 100000 in
theorem reffield_ex (v : Nat) (hv : v < 4294967296) (lo n : Int) (w : World) :
    Calls Tryd.prog 91 #[.int .u32 v, .int .i64 lo, .int .i64 n] w fun e w' => e = .returned (.int .u32 (num (fieldN v lo n) 32 : Nat)) ∧ Own2 w w' := by
  have hnew := Holds32.new w (fieldN v lo n)
  have hz : (List.replicate 32 (Value.int .i64 0)).toArray = #[Value.int .i64 0, .int .i64 0, .int .i64 0, .int .i64 0, .int .i64 0, .int .i64 0, .int .i64 0, .int .i64 0, .int .i64 0, .int .i64 0, .int .i64 0, .int .i64 0, .int .i64 0, .int .i64 0, .int .i64 0, .int .i64 0, .int .i64 0, .int .i64 0, .int .i64 0, .int .i64 0, .int .i64 0, .int .i64 0, .int .i64 0, .int .i64 0, .int .i64 0, .int .i64 0, .int .i64 0, .int .i64 0, .int .i64 0, .int .i64 0, .int .i64 0, .int .i64 0] := by rfl
  rw [hz] at hnew
  clear hz
  have hbel : Own1 w (w.alloc (.cells #[Value.int .i64 0, .int .i64 0, .int .i64 0, .int .i64 0, .int .i64 0, .int .i64 0, .int .i64 0, .int .i64 0, .int .i64 0, .int .i64 0, .int .i64 0, .int .i64 0, .int .i64 0, .int .i64 0, .int .i64 0, .int .i64 0, .int .i64 0, .int .i64 0, .int .i64 0, .int .i64 0, .int .i64 0, .int .i64 0, .int .i64 0, .int .i64 0, .int .i64 0, .int .i64 0, .int .i64 0, .int .i64 0, .int .i64 0, .int .i64 0, .int .i64 0, .int .i64 0] 172)) := ⟨_, rfl⟩
  go_enter Tryd.func91, Tryd.ntmps91
  go_wp2
  go_loopw [8] (fun i wr => ∃ k : Nat, k ≤ 32 ∧ i = .int .i64 k ∧ Holds32 wr w.heap.size (fieldN v lo n) k ∧ Own1 w wr) (fun i _ => 32 - (intOf i).toNat)
  case atStart => exact ⟨0, Nat.zero_le _, rfl, hnew, hbel⟩
  case round =>
    obtain ⟨k, hk, rfl, hH, hB⟩ := hrel
    clear hnew hbel
    by_cases hlt : k < 32 ∧ (k : Int) < n
    · obtain ⟨hl1, hl2⟩ := hlt
      by_cases hin : -31 ≤ lo ∧ lo ≤ 31
      · obtain ⟨hi1, hi2⟩ := hin
        have hc := hH.here hl1
        have hf := hH.thaw k
        have em : Hid (bitN v (lo + (k : Int)) = fieldN v lo n k) := by show _ = _; unfold fieldN; rw [if_pos ⟨hl2, hi1, hi2⟩]
        go_wp2_with (go_at_call 39; refine (bit_any v hv _ _).mono ?_; rintro e w' ⟨rfl, rfl⟩)
        rw [em.out]
        go_roundw
        case rel => exact ⟨k + 1, by omega, by go_num, hH.put hl1, hB.setCell (p := ⟨w.heap.size, k, none⟩) rfl _⟩
        case measure => simp [intOf]; omega
      · have h0 : fieldN v lo n k = 0 := by unfold fieldN; rw [if_neg (by omega)]
        have hH' := hH.skip h0
        clear h0 hH
        by_cases hi1 : -31 ≤ lo
        · have hi2 : 31 < lo := by omega
          clear hin
          go_wp2
          go_roundw
          case rel => exact ⟨k + 1, by omega, by go_num, hH', hB⟩
          case measure => simp [intOf]; omega
        · clear hin
          go_wp2
          go_roundw
          case rel => exact ⟨k + 1, by omega, by go_num, hH', hB⟩
          case measure => simp [intOf]; omega
    · have hH32 : Holds32 wr w.heap.size (fieldN v lo n) 32 := by
        by_cases h : k = 32
        · subst h; exact hH
        · have := hH.rest (fun j hj => by unfold fieldN; rw [if_neg (by omega)]) (32 - k)
          rwa [show k + (32 - k) = 32 by omega] at this
      have hrow : wr.heap[w.heap.size]? = some (.cells (rowOf (fieldN v lo n) 32) 172 (0, 0)) := hH32
      clear hH hH32
      by_cases h32 : k < 32
      · have hn : n ≤ (k : Int) := by omega
        clear hlt
        go_wp2_with (first | (refine wpList_load_row rfl 172 _ rfl w.heap.size rfl 172 (rowOf (fieldN v lo n) 32) (0, 0) _ hrow Tryd.underlying172 rfl (by rw [rowOf_size]; kernel_rfl) ?_) | (go_at_call 104; refine (from_ex (fieldN v lo n) (fieldN_le v lo n) _).mono ?_; rintro e w' ⟨rfl, hb2⟩))
        go_ret
        exact ⟨rfl, hB.two hb2⟩
      · have h32' : 32 ≤ k := by omega
        clear hlt
        go_wp2_with (first | (refine wpList_load_row rfl 172 _ rfl w.heap.size rfl 172 (rowOf (fieldN v lo n) 32) (0, 0) _ hrow Tryd.underlying172 rfl (by rw [rowOf_size]; kernel_rfl) ?_) | (go_at_call 104; refine (from_ex (fieldN v lo n) (fieldN_le v lo n) _).mono ?_; rintro e w' ⟨rfl, hb2⟩))
        go_ret
        exact ⟨rfl, hB.two hb2⟩
theorem reffield_any (v : Nat) (hv : v < 4294967296) (lo n : Int) (w : World) :
    Calls Tryd.prog 91 #[.int .u32 v, .int .i64 lo, .int .i64 n] w fun e w' => e = .returned (.int .u32 (num (fieldN v lo n) 32 : Nat)) ∧ Below w.heap.size w w' :=
  (reffield_ex v hv lo n w).mono fun _ _ ⟨he, h⟩ => ⟨he, h.bel⟩
end Go.Proofs.YtchjhpeogdkbmaaDoor
