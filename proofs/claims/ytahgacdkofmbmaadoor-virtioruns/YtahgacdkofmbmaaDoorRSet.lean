/-
  What the document's Set answers, whatever words, place and number of bits is handed in.
-/
import Derived.Test.YtahgacdkofmbmaaDoorFrom
namespace Go.Proofs.YtahgacdkofmbmaaDoor
open Go.RowKit

/-- Block b holds the row of f as far as k. -/
def Holds32 (W : World) (b : Nat) (f : Nat → Nat) (k : Nat) : Prop := W.heap[b]? = some (.cells (rowOf f k) 89 (0, 0))

theorem Holds32.cell {W : World} {b : Nat} {f : Nat → Nat} {k : Nat} (h : Holds32 W b f k) (j : Nat) (hj : j < 32) :
    W.cell? ⟨b, j, none⟩ = some (.int .i64 ((if j < k then f j else 0 : Nat) : Int)) := by
  rw [cell_of_row _ _ _ _ _ (0, 0) h, rowOf_at f k j hj]

theorem Holds32.here {W : World} {b : Nat} {f : Nat → Nat} {k : Nat} (h : Holds32 W b f k) (hk : k < 32) :
    W.cell? ⟨b, k, none⟩ = some (.int .i64 0) := by
  rw [h.cell k hk]; simp

theorem Holds32.thaw {W : World} {b : Nat} {f : Nat → Nat} {k : Nat} (h : Holds32 W b f k) (j : Nat) : W.frozen? ⟨b, j, none⟩ = false :=
  frozen_of_row W b j _ _ h

theorem Holds32.put {W : World} {b : Nat} {f : Nat → Nat} {k : Nat} (h : Holds32 W b f k) (hk : k < 32) :
    Holds32 (W.setCell ⟨b, k, none⟩ (.int .i64 (f k : Nat))) b f (k + 1) := by
  unfold Holds32
  rw [heap_setCell_same W b k _ _ _ h, rowOf_set f k hk]

theorem Holds32.new (w : World) (f : Nat → Nat) : Holds32 (w.alloc (.cells (List.replicate 32 (Value.int .i64 0)).toArray 89)) w.heap.size f 0 := by
  unfold Holds32
  rw [rowOf_zero, heap_alloc_new]

theorem Holds32.put2 {W : World} {b : Nat} {f : Nat → Nat} {k : Nat} (h : Holds32 W b f k) (hk : k < 32) (u : Value) :
    Holds32 ((W.setCell ⟨b, k, none⟩ u).setCell ⟨b, k, none⟩ (.int .i64 (f k : Nat))) b f (k + 1) := by
  unfold Holds32
  rw [heap_setCell_same _ b k _ _ _ (heap_setCell_same W b k _ _ _ h), Array.setIfInBounds_setIfInBounds, rowOf_set f k hk]

set_option maxHeartbeats 1000000 in
set_option maxRecDepth 100000 in
theorem refset_ex (v : Nat) (hv : v < 4294967296) (lo n : Int) (hlo : -9223372036854775808 ≤ lo) (hn : n ≤ 9223372036854775807) (x : Nat) (hx : x < 4294967296) (w : World) :
    Calls Tryd.prog 32 #[.int .u32 v, .int .i64 lo, .int .i64 n, .int .u32 x] w fun e w' => e = .returned (.int .u32 (num (setBit v lo n x) 32 : Nat)) ∧ Own2 w w' := by
  have hnew := Holds32.new w (setBit v lo n x)
  have hz : (List.replicate 32 (Value.int .i64 0)).toArray = #[Value.int .i64 0, .int .i64 0, .int .i64 0, .int .i64 0, .int .i64 0, .int .i64 0, .int .i64 0, .int .i64 0, .int .i64 0, .int .i64 0, .int .i64 0, .int .i64 0, .int .i64 0, .int .i64 0, .int .i64 0, .int .i64 0, .int .i64 0, .int .i64 0, .int .i64 0, .int .i64 0, .int .i64 0, .int .i64 0, .int .i64 0, .int .i64 0, .int .i64 0, .int .i64 0, .int .i64 0, .int .i64 0, .int .i64 0, .int .i64 0, .int .i64 0, .int .i64 0] := by rfl
  rw [hz] at hnew
  clear hz
  have hbel : Own1 w (w.alloc (.cells #[Value.int .i64 0, .int .i64 0, .int .i64 0, .int .i64 0, .int .i64 0, .int .i64 0, .int .i64 0, .int .i64 0, .int .i64 0, .int .i64 0, .int .i64 0, .int .i64 0, .int .i64 0, .int .i64 0, .int .i64 0, .int .i64 0, .int .i64 0, .int .i64 0, .int .i64 0, .int .i64 0, .int .i64 0, .int .i64 0, .int .i64 0, .int .i64 0, .int .i64 0, .int .i64 0, .int .i64 0, .int .i64 0, .int .i64 0, .int .i64 0, .int .i64 0, .int .i64 0] 89)) := ⟨_, rfl⟩
  go_enter Tryd.func32, Tryd.ntmps32
  go_wp2
  go_loopw [10] (fun i wr => ∃ k : Nat, k ≤ 32 ∧ i = .int .i64 k ∧ Holds32 wr w.heap.size (setBit v lo n x) k ∧ Own1 w wr) (fun i _ => 32 - (intOf i).toNat)
  case atStart => exact ⟨0, Nat.zero_le _, rfl, hnew, hbel⟩
  case round =>
    obtain ⟨k, hk, rfl, hH, hB⟩ := hrel
    clear hnew hbel
    by_cases hlt : k < 32
    · have hc := hH.here hlt
      have hf := hH.thaw k
      have hone : setBit v lo n x k = bitN v (k : Int) → Holds32 (wr.setCell ⟨w.heap.size, k, none⟩ (.int .i64 (bitN v (k : Int) : Nat))) w.heap.size (setBit v lo n x) (k + 1) := fun h => by rw [← h]; exact hH.put hlt
      have htwo : ∀ (y : Nat), setBit v lo n x k = y → ∀ u, Holds32 ((wr.setCell ⟨w.heap.size, k, none⟩ u).setCell ⟨w.heap.size, k, none⟩ (.int .i64 (y : Nat))) w.heap.size (setBit v lo n x) (k + 1) := fun y h u => by rw [← h]; exact hH.put2 hlt u
      have H1 : Hid (_) := hone
      have H2 : Hid (_) := htwo
      clear hone htwo
      by_cases c1 : lo ≤ (k : Int)
      · by_cases c2 : -1000 < lo
        · by_cases c3 : (k : Int) - lo < n
          · have hs : setBit v lo n x k = bitN x ((k : Int) - lo) := by unfold setBit; rw [if_neg (by omega), if_pos (by omega)]
            have H3 : Hid (_) := H2.out _ hs
            clear hs H1 H2
            by_cases c4 : 0 ≤ lo
            · go_wp2_with (go_at_call 42; refine (bit_any _ (by assumption) _ _).mono ?_; rintro e w' ⟨rfl, rfl⟩)
              go_roundw
              case rel => exact ⟨k + 1, by omega, by go_num, H3.out _, (hB.setCell (p := ⟨w.heap.size, k, none⟩) rfl _).setCell (p := ⟨w.heap.size, k, none⟩) rfl _⟩
              case measure => simp [intOf]; omega
            · go_wp2_with (go_at_call 42; refine (bit_any _ (by assumption) _ _).mono ?_; rintro e w' ⟨rfl, rfl⟩)
              go_roundw
              case rel => exact ⟨k + 1, by omega, by go_num, H3.out _, (hB.setCell (p := ⟨w.heap.size, k, none⟩) rfl _).setCell (p := ⟨w.heap.size, k, none⟩) rfl _⟩
              case measure => simp [intOf]; omega
          · have hs : setBit v lo n x k = bitN v (k : Int) := by unfold setBit; rw [if_neg (by omega), if_neg (by omega)]
            have H3 : Hid (_) := H1.out hs
            clear hs H1 H2
            by_cases c4 : 0 ≤ lo
            · go_wp2_with (go_at_call 42; refine (bit_any _ (by assumption) _ _).mono ?_; rintro e w' ⟨rfl, rfl⟩)
              go_roundw
              case rel => exact ⟨k + 1, by omega, by go_num, H3.out, hB.setCell (p := ⟨w.heap.size, k, none⟩) rfl _⟩
              case measure => simp [intOf]; omega
            · go_wp2_with (go_at_call 42; refine (bit_any _ (by assumption) _ _).mono ?_; rintro e w' ⟨rfl, rfl⟩)
              go_roundw
              case rel => exact ⟨k + 1, by omega, by go_num, H3.out, hB.setCell (p := ⟨w.heap.size, k, none⟩) rfl _⟩
              case measure => simp [intOf]; omega
        · have c2' : lo ≤ -1000 := by omega
          clear c2
          by_cases c3 : 0 < n
          · by_cases c4 : (k : Int) < n + lo
            · have hs : setBit v lo n x k = 0 := by unfold setBit; rw [if_pos (by omega)]
              have H3 : Hid (_) := H2.out _ hs
              clear hs H1 H2
              go_wp2_with (go_at_call 42; refine (bit_any _ (by assumption) _ _).mono ?_; rintro e w' ⟨rfl, rfl⟩)
              go_roundw
              case rel => exact ⟨k + 1, by omega, by go_num, H3.out _, (hB.setCell (p := ⟨w.heap.size, k, none⟩) rfl _).setCell (p := ⟨w.heap.size, k, none⟩) rfl _⟩
              case measure => simp [intOf]; omega
            · have hs : setBit v lo n x k = bitN v (k : Int) := by unfold setBit; rw [if_neg (by omega), if_neg (by omega)]
              have H3 : Hid (_) := H1.out hs
              clear hs H1 H2
              go_wp2_with (go_at_call 42; refine (bit_any _ (by assumption) _ _).mono ?_; rintro e w' ⟨rfl, rfl⟩)
              go_roundw
              case rel => exact ⟨k + 1, by omega, by go_num, H3.out, hB.setCell (p := ⟨w.heap.size, k, none⟩) rfl _⟩
              case measure => simp [intOf]; omega
          · have hs : setBit v lo n x k = bitN v (k : Int) := by unfold setBit; rw [if_neg (by omega), if_neg (by omega)]
            have H3 : Hid (_) := H1.out hs
            clear hs H1 H2
            go_wp2_with (go_at_call 42; refine (bit_any _ (by assumption) _ _).mono ?_; rintro e w' ⟨rfl, rfl⟩)
            go_roundw
            case rel => exact ⟨k + 1, by omega, by go_num, H3.out, hB.setCell (p := ⟨w.heap.size, k, none⟩) rfl _⟩
            case measure => simp [intOf]; omega
      · have hs : setBit v lo n x k = bitN v (k : Int) := by unfold setBit; rw [if_neg (by omega), if_neg (by omega)]
        have H3 : Hid (_) := H1.out hs
        clear hs H1 H2
        go_wp2_with (go_at_call 42; refine (bit_any _ (by assumption) _ _).mono ?_; rintro e w' ⟨rfl, rfl⟩)
        go_roundw
        case rel => exact ⟨k + 1, by omega, by go_num, H3.out, hB.setCell (p := ⟨w.heap.size, k, none⟩) rfl _⟩
        case measure => simp [intOf]; omega
    · obtain rfl : k = 32 := by omega
      have hrow : wr.heap[w.heap.size]? = some (.cells (rowOf (setBit v lo n x) 32) 89 (0, 0)) := hH
      clear hH
      go_wp2_with (first | (refine wpList_load_row rfl 89 _ rfl w.heap.size rfl 89 (rowOf (setBit v lo n x) 32) (0, 0) _ hrow Tryd.underlying89 rfl (by rw [rowOf_size]; kernel_rfl) ?_) | (go_at_call 43; refine (from_ex (setBit v lo n x) (setBit_le v lo n x) _).mono ?_; rintro e w' ⟨rfl, hb2⟩))
      go_ret
      exact ⟨rfl, hB.two hb2⟩
theorem refset_any (v : Nat) (hv : v < 4294967296) (lo n : Int) (hlo : -9223372036854775808 ≤ lo) (hn : n ≤ 9223372036854775807) (x : Nat) (hx : x < 4294967296) (w : World) :
    Calls Tryd.prog 32 #[.int .u32 v, .int .i64 lo, .int .i64 n, .int .u32 x] w fun e w' => e = .returned (.int .u32 (num (setBit v lo n x) 32 : Nat)) ∧ Below w.heap.size w w' :=
  (refset_ex v hv lo n hlo hn x hx w).mono fun _ _ ⟨he, h⟩ => ⟨he, h.bel⟩
end Go.Proofs.YtahgacdkofmbmaaDoor
