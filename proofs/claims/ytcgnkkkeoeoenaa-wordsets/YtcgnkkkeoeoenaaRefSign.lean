/-
  What the document's Sign answers, whatever word and whatever number of bits is handed in.
-/
import Derived.Test.YtcgnkkkeoeoenaaBits
namespace Go.Proofs.Ytcgnkkkeoeoenaa
open Go.RowKit

/-- Block b holds the row of f as far as k. -/
def Holds32 (W : World) (b : Nat) (f : Nat → Nat) (k : Nat) : Prop := W.heap[b]? = some (.cells (rowOf f k) 31 (0, 0))

theorem Holds32.cell {W : World} {b : Nat} {f : Nat → Nat} {k : Nat} (h : Holds32 W b f k) (j : Nat) (hj : j < 32) :
    W.cell? ⟨b, j, none⟩ = some (.int .i64 ((if j < k then f j else 0 : Nat) : Int)) := by
  rw [cell_of_row _ _ _ _ _ (0, 0) h, rowOf_at f k j hj]

theorem Holds32.here {W : World} {b : Nat} {f : Nat → Nat} {k : Nat} (h : Holds32 W b f k) (hk : k < 32) :
    W.cell? ⟨b, k, none⟩ = some (.int .i64 0) := by
  rw [h.cell k hk]; simp

theorem Holds32.thaw {W : World} {b : Nat} {f : Nat → Nat} {k : Nat} (h : Holds32 W b f k) (j : Nat) : W.frozen? ⟨b, j, none⟩ = false :=
  frozen_of_row W b j _ _ h

theorem Holds32.put {W : World} {b : Nat} {f : Nat → Nat} {k : Nat} (h : Holds32 W b f k) (hk : k < 32) :
    Holds32 (W.setCell ⟨b, k, none⟩ (.int .i64 (f k : Nat))) b f (k + 1) := by
  unfold Holds32
  rw [heap_setCell_same W b k _ _ _ h, rowOf_set f k hk]

theorem Holds32.new (w : World) (f : Nat → Nat) : Holds32 (w.alloc (.cells (List.replicate 32 (Value.int .i64 0)).toArray 31)) w.heap.size f 0 := by
  unfold Holds32
  rw [rowOf_zero, heap_alloc_new]

def signN (v : Nat) (n : Int) (i : Nat) : Nat := bitN v (min (i : Int) (n - 1))
theorem signN_le (v : Nat) (n : Int) (i : Nat) : signN v n i ≤ 1 := bitN_le _ _

set_option maxHeartbeats 1000000 in
set_option maxRecDepth 100000 in
theorem refsign_pos (v : Nat) (hv : v < 4294967296) (n : Int) (h1 : 1 ≤ n) (h2 : n ≤ 32) (w : World) :
    Calls Try.prog 7 #[.int .u32 v, .int .i64 n] w fun e w' => e = .returned (.int .u32 (num (signN v n) 32 : Nat)) ∧ Below w.heap.size w w' := by
  have hnew := Holds32.new w (signN v n)
  have hz : (List.replicate 32 (Value.int .i64 0)).toArray = #[Value.int .i64 0, .int .i64 0, .int .i64 0, .int .i64 0, .int .i64 0, .int .i64 0, .int .i64 0, .int .i64 0, .int .i64 0, .int .i64 0, .int .i64 0, .int .i64 0, .int .i64 0, .int .i64 0, .int .i64 0, .int .i64 0, .int .i64 0, .int .i64 0, .int .i64 0, .int .i64 0, .int .i64 0, .int .i64 0, .int .i64 0, .int .i64 0, .int .i64 0, .int .i64 0, .int .i64 0, .int .i64 0, .int .i64 0, .int .i64 0, .int .i64 0, .int .i64 0] := by rfl
  rw [hz] at hnew
  clear hz
  have hbel : Below w.heap.size w (w.alloc (.cells #[Value.int .i64 0, .int .i64 0, .int .i64 0, .int .i64 0, .int .i64 0, .int .i64 0, .int .i64 0, .int .i64 0, .int .i64 0, .int .i64 0, .int .i64 0, .int .i64 0, .int .i64 0, .int .i64 0, .int .i64 0, .int .i64 0, .int .i64 0, .int .i64 0, .int .i64 0, .int .i64 0, .int .i64 0, .int .i64 0, .int .i64 0, .int .i64 0, .int .i64 0, .int .i64 0, .int .i64 0, .int .i64 0, .int .i64 0, .int .i64 0, .int .i64 0, .int .i64 0] 31)) := (Below.refl _ w).alloc (Nat.le_refl _) _
  go_enter Try.func7, Try.ntmps7
  go_wp2
  go_loopw [6] (fun i wr => ∃ k : Nat, k ≤ 32 ∧ i = .int .i64 k ∧ Holds32 wr w.heap.size (signN v n) k ∧ Below w.heap.size w wr) (fun i _ => 32 - (intOf i).toNat)
  case atStart => exact ⟨0, Nat.zero_le _, rfl, hnew, hbel⟩
  case round =>
    obtain ⟨k, hk, rfl, hH, hB⟩ := hrel
    clear hnew hbel
    by_cases hlt : k < 32
    · have hc := hH.here hlt
      have hf := hH.thaw k
      have hb := signN_le v n k
      go_wp2_with (go_at_call 13; refine (bit_any v hv _ _).mono ?_; rintro e w' ⟨rfl, rfl⟩)
      have em : (if n - 1 < (k : Int) then n - 1 else (k : Int)) = min (k : Int) (n - 1) := by split <;> omega
      rw [em]
      go_roundw
      case rel => exact ⟨k + 1, by omega, by go_num, hH.put hlt, hB.setCell (p := ⟨w.heap.size, k, none⟩) (Nat.le_refl _) _⟩
      case measure => simp [intOf]; omega
    · obtain rfl : k = 32 := by omega
      have hrow : wr.heap[w.heap.size]? = some (.cells (rowOf (signN v n) 32) 31 (0, 0)) := hH
      clear hH
      go_wp2_with (first | (refine wpList_load_row rfl 31 _ rfl w.heap.size rfl 31 (rowOf (signN v n) 32) (0, 0) _ hrow Try.underlying31 rfl (by rw [rowOf_size]; kernel_rfl) ?_) | (go_at_call 14; refine (from_any (signN v n) (signN_le v n) _).mono ?_; rintro e w' ⟨rfl, hb2⟩))
      go_ret
      exact ⟨rfl, hB.trans (hb2.mono hB.size)⟩

set_option maxHeartbeats 1000000 in
set_option maxRecDepth 100000 in
theorem refsign_big (v : Nat) (hv : v < 4294967296) (n : Int) (h1 : 32 < n) (w : World) :
    Calls Try.prog 7 #[.int .u32 v, .int .i64 n] w fun e w' => e = .returned (.int .u32 (num (signN v 32) 32 : Nat)) ∧ Below w.heap.size w w' := by
  have hnew := Holds32.new w (signN v 32)
  have hz : (List.replicate 32 (Value.int .i64 0)).toArray = #[Value.int .i64 0, .int .i64 0, .int .i64 0, .int .i64 0, .int .i64 0, .int .i64 0, .int .i64 0, .int .i64 0, .int .i64 0, .int .i64 0, .int .i64 0, .int .i64 0, .int .i64 0, .int .i64 0, .int .i64 0, .int .i64 0, .int .i64 0, .int .i64 0, .int .i64 0, .int .i64 0, .int .i64 0, .int .i64 0, .int .i64 0, .int .i64 0, .int .i64 0, .int .i64 0, .int .i64 0, .int .i64 0, .int .i64 0, .int .i64 0, .int .i64 0, .int .i64 0] := by rfl
  rw [hz] at hnew
  clear hz
  have hbel : Below w.heap.size w (w.alloc (.cells #[Value.int .i64 0, .int .i64 0, .int .i64 0, .int .i64 0, .int .i64 0, .int .i64 0, .int .i64 0, .int .i64 0, .int .i64 0, .int .i64 0, .int .i64 0, .int .i64 0, .int .i64 0, .int .i64 0, .int .i64 0, .int .i64 0, .int .i64 0, .int .i64 0, .int .i64 0, .int .i64 0, .int .i64 0, .int .i64 0, .int .i64 0, .int .i64 0, .int .i64 0, .int .i64 0, .int .i64 0, .int .i64 0, .int .i64 0, .int .i64 0, .int .i64 0, .int .i64 0] 31)) := (Below.refl _ w).alloc (Nat.le_refl _) _
  go_enter Try.func7, Try.ntmps7
  go_wp2
  go_loopw [6] (fun i wr => ∃ k : Nat, k ≤ 32 ∧ i = .int .i64 k ∧ Holds32 wr w.heap.size (signN v 32) k ∧ Below w.heap.size w wr) (fun i _ => 32 - (intOf i).toNat)
  case atStart => exact ⟨0, Nat.zero_le _, rfl, hnew, hbel⟩
  case round =>
    obtain ⟨k, hk, rfl, hH, hB⟩ := hrel
    clear hnew hbel
    by_cases hlt : k < 32
    · have hc := hH.here hlt
      have hf := hH.thaw k
      have hb := signN_le v 32 k
      go_wp2_with (go_at_call 13; refine (bit_any v hv _ _).mono ?_; rintro e w' ⟨rfl, rfl⟩)
      have em : bitN v (k : Int) = signN v 32 k := by unfold signN; congr 1; omega
      rw [em]
      go_roundw
      case rel => exact ⟨k + 1, by omega, by go_num, hH.put hlt, hB.setCell (p := ⟨w.heap.size, k, none⟩) (Nat.le_refl _) _⟩
      case measure => simp [intOf]; omega
    · obtain rfl : k = 32 := by omega
      have hrow : wr.heap[w.heap.size]? = some (.cells (rowOf (signN v 32) 32) 31 (0, 0)) := hH
      clear hH
      go_wp2_with (first | (refine wpList_load_row rfl 31 _ rfl w.heap.size rfl 31 (rowOf (signN v 32) 32) (0, 0) _ hrow Try.underlying31 rfl (by rw [rowOf_size]; kernel_rfl) ?_) | (go_at_call 14; refine (from_any (signN v 32) (signN_le v 32) _).mono ?_; rintro e w' ⟨rfl, hb2⟩))
      go_ret
      exact ⟨rfl, hB.trans (hb2.mono hB.size)⟩

theorem ref32 (v : Nat) (n : Int) (h : 32 < n) : num (signN v 32) 32 = num (signN v n) 32 := by
  apply num_congr
  intro j hj
  unfold signN
  congr 1
  omega

set_option maxHeartbeats 1000000 in
set_option maxRecDepth 100000 in
theorem refsign_any (v : Nat) (hv : v < 4294967296) (n : Int) (w : World) :
    Calls Try.prog 7 #[.int .u32 v, .int .i64 n] w fun e w' => e = .returned (.int .u32 (if n < 1 then 0 else num (signN v n) 32 : Nat)) ∧ Below w.heap.size w w' := by
  by_cases h0 : n < 1
  · rw [if_pos h0]
    go_enter Try.func7, Try.ntmps7
    go_wp2
    go_ret
    exact ⟨rfl, Below.refl _ _⟩
  · rw [if_neg h0]
    by_cases h32 : n ≤ 32
    · exact refsign_pos v hv n (by omega) h32 w
    · rw [← ref32 v n (by omega)]
      exact refsign_big v hv n (by omega) w
end Go.Proofs.Ytcgnkkkeoeoenaa
