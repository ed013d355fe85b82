/-
  What the document's Set answers, whatever words, place and number of bits is handed in.
-/
import Derived.Test.YtcgnkkkeoeoenaaRefField
namespace Go.Proofs.Ytcgnkkkeoeoenaa
open Go.RowKit

theorem Holds32.put2 {W : World} {b : Nat} {f : Nat → Nat} {k : Nat} (h : Holds32 W b f k) (hk : k < 32) (u : Value) :
    Holds32 ((W.setCell ⟨b, k, none⟩ u).setCell ⟨b, k, none⟩ (.int .i64 (f k : Nat))) b f (k + 1) := by
  unfold Holds32
  rw [heap_setCell_same _ b k _ _ _ (heap_setCell_same W b k _ _ _ h), Array.setIfInBounds_setIfInBounds, rowOf_set f k hk]

set_option maxHeartbeats 1000000 in
set_option maxRecDepth 100000 in
theorem refset_any (v : Nat) (hv : v < 4294967296) (lo n : Int) (hlo : -9223372036854775808 ≤ lo) (hn : n ≤ 9223372036854775807) (x : Nat) (hx : x < 4294967296) (w : World) :
    Calls Try.prog 12 #[.int .u32 v, .int .i64 lo, .int .i64 n, .int .u32 x] w fun e w' => e = .returned (.int .u32 (num (setBit v lo n x) 32 : Nat)) ∧ Below w.heap.size w w' := by
  have hnew := Holds32.new w (setBit v lo n x)
  have hz : (List.replicate 32 (Value.int .i64 0)).toArray = #[Value.int .i64 0, .int .i64 0, .int .i64 0, .int .i64 0, .int .i64 0, .int .i64 0, .int .i64 0, .int .i64 0, .int .i64 0, .int .i64 0, .int .i64 0, .int .i64 0, .int .i64 0, .int .i64 0, .int .i64 0, .int .i64 0, .int .i64 0, .int .i64 0, .int .i64 0, .int .i64 0, .int .i64 0, .int .i64 0, .int .i64 0, .int .i64 0, .int .i64 0, .int .i64 0, .int .i64 0, .int .i64 0, .int .i64 0, .int .i64 0, .int .i64 0, .int .i64 0] := by rfl
  rw [hz] at hnew
  clear hz
  have hbel : Below w.heap.size w (w.alloc (.cells #[Value.int .i64 0, .int .i64 0, .int .i64 0, .int .i64 0, .int .i64 0, .int .i64 0, .int .i64 0, .int .i64 0, .int .i64 0, .int .i64 0, .int .i64 0, .int .i64 0, .int .i64 0, .int .i64 0, .int .i64 0, .int .i64 0, .int .i64 0, .int .i64 0, .int .i64 0, .int .i64 0, .int .i64 0, .int .i64 0, .int .i64 0, .int .i64 0, .int .i64 0, .int .i64 0, .int .i64 0, .int .i64 0, .int .i64 0, .int .i64 0, .int .i64 0, .int .i64 0] 31)) := (Below.refl _ w).alloc (Nat.le_refl _) _
  go_enter Try.func12, Try.ntmps12
  go_wp2
  go_loopw [10] (fun i wr => ∃ k : Nat, k ≤ 32 ∧ i = .int .i64 k ∧ Holds32 wr w.heap.size (setBit v lo n x) k ∧ Below w.heap.size w wr) (fun i _ => 32 - (intOf i).toNat)
  case atStart => exact ⟨0, Nat.zero_le _, rfl, hnew, hbel⟩
  case round =>
    obtain ⟨k, hk, rfl, hH, hB⟩ := hrel
    clear hnew hbel
    by_cases hlt : k < 32
    · have hc := hH.here hlt
      have hf := hH.thaw k
      have hone : setBit v lo n x k = bitN v (k : Int) → Holds32 (wr.setCell ⟨w.heap.size, k, none⟩ (.int .i64 (bitN v (k : Int) : Nat))) w.heap.size (setBit v lo n x) (k + 1) := fun h => by rw [← h]; exact hH.put hlt
      have htwo : ∀ (y : Nat), setBit v lo n x k = y → ∀ u, Holds32 ((wr.setCell ⟨w.heap.size, k, none⟩ u).setCell ⟨w.heap.size, k, none⟩ (.int .i64 (y : Nat))) w.heap.size (setBit v lo n x) (k + 1) := fun y h u => by rw [← h]; exact hH.put2 hlt u
      have H1 : Hid (_) := hone
      have H2 : Hid (_) := htwo
      clear hone htwo
      by_cases c1 : lo ≤ (k : Int)
      · by_cases c2 : -1000 < lo
        · by_cases c3 : (k : Int) - lo < n
          · have hs : setBit v lo n x k = bitN x ((k : Int) - lo) := by unfold setBit; rw [if_neg (by omega), if_pos (by omega)]
            have H3 : Hid (_) := H2.out _ hs
            clear hs H1 H2
            by_cases c4 : 0 ≤ lo
            · go_wp2_with (go_at_call 13; refine (bit_any _ (by assumption) _ _).mono ?_; rintro e w' ⟨rfl, rfl⟩)
              go_roundw
              case rel => exact ⟨k + 1, by omega, by go_num, H3.out _, (hB.setCell (p := ⟨w.heap.size, k, none⟩) (Nat.le_refl _) _).setCell (p := ⟨w.heap.size, k, none⟩) (Nat.le_refl _) _⟩
              case measure => simp [intOf]; omega
            · go_wp2_with (go_at_call 13; refine (bit_any _ (by assumption) _ _).mono ?_; rintro e w' ⟨rfl, rfl⟩)
              go_roundw
              case rel => exact ⟨k + 1, by omega, by go_num, H3.out _, (hB.setCell (p := ⟨w.heap.size, k, none⟩) (Nat.le_refl _) _).setCell (p := ⟨w.heap.size, k, none⟩) (Nat.le_refl _) _⟩
              case measure => simp [intOf]; omega
          · have hs : setBit v lo n x k = bitN v (k : Int) := by unfold setBit; rw [if_neg (by omega), if_neg (by omega)]
            have H3 : Hid (_) := H1.out hs
            clear hs H1 H2
            by_cases c4 : 0 ≤ lo
            · go_wp2_with (go_at_call 13; refine (bit_any _ (by assumption) _ _).mono ?_; rintro e w' ⟨rfl, rfl⟩)
              go_roundw
              case rel => exact ⟨k + 1, by omega, by go_num, H3.out, hB.setCell (p := ⟨w.heap.size, k, none⟩) (Nat.le_refl _) _⟩
              case measure => simp [intOf]; omega
            · go_wp2_with (go_at_call 13; refine (bit_any _ (by assumption) _ _).mono ?_; rintro e w' ⟨rfl, rfl⟩)
              go_roundw
              case rel => exact ⟨k + 1, by omega, by go_num, H3.out, hB.setCell (p := ⟨w.heap.size, k, none⟩) (Nat.le_refl _) _⟩
              case measure => simp [intOf]; omega
        · have c2' : lo ≤ -1000 := by omega
          clear c2
          by_cases c3 : 0 < n
          · by_cases c4 : (k : Int) < n + lo
            · have hs : setBit v lo n x k = 0 := by unfold setBit; rw [if_pos (by omega)]
              have H3 : Hid (_) := H2.out _ hs
              clear hs H1 H2
              go_wp2_with (go_at_call 13; refine (bit_any _ (by assumption) _ _).mono ?_; rintro e w' ⟨rfl, rfl⟩)
              go_roundw
              case rel => exact ⟨k + 1, by omega, by go_num, H3.out _, (hB.setCell (p := ⟨w.heap.size, k, none⟩) (Nat.le_refl _) _).setCell (p := ⟨w.heap.size, k, none⟩) (Nat.le_refl _) _⟩
              case measure => simp [intOf]; omega
            · have hs : setBit v lo n x k = bitN v (k : Int) := by unfold setBit; rw [if_neg (by omega), if_neg (by omega)]
              have H3 : Hid (_) := H1.out hs
              clear hs H1 H2
              go_wp2_with (go_at_call 13; refine (bit_any _ (by assumption) _ _).mono ?_; rintro e w' ⟨rfl, rfl⟩)
              go_roundw
              case rel => exact ⟨k + 1, by omega, by go_num, H3.out, hB.setCell (p := ⟨w.heap.size, k, none⟩) (Nat.le_refl _) _⟩
              case measure => simp [intOf]; omega
          · have hs : setBit v lo n x k = bitN v (k : Int) := by unfold setBit; rw [if_neg (by omega), if_neg (by omega)]
            have H3 : Hid (_) := H1.out hs
            clear hs H1 H2
            go_wp2_with (go_at_call 13; refine (bit_any _ (by assumption) _ _).mono ?_; rintro e w' ⟨rfl, rfl⟩)
            go_roundw
            case rel => exact ⟨k + 1, by omega, by go_num, H3.out, hB.setCell (p := ⟨w.heap.size, k, none⟩) (Nat.le_refl _) _⟩
            case measure => simp [intOf]; omega
      · have hs : setBit v lo n x k = bitN v (k : Int) := by unfold setBit; rw [if_neg (by omega), if_neg (by omega)]
        have H3 : Hid (_) := H1.out hs
        clear hs H1 H2
        go_wp2_with (go_at_call 13; refine (bit_any _ (by assumption) _ _).mono ?_; rintro e w' ⟨rfl, rfl⟩)
        go_roundw
        case rel => exact ⟨k + 1, by omega, by go_num, H3.out, hB.setCell (p := ⟨w.heap.size, k, none⟩) (Nat.le_refl _) _⟩
        case measure => simp [intOf]; omega
    · obtain rfl : k = 32 := by omega
      have hrow : wr.heap[w.heap.size]? = some (.cells (rowOf (setBit v lo n x) 32) 31 (0, 0)) := hH
      clear hH
      go_wp2_with (first | (refine wpList_load_row rfl 31 _ rfl w.heap.size rfl 31 (rowOf (setBit v lo n x) 32) (0, 0) _ hrow Try.underlying31 rfl (by rw [rowOf_size]; kernel_rfl) ?_) | (go_at_call 14; refine (from_any (setBit v lo n x) (setBit_le v lo n x) _).mono ?_; rintro e w' ⟨rfl, hb2⟩))
      go_ret
      exact ⟨rfl, hB.trans (hb2.mono hB.size)⟩
end Go.Proofs.Ytcgnkkkeoeoenaa
