/-
  What the document's Field answers, whatever word, place and number of bits is handed in.
-/
import Derived.Test.YtelakpogochifaaDoorRSet
namespace Go.Proofs.YtelakpogochifaaDoor
open Go.RowKit

def fieldN (v : Nat) (lo n : Int) (i : Nat) : Nat := if (i : Int) < n ∧ -31 ≤ lo ∧ lo ≤ 31 then bitN v (lo + i) else 0
theorem fieldN_le (v : Nat) (lo n : Int) (i : Nat) : fieldN v lo n i ≤ 1 := by
  unfold fieldN; split
  · exact bitN_le _ _
  · omega

/-- A row whose next number is 0 stands as far as the next one. -/
theorem Holds32.skip {W : World} {b : Nat} {f : Nat → Nat} {k : Nat} (h : Holds32 W b f k) (h0 : f k = 0) : Holds32 W b f (k + 1) := by
  have e : rowOf f k = rowOf f (k + 1) := by
    apply Array.ext
    · simp [rowOf]
    · intro i h1 h2
      simp only [rowOf, List.getElem_toArray, List.getElem_map, List.getElem_range]
      by_cases hi : i = k
      · subst hi; simp [h0]
      · by_cases hk : i < k
        · simp [hk, show i < k + 1 by omega]
        · simp [hk, show ¬ i < k + 1 by omega]
  unfold Holds32 at *
  rw [← e]; exact h

theorem Holds32.rest {W : World} {b : Nat} {f : Nat → Nat} {k : Nat} (h : Holds32 W b f k) (h0 : ∀ j, k ≤ j → f j = 0) : ∀ m, Holds32 W b f (k + m)
  | 0 => h
  | m + 1 => (Holds32.rest h h0 m).skip (h0 _ (by omega))

set_option maxHeartbeats 1000000 in
set_option maxRecDepth 100000 in
theorem reffield_ex (v : Nat) (hv : v < 4294967296) (lo n : Int) (w : World) :
    Calls Tryd.prog 91 #[.int .u32 v, .int .i64 lo, .int .i64 n] w fun e w' => e = .returned (.int .u32 (num (fieldN v lo n) 32 : Nat)) ∧ Own2 w w' := by
  have hnew := Holds32.new w (fieldN v lo n)
  have hz : (List.replicate 32 (Value.int .i64 0)).toArray = #[Value.int .i64 0, .int .i64 0, .int .i64 0, .int .i64 0, .int .i64 0, .int .i64 0, .int .i64 0, .int .i64 0, .int .i64 0, .int .i64 0, .int .i64 0, .int .i64 0, .int .i64 0, .int .i64 0, .int .i64 0, .int .i64 0, .int .i64 0, .int .i64 0, .int .i64 0, .int .i64 0, .int .i64 0, .int .i64 0, .int .i64 0, .int .i64 0, .int .i64 0, .int .i64 0, .int .i64 0, .int .i64 0, .int .i64 0, .int .i64 0, .int .i64 0, .int .i64 0] := by rfl
  rw [hz] at hnew
  clear hz
  have hbel : Own1 w (w.alloc (.cells #[Value.int .i64 0, .int .i64 0, .int .i64 0, .int .i64 0, .int .i64 0, .int .i64 0, .int .i64 0, .int .i64 0, .int .i64 0, .int .i64 0, .int .i64 0, .int .i64 0, .int .i64 0, .int .i64 0, .int .i64 0, .int .i64 0, .int .i64 0, .int .i64 0, .int .i64 0, .int .i64 0, .int .i64 0, .int .i64 0, .int .i64 0, .int .i64 0, .int .i64 0, .int .i64 0, .int .i64 0, .int .i64 0, .int .i64 0, .int .i64 0, .int .i64 0, .int .i64 0] 172)) := ⟨_, rfl⟩
  go_enter Tryd.func91, Tryd.ntmps91
  go_wp2
  go_loopw [8] (fun i wr => ∃ k : Nat, k ≤ 32 ∧ i = .int .i64 k ∧ Holds32 wr w.heap.size (fieldN v lo n) k ∧ Own1 w wr) (fun i _ => 32 - (intOf i).toNat)
  case atStart => exact ⟨0, Nat.zero_le _, rfl, hnew, hbel⟩
  case round =>
    obtain ⟨k, hk, rfl, hH, hB⟩ := hrel
    clear hnew hbel
    by_cases hlt : k < 32 ∧ (k : Int) < n
    · obtain ⟨hl1, hl2⟩ := hlt
      by_cases hin : -31 ≤ lo ∧ lo ≤ 31
      · obtain ⟨hi1, hi2⟩ := hin
        have hc := hH.here hl1
        have hf := hH.thaw k
        have em : Hid (bitN v (lo + (k : Int)) = fieldN v lo n k) := by show _ = _; unfold fieldN; rw [if_pos ⟨hl2, hi1, hi2⟩]
        go_wp2_with (go_at_call 39; refine (bit_any v hv _ _).mono ?_; rintro e w' ⟨rfl, rfl⟩)
        rw [em.out]
        go_roundw
        case rel => exact ⟨k + 1, by omega, by go_num, hH.put hl1, hB.setCell (p := ⟨w.heap.size, k, none⟩) rfl _⟩
        case measure => simp [intOf]; omega
      · have h0 : fieldN v lo n k = 0 := by unfold fieldN; rw [if_neg (by omega)]
        have hH' := hH.skip h0
        clear h0 hH
        by_cases hi1 : -31 ≤ lo
        · have hi2 : 31 < lo := by omega
          clear hin
          go_wp2
          go_roundw
          case rel => exact ⟨k + 1, by omega, by go_num, hH', hB⟩
          case measure => simp [intOf]; omega
        · clear hin
          go_wp2
          go_roundw
          case rel => exact ⟨k + 1, by omega, by go_num, hH', hB⟩
          case measure => simp [intOf]; omega
    · have hH32 : Holds32 wr w.heap.size (fieldN v lo n) 32 := by
        by_cases h : k = 32
        · subst h; exact hH
        · have := hH.rest (fun j hj => by unfold fieldN; rw [if_neg (by omega)]) (32 - k)
          rwa [show k + (32 - k) = 32 by omega] at this
      have hrow : wr.heap[w.heap.size]? = some (.cells (rowOf (fieldN v lo n) 32) 172 (0, 0)) := hH32
      clear hH hH32
      by_cases h32 : k < 32
      · have hn : n ≤ (k : Int) := by omega
        clear hlt
        go_wp2_with (first | (refine wpList_load_row rfl 172 _ rfl w.heap.size rfl 172 (rowOf (fieldN v lo n) 32) (0, 0) _ hrow Tryd.underlying172 rfl (by rw [rowOf_size]; kernel_rfl) ?_) | (go_at_call 104; refine (from_ex (fieldN v lo n) (fieldN_le v lo n) _).mono ?_; rintro e w' ⟨rfl, hb2⟩))
        go_ret
        exact ⟨rfl, hB.two hb2⟩
      · have h32' : 32 ≤ k := by omega
        clear hlt
        go_wp2_with (first | (refine wpList_load_row rfl 172 _ rfl w.heap.size rfl 172 (rowOf (fieldN v lo n) 32) (0, 0) _ hrow Tryd.underlying172 rfl (by rw [rowOf_size]; kernel_rfl) ?_) | (go_at_call 104; refine (from_ex (fieldN v lo n) (fieldN_le v lo n) _).mono ?_; rintro e w' ⟨rfl, hb2⟩))
        go_ret
        exact ⟨rfl, hB.two hb2⟩
theorem reffield_any (v : Nat) (hv : v < 4294967296) (lo n : Int) (w : World) :
    Calls Tryd.prog 91 #[.int .u32 v, .int .i64 lo, .int .i64 n] w fun e w' => e = .returned (.int .u32 (num (fieldN v lo n) 32 : Nat)) ∧ Below w.heap.size w w' :=
  (reffield_ex v hv lo n w).mono fun _ _ ⟨he, h⟩ => ⟨he, h.bel⟩
end Go.Proofs.YtelakpogochifaaDoor
