/-
  What the document's Bit and From answer (as plain numbers), whatever word and place is handed in.
-/
import Derived.Test.YtcgnkkkeoeoenaaRows
import Derived.Test.YtcgnkkkeoeoenaaMath
import Derived.WalkKit
import Derived.WalkLawsBesides
import Derived.WalkSpells
import Derived.Laws.Rows
namespace Go.Proofs.Ytcgnkkkeoeoenaa
open Go.RowKit

theorem ret_int {k : IntKind} {a b : Int} (h : a = b) : Ending.returned (.int k a) = .returned (.int k b) := by rw [h]

theorem div_step (v k : Nat) : v / 2 ^ k / 2 = v / 2 ^ (k + 1) := by rw [Nat.div_div_eq_div_mul, ← Nat.pow_succ]

set_option maxHeartbeats 400000 in
theorem bit_any (v : Nat) (hv : v < 4294967296) (a : Int) (w : World) :
    Calls Try.prog 13 #[.int .u32 v, .int .i64 a] w fun e w' => e = .returned (.int .i64 (bitN v a)) ∧ w' = w := by
  by_cases h : 0 ≤ a ∧ a ≤ 31
  · obtain ⟨h1, h2⟩ := h
    obtain ⟨n, rfl⟩ := Int.eq_ofNat_of_zero_le h1
    have hn : n ≤ 31 := by omega
    have hb : bitN v n = v / 2 ^ n % 2 := by unfold bitN; rw [if_pos (by omega)]; simp
    rw [hb]
    clear hb
    go_enter Try.func13, Try.ntmps13
    go_wp2
    go_loop [0, 5] (fun x i => ∃ k : Nat, k ≤ n ∧ i = .int .i64 k ∧ x = .int .u32 (v / 2 ^ k : Nat)) (fun _ i => n - (intOf i).toNat)
    case atStart => exact ⟨0, Nat.zero_le _, rfl, by simp⟩
    case round =>
      obtain ⟨k, hk, rfl, rfl⟩ := hrel
      have hd : v / 2 ^ k ≤ v := Nat.div_le_self _ _
      by_cases hlt : k < n
      · have hs := div_step v k
        have HS : Hid (v / 2 ^ k / 2 = v / 2 ^ (k + 1)) := hs
        clear hs
        generalize v / 2 ^ k = q at *
        go_wp2
        go_round
        case rel => exact ⟨k + 1, by omega, by go_num, by rw [← HS.out]; go_num⟩
        case measure => simp [intOf]; omega
      · obtain rfl : k = n := by omega
        generalize hq : v / 2 ^ k = q at *
        have HR : Hid ((q : Int) = (v : Int) / 2 ^ k) := by show _ = _; rw [← hq]; simp
        clear hq
        go_wp2
        go_ret
        exact ⟨ret_int (by rw [HR.out]), rfl⟩
  · have hb : bitN v a = 0 := by unfold bitN; rw [if_neg h]
    rw [hb]
    clear hb
    by_cases h0 : a < 0
    · go_enter Try.func13, Try.ntmps13
      go_wp2
      go_ret
      exact ⟨rfl, rfl⟩
    · have h31 : 31 < a := by omega
      go_enter Try.func13, Try.ntmps13
      go_wp2
      go_ret
      exact ⟨rfl, rfl⟩

/-- The cells of thirty-two numbers, of which the first k are f's, the others 0. -/
def rowOf (f : Nat → Nat) (k : Nat) : Array Value := ((List.range 32).map fun j => Value.int .i64 ((if j < k then f j else 0 : Nat) : Int)).toArray

theorem rowOf_size (f : Nat → Nat) (k : Nat) : (rowOf f k).size = 32 := by simp [rowOf]

theorem rowOf_at (f : Nat → Nat) (k j : Nat) (h : j < 32) : (rowOf f k)[j]? = some (.int .i64 ((if j < k then f j else 0 : Nat) : Int)) := by
  simp [rowOf, h]

theorem rowOf_set (f : Nat → Nat) (k : Nat) (h : k < 32) : (rowOf f k).setIfInBounds k (.int .i64 (f k)) = rowOf f (k + 1) := by
  apply Array.ext
  · simp [rowOf]
  · intro i h1 h2
    by_cases e : i = k
    · subst e; simp [rowOf]
    · have h1' : i < 32 := by simpa [rowOf] using h1
      rw [Array.getElem_setIfInBounds_ne (by simpa [rowOf] using h1) (fun x => e x.symm)]
      simp only [rowOf, List.getElem_toArray, List.getElem_map, List.getElem_range]
      by_cases hk : i < k
      · simp [hk, show i < k + 1 by omega]
      · simp [hk, show ¬ i < k + 1 by omega]

theorem rowOf_zero (f : Nat → Nat) : rowOf f 0 = (List.replicate 32 (Value.int .i64 0)).toArray := by
  simp [rowOf, List.range_succ]

set_option maxHeartbeats 1000000 in
set_option maxRecDepth 100000 in
theorem from_any (f : Nat → Nat) (hf : ∀ j, f j ≤ 1) (w : World) :
    Calls Try.prog 14 #[.agg (rowOf f 32)] w fun e w' => e = .returned (.int .u32 (num f 32 : Nat)) ∧ Below w.heap.size w w' := by
  generalize hW : w.alloc (.cells (rowOf f 32) 31) = W
  have hcell : ∀ j, j < 32 → W.cell? ⟨w.heap.size, j, none⟩ = some (.int .i64 (f j : Nat)) := by
    intro j hj
    rw [← hW, cell_of_row _ _ _ _ _ (0, 0) (heap_alloc_new w _), rowOf_at f 32 j hj]
    simp [hj]
  have hbel : Below w.heap.size w W := by rw [← hW]; exact (Below.refl _ w).alloc (Nat.le_refl _) _
  go_enter Try.func14, Try.ntmps14
  generalize hr : rowOf f 32 = cs at *
  go_wp2
  go_loop [3, 4] (fun x i => ∃ k : Nat, k ≤ 32 ∧ i = .int .i64 ((k : Int) - 1) ∧ x = .int .u32 (num (fun j => f (j + k)) (32 - k) : Nat)) (fun _ i => (intOf i + 1).toNat)
  case atStart => exact ⟨32, Nat.le_refl _, by rfl, by rfl⟩
  case round =>
    obtain ⟨k, hk, rfl, rfl⟩ := hrel
    cases k with
    | zero =>
      go_wp2
      go_ret
      exact ⟨rfl, hbel⟩
    | succ k =>
      have hx := hf k
      have hc := hcell k (by omega)
      have hnum := num_low (fun j => f (j + k)) (32 - (k + 1))
      have hlt := num_lt (fun j => f (j + (k + 1))) (fun j => hf _) (32 - (k + 1))
      have hle : 2 ^ (32 - (k + 1)) ≤ 2 ^ 31 := Nat.pow_le_pow_right (by decide) (by omega)
      have e1 : 32 - (k + 1) + 1 = 32 - k := by omega
      have e2 : (fun j => f (j + 1 + k)) = fun j => f (j + (k + 1)) := by funext j; congr 1; omega
      simp only [Nat.zero_add, e1, e2] at hnum
      have HN : Hid (num (fun j => f (j + k)) (32 - k) = f k + 2 * num (fun j => f (j + (k + 1))) (32 - (k + 1))) := hnum
      have hb : num (fun j => f (j + (k + 1))) (32 - (k + 1)) ≤ 2147483647 := by omega
      clear hnum hlt hle e1 e2 hf hcell
      generalize num (fun j => f (j + (k + 1))) (32 - (k + 1)) = q at *
      generalize f k = x at *
      go_wp2
      go_round
      case rel => exact ⟨k, by omega, by go_num, by rw [HN.out]; go_num⟩
      case measure => simp [intOf]
end Go.Proofs.Ytcgnkkkeoeoenaa
