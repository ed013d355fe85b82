/-
  What the document's From answers, whatever bits are handed in.
-/
import Derived.Test.YtahgacdkofmbmaaDoorBit
namespace Go.Proofs.YtahgacdkofmbmaaDoor
open Go.RowKit
set_option linter.unusedVariables false

/-- The cells of thirty-two numbers, of which the first k are f's, the others 0. -/
def rowOf (f : Nat → Nat) (k : Nat) : Array Value := ((List.range 32).map fun j => Value.int .i64 ((if j < k then f j else 0 : Nat) : Int)).toArray

theorem rowOf_size (f : Nat → Nat) (k : Nat) : (rowOf f k).size = 32 := by simp [rowOf]

theorem rowOf_at (f : Nat → Nat) (k j : Nat) (h : j < 32) : (rowOf f k)[j]? = some (.int .i64 ((if j < k then f j else 0 : Nat) : Int)) := by
  simp [rowOf, h]

theorem rowOf_set (f : Nat → Nat) (k : Nat) (h : k < 32) : (rowOf f k).setIfInBounds k (.int .i64 (f k)) = rowOf f (k + 1) := by
  apply Array.ext
  · simp [rowOf]
  · intro i h1 h2
    by_cases e : i = k
    · subst e; simp [rowOf]
    · have h1' : i < 32 := by simpa [rowOf] using h1
      rw [Array.getElem_setIfInBounds_ne (by simpa [rowOf] using h1) (fun x => e x.symm)]
      simp only [rowOf, List.getElem_toArray, List.getElem_map, List.getElem_range]
      by_cases hk : i < k
      · simp [hk, show i < k + 1 by omega]
      · simp [hk, show ¬ i < k + 1 by omega]

theorem rowOf_zero (f : Nat → Nat) : rowOf f 0 = (List.replicate 32 (Value.int .i64 0)).toArray := by
  simp [rowOf, List.range_succ]

/-- One block more, or two, and nothing else. -/
def Own1 (w w' : World) : Prop := ∃ o, w' = w.alloc o
def Own2 (w w' : World) : Prop := ∃ o o', w' = (w.alloc o).alloc o'
theorem Own1.bel {w w' : World} (h : Own1 w w') : Below w.heap.size w w' := by
  obtain ⟨o, rfl⟩ := h
  exact (Below.refl _ w).alloc (Nat.le_refl _) _
theorem Own2.bel {w w' : World} (h : Own2 w w') : Below w.heap.size w w' := by
  obtain ⟨o, o', rfl⟩ := h
  exact ((Below.refl _ w).alloc (Nat.le_refl _) _).alloc (by simp) _
theorem Own1.setCell {w wr : World} (h : Own1 w wr) {p : Addr} (hp : p.block = w.heap.size) (u : Value) : Own1 w (wr.setCell p u) := by
  obtain ⟨o, rfl⟩ := h
  refine ⟨((fun | .cells c elem frozen => .cells (if p.spot.isSome then c else c.setIfInBounds p.off u) elem frozen | o => o) : Obj → Obj) o, ?_⟩
  unfold World.setCell World.alloc
  congr 1
  apply Array.ext_getElem?
  intro k
  rw [Array.getElem?_modify, hp]
  by_cases hk : w.heap.size = k
  · subst hk
    simp
    cases o <;> rfl
  · have hk' : k ≠ w.heap.size := fun e => hk e.symm
    simp [hk, hk', Array.getElem?_push]
theorem Own1.two {w a b : World} (h : Own1 w a) (k : Own1 a b) : Own2 w b := by
  obtain ⟨o, rfl⟩ := h
  obtain ⟨p, rfl⟩ := k
  exact ⟨o, p, rfl⟩

set_option maxHeartbeats 1000000 in
set_option maxRecDepth 100000 in
theorem from_ex (f : Nat → Nat) (hf : ∀ j, f j ≤ 1) (w : World) :
    Calls Tryd.prog 43 #[.agg (rowOf f 32)] w fun e w' => e = .returned (.int .u32 (num f 32 : Nat)) ∧ Own1 w w' := by
  generalize hW : w.alloc (.cells (rowOf f 32) 89) = W
  have hcell : ∀ j, j < 32 → W.cell? ⟨w.heap.size, j, none⟩ = some (.int .i64 (f j : Nat)) := by
    intro j hj
    rw [← hW, cell_of_row _ _ _ _ _ (0, 0) (heap_alloc_new w _), rowOf_at f 32 j hj]
    simp [hj]
  have hbel : Own1 w W := ⟨_, hW.symm⟩
  go_enter Tryd.func43, Tryd.ntmps43
  generalize hr : rowOf f 32 = cs at *
  go_wp2
  go_loop [3, 4] (fun x i => ∃ k : Nat, k ≤ 32 ∧ i = .int .i64 ((k : Int) - 1) ∧ x = .int .u32 (num (fun j => f (j + k)) (32 - k) : Nat)) (fun _ i => (intOf i + 1).toNat)
  case atStart => exact ⟨32, Nat.le_refl _, by rfl, by rfl⟩
  case round =>
    obtain ⟨k, hk, rfl, rfl⟩ := hrel
    cases k with
    | zero =>
      go_wp2
      go_ret
      exact ⟨rfl, hbel⟩
    | succ k =>
      have hx := hf k
      have hc := hcell k (by omega)
      have hnum := num_low (fun j => f (j + k)) (32 - (k + 1))
      have hlt := num_lt (fun j => f (j + (k + 1))) (fun j => hf _) (32 - (k + 1))
      have hle : 2 ^ (32 - (k + 1)) ≤ 2 ^ 31 := Nat.pow_le_pow_right (by decide) (by omega)
      have e1 : 32 - (k + 1) + 1 = 32 - k := by omega
      have e2 : (fun j => f (j + 1 + k)) = fun j => f (j + (k + 1)) := by funext j; congr 1; omega
      simp only [Nat.zero_add, e1, e2] at hnum
      have HN : Hid (num (fun j => f (j + k)) (32 - k) = f k + 2 * num (fun j => f (j + (k + 1))) (32 - (k + 1))) := hnum
      have hb : num (fun j => f (j + (k + 1))) (32 - (k + 1)) ≤ 2147483647 := by omega
      clear hnum hlt hle e1 e2 hf hcell
      generalize num (fun j => f (j + (k + 1))) (32 - (k + 1)) = q at *
      generalize f k = x at *
      go_wp2
      go_round
      case rel => exact ⟨k, by omega, by go_num, by rw [HN.out]; go_num⟩
      case measure => simp [intOf]
theorem from_any (f : Nat → Nat) (hf : ∀ j, f j ≤ 1) (w : World) :
    Calls Tryd.prog 43 #[.agg (rowOf f 32)] w fun e w' => e = .returned (.int .u32 (num f 32 : Nat)) ∧ Below w.heap.size w w' :=
  (from_ex f hf w).mono fun _ _ ⟨he, h⟩ => ⟨he, h.bel⟩
end Go.Proofs.YtahgacdkofmbmaaDoor
