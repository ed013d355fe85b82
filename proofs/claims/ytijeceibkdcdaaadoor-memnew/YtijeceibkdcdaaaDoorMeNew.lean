/-
  What mem.New answers.
-/
import Derived.Test.YtijeceibkdcdaaaDoorMeNum
import Derived.Deep.OwnRows
import Derived.Deep.RegionWith
import Derived.Deep.DrawnRows
namespace Go.Proofs.YtijeceibkdcdaaaDoor
open Go.RowKit
set_option linter.unusedVariables false
attribute [local go_sem ↓] Go.wp_at_zero Go.wp_at_succ

/-- The cells of a Ram. -/
def ramV (P D n : Nat) (wr : Int) (nought : Value) (once : Int) : Array Value := #[.slice (some ⟨P, 0, none⟩) n n, .slice (some ⟨D, 0, none⟩) n n, .int .i64 wr, .int .u32 once, .int .i32 0, .int .u32 0, nought]

set_option maxHeartbeats 1000000 in
theorem new_bad (n : Int) (h : n < 1 ∨ 16384 < n) (w : World) :
    Calls Tryd.prog 18 #[.int .i64 n] w fun e w' => e = .returned (.tuple #[.pointer none, .iface 51 (.int .i64 1)]) ∧ w' = w := by
  rcases h with h | h
  · go_enter Tryd.func18, Tryd.ntmps18
    go_wp2
    go_ret2
    exact ⟨rfl, rfl⟩
  · have h1 : ¬ n < 1 := by omega
    go_enter Tryd.func18, Tryd.ntmps18
    go_wp2
    go_ret2
    exact ⟨rfl, rfl⟩

set_option maxHeartbeats 2000000 in
theorem new_ok (n : Nat) (h0 : 1 ≤ n) (h1 : n ≤ 16384) (w : World) :
    Calls Tryd.prog 18 #[.int .i64 n] w fun e w' => e = .returned (.tuple #[.pointer (some ⟨w.heap.size + 1 + 1, 0, none⟩), .nilIface]) ∧
      (∃ P D, ((P = w.heap.size ∧ D = w.heap.size + 1) ∨ (P = w.heap.size + 1 ∧ D = w.heap.size)) ∧ RowAt w' P (madeCells #[.slice none 0 0] n) 28 ∧ RowAt w' D (madeCells #[.bool false] n) 4 ∧
        RowAt w' (w.heap.size + 1 + 1) (ramV P D n 0 (.slice none 0 0) 0) 74) ∧ Below w.heap.size w w' := by
  have m1 := run_make_row' (P := Tryd.prog) 57 28 (.slice none 0 0) 24 Tryd.underlying57 (by kernel_rfl) rfl .i64 .i64 n (by omega) (by omega)
  have m2 := run_make_row' (P := Tryd.prog) 58 4 (.bool false) 1 Tryd.underlying58 (by kernel_rfl) rfl .i64 .i64 n (by omega) (by omega)
  go_enter Tryd.func18, Tryd.ntmps18
  go_wp2
  go_region
  all_goals go_wp2
  all_goals
    go_ret2
    first
      | exact ⟨rfl, ⟨_, _, Or.inl ⟨rfl, rfl⟩, (((RowAt.new w _ _ _ rfl).al _).al _).dr, ((RowAt.new _ _ _ _ (by simp)).al _).dr, (RowAt.new _ _ _ _ (by simp)).dr⟩, (below_three w _ _ _).drew⟩
      | exact ⟨rfl, ⟨_, _, Or.inr ⟨rfl, rfl⟩, ((RowAt.new _ _ _ _ (by simp)).al _).dr, (((RowAt.new w _ _ _ rfl).al _).al _).dr, (RowAt.new _ _ _ _ (by simp)).dr⟩, (below_three w _ _ _).drew⟩
end Go.Proofs.YtijeceibkdcdaaaDoor
