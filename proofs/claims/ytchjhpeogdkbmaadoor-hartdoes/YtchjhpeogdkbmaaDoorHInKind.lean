/-
  What inst.Kind answers.
-/
import Derived.Test.YtchjhpeogdkbmaaDoorInCalls
namespace Go.Proofs.YtchjhpeogdkbmaaDoor
open Go.RowKit
set_option linter.unusedVariables false

theorem isOp_in (op : Nat) (h : op < 57) (w : World) :
    Calls Tryd.prog 51 #[.int .i64 op] w fun e w' => e = .returned (.bool true) ∧ w' = w := by
  refine (isOp_any op w).mono ?_
  rintro e w' ⟨rfl, rfl⟩
  exact ⟨by rw [show (decide ((op : Int) ≥ 0) && decide ((op : Int) < 57)) = true from by simp; omega], rfl⟩
set_option maxHeartbeats 1000000 in
theorem kind_yes (op : Nat) (hop : op < 57) (w : World) (hN : KindsAt w) :
    Calls Tryd.prog 23 #[.int .i64 op] w fun e w' => e = .returned (.int .u8 (kindN op : Nat)) ∧ w' = w := by
  have HO := hide (isOp_in op hop)
  have hc := hN op hop
  clear hN
  go_enter Tryd.func23, Tryd.ntmps23
  go_wp2_with (first | (go_at_call 51; refine (HO.out _).mono ?_; rintro e w2 ⟨rfl, rfl⟩))
  go_ret
  exact ⟨rfl, rfl⟩
end Go.Proofs.YtchjhpeogdkbmaaDoor
