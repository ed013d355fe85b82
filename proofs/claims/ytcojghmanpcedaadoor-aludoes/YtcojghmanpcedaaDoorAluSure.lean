/-
  What must come whatever the input is: it comes.
-/
import Derived.Test.YtcojghmanpcedaaDoorAluDo
import Derived.Below
namespace Go.Proofs.YtcojghmanpcedaaDoor
open Go.RowKit
set_option linter.unusedVariables false

theorem below_drewN {B : Nat} {a w : World} (h : Below B a w) (n : Nat) : Below B a (w.drewN n) := h.trans ⟨rfl, rfl, rfl, Nat.le_refl _, fun _ _ => rfl⟩

theorem sure_quo : doN 14 4294967289 2 = 4294967293 := by decide
theorem sure_rem : doN 16 4294967289 2 = 4294967295 := by decide

set_option maxHeartbeats 400000 in
theorem sure_any (w : World) :
    Calls Tryd.prog 8 #[] w fun e w' => e = .returned (.bool true) ∧ ∃ n, w' = w.drewN n := by
  have H1 := hide (do_14 4294967289 2 (by decide) (by decide))
  have H2 := hide (do_16 4294967289 2 (by decide) (by decide))
  rw [sure_quo] at H1
  rw [sure_rem] at H2
  rw [show ((4294967289 : Nat) : Int) = 4294967289 from rfl, show ((2 : Nat) : Int) = 2 from rfl, show ((4294967293 : Nat) : Int) = 4294967293 from rfl] at H1
  rw [show ((4294967289 : Nat) : Int) = 4294967289 from rfl, show ((2 : Nat) : Int) = 2 from rfl, show ((4294967295 : Nat) : Int) = 4294967295 from rfl] at H2
  go_enter Tryd.func8, Tryd.ntmps8
  go_wp2_with (fail)
  refine (H1.out _).mono ?_
  rintro e w1 ⟨rfl, n, rfl⟩
  go_wp2_with (fail)
  refine (H2.out _).mono ?_
  rintro e w2 ⟨rfl, m, rfl⟩
  go_wp2
  go_ret
  exact ⟨rfl, n + m, rfl⟩
end Go.Proofs.YtcojghmanpcedaaDoor
