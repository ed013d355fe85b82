/-
  What uart's Asks answers.
-/
import Derived.Test.YthopfecjnbfnmaaDoorUaCheck
import Derived.Test.YthopfecjnbfnmaaDoorUaAsk
namespace Go.Proofs.YthopfecjnbfnmaaDoor
open Go.RowKit
set_option linter.unusedVariables false

set_option maxHeartbeats 1000000 in
theorem asksB_no (s : U) (ok : s.Ok) (hm : mayU s = false) (w : World) :
    Calls Tryd.prog 12 #[.agg s.cells] w fun e w' => e = .returned (.bool false) ∧ Below w.heap.size w w' := by
  have HC := hide (fun w => check_no s ok hm w)
  go_enter Tryd.func12, Tryd.ntmps12
  go_wp2_with (first | ((with_reducible refine bx_up w.heap.size s ?_ ?_ ?_); exact rfl; exact rfl; intro W hr hb hz) | ((with_reducible refine ld_up w.heap.size _ hr ?_ ?_ ?_); exact rfl; exact rfl) | (go_at_call 11; (with_reducible refine (HC.out _).mono ?_); rintro e W ⟨rfl, hbc⟩; replace hr := hr.bl hbc; replace hb := below_bl rfl hb hbc))
  go_ret
  exact ⟨rfl, hb⟩

set_option maxHeartbeats 1000000 in
theorem asksB_ok (s : U) (ok : s.Ok) (hm : mayU s = true) (w : World) :
    Calls Tryd.prog 12 #[.agg s.cells] w fun e w' => e = .returned (.bool (asksN s != 1)) ∧ Below w.heap.size w w' := by
  have HQ : (asksN s != 1) = ((asksN s : Int) != 1) := by rw [Bool.eq_iff_iff]; simp; omega
  rw [HQ]
  clear HQ
  have HC := hide (fun w => check_ok s ok hm w)
  have HA := hide (fun w => asks_any s ok w)
  generalize asksN s = v at HA ⊢
  go_enter Tryd.func12, Tryd.ntmps12
  go_wp2_with (first | ((with_reducible refine bx_up w.heap.size s ?_ ?_ ?_); exact rfl; exact rfl; intro W hr hb hz) | ((with_reducible refine ld_up w.heap.size _ hr ?_ ?_ ?_); exact rfl; exact rfl) | (go_at_call 11; (with_reducible refine (HC.out _).mono ?_); rintro e W ⟨rfl, hbc⟩; replace hr := hr.bl hbc; replace hb := below_bl rfl hb hbc) | (go_at_call 18; (with_reducible refine (HA.out _).mono ?_); rintro e W ⟨rfl, hbc⟩; replace hr := hr.bl hbc; replace hb := below_bl rfl hb hbc))
  go_ret
  exact ⟨rfl, hb⟩

end Go.Proofs.YthopfecjnbfnmaaDoor
