/-
  What the law's own call answers.
-/
import Derived.Test.YtjibjginafjpcaaClProg
import Derived.Test.YtjibjginafjpcaaClG
namespace Go.Proofs.Ytjibjginafjpcaa
open Go.RowKit
set_option linter.unusedVariables false

set_option maxHeartbeats 1000000 in
theorem sure_any  (w : World) :
    Calls Try.prog 6 #[] w fun e w' => e = .returned (.bool true) ∧ Below w.heap.size w w' := by
  have HL0 := hide (fun w => lines_any ⟨0, 3, 5⟩ ⟨by decide, by decide, by decide⟩ w)
  have HL2 := hide (fun w => lines_any ⟨0, 5, 5⟩ ⟨by decide, by decide, by decide⟩ w)
  have HT0 := hide (fun w => tick_any ⟨0, 3, 5⟩ ⟨by decide, by decide, by decide⟩ w)
  have HT1 := hide (fun w => tick_any ⟨0, 4, 5⟩ ⟨by decide, by decide, by decide⟩ w)
  rw [show linesV ⟨0, 3, 5⟩ = 0 from rfl, show (((0 : Nat) : Int)) = 0 from rfl] at HL0
  rw [show linesV ⟨0, 5, 5⟩ = 128 from rfl, show (((128 : Nat) : Int)) = 128 from rfl] at HL2
  rw [show tickV ⟨0, 3, 5⟩ = ⟨0, 4, 5⟩ from rfl] at HT0
  rw [show tickV ⟨0, 4, 5⟩ = ⟨0, 5, 5⟩ from rfl] at HT1
  go_enter Try.func6, Try.ntmps6
  go_wp2_with (first | ((with_reducible refine al_p w.heap.size ?_ ?_); exact rfl; intro W hr hb hz) | ((with_reducible refine st_p w.heap.size _ ⟨0, 3, 5⟩ hr ?_ ?_ ?_); exact rfl; exact rfl; intro W hnew ho; replace hr := hnew; replace hb := ho.bel _ _ (by omega) hb) | ((with_reducible refine ld_p w.heap.size _ hr ?_ ?_); exact rfl) | ((with_reducible refine gl_p w.heap.size _ hr ?_ ?_ ?_); exact rfl; exact rfl) | (go_at_call 7; first | ((with_reducible refine (HL0.out _).mono ?_); rintro e W ⟨rfl, hbc⟩; replace hr := hr.bl hbc; replace hb := below_bl rfl hb hbc) | ((with_reducible refine (HL2.out _).mono ?_); rintro e W ⟨rfl, hbc⟩; replace hr := hr.bl hbc; replace hb := below_bl rfl hb hbc)) | (go_at_call 9; first | ((with_reducible refine (HT0.out _).mono ?_); rintro e W ⟨rfl, hbc⟩; replace hr := hr.bl hbc; replace hb := below_bl rfl hb hbc) | ((with_reducible refine (HT1.out _).mono ?_); rintro e W ⟨rfl, hbc⟩; replace hr := hr.bl hbc; replace hb := below_bl rfl hb hbc)))
  go_ret
  exact ⟨rfl, hb⟩

end Go.Proofs.Ytjibjginafjpcaa
