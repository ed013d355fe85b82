/-
  What the document's Cut answers, in one form.
-/
import Derived.Test.YtkahkkcbigifiaaDoorSmRefT
import Derived.Test.YtkahkkcbigifiaaDoorSmE
namespace Go.Proofs.YtkahkkcbigifiaaDoor
open Go.RowKit
set_option linter.unusedVariables false
set_option linter.unusedSimpArgs false

theorem rcutu_any {B : Nat} {v : Value} {l : List Nat} (w : World) (h : Rd B w v l) (hB : B ≤ w.heap.size) (hn : l.length ≤ 100000) :
    Calls Tryd.prog 46 #[v] w fun e w' => ∃ v', e = .returned (.tuple #[v', .int .i64 (cutE l : Nat)]) ∧ Rd w'.heap.size w' v' (cutL l) ∧ Below w.heap.size w w' := by
  refine (rcut_any w h hB hn).mono ?_
  rintro e w' (⟨h4, rfl, rfl⟩ | ⟨h4, ⟨h5, v', rfl, h6, h7⟩ | ⟨h5, rfl, h6⟩⟩)
  · rw [cutE, cutL, if_pos h4, if_neg (by omega)]
    exact ⟨_, rfl, Rd.nil _ _, Below.refl _ _⟩
  · rw [cutE, cutL, if_neg (by omega), if_pos h5, if_pos ⟨h4, h5⟩]
    exact ⟨_, rfl, h6.top, h7⟩
  · rw [cutE, cutL, if_neg (by omega), if_neg (by rw [h5]; decide), if_neg (by rw [h5]; simp)]
    exact ⟨_, rfl, Rd.nil _ _, h6⟩
end Go.Proofs.YtkahkkcbigifiaaDoor
