/-
  num of the law's errors.
-/
import Derived.Test.YtbggkoahofnnjaaGreatDoorJR17
import Derived.Test.YtbggkoahofnnjaaGreatDoorJR6
open Go.Proofs.Tryz
set_option linter.unusedVariables false
set_option linter.unusedSimpArgs false
namespace Go.Proofs.YtbggkoahofnnjaaGreatDoor
open Go.RowKit
theorem HandleAt.below {w w' : World} (h : HandleAt w) (hb : Below w.heap.size w w') : HandleAt w' := by
  have hl : 0 < w.heap.size := by
    rcases Nat.lt_or_ge 0 w.heap.size with h' | h'
    · exact h'
    · simp [HandleAt, World.cell?, Array.getElem?_eq_none h'] at h
  exact (hb.cell (p := ⟨0, 0, none⟩) hl).trans h
theorem num_all (n : Nat) (w : World) (hg : HandleAt w) : Calls prog 12 #[errR n] w fun e w' => e = .returned (.int .i64 (n : Nat)) ∧ Below w.heap.size w w' := by
  by_cases h : n = 0
  · subst h
    exact num_nil w
  · unfold errR
    rw [if_neg h]
    exact num_err n w hg
end Go.Proofs.YtbggkoahofnnjaaGreatDoor
