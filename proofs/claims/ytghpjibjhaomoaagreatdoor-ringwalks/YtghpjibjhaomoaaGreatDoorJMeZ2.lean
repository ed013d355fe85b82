/-
  mem's Same, and where the pages of noughts lie behind it; mem's Writes.
-/
import Derived.Test.YtghpjibjhaomoaaGreatDoorJMeZ
namespace Go.Proofs.YtghpjibjhaomoaaGreatDoor
open Go.RowKit
set_option linter.unusedVariables false
attribute [local go_sem ↓] Go.wp_at_zero Go.wp_at_succ

theorem z_join {a b c : Option Nat} {S T : Nat} (h : b = a ∨ ∃ x, b = some x ∧ S ≤ x) (hS : S ≤ T) (k : c = b ∨ ∃ x, c = some x ∧ T ≤ x) : c = a ∨ ∃ x, c = some x ∧ S ≤ x := by
  rcases k with e | ⟨y, e1, e2⟩
  · rcases h with e3 | ⟨y, e3, e4⟩
    · exact .inl (e.trans e3)
    · exact .inr ⟨y, e.trans e3, e4⟩
  · exact .inr ⟨y, e1, Nat.le_trans hS e2⟩
end Go.Proofs.YtghpjibjhaomoaaGreatDoor
