/-
  What the document's Check answers.
-/
import Derived.Test.YtbidhfhmfmhiiaaGreatDoorRNames
import Derived.Test.YtbidhfhmfmhiiaaGreatDoorInMath
import Derived.OwnWalk
namespace Go.Proofs.YtbidhfhmfmhiiaaGreatDoor
open Go.RowKit
set_option linter.unusedVariables false

theorem three_new (w : World) (A B C : Array Value) (ta tb tc : TypeId) (w0 : World) (h : ((w.alloc (.cells A ta)).alloc (.cells B tb)).alloc (.cells C tc) = w0) :
    w0.heap[w.heap.size + 1]? = some (.cells B tb (0, 0)) ∧ w0.heap[w.heap.size + 1 + 1]? = some (.cells C tc (0, 0)) ∧ Below w.heap.size w w0 := by
  subst h
  refine ⟨?_, ?_, (((Below.refl _ w).alloc (Nat.le_refl _) _).alloc (by simp) _).alloc (by simp; omega) _⟩
  · rw [Below.heap_alloc _ _ _ (by simp)]
    have := heap_alloc_new (w.alloc (.cells A ta)) (.cells B tb)
    rwa [World.size_alloc] at this
  · have := heap_alloc_new ((w.alloc (.cells A ta)).alloc (.cells B tb)) (.cells C tc)
    rwa [World.size_alloc, World.size_alloc] at this

theorem tmod_test (z : Int) (s : Int) (h0 : s ≠ 0) : (z.tmod s != 0) = !decide (z % s = 0) := by
  have : z.tmod s = 0 ↔ z % s = 0 := by rw [← Int.dvd_iff_tmod_eq_zero, ← Int.dvd_iff_emod_eq_zero]
  rw [Bool.eq_iff_iff]
  simp [this]

/-- What Check answers of an instruction of a form. -/
def CheckAns (k : Nat) (i : I6) (r : Int) : Prop := (r = 0 ∧ ValidK k i) ∨ (r = 1 ∧ ¬ ValidK k i)
end Go.Proofs.YtbidhfhmfmhiiaaGreatDoor
