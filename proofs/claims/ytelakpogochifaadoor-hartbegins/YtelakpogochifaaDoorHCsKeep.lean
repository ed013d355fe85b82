/-
  What a call leaves of the cells that lay: laws that the walks share.
-/
import Derived.Test.YtelakpogochifaaDoorHCsProg
import Derived.Deep.RegionHeld3
namespace Go.Proofs.YtelakpogochifaaDoor
open Go.RowKit
set_option linter.unusedVariables false

theorem Calls.bel1 {P : Program} {f : Nat} {args : Array Value} {r : Value} {w1 : World} (h : Calls P f args w1 fun e w2 => e = .returned r ∧ ∃ o, w2 = w1.alloc o) : Calls P f args w1 fun e w2 => e = .returned r ∧ Below w1.heap.size w1 w2 :=
  h.mono fun e w2 ⟨he, o, hw⟩ => ⟨he, hw ▸ below_one _ _⟩
theorem Calls.bel2 {P : Program} {f : Nat} {args : Array Value} {r : Value} {w1 : World} (h : Calls P f args w1 fun e w2 => e = .returned r ∧ ∃ o o', w2 = (w1.alloc o).alloc o') : Calls P f args w1 fun e w2 => e = .returned r ∧ Below w1.heap.size w1 w2 :=
  h.mono fun e w2 ⟨he, o, o', hw⟩ => ⟨he, hw ▸ below_two _ _ _⟩
theorem Calls.bel3 {P : Program} {f : Nat} {args : Array Value} {r : Value} {w1 : World} (h : Calls P f args w1 fun e w2 => e = .returned r ∧ ∃ o o' p, w2 = ((w1.alloc o).alloc o').alloc p) : Calls P f args w1 fun e w2 => e = .returned r ∧ Below w1.heap.size w1 w2 :=
  h.mono fun e w2 ⟨he, o, o', p, hw⟩ => ⟨he, hw ▸ below_three _ _ _ _⟩
end Go.Proofs.YtelakpogochifaaDoor
