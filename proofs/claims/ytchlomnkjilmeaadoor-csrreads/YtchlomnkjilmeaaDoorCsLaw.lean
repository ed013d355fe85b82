/-
  What the listed variable's condition gives a walk, and a start that meets it.
-/
import Derived.Test.YtchlomnkjilmeaaDoorCsAsks
import Derived.Test.YtchlomnkjilmeaaDoorTabs
import Derived.Test.YtchlomnkjilmeaaDoorTie
import Derived.Test.YtchlomnkjilmeaaDoorCards
import Derived.LaidHandle
import Derived.Stop.Joined
import Derived.SevenTiedAt
import Derived.SizedLaws
namespace Go.Proofs.YtchlomnkjilmeaaDoor
open Go.ChangeShapes Go.WideShapes Go.ChangeAt Go.RowKit
set_option linter.unusedVariables false

theorem own : ownKnob Tryd.prog.godebug = none := by kernel_rfl
theorem laidOut : laidOutB Tryd.prog = true := by kernel_rfl
def orderL : List Nat := [11, 3, 7]
theorem gOrder : Tryd.prog.globalNamed "pinnace/csr.order" = some 0 := by kernel_rfl
theorem tOrder : (Tryd.prog.globals[0]?).map (·.type) = some 61 := by kernel_rfl
theorem dOrder : (Rows.laid_pinnace_csr_order : DataW Unit) = .agg (orderL.map fun x : Nat => .lit (.int .u32 (x : Int))) := rfl

abbrev laid1 : List (String × DataW Unit) := [("pinnace/csr.order", Rows.laid_pinnace_csr_order)]

theorem order_of_laid {W : World} (h0 : laidMetH Tryd.prog laid1 W) : OrderAt W := by
  have h := h0
  rw [MakeChecks.laidMetH_plain _ _ _ (by kernel_rfl)] at h
  obtain ⟨ps, ⟨g0, t0, cs0, f0, p0, q0, hg0, ht0, hv0, hd0, _, _⟩, _, _⟩ := h
  obtain rfl := Option.some.inj (gOrder.symm.trans hg0)
  obtain rfl := Option.some.inj (tOrder.symm.trans ht0)
  rw [dOrder] at hd0
  have ht := tab_int hg0 hv0 Tryd.underlying61 Tryd.underlying22 (by kernel_rfl) (by kernel_rfl) rfl hd0
  exact ⟨ht 0 (by decide), ht 1 (by decide), ht 2 (by decide)⟩

theorem door1 (os : Os) (args : Array Value) : laidMetH Tryd.prog laid1 ((World.doorLaid Tryd.prog 600 os).forCall (fun _ _ => 0) ⟨#[], args, []⟩).memory :=
  laidMetH_of_parts3 (fuel := 8) (laidMet_of_run' 8 (by kernel_rfl) (by kernel_rfl)) (by kernel_rfl) (by kernel_rfl)
end Go.Proofs.YtchlomnkjilmeaaDoor
