/-
  What the listed variables' condition gives a walk over a hart, and a start that meets it.
-/
import Derived.Test.YtelakpogochifaaDoorHaAll
import Derived.Test.YtelakpogochifaaDoorTabs
import Derived.Test.YtelakpogochifaaDoorTie
import Derived.Test.YtelakpogochifaaDoorCards
import Derived.LaidHandle
import Derived.Stop.Joined
import Derived.SevenTiedAt
import Derived.SizedLaws
namespace Go.Proofs.YtelakpogochifaaDoor
open Go.ChangeShapes Go.WideShapes Go.ChangeAt Go.RowKit
set_option linter.unusedVariables false

theorem own : ownKnob Tryd.prog.godebug = none := by kernel_rfl
theorem laidOut : laidOutB Tryd.prog = true := by kernel_rfl
theorem gKinds : Tryd.prog.globalNamed "pinnace/inst.kinds" = some 0 := by kernel_rfl
theorem gWords : Tryd.prog.globalNamed "pinnace/inst.words" = some 1 := by kernel_rfl
theorem gOns : Tryd.prog.globalNamed "pinnace/hart.onNumbers" = some 3 := by kernel_rfl
theorem gWids : Tryd.prog.globalNamed "pinnace/hart.widths" = some 2 := by kernel_rfl
theorem tKinds : (Tryd.prog.globals[0]?).map (·.type) = some 98 := by kernel_rfl
theorem tWords : (Tryd.prog.globals[1]?).map (·.type) = some 99 := by kernel_rfl
theorem tOns : (Tryd.prog.globals[3]?).map (·.type) = some 111 := by kernel_rfl
theorem tWids : (Tryd.prog.globals[2]?).map (·.type) = some 103 := by kernel_rfl
theorem dKinds : (Rows.laid_pinnace_inst_kinds : DataW Unit) = .agg (kindL.map fun x : Nat => .lit (.int .u8 (x : Int))) := rfl
theorem dWords : (Rows.laid_pinnace_inst_words : DataW Unit) = .agg (wordL.map fun x : Nat => .lit (.int .u32 (x : Int))) := rfl
theorem dOns : (Rows.laid_pinnace_hart_onNumbers : DataW Unit) = .agg (onL.map fun x : Nat => .lit (.int .i64 (x : Int))) := rfl
theorem dWids : (Rows.laid_pinnace_hart_widths : DataW Unit) = .agg (widL.map fun x : Nat => .lit (.int .i64 (x : Int))) := rfl
theorem widN_at (j : Nat) (hj : j < 5) : widL.getD j 0 = widN j := by
  rcases j with _ | _ | _ | _ | _ | j
  all_goals first | rfl | omega

abbrev laid4 : List (String × DataW Unit) := [("pinnace/inst.kinds", Rows.laid_pinnace_inst_kinds), ("pinnace/inst.words", Rows.laid_pinnace_inst_words), ("pinnace/hart.onNumbers", Rows.laid_pinnace_hart_onNumbers), ("pinnace/hart.widths", Rows.laid_pinnace_hart_widths)]

theorem hart_of_laid {W : World} (h0 : laidMetH Tryd.prog laid4 W) : HartAt W := by
  have h := h0
  rw [MakeChecks.laidMetH_plain _ _ _ (by kernel_rfl)] at h
  obtain ⟨ps, ⟨g0, t0, cs0, f0, p0, q0, hg0, ht0, hv0, hd0, ⟨g1, t1, cs1, f1, p1, q1, hg1, ht1, hv1, hd1, ⟨g2, t2, cs2, f2, p2, q2, hg2, ht2, hv2, hd2, ⟨g3, t3, cs3, f3, p3, q3, hg3, ht3, hv3, hd3, _, _⟩, _⟩, _⟩, _⟩, _, _⟩ := h
  obtain rfl := Option.some.inj (gKinds.symm.trans hg0)
  obtain rfl := Option.some.inj (gWords.symm.trans hg1)
  obtain rfl := Option.some.inj (gOns.symm.trans hg2)
  obtain rfl := Option.some.inj (gWids.symm.trans hg3)
  obtain rfl := Option.some.inj (tKinds.symm.trans ht0)
  obtain rfl := Option.some.inj (tWords.symm.trans ht1)
  obtain rfl := Option.some.inj (tOns.symm.trans ht2)
  obtain rfl := Option.some.inj (tWids.symm.trans ht3)
  rw [dKinds] at hd0
  rw [dWords] at hd1
  rw [dOns] at hd2
  rw [dWids] at hd3
  refine ⟨tab_int hg0 hv0 Tryd.underlying98 Tryd.underlying5 (by kernel_rfl) (by kernel_rfl) rfl hd0, tab_int hg1 hv1 Tryd.underlying99 Tryd.underlying22 (by kernel_rfl) (by kernel_rfl) rfl hd1, tab_int hg2 hv2 Tryd.underlying111 Tryd.underlying3 (by kernel_rfl) (by kernel_rfl) rfl hd2, fun j hj => ?_⟩
  have := tab_int hg3 hv3 Tryd.underlying103 Tryd.underlying3 (by kernel_rfl) (by kernel_rfl) rfl hd3 j hj
  rw [widN_at j hj] at this
  exact this

theorem door4 (os : Os) (args : Array Value) : laidMetH Tryd.prog laid4 ((World.doorLaid Tryd.prog 600 os).forCall (fun _ _ => 0) ⟨#[], args, []⟩).memory :=
  laidMetH_of_parts3 (fuel := 8) (laidMet_of_run' 8 (by kernel_rfl) (by kernel_rfl)) (by kernel_rfl) (by kernel_rfl)
end Go.Proofs.YtelakpogochifaaDoor
