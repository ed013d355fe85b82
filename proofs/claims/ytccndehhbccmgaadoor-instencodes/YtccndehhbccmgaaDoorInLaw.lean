/-
  What the listed variables' condition gives a walk, and a start that meets it.
-/
import Derived.Test.YtccndehhbccmgaaDoorInSure
import Derived.Test.YtccndehhbccmgaaDoorTabs
import Derived.Test.YtccndehhbccmgaaDoorTie
import Derived.Test.YtccndehhbccmgaaDoorCards
import Derived.LaidHandle
import Derived.Stop.Joined
import Derived.SevenTiedAt
import Derived.SizedLaws
namespace Go.Proofs.YtccndehhbccmgaaDoor
open Go.ChangeShapes Go.WideShapes Go.ChangeAt Go.RowKit
set_option linter.unusedVariables false

theorem own : ownKnob Tryd.prog.godebug = none := by kernel_rfl
theorem gKinds : Tryd.prog.globalNamed "pinnace/inst.kinds" = some 0 := by kernel_rfl
theorem gWords : Tryd.prog.globalNamed "pinnace/inst.words" = some 1 := by kernel_rfl
theorem gNames : Tryd.prog.globalNamed "pinnace/inst.names" = some 2 := by kernel_rfl
theorem tKinds : (Tryd.prog.globals[0]?).map (·.type) = some 54 := by kernel_rfl
theorem tWords : (Tryd.prog.globals[1]?).map (·.type) = some 55 := by kernel_rfl
theorem tNames : (Tryd.prog.globals[2]?).map (·.type) = some 68 := by kernel_rfl
theorem dKinds : (Rows.laid_pinnace_inst_kinds : DataW Unit) = .agg (kindL.map fun x : Nat => .lit (.int .u8 (x : Int))) := rfl
theorem dWords : (Rows.laid_pinnace_inst_words : DataW Unit) = .agg (wordL.map fun x : Nat => .lit (.int .u32 (x : Int))) := rfl
theorem dNames : (Rows.laid_pinnace_inst_names : DataW Unit) = .agg (nameL.map fun x => .lit (.string x)) := rfl

abbrev laid3 : List (String × DataW Unit) := [("pinnace/inst.names", Rows.laid_pinnace_inst_names), ("pinnace/inst.kinds", Rows.laid_pinnace_inst_kinds), ("pinnace/inst.words", Rows.laid_pinnace_inst_words)]

theorem tabs_of_laid3 {W : World} (h : laidMet Tryd.prog laid3 W) : TabsAt W := by
  obtain ⟨ps, ⟨g0, t0, cs0, f0, p0, q0, hg0, ht0, hv0, hd0, ⟨g1, t1, cs1, f1, p1, q1, hg1, ht1, hv1, hd1, ⟨g2, t2, cs2, f2, p2, q2, hg2, ht2, hv2, hd2, _, _⟩, _⟩, _⟩, _, _⟩ := h
  obtain rfl := Option.some.inj (gNames.symm.trans hg0)
  obtain rfl := Option.some.inj (gKinds.symm.trans hg1)
  obtain rfl := Option.some.inj (gWords.symm.trans hg2)
  obtain rfl := Option.some.inj (tNames.symm.trans ht0)
  obtain rfl := Option.some.inj (tKinds.symm.trans ht1)
  obtain rfl := Option.some.inj (tWords.symm.trans ht2)
  rw [dNames] at hd0
  rw [dKinds] at hd1
  rw [dWords] at hd2
  exact ⟨⟨tab_int hg1 hv1 Tryd.underlying54 Tryd.underlying5 (by kernel_rfl) (by kernel_rfl) rfl hd1, tab_int hg2 hv2 Tryd.underlying55 Tryd.underlying22 (by kernel_rfl) (by kernel_rfl) rfl hd2⟩,
    tab_str hg0 hv0 Tryd.underlying68 Tryd.underlying9 (by kernel_rfl) (by kernel_rfl) rfl hd0⟩

theorem tabs_of_laid {W : World} (h : laidMetH Tryd.prog laid3 W) : TabsAt W := by
  rw [MakeChecks.laidMetH_plain _ _ _ (by kernel_rfl)] at h
  exact tabs_of_laid3 h

theorem door3 (os : Os) (args : Array Value) : laidMetH Tryd.prog laid3 ((World.doorLaid Tryd.prog 600 os).forCall (fun _ _ => 0) ⟨#[], args, []⟩).memory :=
  laidMetH_of_parts3 (fuel := 8) (laidMet_of_run' 8 (by kernel_rfl) (by kernel_rfl)) (by kernel_rfl) (by kernel_rfl)
end Go.Proofs.YtccndehhbccmgaaDoor
