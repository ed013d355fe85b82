/-
  What the listed variables' condition gives a walk of stage 19, and starts that meet it.
-/
import Derived.Test.YtkahkkcbigifiaaDoorSmE
import Derived.Test.YtkahkkcbigifiaaDoorTabs
import Derived.Test.YtkahkkcbigifiaaDoorTie
import Derived.Test.YtkahkkcbigifiaaDoorCards
import Derived.LaidHandle
import Derived.Stop.Joined
import Derived.SevenTiedAt
import Derived.SizedLaws
namespace Go.Proofs.YtkahkkcbigifiaaDoor
open Go.ChangeShapes Go.WideShapes Go.ChangeAt Go.RowKit
set_option linter.unusedVariables false

theorem own : ownKnob Tryd.prog.godebug = none := by kernel_rfl
theorem laidOut : laidOutB Tryd.prog = true := by kernel_rfl
theorem laid_et : Tryd.prog.globalNamed "errors.errorType" = some 0 := by kernel_rfl
theorem laid_rt : (Tryd.prog.cutTypes.find? (·.1 == "internal/reflectlite.rtype")).map (·.2) = some 118 := by kernel_rfl
theorem laid_oneRow : ((List.range 163).filter fun t => Tryd.prog.rowNamed t [101, 114, 114, 111, 114]) = [28] := by kernel_rfl
theorem laid_size : Tryd.prog.types.size = 163 := by kernel_rfl
theorem gCar : Tryd.prog.globalNamed "pinnace/sum.carried" = some 1 := by kernel_rfl
theorem tCar : (Tryd.prog.globals[1]?).map (·.type) = some 133 := by kernel_rfl
abbrev laid1 : List (String × DataW Unit) := [("pinnace/sum.carried", Rows.laid_pinnace_sum_carried)]
abbrev laid2 : List (String × DataW Unit) := [("errors.errorType", Rows.laid_errors_errorType), ("pinnace/sum.carried", Rows.laid_pinnace_sum_carried)]
theorem met_of_laid2 {W : World} (h : laidMetH Tryd.prog laid2 W) : laidMet Tryd.prog [("pinnace/sum.carried", Rows.laid_pinnace_sum_carried)] W ∧ handlesMet Tryd.prog [("errors.errorType", Rows.laid_errors_errorType)] W := h
theorem handle_of_laid2 {W : World} (h : laidMetH Tryd.prog laid2 W) : HandleAt W := by
  obtain ⟨name, u, ty, e1, e2, e3, e4, e5⟩ := (met_of_laid2 h).2 _ (List.mem_singleton.2 rfl)
  have en : name = [101, 114, 114, 111, 114] := (Option.some.inj e1).symm
  subst en
  obtain rfl := Option.some.inj (laid_rt.symm.trans e2)
  have hm : ty ∈ (List.range 163).filter fun t => Tryd.prog.rowNamed t [101, 114, 114, 111, 114] := List.mem_filter.2 ⟨List.mem_range.2 (by rw [← laid_size]; exact e3), e4⟩
  rw [laid_oneRow] at hm
  obtain rfl := List.mem_singleton.1 hm
  have hh : typeHandle Tryd.prog 28 = .pointer (some ⟨2, 28, none⟩) := by kernel_rfl
  rw [hh] at e5
  simpa [HandleAt] using World.var?_cell laid_et e5 0
theorem laid_tab : Rows.laid_pinnace_sum_carried (H := Unit) = .agg (tabL.map fun x : Nat => .lit (.int .u32 (x : Int))) := rfl
theorem tab_of {W : World} (h : laidMet Tryd.prog [("pinnace/sum.carried", Rows.laid_pinnace_sum_carried)] W) : TabAt W := by
  obtain ⟨ps, ⟨g0, t0, cs0, f0, p0, q0, hg0, ht0, hv0, hd0, _, _⟩, _, _⟩ := h
  obtain rfl := Option.some.inj (gCar.symm.trans hg0)
  obtain rfl := Option.some.inj (tCar.symm.trans ht0)
  intro j hj
  rw [laid_tab] at hd0
  exact tab_int hg0 hv0 Tryd.underlying133 Tryd.underlying22 (by kernel_rfl) (by kernel_rfl) rfl hd0 j hj
theorem tab_of_laid1 {W : World} (h : laidMetH Tryd.prog laid1 W) : TabAt W := tab_of h
theorem tab_of_laid2 {W : World} (h : laidMetH Tryd.prog laid2 W) : TabAt W := tab_of (met_of_laid2 h).1
theorem door1 (os : Os) (args : Array Value) : laidMetH Tryd.prog laid1 ((World.doorLaid Tryd.prog 600 os).forCall (fun _ _ => 0) ⟨#[], args, []⟩).memory :=
  laidMetH_of_parts (laidMet_of_run' 8 (by kernel_rfl) (by kernel_rfl)) (by kernel_rfl)
theorem door2 (os : Os) (args : Array Value) : laidMetH Tryd.prog laid2 ((World.doorLaid Tryd.prog 600 os).forCall (fun _ _ => 0) ⟨#[], args, []⟩).memory :=
  laidMetH_of_parts (laidMet_of_run' 8 (by kernel_rfl) (by kernel_rfl)) (by kernel_rfl)
end Go.Proofs.YtkahkkcbigifiaaDoor
