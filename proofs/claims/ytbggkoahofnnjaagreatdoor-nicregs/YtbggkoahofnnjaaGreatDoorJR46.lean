/-
  What the listed variables' condition gives a walk of nic's laws, and starts that meet it.
-/
import Derived.Test.YtbggkoahofnnjaaGreatDoorJR45
import Derived.Test.YtbggkoahofnnjaaGreatDoorJR7
import Derived.Test.YtbggkoahofnnjaaGreatDoorJR17
open Go.Proofs.Tryz
set_option linter.unusedVariables false
set_option linter.unusedSimpArgs false
namespace Go.Proofs.YtbggkoahofnnjaaGreatDoor
open Go.ChangeShapes Go.WideShapes Go.ChangeAt Go.RowKit
theorem laid_et : prog.globalNamed "errors.errorType" = some 0 := by kernel_rfl
theorem laid_rt : (prog.cutTypes.find? (·.1 == "internal/reflectlite.rtype")).map (·.2) = some 201 := by kernel_rfl
theorem laid_oneRow : ((List.range 303).filter fun t => prog.rowNamed t [101, 114, 114, 111, 114]) = [44] := by kernel_rfl
theorem laid_size : prog.types.size = 303 := by kernel_rfl
theorem gOff : prog.globalNamed "pinnace/virtio.offered" = some 1 := by kernel_rfl
theorem tOff : (prog.globals[1]?).map (·.type) = some 23 := by kernel_rfl
abbrev laidB : List (String × DataW Unit) := [("pinnace/bus.areas", Rows.laid_pinnace_bus_areas), ("pinnace/virtio.offered", Rows.laid_pinnace_virtio_offered)]
abbrev laid3 : List (String × DataW Unit) := [("errors.errorType", Rows.laid_errors_errorType), ("pinnace/bus.areas", Rows.laid_pinnace_bus_areas), ("pinnace/virtio.offered", Rows.laid_pinnace_virtio_offered)]
theorem met_of_laid3 {W : World} (h : laidMetH prog laid3 W) : laidMet prog laidB W ∧ handlesMet prog [("errors.errorType", Rows.laid_errors_errorType)] W := h
set_option maxRecDepth 100000 in
theorem both_of_met {W : World} (h : laidMet prog laidB W) : AreasAt W ∧ OffAt W := by
  obtain ⟨ps, ⟨g0, t0, cs0, f0, p0, q0, hg0, ht0, hv0, hd0, ⟨g1, t1, cs1, f1, p1, q1, hg1, ht1, hv1, hd1, _, _⟩, _⟩, _, _⟩ := h
  obtain rfl := Option.some.inj (gAreas.symm.trans hg0)
  obtain rfl := Option.some.inj (tAreas.symm.trans ht0)
  obtain rfl := Option.some.inj (gOff.symm.trans hg1)
  obtain rfl := Option.some.inj (tOff.symm.trans ht1)
  refine ⟨fun d hd => ?_, ?_⟩
  · obtain ⟨m, v0, v1, v2, q, dd, e0, e1, e2, e3, e4⟩ := area_elem hd0 d hd
    rw [World.var?_cell hg0 hv0, World.var?_cell hg0 hv0, World.var?_cell hg0 hv0, e0, e1, e2]
    obtain rfl | rfl | rfl | rfl | rfl | rfl | rfl | rfl : d = 0 ∨ d = 1 ∨ d = 2 ∨ d = 3 ∨ d = 4 ∨ d = 5 ∨ d = 6 ∨ d = 7 := by omega
    all_goals
      cases e3
      obtain ⟨rfl, rfl, rfl⟩ := area_fields e4
      exact ⟨rfl, rfl, rfl⟩
  · have c1 : prog.cellsOf 22 = 1 := by kernel_rfl
    have c2 : prog.cellsOf 23 = 2 := by kernel_rfl
    obtain ⟨m, v, q, d, e0, e1, e2⟩ := tab_elem underlying23 c1 c2 hd1 0 (by decide)
    obtain ⟨m', v', q', d', e0', e1', e2'⟩ := tab_elem underlying23 c1 c2 hd1 1 (by decide)
    cases e1
    cases e1'
    obtain ⟨z, k0, k1, _⟩ := DataW.trod_int underlying22 e2
    obtain ⟨z', k0', k1', _⟩ := DataW.trod_int underlying22 e2'
    cases k1
    cases k1'
    refine ⟨?_, ?_⟩
    · rw [World.var?_cell hg1 hv1, e0, (List.cons.inj k0).1]
    · rw [World.var?_cell hg1 hv1, e0', (List.cons.inj k0').1]
theorem areas_of_laid3 {W : World} (h : laidMetH prog laid3 W) : AreasAt W := (both_of_met (met_of_laid3 h).1).1
theorem off_of_laid3 {W : World} (h : laidMetH prog laid3 W) : OffAt W := (both_of_met (met_of_laid3 h).1).2
theorem handle_of_laid3 {W : World} (h : laidMetH prog laid3 W) : HandleAt W := by
  obtain ⟨name, u, ty, e1, e2, e3, e4, e5⟩ := (met_of_laid3 h).2 _ (List.mem_singleton.2 rfl)
  have en : name = [101, 114, 114, 111, 114] := (Option.some.inj e1).symm
  subst en
  obtain rfl := Option.some.inj (laid_rt.symm.trans e2)
  have hm : ty ∈ (List.range 303).filter fun t => prog.rowNamed t [101, 114, 114, 111, 114] := List.mem_filter.2 ⟨List.mem_range.2 (by rw [← laid_size]; exact e3), e4⟩
  rw [laid_oneRow] at hm
  obtain rfl := List.mem_singleton.1 hm
  have hh : typeHandle prog 44 = .pointer (some ⟨3, 44, none⟩) := by kernel_rfl
  rw [hh] at e5
  simpa [HandleAt] using World.var?_cell laid_et e5 0
theorem door3 (os : Os) (args : Array Value) : laidMetH prog laid3 ((World.doorLaid prog 600 os).forCall (fun _ _ => 0) ⟨#[], args, []⟩).memory :=
  laidMetH_of_parts (laidMet_of_run' 8 (by kernel_rfl) (by kernel_rfl)) (by kernel_rfl)
end Go.Proofs.YtbggkoahofnnjaaGreatDoor
