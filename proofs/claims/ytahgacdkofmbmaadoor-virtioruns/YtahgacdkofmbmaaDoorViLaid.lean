/-
  What the listed variables' condition gives a walk of stage 14, and a start that meets it.
-/
import Derived.Test.YtahgacdkofmbmaaDoorViProg
import Derived.Test.YtahgacdkofmbmaaDoorTabs
import Derived.Test.YtahgacdkofmbmaaDoorNum
import Derived.Test.YtahgacdkofmbmaaDoorTie
import Derived.Test.YtahgacdkofmbmaaDoorCards
import Derived.LaidHandle
import Derived.Stop.Joined
import Derived.SevenTiedAt
import Derived.SizedLaws
namespace Go.Proofs.YtahgacdkofmbmaaDoor
open Go.ChangeShapes Go.WideShapes Go.ChangeAt Go.RowKit
set_option linter.unusedVariables false

theorem own : ownKnob Tryd.prog.godebug = none := by kernel_rfl
theorem laidOut : laidOutB Tryd.prog = true := by kernel_rfl
theorem gOff : Tryd.prog.globalNamed "pinnace/virtio.offered" = some 0 := by kernel_rfl
theorem tOff : (Tryd.prog.globals[0]?).map (·.type) = some 23 := by kernel_rfl
abbrev laid1 : List (String × DataW Unit) := [("pinnace/virtio.offered", Rows.laid_pinnace_virtio_offered)]
theorem off_of_met {W : World} (h : laidMet Tryd.prog [("pinnace/virtio.offered", Rows.laid_pinnace_virtio_offered)] W) : OffAt W := by
  obtain ⟨ps, ⟨g0, t0, cs0, f0, p0, q0, hg0, ht0, hv0, hd0, _, _⟩, _, _⟩ := h
  obtain rfl := Option.some.inj (gOff.symm.trans hg0)
  obtain rfl := Option.some.inj (tOff.symm.trans ht0)
  have c1 : Tryd.prog.cellsOf 22 = 1 := by kernel_rfl
  have c2 : Tryd.prog.cellsOf 23 = 2 := by kernel_rfl
  obtain ⟨m, v, q, d, e0, e1, e2⟩ := tab_elem Tryd.underlying23 c1 c2 hd0 0 (by decide)
  obtain ⟨m', v', q', d', e0', e1', e2'⟩ := tab_elem Tryd.underlying23 c1 c2 hd0 1 (by decide)
  cases e1
  cases e1'
  obtain ⟨z, k0, k1, _⟩ := DataW.trod_int Tryd.underlying22 e2
  obtain ⟨z', k0', k1', _⟩ := DataW.trod_int Tryd.underlying22 e2'
  cases k1
  cases k1'
  refine ⟨?_, ?_⟩
  · rw [World.var?_cell hg0 hv0, e0, (List.cons.inj k0).1]
  · rw [World.var?_cell hg0 hv0, e0', (List.cons.inj k0').1]
theorem off_of_laid1 {W : World} (h : laidMetH Tryd.prog laid1 W) : OffAt W := off_of_met h
theorem door1 (os : Os) (args : Array Value) : laidMetH Tryd.prog laid1 ((World.doorLaid Tryd.prog 600 os).forCall (fun _ _ => 0) ⟨#[], args, []⟩).memory :=
  laidMetH_of_parts (laidMet_of_run' 8 (by kernel_rfl) (by kernel_rfl)) (by kernel_rfl)
theorem laid_et : Tryd.prog.globalNamed "errors.errorType" = some 1 := by kernel_rfl
theorem laid_rt : (Tryd.prog.cutTypes.find? (·.1 == "internal/reflectlite.rtype")).map (·.2) = some 94 := by kernel_rfl
theorem laid_oneRow : ((List.range 135).filter fun t => Tryd.prog.rowNamed t [101, 114, 114, 111, 114]) = [40] := by kernel_rfl
theorem laid_size : Tryd.prog.types.size = 135 := by kernel_rfl
abbrev laid2 : List (String × DataW Unit) := [("errors.errorType", Rows.laid_errors_errorType), ("pinnace/virtio.offered", Rows.laid_pinnace_virtio_offered)]
theorem met_of_laid2 {W : World} (h : laidMetH Tryd.prog laid2 W) : laidMet Tryd.prog [("pinnace/virtio.offered", Rows.laid_pinnace_virtio_offered)] W ∧ handlesMet Tryd.prog [("errors.errorType", Rows.laid_errors_errorType)] W := h
theorem off_of_laid2 {W : World} (h : laidMetH Tryd.prog laid2 W) : OffAt W := off_of_met (met_of_laid2 h).1
theorem handle_of_laid2 {W : World} (h : laidMetH Tryd.prog laid2 W) : HandleAt W := by
  obtain ⟨name, u, ty, e1, e2, e3, e4, e5⟩ := (met_of_laid2 h).2 _ (List.mem_singleton.2 rfl)
  have en : name = [101, 114, 114, 111, 114] := (Option.some.inj e1).symm
  subst en
  obtain rfl := Option.some.inj (laid_rt.symm.trans e2)
  have hm : ty ∈ (List.range 135).filter fun t => Tryd.prog.rowNamed t [101, 114, 114, 111, 114] := List.mem_filter.2 ⟨List.mem_range.2 (by rw [← laid_size]; exact e3), e4⟩
  rw [laid_oneRow] at hm
  obtain rfl := List.mem_singleton.1 hm
  have hh : typeHandle Tryd.prog 40 = .pointer (some ⟨2, 40, none⟩) := by kernel_rfl
  rw [hh] at e5
  simpa [HandleAt] using World.var?_cell laid_et e5 0
theorem door2 (os : Os) (args : Array Value) : laidMetH Tryd.prog laid2 ((World.doorLaid Tryd.prog 600 os).forCall (fun _ _ => 0) ⟨#[], args, []⟩).memory :=
  laidMetH_of_parts (laidMet_of_run' 8 (by kernel_rfl) (by kernel_rfl)) (by kernel_rfl)
theorem HandleAt.below {w w' : World} (h : HandleAt w) (hb : Below w.heap.size w w') : HandleAt w' := by
  have hl : 1 < w.heap.size := by
    rcases Nat.lt_or_ge 1 w.heap.size with h' | h'
    · exact h'
    · simp [HandleAt, World.cell?, Array.getElem?_eq_none h'] at h
  exact (hb.cell (p := ⟨1, 0, none⟩) hl).trans h
theorem num_all (n : Nat) (w : World) (hg : HandleAt w) : Calls Tryd.prog 11 #[errR n] w fun e w' => e = .returned (.int .i64 (n : Nat)) ∧ Below w.heap.size w w' := by
  by_cases h : n = 0
  · subst h
    exact num_nil w
  · unfold errR
    rw [if_neg h]
    exact num_err n w hg
end Go.Proofs.YtahgacdkofmbmaaDoor
