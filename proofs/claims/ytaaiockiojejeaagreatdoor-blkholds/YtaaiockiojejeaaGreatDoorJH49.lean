/-
  What the three listed variables' condition gives a walk of BlkHolds, a start that meets it, and the disk's answers that came in.
-/
import Derived.Test.YtaaiockiojejeaaGreatDoorJH47
import Derived.Test.YtaaiockiojejeaaGreatDoorJH44
import Derived.Test.YtaaiockiojejeaaGreatDoorJH48
import Derived.Test.YtaaiockiojejeaaGreatDoorJH0
import Derived.Test.YtaaiockiojejeaaGreatDoorJH13
namespace Go.Proofs.YtaaiockiojejeaaGreatDoor
open Go.ChangeShapes Go.WideShapes Go.ChangeAt Go.RowKit
set_option linter.unusedVariables false

theorem laid_et : Tryz.prog.globalNamed "errors.errorType" = some 0 := by kernel_rfl
theorem laid_rt : (Tryz.prog.cutTypes.find? (·.1 == "internal/reflectlite.rtype")).map (·.2) = some 246 := by kernel_rfl
theorem laid_oneRow : ((List.range 316).filter fun t => Tryz.prog.rowNamed t [101, 114, 114, 111, 114]) = [62] := by kernel_rfl
theorem laid_size : Tryz.prog.types.size = 316 := by kernel_rfl
theorem gOff : Tryz.prog.globalNamed "pinnace/virtio.offered" = some 1 := by kernel_rfl
theorem tOff : (Tryz.prog.globals[1]?).map (·.type) = some 23 := by kernel_rfl
abbrev laidB : List (String × DataW Unit) := [("pinnace/bus.areas", Rows.laid_pinnace_bus_areas), ("pinnace/virtio.offered", Rows.laid_pinnace_virtio_offered)]
abbrev laid3 : List (String × DataW Unit) := [("errors.errorType", Rows.laid_errors_errorType), ("pinnace/bus.areas", Rows.laid_pinnace_bus_areas), ("pinnace/virtio.offered", Rows.laid_pinnace_virtio_offered)]
theorem met_of_laid3 {W : World} (h : laidMetH Tryz.prog laid3 W) : laidMet Tryz.prog laidB W ∧ handlesMet Tryz.prog [("errors.errorType", Rows.laid_errors_errorType)] W := h
set_option maxRecDepth 100000 in
theorem both_of_met {W : World} (h : laidMet Tryz.prog laidB W) : AreasAt W ∧ OffAt W := by
  obtain ⟨ps, ⟨g0, t0, cs0, f0, p0, q0, hg0, ht0, hv0, hd0, ⟨g1, t1, cs1, f1, p1, q1, hg1, ht1, hv1, hd1, _, _⟩, _⟩, _, _⟩ := h
  obtain rfl := Option.some.inj (gAreas.symm.trans hg0)
  obtain rfl := Option.some.inj (tAreas.symm.trans ht0)
  obtain rfl := Option.some.inj (gOff.symm.trans hg1)
  obtain rfl := Option.some.inj (tOff.symm.trans ht1)
  refine ⟨fun d hd => ?_, ?_⟩
  · obtain ⟨m, v0, v1, v2, q, dd, e0, e1, e2, e3, e4⟩ := area_elem hd0 d hd
    rw [World.var?_cell hg0 hv0, World.var?_cell hg0 hv0, World.var?_cell hg0 hv0, e0, e1, e2]
    obtain rfl | rfl | rfl | rfl | rfl | rfl | rfl | rfl : d = 0 ∨ d = 1 ∨ d = 2 ∨ d = 3 ∨ d = 4 ∨ d = 5 ∨ d = 6 ∨ d = 7 := by omega
    all_goals
      cases e3
      obtain ⟨rfl, rfl, rfl⟩ := area_fields e4
      exact ⟨rfl, rfl, rfl⟩
  · have c1 : Tryz.prog.cellsOf 22 = 1 := by kernel_rfl
    have c2 : Tryz.prog.cellsOf 23 = 2 := by kernel_rfl
    obtain ⟨m, v, q, d, e0, e1, e2⟩ := tab_elem Tryz.underlying23 c1 c2 hd1 0 (by decide)
    obtain ⟨m', v', q', d', e0', e1', e2'⟩ := tab_elem Tryz.underlying23 c1 c2 hd1 1 (by decide)
    cases e1
    cases e1'
    obtain ⟨z, k0, k1, _⟩ := DataW.trod_int Tryz.underlying22 e2
    obtain ⟨z', k0', k1', _⟩ := DataW.trod_int Tryz.underlying22 e2'
    cases k1
    cases k1'
    refine ⟨?_, ?_⟩
    · rw [World.var?_cell hg1 hv1, e0, (List.cons.inj k0).1]
    · rw [World.var?_cell hg1 hv1, e0', (List.cons.inj k0').1]
theorem areas_of_laid3 {W : World} (h : laidMetH Tryz.prog laid3 W) : AreasAt W := (both_of_met (met_of_laid3 h).1).1
theorem off_of_laid3 {W : World} (h : laidMetH Tryz.prog laid3 W) : OffAt W := (both_of_met (met_of_laid3 h).1).2
theorem handle_of_laid3 {W : World} (h : laidMetH Tryz.prog laid3 W) : HandleAt W := by
  obtain ⟨name, u, ty, e1, e2, e3, e4, e5⟩ := (met_of_laid3 h).2 _ (List.mem_singleton.2 rfl)
  have en : name = [101, 114, 114, 111, 114] := (Option.some.inj e1).symm
  subst en
  obtain rfl := Option.some.inj (laid_rt.symm.trans e2)
  have hm : ty ∈ (List.range 316).filter fun t => Tryz.prog.rowNamed t [101, 114, 114, 111, 114] := List.mem_filter.2 ⟨List.mem_range.2 (by rw [← laid_size]; exact e3), e4⟩
  rw [laid_oneRow] at hm
  obtain rfl := List.mem_singleton.1 hm
  have hh : typeHandle Tryz.prog 62 = .pointer (some ⟨3, 62, none⟩) := by kernel_rfl
  rw [hh] at e5
  simpa [HandleAt] using World.var?_cell laid_et e5 0
theorem door3 (os : Os) (args : Array Value) : laidMetH Tryz.prog laid3 ((World.doorLaid Tryz.prog 600 os).forCall (fun _ _ => 0) ⟨#[], args, []⟩).memory :=
  laidMetH_of_parts (laidMet_of_run' 8 (by kernel_rfl) (by kernel_rfl)) (by kernel_rfl)
theorem cells_bo : Tryz.prog.cellsOf 4 = 1 := by kernel_rfl
theorem cells_do : Tryz.prog.cellsOf 69 = 4 := by kernel_rfl
theorem open_dones {H' : Type} {enc : TypeId × Value → H'} {W : World} {held : Bool} {base : Nat} {spare : Nat → Bool} {a : Option Addr} {len cap : Nat} {d : DataW H'} {p : List MemPlace}
    (h : DataW.Trod enc Tryz.prog W base spare held 77 (.slice a len cap) d p) : ∃ g : Nat → Nat × Bool × Int, len ≤ cap ∧ cap ≤ 9223372036854775807 ∧ DonesAt W W.heap.size a len (fun j => (g j).1) (fun j => (g j).2.1) (fun j => (g j).2.2) := by
  obtain ⟨fuel, hf⟩ := h
  obtain ⟨a', len', cap', hvs, h1, h2, hel⟩ := open_elems Tryz.underlying77 cells_do (by decide) (fun n cs y hy => by
    obtain ⟨xs, m, _, _, hlen, _, _⟩ := DataW.trod_struct Tryz.underlying69 hy
    rw [cells_do] at hlen
    exact hlen) hf
  simp only [Value.cells, List.cons.injEq, Value.slice.injEq, and_true] at hvs
  obtain ⟨rfl, rfl, rfl⟩ := hvs
  unfold maxLen at h2
  have each : ∀ j, ∃ g : Nat × Bool × Int, j < len → (∃ b o, a = some ⟨b, o, none⟩ ∧ b < W.heap.size ∧ W.cell? ⟨b, o + j * 4, none⟩ = some (.int .u32 (g.1 : Nat)) ∧ W.cell? ⟨b, o + j * 4 + 1, none⟩ = some (.bool g.2.1) ∧ W.cell? ⟨b, o + j * 4 + 2, none⟩ = some (.int .i64 g.2.2)) ∧ g.1 < 4294967296 ∧ -9223372036854775808 ≤ g.2.2 ∧ g.2.2 ≤ 9223372036854775807 := by
    intro j
    by_cases hj : j < len
    · obtain ⟨b, o, cs, m, y, e, hcl, hc, hy⟩ := hel j hj
      obtain ⟨xs, n, _, _, hlen, hxl, hx⟩ := DataW.trod_struct Tryz.underlying69 hy
      have hxs : xs.length = 4 := hxl
      have f0 : DataW.trod enc Tryz.prog W base spare held n 22 ((cs.drop 0).take (Tryz.prog.cellsOf 22)) = xs[0]? := hx 0 _ rfl
      rw [some_of (by omega), cells_w] at f0
      obtain ⟨n0, e0, b0⟩ := word_at f0
      have f1 : DataW.trod enc Tryz.prog W base spare held n 4 ((cs.drop 1).take (Tryz.prog.cellsOf 4)) = xs[1]? := hx 1 _ rfl
      rw [some_of (by omega), cells_bo] at f1
      obtain ⟨n1, e1, _⟩ := DataW.trod_bool Tryz.underlying4 f1
      have f2 : DataW.trod enc Tryz.prog W base spare held n 3 ((cs.drop 2).take (Tryz.prog.cellsOf 3)) = xs[2]? := hx 2 _ rfl
      rw [some_of (by omega), cells_in] at f2
      obtain ⟨n2, e2, b2⟩ := int_at f2
      have c0 := (hc 0 (by decide)).trans (one_at e0)
      have c1 := (hc 1 (by decide)).trans (one_at e1)
      have c2 := (hc 2 (by decide)).trans (one_at e2)
      exact ⟨(n0, n1, n2), fun _ => ⟨⟨b, o, e, lt_of_cell c0, c0, c1, c2⟩, b0, b2⟩⟩
    · exact ⟨(0, false, 0), fun h => absurd h hj⟩
  have hg := fun j => Classical.choose_spec (each j)
  exact ⟨fun j => Classical.choose (each j), h1, h2, ⟨fun j hj => (hg j hj).1, fun j hj => (hg j hj).2⟩⟩
end Go.Proofs.YtaaiockiojejeaaGreatDoor
