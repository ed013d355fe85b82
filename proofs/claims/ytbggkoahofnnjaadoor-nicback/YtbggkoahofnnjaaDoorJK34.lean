/-
  What the bus's map, as it is laid, gives a walk, and a start that meets it.
-/
import Derived.Test.YtbggkoahofnnjaaDoorJK14
import Derived.Test.YtbggkoahofnnjaaDoorJK33
import Derived.Test.YtbggkoahofnnjaaDoorTie
import Derived.Test.YtbggkoahofnnjaaDoorCards
import Derived.LaidHandle
import Derived.Stop.Joined
import Derived.SevenTiedAt
import Derived.SizedLaws
namespace Go.Proofs.YtbggkoahofnnjaaDoor
open Go.ChangeShapes Go.WideShapes Go.ChangeAt Go.RowKit
set_option linter.unusedVariables false

theorem own : ownKnob Tryd.prog.godebug = none := by kernel_rfl
theorem laidOut : laidOutB Tryd.prog = true := by kernel_rfl
theorem gAreas : Tryd.prog.globalNamed "pinnace/bus.areas" = some 0 := by kernel_rfl
theorem tAreas : (Tryd.prog.globals[0]?).map (·.type) = some 159 := by kernel_rfl
abbrev laid1 : List (String × DataW Unit) := [("pinnace/bus.areas", Rows.laid_pinnace_bus_areas)]

/-- One element of an array of areas. -/
theorem area_elem {W : World} {fuel : Nat} {cs : Array Value} {ds : List (DataW Unit)} {p : List MemPlace}
    (hd : DataW.trod (fun _ => ()) Tryd.prog W 0 (fun _ => true) false fuel 159 cs.toList = some (.agg ds, p)) (j : Nat) (hj : j < 8) :
    ∃ m v0 v1 v2 q d, cs[j * 3]? = some v0 ∧ cs[j * 3 + 1]? = some v1 ∧ cs[j * 3 + 2]? = some v2 ∧ ds[j]? = some d ∧ DataW.trod (fun _ => ()) Tryd.prog W 0 (fun _ => true) false m 153 [v0, v1, v2] = some (d, q) := by
  obtain ⟨xs, m, _, hx, hlen, hn, hel⟩ := DataW.trod_array Tryd.underlying159 hd
  have hC : Tryd.prog.cellsOf 159 = 24 := by kernel_rfl
  have hce : Tryd.prog.cellsOf 153 = 3 := by kernel_rfl
  rw [hC] at hlen
  simp only [Prod.mk.injEq] at hx
  have h1 := hel j hj
  have hxj : j < xs.length := by omega
  rw [hce, List.getElem?_eq_getElem hxj] at h1
  have l0 : j * 3 < cs.toList.length := by omega
  have l1 : j * 3 + 1 < cs.toList.length := by omega
  have l2 : j * 3 + 2 < cs.toList.length := by omega
  have e3 : (cs.toList.drop (j * 3)).take 3 = [cs.toList[j * 3], cs.toList[j * 3 + 1], cs.toList[j * 3 + 2]] := by
    rw [List.drop_eq_getElem_cons l0, List.drop_eq_getElem_cons l1, List.drop_eq_getElem_cons l2]; simp
  rw [e3] at h1
  refine ⟨m, _, _, _, xs[j].2, xs[j].1, ?_, ?_, ?_, ?_, h1⟩
  · rw [← Array.getElem?_toList, List.getElem?_eq_getElem l0]
  · rw [← Array.getElem?_toList, List.getElem?_eq_getElem l1]
  · rw [← Array.getElem?_toList, List.getElem?_eq_getElem l2]
  · have e7 : ds = xs.map (·.1) := by have := hx.1; injection this
    rw [e7, List.getElem?_map, List.getElem?_eq_getElem hxj]; rfl

set_option maxRecDepth 100000 in
theorem area_fields {W : World} {m : Nat} {v0 v1 v2 : Value} {a b c : Int} {q : List MemPlace}
    (h : DataW.trod (fun _ => ()) Tryd.prog W 0 (fun _ => true) false m 153 [v0, v1, v2] = some (.agg [.lit (.int .u32 a), .lit (.int .u32 b), .lit (.int .i64 c)], q)) :
    v0 = .int .u32 a ∧ v1 = .int .u32 b ∧ v2 = .int .i64 c := by
  obtain ⟨xs, n, _, hx, _, hlen, hf⟩ := DataW.trod_struct Tryd.underlying153 h
  have c22 : Tryd.prog.cellsOf 24 = 1 := by kernel_rfl
  have c3 : Tryd.prog.cellsOf 3 = 1 := by kernel_rfl
  have h0 : DataW.trod (fun _ => ()) Tryd.prog W 0 (fun _ => true) false n 24 (([v0, v1, v2].drop 0).take (Tryd.prog.cellsOf 24)) = xs[0]? := hf 0 _ rfl
  have h1 : DataW.trod (fun _ => ()) Tryd.prog W 0 (fun _ => true) false n 24 (([v0, v1, v2].drop 1).take (Tryd.prog.cellsOf 24)) = xs[1]? := hf 1 _ rfl
  have h2 : DataW.trod (fun _ => ()) Tryd.prog W 0 (fun _ => true) false n 3 (([v0, v1, v2].drop 2).take (Tryd.prog.cellsOf 3)) = xs[2]? := hf 2 _ rfl
  rw [c22] at h0 h1
  rw [c3] at h2
  match xs, hlen, hx with
  | [x0, x1, x2], _, hx =>
    simp only [Prod.mk.injEq, List.map_cons, List.map_nil, DataW.agg.injEq, List.cons.injEq, and_true] at hx
    obtain ⟨⟨g0, g1, g2⟩, _⟩ := hx
    obtain ⟨z0, e0, k0, _⟩ := DataW.trod_int Tryd.underlying24 (h0.trans rfl)
    obtain ⟨z1, e1, k1, _⟩ := DataW.trod_int Tryd.underlying24 (h1.trans rfl)
    obtain ⟨z2, e2, k2, _⟩ := DataW.trod_int Tryd.underlying3 (h2.trans rfl)
    subst k0; subst k1; subst k2
    cases g0; cases g1; cases g2
    exact ⟨(List.cons.inj e0).1, (List.cons.inj e1).1, (List.cons.inj e2).1⟩

set_option maxRecDepth 100000 in
theorem areas_of_met {W : World} (h : laidMet Tryd.prog [("pinnace/bus.areas", Rows.laid_pinnace_bus_areas)] W) : AreasAt W := by
  obtain ⟨ps, ⟨g0, t0, cs0, f0, p0, q0, hg0, ht0, hv0, hd0, _, _⟩, _, _⟩ := h
  obtain rfl := Option.some.inj (gAreas.symm.trans hg0)
  obtain rfl := Option.some.inj (tAreas.symm.trans ht0)
  intro d hd
  obtain ⟨m, v0, v1, v2, q, dd, e0, e1, e2, e3, e4⟩ := area_elem hd0 d hd
  rw [World.var?_cell hg0 hv0, World.var?_cell hg0 hv0, World.var?_cell hg0 hv0, e0, e1, e2]
  obtain rfl | rfl | rfl | rfl | rfl | rfl | rfl | rfl : d = 0 ∨ d = 1 ∨ d = 2 ∨ d = 3 ∨ d = 4 ∨ d = 5 ∨ d = 6 ∨ d = 7 := by omega
  all_goals
    cases e3
    obtain ⟨rfl, rfl, rfl⟩ := area_fields e4
    exact ⟨rfl, rfl, rfl⟩

theorem areas_of_laid1 {W : World} (h : laidMetH Tryd.prog laid1 W) : AreasAt W := areas_of_met h
theorem door1 (os : Os) (args : Array Value) : laidMetH Tryd.prog laid1 ((World.doorLaid Tryd.prog 600 os).forCall (fun _ _ => 0) ⟨#[], args, []⟩).memory :=
  laidMetH_of_parts (laidMet_of_run' 8 (by kernel_rfl) (by kernel_rfl)) (by kernel_rfl)
end Go.Proofs.YtbggkoahofnnjaaDoor
