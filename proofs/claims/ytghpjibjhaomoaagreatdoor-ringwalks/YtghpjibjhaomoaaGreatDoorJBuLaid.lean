/-
  What the listed variables' condition gives a walk of stage 7, and a start that meets it.
-/
import Derived.Test.YtghpjibjhaomoaaGreatDoorRows
import Derived.ProofKit
import Derived.OpenShut
import Derived.LaidMore
import Derived.LaidLaws
import Derived.Test.YtghpjibjhaomoaaGreatDoorJBuFind
import Derived.Test.YtghpjibjhaomoaaGreatDoorJNum
import Derived.Test.YtghpjibjhaomoaaGreatDoorTie
import Derived.Test.YtghpjibjhaomoaaGreatDoorCards
import Derived.LaidHandle
import Derived.Stop.Joined
import Derived.SevenTiedAt
import Derived.SizedLaws
namespace Go.Proofs.YtghpjibjhaomoaaGreatDoor
open Go.ChangeShapes Go.WideShapes Go.ChangeAt Go.RowKit

theorem tab_elem {P : Program} {W : World} {t e : TypeId} {n fuel : Nat} {cs : Array Value} {ds : List (DataW Unit)} {p : List MemPlace}
    (ht : P.underlying t = some (.array n e)) (hce : P.cellsOf e = 1) (hC : P.cellsOf t = n)
    (hd : DataW.trod (fun _ => ()) P W 0 (fun _ => true) false fuel t cs.toList = some (.agg ds, p)) (j : Nat) (hj : j < n) :
    ∃ m v q d, cs[j]? = some v ∧ ds[j]? = some d ∧ DataW.trod (fun _ => ()) P W 0 (fun _ => true) false m e [v] = some (d, q) := by
  obtain ⟨xs, m, _, hx, hlen, hn, hel⟩ := DataW.trod_array ht hd
  rw [hC] at hlen
  simp only [Prod.mk.injEq] at hx
  have h1 := hel j hj
  have hxj : j < xs.length := by omega
  rw [hce, List.getElem?_eq_getElem hxj] at h1
  have hjl : j < cs.toList.length := by omega
  have e3 : (cs.toList.drop (j * 1)).take 1 = [cs.toList[j]] := by rw [Nat.mul_one, List.drop_eq_getElem_cons hjl]; simp
  rw [e3] at h1
  refine ⟨m, cs.toList[j], xs[j].2, xs[j].1, ?_, ?_, h1⟩
  · rw [← Array.getElem?_toList, List.getElem?_eq_getElem hjl]
  · have e7 : ds = xs.map (·.1) := by have := hx.1; injection this
    rw [e7, List.getElem?_map, List.getElem?_eq_getElem hxj]; rfl

theorem tab_int {P : Program} {W : World} {name : String} {g : Nat} {t e : TypeId} {n fuel : Nat} {k : IntKind} {cs : Array Value} {L : List Nat} {p : List MemPlace}
    (hg : P.globalNamed name = some g) (hv : W.var? P name = some cs)
    (ht : P.underlying t = some (.array n e)) (he : P.underlying e = some (.int k)) (hce : P.cellsOf e = 1) (hC : P.cellsOf t = n) (hL : L.length = n)
    (hd : DataW.trod (fun _ => ()) P W 0 (fun _ => true) false fuel t cs.toList = some (.agg (L.map fun x : Nat => .lit (.int k (x : Int))), p)) (j : Nat) (hj : j < n) :
    W.cell? ⟨g, j, none⟩ = some (.int k (L.getD j 0 : Nat)) := by
  obtain ⟨m, v, q, d, h1, h2, h3⟩ := tab_elem ht hce hC hd j hj
  have hjL : j < L.length := by omega
  rw [List.getElem?_map, List.getElem?_eq_getElem hjL] at h2
  obtain ⟨z, e1, e2, _⟩ := DataW.trod_int he h3
  simp only [Option.map_some, Option.some.injEq] at h2
  simp only [Prod.mk.injEq] at e2
  rw [← h2] at e2
  have e5 := e2.1
  simp only [DataW.lit.injEq, Lit.int.injEq, true_and] at e5
  rw [World.var?_cell hg hv j, h1]
  simp only [List.cons.injEq, and_true] at e1
  rw [e1, ← e5, List.getD_eq_getElem?_getD, List.getElem?_eq_getElem hjL]
  rfl

theorem tab_str {P : Program} {W : World} {name : String} {g : Nat} {t e : TypeId} {n fuel : Nat} {cs : Array Value} {L : List (List UInt8)} {p : List MemPlace}
    (hg : P.globalNamed name = some g) (hv : W.var? P name = some cs)
    (ht : P.underlying t = some (.array n e)) (he : P.underlying e = some .string) (hce : P.cellsOf e = 1) (hC : P.cellsOf t = n) (hL : L.length = n)
    (hd : DataW.trod (fun _ => ()) P W 0 (fun _ => true) false fuel t cs.toList = some (.agg (L.map fun x => .lit (.string x)), p)) (j : Nat) (hj : j < n) :
    W.cell? ⟨g, j, none⟩ = some (.string ⟨(L.getD j []).toArray⟩) := by
  obtain ⟨m, v, q, d, h1, h2, h3⟩ := tab_elem ht hce hC hd j hj
  have hjL : j < L.length := by omega
  rw [List.getElem?_map, List.getElem?_eq_getElem hjL] at h2
  obtain ⟨z, e1, e2, _⟩ := DataW.trod_string he h3
  simp only [Option.map_some, Option.some.injEq] at h2
  simp only [Prod.mk.injEq] at e2
  rw [← h2] at e2
  have e5 := e2.1
  simp only [DataW.lit.injEq, Lit.string.injEq] at e5
  rw [World.var?_cell hg hv j, h1]
  simp only [List.cons.injEq, and_true] at e1
  rw [e1, List.getD_eq_getElem?_getD, List.getElem?_eq_getElem hjL]
  simp only [Option.getD_some]
  rw [e5]
end Go.Proofs.YtghpjibjhaomoaaGreatDoor
namespace Go.Proofs.YtghpjibjhaomoaaGreatDoor
open Go.ChangeShapes Go.WideShapes Go.ChangeAt Go.RowKit
set_option linter.unusedVariables false

theorem own : ownKnob Tryz.prog.godebug = none := by kernel_rfl
theorem laid_et : Tryz.prog.globalNamed "errors.errorType" = some 0 := by kernel_rfl
theorem laid_rt : (Tryz.prog.cutTypes.find? (·.1 == "internal/reflectlite.rtype")).map (·.2) = some 164 := by kernel_rfl
theorem laid_oneRow : ((List.range 234).filter fun t => Tryz.prog.rowNamed t [101, 114, 114, 111, 114]) = [36] := by kernel_rfl
theorem laid_size : Tryz.prog.types.size = 234 := by kernel_rfl
theorem gAreas : Tryz.prog.globalNamed "pinnace/bus.areas" = some 1 := by kernel_rfl
theorem tAreas : (Tryz.prog.globals[1]?).map (·.type) = some 188 := by kernel_rfl

abbrev laid2 : List (String × DataW Unit) := [("errors.errorType", Rows.laid_errors_errorType), ("pinnace/bus.areas", Rows.laid_pinnace_bus_areas)]
theorem met_of_laid2 {W : World} (h : laidMetH Tryz.prog laid2 W) : laidMet Tryz.prog [("pinnace/bus.areas", Rows.laid_pinnace_bus_areas)] W ∧ handlesMet Tryz.prog [("errors.errorType", Rows.laid_errors_errorType)] W := h

theorem handle_of_laid2 {W : World} (h : laidMetH Tryz.prog laid2 W) : HandleAt W := by
  obtain ⟨name, u, ty, e1, e2, e3, e4, e5⟩ := (met_of_laid2 h).2 _ (List.mem_singleton.2 rfl)
  have en : name = [101, 114, 114, 111, 114] := (Option.some.inj e1).symm
  subst en
  obtain rfl := Option.some.inj (laid_rt.symm.trans e2)
  have hm : ty ∈ (List.range 234).filter fun t => Tryz.prog.rowNamed t [101, 114, 114, 111, 114] := List.mem_filter.2 ⟨List.mem_range.2 (by rw [← laid_size]; exact e3), e4⟩
  rw [laid_oneRow] at hm
  obtain rfl := List.mem_singleton.1 hm
  have hh : typeHandle Tryz.prog 36 = .pointer (some ⟨2, 36, none⟩) := by kernel_rfl
  rw [hh] at e5
  simpa [HandleAt] using World.var?_cell laid_et e5 0

/-- One element of an array of areas. -/
theorem area_elem {W : World} {fuel : Nat} {cs : Array Value} {ds : List (DataW Unit)} {p : List MemPlace}
    (hd : DataW.trod (fun _ => ()) Tryz.prog W 0 (fun _ => true) false fuel 188 cs.toList = some (.agg ds, p)) (j : Nat) (hj : j < 8) :
    ∃ m v0 v1 v2 q d, cs[j * 3]? = some v0 ∧ cs[j * 3 + 1]? = some v1 ∧ cs[j * 3 + 2]? = some v2 ∧ ds[j]? = some d ∧ DataW.trod (fun _ => ()) Tryz.prog W 0 (fun _ => true) false m 179 [v0, v1, v2] = some (d, q) := by
  obtain ⟨xs, m, _, hx, hlen, hn, hel⟩ := DataW.trod_array Tryz.underlying188 hd
  have hC : Tryz.prog.cellsOf 188 = 24 := by kernel_rfl
  have hce : Tryz.prog.cellsOf 179 = 3 := by kernel_rfl
  rw [hC] at hlen
  simp only [Prod.mk.injEq] at hx
  have h1 := hel j hj
  have hxj : j < xs.length := by omega
  rw [hce, List.getElem?_eq_getElem hxj] at h1
  have l0 : j * 3 < cs.toList.length := by omega
  have l1 : j * 3 + 1 < cs.toList.length := by omega
  have l2 : j * 3 + 2 < cs.toList.length := by omega
  have e3 : (cs.toList.drop (j * 3)).take 3 = [cs.toList[j * 3], cs.toList[j * 3 + 1], cs.toList[j * 3 + 2]] := by
    rw [List.drop_eq_getElem_cons l0, List.drop_eq_getElem_cons l1, List.drop_eq_getElem_cons l2]; simp
  rw [e3] at h1
  refine ⟨m, _, _, _, xs[j].2, xs[j].1, ?_, ?_, ?_, ?_, h1⟩
  · rw [← Array.getElem?_toList, List.getElem?_eq_getElem l0]
  · rw [← Array.getElem?_toList, List.getElem?_eq_getElem l1]
  · rw [← Array.getElem?_toList, List.getElem?_eq_getElem l2]
  · have e7 : ds = xs.map (·.1) := by have := hx.1; injection this
    rw [e7, List.getElem?_map, List.getElem?_eq_getElem hxj]; rfl

set_option maxRecDepth 100000 in
theorem area_fields {W : World} {m : Nat} {v0 v1 v2 : Value} {a b c : Int} {q : List MemPlace}
    (h : DataW.trod (fun _ => ()) Tryz.prog W 0 (fun _ => true) false m 179 [v0, v1, v2] = some (.agg [.lit (.int .u32 a), .lit (.int .u32 b), .lit (.int .i64 c)], q)) :
    v0 = .int .u32 a ∧ v1 = .int .u32 b ∧ v2 = .int .i64 c := by
  obtain ⟨xs, n, _, hx, _, hlen, hf⟩ := DataW.trod_struct Tryz.underlying179 h
  have c22 : Tryz.prog.cellsOf 22 = 1 := by kernel_rfl
  have c3 : Tryz.prog.cellsOf 3 = 1 := by kernel_rfl
  have h0 : DataW.trod (fun _ => ()) Tryz.prog W 0 (fun _ => true) false n 22 (([v0, v1, v2].drop 0).take (Tryz.prog.cellsOf 22)) = xs[0]? := hf 0 _ rfl
  have h1 : DataW.trod (fun _ => ()) Tryz.prog W 0 (fun _ => true) false n 22 (([v0, v1, v2].drop 1).take (Tryz.prog.cellsOf 22)) = xs[1]? := hf 1 _ rfl
  have h2 : DataW.trod (fun _ => ()) Tryz.prog W 0 (fun _ => true) false n 3 (([v0, v1, v2].drop 2).take (Tryz.prog.cellsOf 3)) = xs[2]? := hf 2 _ rfl
  rw [c22] at h0 h1
  rw [c3] at h2
  match xs, hlen, hx with
  | [x0, x1, x2], _, hx =>
    simp only [Prod.mk.injEq, List.map_cons, List.map_nil, DataW.agg.injEq, List.cons.injEq, and_true] at hx
    obtain ⟨⟨g0, g1, g2⟩, _⟩ := hx
    obtain ⟨z0, e0, k0, _⟩ := DataW.trod_int Tryz.underlying22 (h0.trans rfl)
    obtain ⟨z1, e1, k1, _⟩ := DataW.trod_int Tryz.underlying22 (h1.trans rfl)
    obtain ⟨z2, e2, k2, _⟩ := DataW.trod_int Tryz.underlying3 (h2.trans rfl)
    subst k0; subst k1; subst k2
    cases g0; cases g1; cases g2
    exact ⟨(List.cons.inj e0).1, (List.cons.inj e1).1, (List.cons.inj e2).1⟩

set_option maxRecDepth 100000 in
theorem areas_of_laid2 {W : World} (h : laidMetH Tryz.prog laid2 W) : AreasAt W := by
  obtain ⟨ps, ⟨g0, t0, cs0, f0, p0, q0, hg0, ht0, hv0, hd0, _, _⟩, _, _⟩ := (met_of_laid2 h).1
  obtain rfl := Option.some.inj (gAreas.symm.trans hg0)
  obtain rfl := Option.some.inj (tAreas.symm.trans ht0)
  intro d hd
  obtain ⟨m, v0, v1, v2, q, dd, e0, e1, e2, e3, e4⟩ := area_elem hd0 d hd
  rw [World.var?_cell hg0 hv0, World.var?_cell hg0 hv0, World.var?_cell hg0 hv0, e0, e1, e2]
  obtain rfl | rfl | rfl | rfl | rfl | rfl | rfl | rfl : d = 0 ∨ d = 1 ∨ d = 2 ∨ d = 3 ∨ d = 4 ∨ d = 5 ∨ d = 6 ∨ d = 7 := by omega
  all_goals
    cases e3
    obtain ⟨rfl, rfl, rfl⟩ := area_fields e4
    exact ⟨rfl, rfl, rfl⟩

theorem door2 (os : Os) (args : Array Value) : laidMetH Tryz.prog laid2 ((World.doorLaid Tryz.prog 600 os).forCall (fun _ _ => 0) ⟨#[], args, []⟩).memory :=
  laidMetH_of_parts (laidMet_of_run' 8 (by kernel_rfl) (by kernel_rfl)) (by kernel_rfl)

theorem HandleAt.below {w w' : World} (h : HandleAt w) (hb : Below w.heap.size w w') : HandleAt w' := by
  have hl : 0 < w.heap.size := by
    rcases Nat.lt_or_ge 0 w.heap.size with h' | h'
    · exact h'
    · simp [HandleAt, World.cell?, Array.getElem?_eq_none h'] at h
  exact (hb.cell (p := ⟨0, 0, none⟩) hl).trans h

theorem num_all (n : Nat) (w : World) (hg : HandleAt w) : Calls Tryz.prog 10 #[errB n] w fun e w' => e = .returned (.int .i64 (n : Nat)) ∧ Below w.heap.size w w' := by
  by_cases h : n = 0
  · subst h
    exact num_nil w
  · unfold errB
    rw [if_neg h]
    exact num_err n w hg
end Go.Proofs.YtghpjibjhaomoaaGreatDoor
