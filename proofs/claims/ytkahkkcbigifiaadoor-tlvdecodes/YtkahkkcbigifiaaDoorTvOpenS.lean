/-
  Sections that came in.
-/
import Derived.Test.YtkahkkcbigifiaaDoorTvOpen
namespace Go.Proofs.YtkahkkcbigifiaaDoor
open Go.ChangeShapes Go.WideShapes Go.ChangeAt Go.RowKit
set_option linter.unusedVariables false

theorem cells_sec : Tryd.prog.cellsOf 78 = 2 := by kernel_rfl
theorem cells_b : Tryd.prog.cellsOf 26 = 1 := by kernel_rfl
theorem open_secs {H' : Type} {enc : TypeId × Value → H'} {W : World} {held : Bool} {base R : Nat} {a : Option Addr} {len cap : Nat} {d : DataW H'} {p : List MemPlace}
    (h : DataW.Trod enc Tryd.prog W base (fun _ => true) held 23 (.slice a len cap) d p) (hR : ∀ n ∈ d.weights Tryd.prog 23, n ≤ R) :
    ∃ L : List Sct, L.length = len ∧ Secs W.heap.size W (.slice a len cap) L ∧ ∀ s ∈ L, s.b.length ≤ R := by
  obtain ⟨fuel, hf⟩ := h
  have hform := slice_nil0 Tryd.underlying23 hf
  obtain ⟨a', len', cap', hvs, h1, h2, hel⟩ := open_elems2 Tryd.underlying23 cells_sec (by decide) (fun n cs y hy => by
    obtain ⟨xs, m, _, _, hlen, _, _⟩ := DataW.trod_struct Tryd.underlying78 hy
    rw [cells_sec] at hlen
    exact hlen) hf
  simp only [Value.cells, List.cons.injEq, Value.slice.injEq, and_true] at hvs
  obtain ⟨rfl, rfl, rfl⟩ := hvs
  have each : ∀ j, ∃ s : Sct, j < len → ((∃ b o, a = some ⟨b, o, none⟩ ∧ b < W.heap.size ∧ W.cell? ⟨b, o + j * 2, none⟩ = some (.int .u32 (s.tag : Nat)) ∧ ∃ u, W.cell? ⟨b, o + j * 2 + 1, none⟩ = some u ∧ Rd W.heap.size W u s.b) ∧ s.tag < 4294967296 ∧ s.b.length ≤ R) := by
    intro j
    by_cases hj : j < len
    · obtain ⟨b, o, cs, m, y, es, sp, e, hcl, hc, hy, hes, hye⟩ := hel j hj
      obtain ⟨y0, y1, n, rfl, hlen, f0, f1⟩ := trod_struct2 Tryd.underlying78 hy
      simp only [cells_u32, cells_b] at f0 f1
      obtain ⟨z, e0, _, hw⟩ := DataW.trod_int Tryd.underlying22 f0
      obtain ⟨t, rfl, ht⟩ := bounds_w hw
      obtain ⟨fa, fn, fc, e1⟩ := slice_form f1
      rw [e1] at f1
      obtain ⟨bl, ⟨q1, q2⟩, q3, q4⟩ := open_rbytes (a := fa) (len := fn) (cap := fc) (d := y1.1) (p := y1.2) ⟨n, f1⟩
      have hre := bytes_reach f1 (R := R) (fun q hq => hR q (by
        change d = _ at hes
        rw [hes]
        refine slice_mem Tryd.underlying23 hye ?_
        simp only [DataW.weights, Tryd.underlying78, List.map_cons, List.map_nil, DataW.weightsEach, List.mem_append]
        exact .inr (.inl hq)))
      have c0 := (hc 0 (by decide)).trans (one_at' e0)
      have c1 := (hc 1 (by decide)).trans (one_at' e1)
      rw [Nat.add_zero] at c0
      exact ⟨⟨t, bl⟩, fun _ => ⟨⟨b, o, e, lt_of_cell c0, c0, _, c1, q4⟩, ht, by rw [show (Sct.mk t bl).b.length = fn from q1]; exact hre⟩⟩
    · exact ⟨⟨0, []⟩, fun h => absurd h hj⟩
  have hg := fun j => Classical.choose_spec (each j)
  have hLl : ((List.range len).map fun j => Classical.choose (each j)).length = len := by simp
  have hLj : ∀ j (hj : j < ((List.range len).map fun j => Classical.choose (each j)).length), ((List.range len).map fun j => Classical.choose (each j))[j] = Classical.choose (each j) := fun j hj => by simp
  refine ⟨(List.range len).map fun j => Classical.choose (each j), hLl, ⟨fun s hs => ?_, a, cap, by rw [hLl], by rw [hLl]; exact hform.1, hform.2, fun h0 => ?_⟩, fun s hs => ?_⟩
  · obtain ⟨j, hj, rfl⟩ := List.mem_map.1 hs
    exact (hg j (List.mem_range.1 hj)).2.1
  · rw [hLl] at h0
    obtain ⟨⟨b, o, e, hlt, _⟩, _⟩ := hg 0 h0
    refine ⟨b, o, e, hlt, fun j hj => ?_⟩
    obtain ⟨⟨b', o', e', _, c0, c1⟩, _⟩ := hg j (by rw [hLl] at hj; exact hj)
    rw [e] at e'
    injection e' with e'
    injection e' with e1 e2 _
    subst e1 e2
    rw [hLj j hj]
    exact ⟨c0, c1⟩
  · obtain ⟨j, hj, rfl⟩ := List.mem_map.1 hs
    exact (hg j (List.mem_range.1 hj)).2.2
end Go.Proofs.YtkahkkcbigifiaaDoor
