/-
  Asks and things that came in; how far bytes reach.
-/
import Derived.Test.YtkahkkcbigifiaaDoorTvOpen
namespace Go.Proofs.YtkahkkcbigifiaaDoor
open Go.ChangeShapes Go.WideShapes Go.ChangeAt Go.RowKit
set_option linter.unusedVariables false

theorem bytes_reachT {H' : Type} {enc : TypeId × Value → H'} {W : World} {held : Bool} {base : Nat} {spare : Nat → Bool} {a : Option Addr} {len cap R : Nat} {d : DataW H'} {p : List MemPlace}
    (h : DataW.Trod enc Tryd.prog W base spare held 26 (.slice a len cap) d p) (hR : ∀ n ∈ d.weights Tryd.prog 26, n ≤ R) : len ≤ R := by
  obtain ⟨fuel, hf⟩ := h
  exact bytes_reach (y := (d, p)) hf hR
theorem cells_bl : Tryd.prog.cellsOf 4 = 1 := by kernel_rfl
theorem cells_it : Tryd.prog.cellsOf 3 = 1 := by kernel_rfl
theorem cells_ask : Tryd.prog.cellsOf 51 = 3 := by kernel_rfl
theorem int_hi {z : Int} (h : (Lit.int .i64 z).wf = true) : z ≤ 9223372036854775807 := by
  have := bounds_i64 h
  omega
theorem open_asks {H' : Type} {enc : TypeId × Value → H'} {W : World} {held : Bool} {base : Nat} {spare : Nat → Bool} {a : Option Addr} {len cap : Nat} {d : DataW H'} {p : List MemPlace}
    (h : DataW.Trod enc Tryd.prog W base spare held 45 (.slice a len cap) d p) :
    ∃ A : List AskS, AsksAt W.heap.size W (.slice a len cap) A ∧ ∀ s ∈ A, s.most ≤ 9223372036854775807 := by
  obtain ⟨fuel, hf⟩ := h
  have hform := slice_nil0 Tryd.underlying45 hf
  obtain ⟨a', len', cap', hvs, h1, h2, hel⟩ := open_elems2 Tryd.underlying45 cells_ask (by decide) (fun n cs y hy => by
    obtain ⟨xs, m, _, _, hlen, _, _⟩ := DataW.trod_struct Tryd.underlying51 hy
    rw [cells_ask] at hlen
    exact hlen) hf
  simp only [Value.cells, List.cons.injEq, Value.slice.injEq, and_true] at hvs
  obtain ⟨rfl, rfl, rfl⟩ := hvs
  have each : ∀ j, ∃ s : AskS, j < len → ((∃ b o, a = some ⟨b, o, none⟩ ∧ b < W.heap.size ∧ W.cell? ⟨b, o + j * 3 + 0, none⟩ = some (.bool s.run) ∧ W.cell? ⟨b, o + j * 3 + 1, none⟩ = some (.int .i64 s.n) ∧ W.cell? ⟨b, o + j * 3 + 2, none⟩ = some (.int .i64 s.most)) ∧ s.most ≤ 9223372036854775807) := by
    intro j
    by_cases hj : j < len
    · obtain ⟨b, o, cs, m, y, es, sp, e, hcl, hc, hy, _, _⟩ := hel j hj
      obtain ⟨xs, n, _, _, hlen, hxl, hx⟩ := DataW.trod_struct Tryd.underlying51 hy
      have hxs : xs.length = 3 := hxl
      have f0 : DataW.trod enc Tryd.prog W base spare held n 4 ((cs.drop 0).take (Tryd.prog.cellsOf 4)) = xs[0]? := hx 0 _ rfl
      rw [some_of' (show 0 < xs.length by omega), cells_bl] at f0
      obtain ⟨n0, e0, _⟩ := DataW.trod_bool Tryd.underlying4 f0
      have f1 : DataW.trod enc Tryd.prog W base spare held n 3 ((cs.drop 1).take (Tryd.prog.cellsOf 3)) = xs[1]? := hx 1 _ rfl
      rw [some_of' (show 1 < xs.length by omega), cells_it] at f1
      obtain ⟨n1, e1, _, _⟩ := DataW.trod_int Tryd.underlying3 f1
      have f2 : DataW.trod enc Tryd.prog W base spare held n 3 ((cs.drop 2).take (Tryd.prog.cellsOf 3)) = xs[2]? := hx 2 _ rfl
      rw [some_of' (show 2 < xs.length by omega), cells_it] at f2
      obtain ⟨n2, e2, _, hw⟩ := DataW.trod_int Tryd.underlying3 f2
      have c0 := (hc 0 (by decide)).trans (one_at' e0)
      have c1 := (hc 1 (by decide)).trans (one_at' e1)
      have c2 := (hc 2 (by decide)).trans (one_at' e2)
      exact ⟨⟨n0, n1, n2⟩, fun _ => ⟨⟨b, o, e, lt_of_cell c0, c0, c1, c2⟩, int_hi hw⟩⟩
    · exact ⟨⟨false, 0, 0⟩, fun h => absurd h hj⟩
  have hg := fun j => Classical.choose_spec (each j)
  have hLl : ((List.range len).map fun j => Classical.choose (each j)).length = len := by simp
  have hLj : ∀ j (hj : j < len), ((List.range len).map fun j => Classical.choose (each j))[j]? = some (Classical.choose (each j)) := fun j hj => by simp [hj]
  refine ⟨(List.range len).map fun j => Classical.choose (each j), ⟨a, cap, by rw [hLl], by rw [hLl]; exact hform.1, hform.2, fun h0 => ?_⟩, fun s hs => ?_⟩
  · rw [hLl] at h0
    obtain ⟨⟨b, o, e, hlt, _⟩, _⟩ := hg 0 h0
    refine ⟨b, o, e, hlt, fun j hj i hi => ?_⟩
    rw [hLl] at hj
    obtain ⟨⟨b', o', e', _, c0, c1, c2⟩, _⟩ := hg j hj
    rw [e] at e'
    injection e' with e'
    injection e' with e1 e2 _
    subst e1 e2
    rcases i with _ | _ | _ | i
    · exact ⟨_, c0, _, hLj j hj, rfl⟩
    · exact ⟨_, c1, _, hLj j hj, rfl⟩
    · exact ⟨_, c2, _, hLj j hj, rfl⟩
    · omega
  · obtain ⟨j, hj, rfl⟩ := List.mem_map.1 hs
    exact (hg j (List.mem_range.1 hj)).2
end Go.Proofs.YtkahkkcbigifiaaDoor
