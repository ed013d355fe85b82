/-
  Things that came in; what a datum's bulk says of them.
-/
import Derived.Test.YtkahkkcbigifiaaDoorTvOpen
namespace Go.Proofs.YtkahkkcbigifiaaDoor
open Go.ChangeShapes Go.WideShapes Go.ChangeAt Go.RowKit
set_option linter.unusedVariables false

theorem bulk_mem {H : Type} {d : DataW H} : ∀ {l : List (DataW H)}, d ∈ l → Rows.uptoBulk d ≤ Rows.uptoBulkAll l
  | [], h => by cases h
  | x :: l, h => by
    simp only [Rows.uptoBulkAll]
    rcases List.mem_cons.1 h with rfl | h
    · omega
    · have := bulk_mem (l := l) h
      omega
theorem bulk_slice {H : Type} {d : DataW H} {es sp : List (DataW H)} (h : d ∈ es) : Rows.uptoBulk d ≤ Rows.uptoBulk (.slice es sp) := by
  have := bulk_mem h
  simp only [Rows.uptoBulk]
  omega
theorem bulk_agg {H : Type} {d : DataW H} {ps : List (DataW H)} (h : d ∈ ps) : Rows.uptoBulk d ≤ Rows.uptoBulk (.agg ps) := by
  have := bulk_mem h
  simp only [Rows.uptoBulk]
  omega
theorem bulk_one {H : Type} (d : DataW H) : 1 ≤ Rows.uptoBulk d := by
  cases d with
  | lit l => cases l <;> simp [Rows.uptoBulk]
  | nil => simp [Rows.uptoBulk]
  | ptr d => simp [Rows.uptoBulk]
  | slice elems spare => simp [Rows.uptoBulk]
  | agg parts => simp [Rows.uptoBulk]
  | iface t d => simp [Rows.uptoBulk]
  | map entries => simp [Rows.uptoBulk]
  | held h => simp [Rows.uptoBulk]
theorem bulk_len {H : Type} : ∀ l : List (DataW H), l.length ≤ Rows.uptoBulkAll l
  | [] => by simp [Rows.uptoBulkAll]
  | x :: l => by
    have := bulk_len l
    have := bulk_one x
    simp only [Rows.uptoBulkAll, List.length_cons]
    omega
theorem bytes_bulk {H' : Type} {enc : TypeId × Value → H'} {W : World} {held : Bool} {base m : Nat} {spare : Nat → Bool} {a : Option Addr} {len cap : Nat} {y : DataW H' × List MemPlace}
    (h : DataW.trod enc Tryd.prog W base spare held m 26 [.slice a len cap] = some y) : len ≤ Rows.uptoBulk y.1 := by
  rcases DataW.trod_slice Tryd.underlying26 h with ⟨h0, _⟩ | ⟨ad, len', cap', elems, rest, n, _, hcs, hx, _, _, _, hle, _⟩
  · simp only [List.cons.injEq, Value.slice.injEq, and_true] at h0
    omega
  · simp only [List.cons.injEq, Value.slice.injEq, and_true] at hcs
    obtain ⟨rfl, rfl, rfl⟩ := hcs
    have := bulk_len (elems.map (·.1))
    rw [List.length_map] at this
    rw [hx]
    simp only [Rows.uptoBulk]
    omega
theorem cells_bt : Tryd.prog.cellsOf 4 = 1 := by kernel_rfl
theorem cells_nt : Tryd.prog.cellsOf 3 = 1 := by kernel_rfl
theorem cells_ut : Tryd.prog.cellsOf 55 = 1 := by kernel_rfl
theorem cells_st : Tryd.prog.cellsOf 26 = 1 := by kernel_rfl
theorem cells_thing : Tryd.prog.cellsOf 69 = 4 := by kernel_rfl
theorem u64_at {z : Int} (h : (Lit.int .u64 z).wf = true) : ∃ n : Nat, z = n ∧ n < 18446744073709551616 := by
  have hb := bounds_u64 h
  exact ⟨z.toNat, by omega, by omega⟩
theorem open_things {H' : Type} {enc : TypeId × Value → H'} {W : World} {held : Bool} {base R : Nat} {a : Option Addr} {len cap : Nat} {d : DataW H'} {p : List MemPlace}
    (h : DataW.Trod enc Tryd.prog W base (fun _ => true) held 66 (.slice a len cap) d p) (hR : Rows.uptoBulk d ≤ R) :
    ∃ A : List ThingS, ThingsAt W.heap.size W (.slice a len cap) A ∧ ∀ s ∈ A, s.b.length ≤ R := by
  obtain ⟨fuel, hf⟩ := h
  have hform := slice_nil0 Tryd.underlying66 hf
  obtain ⟨a', len', cap', hvs, h1, h2, hel⟩ := open_elems2 Tryd.underlying66 cells_thing (by decide) (fun n cs y hy => by
    obtain ⟨xs, m, _, _, hlen, _, _⟩ := DataW.trod_struct Tryd.underlying69 hy
    rw [cells_thing] at hlen
    exact hlen) hf
  simp only [Value.cells, List.cons.injEq, Value.slice.injEq, and_true] at hvs
  obtain ⟨rfl, rfl, rfl⟩ := hvs
  have each : ∀ j, ∃ s : ThingS, j < len → ((∃ b o, a = some ⟨b, o, none⟩ ∧ b < W.heap.size ∧ W.cell? ⟨b, o + j * 4 + 0, none⟩ = some (.bool s.run) ∧ W.cell? ⟨b, o + j * 4 + 1, none⟩ = some (.int .u64 (s.v : Nat)) ∧ W.cell? ⟨b, o + j * 4 + 2, none⟩ = some (.int .i64 s.n) ∧ ∃ u, W.cell? ⟨b, o + j * 4 + 3, none⟩ = some u ∧ Rd W.heap.size W u s.b) ∧ s.v < 18446744073709551616 ∧ s.b.length ≤ R) := by
    intro j
    by_cases hj : j < len
    · obtain ⟨b, o, cs, m, y, es, sp, e, hcl, hc, hy, hes, hye⟩ := hel j hj
      obtain ⟨xs, n, _, hxx, hlen, hxl, hx⟩ := DataW.trod_struct Tryd.underlying69 hy
      have hxs : xs.length = 4 := hxl
      have f0 : DataW.trod enc Tryd.prog W base (fun _ => true) held n 4 ((cs.drop 0).take (Tryd.prog.cellsOf 4)) = xs[0]? := hx 0 _ rfl
      rw [some_of' (show 0 < xs.length by omega), cells_bt] at f0
      obtain ⟨n0, e0, _⟩ := DataW.trod_bool Tryd.underlying4 f0
      have f1 : DataW.trod enc Tryd.prog W base (fun _ => true) held n 55 ((cs.drop 1).take (Tryd.prog.cellsOf 55)) = xs[1]? := hx 1 _ rfl
      rw [some_of' (show 1 < xs.length by omega), cells_ut] at f1
      obtain ⟨z1, e1, _, hw1⟩ := DataW.trod_int Tryd.underlying55 f1
      obtain ⟨n1, rfl, hn1⟩ := u64_at hw1
      have f2 : DataW.trod enc Tryd.prog W base (fun _ => true) held n 3 ((cs.drop 2).take (Tryd.prog.cellsOf 3)) = xs[2]? := hx 2 _ rfl
      rw [some_of' (show 2 < xs.length by omega), cells_nt] at f2
      obtain ⟨n2, e2, _, _⟩ := DataW.trod_int Tryd.underlying3 f2
      have f3 : DataW.trod enc Tryd.prog W base (fun _ => true) held n 26 ((cs.drop 3).take (Tryd.prog.cellsOf 26)) = xs[3]? := hx 3 _ rfl
      rw [some_of' (show 3 < xs.length by omega), cells_st] at f3
      obtain ⟨fa, fn, fc, e3⟩ := slice_form f3
      rw [e3] at f3
      obtain ⟨bl, ⟨q1, q2⟩, q3, q4⟩ := open_rbytes (a := fa) (len := fn) (cap := fc) (d := xs[3].1) (p := xs[3].2) ⟨n, f3⟩
      have hbk : fn ≤ R := by
        have b1 := bytes_bulk f3
        have b2 : Rows.uptoBulk xs[3].1 ≤ Rows.uptoBulk y.1 := by
          rw [hxx]
          exact bulk_agg (List.mem_map.2 ⟨_, List.getElem_mem (show 3 < xs.length by omega), rfl⟩)
        have b3 : Rows.uptoBulk y.1 ≤ Rows.uptoBulk d := by
          change d = _ at hes
          rw [hes]
          exact bulk_slice hye
        omega
      have c0 := (hc 0 (by decide)).trans (one_at' e0)
      have c1 := (hc 1 (by decide)).trans (one_at' e1)
      have c2 := (hc 2 (by decide)).trans (one_at' e2)
      have c3 := (hc 3 (by decide)).trans (one_at' e3)
      exact ⟨⟨n0, n1, n2, bl⟩, fun _ => ⟨⟨b, o, e, lt_of_cell c0, c0, c1, c2, _, c3, q4⟩, hn1, by rw [show (ThingS.mk n0 n1 n2 bl).b.length = fn from q1]; exact hbk⟩⟩
    · exact ⟨⟨false, 0, 0, []⟩, fun h => absurd h hj⟩
  have hg := fun j => Classical.choose_spec (each j)
  have hLl : ((List.range len).map fun j => Classical.choose (each j)).length = len := by simp
  have hLj : ∀ j (hj : j < len), ((List.range len).map fun j => Classical.choose (each j))[j]? = some (Classical.choose (each j)) := fun j hj => by simp [hj]
  refine ⟨(List.range len).map fun j => Classical.choose (each j), ⟨fun s hs => ?_, ⟨a, cap, by rw [hLl], by rw [hLl]; exact hform.1, hform.2, fun h0 => ?_⟩⟩, fun s hs => ?_⟩
  · obtain ⟨j, hj, rfl⟩ := List.mem_map.1 hs
    exact (hg j (List.mem_range.1 hj)).2.1
  · rw [hLl] at h0
    obtain ⟨⟨b, o, e, hlt, _⟩, _⟩ := hg 0 h0
    refine ⟨b, o, e, hlt, fun j hj i hi => ?_⟩
    rw [hLl] at hj
    obtain ⟨⟨b', o', e', _, c0, c1, c2, u, c3, c4⟩, _⟩ := hg j hj
    rw [e] at e'
    injection e' with e'
    injection e' with e1 e2 _
    subst e1 e2
    rcases i with _ | _ | _ | _ | i
    · exact ⟨_, c0, _, hLj j hj, rfl⟩
    · exact ⟨_, c1, _, hLj j hj, rfl⟩
    · exact ⟨_, c2, _, hLj j hj, rfl⟩
    · exact ⟨_, c3, _, hLj j hj, c4⟩
    · omega
  · obtain ⟨j, hj, rfl⟩ := List.mem_map.1 hs
    exact (hg j (List.mem_range.1 hj)).2.2
end Go.Proofs.YtkahkkcbigifiaaDoor
