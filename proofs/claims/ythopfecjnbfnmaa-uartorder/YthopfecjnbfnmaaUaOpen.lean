/-
  A port that came in, as plain numbers.
-/
import Derived.Test.YthopfecjnbfnmaaUaRow
import Derived.ProofKit
import Derived.OpenShut
import Derived.WideShapes
namespace Go.Proofs.Ythopfecjnbfnmaa
open Go.ChangeShapes Go.WideShapes Go.ChangeAt Go.RowKit
set_option linter.unusedVariables false

theorem bounds_8 {z : Int} (h : (Lit.int .u8 z).wf = true) : ∃ n : Nat, z = n ∧ n < 256 := by
  have hb := bounds_u8 h
  exact ⟨z.toNat, by omega, by omega⟩
theorem bounds_w {z : Int} (h : (Lit.int .u32 z).wf = true) : ∃ n : Nat, z = n ∧ n < 4294967296 := by
  have hb := bounds_u32 h
  exact ⟨z.toNat, by omega, by omega⟩
theorem one_at {l : List Value} {a : Nat} {v : Value} (h : (l.drop a).take 1 = [v]) : l[a]? = some v := by
  have e : ((l.drop a).take 1)[0]? = some v := by rw [h]; rfl
  simpa using e
theorem in_at {l : List Value} {a n i : Nat} {v : Value} (hi : i < n) (h : (((l.drop a).take n).drop i).take 1 = [v]) : l[a + i]? = some v := by
  have e := one_at h
  rw [List.getElem?_take_of_lt hi, List.getElem?_drop] at e
  exact e
theorem some_of {α : Type} {l : List α} {i : Nat} (h : i < l.length) : l[i]? = some l[i] := List.getElem?_eq_getElem h
variable {H' : Type} {enc : TypeId × Value → H'} {W : World} {base b0 : Nat} {spare : Nat → Bool} {held : Bool} {fuel : Nat} {x : DataW H' × List MemPlace}
theorem byte_at {cs : List Value} (h : DataW.trod enc Try.prog W base spare held fuel 5 cs = some x) : ∃ n : Nat, cs = [.int .u8 (n : Nat)] ∧ n < 256 := by
  obtain ⟨z, e, _, hw⟩ := DataW.trod_int Try.underlying5 h
  obtain ⟨n, rfl, hn⟩ := bounds_8 hw
  exact ⟨n, e, hn⟩
theorem int_at {cs : List Value} (h : DataW.trod enc Try.prog W base spare held fuel 3 cs = some x) : ∃ z : Int, cs = [.int .i64 z] ∧ -9223372036854775808 ≤ z ∧ z ≤ 9223372036854775807 := by
  obtain ⟨z, e, _, hw⟩ := DataW.trod_int Try.underlying3 h
  have hb := bounds_i64 hw
  exact ⟨z, e, by omega, by omega⟩
theorem cells_g : Try.prog.cellsOf 26 = 42 := by kernel_rfl
theorem cells_f : Try.prog.cellsOf 24 = 17 := by kernel_rfl
theorem cells_a : Try.prog.cellsOf 22 = 16 := by kernel_rfl
theorem cells_8 : Try.prog.cellsOf 5 = 1 := by kernel_rfl
theorem cells_i : Try.prog.cellsOf 3 = 1 := by kernel_rfl
theorem cells_b : Try.prog.cellsOf 4 = 1 := by kernel_rfl
theorem fifo_at {l : List Value} {a : Nat} (h : DataW.trod enc Try.prog W base spare held fuel 24 ((l.drop a).take 17) = some x) : ∃ f : F, f.Ok ∧ ∀ j, j < 17 → l[a + j]? = f.cells[j]? := by
  obtain ⟨xs, m, _, _, _, hxl, hx⟩ := DataW.trod_struct Try.underlying24 h
  have hxs : xs.length = 2 := hxl
  have g0 : DataW.trod enc Try.prog W base spare held m 22 ((((l.drop a).take 17).drop 0).take (Try.prog.cellsOf 22)) = xs[0]? := hx 0 _ rfl
  have g1 : DataW.trod enc Try.prog W base spare held m 3 ((((l.drop a).take 17).drop 16).take (Try.prog.cellsOf 3)) = xs[1]? := hx 1 _ rfl
  rw [some_of (by omega)] at g0 g1
  rw [cells_a] at g0
  rw [cells_i] at g1
  obtain ⟨z, e1, l0, l1⟩ := int_at g1
  have c16 := in_at (by decide) e1
  obtain ⟨ys, m1, _, _, _, hyl, hy⟩ := DataW.trod_array Try.underlying22 g0
  have cx : ∀ i, ∃ n : Nat, n < 256 ∧ (i < 16 → l[a + i]? = some (.int .u8 (n : Nat))) := by
    intro i
    by_cases hi : i < 16
    · have g := hy i hi
      rw [cells_8, Nat.mul_one, some_of (by omega)] at g
      obtain ⟨n, e, hn⟩ := byte_at g
      refine ⟨n, hn, fun _ => ?_⟩
      have e2 := one_at e
      rw [List.getElem?_take_of_lt hi, List.drop_zero, List.getElem?_take_of_lt (by omega), List.getElem?_drop] at e2
      exact e2
    · exact ⟨0, by decide, fun h => absurd h hi⟩
  refine ⟨⟨fun i => Classical.choose (cx i), z⟩, ⟨fun i => (Classical.choose_spec (cx i)).1, l0, l1⟩, fun j hj => ?_⟩
  by_cases hj2 : j < 16
  · rw [(Classical.choose_spec (cx j)).2 hj2, F.cell_b _ j hj2]
  · obtain rfl : j = 16 := by omega
    exact c16

set_option maxRecDepth 100000 in
set_option maxHeartbeats 1000000 in
theorem open_uart {r : Reach} {v : Value} {d : DataW H'} {p : List MemPlace}
    (hv : Value.okWide Try.prog W r b0 26 v) (h : DataW.Trod enc Try.prog W base spare held 26 v d p) :
    ∃ s : U, s.Ok ∧ v = .agg s.cells := by
  have ht := Try.underlying26
  simp only [Value.okWide, ht] at hv
  obtain ⟨cs, rfl, hsz, _⟩ := hv
  obtain ⟨fuel, hfu⟩ := h
  obtain ⟨xs, m, _, _, hlen, hxl, hx⟩ := DataW.trod_struct ht hfu
  simp only [Value.cells] at hlen hx
  rw [cells_g] at hsz
  have hxs : xs.length = 10 := hxl
  have f0 : DataW.trod enc Try.prog W base spare held m 24 ((cs.toList.drop 0).take (Try.prog.cellsOf 24)) = xs[0]? := hx 0 _ rfl
  have f1 : DataW.trod enc Try.prog W base spare held m 24 ((cs.toList.drop 17).take (Try.prog.cellsOf 24)) = xs[1]? := hx 1 _ rfl
  have f2 : DataW.trod enc Try.prog W base spare held m 5 ((cs.toList.drop 34).take (Try.prog.cellsOf 5)) = xs[2]? := hx 2 _ rfl
  have f3 : DataW.trod enc Try.prog W base spare held m 5 ((cs.toList.drop 35).take (Try.prog.cellsOf 5)) = xs[3]? := hx 3 _ rfl
  have f4 : DataW.trod enc Try.prog W base spare held m 5 ((cs.toList.drop 36).take (Try.prog.cellsOf 5)) = xs[4]? := hx 4 _ rfl
  have f5 : DataW.trod enc Try.prog W base spare held m 5 ((cs.toList.drop 37).take (Try.prog.cellsOf 5)) = xs[5]? := hx 5 _ rfl
  have f6 : DataW.trod enc Try.prog W base spare held m 5 ((cs.toList.drop 38).take (Try.prog.cellsOf 5)) = xs[6]? := hx 6 _ rfl
  have f7 : DataW.trod enc Try.prog W base spare held m 5 ((cs.toList.drop 39).take (Try.prog.cellsOf 5)) = xs[7]? := hx 7 _ rfl
  have f8 : DataW.trod enc Try.prog W base spare held m 4 ((cs.toList.drop 40).take (Try.prog.cellsOf 4)) = xs[8]? := hx 8 _ rfl
  have f9 : DataW.trod enc Try.prog W base spare held m 3 ((cs.toList.drop 41).take (Try.prog.cellsOf 3)) = xs[9]? := hx 9 _ rfl
  rw [some_of (by omega)] at f0 f1 f2 f3 f4 f5 f6 f7 f8 f9
  rw [cells_f] at f0 f1
  rw [cells_8] at f2 f3 f4 f5 f6 f7
  rw [cells_b] at f8
  rw [cells_i] at f9
  obtain ⟨rx, okr, cr⟩ := fifo_at f0
  obtain ⟨tx, okt, ct⟩ := fifo_at f1
  obtain ⟨n2, e2, b2⟩ := byte_at f2
  have c2 := one_at e2
  obtain ⟨n3, e3, b3⟩ := byte_at f3
  have c3 := one_at e3
  obtain ⟨n4, e4, b4⟩ := byte_at f4
  have c4 := one_at e4
  obtain ⟨n5, e5, b5⟩ := byte_at f5
  have c5 := one_at e5
  obtain ⟨n6, e6, b6⟩ := byte_at f6
  have c6 := one_at e6
  obtain ⟨n7, e7, b7⟩ := byte_at f7
  have c7 := one_at e7
  obtain ⟨ov, e8, _⟩ := DataW.trod_bool Try.underlying4 f8
  have c8 := one_at e8
  obtain ⟨wt, e9, l9, u9⟩ := int_at f9
  have c9 := one_at e9
  refine ⟨⟨rx, tx, n2, n3, n4, n5, n6, n7, ov, wt⟩, ⟨okr, okt, b2, b3, b4, b5, b6, b7, l9, u9⟩, ?_⟩
  congr 1
  apply Array.ext_getElem?
  intro j
  rw [← Array.getElem?_toList]
  by_cases j1 : j < 17
  · have := cr j j1
    rw [Nat.zero_add] at this
    rw [this]
    rcases j with _ | _ | _ | _ | _ | _ | _ | _ | _ | _ | _ | _ | _ | _ | _ | _ | _ | j
    all_goals first | rfl | omega
  by_cases j2 : j < 34
  · obtain ⟨i, rfl⟩ : ∃ i, j = 17 + i := ⟨j - 17, by omega⟩
    rw [ct i (by omega)]
    rcases i with _ | _ | _ | _ | _ | _ | _ | _ | _ | _ | _ | _ | _ | _ | _ | _ | _ | i
    all_goals first | rfl | omega
  by_cases j3 : j < 42
  · obtain ⟨i, rfl⟩ : ∃ i, j = 34 + i := ⟨j - 34, by omega⟩
    match i, j3 with
    | 0, _ => exact c2
    | 1, _ => exact c3
    | 2, _ => exact c4
    | 3, _ => exact c5
    | 4, _ => exact c6
    | 5, _ => exact c7
    | 6, _ => exact c8
    | 7, _ => exact c9
    | k + 8, h => exact absurd h (by omega)
  · rw [List.getElem?_eq_none (by simp; omega), Array.getElem?_eq_none (by show 42 ≤ j; omega)]
end Go.Proofs.Ythopfecjnbfnmaa
