/-
  A controller that came in, as plain numbers.
-/
import Derived.Test.YtadgdgjmadchjaaDoorPlRow
import Derived.ProofKit
import Derived.OpenShut
import Derived.WideShapes
namespace Go.Proofs.YtadgdgjmadchjaaDoor
open Go.ChangeShapes Go.WideShapes Go.ChangeAt Go.RowKit
set_option linter.unusedVariables false

theorem bounds_w {z : Int} (h : (Lit.int .u32 z).wf = true) : ∃ n : Nat, z = n ∧ n < 4294967296 := by
  have hb := bounds_u32 h
  exact ⟨z.toNat, by omega, by omega⟩
theorem one_at {l : List Value} {a : Nat} {v : Value} (h : (l.drop a).take 1 = [v]) : l[a]? = some v := by
  have e : ((l.drop a).take 1)[0]? = some v := by rw [h]; rfl
  simpa using e
theorem in_at {l : List Value} {a n i : Nat} {v : Value} (hi : i < n) (h : (((l.drop a).take n).drop i).take 1 = [v]) : l[a + i]? = some v := by
  have e := one_at h
  rw [List.getElem?_take_of_lt hi, List.getElem?_drop] at e
  exact e
theorem word_at {H : Type} {enc : TypeId × Value → H} {W : World} {base : Nat} {spare : Nat → Bool} {held : Bool} {fuel : Nat} {cs : List Value} {x : DataW H × List MemPlace}
    (h : DataW.trod enc Tryd.prog W base spare held fuel 22 cs = some x) : ∃ n : Nat, cs = [.int .u32 (n : Nat)] ∧ n < 4294967296 := by
  obtain ⟨z, e, _, hw⟩ := DataW.trod_int Tryd.underlying22 h
  obtain ⟨n, rfl, hn⟩ := bounds_w hw
  exact ⟨n, e, hn⟩
theorem cells_g : Tryd.prog.cellsOf 25 = 12 := by kernel_rfl
theorem cells_gx : Tryd.prog.cellsOf 23 = 8 := by kernel_rfl
theorem cells_w : Tryd.prog.cellsOf 22 = 1 := by kernel_rfl
theorem some_of {α : Type} {l : List α} {i : Nat} (h : i < l.length) : l[i]? = some l[i] := List.getElem?_eq_getElem h

set_option maxRecDepth 100000 in
set_option maxHeartbeats 1000000 in
theorem open_plic {H' : Type} {enc : TypeId × Value → H'} {W : World} {base b0 : Nat} {spare : Nat → Bool} {held : Bool} {r : Reach} {v : Value} {d : DataW H'} {p : List MemPlace}
    (hv : Value.okWide Tryd.prog W r b0 25 v) (h : DataW.Trod enc Tryd.prog W base spare held 25 v d p) :
    ∃ s : P5, s.Ok ∧ v = .agg s.cells := by
  have ht := Tryd.underlying25
  simp only [Value.okWide, ht] at hv
  obtain ⟨cs, rfl, hsz, _⟩ := hv
  obtain ⟨fuel, hfu⟩ := h
  obtain ⟨xs, m, _, _, hlen, hxl, hx⟩ := DataW.trod_struct ht hfu
  simp only [Value.cells] at hlen hx
  rw [cells_g] at hsz
  have hxs : xs.length = 5 := hxl
  have f0 : DataW.trod enc Tryd.prog W base spare held m 23 ((cs.toList.drop 0).take (Tryd.prog.cellsOf 23)) = xs[0]? := hx 0 _ rfl
  have f1 : DataW.trod enc Tryd.prog W base spare held m 22 ((cs.toList.drop 8).take (Tryd.prog.cellsOf 22)) = xs[1]? := hx 1 _ rfl
  have f2 : DataW.trod enc Tryd.prog W base spare held m 22 ((cs.toList.drop 9).take (Tryd.prog.cellsOf 22)) = xs[2]? := hx 2 _ rfl
  have f3 : DataW.trod enc Tryd.prog W base spare held m 22 ((cs.toList.drop 10).take (Tryd.prog.cellsOf 22)) = xs[3]? := hx 3 _ rfl
  have f4 : DataW.trod enc Tryd.prog W base spare held m 22 ((cs.toList.drop 11).take (Tryd.prog.cellsOf 22)) = xs[4]? := hx 4 _ rfl
  rw [some_of (by omega)] at f0 f1 f2 f3 f4
  rw [cells_gx] at f0
  rw [cells_w] at f1 f2 f3 f4
  obtain ⟨n1, e1, b1⟩ := word_at f1
  obtain ⟨n2, e2, b2⟩ := word_at f2
  obtain ⟨n3, e3, b3⟩ := word_at f3
  obtain ⟨n4, e4, b4⟩ := word_at f4
  have c1 := one_at e1
  have c2 := one_at e2
  have c3 := one_at e3
  have c4 := one_at e4
  obtain ⟨ys, m1, _, _, _, hyl, hy⟩ := DataW.trod_array Tryd.underlying23 f0
  have cx : ∀ i, ∃ n : Nat, n < 4294967296 ∧ (i < 8 → cs.toList[i]? = some (.int .u32 (n : Nat))) := by
    intro i
    by_cases hi : i < 8
    · have g := hy i hi
      rw [cells_w, Nat.mul_one, some_of (by omega)] at g
      obtain ⟨n, e, hn⟩ := word_at g
      exact ⟨n, hn, fun _ => by (have := in_at hi e; rwa [Nat.zero_add] at this)⟩
    · exact ⟨0, by decide, fun h => absurd h hi⟩
  refine ⟨⟨fun i => Classical.choose (cx i), n1, n2, n3, n4⟩, ⟨fun i => (Classical.choose_spec (cx i)).1, b1, b2, b3, b4⟩, ?_⟩
  congr 1
  apply Array.ext_getElem?
  intro j
  rw [← Array.getElem?_toList]
  by_cases j1 : j < 8
  · rw [(Classical.choose_spec (cx j)).2 j1, P5.cell_pr _ j j1]
  by_cases j3 : j < 12
  · obtain ⟨i, rfl⟩ : ∃ i, j = 8 + i := ⟨j - 8, by omega⟩
    match i, j3 with
    | 0, _ => exact c1
    | 1, _ => exact c2
    | 2, _ => exact c3
    | 3, _ => exact c4
    | k + 4, h => exact absurd h (by omega)
  · rw [List.getElem?_eq_none (by simp; omega), Array.getElem?_eq_none (by show 12 ≤ j; omega)]
end Go.Proofs.YtadgdgjmadchjaaDoor
