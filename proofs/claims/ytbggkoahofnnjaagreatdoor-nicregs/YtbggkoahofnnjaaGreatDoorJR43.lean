/-
  Net devices' states that came in, as plain numbers.
-/
import Derived.Test.YtbggkoahofnnjaaGreatDoorJR42
import Derived.Test.YtbggkoahofnnjaaGreatDoorJR27
open Go.Proofs.Tryz
set_option linter.unusedVariables false
set_option linter.unusedSimpArgs false
namespace Go.Proofs.YtbggkoahofnnjaaGreatDoor
open Go.ChangeShapes Go.WideShapes Go.ChangeAt Go.RowKit
variable {H' : Type} {enc : TypeId × Value → H'} {W : World} {base b0 : Nat} {spare : Nat → Bool} {held : Bool} {fuel : Nat} {x : DataW H' × List MemPlace}
set_option maxRecDepth 100000 in
theorem virt_at {l : List Value} {a : Nat} (h : DataW.trod enc prog W base spare held fuel 31 ((l.drop a).take 21) = some x) : ∃ s : V, s.Ok ∧ ∀ j, j < 21 → l[a + j]? = s.cells[j]? := by
  obtain ⟨xs, m, _, _, hlen, hxl, hx⟩ := DataW.trod_struct underlying31 h
  have hxs : xs.length = 7 := hxl
  have f0 : DataW.trod enc prog W base spare held m 22 ((((l.drop a).take 21).drop 0).take (prog.cellsOf 22)) = xs[0]? := hx 0 _ rfl
  rw [some_of (by omega), cells_w] at f0
  obtain ⟨n0, e0, b0⟩ := word_at f0
  have c0 := in_at (by decide) e0
  have f1 : DataW.trod enc prog W base spare held m 22 ((((l.drop a).take 21).drop 1).take (prog.cellsOf 22)) = xs[1]? := hx 1 _ rfl
  rw [some_of (by omega), cells_w] at f1
  obtain ⟨n1, e1, b1⟩ := word_at f1
  have c1 := in_at (by decide) e1
  have f2 : DataW.trod enc prog W base spare held m 22 ((((l.drop a).take 21).drop 2).take (prog.cellsOf 22)) = xs[2]? := hx 2 _ rfl
  rw [some_of (by omega), cells_w] at f2
  obtain ⟨n2, e2, b2⟩ := word_at f2
  have c2 := in_at (by decide) e2
  have f3 : DataW.trod enc prog W base spare held m 22 ((((l.drop a).take 21).drop 3).take (prog.cellsOf 22)) = xs[3]? := hx 3 _ rfl
  rw [some_of (by omega), cells_w] at f3
  obtain ⟨n3, e3, b3⟩ := word_at f3
  have c3 := in_at (by decide) e3
  have f4 : DataW.trod enc prog W base spare held m 22 ((((l.drop a).take 21).drop 4).take (prog.cellsOf 22)) = xs[4]? := hx 4 _ rfl
  rw [some_of (by omega), cells_w] at f4
  obtain ⟨n4, e4, b4⟩ := word_at f4
  have c4 := in_at (by decide) e4
  have f5 : DataW.trod enc prog W base spare held m 23 ((((l.drop a).take 21).drop 5).take (prog.cellsOf 23)) = xs[5]? := hx 5 _ rfl
  have f6 : DataW.trod enc prog W base spare held m 29 ((((l.drop a).take 21).drop 7).take (prog.cellsOf 29)) = xs[6]? := hx 6 _ rfl
  rw [some_of (by omega)] at f5 f6
  rw [cells_dr, vcut_at (by decide)] at f5
  rw [cells_qs, vcut_at (by decide)] at f6
  obtain ⟨ys, m1, _, _, _, hyl, hy⟩ := DataW.trod_array underlying23 f5
  have y0 := hy 0 (by decide)
  have y1 := hy 1 (by decide)
  rw [cells_w, some_of (by omega)] at y0 y1
  obtain ⟨n5, e5, b5⟩ := word_at y0
  obtain ⟨n6, e6, b6⟩ := word_at y1
  have c5 := in_at (by decide) e5
  have c6 := in_at (by decide) e6
  obtain ⟨zs, m2, _, _, _, hzl, hz⟩ := DataW.trod_array underlying29 f6
  have z0 := hz 0 (by decide)
  have z1 := hz 1 (by decide)
  rw [cells_qr, some_of (by omega)] at z0 z1
  rw [vcut_at (by decide)] at z0 z1
  obtain ⟨q0, k0, g0⟩ := queue_at z0
  obtain ⟨q1, k1, g1⟩ := queue_at z1
  refine ⟨⟨n0, n1, n2, n3, n4, n5, n6, q0, q1⟩, ⟨b0, b1, b2, b3, b4, b5, b6, k0, k1⟩, fun j hj => ?_⟩
  by_cases j1 : j < 7
  · match j, j1 with
    | 0, _ => exact c0
    | 1, _ => exact c1
    | 2, _ => exact c2
    | 3, _ => exact c3
    | 4, _ => exact c4
    | 5, _ => exact c5
    | 6, _ => exact c6
    | k + 7, h => exact absurd h (by omega)
  by_cases j2 : j < 14
  · obtain ⟨i, rfl⟩ : ∃ i, j = 7 + i := ⟨j - 7, by omega⟩
    have := g0 i (by omega)
    rw [show a + (7 + i) = a + 7 + 0 * 7 + i by omega, this]
    rcases i with _ | _ | _ | _ | _ | _ | _ | i
    all_goals first | rfl | omega
  · obtain ⟨i, rfl⟩ : ∃ i, j = 14 + i := ⟨j - 14, by omega⟩
    have := g1 i (by omega)
    rw [show a + (14 + i) = a + 7 + 1 * 7 + i by omega, this]
    rcases i with _ | _ | _ | _ | _ | _ | _ | i
    all_goals first | rfl | omega
theorem cells_nr : prog.cellsOf 33 = 23 := by kernel_rfl
set_option maxRecDepth 100000 in
theorem open_nic {r : Reach} {v : Value} {d : DataW H'} {p : List MemPlace}
    (hv : Value.okWide prog W r b0 33 v) (h : DataW.Trod enc prog W base spare held 33 v d p) :
    ∃ s : Nc, s.Ok ∧ v = .agg s.c := by
  have ht := underlying33
  simp only [Value.okWide, ht] at hv
  obtain ⟨cs, rfl, hsz, _⟩ := hv
  obtain ⟨fuel, hfu⟩ := h
  obtain ⟨xs, m, _, _, hlen, hxl, hx⟩ := DataW.trod_struct ht hfu
  simp only [Value.cells] at hlen hx
  rw [cells_nr] at hsz
  have hxs : xs.length = 3 := hxl
  have f0 : DataW.trod enc prog W base spare held m 31 ((cs.toList.drop 0).take (prog.cellsOf 31)) = xs[0]? := hx 0 _ rfl
  rw [some_of (by omega), cells_vr] at f0
  obtain ⟨p0, k0, g0⟩ := virt_at f0
  have f1 : DataW.trod enc prog W base spare held m 4 ((cs.toList.drop 21).take (prog.cellsOf 4)) = xs[1]? := hx 1 _ rfl
  rw [some_of (by omega), cells_bo] at f1
  obtain ⟨n1, e1, _⟩ := DataW.trod_bool underlying4 f1
  have c1 := one_at e1
  have f2 : DataW.trod enc prog W base spare held m 22 ((cs.toList.drop 22).take (prog.cellsOf 22)) = xs[2]? := hx 2 _ rfl
  rw [some_of (by omega), cells_w] at f2
  obtain ⟨n2, e2, b2⟩ := word_at f2
  have c2 := one_at e2
  refine ⟨⟨p0, n1, n2⟩, ⟨k0, b2⟩, ?_⟩
  congr 1
  apply Array.ext_getElem?
  intro j
  rw [← Array.getElem?_toList]
  by_cases j1 : j < 21
  · have := g0 j j1
    rw [Nat.zero_add] at this
    rw [this]
    show p0.cells[j]? = (p0.cells ++ _)[j]?
    rw [Array.getElem?_append_left (by show j < 21; exact j1)]
  rcases (show j = 21 ∨ j = 22 ∨ 23 ≤ j by omega) with rfl | rfl | hj
  · exact c1
  · exact c2
  · rw [List.getElem?_eq_none (by simp; omega), Array.getElem?_eq_none (by show 23 ≤ j; omega)]
end Go.Proofs.YtbggkoahofnnjaaGreatDoor
