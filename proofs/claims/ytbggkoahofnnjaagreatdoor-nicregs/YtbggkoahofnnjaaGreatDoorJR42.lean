/-
  Devices' states and pairs of words that came in, as plain numbers.
-/
import Derived.Test.YtbggkoahofnnjaaGreatDoorJR6
import Derived.Test.YtbggkoahofnnjaaGreatDoorJR41
open Go.Proofs.Tryz
set_option linter.unusedVariables false
set_option linter.unusedSimpArgs false
namespace Go.Proofs.YtbggkoahofnnjaaGreatDoor
open Go.ChangeShapes Go.WideShapes Go.ChangeAt Go.RowKit
theorem bounds_w {z : Int} (h : (Lit.int .u32 z).wf = true) : ∃ n : Nat, z = n ∧ n < 4294967296 := by
  have hb := bounds_u32 h
  exact ⟨z.toNat, by omega, by omega⟩
theorem one_at {l : List Value} {a : Nat} {v : Value} (h : (l.drop a).take 1 = [v]) : l[a]? = some v := by
  have e : ((l.drop a).take 1)[0]? = some v := by rw [h]; rfl
  simpa using e
theorem some_of {α : Type} {l : List α} {i : Nat} (h : i < l.length) : l[i]? = some l[i] := List.getElem?_eq_getElem h
variable {H' : Type} {enc : TypeId × Value → H'} {W : World} {base b0 : Nat} {spare : Nat → Bool} {held : Bool} {fuel : Nat} {x : DataW H' × List MemPlace}
theorem word_at {cs : List Value} (h : DataW.trod enc prog W base spare held fuel 22 cs = some x) : ∃ n : Nat, cs = [.int .u32 (n : Nat)] ∧ n < 4294967296 := by
  obtain ⟨z, e, _, hw⟩ := DataW.trod_int underlying22 h
  obtain ⟨n, rfl, hn⟩ := bounds_w hw
  exact ⟨n, e, hn⟩
theorem half_at {cs : List Value} (h : DataW.trod enc prog W base spare held fuel 24 cs = some x) : ∃ n : Nat, cs = [.int .u16 (n : Nat)] ∧ n < 65536 := by
  obtain ⟨z, e, _, hw⟩ := DataW.trod_int underlying24 h
  have hb := bounds_u16 hw
  exact ⟨z.toNat, by rw [e, Int.toNat_of_nonneg hb.1], by omega⟩
theorem int_at {cs : List Value} (h : DataW.trod enc prog W base spare held fuel 3 cs = some x) : ∃ z : Int, cs = [.int .i64 z] ∧ (-9223372036854775808 ≤ z ∧ z ≤ 9223372036854775807) := by
  obtain ⟨z, e, _, hw⟩ := DataW.trod_int underlying3 h
  have hb := bounds_i64 hw
  exact ⟨z, e, by omega, by omega⟩
theorem cells_rg : prog.cellsOf 26 = 6 := by kernel_rfl
theorem cells_w : prog.cellsOf 22 = 1 := by kernel_rfl
theorem cells_h : prog.cellsOf 24 = 1 := by kernel_rfl
theorem cells_in : prog.cellsOf 3 = 1 := by kernel_rfl
theorem cells_vr : prog.cellsOf 31 = 21 := by kernel_rfl
theorem cells_qr : prog.cellsOf 28 = 7 := by kernel_rfl
theorem cells_qs : prog.cellsOf 29 = 14 := by kernel_rfl
theorem cells_dr : prog.cellsOf 23 = 2 := by kernel_rfl
theorem cells_bo : prog.cellsOf 4 = 1 := by kernel_rfl
theorem in_at {l : List Value} {a n i : Nat} {v : Value} (hi : i < n) (h : (((l.drop a).take n).drop i).take 1 = [v]) : l[a + i]? = some v := by
  have e := one_at h
  rw [List.getElem?_take_of_lt hi, List.getElem?_drop] at e
  exact e
theorem vcut_at {l : List Value} {a n i m : Nat} (hi : i + m ≤ n) : (((l.drop a).take n).drop i).take m = (l.drop (a + i)).take m := by
  apply List.ext_getElem?
  intro j
  by_cases h : j < m
  · rw [List.getElem?_take_of_lt h, List.getElem?_take_of_lt h, List.getElem?_drop, List.getElem?_drop, List.getElem?_take_of_lt (by omega), List.getElem?_drop]
    congr 1; omega
  · rw [List.getElem?_eq_none (by simp; omega), List.getElem?_eq_none (by simp; omega)]
theorem ring_at {l : List Value} {a : Nat} (h : DataW.trod enc prog W base spare held fuel 26 ((l.drop a).take 6) = some x) : ∃ r : Rg, r.Ok ∧ ∀ j, j < 6 → l[a + j]? = r.cells[j]? := by
  obtain ⟨xs, m, _, _, _, hxl, hx⟩ := DataW.trod_struct underlying26 h
  have hxs : xs.length = 6 := hxl
  have f0 : DataW.trod enc prog W base spare held m 3 ((((l.drop a).take 6).drop 0).take (prog.cellsOf 3)) = xs[0]? := hx 0 _ rfl
  rw [some_of (by omega), cells_in] at f0
  obtain ⟨n0, e0, b0⟩ := int_at f0
  have c0 := in_at (by decide) e0
  have f1 : DataW.trod enc prog W base spare held m 22 ((((l.drop a).take 6).drop 1).take (prog.cellsOf 22)) = xs[1]? := hx 1 _ rfl
  rw [some_of (by omega), cells_w] at f1
  obtain ⟨n1, e1, b1⟩ := word_at f1
  have c1 := in_at (by decide) e1
  have f2 : DataW.trod enc prog W base spare held m 22 ((((l.drop a).take 6).drop 2).take (prog.cellsOf 22)) = xs[2]? := hx 2 _ rfl
  rw [some_of (by omega), cells_w] at f2
  obtain ⟨n2, e2, b2⟩ := word_at f2
  have c2 := in_at (by decide) e2
  have f3 : DataW.trod enc prog W base spare held m 22 ((((l.drop a).take 6).drop 3).take (prog.cellsOf 22)) = xs[3]? := hx 3 _ rfl
  rw [some_of (by omega), cells_w] at f3
  obtain ⟨n3, e3, b3⟩ := word_at f3
  have c3 := in_at (by decide) e3
  have f4 : DataW.trod enc prog W base spare held m 24 ((((l.drop a).take 6).drop 4).take (prog.cellsOf 24)) = xs[4]? := hx 4 _ rfl
  rw [some_of (by omega), cells_h] at f4
  obtain ⟨n4, e4, b4⟩ := half_at f4
  have c4 := in_at (by decide) e4
  have f5 : DataW.trod enc prog W base spare held m 24 ((((l.drop a).take 6).drop 5).take (prog.cellsOf 24)) = xs[5]? := hx 5 _ rfl
  rw [some_of (by omega), cells_h] at f5
  obtain ⟨n5, e5, b5⟩ := half_at f5
  have c5 := in_at (by decide) e5
  refine ⟨⟨n0, n1, n2, n3, n4, n5⟩, ⟨b0.1, b0.2, b1, b2, b3, b4, b5⟩, fun j hj => ?_⟩
  match j, hj with
  | 0, _ => exact c0
  | 1, _ => exact c1
  | 2, _ => exact c2
  | 3, _ => exact c3
  | 4, _ => exact c4
  | 5, _ => exact c5
  | k + 6, h => exact absurd h (by omega)
theorem queue_at {l : List Value} {a : Nat} (h : DataW.trod enc prog W base spare held fuel 28 ((l.drop a).take 7) = some x) : ∃ q : Qu, q.r.Ok ∧ ∀ j, j < 7 → l[a + j]? = q.cells[j]? := by
  obtain ⟨xs, m, _, _, _, hxl, hx⟩ := DataW.trod_struct underlying28 h
  have hxs : xs.length = 2 := hxl
  have f0 : DataW.trod enc prog W base spare held m 4 ((((l.drop a).take 7).drop 0).take (prog.cellsOf 4)) = xs[0]? := hx 0 _ rfl
  have f1 : DataW.trod enc prog W base spare held m 26 ((((l.drop a).take 7).drop 1).take (prog.cellsOf 26)) = xs[1]? := hx 1 _ rfl
  rw [some_of (by omega)] at f0 f1
  rw [cells_bo] at f0
  rw [cells_rg, vcut_at (by decide)] at f1
  obtain ⟨rd, e0, _⟩ := DataW.trod_bool underlying4 f0
  have c0 := in_at (by decide) e0
  obtain ⟨r, okr, cr⟩ := ring_at f1
  refine ⟨⟨rd, r⟩, okr, fun j hj => ?_⟩
  match j, hj with
  | 0, _ => exact c0
  | k + 1, h =>
    have := cr k (by omega)
    rw [show a + (k + 1) = a + 1 + k by omega, this]
    match k, h with
    | 0, _ => rfl
    | 1, _ => rfl
    | 2, _ => rfl
    | 3, _ => rfl
    | 4, _ => rfl
    | 5, _ => rfl
    | k + 6, h => exact absurd h (by omega)
end Go.Proofs.YtbggkoahofnnjaaGreatDoor
