/-
  A hart that came in, as plain numbers.
-/
import Derived.Test.YtelakpogochifaaDoorHaRow
import Derived.ProofKit
import Derived.OpenShut
import Derived.WideShapes
namespace Go.Proofs.YtelakpogochifaaDoor
open Go.ChangeShapes Go.WideShapes Go.ChangeAt Go.RowKit
set_option linter.unusedVariables false

theorem bounds_w {z : Int} (h : (Lit.int .u32 z).wf = true) : ∃ n : Nat, z = n ∧ n < 4294967296 := by
  have hb := bounds_u32 h
  exact ⟨z.toNat, by omega, by omega⟩
theorem bounds_c {z : Int} (h : (Lit.int .u64 z).wf = true) : ∃ n : Nat, z = n ∧ n < 18446744073709551616 := by
  have hb := bounds_u64 h
  exact ⟨z.toNat, by omega, by omega⟩
theorem one_at {l : List Value} {a : Nat} {v : Value} (h : (l.drop a).take 1 = [v]) : l[a]? = some v := by
  have e : ((l.drop a).take 1)[0]? = some v := by rw [h]; rfl
  simpa using e
theorem in_at {l : List Value} {a n i : Nat} {v : Value} (hi : i < n) (h : (((l.drop a).take n).drop i).take 1 = [v]) : l[a + i]? = some v := by
  have e := one_at h
  rw [List.getElem?_take_of_lt hi, List.getElem?_drop] at e
  exact e
theorem word_at {H : Type} {enc : TypeId × Value → H} {W : World} {base : Nat} {spare : Nat → Bool} {held : Bool} {fuel : Nat} {cs : List Value} {x : DataW H × List MemPlace}
    (h : DataW.trod enc Tryd.prog W base spare held fuel 22 cs = some x) : ∃ n : Nat, cs = [.int .u32 (n : Nat)] ∧ n < 4294967296 := by
  obtain ⟨z, e, _, hw⟩ := DataW.trod_int Tryd.underlying22 h
  obtain ⟨n, rfl, hn⟩ := bounds_w hw
  exact ⟨n, e, hn⟩
theorem cells_g : Tryd.prog.cellsOf 28 = 42 := by kernel_rfl
theorem cells_gx : Tryd.prog.cellsOf 23 = 32 := by kernel_rfl
theorem cells_gc : Tryd.prog.cellsOf 26 = 8 := by kernel_rfl
theorem cells_w : Tryd.prog.cellsOf 22 = 1 := by kernel_rfl
theorem cells_l : Tryd.prog.cellsOf 24 = 1 := by kernel_rfl
theorem cells_b : Tryd.prog.cellsOf 4 = 1 := by kernel_rfl
theorem some_of {α : Type} {l : List α} {i : Nat} (h : i < l.length) : l[i]? = some l[i] := List.getElem?_eq_getElem h

set_option maxRecDepth 100000 in
set_option maxHeartbeats 1000000 in
theorem open_hart {H' : Type} {enc : TypeId × Value → H'} {W : World} {base b0 : Nat} {spare : Nat → Bool} {held : Bool} {r : Reach} {v : Value} {d : DataW H'} {p : List MemPlace}
    (hv : Value.okWide Tryd.prog W r b0 28 v) (h : DataW.Trod enc Tryd.prog W base spare held 28 v d p) :
    ∃ s : H, s.Ok ∧ v = .agg s.cells := by
  have ht := Tryd.underlying28
  simp only [Value.okWide, ht] at hv
  obtain ⟨cs, rfl, hsz, _⟩ := hv
  obtain ⟨fuel, hfu⟩ := h
  obtain ⟨xs, m, _, _, hlen, hxl, hx⟩ := DataW.trod_struct ht hfu
  simp only [Value.cells] at hlen hx
  rw [cells_g] at hsz
  have hxs : xs.length = 4 := hxl
  have f0 : DataW.trod enc Tryd.prog W base spare held m 22 ((cs.toList.drop 0).take (Tryd.prog.cellsOf 22)) = xs[0]? := hx 0 _ rfl
  have f1 : DataW.trod enc Tryd.prog W base spare held m 23 ((cs.toList.drop 1).take (Tryd.prog.cellsOf 23)) = xs[1]? := hx 1 _ rfl
  have f2 : DataW.trod enc Tryd.prog W base spare held m 4 ((cs.toList.drop 33).take (Tryd.prog.cellsOf 4)) = xs[2]? := hx 2 _ rfl
  have f3 : DataW.trod enc Tryd.prog W base spare held m 26 ((cs.toList.drop 34).take (Tryd.prog.cellsOf 26)) = xs[3]? := hx 3 _ rfl
  rw [some_of (by omega)] at f0 f1 f2 f3
  rw [cells_w] at f0
  rw [cells_gx] at f1
  rw [cells_b] at f2
  rw [cells_gc] at f3
  obtain ⟨n0, e0, b0'⟩ := word_at f0
  have c0 := one_at e0
  obtain ⟨ys, m1, _, _, _, hyl, hy⟩ := DataW.trod_array Tryd.underlying23 f1
  have cx : ∀ i, ∃ n : Nat, n < 4294967296 ∧ (i < 32 → cs.toList[1 + i]? = some (.int .u32 (n : Nat))) := by
    intro i
    by_cases hi : i < 32
    · have g := hy i hi
      rw [cells_w, Nat.mul_one, some_of (by omega)] at g
      obtain ⟨n, e, hn⟩ := word_at g
      exact ⟨n, hn, fun _ => in_at hi e⟩
    · exact ⟨0, by decide, fun h => absurd h hi⟩
  obtain ⟨bw, e2, _⟩ := DataW.trod_bool Tryd.underlying4 f2
  have c33 := one_at e2
  obtain ⟨zs, m3, _, _, _, hzl, hz⟩ := DataW.trod_struct Tryd.underlying26 f3
  have hzs : zs.length = 8 := hzl
  have g0 : DataW.trod enc Tryd.prog W base spare held m3 22 ((((cs.toList.drop 34).take 8).drop 0).take (Tryd.prog.cellsOf 22)) = zs[0]? := hz 0 _ rfl
  have g1 : DataW.trod enc Tryd.prog W base spare held m3 22 ((((cs.toList.drop 34).take 8).drop 1).take (Tryd.prog.cellsOf 22)) = zs[1]? := hz 1 _ rfl
  have g2 : DataW.trod enc Tryd.prog W base spare held m3 22 ((((cs.toList.drop 34).take 8).drop 2).take (Tryd.prog.cellsOf 22)) = zs[2]? := hz 2 _ rfl
  have g3 : DataW.trod enc Tryd.prog W base spare held m3 22 ((((cs.toList.drop 34).take 8).drop 3).take (Tryd.prog.cellsOf 22)) = zs[3]? := hz 3 _ rfl
  have g4 : DataW.trod enc Tryd.prog W base spare held m3 22 ((((cs.toList.drop 34).take 8).drop 4).take (Tryd.prog.cellsOf 22)) = zs[4]? := hz 4 _ rfl
  have g5 : DataW.trod enc Tryd.prog W base spare held m3 22 ((((cs.toList.drop 34).take 8).drop 5).take (Tryd.prog.cellsOf 22)) = zs[5]? := hz 5 _ rfl
  have g6 : DataW.trod enc Tryd.prog W base spare held m3 22 ((((cs.toList.drop 34).take 8).drop 6).take (Tryd.prog.cellsOf 22)) = zs[6]? := hz 6 _ rfl
  have g7 : DataW.trod enc Tryd.prog W base spare held m3 24 ((((cs.toList.drop 34).take 8).drop 7).take (Tryd.prog.cellsOf 24)) = zs[7]? := hz 7 _ rfl
  rw [some_of (by omega)] at g0 g1 g2 g3 g4 g5 g6 g7
  rw [cells_w] at g0 g1 g2 g3 g4 g5 g6
  rw [cells_l] at g7
  obtain ⟨s0, k0, l0⟩ := word_at g0
  obtain ⟨s1, k1, l1⟩ := word_at g1
  obtain ⟨s2, k2, l2⟩ := word_at g2
  obtain ⟨s3, k3, l3⟩ := word_at g3
  obtain ⟨s4, k4, l4⟩ := word_at g4
  obtain ⟨s5, k5, l5⟩ := word_at g5
  obtain ⟨s6, k6, l6⟩ := word_at g6
  obtain ⟨z7, k7, _, w7⟩ := DataW.trod_int Tryd.underlying24 g7
  obtain ⟨s7, rfl, l7⟩ := bounds_c w7
  have q0 := in_at (by decide) k0
  have q1 := in_at (by decide) k1
  have q2 := in_at (by decide) k2
  have q3 := in_at (by decide) k3
  have q4 := in_at (by decide) k4
  have q5 := in_at (by decide) k5
  have q6 := in_at (by decide) k6
  have q7 := in_at (by decide) k7
  refine ⟨⟨n0, fun i => Classical.choose (cx i), bw, ⟨s0, s1, s2, s3, s4, s5, s6, s7⟩⟩, ⟨b0', fun i => (Classical.choose_spec (cx i)).1, ⟨l0, l1, l2, l3, l4, l5, l6, l7⟩⟩, ?_⟩
  congr 1
  apply Array.ext_getElem?
  intro j
  rw [← Array.getElem?_toList]
  by_cases j0 : j = 0
  · subst j0; exact c0
  by_cases j1 : j < 33
  · obtain ⟨i, rfl⟩ : ∃ i, j = 1 + i := ⟨j - 1, by omega⟩
    rw [(Classical.choose_spec (cx i)).2 (by omega), H.cell_x _ i (by omega)]
  by_cases j2 : j = 33
  · subst j2; exact c33
  by_cases j3 : j < 42
  · obtain ⟨i, rfl⟩ : ∃ i, j = 34 + i := ⟨j - 34, by omega⟩
    match i, j3 with
    | 0, _ => exact q0
    | 1, _ => exact q1
    | 2, _ => exact q2
    | 3, _ => exact q3
    | 4, _ => exact q4
    | 5, _ => exact q5
    | 6, _ => exact q6
    | 7, _ => exact q7
    | k + 8, h => exact absurd h (by omega)
  · rw [List.getElem?_eq_none (by simp; omega), Array.getElem?_eq_none (by show 42 ≤ j; omega)]
end Go.Proofs.YtelakpogochifaaDoor
