/-
  Rings and pairs of words that came in, as plain numbers.
-/
import Derived.Test.YtghpjibjhaomoaaGreatDoorRows
import Derived.ProofKit
import Derived.OpenShut
import Derived.WideShapes
import Derived.ChangeSlices
import Derived.Test.YtghpjibjhaomoaaGreatDoorJRiRow
import Derived.Test.YtghpjibjhaomoaaGreatDoorJRiBoth
namespace Go.Proofs.YtghpjibjhaomoaaGreatDoor
open Go.ChangeShapes Go.WideShapes Go.ChangeAt Go.RowKit

/-- An array's cells where they are read. -/
theorem open_ints_at {H : Type} {enc : TypeId × Value → H} {P : Program} {w : World} {base : Nat} {spare : Nat → Bool} {held : Bool} {t e : TypeId} {k : IntKind} {N n : Nat} {cs : List Value} {y : DataW H × List MemPlace}
    (ht : P.underlying t = some (.array N e)) (he : P.underlying e = some (.int k)) (hce : P.cellsOf e = 1) (hC : P.cellsOf t = N)
    (h : DataW.trod enc P w base spare held n t cs = some y) : cs.length = N ∧ ∀ i (hi : i < cs.length), ∃ z, cs[i] = .int k z ∧ (Lit.int k z).wf = true := by
  obtain ⟨xs, m, _, _, hlen, hxl, hx⟩ := DataW.trod_array ht h
  rw [hC] at hlen
  refine ⟨hlen, fun i hi => ?_⟩
  have h1 := hx i (by omega)
  have hxi : i < xs.length := by omega
  rw [hce, Nat.mul_one, List.getElem?_eq_getElem hxi] at h1
  obtain ⟨z, e1, _, hw⟩ := DataW.trod_int he h1
  refine ⟨z, ?_, hw⟩
  have e2 : (cs.drop i).take 1 = [cs[i]] := by
    rw [List.drop_eq_getElem_cons hi, List.take_succ_cons, List.take_zero]
  rw [e2] at e1
  simpa using e1

/-- The elements of such a slice. -/
theorem open_arrs {H : Type} {enc : TypeId × Value → H} {P : Program} {w : World} {base : Nat} {spare : Nat → Bool} {held : Bool} {ts t e : TypeId} {k : IntKind} {N : Nat} {a : Option Addr} {len cap : Nat} {d : DataW H} {p : List MemPlace}
    (hts : P.underlying ts = some (.slice t)) (ht : P.underlying t = some (.array N e)) (he : P.underlying e = some (.int k)) (hce : P.cellsOf e = 1) (hC : P.cellsOf t = N) (hpos : 0 < N)
    (h : DataW.Trod enc P w base spare held ts (.slice a len cap) d p) :
    len ≤ cap ∧ cap ≤ maxLen ∧ ∃ f : Nat → Nat → Int, ∀ j, j < len → (∃ b o, a = some ⟨b, o, none⟩ ∧ ∀ i, i < N → w.cell? ⟨b, o + j * N + i, none⟩ = some (.int k (f j i))) ∧ ∀ i, i < N → (Lit.int k (f j i)).wf = true := by
  obtain ⟨fuel, hfu⟩ := h
  rcases DataW.trod_slice hts hfu with ⟨h0, _⟩ | ⟨ad, len', cap', elems, rest, n, _, hcs, _, hb, hl, hm, hlen, hel, _, _⟩
  · simp [Value.cells] at h0
    obtain ⟨rfl, rfl, rfl⟩ := h0
    exact ⟨Nat.le_refl _, Nat.zero_le _, fun _ _ => 0, fun j hj => absurd hj (by omega)⟩
  · simp [Value.cells] at hcs
    obtain ⟨rfl, rfl, rfl⟩ := hcs
    refine ⟨hl, hm, ?_⟩
    have each : ∀ j, j < len → ∃ g : Nat → Int, (∃ b o, ad = ⟨b, o, none⟩ ∧ ∀ i, i < N → w.cell? ⟨b, o + j * N + i, none⟩ = some (.int k (g i))) ∧ ∀ i, i < N → (Lit.int k (g i)).wf = true := by
      intro j hj
      have h1 := hel j hj
      have hxj : j < elems.length := by omega
      rw [List.getElem?_eq_getElem hxj, hC] at h1
      rw [Option.bind_eq_some_iff] at h1
      obtain ⟨cs, h2, h3⟩ := h1
      obtain ⟨hcl, hk⟩ := open_ints_at ht he hce hC h3
      obtain ⟨_, hln, hcell⟩ := World.cells?_some h2
      have hsp : ad.spot = none := by
        have h1 := hel 0 (by omega)
        rw [List.getElem?_eq_getElem (by omega), hC] at h1
        rw [Option.bind_eq_some_iff] at h1
        obtain ⟨cs, h2, h3⟩ := h1
        obtain ⟨hcl, _⟩ := open_ints_at ht he hce hC h3
        obtain ⟨_, _, hcell⟩ := World.cells?_some h2
        have hc0 := hcell 0 hpos
        rw [List.getElem?_eq_getElem (by omega)] at hc0
        have := World.cell?_spot hc0
        simpa [Addr.add] using this
      obtain ⟨b, o, spot⟩ := ad
      simp only at hsp
      subst hsp
      refine ⟨fun i => intOf (cs.getD i (.int .i64 0)), ⟨b, o, rfl, fun i hi => ?_⟩, fun i hi => ?_⟩
      · have hi' : i < cs.length := by omega
        obtain ⟨z, e, _⟩ := hk i hi'
        have hc := hcell i hi
        rw [List.getElem?_eq_getElem hi', e] at hc
        rw [Addr.add_lit, Addr.add_lit] at hc
        have hv : intOf (cs.getD i (.int .i64 0)) = z := by
          have e9 : cs.getD i (.int .i64 0) = cs[i] := by rw [List.getD_eq_getElem?_getD, List.getElem?_eq_getElem hi', Option.getD_some]
          rw [e9, e]; rfl
        show _ = some (Value.int _ (intOf (cs.getD i (.int .i64 0))))
        rw [hc, hv]
      · have hi' : i < cs.length := by omega
        obtain ⟨z, e, hw⟩ := hk i hi'
        have hv : intOf (cs.getD i (.int .i64 0)) = z := by
          have e9 : cs.getD i (.int .i64 0) = cs[i] := by rw [List.getD_eq_getElem?_getD, List.getElem?_eq_getElem hi', Option.getD_some]
          rw [e9, e]; rfl
        show (Lit.int _ (intOf (cs.getD i (.int .i64 0)))).wf = true
        rw [hv]
        exact hw
    refine ⟨fun j i => if h : j < len then (each j h).choose i else 0, fun j hj => ?_⟩
    have hs := (each j hj).choose_spec
    obtain ⟨⟨b, o, e, hc⟩, hw⟩ := hs
    refine ⟨⟨b, o, by rw [e], fun i hi => ?_⟩, fun i hi => ?_⟩
    · rw [hc i hi]; simp [hj]
    · have := hw i hi
      simpa [hj] using this
end Go.Proofs.YtghpjibjhaomoaaGreatDoor
namespace Go.Proofs.YtghpjibjhaomoaaGreatDoor
open Go.ChangeShapes Go.WideShapes Go.ChangeAt Go.RowKit
set_option linter.unusedVariables false

theorem bounds_w {z : Int} (h : (Lit.int .u32 z).wf = true) : ∃ n : Nat, z = n ∧ n < 4294967296 := by
  have hb := bounds_u32 h
  exact ⟨z.toNat, by omega, by omega⟩
theorem one_at {l : List Value} {a : Nat} {v : Value} (h : (l.drop a).take 1 = [v]) : l[a]? = some v := by
  have e : ((l.drop a).take 1)[0]? = some v := by rw [h]; rfl
  simpa using e
theorem some_of {α : Type} {l : List α} {i : Nat} (h : i < l.length) : l[i]? = some l[i] := List.getElem?_eq_getElem h
variable {H' : Type} {enc : TypeId × Value → H'} {W : World} {base b0 : Nat} {spare : Nat → Bool} {held : Bool} {fuel : Nat} {x : DataW H' × List MemPlace}
theorem word_at {cs : List Value} (h : DataW.trod enc Tryz.prog W base spare held fuel 22 cs = some x) : ∃ n : Nat, cs = [.int .u32 (n : Nat)] ∧ n < 4294967296 := by
  obtain ⟨z, e, _, hw⟩ := DataW.trod_int Tryz.underlying22 h
  obtain ⟨n, rfl, hn⟩ := bounds_w hw
  exact ⟨n, e, hn⟩
theorem half_at {cs : List Value} (h : DataW.trod enc Tryz.prog W base spare held fuel 23 cs = some x) : ∃ n : Nat, cs = [.int .u16 (n : Nat)] ∧ n < 65536 := by
  obtain ⟨z, e, _, hw⟩ := DataW.trod_int Tryz.underlying23 h
  have hb := bounds_u16 hw
  exact ⟨z.toNat, by rw [e, Int.toNat_of_nonneg hb.1], by omega⟩
theorem int_at {cs : List Value} (h : DataW.trod enc Tryz.prog W base spare held fuel 3 cs = some x) : ∃ z : Int, cs = [.int .i64 z] ∧ (-9223372036854775808 ≤ z ∧ z ≤ 9223372036854775807) := by
  obtain ⟨z, e, _, hw⟩ := DataW.trod_int Tryz.underlying3 h
  have hb := bounds_i64 hw
  exact ⟨z, e, by omega, by omega⟩
theorem cells_rg : Tryz.prog.cellsOf 25 = 6 := by kernel_rfl
theorem cells_w : Tryz.prog.cellsOf 22 = 1 := by kernel_rfl
theorem cells_h : Tryz.prog.cellsOf 23 = 1 := by kernel_rfl
theorem cells_in : Tryz.prog.cellsOf 3 = 1 := by kernel_rfl
set_option maxRecDepth 100000 in
set_option maxHeartbeats 1000000 in
theorem open_ring {r : Reach} {v : Value} {d : DataW H'} {p : List MemPlace}
    (hv : Value.okWide Tryz.prog W r b0 25 v) (h : DataW.Trod enc Tryz.prog W base spare held 25 v d p) :
    ∃ s : Rg, s.Ok ∧ v = .agg s.cells := by
  have ht := Tryz.underlying25
  simp only [Value.okWide, ht] at hv
  obtain ⟨cs, rfl, hsz, _⟩ := hv
  obtain ⟨fuel, hfu⟩ := h
  obtain ⟨xs, m, _, _, hlen, hxl, hx⟩ := DataW.trod_struct ht hfu
  simp only [Value.cells] at hlen hx
  rw [cells_rg] at hsz
  have hxs : xs.length = 6 := hxl
  have f0 : DataW.trod enc Tryz.prog W base spare held m 3 ((cs.toList.drop 0).take (Tryz.prog.cellsOf 3)) = xs[0]? := hx 0 _ rfl
  rw [some_of (by omega), cells_in] at f0
  obtain ⟨n0, e0, bz⟩ := int_at f0
  have c0 := one_at e0
  have f1 : DataW.trod enc Tryz.prog W base spare held m 22 ((cs.toList.drop 1).take (Tryz.prog.cellsOf 22)) = xs[1]? := hx 1 _ rfl
  rw [some_of (by omega), cells_w] at f1
  obtain ⟨n1, e1, b1⟩ := word_at f1
  have c1 := one_at e1
  have f2 : DataW.trod enc Tryz.prog W base spare held m 22 ((cs.toList.drop 2).take (Tryz.prog.cellsOf 22)) = xs[2]? := hx 2 _ rfl
  rw [some_of (by omega), cells_w] at f2
  obtain ⟨n2, e2, b2⟩ := word_at f2
  have c2 := one_at e2
  have f3 : DataW.trod enc Tryz.prog W base spare held m 22 ((cs.toList.drop 3).take (Tryz.prog.cellsOf 22)) = xs[3]? := hx 3 _ rfl
  rw [some_of (by omega), cells_w] at f3
  obtain ⟨n3, e3, b3⟩ := word_at f3
  have c3 := one_at e3
  have f4 : DataW.trod enc Tryz.prog W base spare held m 23 ((cs.toList.drop 4).take (Tryz.prog.cellsOf 23)) = xs[4]? := hx 4 _ rfl
  rw [some_of (by omega), cells_h] at f4
  obtain ⟨n4, e4, b4⟩ := half_at f4
  have c4 := one_at e4
  have f5 : DataW.trod enc Tryz.prog W base spare held m 23 ((cs.toList.drop 5).take (Tryz.prog.cellsOf 23)) = xs[5]? := hx 5 _ rfl
  rw [some_of (by omega), cells_h] at f5
  obtain ⟨n5, e5, b5⟩ := half_at f5
  have c5 := one_at e5
  refine ⟨⟨n0, n1, n2, n3, n4, n5⟩, ⟨bz.1, bz.2, b1, b2, b3, b4, b5⟩, ?_⟩
  congr 1
  apply Array.ext_getElem?
  intro j
  rw [← Array.getElem?_toList]
  match j with
  | 0 => exact c0
  | 1 => exact c1
  | 2 => exact c2
  | 3 => exact c3
  | 4 => exact c4
  | 5 => exact c5
  | k + 6 => rw [List.getElem?_eq_none (by simp; omega), Array.getElem?_eq_none (by show 6 ≤ k + 6; omega)]
theorem open_pairs {a : Option Addr} {len cap : Nat} {d : DataW H'} {p : List MemPlace}
    (h : DataW.Trod enc Tryz.prog W base spare held 26 (.slice a len cap) d p) : ∃ g : Nat → Nat → Nat, len ≤ cap ∧ cap ≤ 9223372036854775807 ∧ PairsAt W W.heap.size a len g := by
  obtain ⟨h1, h2, g, hg⟩ := open_arrs (N := 2) Tryz.underlying26 Tryz.underlying78 Tryz.underlying22 cells_w (by kernel_rfl) (by decide) h
  unfold maxLen at h2
  refine ⟨fun j i => (g j i).toNat, h1, by omega, ⟨fun j hj => ?_, fun j hj => ?_⟩⟩
  · obtain ⟨⟨b, o, e, hc⟩, hw⟩ := hg j hj
    have k0 := hc 0 (by decide)
    have k1 := hc 1 (by decide)
    have b0 := bounds_u32 (hw 0 (by decide))
    have b1 := bounds_u32 (hw 1 (by decide))
    refine ⟨b, o, e, lt_of_cell k0, ?_, ?_⟩
    · rw [show (((g j 0).toNat : Nat) : Int) = g j 0 by omega]; exact k0
    · rw [show (((g j 1).toNat : Nat) : Int) = g j 1 by omega]; exact k1
  · obtain ⟨_, hw⟩ := hg j hj
    have b0 := bounds_u32 (hw 0 (by decide))
    have b1 := bounds_u32 (hw 1 (by decide))
    exact ⟨by omega, by omega⟩
end Go.Proofs.YtghpjibjhaomoaaGreatDoor
