/-
  A slice of arrays of integers that came in, opened: the numbers that each element holds.
-/
import Derived.Test.YtbggkoahofnnjaaGreatDoorRows
import Derived.ProofKit
import Derived.OpenShut
import Derived.WideShapes
import Derived.ChangeSlices
namespace Go.Proofs.YtbggkoahofnnjaaGreatDoor
open Go.ChangeShapes Go.WideShapes Go.ChangeAt Go.RowKit
set_option linter.unusedVariables false

theorem open_elems {H : Type} {enc : TypeId × Value → H} {P : Program} {w : World} {base : Nat} {spare : Nat → Bool} {held : Bool} {ts t : TypeId} {C fuel : Nat} {vs : List Value} {x : DataW H × List MemPlace}
    (hts : P.underlying ts = some (.slice t)) (hC : P.cellsOf t = C) (hpos : 0 < C) (hlen : ∀ n cs y, DataW.trod enc P w base spare held n t cs = some y → cs.length = C)
    (h : DataW.trod enc P w base spare held fuel ts vs = some x) :
    ∃ a len cap, vs = [.slice a len cap] ∧ len ≤ cap ∧ cap ≤ maxLen ∧ ∀ j, j < len → ∃ b o cs m y, a = some ⟨b, o, none⟩ ∧ cs.length = C ∧ (∀ i, i < C → w.cell? ⟨b, o + j * C + i, none⟩ = cs[i]?) ∧ DataW.trod enc P w base spare held m t cs = some y := by
  rcases DataW.trod_slice hts h with ⟨h0, _⟩ | ⟨ad, len, cap, elems, rest, n, _, hcs, _, hb, hl, hm, hle, hel, _, _⟩
  · exact ⟨none, 0, 0, h0, Nat.le_refl _, Nat.zero_le _, fun j hj => absurd hj (by omega)⟩
  · refine ⟨some ad, len, cap, hcs, hl, hm, fun j hj => ?_⟩
    have h1 := hel j hj
    have hxj : j < elems.length := by omega
    rw [List.getElem?_eq_getElem hxj, hC] at h1
    rw [Option.bind_eq_some_iff] at h1
    obtain ⟨cs, h2, h3⟩ := h1
    have hcl := hlen _ _ _ h3
    obtain ⟨_, hln, hcell⟩ := World.cells?_some h2
    have hsp : ad.spot = none := by
      have h1 := hel 0 (by omega)
      rw [List.getElem?_eq_getElem (by omega), hC] at h1
      rw [Option.bind_eq_some_iff] at h1
      obtain ⟨cs, h2, h3⟩ := h1
      have hcl := hlen _ _ _ h3
      obtain ⟨_, _, hcell⟩ := World.cells?_some h2
      have hc0 := hcell 0 hpos
      rw [List.getElem?_eq_getElem (by omega)] at hc0
      have := World.cell?_spot hc0
      simpa [Addr.add] using this
    obtain ⟨b, o, spot⟩ := ad
    simp only at hsp
    subst hsp
    refine ⟨b, o, cs, n, elems[j], rfl, hcl, fun i hi => ?_, h3⟩
    have hc := hcell i hi
    have e : (Addr.add (Addr.add ⟨b, o, none⟩ (j * C)) i) = ⟨b, o + j * C + i, none⟩ := by
      unfold Addr.add
      by_cases h1 : j * C = 0 <;> by_cases h2 : i = 0 <;> simp [h1, h2]
    rw [← e]; exact hc
end Go.Proofs.YtbggkoahofnnjaaGreatDoor
namespace Go.Proofs.YtbggkoahofnnjaaGreatDoor
open Go.ChangeShapes Go.WideShapes Go.ChangeAt Go.RowKit

/-- An array's cells where they are read. -/
theorem open_ints_at {H : Type} {enc : TypeId × Value → H} {P : Program} {w : World} {base : Nat} {spare : Nat → Bool} {held : Bool} {t e : TypeId} {k : IntKind} {N n : Nat} {cs : List Value} {y : DataW H × List MemPlace}
    (ht : P.underlying t = some (.array N e)) (he : P.underlying e = some (.int k)) (hce : P.cellsOf e = 1) (hC : P.cellsOf t = N)
    (h : DataW.trod enc P w base spare held n t cs = some y) : cs.length = N ∧ ∀ i (hi : i < cs.length), ∃ z, cs[i] = .int k z ∧ (Lit.int k z).wf = true := by
  obtain ⟨xs, m, _, _, hlen, hxl, hx⟩ := DataW.trod_array ht h
  rw [hC] at hlen
  refine ⟨hlen, fun i hi => ?_⟩
  have h1 := hx i (by omega)
  have hxi : i < xs.length := by omega
  rw [hce, Nat.mul_one, List.getElem?_eq_getElem hxi] at h1
  obtain ⟨z, e1, _, hw⟩ := DataW.trod_int he h1
  refine ⟨z, ?_, hw⟩
  have e2 : (cs.drop i).take 1 = [cs[i]] := by
    rw [List.drop_eq_getElem_cons hi, List.take_succ_cons, List.take_zero]
  rw [e2] at e1
  simpa using e1

/-- The elements of such a slice. -/
theorem open_arrs {H : Type} {enc : TypeId × Value → H} {P : Program} {w : World} {base : Nat} {spare : Nat → Bool} {held : Bool} {ts t e : TypeId} {k : IntKind} {N : Nat} {a : Option Addr} {len cap : Nat} {d : DataW H} {p : List MemPlace}
    (hts : P.underlying ts = some (.slice t)) (ht : P.underlying t = some (.array N e)) (he : P.underlying e = some (.int k)) (hce : P.cellsOf e = 1) (hC : P.cellsOf t = N) (hpos : 0 < N)
    (h : DataW.Trod enc P w base spare held ts (.slice a len cap) d p) :
    len ≤ cap ∧ cap ≤ maxLen ∧ ∃ f : Nat → Nat → Int, ∀ j, j < len → (∃ b o, a = some ⟨b, o, none⟩ ∧ ∀ i, i < N → w.cell? ⟨b, o + j * N + i, none⟩ = some (.int k (f j i))) ∧ ∀ i, i < N → (Lit.int k (f j i)).wf = true := by
  obtain ⟨fuel, hfu⟩ := h
  rcases DataW.trod_slice hts hfu with ⟨h0, _⟩ | ⟨ad, len', cap', elems, rest, n, _, hcs, _, hb, hl, hm, hlen, hel, _, _⟩
  · simp [Value.cells] at h0
    obtain ⟨rfl, rfl, rfl⟩ := h0
    exact ⟨Nat.le_refl _, Nat.zero_le _, fun _ _ => 0, fun j hj => absurd hj (by omega)⟩
  · simp [Value.cells] at hcs
    obtain ⟨rfl, rfl, rfl⟩ := hcs
    refine ⟨hl, hm, ?_⟩
    have each : ∀ j, j < len → ∃ g : Nat → Int, (∃ b o, ad = ⟨b, o, none⟩ ∧ ∀ i, i < N → w.cell? ⟨b, o + j * N + i, none⟩ = some (.int k (g i))) ∧ ∀ i, i < N → (Lit.int k (g i)).wf = true := by
      intro j hj
      have h1 := hel j hj
      have hxj : j < elems.length := by omega
      rw [List.getElem?_eq_getElem hxj, hC] at h1
      rw [Option.bind_eq_some_iff] at h1
      obtain ⟨cs, h2, h3⟩ := h1
      obtain ⟨hcl, hk⟩ := open_ints_at ht he hce hC h3
      obtain ⟨_, hln, hcell⟩ := World.cells?_some h2
      have hsp : ad.spot = none := by
        have h1 := hel 0 (by omega)
        rw [List.getElem?_eq_getElem (by omega), hC] at h1
        rw [Option.bind_eq_some_iff] at h1
        obtain ⟨cs, h2, h3⟩ := h1
        obtain ⟨hcl, _⟩ := open_ints_at ht he hce hC h3
        obtain ⟨_, _, hcell⟩ := World.cells?_some h2
        have hc0 := hcell 0 hpos
        rw [List.getElem?_eq_getElem (by omega)] at hc0
        have := World.cell?_spot hc0
        simpa [Addr.add] using this
      obtain ⟨b, o, spot⟩ := ad
      simp only at hsp
      subst hsp
      refine ⟨fun i => intOf (cs.getD i (.int .i64 0)), ⟨b, o, rfl, fun i hi => ?_⟩, fun i hi => ?_⟩
      · have hi' : i < cs.length := by omega
        obtain ⟨z, e, _⟩ := hk i hi'
        have hc := hcell i hi
        rw [List.getElem?_eq_getElem hi', e] at hc
        rw [Addr.add_lit, Addr.add_lit] at hc
        have hv : intOf (cs.getD i (.int .i64 0)) = z := by
          have e9 : cs.getD i (.int .i64 0) = cs[i] := by rw [List.getD_eq_getElem?_getD, List.getElem?_eq_getElem hi', Option.getD_some]
          rw [e9, e]; rfl
        show _ = some (Value.int _ (intOf (cs.getD i (.int .i64 0))))
        rw [hc, hv]
      · have hi' : i < cs.length := by omega
        obtain ⟨z, e, hw⟩ := hk i hi'
        have hv : intOf (cs.getD i (.int .i64 0)) = z := by
          have e9 : cs.getD i (.int .i64 0) = cs[i] := by rw [List.getD_eq_getElem?_getD, List.getElem?_eq_getElem hi', Option.getD_some]
          rw [e9, e]; rfl
        show (Lit.int _ (intOf (cs.getD i (.int .i64 0)))).wf = true
        rw [hv]
        exact hw
    refine ⟨fun j i => if h : j < len then (each j h).choose i else 0, fun j hj => ?_⟩
    have hs := (each j hj).choose_spec
    obtain ⟨⟨b, o, e, hc⟩, hw⟩ := hs
    refine ⟨⟨b, o, by rw [e], fun i hi => ?_⟩, fun i hi => ?_⟩
    · rw [hc i hi]; simp [hj]
    · have := hw i hi
      simpa [hj] using this
end Go.Proofs.YtbggkoahofnnjaaGreatDoor
