/-
  A struct of integers by value, opened: the numbers that it holds.
-/
import Derived.Test.YthfcodiplmodaaaGreatDoorRows
import Derived.ProofKit
import Derived.OpenShut
import Derived.WideShapes
namespace Go.Proofs.YthfcodiplmodaaaGreatDoor
open Go.ChangeShapes Go.WideShapes Go.ChangeAt Go.RowKit

theorem open_flat {H : Type} {enc : TypeId × Value → H} {P : Program} {w : World} {base b0 : Nat} {spare : Nat → Bool} {held : Bool} {r : Reach} {t e : TypeId} {fs : Array Field} {k : IntKind} {v : Value} {d : DataW H} {p : List MemPlace}
    (ht : P.underlying t = some (.struct fs)) (he : P.underlying e = some (.int k)) (hce : P.cellsOf e = 1) (hC : P.cellsOf t = fs.size) (hf : ((List.range fs.size).all fun i => (fs[i]?).any fun f => f.type == e && f.offset == i) = true)
    (hv : Value.okWide P w r b0 t v) (h : DataW.Trod enc P w base spare held t v d p) :
    ∃ zs : List Int, zs.length = fs.size ∧ v = .agg (zs.map (Value.int k)).toArray ∧ ∀ z ∈ zs, (Lit.int k z).wf = true := by
  simp only [Value.okWide, ht] at hv
  obtain ⟨cs, rfl, hsz, _⟩ := hv
  obtain ⟨fuel, hfu⟩ := h
  obtain ⟨xs, m, _, _, hlen, hxl, hx⟩ := DataW.trod_struct ht hfu
  simp only [Value.cells] at hlen hx
  have hl : cs.toList.length = fs.size := by simpa [hC] using hsz
  have hel : ∀ i (hi : i < cs.toList.length), ∃ z, cs.toList[i] = .int k z ∧ (Lit.int k z).wf = true := by
    intro i hi
    have hi2 : i < fs.size := by omega
    have hfi := List.all_eq_true.1 hf i (List.mem_range.2 hi2)
    rw [Array.getElem?_eq_getElem hi2] at hfi
    simp only [Option.any_some, Bool.and_eq_true, beq_iff_eq] at hfi
    have h1 := hx i fs[i] (Array.getElem?_eq_getElem hi2)
    have hxi : i < xs.length := by omega
    rw [hfi.1, hfi.2, hce, List.getElem?_eq_getElem hxi] at h1
    obtain ⟨z, e1, _, hw⟩ := DataW.trod_int he h1
    refine ⟨z, ?_, hw⟩
    have e2 : (cs.toList.drop i).take 1 = [cs.toList[i]] := by
      rw [List.drop_eq_getElem_cons hi]; simp
    rw [e2] at e1
    simpa using e1
  refine ⟨cs.toList.map intOf, by simpa using hl, ?_, ?_⟩
  · congr 1
    apply Array.ext'
    apply List.ext_getElem
    · simp
    · intro i h1 h2
      obtain ⟨z, ez, _⟩ := hel i h1
      simp only [List.getElem_map]
      rw [ez]; rfl
  · intro z hz
    obtain ⟨v, hv, rfl⟩ := List.mem_map.1 hz
    obtain ⟨i, hi, rfl⟩ := List.mem_iff_getElem.1 hv
    obtain ⟨z, ez, hw⟩ := hel i hi
    rw [ez]; exact hw
end Go.Proofs.YthfcodiplmodaaaGreatDoor
