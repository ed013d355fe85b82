/-
  An array of truths by value, opened: what it holds.
-/
import Derived.Test.YtcojghmanpcedaaRows
import Derived.ProofKit
import Derived.OpenShut
import Derived.WideShapes
namespace Go.Proofs.Ytcojghmanpcedaa
open Go.ChangeShapes Go.WideShapes Go.ChangeAt Go.RowKit

/-- A cell's truth. -/
def boolOf : Value → Bool
  | .bool b => b
  | _ => false

theorem open_bools {H : Type} {enc : TypeId × Value → H} {P : Program} {w : World} {base b0 : Nat} {spare : Nat → Bool} {held : Bool} {r : Reach} {t e : TypeId} {n : Nat} {v : Value} {d : DataW H} {p : List MemPlace}
    (ht : P.underlying t = some (.array n e)) (he : P.underlying e = some .bool) (hce : P.cellsOf e = 1) (hC : P.cellsOf t = n)
    (hv : Value.okWide P w r b0 t v) (h : DataW.Trod enc P w base spare held t v d p) :
    ∃ zs : List Bool, zs.length = n ∧ v = .agg (zs.map Value.bool).toArray := by
  simp only [Value.okWide, ht] at hv
  obtain ⟨cs, rfl, hsz, _⟩ := hv
  obtain ⟨fuel, hf⟩ := h
  obtain ⟨xs, m, _, _, hlen, hxl, hx⟩ := DataW.trod_array ht hf
  simp only [Value.cells] at hlen hx
  have hl : cs.toList.length = n := by simpa [hC] using hsz
  have hel : ∀ i (hi : i < cs.toList.length), ∃ z, cs.toList[i] = .bool z := by
    intro i hi
    have hi2 : i < n := by omega
    have h1 := hx i hi2
    have hxi : i < xs.length := by omega
    rw [hce, List.getElem?_eq_getElem hxi] at h1
    obtain ⟨z, e1, _⟩ := DataW.trod_bool he h1
    refine ⟨z, ?_⟩
    have e2 : (cs.toList.drop (i * 1)).take 1 = [cs.toList[i]] := by
      rw [Nat.mul_one, List.drop_eq_getElem_cons hi]; simp
    rw [e2] at e1
    simpa using e1
  refine ⟨cs.toList.map boolOf, by simpa using hl, ?_⟩
  congr 1
  apply Array.ext'
  apply List.ext_getElem
  · simp
  · intro i h1 h2
    obtain ⟨z, ez⟩ := hel i h1
    simp only [List.getElem_map]
    rw [ez]; rfl

theorem open_bools2 {H : Type} {enc : TypeId × Value → H} {P : Program} {w : World} {base b0 : Nat} {spare : Nat → Bool} {held : Bool} {r : Reach} {t e : TypeId} {v : Value} {d : DataW H} {p : List MemPlace}
    (ht : P.underlying t = some (.array 2 e)) (he : P.underlying e = some .bool) (hce : P.cellsOf e = 1) (hC : P.cellsOf t = 2)
    (hv : Value.okWide P w r b0 t v) (h : DataW.Trod enc P w base spare held t v d p) :
    ∃ z0 z1 : Bool, v = .agg #[.bool z0, .bool z1] := by
  obtain ⟨zs, hl, rfl⟩ := open_bools ht he hce hC hv h
  match zs, hl with
  | [z0, z1], _ => exact ⟨z0, z1, rfl⟩
end Go.Proofs.Ytcojghmanpcedaa
