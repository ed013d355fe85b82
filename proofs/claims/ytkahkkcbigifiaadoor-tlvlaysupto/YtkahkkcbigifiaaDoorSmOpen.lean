/-
  Bytes that came in, and words.
-/
import Derived.Test.YtkahkkcbigifiaaDoorSmBy
import Derived.Test.YtkahkkcbigifiaaDoorRows
import Derived.ProofKit
import Derived.OpenShut
import Derived.WideShapes
import Derived.ChangeSlices
namespace Go.Proofs.YtkahkkcbigifiaaDoor
open Go.ChangeShapes Go.WideShapes Go.ChangeAt Go.RowKit
set_option linter.unusedVariables false

theorem bounds_w {z : Int} (h : (Lit.int .u32 z).wf = true) : ∃ n : Nat, z = n ∧ n < 4294967296 := by
  have hb := bounds_u32 h
  exact ⟨z.toNat, by omega, by omega⟩
theorem cells_r8 : Tryd.prog.cellsOf 5 = 1 := by kernel_rfl
theorem wf_u8 {z : Int} (h : (Lit.int .u8 z).wf = true) : 0 ≤ z ∧ z < 256 := by
  have hb := bounds_u8 h
  exact ⟨by omega, by omega⟩
theorem open_rbytes {H' : Type} {enc : TypeId × Value → H'} {W : World} {held : Bool} {base : Nat} {a : Option Addr} {len cap : Nat} {d : DataW H'} {p : List MemPlace}
    (h : DataW.Trod enc Tryd.prog W base (fun _ => true) held 26 (.slice a len cap) d p) : ∃ l : List Nat, (l.length = len ∧ len ≤ cap) ∧ cap ≤ 9223372036854775807 ∧ Rd W.heap.size W (.slice a len cap) l := by
  obtain ⟨fuel, hf⟩ := h
  rcases open_ints Tryd.underlying26 Tryd.underlying5 cells_r8 hf with ⟨hcs, _⟩ | ⟨x, l, c, zs, hcs, _, hl, hm, hz, hx, hcell, hwz⟩
  · simp [Value.cells] at hcs
    obtain ⟨rfl, rfl, rfl⟩ := hcs
    exact ⟨[], ⟨rfl, Nat.le_refl _⟩, by decide, ⟨(fun _ h => nomatch h), none, 0, rfl, Nat.le_refl _, by decide, fun h => absurd h (by decide)⟩⟩
  · simp [Value.cells] at hcs
    obtain ⟨rfl, rfl, rfl⟩ := hcs
    simp only [if_true] at hz
    have hcap : cap ≤ 9223372036854775807 := hm
    have hlen : ((zs.take len).map Int.toNat).length = len := by rw [List.length_map, List.length_take]; omega
    refine ⟨(zs.take len).map Int.toNat, ⟨hlen, hl⟩, hcap, ⟨fun y hy => ?_, some x, cap, by rw [hlen], by rw [hlen]; exact hl, hcap, fun h0 => ?_⟩⟩
    · obtain ⟨z, hz1, rfl⟩ := List.mem_map.1 hy
      have hw := wf_u8 (hwz z (List.mem_of_mem_take hz1))
      omega
    · rw [hlen] at h0
      obtain ⟨b, off, spot⟩ := x
      have hc := hcell 0 (by omega)
      have hspot : spot = none := by simpa [Addr.add] using World.cell?_spot hc
      subst hspot
      rw [Addr.add_lit] at hc
      refine ⟨b, off, rfl, lt_of_cell hc, fun j hj => ?_⟩
      have hj2 : j < len := by rw [hlen] at hj; exact hj
      have hj3 : j < zs.length := by omega
      have h1 := hcell j hj3
      rw [Addr.add_lit] at h1
      rw [h1]
      have hw := wf_u8 (hwz zs[j] (List.getElem_mem hj3))
      simp only [List.getElem_map, List.getElem_take]
      rw [show zs.getD j 0 = zs[j] from by rw [List.getD_eq_getElem?_getD, List.getElem?_eq_getElem hj3]; rfl, Int.toNat_of_nonneg hw.1]
end Go.Proofs.YtkahkkcbigifiaaDoor
