/-
  Tags that came in.
-/
import Derived.Test.YtkahkkcbigifiabDoorTvOpen
namespace Go.Proofs.YtkahkkcbigifiabDoor
open Go.ChangeShapes Go.WideShapes Go.ChangeAt Go.RowKit
set_option linter.unusedVariables false

theorem open_tags {H' : Type} {enc : TypeId × Value → H'} {W : World} {held : Bool} {base : Nat} {a : Option Addr} {len cap : Nat} {d : DataW H'} {p : List MemPlace}
    (h : DataW.Trod enc Tryd.prog W base (fun _ => true) held 22 (.slice a len cap) d p) : ∃ l : List Nat, TagsAt W.heap.size W (.slice a len cap) l := by
  obtain ⟨fuel, hf⟩ := h
  have hform := slice_nil0 Tryd.underlying22 hf
  rcases open_ints Tryd.underlying22 Tryd.underlying23 cells_u32 hf with ⟨hcs, _⟩ | ⟨x, l, c, zs, hcs, _, hl, hm, hz, hx, hcell, hwz⟩
  · simp [Value.cells] at hcs
    obtain ⟨rfl, rfl, rfl⟩ := hcs
    exact ⟨[], (fun _ h => nomatch h), none, 0, rfl, Nat.le_refl _, by decide, fun h => absurd h (by decide)⟩
  · simp [Value.cells] at hcs
    obtain ⟨rfl, rfl, rfl⟩ := hcs
    simp only [if_true] at hz
    have hlen : ((zs.take len).map Int.toNat).length = len := by rw [List.length_map, List.length_take]; omega
    refine ⟨(zs.take len).map Int.toNat, fun y hy => ?_, some x, cap, by rw [hlen], by rw [hlen]; exact hform.1, hform.2, fun h0 => ?_⟩
    · obtain ⟨z, hz1, rfl⟩ := List.mem_map.1 hy
      obtain ⟨n, rfl, hn⟩ := bounds_w (hwz z (List.mem_of_mem_take hz1))
      rw [Int.toNat_natCast]; exact hn
    · rw [hlen] at h0
      obtain ⟨b, off, spot⟩ := x
      have hc := hcell 0 (by omega)
      have hspot : spot = none := by simpa [Addr.add] using World.cell?_spot hc
      subst hspot
      rw [Addr.add_lit] at hc
      refine ⟨b, off, rfl, lt_of_cell hc, fun j hj i hi => ?_⟩
      obtain rfl : i = 0 := by omega
      have hj2 : j < len := by rw [hlen] at hj; exact hj
      have hj3 : j < zs.length := by omega
      have h1 := hcell j hj3
      rw [Addr.add_lit] at h1
      rw [Nat.mul_one, Nat.add_zero]
      refine ⟨_, h1, ?_⟩
      obtain ⟨n, hn, _⟩ := bounds_w (hwz zs[j] (List.getElem_mem hj3))
      unfold tagF
      have e1 : zs.getD j 0 = zs[j] := by rw [List.getD_eq_getElem?_getD, List.getElem?_eq_getElem hj3]; rfl
      have e2 : ((zs.take len).map Int.toNat).getD j 0 = zs[j].toNat := by
        rw [List.getD_eq_getElem?_getD, List.getElem?_map, List.getElem?_take, if_pos hj2, List.getElem?_eq_getElem hj3]; rfl
      rw [e1, e2, hn, Int.toNat_natCast]
end Go.Proofs.YtkahkkcbigifiabDoor
