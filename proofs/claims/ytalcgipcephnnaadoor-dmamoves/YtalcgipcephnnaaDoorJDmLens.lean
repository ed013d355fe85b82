/-
  A slice of numbers that came in.
-/
import Derived.Test.YtalcgipcephnnaaDoorJDmMoM
import Derived.Test.YtalcgipcephnnaaDoorRows
import Derived.ProofKit
import Derived.OpenShut
import Derived.WideShapes
import Derived.ChangeSlices
namespace Go.Proofs.YtalcgipcephnnaaDoor
open Go.ChangeShapes Go.WideShapes Go.ChangeAt Go.RowKit
set_option linter.unusedVariables false

theorem cells_i : Tryd.prog.cellsOf 3 = 1 := by kernel_rfl
theorem open_lens {H' : Type} {enc : TypeId × Value → H'} {W : World} {held : Bool} {base : Nat} {a : Option Addr} {len cap : Nat} {d : DataW H'} {p : List MemPlace}
    (h : DataW.Trod enc Tryd.prog W base (fun _ => true) held 59 (.slice a len cap) d p) : ∃ g : Nat → Int, len ≤ cap ∧ cap ≤ 9223372036854775807 ∧ IntsAt W W.heap.size a len g := by
  obtain ⟨fuel, hf⟩ := h
  rcases open_ints Tryd.underlying59 Tryd.underlying3 cells_i hf with ⟨hcs, _⟩ | ⟨x, l, c, zs, hcs, _, hl, hm, hz, hx, hcell, hwz⟩
  · simp [Value.cells] at hcs
    obtain ⟨rfl, rfl, rfl⟩ := hcs
    exact ⟨fun _ => 0, by decide, by decide, ⟨fun j hj => absurd hj (by omega)⟩⟩
  · simp [Value.cells] at hcs
    obtain ⟨rfl, rfl, rfl⟩ := hcs
    simp only [if_true] at hz
    have hcap : cap ≤ 9223372036854775807 := hm
    refine ⟨fun j => zs.getD j 0, hl, hcap, ⟨fun j hj => ?_⟩⟩
    obtain ⟨b, off, spot⟩ := x
    have hc := hcell 0 (by omega)
    have hspot : spot = none := by simpa [Addr.add] using World.cell?_spot hc
    subst hspot
    have hj' : j < zs.length := by omega
    have h1 := hcell j hj'
    rw [Addr.add_mid] at h1
    exact ⟨b, off, rfl, lt_of_cell h1, h1⟩
end Go.Proofs.YtalcgipcephnnaaDoor
