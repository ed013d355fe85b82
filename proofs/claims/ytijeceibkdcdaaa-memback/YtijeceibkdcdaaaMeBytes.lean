/-
  A list of bytes that came in: its cells as bytes; of its size only that it is a length.
-/
import Derived.Test.YtijeceibkdcdaaaRows
import Derived.ProofKit
import Derived.OpenShut
import Derived.ChangeOld
import Derived.Below
import Derived.Laws.Rows
namespace Go.Proofs.Ytijeceibkdcdaaa
open Go.ChangeShapes Go.WideShapes Go.ChangeAt Go.RowKit

/-- A slice that came in: it has no room; or it leads to so many bytes, of which g tells. -/
def IsBytes (w : World) (a : Option Addr) (len cap : Nat) (g : Nat → UInt8) : Prop :=
  (len = 0 ∧ cap = 0) ∨
  ∃ b off, a = some ⟨b, off, none⟩ ∧ 0 < cap ∧ b < w.heap.size ∧ len ≤ cap ∧ cap ≤ 9223372036854775807 ∧ ∀ j, j < cap → w.cell? ⟨b, off + j, none⟩ = some (.int .u8 ((g j).toNat : Int))

theorem IsBytes.below {w w' : World} {a : Option Addr} {len cap : Nat} {g : Nat → UInt8} (h : IsBytes w a len cap g) (hb : Below w.heap.size w w') : IsBytes w' a len cap g := by
  rcases h with h | ⟨b, off, ha, h0, hlt, hl, hc, hcell⟩
  · exact .inl h
  · exact .inr ⟨b, off, ha, h0, Nat.lt_of_lt_of_le hlt hb.size, hl, hc, fun j hj => (hb.cell (p := ⟨b, off + j, none⟩) hlt).trans (hcell j hj)⟩

theorem IsBytes.len_le {w : World} {a : Option Addr} {len cap : Nat} {g : Nat → UInt8} (h : IsBytes w a len cap g) : len ≤ cap ∧ cap ≤ 9223372036854775807 := by
  rcases h with ⟨h1, h2⟩ | ⟨b, off, ha, h0, hlt, hl, hc, hcell⟩ <;> omega

theorem open_bytes {H : Type} {enc : TypeId × Value → H} {P : Program} {W : World} {held : Bool} {base : Nat} {t e : TypeId} {a : Option Addr} {len cap : Nat} {d : DataW H} {p : List MemPlace}
    (ht : P.underlying t = some (.slice e)) (he : P.underlying e = some (.int .u8)) (hce : P.cellsOf e = 1) (h : DataW.Trod enc P W base (fun _ => true) held t (.slice a len cap) d p) :
    ∃ g, IsBytes W a len cap g := by
  obtain ⟨fuel, hf⟩ := h
  rcases open_ints ht he hce hf with ⟨hcs, _⟩ | ⟨x, l, c, zs, hcs, _, hl, hm, hz, hx, hcell, hwz⟩
  · simp [Value.cells] at hcs
    obtain ⟨rfl, rfl, rfl⟩ := hcs
    exact ⟨fun _ => 0, .inl ⟨rfl, rfl⟩⟩
  · simp [Value.cells] at hcs
    obtain ⟨rfl, rfl, rfl⟩ := hcs
    simp only [if_true] at hz
    simp only [Prod.mk.injEq] at hx
    have hcap : cap ≤ 9223372036854775807 := hm
    by_cases h0 : cap = 0
    · subst h0
      obtain rfl : len = 0 := by omega
      exact ⟨fun _ => 0, .inl ⟨rfl, rfl⟩⟩
    · obtain ⟨b, off, spot⟩ := x
      have hc := hcell 0 (by omega)
      have hspot : spot = none := by simpa [Addr.add] using World.cell?_spot hc
      subst hspot
      have hbnd : ∀ j, j < cap → 0 ≤ zs.getD j 0 ∧ zs.getD j 0 < 256 := by
        intro j hj
        have hj' : j < zs.length := by omega
        have := bounds_u8 (hwz (zs.getD j 0) (by rw [List.getD_eq_getElem?_getD, List.getElem?_eq_getElem hj']; simp))
        omega
      refine ⟨fun j => UInt8.ofNat (zs.getD j 0).toNat, .inr ⟨b, off, rfl, by omega, ?_, hl, hcap, ?_⟩⟩
      · exact block_lt_of_cell hc
      · intro j hj
        have h1 := hcell j (by omega)
        have h2 := hbnd j hj
        rw [show (⟨b, off, none⟩ : Addr).add j = ⟨b, off + j, none⟩ from by simp [Addr.add]] at h1
        rw [h1]
        congr 2
        rw [UInt8.toNat_ofNat']
        omega
end Go.Proofs.Ytijeceibkdcdaaa
