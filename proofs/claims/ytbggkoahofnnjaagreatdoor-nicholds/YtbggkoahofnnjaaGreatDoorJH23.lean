/-
  Frames that came in: a slice of slices of bytes.
-/
import Derived.Test.YtbggkoahofnnjaaGreatDoorJH22
import Derived.Test.YtbggkoahofnnjaaGreatDoorRows
import Derived.ProofKit
import Derived.OpenShut
import Derived.WideShapes
import Derived.ChangeSlices
import Derived.Test.YtbggkoahofnnjaaGreatDoorJH0
namespace Go.Proofs.YtbggkoahofnnjaaGreatDoor
open Go.ChangeShapes Go.WideShapes Go.ChangeAt Go.RowKit
set_option linter.unusedVariables false

theorem cells_r8 : Tryz.prog.cellsOf 5 = 1 := by kernel_rfl
theorem wf_u8 {z : Int} (h : (Lit.int .u8 z).wf = true) : 0 ≤ z ∧ z < 256 := by
  have hb := bounds_u8 h
  exact ⟨by omega, by omega⟩
theorem open_rbytes {H' : Type} {enc : TypeId × Value → H'} {W : World} {held : Bool} {base : Nat} {a : Option Addr} {len cap : Nat} {d : DataW H'} {p : List MemPlace}
    (h : DataW.Trod enc Tryz.prog W base (fun _ => true) held 60 (.slice a len cap) d p) : ∃ l : List Nat, (l.length = len ∧ len ≤ cap) ∧ cap ≤ 9223372036854775807 ∧ BytesAt W W.heap.size a l := by
  obtain ⟨fuel, hf⟩ := h
  rcases open_ints Tryz.underlying60 Tryz.underlying5 cells_r8 hf with ⟨hcs, _⟩ | ⟨x, l, c, zs, hcs, _, hl, hm, hz, hx, hcell, hwz⟩
  · simp [Value.cells] at hcs
    obtain ⟨rfl, rfl, rfl⟩ := hcs
    exact ⟨[], ⟨rfl, Nat.le_refl _⟩, by decide, ⟨fun h => absurd h (by decide), fun y hy => by cases hy⟩⟩
  · simp [Value.cells] at hcs
    obtain ⟨rfl, rfl, rfl⟩ := hcs
    simp only [if_true] at hz
    have hcap : cap ≤ 9223372036854775807 := hm
    have hlen : ((zs.take len).map Int.toNat).length = len := by rw [List.length_map, List.length_take]; omega
    refine ⟨(zs.take len).map Int.toNat, ⟨hlen, hl⟩, hcap, ⟨fun h0 => ?_, fun y hy => ?_⟩⟩
    · rw [hlen] at h0
      obtain ⟨b, off, spot⟩ := x
      have hc := hcell 0 (by omega)
      have hspot : spot = none := by simpa [Addr.add] using World.cell?_spot hc
      subst hspot
      rw [Addr.add_mid] at hc
      refine ⟨b, off, rfl, lt_of_cell hc, fun j hj => ?_⟩
      have hj2 : j < len := by rw [hlen] at hj; exact hj
      have hj3 : j < zs.length := by omega
      have h1 := hcell j hj3
      rw [Addr.add_mid] at h1
      rw [h1]
      have hw := wf_u8 (hwz zs[j] (List.getElem_mem hj3))
      simp only [List.getElem_map, List.getElem_take]
      rw [show zs.getD j 0 = zs[j] from by rw [List.getD_eq_getElem?_getD, List.getElem?_eq_getElem hj3]; rfl, Int.toNat_of_nonneg hw.1]
    · obtain ⟨z, hz1, rfl⟩ := List.mem_map.1 hy
      have hw := wf_u8 (hwz z (List.mem_of_mem_take hz1))
      omega
end Go.Proofs.YtbggkoahofnnjaaGreatDoor
namespace Go.Proofs.YtbggkoahofnnjaaGreatDoor
open Go.ChangeShapes Go.WideShapes Go.ChangeAt Go.RowKit
set_option linter.unusedVariables false

structure FramesIn (w : World) (B : Nat) (la : Option Addr) (len : Nat) : Prop where
  lies : ∀ j, j < len → ∃ b o fa fc bl, la = some ⟨b, o, none⟩ ∧ b < B ∧ w.cell? ⟨b, o + j, none⟩ = some (.slice fa bl.length fc) ∧ bl.length ≤ fc ∧ fc ≤ 9223372036854775807 ∧ BytesAt w B fa bl
theorem cells_sb : Tryz.prog.cellsOf 60 = 1 := by kernel_rfl
theorem sb_form {H' : Type} {enc : TypeId × Value → H'} {W : World} {held : Bool} {base m : Nat} {spare : Nat → Bool} {cs : List Value} {y : DataW H' × List MemPlace}
    (h : DataW.trod enc Tryz.prog W base spare held m 60 cs = some y) : ∃ a n c, cs = [.slice a n c] := by
  rcases DataW.trod_slice Tryz.underlying60 h with ⟨h0, _⟩ | ⟨ad, len, cap, elems, rest, n, _, hcs, _⟩
  · exact ⟨_, _, _, h0⟩
  · exact ⟨_, _, _, hcs⟩
theorem open_frames {H' : Type} {enc : TypeId × Value → H'} {W : World} {held : Bool} {base : Nat} {a : Option Addr} {len cap : Nat} {d : DataW H'} {p : List MemPlace}
    (h : DataW.Trod enc Tryz.prog W base (fun _ => true) held 66 (.slice a len cap) d p) : len ≤ cap ∧ cap ≤ 9223372036854775807 ∧ FramesIn W W.heap.size a len := by
  obtain ⟨fuel, hf⟩ := h
  obtain ⟨a', len', cap', hvs, h1, h2, hel⟩ := open_elems Tryz.underlying66 cells_sb (by decide) (fun n cs y hy => by
    obtain ⟨a, n, c, rfl⟩ := sb_form hy
    rfl) hf
  simp only [Value.cells, List.cons.injEq, Value.slice.injEq, and_true] at hvs
  obtain ⟨rfl, rfl, rfl⟩ := hvs
  unfold maxLen at h2
  refine ⟨h1, h2, ⟨fun j hj => ?_⟩⟩
  obtain ⟨b, o, cs, m, y, e, hcl, hc, hy⟩ := hel j hj
  obtain ⟨fa, n, fc, rfl⟩ := sb_form hy
  obtain ⟨dd, pp⟩ := y
  obtain ⟨bl, ⟨q1, q2⟩, q3, q4⟩ := open_rbytes (a := fa) (len := n) (cap := fc) (d := dd) (p := pp) ⟨m, hy⟩
  have c0 := hc 0 (by decide)
  rw [Nat.mul_one, Nat.add_zero] at c0
  subst q1
  exact ⟨b, o, fa, fc, bl, e, lt_of_cell c0, c0, q2, q3, q4⟩
end Go.Proofs.YtbggkoahofnnjaaGreatDoor
