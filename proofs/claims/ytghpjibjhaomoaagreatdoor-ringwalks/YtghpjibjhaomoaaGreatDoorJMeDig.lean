/-
  mem's Digest: it answers some word, and looks alone.
-/
import Derived.Test.YtghpjibjhaomoaaGreatDoorJMeSeeR
namespace Go.Proofs.YtghpjibjhaomoaaGreatDoor
open Go.RowKit
set_option linter.unusedVariables false
attribute [local go_sem ↓] Go.wp_at_zero Go.wp_at_succ

/-- A page's bytes, as values. -/
def wholeB (m : Mem) (p : Nat) : List Value := (List.range 4096).map fun j => Value.int .u8 (m.dat p j : Nat)
theorem wholeB_len (m : Mem) (p : Nat) : (wholeB m p).length = 4096 := by simp [wholeB]
theorem wholeB_at {m : Mem} {p j : Nat} (h : j < 4096) : (wholeB m p)[j]? = some (.int .u8 (m.dat p j : Nat)) := by
  unfold wholeB; rw [List.getElem?_map, List.getElem?_range h]; rfl
theorem wholeB_one {m : Mem} {p : Nat} : ∀ v ∈ wholeB m p, v.oneCell' = true := fun v hv => by
  simp only [wholeB, List.mem_map] at hv
  obtain ⟨x, _, rfl⟩ := hv
  rfl
/-- A page copied whole. -/
def WholeOk (w : World) (O g so sc oc : Nat) (V : List Value) : Prop :=
    (Builtin.copy_ #[28, 28] 3 #[.slice (some ⟨O, 0, none⟩) 4096 oc, .slice (some ⟨g, so, none⟩) 4096 sc]).run Tryz.prog w = .ok (.int .i64 4096) (w.setCells O 0 V)
theorem WholeOk.eq {w : World} {O g so sc oc : Nat} {V : List Value} (h : WholeOk w O g so sc oc V) :
    (Builtin.copy_ #[28, 28] 3 #[.slice (some ⟨O, 0, none⟩) 4096 oc, .slice (some ⟨g, so, none⟩) 4096 sc]).run Tryz.prog w = .ok (.int .i64 4096) (w.setCells O 0 V) := h
theorem copy_whole {w : World} {O g so sc oc : Nat} {f : Nat → Value} (V : List Value) (hl : V.length = 4096) (hG : ∀ j v, V[j]? = some v → w.cell? ⟨g, so + j, none⟩ = some v) (hO : HoldsAt w O 4096 5 f) (h1 : ∀ v ∈ V, v.oneCell' = true) : WholeOk w O g so sc oc V := by
  unfold WholeOk
  have := run_copy_cells (P := Tryz.prog) w 28 28 3 5 O 0 4096 oc ⟨g, so, none⟩ 4096 sc V Tryz.underlying28 (by kernel_rfl) (by rw [hl]; rfl)
    (fun j v hj => by rw [Addr.add_lit]; exact hG j v hj)
    (fun j hj => by rw [hO.cell (j := 0 + j) (by omega)]; rfl) (fun j hj => hO.thaw (0 + j)) h1
  rw [this, hl]
  rfl
/-- A page set to bytes. -/
def Mem.setp (m : Mem) (p g : Nat) (l : List Nat) : Mem := { (m.touched p g).put p 0 l with wr := m.wr + 1 }
end Go.Proofs.YtghpjibjhaomoaaGreatDoor
namespace Go.Proofs.YtghpjibjhaomoaaGreatDoor
open Go.RowKit
set_option linter.unusedVariables false
attribute [local go_sem ↓] Go.wp_at_zero Go.wp_at_succ

end Go.Proofs.YtghpjibjhaomoaaGreatDoor
