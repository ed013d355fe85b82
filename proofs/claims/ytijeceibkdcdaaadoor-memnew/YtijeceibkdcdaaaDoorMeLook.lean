/-
  What mem's look does at a page that is there.
-/
import Derived.Test.YtijeceibkdcdaaaDoorMePuts
namespace Go.Proofs.YtijeceibkdcdaaaDoor
open Go.RowKit
set_option linter.unusedVariables false
attribute [local go_sem ↓] Go.wp_at_zero Go.wp_at_succ

set_option maxHeartbeats 1000000 in
theorem look_there (b P n p g : Nat) (hp : p < n) (hn : n ≤ 16384) (w : World)
    (c0 : w.cell? ⟨b, 0, none⟩ = some (.slice (some ⟨P, 0, none⟩) n n)) (cp : w.cell? ⟨P, p, none⟩ = some (.slice (some ⟨g, 0, none⟩) 4096 4096)) :
    Calls Tryd.prog 23 #[.pointer (some ⟨b, 0, none⟩), .int .i64 p] w fun e w' => e = .returned (.slice (some ⟨g, 0, none⟩) 4096 4096) ∧ Below w.heap.size w w' := by
  have i0 : (0 : Int) ≤ (p : Int) := by omega
  have i9 : (p : Int) < (n : Int) := by omega
  have lb := lt_of_cell c0
  have lP := lt_of_cell cp
  have hq := fun w => Lib.run_eql_slice_nil (P := Tryd.prog) w 28 5 (some ⟨g, 0, none⟩) 4096 4096 0 0 Tryd.underlying28
  go_enter Tryd.func23, Tryd.ntmps23
  go_wp2
  go_ret
  exact ⟨rfl, (Below.refl _ w).alloc (Nat.le_refl _) _⟩

theorem RamAt.bl {w w' : World} {B b P D : Nat} {m : Mem} (h : RamAt w B b P D m) (hb : Below w.heap.size w w') : RamAt w' B b P D m := by
  obtain ⟨n, o, hr⟩ := h.head
  exact { head := ⟨n, o, hr.bl hb⟩, pages := h.pages.bl hb, marks := h.marks.bl hb, bytes := fun q g hq hg => (h.bytes q g hq hg).bl hb, noughts := h.noughts, low := h.low, apart := h.apart, alone := h.alone, few := h.few }
theorem look_ram {w : World} {B b P D : Nat} {m : Mem} (h : RamAt w B b P D m) {p g : Nat} (hp : p < m.n) (hg : m.blk p = some g) :
    Calls Tryd.prog 23 #[.pointer (some ⟨b, 0, none⟩), .int .i64 p] w fun e w' => e = .returned (.slice (some ⟨g, 0, none⟩) 4096 4096) ∧ Below w.heap.size w w' := by
  obtain ⟨nn, oo, hr⟩ := h.head
  have cp := h.pages.cell hp
  rw [hg] at cp
  exact look_there b P m.n p g hp h.few w (hr.cell 0) cp
end Go.Proofs.YtijeceibkdcdaaaDoor
