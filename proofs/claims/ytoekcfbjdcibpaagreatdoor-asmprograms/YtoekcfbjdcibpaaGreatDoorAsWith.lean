/-
  What asm.with answers.
-/
import Derived.Test.YtoekcfbjdcibpaaGreatDoorAsText
import Derived.Laws.ResultCell
namespace Go.Proofs.YtoekcfbjdcibpaaGreatDoor
open Go.RowKit
set_option linter.unusedVariables false

def Letter (c : UInt8) : Prop := c = 100 ∨ c = 115 ∨ c = 122 ∨ c = 116 ∨ c = 110 ∨ c = 117 ∨ c = 99

theorem two_boxes (w : World) (A B : Obj) : ((w.alloc A).alloc B).heap[w.heap.size + 1]? = some B := by
  have := heap_alloc_new (w.alloc A) B
  rwa [World.size_alloc] at this

set_option maxHeartbeats 4000000 in
set_option maxRecDepth 100000 in
theorem with_ans (i : I6) (c : UInt8) (hc : Letter c) (n : Int) (w : World) :
    Calls Tryz.prog 70 #[.agg i.cells, .string ⟨#[c]⟩, .int .i64 n] w fun e w' => e = .returned (.agg (withL i c n).cells) ∧ Below w.heap.size w w' := by
  obtain ⟨op, rd, rs1, rs2, imm, csr⟩ := i
  simp only [I6.cells]
  rcases hc with rfl | rfl | rfl | rfl | rfl | rfl | rfl
  all_goals
    go_enter Tryz.func70, Tryz.ntmps70
    go_wp2
    refine bodyPost_ret (results_cell_row Tryz.results70 _ _ (w.heap.size + 1) _ _ _ _ rfl (two_boxes w _ _) Tryz.underlying28 rfl size_inst) rfl ?_
    exact ⟨rfl, ((Below.refl _ w).alloc (Nat.le_refl _) _).alloc (by simp) _⟩
end Go.Proofs.YtoekcfbjdcibpaaGreatDoor
