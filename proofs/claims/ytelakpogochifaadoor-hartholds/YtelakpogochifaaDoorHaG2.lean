/-
  Guarded reads and comparisons of whole harts; new variables in regions that draw their order.
-/
import Derived.Test.YtelakpogochifaaDoorHaG
import Derived.Deep.RegionHeld3
namespace Go.Proofs.YtelakpogochifaaDoor
open Go.RowKit
set_option linter.unusedVariables false

theorem s_alloc {P : Program} {dst : Option Tmp} {ty t : TypeId} {pos : String} {after : Array Edge} {a : Act} {w : World} {Q : Exit → Act → World → Prop} {K : Act → World → Prop} (N : Nat) (hN : w.heap.size = N) (cs : Array Value) (hz : ∀ w, (zeroValue t).run P w = .ok (.agg cs) w)
    (k : ∀ W, RowAt W N cs t → Below N w W → Hid (W.heap.size = N + 1) → K (a.put dst (.pointer (some ⟨N, 0, none⟩))) W) :
    Oper.wp P ⟨dst, .alloc t, ty, pos, after, none⟩ a w K Q := by
  subst hN
  have hrun : (execOp a.eval ⟨dst, .alloc t, ty, pos, after, none⟩).run P w = .ok (.value (.pointer (some ⟨w.heap.size, 0, none⟩))) (w.alloc (.cells cs t)) := by
    unfold execOp
    simp only [Instr.alloc, Sem.run_bind, hz, Result.andThen_ok, newVar, newRow, run_newObj_alloc, Sem.run_pure]
    rfl
  unfold Oper.wp
  rw [hrun, Oper.upon_value]
  exact k _ (RowAt.new w _ cs t rfl) (below_one w _) (hide (by simp))
set_option maxHeartbeats 1000000 in
theorem ne_h (h : H) (w : World) : (binOp .neq 31 (.agg h.cells) (.agg h.cells)).run Tryd.prog w = .ok (.bool false) w := by
  have hx : (Op.equalIn 9999 23 (.agg h.xs) (.agg h.xs)).run Tryd.prog w = .ok true w := eq_xs h 9997 w
  have e1 : h.cells.extract 1 33 = h.xs := by simp [H.cells, H.xs]
  have e2 : h.cells.extract 34 42 = h.c.cells := by simp [H.cells, S8.cells]
  simp [go_sem, e1, e2, hx, H.at0, H.at33, S8.cells]
variable {ops : Array Oper} {rest : List Oper} {dst : Option Tmp} {ty t2 : TypeId} {after : Array Edge} {a : Act} {w : World} {Q : Exit → Act → World → Prop} {x y : Operand} {gd : Option (Nat × Bool)}
theorem gl_h {pos : String} (b : Nat) (h : H) (hr : RowAt w b h.cells 31) (hx : a.eval x = .pointer (some ⟨b, 0, none⟩)) (hw : Region.wanted ⟨dst, .load 31 x, ty, pos, after, gd⟩ (yielded ops a.tmps) = true)
    (k : wpList Tryd.prog ops Q rest (a.put dst (.agg h.cells)) w) : wpList Tryd.prog ops Q (⟨dst, .load 31 x, ty, pos, after, gd⟩ :: rest) a w :=
  BigFrame.wpList_want hw fun K hK => wp_load_row 31 x rfl b hx _ h.cells (0, 0) _ hr Tryd.underlying31 rfl size_hart (hK _ _ k)
theorem no_guard : Tryd.prog.eqGuardType Tryd.prog.depth 31 = false := by kernel_rfl
theorem g_eqh {pos : String} (h : H) (hx : a.eval x = .agg h.cells) (hy : a.eval y = .agg h.cells) (hw : Region.wanted ⟨dst, .binOp .eql 31 x y t2, ty, pos, after, gd⟩ (yielded ops a.tmps) = true)
    (k : wpList Tryd.prog ops Q rest (a.put dst (.bool true)) w) : wpList Tryd.prog ops Q (⟨dst, .binOp .eql 31 x y t2, ty, pos, after, gd⟩ :: rest) a w :=
  BigFrame.wpList_want hw fun K hK => by
    have hrun : (execOp a.eval ⟨dst, .binOp .eql 31 x y t2, ty, pos, after, gd⟩).run Tryd.prog w = .ok (.value (.bool true)) w := by
      unfold execOp
      simp only [Sem.run_bind, hx, hy, run_eqGuard_agg w .eql 31 x y h.cells h.cells no_guard, eq_h h, Result.andThen_ok, Sem.run_pure]
    unfold Oper.wp
    rw [hrun, Oper.upon_value]
    exact hK _ _ k
theorem g_neh {pos : String} (h : H) (hx : a.eval x = .agg h.cells) (hy : a.eval y = .agg h.cells) (hw : Region.wanted ⟨dst, .binOp .neq 31 x y t2, ty, pos, after, gd⟩ (yielded ops a.tmps) = true)
    (k : wpList Tryd.prog ops Q rest (a.put dst (.bool false)) w) : wpList Tryd.prog ops Q (⟨dst, .binOp .neq 31 x y t2, ty, pos, after, gd⟩ :: rest) a w :=
  BigFrame.wpList_want hw fun K hK => by
    have hrun : (execOp a.eval ⟨dst, .binOp .neq 31 x y t2, ty, pos, after, gd⟩).run Tryd.prog w = .ok (.value (.bool false)) w := by
      unfold execOp
      simp only [Sem.run_bind, hx, hy, run_eqGuard_agg w .neq 31 x y h.cells h.cells no_guard, ne_h h, Result.andThen_ok, Sem.run_pure]
    unfold Oper.wp
    rw [hrun, Oper.upon_value]
    exact hK _ _ k
end Go.Proofs.YtelakpogochifaaDoor
