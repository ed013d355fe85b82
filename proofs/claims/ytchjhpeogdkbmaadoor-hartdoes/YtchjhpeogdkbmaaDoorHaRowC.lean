/-
  Control registers in a block of their own.
-/
import Derived.Test.YtchjhpeogdkbmaaDoorHaRow
namespace Go.Proofs.YtchjhpeogdkbmaaDoor
open Go.RowKit
set_option linter.unusedVariables false
variable {ops : Array Oper} {rest : List Oper} {dst : Option Tmp} {ty : TypeId} {pos : String} {after : Array Edge} {a : Act} {w : World} {Q : Exit → Act → World → Prop} {x y : Operand} {b : Nat} {S : World → Prop} {K : Act → World → Prop}

theorem zero_c (w : World) : (zeroValue 29).run Tryd.prog w = .ok (.agg zeroS.cells) w :=
  (zero_of_info (P := Tryd.prog) (t := 29) (v := .agg zeroS.cells) (n := 8) (by kernel_rfl)).1 w
theorem al_c (N : Nat) (hN : w.heap.size = N)
    (k : ∀ W, RowAt W N zeroS.cells 29 → Below N w W → Hid (W.heap.size = N + 1) → wpList Tryd.prog ops Q rest (a.put dst (.pointer (some ⟨N, 0, none⟩))) W) :
    wpList Tryd.prog ops Q (⟨dst, .alloc 29, ty, pos, after, none⟩ :: rest) a w := op_alloc N hN zeroS.cells zero_c k
theorem ld_s (b : Nat) (c : S8) (hr : RowAt w b c.cells 29) (hx : a.eval x = .pointer (some ⟨b, 0, none⟩))
    (k : wpList Tryd.prog ops Q rest (a.put dst (.agg c.cells)) w) : wpList Tryd.prog ops Q (⟨dst, .load 29 x, ty, pos, after, none⟩ :: rest) a w :=
  op_load b hx c.cells _ hr _ Tryd.underlying29 rfl size_state k
theorem st_s (b : Nat) (old c : S8) (hr : RowAt w b old.cells 29) (hx : a.eval x = .pointer (some ⟨b, 0, none⟩)) (hy : a.eval y = .agg c.cells)
    (k : ∀ W, RowAt W b c.cells 29 → Only b w W → wpList Tryd.prog ops Q rest (a.put dst undef) W) : wpList Tryd.prog ops Q (⟨dst, .store 29 x y, ty, pos, after, none⟩ :: rest) a w :=
  op_store b hx c.cells hy old.cells _ hr size_state rfl (c_one c) k
theorem y_s (b : Nat) (c : S8) (hS : ∀ V, S V → RowAt V b c.cells 29) (hx : a.eval x = .pointer (some ⟨b, 0, none⟩)) :
    YieldsIf Tryd.prog ops S ⟨dst, .load 29 x, ty, pos, after, none⟩ (.agg c.cells) a := y_load b c.cells _ hS _ Tryd.underlying29 rfl size_state hx
theorem s_s (b : Nat) (old c : S8) (hr : RowAt w b old.cells 29) (hx : a.eval x = .pointer (some ⟨b, 0, none⟩)) (hy : a.eval y = .agg c.cells)
    (k : ∀ W, RowAt W b c.cells 29 → Only b w W → K (a.put dst undef) W) :
    Oper.wp Tryd.prog ⟨dst, .store 29 x y, ty, pos, after, none⟩ a w K Q :=
  s_store b hx c.cells hy old.cells _ hr size_state rfl (c_one c) k
theorem q3 {w : World} {b : Nat} {o r s s2 im cs : Int} {t : TypeId} (hi : RowAt w b (I6.cells ⟨o, r, s, s2, im, cs⟩) t) : w.cell? ⟨b, 0, none⟩ = some (.int .i64 o) ∧ w.cell? ⟨b, 1, none⟩ = some (.int .i64 r) ∧ w.cell? ⟨b, 2, none⟩ = some (.int .i64 s) := ⟨hi.cell 0, hi.cell 1, hi.cell 2⟩
end Go.Proofs.YtchjhpeogdkbmaaDoor
