/-
  Guarded reads of timers, and timers compared.
-/
import Derived.Test.YtjibjginafjpcaaClRow
import Derived.Laws.StructEq
import Derived.ChangeKeysEq
import Derived.Deep.RegionHeld3
namespace Go.Proofs.Ytjibjginafjpcaa
open Go.RowKit
set_option linter.unusedVariables false

set_option maxHeartbeats 1000000 in
theorem eq_p (h : S3) (w : World) : (binOp .eql 26 (.agg h.cells) (.agg h.cells)).run Try.prog w = .ok (.bool true) w := by
  simp [go_sem, S3.at0, S3.at1, S3.at2]
theorem no_guard_p : Try.prog.eqGuardType Try.prog.depth 26 = false := by kernel_rfl
variable {ops : Array Oper} {rest : List Oper} {dst : Option Tmp} {ty t2 : TypeId} {after : Array Edge} {a : Act} {x y : Operand} {gd : Option (Nat × Bool)} {pos : String} {S : World → Prop} {w : World} {Q : Exit → Act → World → Prop}
theorem y_eqp (h : S3) (hx : a.eval x = .agg h.cells) (hy : a.eval y = .agg h.cells) (hw : Region.wanted ⟨dst, .binOp .eql 26 x y t2, ty, pos, after, gd⟩ (yielded ops a.tmps) = true) :
    YieldsIf Try.prog ops S ⟨dst, .binOp .eql 26 x y t2, ty, pos, after, gd⟩ (.bool true) a :=
  .inl ⟨hw, fun V hV => by
    unfold execOp
    simp only [Sem.run_bind, hx, hy, run_eqGuard_agg V .eql 26 x y h.cells h.cells no_guard_p, eq_p h, Result.andThen_ok, Sem.run_pure]⟩
theorem g_eqp (h : S3) (hx : a.eval x = .agg h.cells) (hy : a.eval y = .agg h.cells) (hw : Region.wanted ⟨dst, .binOp .eql 26 x y t2, ty, pos, after, gd⟩ (yielded ops a.tmps) = true)
    (k : wpList Try.prog ops Q rest (a.put dst (.bool true)) w) : wpList Try.prog ops Q (⟨dst, .binOp .eql 26 x y t2, ty, pos, after, gd⟩ :: rest) a w :=
  BigFrame.wpList_want hw fun K hK => by
    have hrun : (execOp a.eval ⟨dst, .binOp .eql 26 x y t2, ty, pos, after, gd⟩).run Try.prog w = .ok (.value (.bool true)) w := by
      unfold execOp
      simp only [Sem.run_bind, hx, hy, run_eqGuard_agg w .eql 26 x y h.cells h.cells no_guard_p, eq_p h, Result.andThen_ok, Sem.run_pure]
    unfold Oper.wp
    rw [hrun, Oper.upon_value]
    exact hK _ _ k
theorem y_gg {TT : TypeId} (hu : ∃ d, Try.prog.underlying TT = some d ∧ d.isRow = true) (hi : (Try.prog.info? TT).map (·.size) = some 3) (b : Nat) (h : S3) (hS : ∀ V, S V → RowAt V b h.cells TT) (hx : a.eval x = .pointer (some ⟨b, 0, none⟩)) (hw : Region.wanted ⟨dst, .load TT x, ty, pos, after, gd⟩ (yielded ops a.tmps) = true) :
    YieldsIf Try.prog ops S ⟨dst, .load TT x, ty, pos, after, gd⟩ (.agg h.cells) a := by
  obtain ⟨d, hd, hr⟩ := hu
  rcases y_load (ops := ops) (P := Try.prog) (t := TT) (dst := dst) (ty := ty) (after := after) (a := a) (x := x) (pos := pos) (S := S) b h.cells _ hS d hd hr hi hx with ⟨_, h2⟩ | ⟨h1, _⟩
  · exact .inl ⟨hw, fun V hV => h2 V hV⟩
  · simp [Region.wanted] at h1
theorem y_gp (b : Nat) (h : S3) (hS : ∀ V, S V → RowAt V b h.cells 26) (hx : a.eval x = .pointer (some ⟨b, 0, none⟩)) (hw : Region.wanted ⟨dst, .load 26 x, ty, pos, after, gd⟩ (yielded ops a.tmps) = true) :
    YieldsIf Try.prog ops S ⟨dst, .load 26 x, ty, pos, after, gd⟩ (.agg h.cells) a := y_gg ⟨_, Try.underlying26, rfl⟩ size_p b h hS hx hw
theorem gl_p (b : Nat) (h : S3) (hr : RowAt w b h.cells 26) (hx : a.eval x = .pointer (some ⟨b, 0, none⟩)) (hw : Region.wanted ⟨dst, .load 26 x, ty, pos, after, gd⟩ (yielded ops a.tmps) = true)
    (k : wpList Try.prog ops Q rest (a.put dst (.agg h.cells)) w) : wpList Try.prog ops Q (⟨dst, .load 26 x, ty, pos, after, gd⟩ :: rest) a w :=
  BigFrame.wpList_want hw fun K hK => wp_load_row 26 x rfl b hx _ h.cells (0, 0) _ hr Try.underlying26 rfl size_p (hK _ _ k)
theorem y_gr (b : Nat) (h : S3) (hS : ∀ V, S V → RowAt V b h.cells 25) (hx : a.eval x = .pointer (some ⟨b, 0, none⟩)) (hw : Region.wanted ⟨dst, .load 25 x, ty, pos, after, gd⟩ (yielded ops a.tmps) = true) :
    YieldsIf Try.prog ops S ⟨dst, .load 25 x, ty, pos, after, gd⟩ (.agg h.cells) a := y_gg ⟨_, Try.underlying25, rfl⟩ size_r b h hS hx hw
theorem gl_r (b : Nat) (h : S3) (hr : RowAt w b h.cells 25) (hx : a.eval x = .pointer (some ⟨b, 0, none⟩)) (hw : Region.wanted ⟨dst, .load 25 x, ty, pos, after, gd⟩ (yielded ops a.tmps) = true)
    (k : wpList Try.prog ops Q rest (a.put dst (.agg h.cells)) w) : wpList Try.prog ops Q (⟨dst, .load 25 x, ty, pos, after, gd⟩ :: rest) a w :=
  BigFrame.wpList_want hw fun K hK => wp_load_row 25 x rfl b hx _ h.cells (0, 0) _ hr Try.underlying25 rfl size_r (hK _ _ k)
end Go.Proofs.Ytjibjginafjpcaa
