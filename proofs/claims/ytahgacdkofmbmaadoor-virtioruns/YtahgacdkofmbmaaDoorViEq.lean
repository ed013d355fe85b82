/-
  Two states of devices compared.
-/
import Derived.Test.YtahgacdkofmbmaaDoorViProg
import Derived.Deep.RegionHeld3
namespace Go.Proofs.YtahgacdkofmbmaaDoor
open Go.RowKit
set_option linter.unusedVariables false

theorem part_qr (q : Qu) : q.cells.extract 1 7 = q.r.cells := by kernel_rfl
theorem part_drv (s : V) : s.cells.extract 5 7 = s.drv := by kernel_rfl
theorem part_qs (s : V) : s.cells.extract 7 21 = s.qs := by kernel_rfl
theorem part_q0 (s : V) : s.qs.extract 0 7 = s.q0.cells := by kernel_rfl
theorem part_q1 (s : V) : s.qs.extract 7 14 = s.q1.cells := by kernel_rfl
set_option maxHeartbeats 1000000 in
theorem eq_rg (r : Rg) (w : World) : (Op.equalIn 9997 32 (.agg r.cells) (.agg r.cells)).run Tryd.prog w = .ok true w := by
  simp [go_sem, Rg.at0, Rg.at1, Rg.at2, Rg.at3, Rg.at4, Rg.at5]
set_option maxHeartbeats 1000000 in
theorem eq_qu (q : Qu) (w : World) : (Op.equalIn 9998 34 (.agg q.cells) (.agg q.cells)).run Tryd.prog w = .ok true w := by
  simp [go_sem, part_qr, eq_rg, Qu.at0]
theorem eq_rg2 (r : Rg) (w : World) : (Op.equalIn 9999 32 (.agg r.cells) (.agg r.cells)).run Tryd.prog w = .ok true w := by
  simp [go_sem, Rg.at0, Rg.at1, Rg.at2, Rg.at3, Rg.at4, Rg.at5]
set_option maxHeartbeats 1000000 in
theorem ne_qu (q : Qu) (w : World) : (binOp .neq 34 (.agg q.cells) (.agg q.cells)).run Tryd.prog w = .ok (.bool false) w := by
  simp [go_sem, part_qr, eq_rg2, Qu.at0]
theorem info_qp : ∃ i, Tryd.prog.info? 34 = some i ∧ i.size = 7 := by
  have := size_qp
  cases hq : Tryd.prog.info? 34 with
  | none => simp [hq] at this
  | some i => exact ⟨i, rfl, by simpa [hq] using this⟩
set_option maxHeartbeats 1000000 in
theorem eq_qs (s : V) (w : World) : (Op.equalIn 9999 35 (.agg s.qs) (.agg s.qs)).run Tryd.prog w = .ok true w := by
  obtain ⟨i, hi, h1⟩ := info_qp
  have hc : Tryd.prog.cellsOf 34 = 7 := by kernel_rfl
  rw [run_equalIn_array w 9998 s.qs s.qs Tryd.underlying35 hi, hc]
  show (Op.eqItems 9998 34 7 _ _ [0, 1]).run Tryd.prog w = _
  have p0 : (Go.part 34 s.qs (0 * 7)).run Tryd.prog w = .ok (.agg s.q0.cells) w := by simp [Go.part, go_sem, part_q0]
  have p1 : (Go.part 34 s.qs (1 * 7)).run Tryd.prog w = .ok (.agg s.q1.cells) w := by simp [Go.part, go_sem, part_q1]
  simp [Op.eqItems, Sem.run_bind, p0, p1, eq_qu, Result.andThen_ok]
theorem eq_drvs (s : V) (w : World) : (Op.equalIn 9999 23 (.agg s.drv) (.agg s.drv)).run Tryd.prog w = .ok true w := by
  have h := eq_two s.d0 s.d1 s.d0 s.d1 9997 w
  simp only [BEq.rfl, Bool.and_self] at h
  exact h
set_option maxHeartbeats 1000000 in
theorem eq_v (s : V) (w : World) : (binOp .eql 37 (.agg s.cells) (.agg s.cells)).run Tryd.prog w = .ok (.bool true) w := by
  simp [go_sem, part_drv, part_qs, eq_drvs, eq_qs, V.at0, V.at1, V.at2, V.at3, V.at4]
set_option maxHeartbeats 1000000 in
theorem ne_v (s : V) (w : World) : (binOp .neq 37 (.agg s.cells) (.agg s.cells)).run Tryd.prog w = .ok (.bool false) w := by
  simp [go_sem, part_drv, part_qs, eq_drvs, eq_qs, V.at0, V.at1, V.at2, V.at3, V.at4]
theorem no_guard_v : Tryd.prog.eqGuardType Tryd.prog.depth 37 = false := by kernel_rfl
theorem no_guard_q : Tryd.prog.eqGuardType Tryd.prog.depth 34 = false := by kernel_rfl
variable {ops : Array Oper} {rest : List Oper} {dst : Option Tmp} {ty t2 : TypeId} {after : Array Edge} {a : Act} {x y : Operand} {gd : Option (Nat × Bool)} {pos : String} {S : World → Prop} {w : World} {Q : Exit → Act → World → Prop} {K : Act → World → Prop}
theorem run_eqv (h : V) (hx : a.eval x = .agg h.cells) (hy : a.eval y = .agg h.cells) (V : World) : (execOp a.eval ⟨dst, .binOp .eql 37 x y t2, ty, pos, after, gd⟩).run Tryd.prog V = .ok (.value (.bool true)) V := by
  unfold execOp
  simp only [Sem.run_bind, hx, hy, run_eqGuard_agg V .eql 37 x y h.cells h.cells no_guard_v, eq_v h, Result.andThen_ok, Sem.run_pure]
theorem y_eqv (h : V) (hx : a.eval x = .agg h.cells) (hy : a.eval y = .agg h.cells) (hw : Region.wanted ⟨dst, .binOp .eql 37 x y t2, ty, pos, after, gd⟩ (yielded ops a.tmps) = true) :
    YieldsIf Tryd.prog ops S ⟨dst, .binOp .eql 37 x y t2, ty, pos, after, gd⟩ (.bool true) a := .inl ⟨hw, fun V hV => run_eqv h hx hy V⟩
theorem g_eqv (h : V) (hx : a.eval x = .agg h.cells) (hy : a.eval y = .agg h.cells) (hw : Region.wanted ⟨dst, .binOp .eql 37 x y t2, ty, pos, after, gd⟩ (yielded ops a.tmps) = true)
    (k : wpList Tryd.prog ops Q rest (a.put dst (.bool true)) w) : wpList Tryd.prog ops Q (⟨dst, .binOp .eql 37 x y t2, ty, pos, after, gd⟩ :: rest) a w :=
  BigFrame.wpList_want hw fun K hK => by
    unfold Oper.wp
    rw [run_eqv h hx hy w, Oper.upon_value]
    exact hK _ _ k
theorem run_nev (h : V) (hx : a.eval x = .agg h.cells) (hy : a.eval y = .agg h.cells) (V : World) : (execOp a.eval ⟨dst, .binOp .neq 37 x y t2, ty, pos, after, gd⟩).run Tryd.prog V = .ok (.value (.bool false)) V := by
  unfold execOp
  simp only [Sem.run_bind, hx, hy, run_eqGuard_agg V .neq 37 x y h.cells h.cells no_guard_v, ne_v h, Result.andThen_ok, Sem.run_pure]
theorem y_nev (h : V) (hx : a.eval x = .agg h.cells) (hy : a.eval y = .agg h.cells) (hw : Region.wanted ⟨dst, .binOp .neq 37 x y t2, ty, pos, after, gd⟩ (yielded ops a.tmps) = true) :
    YieldsIf Tryd.prog ops S ⟨dst, .binOp .neq 37 x y t2, ty, pos, after, gd⟩ (.bool false) a := .inl ⟨hw, fun V hV => run_nev h hx hy V⟩
theorem g_nev (h : V) (hx : a.eval x = .agg h.cells) (hy : a.eval y = .agg h.cells) (hw : Region.wanted ⟨dst, .binOp .neq 37 x y t2, ty, pos, after, gd⟩ (yielded ops a.tmps) = true)
    (k : wpList Tryd.prog ops Q rest (a.put dst (.bool false)) w) : wpList Tryd.prog ops Q (⟨dst, .binOp .neq 37 x y t2, ty, pos, after, gd⟩ :: rest) a w :=
  BigFrame.wpList_want hw fun K hK => by
    unfold Oper.wp
    rw [run_nev h hx hy w, Oper.upon_value]
    exact hK _ _ k
theorem run_neq (h : Qu) (hx : a.eval x = .agg h.cells) (hy : a.eval y = .agg h.cells) (V : World) : (execOp a.eval ⟨dst, .binOp .neq 34 x y t2, ty, pos, after, gd⟩).run Tryd.prog V = .ok (.value (.bool false)) V := by
  unfold execOp
  simp only [Sem.run_bind, hx, hy, run_eqGuard_agg V .neq 34 x y h.cells h.cells no_guard_q, ne_qu h, Result.andThen_ok, Sem.run_pure]
theorem y_neq (h : Qu) (hx : a.eval x = .agg h.cells) (hy : a.eval y = .agg h.cells) (hw : Region.wanted ⟨dst, .binOp .neq 34 x y t2, ty, pos, after, gd⟩ (yielded ops a.tmps) = true) :
    YieldsIf Tryd.prog ops S ⟨dst, .binOp .neq 34 x y t2, ty, pos, after, gd⟩ (.bool false) a := .inl ⟨hw, fun V hV => run_neq h hx hy V⟩
theorem g_neq (h : Qu) (hx : a.eval x = .agg h.cells) (hy : a.eval y = .agg h.cells) (hw : Region.wanted ⟨dst, .binOp .neq 34 x y t2, ty, pos, after, gd⟩ (yielded ops a.tmps) = true)
    (k : wpList Tryd.prog ops Q rest (a.put dst (.bool false)) w) : wpList Tryd.prog ops Q (⟨dst, .binOp .neq 34 x y t2, ty, pos, after, gd⟩ :: rest) a w :=
  BigFrame.wpList_want hw fun K hK => by
    unfold Oper.wp
    rw [run_neq h hx hy w, Oper.upon_value]
    exact hK _ _ k
end Go.Proofs.YtahgacdkofmbmaaDoor
