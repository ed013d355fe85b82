/-
  Two ports compared.
-/
import Derived.Test.YthopfecjnbfnmaaUaRow
import Derived.Laws.StructEq
import Derived.ChangeKeysEq
import Derived.Deep.RegionHeld3
namespace Go.Proofs.Ythopfecjnbfnmaa
open Go.RowKit
set_option linter.unusedVariables false

theorem info_byte : ∃ i, Try.prog.info? 5 = some i ∧ i.size = 1 := by
  have := size_byte
  cases hq : Try.prog.info? 5 with
  | none => simp [hq] at this
  | some i => exact ⟨i, rfl, by simpa [hq] using this⟩
set_option maxHeartbeats 1000000 in
theorem eq_arr (h : F) (d : Nat) (w : World) : (Op.equalIn (d + 2) 22 (.agg h.arr) (.agg h.arr)).run Try.prog w = .ok true w := by
  obtain ⟨i, hi, h1⟩ := info_byte
  have hc : Try.prog.cellsOf 5 = 1 := by kernel_rfl
  rw [run_equalIn_array w (d + 1) h.arr h.arr Try.underlying22 hi, hc]
  generalize hx : h.arr = xs
  have hz : ∀ j, j < 16 → ∃ z, xs[j]? = some (.int .u8 z) := by
    subst hx
    intro j hj
    rcases j with _ | _ | _ | _ | _ | _ | _ | _ | _ | _ | _ | _ | _ | _ | _ | _ | j
    all_goals first | exact ⟨_, rfl⟩ | omega
  have hl : ∀ is : List Nat, (∀ j ∈ is, j < 16) → (Op.eqItems (d + 1) 5 1 xs xs is).run Try.prog w = .ok true w := by
    intro is
    induction is with
    | nil => intro _; simp [Op.eqItems]
    | cons j is ih =>
      intro hj
      obtain ⟨z, hz⟩ := hz j (hj j (by simp))
      have hp : (Go.part 5 xs (j * 1)).run Try.prog w = .ok (.int .u8 z) w := by
        simp [Go.part, go_sem, hz]
      have he : (Op.equalIn (d + 1) 5 (.int .u8 z) (.int .u8 z)).run Try.prog w = .ok true w := by
        simp [go_sem]
      simp only [Op.eqItems, Sem.run_bind, hp, he, Result.andThen_ok]
      simpa using ih (fun k hk => hj k (by simp [hk]))
  exact hl _ (fun j hj => by simpa using hj)
theorem part_arr (f : F) : f.cells.extract 0 16 = f.arr := by kernel_rfl
theorem part_rx (s : U) : s.cells.extract 0 17 = s.rx.cells := by kernel_rfl
theorem part_tx (s : U) : s.cells.extract 17 34 = s.tx.cells := by kernel_rfl
set_option maxHeartbeats 1000000 in
theorem eq_u (h : U) (w : World) : (binOp .eql 29 (.agg h.cells) (.agg h.cells)).run Try.prog w = .ok (.bool true) w := by
  have h1 : (Op.equalIn 9998 22 (.agg h.rx.arr) (.agg h.rx.arr)).run Try.prog w = .ok true w := eq_arr h.rx 9996 w
  have h2 : (Op.equalIn 9998 22 (.agg h.tx.arr) (.agg h.tx.arr)).run Try.prog w = .ok true w := eq_arr h.tx 9996 w
  simp [go_sem, part_rx h, part_tx h, part_arr, h1, h2, F.at16, U.at34, U.at35, U.at36, U.at37, U.at38, U.at39, U.at40, U.at41]
theorem no_guard_u : Try.prog.eqGuardType Try.prog.depth 29 = false := by kernel_rfl
variable {ops : Array Oper} {rest : List Oper} {dst : Option Tmp} {ty t2 : TypeId} {after : Array Edge} {a : Act} {x y : Operand} {gd : Option (Nat × Bool)} {pos : String} {S : World → Prop} {w : World} {Q : Exit → Act → World → Prop}
theorem y_equ (h : U) (hx : a.eval x = .agg h.cells) (hy : a.eval y = .agg h.cells) (hw : Region.wanted ⟨dst, .binOp .eql 29 x y t2, ty, pos, after, gd⟩ (yielded ops a.tmps) = true) :
    YieldsIf Try.prog ops S ⟨dst, .binOp .eql 29 x y t2, ty, pos, after, gd⟩ (.bool true) a :=
  .inl ⟨hw, fun V hV => by
    unfold execOp
    simp only [Sem.run_bind, hx, hy, run_eqGuard_agg V .eql 29 x y h.cells h.cells no_guard_u, eq_u h, Result.andThen_ok, Sem.run_pure]⟩
theorem g_equ (h : U) (hx : a.eval x = .agg h.cells) (hy : a.eval y = .agg h.cells) (hw : Region.wanted ⟨dst, .binOp .eql 29 x y t2, ty, pos, after, gd⟩ (yielded ops a.tmps) = true)
    (k : wpList Try.prog ops Q rest (a.put dst (.bool true)) w) : wpList Try.prog ops Q (⟨dst, .binOp .eql 29 x y t2, ty, pos, after, gd⟩ :: rest) a w :=
  BigFrame.wpList_want hw fun K hK => by
    have hrun : (execOp a.eval ⟨dst, .binOp .eql 29 x y t2, ty, pos, after, gd⟩).run Try.prog w = .ok (.value (.bool true)) w := by
      unfold execOp
      simp only [Sem.run_bind, hx, hy, run_eqGuard_agg w .eql 29 x y h.cells h.cells no_guard_u, eq_u h, Result.andThen_ok, Sem.run_pure]
    unfold Oper.wp
    rw [hrun, Oper.upon_value]
    exact hK _ _ k
end Go.Proofs.Ythopfecjnbfnmaa
