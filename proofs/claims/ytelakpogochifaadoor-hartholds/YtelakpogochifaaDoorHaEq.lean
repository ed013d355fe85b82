/-
  Two harts compared.
-/
import Derived.Test.YtelakpogochifaaDoorHaRow
import Derived.Laws.StructEq
import Derived.ChangeKeysEq
namespace Go.Proofs.YtelakpogochifaaDoor
open Go.RowKit
set_option linter.unusedVariables false

/-- A hart's registers, as an array. -/
def H.xs (h : H) : Array Value := #[.int .u32 (h.x 0 : Nat), .int .u32 (h.x 1 : Nat), .int .u32 (h.x 2 : Nat), .int .u32 (h.x 3 : Nat), .int .u32 (h.x 4 : Nat), .int .u32 (h.x 5 : Nat), .int .u32 (h.x 6 : Nat), .int .u32 (h.x 7 : Nat), .int .u32 (h.x 8 : Nat), .int .u32 (h.x 9 : Nat), .int .u32 (h.x 10 : Nat), .int .u32 (h.x 11 : Nat), .int .u32 (h.x 12 : Nat), .int .u32 (h.x 13 : Nat), .int .u32 (h.x 14 : Nat), .int .u32 (h.x 15 : Nat), .int .u32 (h.x 16 : Nat), .int .u32 (h.x 17 : Nat), .int .u32 (h.x 18 : Nat), .int .u32 (h.x 19 : Nat), .int .u32 (h.x 20 : Nat), .int .u32 (h.x 21 : Nat), .int .u32 (h.x 22 : Nat), .int .u32 (h.x 23 : Nat), .int .u32 (h.x 24 : Nat), .int .u32 (h.x 25 : Nat), .int .u32 (h.x 26 : Nat), .int .u32 (h.x 27 : Nat), .int .u32 (h.x 28 : Nat), .int .u32 (h.x 29 : Nat), .int .u32 (h.x 30 : Nat), .int .u32 (h.x 31 : Nat)]
theorem info_word : ∃ i, Tryd.prog.info? 22 = some i ∧ i.size = 1 := by
  have := size_word
  cases hq : Tryd.prog.info? 22 with
  | none => simp [hq] at this
  | some i => exact ⟨i, rfl, by simpa [hq] using this⟩
set_option maxHeartbeats 1000000 in
theorem eq_xs (h : H) (d : Nat) (w : World) : (Op.equalIn (d + 2) 23 (.agg h.xs) (.agg h.xs)).run Tryd.prog w = .ok true w := by
  obtain ⟨i, hi, h1⟩ := info_word
  have hc : Tryd.prog.cellsOf 22 = 1 := by kernel_rfl
  rw [run_equalIn_array w (d + 1) h.xs h.xs Tryd.underlying23 hi, hc]
  generalize hx : h.xs = xs
  have hz : ∀ j, j < 32 → ∃ z, xs[j]? = some (.int .u32 z) := by
    subst hx
    intro j hj
    rcases j with _ | _ | _ | _ | _ | _ | _ | _ | _ | _ | _ | _ | _ | _ | _ | _ | _ | _ | _ | _ | _ | _ | _ | _ | _ | _ | _ | _ | _ | _ | _ | _ | j
    all_goals first | exact ⟨_, rfl⟩ | omega
  have hl : ∀ is : List Nat, (∀ j ∈ is, j < 32) → (Op.eqItems (d + 1) 22 1 xs xs is).run Tryd.prog w = .ok true w := by
    intro is
    induction is with
    | nil => intro _; simp [Op.eqItems]
    | cons j is ih =>
      intro hj
      obtain ⟨z, hz⟩ := hz j (hj j (by simp))
      have hp : (Go.part 22 xs (j * 1)).run Tryd.prog w = .ok (.int .u32 z) w := by
        simp [Go.part, go_sem, hz]
      have he : (Op.equalIn (d + 1) 22 (.int .u32 z) (.int .u32 z)).run Tryd.prog w = .ok true w := by
        simp [go_sem]
      simp only [Op.eqItems, Sem.run_bind, hp, he, Result.andThen_ok]
      simpa using ih (fun k hk => hj k (by simp [hk]))
  exact hl _ (fun j hj => by simpa using hj)

theorem H.at0 (h : H) : h.cells[0]? = some (.int .u32 (h.pc : Nat)) := rfl
theorem H.at1 (h : H) : h.cells[1]? = some (.int .u32 (h.x 0 : Nat)) := rfl
theorem H.at2 (h : H) : h.cells[2]? = some (.int .u32 (h.x 1 : Nat)) := rfl
theorem H.at3 (h : H) : h.cells[3]? = some (.int .u32 (h.x 2 : Nat)) := rfl
theorem H.at4 (h : H) : h.cells[4]? = some (.int .u32 (h.x 3 : Nat)) := rfl
theorem H.at5 (h : H) : h.cells[5]? = some (.int .u32 (h.x 4 : Nat)) := rfl
theorem H.at6 (h : H) : h.cells[6]? = some (.int .u32 (h.x 5 : Nat)) := rfl
theorem H.at7 (h : H) : h.cells[7]? = some (.int .u32 (h.x 6 : Nat)) := rfl
theorem H.at8 (h : H) : h.cells[8]? = some (.int .u32 (h.x 7 : Nat)) := rfl
theorem H.at9 (h : H) : h.cells[9]? = some (.int .u32 (h.x 8 : Nat)) := rfl
theorem H.at10 (h : H) : h.cells[10]? = some (.int .u32 (h.x 9 : Nat)) := rfl
theorem H.at11 (h : H) : h.cells[11]? = some (.int .u32 (h.x 10 : Nat)) := rfl
theorem H.at12 (h : H) : h.cells[12]? = some (.int .u32 (h.x 11 : Nat)) := rfl
theorem H.at13 (h : H) : h.cells[13]? = some (.int .u32 (h.x 12 : Nat)) := rfl
theorem H.at14 (h : H) : h.cells[14]? = some (.int .u32 (h.x 13 : Nat)) := rfl
theorem H.at15 (h : H) : h.cells[15]? = some (.int .u32 (h.x 14 : Nat)) := rfl
theorem H.at16 (h : H) : h.cells[16]? = some (.int .u32 (h.x 15 : Nat)) := rfl
theorem H.at17 (h : H) : h.cells[17]? = some (.int .u32 (h.x 16 : Nat)) := rfl
theorem H.at18 (h : H) : h.cells[18]? = some (.int .u32 (h.x 17 : Nat)) := rfl
theorem H.at19 (h : H) : h.cells[19]? = some (.int .u32 (h.x 18 : Nat)) := rfl
theorem H.at20 (h : H) : h.cells[20]? = some (.int .u32 (h.x 19 : Nat)) := rfl
theorem H.at21 (h : H) : h.cells[21]? = some (.int .u32 (h.x 20 : Nat)) := rfl
theorem H.at22 (h : H) : h.cells[22]? = some (.int .u32 (h.x 21 : Nat)) := rfl
theorem H.at23 (h : H) : h.cells[23]? = some (.int .u32 (h.x 22 : Nat)) := rfl
theorem H.at24 (h : H) : h.cells[24]? = some (.int .u32 (h.x 23 : Nat)) := rfl
theorem H.at25 (h : H) : h.cells[25]? = some (.int .u32 (h.x 24 : Nat)) := rfl
theorem H.at26 (h : H) : h.cells[26]? = some (.int .u32 (h.x 25 : Nat)) := rfl
theorem H.at27 (h : H) : h.cells[27]? = some (.int .u32 (h.x 26 : Nat)) := rfl
theorem H.at28 (h : H) : h.cells[28]? = some (.int .u32 (h.x 27 : Nat)) := rfl
theorem H.at29 (h : H) : h.cells[29]? = some (.int .u32 (h.x 28 : Nat)) := rfl
theorem H.at30 (h : H) : h.cells[30]? = some (.int .u32 (h.x 29 : Nat)) := rfl
theorem H.at31 (h : H) : h.cells[31]? = some (.int .u32 (h.x 30 : Nat)) := rfl
theorem H.at32 (h : H) : h.cells[32]? = some (.int .u32 (h.x 31 : Nat)) := rfl
theorem H.at33 (h : H) : h.cells[33]? = some (.bool h.wt) := rfl
theorem H.at34 (h : H) : h.cells[34]? = some (.int .u32 (h.c.st : Nat)) := rfl
theorem H.at35 (h : H) : h.cells[35]? = some (.int .u32 (h.c.en : Nat)) := rfl
theorem H.at36 (h : H) : h.cells[36]? = some (.int .u32 (h.c.ve : Nat)) := rfl
theorem H.at37 (h : H) : h.cells[37]? = some (.int .u32 (h.c.sc : Nat)) := rfl
theorem H.at38 (h : H) : h.cells[38]? = some (.int .u32 (h.c.ep : Nat)) := rfl
theorem H.at39 (h : H) : h.cells[39]? = some (.int .u32 (h.c.ca : Nat)) := rfl
theorem H.at40 (h : H) : h.cells[40]? = some (.int .u32 (h.c.va : Nat)) := rfl
theorem H.at41 (h : H) : h.cells[41]? = some (.int .u64 (h.c.ct : Nat)) := rfl
theorem A6.at0 (a : A6) : a.cells[0]? = some (.int .i64 a.kind) := rfl
theorem A6.at1 (a : A6) : a.cells[1]? = some (.int .u32 (a.pl : Nat)) := rfl
theorem A6.at2 (a : A6) : a.cells[2]? = some (.int .i64 a.n) := rfl
theorem A6.at3 (a : A6) : a.cells[3]? = some (.bool a.sg) := rfl
theorem A6.at4 (a : A6) : a.cells[4]? = some (.int .i64 a.rd) := rfl
theorem A6.at5 (a : A6) : a.cells[5]? = some (.int .u32 (a.va : Nat)) := rfl
set_option maxHeartbeats 1000000 in
theorem eq_h (h : H) (w : World) : (binOp .eql 31 (.agg h.cells) (.agg h.cells)).run Tryd.prog w = .ok (.bool true) w := by
  have hx : (Op.equalIn 9999 23 (.agg h.xs) (.agg h.xs)).run Tryd.prog w = .ok true w := eq_xs h 9997 w
  have e1 : h.cells.extract 1 33 = h.xs := by simp [H.cells, H.xs]
  have e2 : h.cells.extract 34 42 = h.c.cells := by simp [H.cells, S8.cells]
  simp [go_sem, e1, e2, hx, H.at0, H.at33, S8.cells]
theorem eq_x (h : H) (w : World) : (binOp .eql 23 (.agg h.xs) (.agg h.xs)).run Tryd.prog w = .ok (.bool true) w := by
  have hx : (Op.equalIn 10000 23 (.agg h.xs) (.agg h.xs)).run Tryd.prog w = .ok true w := eq_xs h 9998 w
  simp [go_sem, hx]
theorem ne_x (h : H) (w : World) : (binOp .neq 23 (.agg h.xs) (.agg h.xs)).run Tryd.prog w = .ok (.bool false) w := by
  have hx : (Op.equalIn 10000 23 (.agg h.xs) (.agg h.xs)).run Tryd.prog w = .ok true w := eq_xs h 9998 w
  simp [go_sem, hx]
end Go.Proofs.YtelakpogochifaaDoor
