/-
  Two controllers compared.
-/
import Derived.Test.YtadgdgjmadchjaaDoorPlRow
import Derived.Laws.StructEq
import Derived.ChangeKeysEq
import Derived.Deep.RegionHeld3
namespace Go.Proofs.YtadgdgjmadchjaaDoor
open Go.RowKit
set_option linter.unusedVariables false

def P5.prs (s : P5) : Array Value := #[.int .u32 (s.pr 0 : Nat), .int .u32 (s.pr 1 : Nat), .int .u32 (s.pr 2 : Nat), .int .u32 (s.pr 3 : Nat), .int .u32 (s.pr 4 : Nat), .int .u32 (s.pr 5 : Nat), .int .u32 (s.pr 6 : Nat), .int .u32 (s.pr 7 : Nat)]
theorem info_word : ∃ i, Tryd.prog.info? 22 = some i ∧ i.size = 1 := by
  have := size_word
  cases hq : Tryd.prog.info? 22 with
  | none => simp [hq] at this
  | some i => exact ⟨i, rfl, by simpa [hq] using this⟩
set_option maxHeartbeats 1000000 in
theorem eq_prs (h : P5) (d : Nat) (w : World) : (Op.equalIn (d + 2) 23 (.agg h.prs) (.agg h.prs)).run Tryd.prog w = .ok true w := by
  obtain ⟨i, hi, h1⟩ := info_word
  have hc : Tryd.prog.cellsOf 22 = 1 := by kernel_rfl
  rw [run_equalIn_array w (d + 1) h.prs h.prs Tryd.underlying23 hi, hc]
  generalize hx : h.prs = xs
  have hz : ∀ j, j < 8 → ∃ z, xs[j]? = some (.int .u32 z) := by
    subst hx
    intro j hj
    rcases j with _ | _ | _ | _ | _ | _ | _ | _ | j
    all_goals first | exact ⟨_, rfl⟩ | omega
  have hl : ∀ is : List Nat, (∀ j ∈ is, j < 8) → (Op.eqItems (d + 1) 22 1 xs xs is).run Tryd.prog w = .ok true w := by
    intro is
    induction is with
    | nil => intro _; simp [Op.eqItems]
    | cons j is ih =>
      intro hj
      obtain ⟨z, hz⟩ := hz j (hj j (by simp))
      have hp : (Go.part 22 xs (j * 1)).run Tryd.prog w = .ok (.int .u32 z) w := by
        simp [Go.part, go_sem, hz]
      have he : (Op.equalIn (d + 1) 22 (.int .u32 z) (.int .u32 z)).run Tryd.prog w = .ok true w := by
        simp [go_sem]
      simp only [Op.eqItems, Sem.run_bind, hp, he, Result.andThen_ok]
      simpa using ih (fun k hk => hj k (by simp [hk]))
  exact hl _ (fun j hj => by simpa using hj)
set_option maxHeartbeats 1000000 in
theorem eq_p (h : P5) (w : World) : (binOp .eql 26 (.agg h.cells) (.agg h.cells)).run Tryd.prog w = .ok (.bool true) w := by
  have hx : (Op.equalIn 9999 23 (.agg h.prs) (.agg h.prs)).run Tryd.prog w = .ok true w := eq_prs h 9997 w
  have e1 : h.cells.extract 0 8 = h.prs := by simp [P5.cells, P5.prs]
  simp [go_sem, e1, hx, P5.at8, P5.at9, P5.at10, P5.at11]
theorem no_guard_p : Tryd.prog.eqGuardType Tryd.prog.depth 26 = false := by kernel_rfl
variable {ops : Array Oper} {dst : Option Tmp} {ty t2 : TypeId} {after : Array Edge} {a : Act} {x y : Operand} {gd : Option (Nat × Bool)} {pos : String} {S : World → Prop}
theorem y_eqp (h : P5) (hx : a.eval x = .agg h.cells) (hy : a.eval y = .agg h.cells) (hw : Region.wanted ⟨dst, .binOp .eql 26 x y t2, ty, pos, after, gd⟩ (yielded ops a.tmps) = true) :
    YieldsIf Tryd.prog ops S ⟨dst, .binOp .eql 26 x y t2, ty, pos, after, gd⟩ (.bool true) a :=
  .inl ⟨hw, fun V hV => by
    unfold execOp
    simp only [Sem.run_bind, hx, hy, run_eqGuard_agg V .eql 26 x y h.cells h.cells no_guard_p, eq_p h, Result.andThen_ok, Sem.run_pure]⟩
theorem y_gg {TT : TypeId} (hu : ∃ d, Tryd.prog.underlying TT = some d ∧ d.isRow = true) (hi : (Tryd.prog.info? TT).map (·.size) = some 12) (b : Nat) (h : P5) (hS : ∀ V, S V → RowAt V b h.cells TT) (hx : a.eval x = .pointer (some ⟨b, 0, none⟩)) (hw : Region.wanted ⟨dst, .load TT x, ty, pos, after, gd⟩ (yielded ops a.tmps) = true) :
    YieldsIf Tryd.prog ops S ⟨dst, .load TT x, ty, pos, after, gd⟩ (.agg h.cells) a := by
  obtain ⟨d, hd, hr⟩ := hu
  rcases y_load (ops := ops) (P := Tryd.prog) (t := TT) (dst := dst) (ty := ty) (after := after) (a := a) (x := x) (pos := pos) (S := S) b h.cells _ hS d hd hr hi hx with ⟨_, h2⟩ | ⟨h1, _⟩
  · exact .inl ⟨hw, fun V hV => h2 V hV⟩
  · simp [Region.wanted] at h1
theorem y_gp (b : Nat) (h : P5) (hS : ∀ V, S V → RowAt V b h.cells 26) (hx : a.eval x = .pointer (some ⟨b, 0, none⟩)) (hw : Region.wanted ⟨dst, .load 26 x, ty, pos, after, gd⟩ (yielded ops a.tmps) = true) :
    YieldsIf Tryd.prog ops S ⟨dst, .load 26 x, ty, pos, after, gd⟩ (.agg h.cells) a := y_gg ⟨_, Tryd.underlying26, rfl⟩ size_p b h hS hx hw
theorem y_gr (b : Nat) (h : P5) (hS : ∀ V, S V → RowAt V b h.cells 25) (hx : a.eval x = .pointer (some ⟨b, 0, none⟩)) (hw : Region.wanted ⟨dst, .load 25 x, ty, pos, after, gd⟩ (yielded ops a.tmps) = true) :
    YieldsIf Tryd.prog ops S ⟨dst, .load 25 x, ty, pos, after, gd⟩ (.agg h.cells) a := y_gg ⟨_, Tryd.underlying25, rfl⟩ size_r b h hS hx hw
end Go.Proofs.YtadgdgjmadchjaaDoor
