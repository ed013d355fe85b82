/-
  AsmParses, walked.
-/
import Derived.Test.YtoekcfbjdcibpaaGreatDoorJH
import Derived.Test.YtoekcfbjdcibpaaGreatDoorJB
import Derived.Test.YtoekcfbjdcibpaaGreatDoorJG
import Derived.Test.YtoekcfbjdcibpaaGreatDoorAsWit
namespace Go.Proofs.YtoekcfbjdcibpaaGreatDoor
open Go.RowKit Go.Lib
set_option linter.unusedVariables false

theorem size_ip : (Tryz.prog.info? 28).map (·.size) = some 6 := by kernel_rfl
theorem zero_ip (w : World) : (zeroValue 28).run Tryz.prog w = .ok (.agg zeroI8.cells) w :=
  (zero_of_info (P := Tryz.prog) (t := 28) (v := .agg zeroI8.cells) (n := 6) (by kernel_rfl)).1 w
theorem no_guard_i : Tryz.prog.eqGuardType Tryz.prog.depth 28 = false := by kernel_rfl
theorem eq_i (i : I6) (w : World) : (binOp .eql 28 (.agg i.cells) (.agg i.cells)).run Tryz.prog w = .ok (.bool true) w := by
  have h := eql_six i.op i.rd i.rs1 i.rs2 i.imm i.csr i.op i.rd i.rs1 i.rs2 i.imm i.csr w
  rw [decide_eq_true ⟨rfl, rfl, rfl, rfl, rfl, rfl⟩] at h
  exact h
variable {ops : Array Oper} {rest : List Oper} {dst : Option Tmp} {ty t2 : TypeId} {pos : String} {after : Array Edge} {a : Act} {w : World} {Q : Exit → Act → World → Prop} {x y : Operand} {gd : Option (Nat × Bool)}
theorem al_ip (N : Nat) (hN : w.heap.size = N)
    (k : ∀ W, RowAt W N zeroI8.cells 28 → Below N w W → Hid (W.heap.size = N + 1) → wpList Tryz.prog ops Q rest (a.put dst (.pointer (some ⟨N, 0, none⟩))) W) :
    wpList Tryz.prog ops Q (⟨dst, .alloc 28, ty, pos, after, none⟩ :: rest) a w := op_alloc N hN zeroI8.cells zero_ip k
theorem st_ip (b : Nat) (old i : I6) (hr : RowAt w b old.cells 28) (hx : a.eval x = .pointer (some ⟨b, 0, none⟩)) (hy : a.eval y = .agg i.cells)
    (k : ∀ W, RowAt W b i.cells 28 → Only b w W → wpList Tryz.prog ops Q rest (a.put dst undef) W) : wpList Tryz.prog ops Q (⟨dst, .store 28 x y, ty, pos, after, none⟩ :: rest) a w :=
  op_store b hx i.cells hy old.cells _ hr size_ip rfl (ri_one i) k
theorem ld_ip (b : Nat) (i : I6) (hr : RowAt w b i.cells 28) (hx : a.eval x = .pointer (some ⟨b, 0, none⟩))
    (k : wpList Tryz.prog ops Q rest (a.put dst (.agg i.cells)) w) : wpList Tryz.prog ops Q (⟨dst, .load 28 x, ty, pos, after, none⟩ :: rest) a w :=
  op_load b hx i.cells _ hr _ Tryz.underlying28 rfl size_ip k
theorem op_eqi (i : I6) (hx : a.eval x = .agg i.cells) (hy : a.eval y = .agg i.cells)
    (k : wpList Tryz.prog ops Q rest (a.put dst (.bool true)) w) : wpList Tryz.prog ops Q (⟨dst, .binOp .eql 28 x y t2, ty, pos, after, none⟩ :: rest) a w := by
  refine wpList_plain rfl fun K hK => ?_
  have hrun : (execOp a.eval ⟨dst, .binOp .eql 28 x y t2, ty, pos, after, none⟩).run Tryz.prog w = .ok (.value (.bool true)) w := by
    unfold execOp
    simp only [Sem.run_bind, hx, hy, run_eqGuard_agg w .eql 28 x y i.cells i.cells no_guard_i, eq_i i, Result.andThen_ok, Sem.run_pure]
  unfold Oper.wp
  rw [hrun, Oper.upon_value]
  exact hK _ _ k
theorem parses_two (s : ByteArray) (hs : s.size ≤ 1000) : ∃ (i : I6) (n : Int), (∀ w, AsAt w → Calls Tryz.prog 13 #[.string s] w fun e w' => e = .returned (.tuple #[.agg i.cells, errno n]) ∧ Below w.heap.size w w')
    ∧ ∀ w, Calls Tryz.prog 14 #[.string s] w fun e w' => e = .returned (.tuple #[.agg i.cells, .int .i64 n]) ∧ Below w.heap.size w w' := by
  have hl : s.data.toList.length ≤ 1000 := by simpa using hs
  have e1 : (ByteArray.mk s.data.toList.toArray) = s := by simp
  refine ⟨parseI s.data.toList, parseN s.data.toList, fun w hA => ?_, fun w => ?_⟩
  · have := parse_all s.data.toList (by omega) w hA
    rwa [e1] at this
  · have := rparse_any s (by omega) w
    rw [dParse_iff] at this
    unfold parseI parseN
    cases h : parseL s.data.toList with
    | none => rw [h] at this; exact this
    | some i => rw [h] at this; exact this
set_option maxHeartbeats 1000000 in
theorem parses_walk (s : ByteArray) (hm : s.size ≤ 9223372036854775807) (w : World) (hA : AsAt w) (hH : HandleAt w) :
    Calls Tryz.prog 4 #[.string s] w fun e w' => e = .returned (.bool true) ∧ Below w.heap.size w w' := by
  have HS := hide sure_any
  have HA := hide hA
  have HH := hide hH
  clear hA hH
  by_cases hs : s.size ≤ 1000
  · obtain ⟨i, n, HP, HR⟩ := parses_two s hs
    replace HP := hide HP
    replace HR := hide HR
    have HN := hide (num_all n)
    generalize errno n = en at *
    have t0 : decide ((s.size : Int) > 1000) = false := by simp; omega
    have t1 : decide ((1000 : Int) < (s.size : Int)) = false := by simp; omega
    go_enter Tryz.func4, Tryz.ntmps4
    go_wp2_with (first | (go_at_call 13; (with_reducible refine (HP.out _ HA.out).mono ?_); rintro e W ⟨rfl, hb⟩; obtain ⟨NX, hNX⟩ : ∃ n, W.heap.size = n := ⟨_, rfl⟩; have lNX : w.heap.size ≤ NX := (by (have := hb.size; omega)); replace hNX := hide hNX) | ((with_reducible refine al_ip NX ?_ ?_); exact hNX.out; intro W hx hb' hz2; replace hb := hb.trans (hb'.mono (by omega))) | ((with_reducible refine st_ip NX _ i hx ?_ ?_ ?_); exact rfl; exact rfl; intro W hnew ho; replace hx := hnew; replace hb := ho.bel _ _ (by omega) hb) | (go_at_call 14; (with_reducible refine (HR.out _).mono ?_); rintro e W ⟨rfl, hbc⟩; replace hx := hx.bl hbc; replace hb := below_bl rfl hb hbc; obtain ⟨NY, hNY⟩ : ∃ n, W.heap.size = n := ⟨_, rfl⟩; have lNY : NX + 1 ≤ NY := (by (have := hx.lt; omega)); replace hNY := hide hNY) | ((with_reducible refine al_ri NY ?_ ?_); exact hNY.out; intro W hy hb' hz3; replace hx := hx.bl (hNY.out ▸ hb'); replace hb := hb.trans (hb'.mono (by omega))) | ((with_reducible refine st_ri NY _ i hy ?_ ?_ ?_); exact rfl; exact rfl; intro W hnew ho; replace hx := hx.only ho (by omega); replace hy := hnew; replace hb := ho.bel _ _ (by omega) hb) | ((with_reducible refine ld_ip NX i hx ?_ ?_); exact rfl) | ((with_reducible refine ld_ri NY i hy ?_ ?_); exact rfl) | ((with_reducible refine op_eqi i ?_ ?_ ?_); exact rfl; exact rfl) | (go_at_call 11; (with_reducible refine (HN.out _ (HH.out.below hb)).mono ?_); rintro e W ⟨rfl, hbc⟩; replace hb := below_bl rfl hb hbc; skip) | (go_at_call 12; (with_reducible refine (HS.out _ (HA.out.below hb)).mono ?_); rintro e W ⟨rfl, hbc⟩; replace hb := below_bl rfl hb hbc; skip))
    go_ret
    exact ⟨rfl, hb⟩
  · have t0 : (s.size : Int) > 1000 := by omega
    go_enter Tryz.func4, Tryz.ntmps4
    go_wp2_with (first | (go_at_call 12; (with_reducible refine (HS.out _ HA.out).mono ?_); rintro e W ⟨rfl, hb⟩; skip))
    go_ret
    exact ⟨rfl, hb⟩
end Go.Proofs.YtoekcfbjdcibpaaGreatDoor
