/-
  The document's bits and words.
-/
import Derived.Test.YtadgdgjmadchjaaDoorPlRow
import Derived.Test.YtadgdgjmadchjaaDoorRSet
namespace Go.Proofs.YtadgdgjmadchjaaDoor
open Go.RowKit
set_option linter.unusedVariables false

/-- The document's bits and words. -/
theorem bitN_tb (v n : Nat) (hn : n ≤ 31) : bitN v (n : Int) = (v.testBit n).toNat := by
  unfold bitN
  rw [if_pos (by omega), Int.toNat_natCast, Nat.toNat_testBit]
theorem set_tb (v n x : Nat) (hv : v < 4294967296) (hn : n ≤ 31) (i : Nat) : (num (setBit v (n : Int) 1 x) 32).testBit i = if i = n then x.testBit 0 else v.testBit i := by
  rw [num_bit _ (setBit_le v _ _ x)]
  by_cases hi : i < 32
  · rw [decide_eq_true hi, Bool.true_and]
    unfold setBit
    rw [if_neg (by omega)]
    by_cases e : i = n
    · subst e
      rw [if_pos (by omega), if_pos rfl, show ((i : Int) - (i : Int)) = ((0 : Nat) : Int) by omega, bitN_tb _ _ (by omega)]
      cases x.testBit 0 <;> simp
    · rw [if_neg (by omega), if_neg e, bitN_tb _ _ (by omega)]
      cases v.testBit i <;> simp
  · rw [decide_eq_false hi, Bool.false_and, if_neg (by omega)]
    exact (Nat.testBit_lt_two_pow (Nat.lt_of_lt_of_le hv (Nat.pow_le_pow_right (n := 2) (i := 32) (by decide) (by omega)))).symm
theorem num32_lt (f : Nat → Nat) (hf : ∀ j, f j ≤ 1) : num f 32 < 4294967296 := num_lt f hf 32
theorem tb_254 (i : Nat) : (254 : Nat).testBit i = (decide (1 ≤ i) && decide (i ≤ 7)) := by
  by_cases h : i < 8
  · revert i; decide
  · rw [Nat.testBit_lt_two_pow (Nat.lt_of_lt_of_le (by decide : 254 < 2 ^ 8) (Nat.pow_le_pow_right (by decide) (by omega))), decide_eq_false (show ¬ i ≤ 7 by omega), Bool.and_false]
theorem tb_not (b i : Nat) (hb : b < 4294967296) : (4294967295 - b).testBit i = (decide (i < 32) && !b.testBit i) := by
  have := Nat.testBit_two_pow_sub_succ (n := 32) (x := b) hb i
  rw [show 2 ^ 32 - (b + 1) = 4294967295 - b by omega] at this
  exact this
variable {ops : Array Oper} {rest : List Oper} {dst : Option Tmp} {ty : TypeId} {pos : String} {after : Array Edge} {a : Act} {w : World} {Q : Exit → Act → World → Prop} {x : Operand} {gd : Option (Nat × Bool)}
theorem g_ldw (b j : Nat) (cs : Array Value) (t' : TypeId) (v : Nat) (hr : RowAt w b cs t') (hv : cs[j]? = some (.int .u32 (v : Nat))) (hx : a.eval x = .pointer (some ⟨b, j, none⟩)) (hw : Region.wanted ⟨dst, .load 22 x, ty, pos, after, gd⟩ (yielded ops a.tmps) = true)
    (k : wpList Tryd.prog ops Q rest (a.put dst (.int .u32 (v : Nat))) w) : wpList Tryd.prog ops Q (⟨dst, .load 22 x, ty, pos, after, gd⟩ :: rest) a w :=
  BigFrame.wpList_want hw fun K hK => by
    have hcell : w.cell? ⟨b, j, none⟩ = some (.int .u32 (v : Nat)) := (hr.cell j).trans hv
    have hrun : (loadVar 22 ⟨b, j, none⟩).run Tryd.prog w = .ok (.int .u32 (v : Nat)) w := by
      have hagg : (isAgg 22).run Tryd.prog w = .ok false w := by
        unfold isAgg
        rw [Sem.run_bind, run_underlying Tryd.underlying22 w]
        rfl
      simp [loadVar, Sem.run_bind, hagg, hcell]
    unfold Oper.wp execOp
    simp only [hx, Instr.loadAt, Instr.sureAddr, Sem.run_bind, Sem.run_pure, Result.andThen_ok, hrun]
    exact hK _ _ k
end Go.Proofs.YtadgdgjmadchjaaDoor
