/-
  The document's bits of a status.
-/
import Derived.Test.YtahgacdkofmbmaaDoorRSet
import Derived.Test.YtahgacdkofmbmaaDoorViMath
namespace Go.Proofs.YtahgacdkofmbmaaDoor
open Go.RowKit
set_option linter.unusedVariables false

theorem bitV_tb (v n : Nat) (hn : n ≤ 31) : bitN v (n : Int) = (v.testBit n).toNat := by
  unfold bitN
  rw [if_pos (by omega), Int.toNat_natCast, Nat.toNat_testBit]
theorem setV_tb (v n x : Nat) (hv : v < 4294967296) (hn : n ≤ 31) (i : Nat) : (num (setBit v (n : Int) 1 x) 32).testBit i = if i = n then x.testBit 0 else v.testBit i := by
  rw [num_bit _ (setBit_le v _ _ x)]
  by_cases hi : i < 32
  · rw [decide_eq_true hi, Bool.true_and]
    unfold setBit
    rw [if_neg (by omega)]
    by_cases e : i = n
    · subst e
      rw [if_pos (by omega), if_pos rfl, show ((i : Int) - (i : Int)) = ((0 : Nat) : Int) by omega, bitV_tb _ _ (by omega)]
      cases x.testBit 0 <;> simp
    · rw [if_neg (by omega), if_neg e, bitV_tb _ _ (by omega)]
      cases v.testBit i <;> simp
  · rw [decide_eq_false hi, Bool.false_and, if_neg (by omega)]
    exact (Nat.testBit_lt_two_pow (Nat.lt_of_lt_of_le hv (Nat.pow_le_pow_right (n := 2) (i := 32) (by decide) (by omega)))).symm
theorem numV_lt (f : Nat → Nat) (hf : ∀ j, f j ≤ 1) : num f 32 < 4294967296 := num_lt f hf 32
/-- A number with a bit taken away. -/
def clrB (v n : Nat) : Nat := num (setBit v (n : Int) 1 0) 32
theorem clrB_lt (v n : Nat) : clrB v n < 4294967296 := numV_lt _ (setBit_le v _ _ 0)
theorem clrB_tb (v n : Nat) (hv : v < 4294967296) (hn : n ≤ 31) (i : Nat) : (clrB v n).testBit i = if i = n then false else v.testBit i := by
  unfold clrB; rw [setV_tb v n 0 hv hn i]; simp
theorem setV_or (v n : Nat) (hv : v < 4294967296) (hn : n ≤ 31) : num (setBit v (n : Int) 1 1) 32 = v ||| 2 ^ n := by
  apply Nat.eq_of_testBit_eq
  intro i
  rw [setV_tb v n 1 hv hn i, Nat.testBit_or, Nat.testBit_two_pow]
  by_cases h : i = n
  · subst h; simp
  · rw [if_neg h, decide_eq_false (fun e => h e.symm), Bool.or_false]
theorem rhas_any (v : Nat) (hv : v < 4294967296) (n : Nat) (hn : n ≤ 31) (w : World) : Calls Tryd.prog 30 #[.int .u32 (v : Nat), .int .i64 (n : Nat)] w fun e w' => e = .returned (.bool (v.testBit n)) ∧ w' = w := by
  have HB := hide (fun w => bit_any v hv (n : Int) w)
  rw [bitV_tb v n hn] at HB
  cases h : v.testBit n with
  | true =>
    rw [h] at HB
    have HB : Hid (∀ w, Calls Tryd.prog 42 #[.int .u32 (v : Nat), .int .i64 (n : Nat)] w fun e w' => e = .returned (.int .i64 1) ∧ w' = w) := HB
    clear h
    go_enter Tryd.func30, Tryd.ntmps30
    go_wp2_with (go_at_call 42; (with_reducible refine (HB.out _).mono ?_); rintro e W ⟨rfl, rfl⟩)
    go_ret
    exact ⟨rfl, rfl⟩
  | false =>
    rw [h] at HB
    have HB : Hid (∀ w, Calls Tryd.prog 42 #[.int .u32 (v : Nat), .int .i64 (n : Nat)] w fun e w' => e = .returned (.int .i64 0) ∧ w' = w) := HB
    clear h
    go_enter Tryd.func30, Tryd.ntmps30
    go_wp2_with (go_at_call 42; (with_reducible refine (HB.out _).mono ?_); rintro e W ⟨rfl, rfl⟩)
    go_ret
    exact ⟨rfl, rfl⟩
theorem rhas_0 (v : Nat) (hv : v < 4294967296) (w : World) : Calls Tryd.prog 30 #[.int .u32 (v : Nat), .int .i64 0] w fun e w' => e = .returned (.bool (v.testBit 0)) ∧ w' = w := rhas_any v hv 0 (by decide) w
theorem rhas_1 (v : Nat) (hv : v < 4294967296) (w : World) : Calls Tryd.prog 30 #[.int .u32 (v : Nat), .int .i64 1] w fun e w' => e = .returned (.bool (v.testBit 1)) ∧ w' = w := rhas_any v hv 1 (by decide) w
theorem rhas_2 (v : Nat) (hv : v < 4294967296) (w : World) : Calls Tryd.prog 30 #[.int .u32 (v : Nat), .int .i64 2] w fun e w' => e = .returned (.bool (v.testBit 2)) ∧ w' = w := rhas_any v hv 2 (by decide) w
theorem rhas_3 (v : Nat) (hv : v < 4294967296) (w : World) : Calls Tryd.prog 30 #[.int .u32 (v : Nat), .int .i64 3] w fun e w' => e = .returned (.bool (v.testBit 3)) ∧ w' = w := rhas_any v hv 3 (by decide) w
theorem rhas_6 (v : Nat) (hv : v < 4294967296) (w : World) : Calls Tryd.prog 30 #[.int .u32 (v : Nat), .int .i64 6] w fun e w' => e = .returned (.bool (v.testBit 6)) ∧ w' = w := rhas_any v hv 6 (by decide) w
theorem rhas_7 (v : Nat) (hv : v < 4294967296) (w : World) : Calls Tryd.prog 30 #[.int .u32 (v : Nat), .int .i64 7] w fun e w' => e = .returned (.bool (v.testBit 7)) ∧ w' = w := rhas_any v hv 7 (by decide) w
theorem rset_0 (v : Nat) (hv : v < 4294967296) (w : World) : Calls Tryd.prog 32 #[.int .u32 (v : Nat), .int .i64 0, .int .i64 1, .int .u32 1] w fun e w' => e = .returned (.int .u32 ((v ||| 1 : Nat) : Int)) ∧ Below w.heap.size w w' := by
  have h := refset_any v hv ((0 : Nat) : Int) 1 (by decide) (by decide) 1 (by decide) w
  rw [setV_or v 0 hv (by decide)] at h
  exact h
theorem rset_1 (v : Nat) (hv : v < 4294967296) (w : World) : Calls Tryd.prog 32 #[.int .u32 (v : Nat), .int .i64 1, .int .i64 1, .int .u32 1] w fun e w' => e = .returned (.int .u32 ((v ||| 2 : Nat) : Int)) ∧ Below w.heap.size w w' := by
  have h := refset_any v hv ((1 : Nat) : Int) 1 (by decide) (by decide) 1 (by decide) w
  rw [setV_or v 1 hv (by decide)] at h
  exact h
theorem rset_2 (v : Nat) (hv : v < 4294967296) (w : World) : Calls Tryd.prog 32 #[.int .u32 (v : Nat), .int .i64 2, .int .i64 1, .int .u32 1] w fun e w' => e = .returned (.int .u32 ((v ||| 4 : Nat) : Int)) ∧ Below w.heap.size w w' := by
  have h := refset_any v hv ((2 : Nat) : Int) 1 (by decide) (by decide) 1 (by decide) w
  rw [setV_or v 2 hv (by decide)] at h
  exact h
theorem rset_3 (v : Nat) (hv : v < 4294967296) (w : World) : Calls Tryd.prog 32 #[.int .u32 (v : Nat), .int .i64 3, .int .i64 1, .int .u32 1] w fun e w' => e = .returned (.int .u32 ((v ||| 8 : Nat) : Int)) ∧ Below w.heap.size w w' := by
  have h := refset_any v hv ((3 : Nat) : Int) 1 (by decide) (by decide) 1 (by decide) w
  rw [setV_or v 3 hv (by decide)] at h
  exact h
theorem rset_6 (v : Nat) (hv : v < 4294967296) (w : World) : Calls Tryd.prog 32 #[.int .u32 (v : Nat), .int .i64 6, .int .i64 1, .int .u32 1] w fun e w' => e = .returned (.int .u32 ((v ||| 64 : Nat) : Int)) ∧ Below w.heap.size w w' := by
  have h := refset_any v hv ((6 : Nat) : Int) 1 (by decide) (by decide) 1 (by decide) w
  rw [setV_or v 6 hv (by decide)] at h
  exact h
theorem rset_7 (v : Nat) (hv : v < 4294967296) (w : World) : Calls Tryd.prog 32 #[.int .u32 (v : Nat), .int .i64 7, .int .i64 1, .int .u32 1] w fun e w' => e = .returned (.int .u32 ((v ||| 128 : Nat) : Int)) ∧ Below w.heap.size w w' := by
  have h := refset_any v hv ((7 : Nat) : Int) 1 (by decide) (by decide) 1 (by decide) w
  rw [setV_or v 7 hv (by decide)] at h
  exact h
theorem rclr_0 (v : Nat) (hv : v < 4294967296) (w : World) : Calls Tryd.prog 32 #[.int .u32 (v : Nat), .int .i64 0, .int .i64 1, .int .u32 0] w fun e w' => e = .returned (.int .u32 (clrB v 0 : Nat)) ∧ Below w.heap.size w w' := refset_any v hv ((0 : Nat) : Int) 1 (by decide) (by decide) 0 (by decide) w
theorem rclr_1 (v : Nat) (hv : v < 4294967296) (w : World) : Calls Tryd.prog 32 #[.int .u32 (v : Nat), .int .i64 1, .int .i64 1, .int .u32 0] w fun e w' => e = .returned (.int .u32 (clrB v 1 : Nat)) ∧ Below w.heap.size w w' := refset_any v hv ((1 : Nat) : Int) 1 (by decide) (by decide) 0 (by decide) w
end Go.Proofs.YtahgacdkofmbmaaDoor
