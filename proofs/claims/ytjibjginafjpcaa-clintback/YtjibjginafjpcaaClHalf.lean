/-
  What clint.low, high, join answer.
-/
import Derived.Test.YtjibjginafjpcaaClRow
namespace Go.Proofs.Ytjibjginafjpcaa
open Go.RowKit
set_option linter.unusedVariables false

theorem low_any (n : Nat) (w : World) :
    Calls Try.prog 16 #[.int .u64 n] w fun e w' => e = .returned (.int .u32 (lowN n : Nat)) ∧ w' = w := by
  go_enter Try.func16, Try.ntmps16
  go_wp2
  go_ret
  exact ⟨ret_int (by unfold lowN; omega), rfl⟩
theorem high_any (n : Nat) (hn : n < 18446744073709551616) (w : World) :
    Calls Try.prog 15 #[.int .u64 n] w fun e w' => e = .returned (.int .u32 (highN n : Nat)) ∧ w' = w := by
  go_enter Try.func15, Try.ntmps15
  go_wp2
  go_ret
  exact ⟨ret_int (by unfold highN; omega), rfl⟩
theorem or_join (h l : Nat) (hh : h < 4294967296) (hl : l < 4294967296) : bits .or .u64 ((h : Int) * 4294967296) (l : Int) = ((joinN h l : Nat) : Int) := by
  have := u64_or_nat (h * 4294967296) l (by omega) (by omega)
  have e : h * 4294967296 ||| l = joinN h l := by
    unfold joinN
    rw [Nat.mul_comm]
    exact (Nat.two_pow_add_eq_or_of_lt (i := 32) hl h).symm
  rw [e] at this
  rw [← this]
  congr 1
theorem join_any (h l : Nat) (hh : h < 4294967296) (hl : l < 4294967296) (w : World) :
    Calls Try.prog 14 #[.int .u32 h, .int .u32 l] w fun e w' => e = .returned (.int .u64 (joinN h l : Nat)) ∧ w' = w := by
  go_enter Try.func14, Try.ntmps14
  go_wp2
  go_ret
  exact ⟨ret_int (or_join h l hh hl), rfl⟩
end Go.Proofs.Ytjibjginafjpcaa
