/-
  What alu.Wide answers, as plain numbers.
-/
import Derived.Test.YtchjhpeogdkbmaaDoorHAlu
namespace Go.Proofs.YtchjhpeogdkbmaaDoor
open Go.RowKit
set_option linter.unusedVariables false

theorem prod_hi (a b : Nat) (sa sb : Bool) : IntKind.u64.wrap ((longN a sa : Int) * (longN b sb : Int)) / 4294967296 % 4294967296 = (hiN a b sa sb : Int) := by
  rw [IntKind.wrap_u64, prod_long]
  have h := hiN_lt a b sa sb
  unfold hiN at *
  omega
theorem prod_lo (a b : Nat) (sa sb : Bool) : IntKind.u64.wrap ((longN a sa : Int) * (longN b sb : Int)) % 4294967296 = (loN a b sa sb : Int) := by
  rw [IntKind.wrap_u64, prod_long]
  unfold loN
  omega

set_option maxHeartbeats 4000000 in
theorem wide_any (a b : Nat) (ha : a < 4294967296) (hb : b < 4294967296) (sa sb : Bool) (w : World) :
    Calls Tryd.prog 105 #[.int .u32 a, .int .u32 b, .bool sa, .bool sb] w fun e w' => e = .returned (.tuple #[.int .u32 (hiN a b sa sb : Nat), .int .u32 (loN a b sa sb : Nat)]) ∧ w' = w := by
  have HL := hide long_any
  have HI := hide (prod_hi a b sa sb)
  have HO := hide (prod_lo a b sa sb)
  go_enter Tryd.func105, Tryd.ntmps105
  go_wp2_with (first | (go_at_call 107; refine (HL.out _ (by assumption) _ _).mono ?_; rintro e w' ⟨rfl, rfl⟩))
  go_ret2
  exact ⟨ret_int2 HI.out HO.out, rfl⟩
end Go.Proofs.YtchjhpeogdkbmaaDoor
