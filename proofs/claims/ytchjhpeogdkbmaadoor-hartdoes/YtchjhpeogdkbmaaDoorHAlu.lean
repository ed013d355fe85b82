/-
  What alu.long and alu.Parts answer, as plain numbers.
-/
import Derived.Test.YtchjhpeogdkbmaaDoorBase
import Derived.Test.YtchjhpeogdkbmaaDoorHAluMath
import Derived.Deep.QuietTactic
import Derived.BigQuiet
namespace Go.Proofs.YtchjhpeogdkbmaaDoor
open Go.RowKit
set_option linter.unusedVariables false

theorem ret_int2 {k l : IntKind} {a b c d : Int} (h : a = b) (h2 : c = d) : Ending.returned (.tuple #[.int k a, .int l c]) = .returned (.tuple #[.int k b, .int l d]) := by rw [h, h2]

theorem wrap32_word (v : Nat) (hv : v < 4294967296) : wrap32 (v : Int) = sgn v := by
  unfold wrap32 sgn; split <;> omega

/-- A word in 64 bits, with its sign or without. -/
def longN (v : Nat) (s : Bool) : Nat := (aInt v s % 18446744073709551616).toNat
theorem longN_lt (v : Nat) (s : Bool) : longN v s < 18446744073709551616 := by
  unfold longN
  have h1 := Int.emod_nonneg (aInt v s) (show (18446744073709551616 : Int) ≠ 0 by decide)
  have h2 := Int.emod_lt_of_pos (aInt v s) (show (0 : Int) < 18446744073709551616 by decide)
  omega
theorem longN_cast (v : Nat) (s : Bool) : (longN v s : Int) = aInt v s % 18446744073709551616 := by
  unfold longN
  have h1 := Int.emod_nonneg (aInt v s) (show (18446744073709551616 : Int) ≠ 0 by decide)
  omega

set_option maxHeartbeats 400000 in
theorem long_any (v : Nat) (hv : v < 4294967296) (s : Bool) (w : World) :
    Calls Tryd.prog 107 #[.int .u32 v, .bool s] w fun e w' => e = .returned (.int .u64 (longN v s : Nat)) ∧ w' = w := by
  cases s
  · have HA : Hid ((v : Int) = (longN v false : Int)) := by show _ = _; rw [longN_cast]; unfold aInt; simp; omega
    generalize longN v false = z at *
    go_enter Tryd.func107, Tryd.ntmps107
    go_wp2
    go_ret
    exact ⟨ret_int HA.out, rfl⟩
  · have HA : Hid (IntKind.u64.wrap (wrap32 (v : Int)) = (longN v true : Int)) := by show _ = _; rw [longN_cast, wrap32_word v hv, IntKind.wrap_u64]; rfl
    generalize longN v true = z at *
    go_enter Tryd.func107, Tryd.ntmps107
    go_wp2
    go_ret
    exact ⟨ret_int HA.out, rfl⟩

theorem prod_long (a b : Nat) (sa sb : Bool) : (longN a sa : Int) * (longN b sb : Int) % 18446744073709551616 = (prodN a b sa sb : Int) := by
  rw [longN_cast, longN_cast, prod_wrapped]

set_option maxHeartbeats 400000 in
theorem parts_zero (a : Nat) (ha : a < 4294967296) (s : Bool) (w : World) :
    Calls Tryd.prog 106 #[.int .u32 a, .int .u32 0, .bool s] w fun e w' => e = .returned (.tuple #[.int .u32 4294967295, .int .u32 a]) ∧ ∃ n, w' = w.drewN n := by
  go_enter Tryd.func106, Tryd.ntmps106
  go_wp2
  go_ret2
  exact ⟨rfl, 0, rfl⟩

theorem quo_plain (a b : Nat) (ha : a < 4294967296) (h0 : 1 ≤ b) : (a : Int) / (b : Int) % 4294967296 = (quoN a b false : Int) := by
  unfold quoN
  rw [if_neg (by omega), wordOf_cast]
  rfl
theorem rem_plain (a b : Nat) (hb : b < 4294967296) (h0 : 1 ≤ b) : (a : Int) % (b : Int) = (remN a b false : Int) := by
  unfold remN
  rw [if_neg (by omega), wordOf_cast]
  show (a : Int) % (b : Int) = ((a % b : Nat) : Int) % 4294967296
  have := Nat.mod_lt a (show 0 < b by omega)
  rw [Int.natCast_emod, ← Int.natCast_emod]
  generalize a % b = r at *
  omega
theorem quo_signs (a b : Nat) (ha : a < 4294967296) (hb : b < 4294967296) (h0 : 1 ≤ b) : wrap32 ((wrap32 (a : Int)).tdiv (wrap32 (b : Int))) % 4294967296 = (quoN a b true : Int) := by
  unfold quoN
  rw [if_neg (by omega), wordOf_cast, wrap32_word a ha, wrap32_word b hb]
  show _ = (sgn a).tdiv (sgn b) % 4294967296
  generalize (sgn a).tdiv (sgn b) = q
  unfold wrap32
  omega
theorem rem_signs (a b : Nat) (ha : a < 4294967296) (hb : b < 4294967296) (h0 : 1 ≤ b) : (wrap32 (a : Int)).tmod (wrap32 (b : Int)) % 4294967296 = (remN a b true : Int) := by
  unfold remN
  rw [if_neg (by omega), wordOf_cast, wrap32_word a ha, wrap32_word b hb]
  rfl

set_option maxHeartbeats 400000 in
theorem parts_plain (a b : Nat) (ha : a < 4294967296) (hb : b < 4294967296) (h0 : 1 ≤ b) (w : World) :
    Calls Tryd.prog 106 #[.int .u32 a, .int .u32 b, .bool false] w fun e w' => e = .returned (.tuple #[.int .u32 (quoN a b false : Nat), .int .u32 (remN a b false : Nat)]) ∧ ∃ n, w' = w.drewN n := by
  go_enter Tryd.func106, Tryd.ntmps106
  go_wp2
  go_quiet (fail)
  go_wp2
  go_ret2
  exact ⟨ret_int2 (quo_plain a b ha h0) (rem_plain a b hb h0), nq, rfl⟩

set_option maxHeartbeats 400000 in
theorem parts_signs (a b : Nat) (ha : a < 4294967296) (hb : b < 4294967296) (h0 : 1 ≤ b) (w : World) :
    Calls Tryd.prog 106 #[.int .u32 a, .int .u32 b, .bool true] w fun e w' => e = .returned (.tuple #[.int .u32 (quoN a b true : Nat), .int .u32 (remN a b true : Nat)]) ∧ ∃ n, w' = w.drewN n := by
  have hz : wrap32 (b : Int) ≠ 0 := by rw [wrap32_word b hb]; exact fun h => (show b ≠ 0 by omega) ((asInt_zero b hb true).1 h)
  go_enter Tryd.func106, Tryd.ntmps106
  go_wp2
  go_quiet (fail)
  go_wp2
  go_ret2
  exact ⟨ret_int2 (quo_signs a b ha hb h0) (rem_signs a b ha hb h0), nq, rfl⟩

theorem parts_any (a b : Nat) (ha : a < 4294967296) (hb : b < 4294967296) (s : Bool) (w : World) :
    Calls Tryd.prog 106 #[.int .u32 a, .int .u32 b, .bool s] w fun e w' => e = .returned (.tuple #[.int .u32 (quoN a b s : Nat), .int .u32 (remN a b s : Nat)]) ∧ ∃ n, w' = w.drewN n := by
  by_cases h0 : b = 0
  · subst h0
    have e1 : quoN a 0 s = 4294967295 := by unfold quoN; rw [if_pos rfl]
    have e2 : remN a 0 s = a := by unfold remN; rw [if_pos rfl]
    rw [e1, e2]
    exact parts_zero a ha s w
  · cases s
    · exact parts_plain a b ha hb (by omega) w
    · exact parts_signs a b ha hb (by omega) w
end Go.Proofs.YtchjhpeogdkbmaaDoor
