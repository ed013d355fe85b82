/-
  What alu.Holds answers.
-/
import Derived.Test.YtchjhpeogdkbmaaDoorHAluDo
namespace Go.Proofs.YtchjhpeogdkbmaaDoor
open Go.RowKit
set_option linter.unusedVariables false

/-- Whether a condition holds, by its number. -/
def holdsN : Nat → Nat → Nat → Bool
  | 0, a, b => a == b
  | 1, a, b => a != b
  | 2, a, b => decide (sgn a < sgn b)
  | 3, a, b => !decide (sgn a < sgn b)
  | 4, a, b => decide (a < b)
  | _, a, b => decide (b ≤ a)

theorem ret_bool2 {a b : Bool} (h : a = b) : Ending.returned (.tuple #[.bool a, .nilIface]) = .returned (.tuple #[.bool b, .nilIface]) := by rw [h]

set_option maxHeartbeats 400000 in
theorem holds_0 (a b : Nat) (ha : a < 4294967296) (hb : b < 4294967296) (w : World) :
    Calls Tryd.prog 85 #[.int .i64 0, .int .u32 a, .int .u32 b] w fun e w' => e = .returned (.tuple #[.bool (holdsN 0 a b), .nilIface]) ∧ w' = w := by
  have HX : Hid (((a : Int) == (b : Int)) = holdsN 0 a b) := by show _ = _; rw [Bool.eq_iff_iff]; simp [holdsN]; omega
  generalize holdsN 0 a b = z at *
  go_enter Tryd.func85, Tryd.ntmps85
  go_wp2
  go_ret2
  exact ⟨ret_bool2 HX.out, rfl⟩

set_option maxHeartbeats 400000 in
theorem holds_1 (a b : Nat) (ha : a < 4294967296) (hb : b < 4294967296) (w : World) :
    Calls Tryd.prog 85 #[.int .i64 1, .int .u32 a, .int .u32 b] w fun e w' => e = .returned (.tuple #[.bool (holdsN 1 a b), .nilIface]) ∧ w' = w := by
  have HX : Hid (((a : Int) != (b : Int)) = holdsN 1 a b) := by show _ = _; rw [Bool.eq_iff_iff]; simp [holdsN]; omega
  generalize holdsN 1 a b = z at *
  go_enter Tryd.func85, Tryd.ntmps85
  go_wp2
  go_ret2
  exact ⟨ret_bool2 HX.out, rfl⟩

set_option maxHeartbeats 400000 in
theorem holds_2 (a b : Nat) (ha : a < 4294967296) (hb : b < 4294967296) (w : World) :
    Calls Tryd.prog 85 #[.int .i64 2, .int .u32 a, .int .u32 b] w fun e w' => e = .returned (.tuple #[.bool (holdsN 2 a b), .nilIface]) ∧ w' = w := by
  have HB := hide below_any
  go_enter Tryd.func85, Tryd.ntmps85
  go_wp2_with (first | (go_at_call 99; refine (HB.out _ _ (by assumption) (by assumption) _).mono ?_; rintro e w' ⟨rfl, rfl⟩))
  go_ret2
  exact ⟨rfl, rfl⟩

set_option maxHeartbeats 400000 in
theorem holds_3 (a b : Nat) (ha : a < 4294967296) (hb : b < 4294967296) (w : World) :
    Calls Tryd.prog 85 #[.int .i64 3, .int .u32 a, .int .u32 b] w fun e w' => e = .returned (.tuple #[.bool (holdsN 3 a b), .nilIface]) ∧ w' = w := by
  have HB := hide below_any
  go_enter Tryd.func85, Tryd.ntmps85
  go_wp2_with (first | (go_at_call 99; refine (HB.out _ _ (by assumption) (by assumption) _).mono ?_; rintro e w' ⟨rfl, rfl⟩))
  go_ret2
  exact ⟨rfl, rfl⟩

set_option maxHeartbeats 400000 in
theorem holds_4 (a b : Nat) (ha : a < 4294967296) (hb : b < 4294967296) (w : World) :
    Calls Tryd.prog 85 #[.int .i64 4, .int .u32 a, .int .u32 b] w fun e w' => e = .returned (.tuple #[.bool (holdsN 4 a b), .nilIface]) ∧ w' = w := by
  have HX : Hid ((decide (a < b)) = holdsN 4 a b) := by show _ = _; rfl
  generalize holdsN 4 a b = z at *
  go_enter Tryd.func85, Tryd.ntmps85
  go_wp2
  go_ret2
  exact ⟨ret_bool2 HX.out, rfl⟩

set_option maxHeartbeats 400000 in
theorem holds_5 (a b : Nat) (ha : a < 4294967296) (hb : b < 4294967296) (w : World) :
    Calls Tryd.prog 85 #[.int .i64 5, .int .u32 a, .int .u32 b] w fun e w' => e = .returned (.tuple #[.bool (holdsN 5 a b), .nilIface]) ∧ w' = w := by
  have HX : Hid ((decide (b ≤ a)) = holdsN 5 a b) := by show _ = _; rfl
  generalize holdsN 5 a b = z at *
  go_enter Tryd.func85, Tryd.ntmps85
  go_wp2
  go_ret2
  exact ⟨ret_bool2 HX.out, rfl⟩

theorem holds_any (k : Nat) (hk : k < 6) (a b : Nat) (ha : a < 4294967296) (hb : b < 4294967296) (x : Int) (hx : x = k) (w : World) :
    Calls Tryd.prog 85 #[.int .i64 x, .int .u32 a, .int .u32 b] w fun e w' => e = .returned (.tuple #[.bool (holdsN k a b), .nilIface]) ∧ w' = w := by
  subst hx
  match k, hk with
  | 0, _ => exact holds_0 a b ha hb w
  | 1, _ => exact holds_1 a b ha hb w
  | 2, _ => exact holds_2 a b ha hb w
  | 3, _ => exact holds_3 a b ha hb w
  | 4, _ => exact holds_4 a b ha hb w
  | 5, _ => exact holds_5 a b ha hb w
  | n + 6, h => exact absurd h (by omega)

set_option maxHeartbeats 1000000 in
theorem holds_bad (c : Int) (h : c < 0 ∨ 5 < c) (a b : Nat) (w : World) :
    Calls Tryd.prog 85 #[.int .i64 c, .int .u32 a, .int .u32 b] w fun e w' => e = .returned (.tuple #[.bool false, .iface 89 (.int .i64 1)]) ∧ w' = w := by
  rcases h with h | h
  all_goals
    go_enter Tryd.func85, Tryd.ntmps85
    go_wp2
    go_ret2
    exact ⟨rfl, rfl⟩

theorem holds_turn (a b j : Nat) (hj : j < 3) : holdsN (2 * j) a b = !holdsN (2 * j + 1) a b := by
  match j, hj with
  | 0, _ => simp [holdsN, bne]
  | 1, _ => simp [holdsN]
  | 2, _ => simp only [holdsN]; rw [Bool.eq_iff_iff]; simp
  | n + 3, h => exact absurd h (by omega)
end Go.Proofs.YtchjhpeogdkbmaaDoor
