/-
  What alu.Do answers, as plain numbers: moves, compares, gates.
-/
import Derived.Test.YtchjhpeogdkbmaaDoorHAluW
import Derived.Laws.BitsAllLaws
namespace Go.Proofs.YtchjhpeogdkbmaaDoor
open Go.RowKit
set_option linter.unusedVariables false

theorem low_five (b : Nat) (hb : b < 4294967296) : bits BinOp.and IntKind.u32 (b : Int) 31 = ((b % 32 : Nat) : Int) := by
  have := u32_and_nat b 31 hb (by decide)
  rw [show 31 = 2 ^ 5 - 1 by rfl, Nat.and_two_pow_sub_one_eq_mod] at this
  exact this
theorem ret_nil {k : IntKind} {a b : Int} (h : a = b) : Ending.returned (.tuple #[.int k a, .nilIface]) = .returned (.tuple #[.int k b, .nilIface]) := by rw [h]

set_option maxHeartbeats 400000 in
theorem sll_any (a n : Nat) (ha : a < 4294967296) (hn : n ≤ 31) (w : World) :
    Calls Tryd.prog 100 #[.int .i64 2, .int .u32 a, .int .u32 n] w fun e w' => e = .returned (.int .u32 (a * 2 ^ n % 4294967296 : Nat)) ∧ w' = w := by
  have HX : Hid ((a : Int) * 2 ^ n % 4294967296 = ((a * 2 ^ n % 4294967296 : Nat) : Int)) := by show _ = _; simp
  go_enter Tryd.func100, Tryd.ntmps100
  go_wp2
  go_ret
  exact ⟨ret_int HX.out, rfl⟩

set_option maxHeartbeats 400000 in
theorem srl_any (a n : Nat) (ha : a < 4294967296) (hn : n ≤ 31) (w : World) :
    Calls Tryd.prog 100 #[.int .i64 6, .int .u32 a, .int .u32 n] w fun e w' => e = .returned (.int .u32 (a / 2 ^ n : Nat)) ∧ w' = w := by
  have HX : Hid ((a : Int) / 2 ^ n = ((a / 2 ^ n : Nat) : Int)) := by show _ = _; simp
  go_enter Tryd.func100, Tryd.ntmps100
  go_wp2
  go_ret
  exact ⟨ret_int HX.out, rfl⟩

set_option maxHeartbeats 400000 in
theorem sra_any (a n : Nat) (ha : a < 4294967296) (hn : n ≤ 31) (w : World) :
    Calls Tryd.prog 100 #[.int .i64 7, .int .u32 a, .int .u32 n] w fun e w' => e = .returned (.int .u32 (aWrd (sgn a / 2 ^ n) : Nat)) ∧ w' = w := by
  have HX : Hid (wrap32 (a : Int) / 2 ^ n % 4294967296 = (aWrd (sgn a / 2 ^ n) : Int)) := by show _ = _; rw [wordN_cast, wrap32_word a ha]
  go_enter Tryd.func100, Tryd.ntmps100
  go_wp2
  go_ret
  exact ⟨ret_int HX.out, rfl⟩

set_option maxHeartbeats 400000 in
theorem below_any (a b : Nat) (ha : a < 4294967296) (hb : b < 4294967296) (w : World) :
    Calls Tryd.prog 99 #[.int .u32 a, .int .u32 b] w fun e w' => e = .returned (.bool (decide (sgn a < sgn b))) ∧ w' = w := by
  have e1 := hide (wrap32_word a ha)
  have e2 := hide (wrap32_word b hb)
  go_enter Tryd.func99, Tryd.ntmps99
  go_wp2
  go_ret
  refine ⟨?_, rfl⟩
  rw [← e1.out, ← e2.out]
  rfl

set_option maxHeartbeats 400000 in
theorem one_any (s : Bool) (w : World) :
    Calls Tryd.prog 101 #[.bool s] w fun e w' => e = .returned (.int .u32 (oneN s : Nat)) ∧ w' = w := by
  cases s
  all_goals
    go_enter Tryd.func101, Tryd.ntmps101
    go_wp2
    go_ret
    exact ⟨rfl, rfl⟩

set_option maxHeartbeats 400000 in
theorem product_10 (a b : Nat) (ha : a < 4294967296) (hb : b < 4294967296) (w : World) :
    Calls Tryd.prog 102 #[.int .i64 10, .int .u32 a, .int .u32 b] w fun e w' => e = .returned (.int .u32 (loN a b false false : Nat)) ∧ w' = w := by
  have HW := hide wide_any
  go_enter Tryd.func102, Tryd.ntmps102
  go_wp2_with (first | (go_at_call 105; refine (HW.out _ _ (by assumption) (by assumption) _ _ _).mono ?_; rintro e w' ⟨rfl, rfl⟩))
  go_ret
  exact ⟨rfl, rfl⟩

set_option maxHeartbeats 400000 in
theorem product_11 (a b : Nat) (ha : a < 4294967296) (hb : b < 4294967296) (w : World) :
    Calls Tryd.prog 102 #[.int .i64 11, .int .u32 a, .int .u32 b] w fun e w' => e = .returned (.int .u32 (hiN a b true true : Nat)) ∧ w' = w := by
  have HW := hide wide_any
  go_enter Tryd.func102, Tryd.ntmps102
  go_wp2_with (first | (go_at_call 105; refine (HW.out _ _ (by assumption) (by assumption) _ _ _).mono ?_; rintro e w' ⟨rfl, rfl⟩))
  go_ret
  exact ⟨rfl, rfl⟩

set_option maxHeartbeats 400000 in
theorem product_12 (a b : Nat) (ha : a < 4294967296) (hb : b < 4294967296) (w : World) :
    Calls Tryd.prog 102 #[.int .i64 12, .int .u32 a, .int .u32 b] w fun e w' => e = .returned (.int .u32 (hiN a b true false : Nat)) ∧ w' = w := by
  have HW := hide wide_any
  go_enter Tryd.func102, Tryd.ntmps102
  go_wp2_with (first | (go_at_call 105; refine (HW.out _ _ (by assumption) (by assumption) _ _ _).mono ?_; rintro e w' ⟨rfl, rfl⟩))
  go_ret
  exact ⟨rfl, rfl⟩

set_option maxHeartbeats 400000 in
theorem product_13 (a b : Nat) (ha : a < 4294967296) (hb : b < 4294967296) (w : World) :
    Calls Tryd.prog 102 #[.int .i64 13, .int .u32 a, .int .u32 b] w fun e w' => e = .returned (.int .u32 (hiN a b false false : Nat)) ∧ w' = w := by
  have HW := hide wide_any
  go_enter Tryd.func102, Tryd.ntmps102
  go_wp2_with (first | (go_at_call 105; refine (HW.out _ _ (by assumption) (by assumption) _ _ _).mono ?_; rintro e w' ⟨rfl, rfl⟩))
  go_ret
  exact ⟨rfl, rfl⟩

set_option maxHeartbeats 400000 in
theorem part_14 (a b : Nat) (ha : a < 4294967296) (hb : b < 4294967296) (w : World) :
    Calls Tryd.prog 103 #[.int .i64 14, .int .u32 a, .int .u32 b] w fun e w' => e = .returned (.int .u32 (quoN a b true : Nat)) ∧ ∃ n, w' = w.drewN n := by
  have HW := hide parts_any
  go_enter Tryd.func103, Tryd.ntmps103
  go_wp2_with (first | (go_at_call 106; refine (HW.out _ _ (by assumption) (by assumption) _ _).mono ?_; rintro e w' ⟨rfl, n, rfl⟩))
  go_ret
  exact ⟨rfl, n, rfl⟩

set_option maxHeartbeats 400000 in
theorem part_15 (a b : Nat) (ha : a < 4294967296) (hb : b < 4294967296) (w : World) :
    Calls Tryd.prog 103 #[.int .i64 15, .int .u32 a, .int .u32 b] w fun e w' => e = .returned (.int .u32 (quoN a b false : Nat)) ∧ ∃ n, w' = w.drewN n := by
  have HW := hide parts_any
  go_enter Tryd.func103, Tryd.ntmps103
  go_wp2_with (first | (go_at_call 106; refine (HW.out _ _ (by assumption) (by assumption) _ _).mono ?_; rintro e w' ⟨rfl, n, rfl⟩))
  go_ret
  exact ⟨rfl, n, rfl⟩

set_option maxHeartbeats 400000 in
theorem part_16 (a b : Nat) (ha : a < 4294967296) (hb : b < 4294967296) (w : World) :
    Calls Tryd.prog 103 #[.int .i64 16, .int .u32 a, .int .u32 b] w fun e w' => e = .returned (.int .u32 (remN a b true : Nat)) ∧ ∃ n, w' = w.drewN n := by
  have HW := hide parts_any
  go_enter Tryd.func103, Tryd.ntmps103
  go_wp2_with (first | (go_at_call 106; refine (HW.out _ _ (by assumption) (by assumption) _ _).mono ?_; rintro e w' ⟨rfl, n, rfl⟩))
  go_ret
  exact ⟨rfl, n, rfl⟩

set_option maxHeartbeats 400000 in
theorem part_17 (a b : Nat) (ha : a < 4294967296) (hb : b < 4294967296) (w : World) :
    Calls Tryd.prog 103 #[.int .i64 17, .int .u32 a, .int .u32 b] w fun e w' => e = .returned (.int .u32 (remN a b false : Nat)) ∧ ∃ n, w' = w.drewN n := by
  have HW := hide parts_any
  go_enter Tryd.func103, Tryd.ntmps103
  go_wp2_with (first | (go_at_call 106; refine (HW.out _ _ (by assumption) (by assumption) _ _).mono ?_; rintro e w' ⟨rfl, n, rfl⟩))
  go_ret
  exact ⟨rfl, n, rfl⟩

set_option maxHeartbeats 400000 in
theorem do_0 (a b : Nat) (ha : a < 4294967296) (hb : b < 4294967296) (w : World) :
    Calls Tryd.prog 86 #[.int .i64 0, .int .u32 a, .int .u32 b] w fun e w' => e = .returned (.tuple #[.int .u32 (doN 0 a b : Nat), .nilIface]) ∧ ∃ n, w' = w.drewN n := by
  have HX : Hid (((a : Int) + b) % 4294967296 = (doN 0 a b : Int)) := by show _ = _; simp [doN]
  generalize doN 0 a b = z at *
  go_enter Tryd.func86, Tryd.ntmps86
  go_wp2
  go_ret2
  exact ⟨ret_nil HX.out, 0, rfl⟩

set_option maxHeartbeats 400000 in
theorem do_1 (a b : Nat) (ha : a < 4294967296) (hb : b < 4294967296) (w : World) :
    Calls Tryd.prog 86 #[.int .i64 1, .int .u32 a, .int .u32 b] w fun e w' => e = .returned (.tuple #[.int .u32 (doN 1 a b : Nat), .nilIface]) ∧ ∃ n, w' = w.drewN n := by
  have HX : Hid (((a : Int) - b) % 4294967296 = (doN 1 a b : Int)) := by show _ = _; rw [← wordN_cast]; rfl
  generalize doN 1 a b = z at *
  go_enter Tryd.func86, Tryd.ntmps86
  go_wp2
  go_ret2
  exact ⟨ret_nil HX.out, 0, rfl⟩

set_option maxHeartbeats 400000 in
theorem do_2 (a b : Nat) (ha : a < 4294967296) (hb : b < 4294967296) (w : World) :
    Calls Tryd.prog 86 #[.int .i64 2, .int .u32 a, .int .u32 b] w fun e w' => e = .returned (.tuple #[.int .u32 (doN 2 a b : Nat), .nilIface]) ∧ ∃ n, w' = w.drewN n := by
  have HM := hide (fun (a n : Nat) (ha : a < 4294967296) (hn : n ≤ 31) (x : Int) (hx : x = n) (w : World) => (hx ▸ sll_any a n ha hn w : Calls Tryd.prog 100 #[.int .i64 2, .int .u32 a, .int .u32 x] w fun e w' => e = .returned (.int .u32 (a * 2 ^ n % 4294967296 : Nat)) ∧ w' = w))
  have HX := hide (low_five b hb)
  have hn : b % 32 ≤ 31 := by omega
  go_enter Tryd.func86, Tryd.ntmps86
  go_wp2_with (first | (go_at_call 100; refine (HM.out a (b % 32) (by assumption) (by assumption) _ HX.out _).mono ?_; rintro e w' ⟨rfl, rfl⟩))
  go_ret2
  exact ⟨rfl, 0, rfl⟩

set_option maxHeartbeats 400000 in
theorem do_3 (a b : Nat) (ha : a < 4294967296) (hb : b < 4294967296) (w : World) :
    Calls Tryd.prog 86 #[.int .i64 3, .int .u32 a, .int .u32 b] w fun e w' => e = .returned (.tuple #[.int .u32 (doN 3 a b : Nat), .nilIface]) ∧ ∃ n, w' = w.drewN n := by
  have HB := hide below_any
  have HO := hide one_any
  have HX : Hid ((oneN (decide (sgn a < sgn b)) : Int) = (doN 3 a b : Int)) := by show _ = _; rfl
  generalize doN 3 a b = z at *
  go_enter Tryd.func86, Tryd.ntmps86
  go_wp2_with (first | (go_at_call 99; refine (HB.out _ _ (by assumption) (by assumption) _).mono ?_; rintro e w' ⟨rfl, rfl⟩) | (go_at_call 101; refine (HO.out _ _).mono ?_; rintro e w' ⟨rfl, rfl⟩))
  go_ret2
  exact ⟨ret_nil HX.out, 0, rfl⟩

set_option maxHeartbeats 400000 in
theorem do_4 (a b : Nat) (ha : a < 4294967296) (hb : b < 4294967296) (w : World) :
    Calls Tryd.prog 86 #[.int .i64 4, .int .u32 a, .int .u32 b] w fun e w' => e = .returned (.tuple #[.int .u32 (doN 4 a b : Nat), .nilIface]) ∧ ∃ n, w' = w.drewN n := by
  have HO := hide one_any
  have HX : Hid ((oneN (decide (a < b)) : Int) = (doN 4 a b : Int)) := by show _ = _; rfl
  generalize doN 4 a b = z at *
  go_enter Tryd.func86, Tryd.ntmps86
  go_wp2_with (first | (go_at_call 101; refine (HO.out _ _).mono ?_; rintro e w' ⟨rfl, rfl⟩))
  go_ret2
  exact ⟨ret_nil HX.out, 0, rfl⟩

set_option maxHeartbeats 400000 in
theorem do_5 (a b : Nat) (ha : a < 4294967296) (hb : b < 4294967296) (w : World) :
    Calls Tryd.prog 86 #[.int .i64 5, .int .u32 a, .int .u32 b] w fun e w' => e = .returned (.tuple #[.int .u32 (doN 5 a b : Nat), .nilIface]) ∧ ∃ n, w' = w.drewN n := by
  have HX : Hid (bits BinOp.xor IntKind.u32 (a : Int) (b : Int) = (doN 5 a b : Int)) := by show _ = _; rw [u32_xor_nat a b ha hb]; rfl
  generalize doN 5 a b = z at *
  go_enter Tryd.func86, Tryd.ntmps86
  go_wp2
  go_ret2
  exact ⟨ret_nil HX.out, 0, rfl⟩

set_option maxHeartbeats 400000 in
theorem do_6 (a b : Nat) (ha : a < 4294967296) (hb : b < 4294967296) (w : World) :
    Calls Tryd.prog 86 #[.int .i64 6, .int .u32 a, .int .u32 b] w fun e w' => e = .returned (.tuple #[.int .u32 (doN 6 a b : Nat), .nilIface]) ∧ ∃ n, w' = w.drewN n := by
  have HM := hide (fun (a n : Nat) (ha : a < 4294967296) (hn : n ≤ 31) (x : Int) (hx : x = n) (w : World) => (hx ▸ srl_any a n ha hn w : Calls Tryd.prog 100 #[.int .i64 6, .int .u32 a, .int .u32 x] w fun e w' => e = .returned (.int .u32 (a / 2 ^ n : Nat)) ∧ w' = w))
  have HX := hide (low_five b hb)
  have hn : b % 32 ≤ 31 := by omega
  go_enter Tryd.func86, Tryd.ntmps86
  go_wp2_with (first | (go_at_call 100; refine (HM.out a (b % 32) (by assumption) (by assumption) _ HX.out _).mono ?_; rintro e w' ⟨rfl, rfl⟩))
  go_ret2
  exact ⟨rfl, 0, rfl⟩

set_option maxHeartbeats 400000 in
theorem do_7 (a b : Nat) (ha : a < 4294967296) (hb : b < 4294967296) (w : World) :
    Calls Tryd.prog 86 #[.int .i64 7, .int .u32 a, .int .u32 b] w fun e w' => e = .returned (.tuple #[.int .u32 (doN 7 a b : Nat), .nilIface]) ∧ ∃ n, w' = w.drewN n := by
  have HM := hide (fun (a n : Nat) (ha : a < 4294967296) (hn : n ≤ 31) (x : Int) (hx : x = n) (w : World) => (hx ▸ sra_any a n ha hn w : Calls Tryd.prog 100 #[.int .i64 7, .int .u32 a, .int .u32 x] w fun e w' => e = .returned (.int .u32 (aWrd (sgn a / 2 ^ n) : Nat)) ∧ w' = w))
  have HX := hide (low_five b hb)
  have hn : b % 32 ≤ 31 := by omega
  go_enter Tryd.func86, Tryd.ntmps86
  go_wp2_with (first | (go_at_call 100; refine (HM.out a (b % 32) (by assumption) (by assumption) _ HX.out _).mono ?_; rintro e w' ⟨rfl, rfl⟩))
  go_ret2
  exact ⟨rfl, 0, rfl⟩

set_option maxHeartbeats 400000 in
theorem do_8 (a b : Nat) (ha : a < 4294967296) (hb : b < 4294967296) (w : World) :
    Calls Tryd.prog 86 #[.int .i64 8, .int .u32 a, .int .u32 b] w fun e w' => e = .returned (.tuple #[.int .u32 (doN 8 a b : Nat), .nilIface]) ∧ ∃ n, w' = w.drewN n := by
  have HX : Hid (bits BinOp.or IntKind.u32 (a : Int) (b : Int) = (doN 8 a b : Int)) := by show _ = _; rw [u32_or_nat a b ha hb]; rfl
  generalize doN 8 a b = z at *
  go_enter Tryd.func86, Tryd.ntmps86
  go_wp2
  go_ret2
  exact ⟨ret_nil HX.out, 0, rfl⟩

set_option maxHeartbeats 400000 in
theorem do_9 (a b : Nat) (ha : a < 4294967296) (hb : b < 4294967296) (w : World) :
    Calls Tryd.prog 86 #[.int .i64 9, .int .u32 a, .int .u32 b] w fun e w' => e = .returned (.tuple #[.int .u32 (doN 9 a b : Nat), .nilIface]) ∧ ∃ n, w' = w.drewN n := by
  have HX : Hid (bits BinOp.and IntKind.u32 (a : Int) (b : Int) = (doN 9 a b : Int)) := by show _ = _; rw [u32_and_nat a b ha hb]; rfl
  generalize doN 9 a b = z at *
  go_enter Tryd.func86, Tryd.ntmps86
  go_wp2
  go_ret2
  exact ⟨ret_nil HX.out, 0, rfl⟩

set_option maxHeartbeats 400000 in
theorem do_10 (a b : Nat) (ha : a < 4294967296) (hb : b < 4294967296) (w : World) :
    Calls Tryd.prog 86 #[.int .i64 10, .int .u32 a, .int .u32 b] w fun e w' => e = .returned (.tuple #[.int .u32 (doN 10 a b : Nat), .nilIface]) ∧ ∃ n, w' = w.drewN n := by
  have HM := hide product_10
  go_enter Tryd.func86, Tryd.ntmps86
  go_wp2_with (first | (go_at_call 102; refine (HM.out _ _ (by assumption) (by assumption) _).mono ?_; rintro e w' ⟨rfl, rfl⟩))
  go_ret2
  exact ⟨rfl, 0, rfl⟩

set_option maxHeartbeats 400000 in
theorem do_11 (a b : Nat) (ha : a < 4294967296) (hb : b < 4294967296) (w : World) :
    Calls Tryd.prog 86 #[.int .i64 11, .int .u32 a, .int .u32 b] w fun e w' => e = .returned (.tuple #[.int .u32 (doN 11 a b : Nat), .nilIface]) ∧ ∃ n, w' = w.drewN n := by
  have HM := hide product_11
  go_enter Tryd.func86, Tryd.ntmps86
  go_wp2_with (first | (go_at_call 102; refine (HM.out _ _ (by assumption) (by assumption) _).mono ?_; rintro e w' ⟨rfl, rfl⟩))
  go_ret2
  exact ⟨rfl, 0, rfl⟩

set_option maxHeartbeats 400000 in
theorem do_12 (a b : Nat) (ha : a < 4294967296) (hb : b < 4294967296) (w : World) :
    Calls Tryd.prog 86 #[.int .i64 12, .int .u32 a, .int .u32 b] w fun e w' => e = .returned (.tuple #[.int .u32 (doN 12 a b : Nat), .nilIface]) ∧ ∃ n, w' = w.drewN n := by
  have HM := hide product_12
  go_enter Tryd.func86, Tryd.ntmps86
  go_wp2_with (first | (go_at_call 102; refine (HM.out _ _ (by assumption) (by assumption) _).mono ?_; rintro e w' ⟨rfl, rfl⟩))
  go_ret2
  exact ⟨rfl, 0, rfl⟩

set_option maxHeartbeats 400000 in
theorem do_13 (a b : Nat) (ha : a < 4294967296) (hb : b < 4294967296) (w : World) :
    Calls Tryd.prog 86 #[.int .i64 13, .int .u32 a, .int .u32 b] w fun e w' => e = .returned (.tuple #[.int .u32 (doN 13 a b : Nat), .nilIface]) ∧ ∃ n, w' = w.drewN n := by
  have HM := hide product_13
  go_enter Tryd.func86, Tryd.ntmps86
  go_wp2_with (first | (go_at_call 102; refine (HM.out _ _ (by assumption) (by assumption) _).mono ?_; rintro e w' ⟨rfl, rfl⟩))
  go_ret2
  exact ⟨rfl, 0, rfl⟩

set_option maxHeartbeats 400000 in
theorem do_14 (a b : Nat) (ha : a < 4294967296) (hb : b < 4294967296) (w : World) :
    Calls Tryd.prog 86 #[.int .i64 14, .int .u32 a, .int .u32 b] w fun e w' => e = .returned (.tuple #[.int .u32 (doN 14 a b : Nat), .nilIface]) ∧ ∃ n, w' = w.drewN n := by
  have HM := hide part_14
  go_enter Tryd.func86, Tryd.ntmps86
  go_wp2_with (first | (go_at_call 103; refine (HM.out _ _ (by assumption) (by assumption) _).mono ?_; rintro e w' ⟨rfl, n, rfl⟩))
  go_ret2
  exact ⟨rfl, n, rfl⟩

set_option maxHeartbeats 400000 in
theorem do_15 (a b : Nat) (ha : a < 4294967296) (hb : b < 4294967296) (w : World) :
    Calls Tryd.prog 86 #[.int .i64 15, .int .u32 a, .int .u32 b] w fun e w' => e = .returned (.tuple #[.int .u32 (doN 15 a b : Nat), .nilIface]) ∧ ∃ n, w' = w.drewN n := by
  have HM := hide part_15
  go_enter Tryd.func86, Tryd.ntmps86
  go_wp2_with (first | (go_at_call 103; refine (HM.out _ _ (by assumption) (by assumption) _).mono ?_; rintro e w' ⟨rfl, n, rfl⟩))
  go_ret2
  exact ⟨rfl, n, rfl⟩

set_option maxHeartbeats 400000 in
theorem do_16 (a b : Nat) (ha : a < 4294967296) (hb : b < 4294967296) (w : World) :
    Calls Tryd.prog 86 #[.int .i64 16, .int .u32 a, .int .u32 b] w fun e w' => e = .returned (.tuple #[.int .u32 (doN 16 a b : Nat), .nilIface]) ∧ ∃ n, w' = w.drewN n := by
  have HM := hide part_16
  go_enter Tryd.func86, Tryd.ntmps86
  go_wp2_with (first | (go_at_call 103; refine (HM.out _ _ (by assumption) (by assumption) _).mono ?_; rintro e w' ⟨rfl, n, rfl⟩))
  go_ret2
  exact ⟨rfl, n, rfl⟩

set_option maxHeartbeats 400000 in
theorem do_17 (a b : Nat) (ha : a < 4294967296) (hb : b < 4294967296) (w : World) :
    Calls Tryd.prog 86 #[.int .i64 17, .int .u32 a, .int .u32 b] w fun e w' => e = .returned (.tuple #[.int .u32 (doN 17 a b : Nat), .nilIface]) ∧ ∃ n, w' = w.drewN n := by
  have HM := hide part_17
  go_enter Tryd.func86, Tryd.ntmps86
  go_wp2_with (first | (go_at_call 103; refine (HM.out _ _ (by assumption) (by assumption) _).mono ?_; rintro e w' ⟨rfl, n, rfl⟩))
  go_ret2
  exact ⟨rfl, n, rfl⟩

theorem do_any (op : Nat) (hop : op < 18) (a b : Nat) (ha : a < 4294967296) (hb : b < 4294967296) (w : World) :
    Calls Tryd.prog 86 #[.int .i64 (op : Nat), .int .u32 a, .int .u32 b] w fun e w' => e = .returned (.tuple #[.int .u32 (doN op a b : Nat), .nilIface]) ∧ ∃ n, w' = w.drewN n :=
  match op, hop with
  | 0, _ => do_0 a b ha hb w
  | 1, _ => do_1 a b ha hb w
  | 2, _ => do_2 a b ha hb w
  | 3, _ => do_3 a b ha hb w
  | 4, _ => do_4 a b ha hb w
  | 5, _ => do_5 a b ha hb w
  | 6, _ => do_6 a b ha hb w
  | 7, _ => do_7 a b ha hb w
  | 8, _ => do_8 a b ha hb w
  | 9, _ => do_9 a b ha hb w
  | 10, _ => do_10 a b ha hb w
  | 11, _ => do_11 a b ha hb w
  | 12, _ => do_12 a b ha hb w
  | 13, _ => do_13 a b ha hb w
  | 14, _ => do_14 a b ha hb w
  | 15, _ => do_15 a b ha hb w
  | 16, _ => do_16 a b ha hb w
  | 17, _ => do_17 a b ha hb w
  | n + 18, h => absurd h (by omega)

set_option maxHeartbeats 1000000 in
theorem do_bad (op : Int) (h : op < 0 ∨ 17 < op) (a b : Nat) (w : World) :
    Calls Tryd.prog 86 #[.int .i64 op, .int .u32 a, .int .u32 b] w fun e w' => e = .returned (.tuple #[.int .u32 0, .iface 89 (.int .i64 1)]) ∧ w' = w := by
  rcases h with h | h
  all_goals
    go_enter Tryd.func86, Tryd.ntmps86
    go_wp2
    go_ret2
    exact ⟨rfl, rfl⟩
end Go.Proofs.YtchjhpeogdkbmaaDoor
