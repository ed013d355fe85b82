/-
  What the document's Do answers, as plain numbers.
-/
import Derived.Test.YtcojghmanpcedaaDoorAluRG
import Derived.Test.YtcojghmanpcedaaDoorAluRP
namespace Go.Proofs.YtcojghmanpcedaaDoor
open Go.RowKit
set_option linter.unusedVariables false

theorem ret_zero {k : IntKind} {a b : Int} (h : a = b) : Ending.returned (.tuple #[.int k a, .int .i64 0]) = .returned (.tuple #[.int k b, .int .i64 0]) := by rw [h]

theorem pow_le31 (k : Nat) (h : k ≤ 31) : 2 ^ k ≤ 2147483648 := Nat.pow_le_pow_right (n := 2) (by decide) h
theorem pow_one (k : Nat) : 1 ≤ 2 ^ k := Nat.pow_pos (by decide)

theorem mod_at (n : Nat) (hn : n ≤ 31) : (4294967296 : Int) / ((2 ^ n : Nat) : Int) = ((2 ^ (32 - n) : Nat) : Int) := by
  have e : (4294967296 : Nat) = 2 ^ (32 - n) * 2 ^ n := by rw [← Nat.pow_add, show 32 - n + n = 32 by omega]
  have h : 4294967296 / 2 ^ n = 2 ^ (32 - n) := by rw [e]; exact Nat.mul_div_cancel _ (Nat.pow_pos (by decide))
  rw [← h]; rfl

/-- Moved higher, the document's way. -/
theorem sll_doc (a b : Nat) : (a : Int) % (4294967296 / ((2 ^ (b % 32) : Nat) : Int)) * ((2 ^ (b % 32) : Nat) : Int) = (doN 2 a b : Int) := by
  rw [mod_at _ (by omega)]
  have e : (4294967296 : Nat) = 2 ^ (32 - b % 32) * 2 ^ (b % 32) := by rw [← Nat.pow_add, show 32 - b % 32 + b % 32 = 32 by omega]
  show _ = ((a * 2 ^ (b % 32) % 4294967296 : Nat) : Int)
  rw [e, Nat.mul_mod_mul_right]
  rfl

theorem div_lo (x : Int) (P : Nat) (hP : 1 ≤ P) (hx : -2147483648 ≤ x) : -2147483648 ≤ x / (P : Int) := by
  rw [Int.le_ediv_iff_mul_le (by omega)]; omega
theorem div_hi (x : Int) (P : Nat) (hP : 1 ≤ P) (hx : x < 2147483648) : x / (P : Int) < 2147483648 := by
  rw [Int.ediv_lt_iff_lt_mul (by omega)]; omega

/-- Moved lower with the sign, the document's way. -/
theorem sra_doc (x : Int) (P : Nat) (hP : 1 ≤ P) (hx : x < 0) : -((-x + P - 1) / (P : Int)) = x / (P : Int) := by
  obtain ⟨m, r, hr0, hr1, e⟩ : ∃ m r : Int, 0 ≤ r ∧ r < P ∧ x = P * m + r := ⟨x / P, x % P, Int.emod_nonneg _ (by omega), Int.emod_lt_of_pos _ (by omega), (Int.mul_ediv_add_emod x P).symm⟩
  have e1 : x / (P : Int) = m := by
    rw [e, Int.add_comm, Int.add_mul_ediv_left _ _ (by omega), Int.ediv_eq_zero_of_lt hr0 hr1]; omega
  have e2 : (-x + P - 1) / (P : Int) = -m := by
    have : -x + P - 1 = (P - 1 - r) + P * (-m) := by rw [e, Int.mul_neg]; omega
    rw [this, Int.add_mul_ediv_left _ _ (by omega), Int.ediv_eq_zero_of_lt (by omega) (by omega)]; omega
  rw [e1, e2]; omega

set_option maxHeartbeats 1000000 in
theorem refdo_0 (a b : Nat) (ha : a < 4294967296) (hb : b < 4294967296) (w : World) :
    Calls Tryd.prog 6 #[.int .i64 0, .int .u32 a, .int .u32 b] w fun e w' => e = .returned (.tuple #[.int .u32 (doN 0 a b : Nat), .int .i64 0]) ∧ w' = w := by
  have HW := hide refwide_any
  have HP := hide refparts_any
  have HWd := hide word_any
  have HX : Hid (((wordN ((a : Int) + (b : Int)) : Nat) : Int) = (doN 0 a b : Int)) := by show _ = _; rw [wordN_cast]; rfl
  go_enter Tryd.func6, Tryd.ntmps6
  go_wp2
  have hn : b % 32 ≤ 31 := by omega
  go_loop [9, 10] (fun p i => ∃ k : Nat, k ≤ b % 32 ∧ i = .int .i64 k ∧ p = .int .i64 ((2 ^ k : Nat) : Int)) (fun _ i => b % 32 - (intOf i).toNat)
  case atStart => exact ⟨0, Nat.zero_le _, rfl, rfl⟩
  case round =>
    obtain ⟨k, hk, rfl, rfl⟩ := hrel
    have hp := pow_le31 k (by omega)
    have hp1 := pow_one k
    by_cases hlt : k < b % 32
    · have HS : Hid (2 ^ k * 2 = 2 ^ (k + 1)) := by show _ = _; rw [← Nat.pow_succ]
      generalize 2 ^ k = p at *
      go_wp2
      refine ⟨⟨k + 1, by omega, rfl, ?_⟩, by simp [intOf]; omega⟩
      rw [← HS.out]; go_num
    · obtain rfl : k = b % 32 := by omega
      generalize 2 ^ (b % 32) = P at *
      go_wp2_with (first | (go_at_call 16; refine (HW.out _ _ (by assumption) (by assumption) _ _ _).mono ?_; rintro e w1 ⟨rfl, rfl⟩) | (go_at_call 17; refine (HP.out _ _ (by assumption) (by assumption) _ _).mono ?_; rintro e w2 ⟨rfl, rfl⟩) | (go_at_call 18; refine (HWd.out _ (by first | assumption | omega) (by first | assumption | omega) _).mono ?_; rintro e w3 ⟨rfl, rfl⟩))
      go_ret2
      exact ⟨ret_zero HX.out, rfl⟩
set_option maxHeartbeats 1000000 in
theorem refdo_1 (a b : Nat) (ha : a < 4294967296) (hb : b < 4294967296) (w : World) :
    Calls Tryd.prog 6 #[.int .i64 1, .int .u32 a, .int .u32 b] w fun e w' => e = .returned (.tuple #[.int .u32 (doN 1 a b : Nat), .int .i64 0]) ∧ w' = w := by
  have HW := hide refwide_any
  have HP := hide refparts_any
  have HWd := hide word_any
  go_enter Tryd.func6, Tryd.ntmps6
  go_wp2
  have hn : b % 32 ≤ 31 := by omega
  go_loop [9, 10] (fun p i => ∃ k : Nat, k ≤ b % 32 ∧ i = .int .i64 k ∧ p = .int .i64 ((2 ^ k : Nat) : Int)) (fun _ i => b % 32 - (intOf i).toNat)
  case atStart => exact ⟨0, Nat.zero_le _, rfl, rfl⟩
  case round =>
    obtain ⟨k, hk, rfl, rfl⟩ := hrel
    have hp := pow_le31 k (by omega)
    have hp1 := pow_one k
    by_cases hlt : k < b % 32
    · have HS : Hid (2 ^ k * 2 = 2 ^ (k + 1)) := by show _ = _; rw [← Nat.pow_succ]
      generalize 2 ^ k = p at *
      go_wp2
      refine ⟨⟨k + 1, by omega, rfl, ?_⟩, by simp [intOf]; omega⟩
      rw [← HS.out]; go_num
    · obtain rfl : k = b % 32 := by omega
      generalize 2 ^ (b % 32) = P at *
      go_wp2_with (first | (go_at_call 16; refine (HW.out _ _ (by assumption) (by assumption) _ _ _).mono ?_; rintro e w1 ⟨rfl, rfl⟩) | (go_at_call 17; refine (HP.out _ _ (by assumption) (by assumption) _ _).mono ?_; rintro e w2 ⟨rfl, rfl⟩) | (go_at_call 18; refine (HWd.out _ (by first | assumption | omega) (by first | assumption | omega) _).mono ?_; rintro e w3 ⟨rfl, rfl⟩))
      go_ret2
      exact ⟨rfl, rfl⟩
set_option maxHeartbeats 1000000 in
theorem refdo_2 (a b : Nat) (ha : a < 4294967296) (hb : b < 4294967296) (w : World) :
    Calls Tryd.prog 6 #[.int .i64 2, .int .u32 a, .int .u32 b] w fun e w' => e = .returned (.tuple #[.int .u32 (doN 2 a b : Nat), .int .i64 0]) ∧ w' = w := by
  have HW := hide refwide_any
  have HP := hide refparts_any
  have HWd := hide word_any
  have hd := sll_doc a b
  have hz : doN 2 a b < 4294967296 := Nat.mod_lt _ (by decide)
  have HX : Hid ((wordN (doN 2 a b : Int) : Int) = (doN 2 a b : Int)) := by show _ = _; rw [wordN_cast]; omega
  have hq : ¬ ((4294967296 : Int) / ((2 ^ (b % 32) : Nat) : Int) = 0) := by rw [mod_at _ (by omega)]; have := pow_one (32 - b % 32); omega
  generalize doN 2 a b = z at *
  go_enter Tryd.func6, Tryd.ntmps6
  go_wp2
  have hn : b % 32 ≤ 31 := by omega
  go_loop [9, 10] (fun p i => ∃ k : Nat, k ≤ b % 32 ∧ i = .int .i64 k ∧ p = .int .i64 ((2 ^ k : Nat) : Int)) (fun _ i => b % 32 - (intOf i).toNat)
  case atStart => exact ⟨0, Nat.zero_le _, rfl, rfl⟩
  case round =>
    obtain ⟨k, hk, rfl, rfl⟩ := hrel
    have hp := pow_le31 k (by omega)
    have hp1 := pow_one k
    by_cases hlt : k < b % 32
    · have HS : Hid (2 ^ k * 2 = 2 ^ (k + 1)) := by show _ = _; rw [← Nat.pow_succ]
      generalize 2 ^ k = p at *
      go_wp2
      refine ⟨⟨k + 1, by omega, rfl, ?_⟩, by simp [intOf]; omega⟩
      rw [← HS.out]; go_num
    · obtain rfl : k = b % 32 := by omega
      generalize 2 ^ (b % 32) = P at *
      go_wp2_with (first | (go_at_call 16; refine (HW.out _ _ (by assumption) (by assumption) _ _ _).mono ?_; rintro e w1 ⟨rfl, rfl⟩) | (go_at_call 17; refine (HP.out _ _ (by assumption) (by assumption) _ _).mono ?_; rintro e w2 ⟨rfl, rfl⟩) | (go_at_call 18; refine (HWd.out _ (by first | assumption | omega) (by first | assumption | omega) _).mono ?_; rintro e w3 ⟨rfl, rfl⟩))
      go_ret2
      exact ⟨ret_zero HX.out, rfl⟩
set_option maxHeartbeats 1000000 in
theorem refdo_3 (a b : Nat) (ha : a < 4294967296) (hb : b < 4294967296) (w : World) :
    Calls Tryd.prog 6 #[.int .i64 3, .int .u32 a, .int .u32 b] w fun e w' => e = .returned (.tuple #[.int .u32 (doN 3 a b : Nat), .int .i64 0]) ∧ w' = w := by
  have HW := hide refwide_any
  have HP := hide refparts_any
  have HG := hide (fun (v : Nat) (hv : v < 4294967296) (x : Int) (hx : sgn v = x) (w : World) => (hx ▸ signed_any v hv w : Calls Tryd.prog 20 #[.int .u32 v] w fun e w' => e = .returned (.int .i64 x) ∧ w' = w))
  have HT := hide truth_any
  obtain ⟨x, hx⟩ : ∃ x, sgn a = x := ⟨_, rfl⟩
  obtain ⟨y, hy⟩ : ∃ y, sgn b = y := ⟨_, rfl⟩
  have HX : Hid (((oneN (decide (x < y)) : Nat) : Int) = (doN 3 a b : Int)) := by show _ = _; rw [← hx, ← hy]; rfl
  go_enter Tryd.func6, Tryd.ntmps6
  go_wp2
  have hn : b % 32 ≤ 31 := by omega
  go_loop [9, 10] (fun p i => ∃ k : Nat, k ≤ b % 32 ∧ i = .int .i64 k ∧ p = .int .i64 ((2 ^ k : Nat) : Int)) (fun _ i => b % 32 - (intOf i).toNat)
  case atStart => exact ⟨0, Nat.zero_le _, rfl, rfl⟩
  case round =>
    obtain ⟨k, hk, rfl, rfl⟩ := hrel
    have hp := pow_le31 k (by omega)
    have hp1 := pow_one k
    by_cases hlt : k < b % 32
    · have HS : Hid (2 ^ k * 2 = 2 ^ (k + 1)) := by show _ = _; rw [← Nat.pow_succ]
      generalize 2 ^ k = p at *
      go_wp2
      refine ⟨⟨k + 1, by omega, rfl, ?_⟩, by simp [intOf]; omega⟩
      rw [← HS.out]; go_num
    · obtain rfl : k = b % 32 := by omega
      generalize 2 ^ (b % 32) = P at *
      go_wp2_with (first | (go_at_call 16; refine (HW.out _ _ (by assumption) (by assumption) _ _ _).mono ?_; rintro e w1 ⟨rfl, rfl⟩) | (go_at_call 17; refine (HP.out _ _ (by assumption) (by assumption) _ _).mono ?_; rintro e w2 ⟨rfl, rfl⟩) | (go_at_call 20; refine (HG.out _ (by assumption) _ (by assumption) _).mono ?_; rintro e w3 ⟨rfl, rfl⟩) | (go_at_call 19; refine (HT.out _ _).mono ?_; rintro e w3 ⟨rfl, rfl⟩))
      go_ret2
      exact ⟨ret_zero HX.out, rfl⟩
set_option maxHeartbeats 1000000 in
theorem refdo_4 (a b : Nat) (ha : a < 4294967296) (hb : b < 4294967296) (w : World) :
    Calls Tryd.prog 6 #[.int .i64 4, .int .u32 a, .int .u32 b] w fun e w' => e = .returned (.tuple #[.int .u32 (doN 4 a b : Nat), .int .i64 0]) ∧ w' = w := by
  have HW := hide refwide_any
  have HP := hide refparts_any
  have HT := hide truth_any
  go_enter Tryd.func6, Tryd.ntmps6
  go_wp2
  have hn : b % 32 ≤ 31 := by omega
  go_loop [9, 10] (fun p i => ∃ k : Nat, k ≤ b % 32 ∧ i = .int .i64 k ∧ p = .int .i64 ((2 ^ k : Nat) : Int)) (fun _ i => b % 32 - (intOf i).toNat)
  case atStart => exact ⟨0, Nat.zero_le _, rfl, rfl⟩
  case round =>
    obtain ⟨k, hk, rfl, rfl⟩ := hrel
    have hp := pow_le31 k (by omega)
    have hp1 := pow_one k
    by_cases hlt : k < b % 32
    · have HS : Hid (2 ^ k * 2 = 2 ^ (k + 1)) := by show _ = _; rw [← Nat.pow_succ]
      generalize 2 ^ k = p at *
      go_wp2
      refine ⟨⟨k + 1, by omega, rfl, ?_⟩, by simp [intOf]; omega⟩
      rw [← HS.out]; go_num
    · obtain rfl : k = b % 32 := by omega
      generalize 2 ^ (b % 32) = P at *
      go_wp2_with (first | (go_at_call 16; refine (HW.out _ _ (by assumption) (by assumption) _ _ _).mono ?_; rintro e w1 ⟨rfl, rfl⟩) | (go_at_call 17; refine (HP.out _ _ (by assumption) (by assumption) _ _).mono ?_; rintro e w2 ⟨rfl, rfl⟩) | (go_at_call 19; refine (HT.out _ _).mono ?_; rintro e w3 ⟨rfl, rfl⟩))
      go_ret2
      exact ⟨rfl, rfl⟩
set_option maxHeartbeats 1000000 in
theorem refdo_5 (a b : Nat) (ha : a < 4294967296) (hb : b < 4294967296) (w : World) :
    Calls Tryd.prog 6 #[.int .i64 5, .int .u32 a, .int .u32 b] w fun e w' => e = .returned (.tuple #[.int .u32 (doN 5 a b : Nat), .int .i64 0]) ∧ w' = w := by
  have HW := hide refwide_any
  have HP := hide refparts_any
  have HQ := hide (gates_any 5 a b (by decide) ha hb)
  rw [gates_xor a b ha hb] at HQ
  rw [show ((5 : Nat) : Int) = 5 from rfl] at HQ
  go_enter Tryd.func6, Tryd.ntmps6
  go_wp2
  have hn : b % 32 ≤ 31 := by omega
  go_loop [9, 10] (fun p i => ∃ k : Nat, k ≤ b % 32 ∧ i = .int .i64 k ∧ p = .int .i64 ((2 ^ k : Nat) : Int)) (fun _ i => b % 32 - (intOf i).toNat)
  case atStart => exact ⟨0, Nat.zero_le _, rfl, rfl⟩
  case round =>
    obtain ⟨k, hk, rfl, rfl⟩ := hrel
    have hp := pow_le31 k (by omega)
    have hp1 := pow_one k
    by_cases hlt : k < b % 32
    · have HS : Hid (2 ^ k * 2 = 2 ^ (k + 1)) := by show _ = _; rw [← Nat.pow_succ]
      generalize 2 ^ k = p at *
      go_wp2
      refine ⟨⟨k + 1, by omega, rfl, ?_⟩, by simp [intOf]; omega⟩
      rw [← HS.out]; go_num
    · obtain rfl : k = b % 32 := by omega
      generalize 2 ^ (b % 32) = P at *
      go_wp2_with (first | (go_at_call 16; refine (HW.out _ _ (by assumption) (by assumption) _ _ _).mono ?_; rintro e w1 ⟨rfl, rfl⟩) | (go_at_call 17; refine (HP.out _ _ (by assumption) (by assumption) _ _).mono ?_; rintro e w2 ⟨rfl, rfl⟩) | (go_at_call 21; refine (HQ.out _).mono ?_; rintro e w3 ⟨rfl, rfl⟩))
      go_ret2
      exact ⟨rfl, rfl⟩
set_option maxHeartbeats 1000000 in
theorem refdo_6 (a b : Nat) (ha : a < 4294967296) (hb : b < 4294967296) (w : World) :
    Calls Tryd.prog 6 #[.int .i64 6, .int .u32 a, .int .u32 b] w fun e w' => e = .returned (.tuple #[.int .u32 (doN 6 a b : Nat), .int .i64 0]) ∧ w' = w := by
  have HW := hide refwide_any
  have HP := hide refparts_any
  have HWd := hide word_any
  have hd : (a : Int) / ((2 ^ (b % 32) : Nat) : Int) = (doN 6 a b : Int) := rfl
  have hz : doN 6 a b ≤ a := Nat.div_le_self _ _
  have HX : Hid ((wordN (doN 6 a b : Int) : Int) = (doN 6 a b : Int)) := by show _ = _; rw [wordN_cast]; omega
  generalize doN 6 a b = z at *
  go_enter Tryd.func6, Tryd.ntmps6
  go_wp2
  have hn : b % 32 ≤ 31 := by omega
  go_loop [9, 10] (fun p i => ∃ k : Nat, k ≤ b % 32 ∧ i = .int .i64 k ∧ p = .int .i64 ((2 ^ k : Nat) : Int)) (fun _ i => b % 32 - (intOf i).toNat)
  case atStart => exact ⟨0, Nat.zero_le _, rfl, rfl⟩
  case round =>
    obtain ⟨k, hk, rfl, rfl⟩ := hrel
    have hp := pow_le31 k (by omega)
    have hp1 := pow_one k
    by_cases hlt : k < b % 32
    · have HS : Hid (2 ^ k * 2 = 2 ^ (k + 1)) := by show _ = _; rw [← Nat.pow_succ]
      generalize 2 ^ k = p at *
      go_wp2
      refine ⟨⟨k + 1, by omega, rfl, ?_⟩, by simp [intOf]; omega⟩
      rw [← HS.out]; go_num
    · obtain rfl : k = b % 32 := by omega
      generalize 2 ^ (b % 32) = P at *
      go_wp2_with (first | (go_at_call 16; refine (HW.out _ _ (by assumption) (by assumption) _ _ _).mono ?_; rintro e w1 ⟨rfl, rfl⟩) | (go_at_call 17; refine (HP.out _ _ (by assumption) (by assumption) _ _).mono ?_; rintro e w2 ⟨rfl, rfl⟩) | (go_at_call 18; refine (HWd.out _ (by first | assumption | omega) (by first | assumption | omega) _).mono ?_; rintro e w3 ⟨rfl, rfl⟩))
      go_ret2
      exact ⟨ret_zero HX.out, rfl⟩
set_option maxHeartbeats 1000000 in
theorem refdo_7n (a b : Nat) (ha : a < 4294967296) (hb : b < 4294967296) (hs : sgn a < 0) (w : World) :
    Calls Tryd.prog 6 #[.int .i64 7, .int .u32 a, .int .u32 b] w fun e w' => e = .returned (.tuple #[.int .u32 (doN 7 a b : Nat), .int .i64 0]) ∧ w' = w := by
  have HW := hide refwide_any
  have HP := hide refparts_any
  have HG := hide (fun (v : Nat) (hv : v < 4294967296) (x : Int) (hx : sgn v = x) (w : World) => (hx ▸ signed_any v hv w : Calls Tryd.prog 20 #[.int .u32 v] w fun e w' => e = .returned (.int .i64 x) ∧ w' = w))
  have HWd := hide word_any
  obtain ⟨x, hx⟩ : ∃ x, sgn a = x := ⟨_, rfl⟩
  have s1 := sgn_lo a ha
  have s2 := sgn_hi a ha
  rw [hx] at s1 s2 hs
  have hb1 := div_lo x (2 ^ (b % 32)) (pow_one _) (by omega)
  have hb2 := div_hi x (2 ^ (b % 32)) (pow_one _) (by omega)
  have hd := sra_doc x (2 ^ (b % 32)) (pow_one _)
  obtain ⟨t, ht⟩ : ∃ t, x / ((2 ^ (b % 32) : Nat) : Int) = t := ⟨_, rfl⟩
  have HX : Hid ((wordN t : Int) = (doN 7 a b : Int)) := by show _ = _; rw [← ht, ← hx]; simp [doN]
  rw [ht] at hd hb1 hb2
  generalize doN 7 a b = z at *
  replace hd : (-x + ((2 ^ (b % 32) : Nat) : Int) - 1) / ((2 ^ (b % 32) : Nat) : Int) = -t := by rw [← hd hs, Int.neg_neg]
  clear ht
  go_enter Tryd.func6, Tryd.ntmps6
  go_wp2
  have hn : b % 32 ≤ 31 := by omega
  go_loop [9, 10] (fun p i => ∃ k : Nat, k ≤ b % 32 ∧ i = .int .i64 k ∧ p = .int .i64 ((2 ^ k : Nat) : Int)) (fun _ i => b % 32 - (intOf i).toNat)
  case atStart => exact ⟨0, Nat.zero_le _, rfl, rfl⟩
  case round =>
    obtain ⟨k, hk, rfl, rfl⟩ := hrel
    have hp := pow_le31 k (by omega)
    have hp1 := pow_one k
    by_cases hlt : k < b % 32
    · have HS : Hid (2 ^ k * 2 = 2 ^ (k + 1)) := by show _ = _; rw [← Nat.pow_succ]
      generalize 2 ^ k = p at *
      go_wp2
      refine ⟨⟨k + 1, by omega, rfl, ?_⟩, by simp [intOf]; omega⟩
      rw [← HS.out]; go_num
    · obtain rfl : k = b % 32 := by omega
      generalize 2 ^ (b % 32) = P at *
      go_wp2_with (first | (go_at_call 16; refine (HW.out _ _ (by assumption) (by assumption) _ _ _).mono ?_; rintro e w1 ⟨rfl, rfl⟩) | (go_at_call 17; refine (HP.out _ _ (by assumption) (by assumption) _ _).mono ?_; rintro e w2 ⟨rfl, rfl⟩) | (go_at_call 20; refine (HG.out _ (by assumption) _ (by assumption) _).mono ?_; rintro e w3 ⟨rfl, rfl⟩) | (go_at_call 18; refine (HWd.out _ (by first | assumption | omega) (by first | assumption | omega) _).mono ?_; rintro e w3 ⟨rfl, rfl⟩))
      go_ret2
      exact ⟨ret_zero HX.out, rfl⟩
set_option maxHeartbeats 1000000 in
theorem refdo_7p (a b : Nat) (ha : a < 4294967296) (hb : b < 4294967296) (hs : 0 ≤ sgn a) (w : World) :
    Calls Tryd.prog 6 #[.int .i64 7, .int .u32 a, .int .u32 b] w fun e w' => e = .returned (.tuple #[.int .u32 (doN 7 a b : Nat), .int .i64 0]) ∧ w' = w := by
  have HW := hide refwide_any
  have HP := hide refparts_any
  have HG := hide (fun (v : Nat) (hv : v < 4294967296) (x : Int) (hx : sgn v = x) (w : World) => (hx ▸ signed_any v hv w : Calls Tryd.prog 20 #[.int .u32 v] w fun e w' => e = .returned (.int .i64 x) ∧ w' = w))
  have HWd := hide word_any
  obtain ⟨x, hx⟩ : ∃ x, sgn a = x := ⟨_, rfl⟩
  have s1 := sgn_lo a ha
  have s2 := sgn_hi a ha
  rw [hx] at s1 s2 hs
  have hb1 := div_lo x (2 ^ (b % 32)) (pow_one _) (by omega)
  have hb2 := div_hi x (2 ^ (b % 32)) (pow_one _) (by omega)
  have hd := sra_doc x (2 ^ (b % 32)) (pow_one _)
  obtain ⟨t, ht⟩ : ∃ t, x / ((2 ^ (b % 32) : Nat) : Int) = t := ⟨_, rfl⟩
  have HX : Hid ((wordN t : Int) = (doN 7 a b : Int)) := by show _ = _; rw [← ht, ← hx]; simp [doN]
  rw [ht] at hd hb1 hb2
  generalize doN 7 a b = z at *
  clear hd
  go_enter Tryd.func6, Tryd.ntmps6
  go_wp2
  have hn : b % 32 ≤ 31 := by omega
  go_loop [9, 10] (fun p i => ∃ k : Nat, k ≤ b % 32 ∧ i = .int .i64 k ∧ p = .int .i64 ((2 ^ k : Nat) : Int)) (fun _ i => b % 32 - (intOf i).toNat)
  case atStart => exact ⟨0, Nat.zero_le _, rfl, rfl⟩
  case round =>
    obtain ⟨k, hk, rfl, rfl⟩ := hrel
    have hp := pow_le31 k (by omega)
    have hp1 := pow_one k
    by_cases hlt : k < b % 32
    · have HS : Hid (2 ^ k * 2 = 2 ^ (k + 1)) := by show _ = _; rw [← Nat.pow_succ]
      generalize 2 ^ k = p at *
      go_wp2
      refine ⟨⟨k + 1, by omega, rfl, ?_⟩, by simp [intOf]; omega⟩
      rw [← HS.out]; go_num
    · obtain rfl : k = b % 32 := by omega
      generalize 2 ^ (b % 32) = P at *
      go_wp2_with (first | (go_at_call 16; refine (HW.out _ _ (by assumption) (by assumption) _ _ _).mono ?_; rintro e w1 ⟨rfl, rfl⟩) | (go_at_call 17; refine (HP.out _ _ (by assumption) (by assumption) _ _).mono ?_; rintro e w2 ⟨rfl, rfl⟩) | (go_at_call 20; refine (HG.out _ (by assumption) _ (by assumption) _).mono ?_; rintro e w3 ⟨rfl, rfl⟩) | (go_at_call 18; refine (HWd.out _ (by first | assumption | omega) (by first | assumption | omega) _).mono ?_; rintro e w3 ⟨rfl, rfl⟩))
      go_ret2
      exact ⟨ret_zero HX.out, rfl⟩
theorem refdo_7 (a b : Nat) (ha : a < 4294967296) (hb : b < 4294967296) (w : World) :
    Calls Tryd.prog 6 #[.int .i64 7, .int .u32 a, .int .u32 b] w fun e w' => e = .returned (.tuple #[.int .u32 (doN 7 a b : Nat), .int .i64 0]) ∧ w' = w := by
  by_cases h : sgn a < 0
  · exact refdo_7n a b ha hb h w
  · exact refdo_7p a b ha hb (by omega) w

set_option maxHeartbeats 1000000 in
theorem refdo_8 (a b : Nat) (ha : a < 4294967296) (hb : b < 4294967296) (w : World) :
    Calls Tryd.prog 6 #[.int .i64 8, .int .u32 a, .int .u32 b] w fun e w' => e = .returned (.tuple #[.int .u32 (doN 8 a b : Nat), .int .i64 0]) ∧ w' = w := by
  have HW := hide refwide_any
  have HP := hide refparts_any
  have HQ := hide (gates_any 8 a b (by decide) ha hb)
  rw [gates_or a b ha hb] at HQ
  rw [show ((8 : Nat) : Int) = 8 from rfl] at HQ
  go_enter Tryd.func6, Tryd.ntmps6
  go_wp2
  have hn : b % 32 ≤ 31 := by omega
  go_loop [9, 10] (fun p i => ∃ k : Nat, k ≤ b % 32 ∧ i = .int .i64 k ∧ p = .int .i64 ((2 ^ k : Nat) : Int)) (fun _ i => b % 32 - (intOf i).toNat)
  case atStart => exact ⟨0, Nat.zero_le _, rfl, rfl⟩
  case round =>
    obtain ⟨k, hk, rfl, rfl⟩ := hrel
    have hp := pow_le31 k (by omega)
    have hp1 := pow_one k
    by_cases hlt : k < b % 32
    · have HS : Hid (2 ^ k * 2 = 2 ^ (k + 1)) := by show _ = _; rw [← Nat.pow_succ]
      generalize 2 ^ k = p at *
      go_wp2
      refine ⟨⟨k + 1, by omega, rfl, ?_⟩, by simp [intOf]; omega⟩
      rw [← HS.out]; go_num
    · obtain rfl : k = b % 32 := by omega
      generalize 2 ^ (b % 32) = P at *
      go_wp2_with (first | (go_at_call 16; refine (HW.out _ _ (by assumption) (by assumption) _ _ _).mono ?_; rintro e w1 ⟨rfl, rfl⟩) | (go_at_call 17; refine (HP.out _ _ (by assumption) (by assumption) _ _).mono ?_; rintro e w2 ⟨rfl, rfl⟩) | (go_at_call 21; refine (HQ.out _).mono ?_; rintro e w3 ⟨rfl, rfl⟩))
      go_ret2
      exact ⟨rfl, rfl⟩
set_option maxHeartbeats 1000000 in
theorem refdo_9 (a b : Nat) (ha : a < 4294967296) (hb : b < 4294967296) (w : World) :
    Calls Tryd.prog 6 #[.int .i64 9, .int .u32 a, .int .u32 b] w fun e w' => e = .returned (.tuple #[.int .u32 (doN 9 a b : Nat), .int .i64 0]) ∧ w' = w := by
  have HW := hide refwide_any
  have HP := hide refparts_any
  have HQ := hide (gates_any 9 a b (by decide) ha hb)
  rw [gates_and a b ha hb] at HQ
  rw [show ((9 : Nat) : Int) = 9 from rfl] at HQ
  go_enter Tryd.func6, Tryd.ntmps6
  go_wp2
  have hn : b % 32 ≤ 31 := by omega
  go_loop [9, 10] (fun p i => ∃ k : Nat, k ≤ b % 32 ∧ i = .int .i64 k ∧ p = .int .i64 ((2 ^ k : Nat) : Int)) (fun _ i => b % 32 - (intOf i).toNat)
  case atStart => exact ⟨0, Nat.zero_le _, rfl, rfl⟩
  case round =>
    obtain ⟨k, hk, rfl, rfl⟩ := hrel
    have hp := pow_le31 k (by omega)
    have hp1 := pow_one k
    by_cases hlt : k < b % 32
    · have HS : Hid (2 ^ k * 2 = 2 ^ (k + 1)) := by show _ = _; rw [← Nat.pow_succ]
      generalize 2 ^ k = p at *
      go_wp2
      refine ⟨⟨k + 1, by omega, rfl, ?_⟩, by simp [intOf]; omega⟩
      rw [← HS.out]; go_num
    · obtain rfl : k = b % 32 := by omega
      generalize 2 ^ (b % 32) = P at *
      go_wp2_with (first | (go_at_call 16; refine (HW.out _ _ (by assumption) (by assumption) _ _ _).mono ?_; rintro e w1 ⟨rfl, rfl⟩) | (go_at_call 17; refine (HP.out _ _ (by assumption) (by assumption) _ _).mono ?_; rintro e w2 ⟨rfl, rfl⟩) | (go_at_call 21; refine (HQ.out _).mono ?_; rintro e w3 ⟨rfl, rfl⟩))
      go_ret2
      exact ⟨rfl, rfl⟩
set_option maxHeartbeats 1000000 in
theorem refdo_10 (a b : Nat) (ha : a < 4294967296) (hb : b < 4294967296) (w : World) :
    Calls Tryd.prog 6 #[.int .i64 10, .int .u32 a, .int .u32 b] w fun e w' => e = .returned (.tuple #[.int .u32 (doN 10 a b : Nat), .int .i64 0]) ∧ w' = w := by
  have HW := hide refwide_any
  have HP := hide refparts_any
  go_enter Tryd.func6, Tryd.ntmps6
  go_wp2
  have hn : b % 32 ≤ 31 := by omega
  go_loop [9, 10] (fun p i => ∃ k : Nat, k ≤ b % 32 ∧ i = .int .i64 k ∧ p = .int .i64 ((2 ^ k : Nat) : Int)) (fun _ i => b % 32 - (intOf i).toNat)
  case atStart => exact ⟨0, Nat.zero_le _, rfl, rfl⟩
  case round =>
    obtain ⟨k, hk, rfl, rfl⟩ := hrel
    have hp := pow_le31 k (by omega)
    have hp1 := pow_one k
    by_cases hlt : k < b % 32
    · have HS : Hid (2 ^ k * 2 = 2 ^ (k + 1)) := by show _ = _; rw [← Nat.pow_succ]
      generalize 2 ^ k = p at *
      go_wp2
      refine ⟨⟨k + 1, by omega, rfl, ?_⟩, by simp [intOf]; omega⟩
      rw [← HS.out]; go_num
    · obtain rfl : k = b % 32 := by omega
      generalize 2 ^ (b % 32) = P at *
      go_wp2_with (first | (go_at_call 16; refine (HW.out _ _ (by assumption) (by assumption) _ _ _).mono ?_; rintro e w1 ⟨rfl, rfl⟩) | (go_at_call 17; refine (HP.out _ _ (by assumption) (by assumption) _ _).mono ?_; rintro e w2 ⟨rfl, rfl⟩))
      go_ret2
      exact ⟨rfl, rfl⟩
set_option maxHeartbeats 1000000 in
theorem refdo_11 (a b : Nat) (ha : a < 4294967296) (hb : b < 4294967296) (w : World) :
    Calls Tryd.prog 6 #[.int .i64 11, .int .u32 a, .int .u32 b] w fun e w' => e = .returned (.tuple #[.int .u32 (doN 11 a b : Nat), .int .i64 0]) ∧ w' = w := by
  have HW := hide refwide_any
  have HP := hide refparts_any
  go_enter Tryd.func6, Tryd.ntmps6
  go_wp2
  have hn : b % 32 ≤ 31 := by omega
  go_loop [9, 10] (fun p i => ∃ k : Nat, k ≤ b % 32 ∧ i = .int .i64 k ∧ p = .int .i64 ((2 ^ k : Nat) : Int)) (fun _ i => b % 32 - (intOf i).toNat)
  case atStart => exact ⟨0, Nat.zero_le _, rfl, rfl⟩
  case round =>
    obtain ⟨k, hk, rfl, rfl⟩ := hrel
    have hp := pow_le31 k (by omega)
    have hp1 := pow_one k
    by_cases hlt : k < b % 32
    · have HS : Hid (2 ^ k * 2 = 2 ^ (k + 1)) := by show _ = _; rw [← Nat.pow_succ]
      generalize 2 ^ k = p at *
      go_wp2
      refine ⟨⟨k + 1, by omega, rfl, ?_⟩, by simp [intOf]; omega⟩
      rw [← HS.out]; go_num
    · obtain rfl : k = b % 32 := by omega
      generalize 2 ^ (b % 32) = P at *
      go_wp2_with (first | (go_at_call 16; refine (HW.out _ _ (by assumption) (by assumption) _ _ _).mono ?_; rintro e w1 ⟨rfl, rfl⟩) | (go_at_call 17; refine (HP.out _ _ (by assumption) (by assumption) _ _).mono ?_; rintro e w2 ⟨rfl, rfl⟩))
      go_ret2
      exact ⟨rfl, rfl⟩
set_option maxHeartbeats 1000000 in
theorem refdo_12 (a b : Nat) (ha : a < 4294967296) (hb : b < 4294967296) (w : World) :
    Calls Tryd.prog 6 #[.int .i64 12, .int .u32 a, .int .u32 b] w fun e w' => e = .returned (.tuple #[.int .u32 (doN 12 a b : Nat), .int .i64 0]) ∧ w' = w := by
  have HW := hide refwide_any
  have HP := hide refparts_any
  go_enter Tryd.func6, Tryd.ntmps6
  go_wp2
  have hn : b % 32 ≤ 31 := by omega
  go_loop [9, 10] (fun p i => ∃ k : Nat, k ≤ b % 32 ∧ i = .int .i64 k ∧ p = .int .i64 ((2 ^ k : Nat) : Int)) (fun _ i => b % 32 - (intOf i).toNat)
  case atStart => exact ⟨0, Nat.zero_le _, rfl, rfl⟩
  case round =>
    obtain ⟨k, hk, rfl, rfl⟩ := hrel
    have hp := pow_le31 k (by omega)
    have hp1 := pow_one k
    by_cases hlt : k < b % 32
    · have HS : Hid (2 ^ k * 2 = 2 ^ (k + 1)) := by show _ = _; rw [← Nat.pow_succ]
      generalize 2 ^ k = p at *
      go_wp2
      refine ⟨⟨k + 1, by omega, rfl, ?_⟩, by simp [intOf]; omega⟩
      rw [← HS.out]; go_num
    · obtain rfl : k = b % 32 := by omega
      generalize 2 ^ (b % 32) = P at *
      go_wp2_with (first | (go_at_call 16; refine (HW.out _ _ (by assumption) (by assumption) _ _ _).mono ?_; rintro e w1 ⟨rfl, rfl⟩) | (go_at_call 17; refine (HP.out _ _ (by assumption) (by assumption) _ _).mono ?_; rintro e w2 ⟨rfl, rfl⟩))
      go_ret2
      exact ⟨rfl, rfl⟩
set_option maxHeartbeats 1000000 in
theorem refdo_13 (a b : Nat) (ha : a < 4294967296) (hb : b < 4294967296) (w : World) :
    Calls Tryd.prog 6 #[.int .i64 13, .int .u32 a, .int .u32 b] w fun e w' => e = .returned (.tuple #[.int .u32 (doN 13 a b : Nat), .int .i64 0]) ∧ w' = w := by
  have HW := hide refwide_any
  have HP := hide refparts_any
  go_enter Tryd.func6, Tryd.ntmps6
  go_wp2
  have hn : b % 32 ≤ 31 := by omega
  go_loop [9, 10] (fun p i => ∃ k : Nat, k ≤ b % 32 ∧ i = .int .i64 k ∧ p = .int .i64 ((2 ^ k : Nat) : Int)) (fun _ i => b % 32 - (intOf i).toNat)
  case atStart => exact ⟨0, Nat.zero_le _, rfl, rfl⟩
  case round =>
    obtain ⟨k, hk, rfl, rfl⟩ := hrel
    have hp := pow_le31 k (by omega)
    have hp1 := pow_one k
    by_cases hlt : k < b % 32
    · have HS : Hid (2 ^ k * 2 = 2 ^ (k + 1)) := by show _ = _; rw [← Nat.pow_succ]
      generalize 2 ^ k = p at *
      go_wp2
      refine ⟨⟨k + 1, by omega, rfl, ?_⟩, by simp [intOf]; omega⟩
      rw [← HS.out]; go_num
    · obtain rfl : k = b % 32 := by omega
      generalize 2 ^ (b % 32) = P at *
      go_wp2_with (first | (go_at_call 16; refine (HW.out _ _ (by assumption) (by assumption) _ _ _).mono ?_; rintro e w1 ⟨rfl, rfl⟩) | (go_at_call 17; refine (HP.out _ _ (by assumption) (by assumption) _ _).mono ?_; rintro e w2 ⟨rfl, rfl⟩))
      go_ret2
      exact ⟨rfl, rfl⟩
set_option maxHeartbeats 1000000 in
theorem refdo_14 (a b : Nat) (ha : a < 4294967296) (hb : b < 4294967296) (w : World) :
    Calls Tryd.prog 6 #[.int .i64 14, .int .u32 a, .int .u32 b] w fun e w' => e = .returned (.tuple #[.int .u32 (doN 14 a b : Nat), .int .i64 0]) ∧ w' = w := by
  have HW := hide refwide_any
  have HP := hide refparts_any
  go_enter Tryd.func6, Tryd.ntmps6
  go_wp2
  have hn : b % 32 ≤ 31 := by omega
  go_loop [9, 10] (fun p i => ∃ k : Nat, k ≤ b % 32 ∧ i = .int .i64 k ∧ p = .int .i64 ((2 ^ k : Nat) : Int)) (fun _ i => b % 32 - (intOf i).toNat)
  case atStart => exact ⟨0, Nat.zero_le _, rfl, rfl⟩
  case round =>
    obtain ⟨k, hk, rfl, rfl⟩ := hrel
    have hp := pow_le31 k (by omega)
    have hp1 := pow_one k
    by_cases hlt : k < b % 32
    · have HS : Hid (2 ^ k * 2 = 2 ^ (k + 1)) := by show _ = _; rw [← Nat.pow_succ]
      generalize 2 ^ k = p at *
      go_wp2
      refine ⟨⟨k + 1, by omega, rfl, ?_⟩, by simp [intOf]; omega⟩
      rw [← HS.out]; go_num
    · obtain rfl : k = b % 32 := by omega
      generalize 2 ^ (b % 32) = P at *
      go_wp2_with (first | (go_at_call 16; refine (HW.out _ _ (by assumption) (by assumption) _ _ _).mono ?_; rintro e w1 ⟨rfl, rfl⟩) | (go_at_call 17; refine (HP.out _ _ (by assumption) (by assumption) _ _).mono ?_; rintro e w2 ⟨rfl, rfl⟩))
      go_ret2
      exact ⟨rfl, rfl⟩
set_option maxHeartbeats 1000000 in
theorem refdo_15 (a b : Nat) (ha : a < 4294967296) (hb : b < 4294967296) (w : World) :
    Calls Tryd.prog 6 #[.int .i64 15, .int .u32 a, .int .u32 b] w fun e w' => e = .returned (.tuple #[.int .u32 (doN 15 a b : Nat), .int .i64 0]) ∧ w' = w := by
  have HW := hide refwide_any
  have HP := hide refparts_any
  go_enter Tryd.func6, Tryd.ntmps6
  go_wp2
  have hn : b % 32 ≤ 31 := by omega
  go_loop [9, 10] (fun p i => ∃ k : Nat, k ≤ b % 32 ∧ i = .int .i64 k ∧ p = .int .i64 ((2 ^ k : Nat) : Int)) (fun _ i => b % 32 - (intOf i).toNat)
  case atStart => exact ⟨0, Nat.zero_le _, rfl, rfl⟩
  case round =>
    obtain ⟨k, hk, rfl, rfl⟩ := hrel
    have hp := pow_le31 k (by omega)
    have hp1 := pow_one k
    by_cases hlt : k < b % 32
    · have HS : Hid (2 ^ k * 2 = 2 ^ (k + 1)) := by show _ = _; rw [← Nat.pow_succ]
      generalize 2 ^ k = p at *
      go_wp2
      refine ⟨⟨k + 1, by omega, rfl, ?_⟩, by simp [intOf]; omega⟩
      rw [← HS.out]; go_num
    · obtain rfl : k = b % 32 := by omega
      generalize 2 ^ (b % 32) = P at *
      go_wp2_with (first | (go_at_call 16; refine (HW.out _ _ (by assumption) (by assumption) _ _ _).mono ?_; rintro e w1 ⟨rfl, rfl⟩) | (go_at_call 17; refine (HP.out _ _ (by assumption) (by assumption) _ _).mono ?_; rintro e w2 ⟨rfl, rfl⟩))
      go_ret2
      exact ⟨rfl, rfl⟩
set_option maxHeartbeats 1000000 in
theorem refdo_16 (a b : Nat) (ha : a < 4294967296) (hb : b < 4294967296) (w : World) :
    Calls Tryd.prog 6 #[.int .i64 16, .int .u32 a, .int .u32 b] w fun e w' => e = .returned (.tuple #[.int .u32 (doN 16 a b : Nat), .int .i64 0]) ∧ w' = w := by
  have HW := hide refwide_any
  have HP := hide refparts_any
  go_enter Tryd.func6, Tryd.ntmps6
  go_wp2
  have hn : b % 32 ≤ 31 := by omega
  go_loop [9, 10] (fun p i => ∃ k : Nat, k ≤ b % 32 ∧ i = .int .i64 k ∧ p = .int .i64 ((2 ^ k : Nat) : Int)) (fun _ i => b % 32 - (intOf i).toNat)
  case atStart => exact ⟨0, Nat.zero_le _, rfl, rfl⟩
  case round =>
    obtain ⟨k, hk, rfl, rfl⟩ := hrel
    have hp := pow_le31 k (by omega)
    have hp1 := pow_one k
    by_cases hlt : k < b % 32
    · have HS : Hid (2 ^ k * 2 = 2 ^ (k + 1)) := by show _ = _; rw [← Nat.pow_succ]
      generalize 2 ^ k = p at *
      go_wp2
      refine ⟨⟨k + 1, by omega, rfl, ?_⟩, by simp [intOf]; omega⟩
      rw [← HS.out]; go_num
    · obtain rfl : k = b % 32 := by omega
      generalize 2 ^ (b % 32) = P at *
      go_wp2_with (first | (go_at_call 16; refine (HW.out _ _ (by assumption) (by assumption) _ _ _).mono ?_; rintro e w1 ⟨rfl, rfl⟩) | (go_at_call 17; refine (HP.out _ _ (by assumption) (by assumption) _ _).mono ?_; rintro e w2 ⟨rfl, rfl⟩))
      go_ret2
      exact ⟨rfl, rfl⟩
set_option maxHeartbeats 1000000 in
theorem refdo_17 (a b : Nat) (ha : a < 4294967296) (hb : b < 4294967296) (w : World) :
    Calls Tryd.prog 6 #[.int .i64 17, .int .u32 a, .int .u32 b] w fun e w' => e = .returned (.tuple #[.int .u32 (doN 17 a b : Nat), .int .i64 0]) ∧ w' = w := by
  have HW := hide refwide_any
  have HP := hide refparts_any
  go_enter Tryd.func6, Tryd.ntmps6
  go_wp2
  have hn : b % 32 ≤ 31 := by omega
  go_loop [9, 10] (fun p i => ∃ k : Nat, k ≤ b % 32 ∧ i = .int .i64 k ∧ p = .int .i64 ((2 ^ k : Nat) : Int)) (fun _ i => b % 32 - (intOf i).toNat)
  case atStart => exact ⟨0, Nat.zero_le _, rfl, rfl⟩
  case round =>
    obtain ⟨k, hk, rfl, rfl⟩ := hrel
    have hp := pow_le31 k (by omega)
    have hp1 := pow_one k
    by_cases hlt : k < b % 32
    · have HS : Hid (2 ^ k * 2 = 2 ^ (k + 1)) := by show _ = _; rw [← Nat.pow_succ]
      generalize 2 ^ k = p at *
      go_wp2
      refine ⟨⟨k + 1, by omega, rfl, ?_⟩, by simp [intOf]; omega⟩
      rw [← HS.out]; go_num
    · obtain rfl : k = b % 32 := by omega
      generalize 2 ^ (b % 32) = P at *
      go_wp2_with (first | (go_at_call 16; refine (HW.out _ _ (by assumption) (by assumption) _ _ _).mono ?_; rintro e w1 ⟨rfl, rfl⟩) | (go_at_call 17; refine (HP.out _ _ (by assumption) (by assumption) _ _).mono ?_; rintro e w2 ⟨rfl, rfl⟩))
      go_ret2
      exact ⟨rfl, rfl⟩
theorem refdo_any (op : Nat) (hop : op < 18) (a b : Nat) (ha : a < 4294967296) (hb : b < 4294967296) (w : World) :
    Calls Tryd.prog 6 #[.int .i64 (op : Nat), .int .u32 a, .int .u32 b] w fun e w' => e = .returned (.tuple #[.int .u32 (doN op a b : Nat), .int .i64 0]) ∧ w' = w :=
  match op, hop with
  | 0, _ => refdo_0 a b ha hb w
  | 1, _ => refdo_1 a b ha hb w
  | 2, _ => refdo_2 a b ha hb w
  | 3, _ => refdo_3 a b ha hb w
  | 4, _ => refdo_4 a b ha hb w
  | 5, _ => refdo_5 a b ha hb w
  | 6, _ => refdo_6 a b ha hb w
  | 7, _ => refdo_7 a b ha hb w
  | 8, _ => refdo_8 a b ha hb w
  | 9, _ => refdo_9 a b ha hb w
  | 10, _ => refdo_10 a b ha hb w
  | 11, _ => refdo_11 a b ha hb w
  | 12, _ => refdo_12 a b ha hb w
  | 13, _ => refdo_13 a b ha hb w
  | 14, _ => refdo_14 a b ha hb w
  | 15, _ => refdo_15 a b ha hb w
  | 16, _ => refdo_16 a b ha hb w
  | 17, _ => refdo_17 a b ha hb w
  | n + 18, h => absurd h (by omega)

set_option maxHeartbeats 1000000 in
theorem refdo_lo (op : Int) (h : op < 0) (a b : Nat) (ha : a < 4294967296) (hb : b < 4294967296) (w : World) :
    Calls Tryd.prog 6 #[.int .i64 op, .int .u32 a, .int .u32 b] w fun e w' => e = .returned (.tuple #[.int .u32 0, .int .i64 1]) ∧ w' = w := by
  have HW := hide refwide_any
  have HP := hide refparts_any
  go_enter Tryd.func6, Tryd.ntmps6
  go_wp2
  have hn : b % 32 ≤ 31 := by omega
  go_loop [9, 10] (fun p i => ∃ k : Nat, k ≤ b % 32 ∧ i = .int .i64 k ∧ p = .int .i64 ((2 ^ k : Nat) : Int)) (fun _ i => b % 32 - (intOf i).toNat)
  case atStart => exact ⟨0, Nat.zero_le _, rfl, rfl⟩
  case round =>
    obtain ⟨k, hk, rfl, rfl⟩ := hrel
    have hp := pow_le31 k (by omega)
    have hp1 := pow_one k
    by_cases hlt : k < b % 32
    · have HS : Hid (2 ^ k * 2 = 2 ^ (k + 1)) := by show _ = _; rw [← Nat.pow_succ]
      generalize 2 ^ k = p at *
      go_wp2
      refine ⟨⟨k + 1, by omega, rfl, ?_⟩, by simp [intOf]; omega⟩
      rw [← HS.out]; go_num
    · obtain rfl : k = b % 32 := by omega
      generalize 2 ^ (b % 32) = P at *
      go_wp2_with (first | (go_at_call 16; refine (HW.out _ _ (by assumption) (by assumption) _ _ _).mono ?_; rintro e w1 ⟨rfl, rfl⟩) | (go_at_call 17; refine (HP.out _ _ (by assumption) (by assumption) _ _).mono ?_; rintro e w2 ⟨rfl, rfl⟩))
      go_ret2
      exact ⟨rfl, rfl⟩
set_option maxHeartbeats 1000000 in
theorem refdo_hi (op : Int) (h : 17 < op) (a b : Nat) (ha : a < 4294967296) (hb : b < 4294967296) (w : World) :
    Calls Tryd.prog 6 #[.int .i64 op, .int .u32 a, .int .u32 b] w fun e w' => e = .returned (.tuple #[.int .u32 0, .int .i64 1]) ∧ w' = w := by
  have HW := hide refwide_any
  have HP := hide refparts_any
  go_enter Tryd.func6, Tryd.ntmps6
  go_wp2
  have hn : b % 32 ≤ 31 := by omega
  go_loop [9, 10] (fun p i => ∃ k : Nat, k ≤ b % 32 ∧ i = .int .i64 k ∧ p = .int .i64 ((2 ^ k : Nat) : Int)) (fun _ i => b % 32 - (intOf i).toNat)
  case atStart => exact ⟨0, Nat.zero_le _, rfl, rfl⟩
  case round =>
    obtain ⟨k, hk, rfl, rfl⟩ := hrel
    have hp := pow_le31 k (by omega)
    have hp1 := pow_one k
    by_cases hlt : k < b % 32
    · have HS : Hid (2 ^ k * 2 = 2 ^ (k + 1)) := by show _ = _; rw [← Nat.pow_succ]
      generalize 2 ^ k = p at *
      go_wp2
      refine ⟨⟨k + 1, by omega, rfl, ?_⟩, by simp [intOf]; omega⟩
      rw [← HS.out]; go_num
    · obtain rfl : k = b % 32 := by omega
      generalize 2 ^ (b % 32) = P at *
      go_wp2_with (first | (go_at_call 16; refine (HW.out _ _ (by assumption) (by assumption) _ _ _).mono ?_; rintro e w1 ⟨rfl, rfl⟩) | (go_at_call 17; refine (HP.out _ _ (by assumption) (by assumption) _ _).mono ?_; rintro e w2 ⟨rfl, rfl⟩))
      go_ret2
      exact ⟨rfl, rfl⟩
end Go.Proofs.YtcojghmanpcedaaDoor
