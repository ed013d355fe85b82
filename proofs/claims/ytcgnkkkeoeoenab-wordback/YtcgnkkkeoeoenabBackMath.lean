/-
  Plain numbers: bits that were set are got again, all others stay; the bytes of a number make the number.
-/
import Derived.Test.YtcgnkkkeoeoenabWords
import Derived.Test.YtcgnkkkeoeoenabCheck
import Derived.Test.YtcgnkkkeoeoenabWith
namespace Go.Proofs.Ytcgnkkkeoeoenab
open Go.RowKit
set_option linter.unusedVariables false

theorem setW_lt (v : Nat) (hv : v < 4294967296) (lo n : Int) (x : Nat) : setW v lo n x < 4294967296 :=
  Nat.or_lt_two_pow (n := 32) (Nat.lt_of_le_of_lt Nat.and_le_left hv) (Nat.lt_of_le_of_lt Nat.and_le_right (placesN_lt _ _))
theorem fieldW_lt (v : Nat) (lo n : Int) : fieldW v lo n < 2 ^ 32 := Nat.lt_of_le_of_lt Nat.and_le_right (placesN_lt _ _)

theorem setW_bit (v lo n x : Nat) (hx : x < 4294967296) (j : Nat) (hj : j < 32) : (setW v lo n x).testBit j = if lo ≤ j ∧ j < lo + n then x.testBit (j - lo) else v.testBit j := by
  unfold setW
  have hc : (4294967295 - placesN lo n).testBit j = !(placesN lo n).testBit j := by
    have := Nat.testBit_two_pow_sub_succ (placesN_lt lo n) j
    have hl := placesN_lt (lo : Int) (n : Int)
    have e : 4294967295 - placesN lo n = 2 ^ 32 - (placesN lo n + 1) := by omega
    rw [e, this]; simp [hj]
  rw [Nat.testBit_or, Nat.testBit_and, Nat.testBit_and, hc, raiseN_bit x hx _ j hj, placesN_bit]
  by_cases h : lo ≤ j ∧ j < lo + n
  · have e1 : decide (j < 32 ∧ (lo : Int) ≤ (j : Int) ∧ (j : Int) - lo < n) = true := by simp; omega
    have e2 : decide (0 ≤ (j : Int) - lo) = true := by simp; omega
    have e3 : ((j : Int) - lo).toNat = j - lo := by omega
    rw [e1, e2, e3, if_pos h]; simp
  · have e1 : decide (j < 32 ∧ (lo : Int) ≤ (j : Int) ∧ (j : Int) - lo < n) = false := by simp; omega
    rw [e1, if_neg h]; simp

theorem fieldW_bit (v : Nat) (hv : v < 4294967296) (lo n : Nat) (i : Nat) (hi : i < 32) : (fieldW v lo n).testBit i = (decide (i < n) && v.testBit (i + lo)) := by
  unfold fieldW
  rw [Nat.testBit_and, raiseN_bit v hv _ i hi, placesN_bit]
  have e2 : decide (0 ≤ (i : Int) - -(lo : Int)) = true := by simp; omega
  have e3 : ((i : Int) - -(lo : Int)).toNat = i + lo := by omega
  rw [e2, e3]
  have e4 : decide (i < 32 ∧ (0 : Int) ≤ (i : Int) ∧ (i : Int) - 0 < n) = decide (i < n) := by rw [decide_eq_decide]; omega
  rw [e4, Bool.true_and, Bool.and_comm]

theorem back1 (v x : Nat) (hv : v < 4294967296) (hx : x < 4294967296) (lo n : Nat) (h : lo + n ≤ 32) : fieldW (setW v lo n x) lo n = fieldW x (0 : Nat) n := by
  apply word_ext _ _ (fieldW_lt _ _ _) (fieldW_lt _ _ _)
  intro i hi
  rw [fieldW_bit _ (setW_lt v hv _ _ _) lo n i hi, fieldW_bit x hx 0 n i hi]
  by_cases hn : i < n
  · rw [setW_bit v lo n x hx (i + lo) (by omega), if_pos (by omega)]
    simp
  · simp [hn]

theorem back2 (v x : Nat) (hv : v < 4294967296) (hx : x < 4294967296) (lo n k : Nat) (hk : k < 32) (h : k < lo ∨ lo + n ≤ k) : fieldW (setW v lo n x) k (1 : Nat) = fieldW v k (1 : Nat) := by
  apply word_ext _ _ (fieldW_lt _ _ _) (fieldW_lt _ _ _)
  intro i hi
  rw [fieldW_bit _ (setW_lt v hv _ _ _) k 1 i hi, fieldW_bit v hv k 1 i hi]
  by_cases hn : i < 1
  · obtain rfl : i = 0 := by omega
    rw [setW_bit v lo n x hx (0 + k) (by omega), if_neg (by omega)]
  · simp [hn]

theorem field_low (x : Nat) (hx : x < 4294967296) (n : Nat) : fieldW x (0 : Nat) (8 * n : Nat) = x % 2 ^ (8 * n) := by
  apply word_ext _ _ (fieldW_lt _ _ _) (Nat.lt_of_le_of_lt (Nat.mod_le _ _) hx)
  intro i hi
  rw [fieldW_bit x hx 0 (8 * n) i hi, Nat.testBit_mod_two_pow]
  simp

theorem withTo_get (l : List UInt8) (at_ v n : Nat) (h : at_ + n ≤ l.length) (j : Nat) (hj : j < n) : (withTo l at_ v n)[at_ + j]? = some (UInt8.ofNat (v / 256 ^ j % 256)) := by
  induction n with
  | zero => omega
  | succ n ih =>
    rw [withTo]
    by_cases e : j = n
    · subst e
      rw [List.getElem?_set_self (by rw [withTo_length]; omega)]
    · rw [List.getElem?_set_ne (by omega)]
      exact ih (by omega) (by omega)

/-- The number of so many bytes, byte by byte. -/
def sumN (g : Nat → UInt8) (at_ : Nat) : Nat → Nat
  | 0 => 0
  | k + 1 => sumN g at_ k + (g (at_ + k)).toNat * 256 ^ k

theorem sum_mod (g : Nat → UInt8) (at_ x : Nat) (n : Nat) (h : ∀ j, j < n → g (at_ + j) = UInt8.ofNat (x / 256 ^ j % 256)) : sumN g at_ n = x % 256 ^ n := by
  induction n with
  | zero => simp [sumN, Nat.mod_one]
  | succ n ih =>
    rw [sumN, ih (fun j hj => h j (by omega)), h n (by omega), Nat.pow_succ, Nat.mod_mul, UInt8.toNat_ofNat', Nat.mul_comm]
    simp

theorem acc_plus' (s : Nat) (x : UInt8) (h : s < 16777216) : (s * 256 % 4294967296 ||| x.toNat) = s * 256 + x.toNat := by
  have hx : x.toNat < 2 ^ 8 := x.toNat_lt
  rw [Nat.mod_eq_of_lt (by omega), nat_join 8 _ _ (by omega) hx]

theorem get_sum (g : Nat → UInt8) (at_ n : Nat) (hn : n = 1 ∨ n = 2 ∨ n = 4) : getN g at_ n = sumN g at_ n := by
  have b : ∀ j, (g j).toNat < 256 := fun j => (g j).toNat_lt
  have b0 := b at_
  have b1 := b (at_ + 1)
  have b2 := b (at_ + 2)
  have b3 := b (at_ + 3)
  rcases hn with rfl | rfl | rfl
  · simp only [getN, upto, downAt, accN, sumN, List.range_succ, List.range_zero, List.nil_append, List.map_cons, List.map_nil, List.foldl_cons, List.foldl_nil]
    rw [acc_plus' _ _ (by omega)]
    simp
  · simp only [getN, upto, downAt, accN, sumN, List.range_succ, List.range_zero, List.nil_append, List.cons_append, List.map_cons, List.map_nil, List.foldl_cons, List.foldl_nil]
    simp only [Nat.reduceSub, Nat.sub_zero, Nat.add_zero, Nat.sub_self]
    rw [acc_plus' 0 _ (by omega), acc_plus' _ _ (by omega)]
    omega
  · simp only [getN, upto, downAt, accN, sumN, List.range_succ, List.range_zero, List.nil_append, List.cons_append, List.map_cons, List.map_nil, List.foldl_cons, List.foldl_nil]
    simp only [Nat.reduceSub, Nat.sub_zero, Nat.add_zero, Nat.sub_self]
    rw [acc_plus' 0 _ (by omega), acc_plus' (0 * 256 + (g (at_ + 3)).toNat) _ (by omega), acc_plus' ((0 * 256 + (g (at_ + 3)).toNat) * 256 + (g (at_ + 2)).toNat) _ (by omega), acc_plus' _ _ (by omega)]
    omega

/-- What With set, Get gets. -/
theorem back3 (l : List UInt8) (at_ n x : Nat) (hx : x < 4294967296) (hn : n = 1 ∨ n = 2 ∨ n = 4) (h : at_ + n ≤ l.length) :
    getN (fun j => (withTo l at_ x n)[j]?.getD 0) at_ n = fieldW x (0 : Nat) (8 * n : Nat) := by
  rw [get_sum _ _ _ hn, sum_mod _ _ x n (fun j hj => by rw [withTo_get l at_ x n h j hj]; rfl), field_low x hx, show (256 : Nat) = 2 ^ 8 from rfl, ← Nat.pow_mul]
end Go.Proofs.Ytcgnkkkeoeoenab
