/-
  Instructions' words as plain numbers: what a word tells, what an instruction's word is, by the forms.
-/
import Derived.Test.YtoekcfbjdcibpaaGreatDoorInLaid
namespace Go.Proofs.YtoekcfbjdcibpaaGreatDoor
set_option linter.unusedVariables false

theorem fieldW_arith (v : Nat) (hv : v < 4294967296) (lo n : Nat) (h : lo + n ≤ 32) : fieldW v lo n = v / 2 ^ lo % 2 ^ n := by
  apply Nat.eq_of_testBit_eq
  intro i
  by_cases hi : i < 32
  · unfold fieldW
    rw [Nat.testBit_and, raiseN_bit v hv _ i hi, placesN_bit, Nat.testBit_mod_two_pow, Nat.testBit_div_two_pow]
    have e : ((i : Int) - -(lo : Int)).toNat = i + lo := by omega
    rw [e]
    by_cases h1 : i < n
    · have a1 : (0 : Int) ≤ (i : Int) - -(lo : Int) := by omega
      have a2 : (0 : Int) ≤ (i : Int) := by omega
      simp [h1, hi]; intros; omega
    · simp [h1]
  · rw [high_bit _ (fieldW_lt v lo n) i (by omega), Nat.testBit_mod_two_pow]
    simp; omega

theorem setW_arith (v : Nat) (hv : v < 4294967296) (lo n : Nat) (h : lo + n ≤ 32) (x : Nat) (hx : x < 4294967296) :
    setW v lo n x = v % 2 ^ lo + x % 2 ^ n * 2 ^ lo + v / 2 ^ (lo + n) * 2 ^ (lo + n) := by
  have e : v % 2 ^ lo + x % 2 ^ n * 2 ^ lo + v / 2 ^ (lo + n) * 2 ^ (lo + n) = 2 ^ (lo + n) * (v / 2 ^ (lo + n)) + (2 ^ lo * (x % 2 ^ n) + v % 2 ^ lo) := by
    rw [Nat.mul_comm (x % 2 ^ n), Nat.mul_comm (v / 2 ^ (lo + n))]; omega
  have hl : v % 2 ^ lo < 2 ^ lo := Nat.mod_lt _ (Nat.pow_pos (by decide))
  have hx2 : x % 2 ^ n < 2 ^ n := Nat.mod_lt _ (Nat.pow_pos (by decide))
  have hlt : 2 ^ lo * (x % 2 ^ n) + v % 2 ^ lo < 2 ^ (lo + n) := by
    rw [Nat.pow_add]
    calc 2 ^ lo * (x % 2 ^ n) + v % 2 ^ lo < 2 ^ lo * (x % 2 ^ n) + 2 ^ lo := by omega
      _ = 2 ^ lo * (x % 2 ^ n + 1) := by rw [Nat.mul_add, Nat.mul_one]
      _ ≤ 2 ^ lo * 2 ^ n := Nat.mul_le_mul_left _ hx2
  rw [e]
  apply Nat.eq_of_testBit_eq
  intro i
  rw [Nat.testBit_two_pow_mul_add _ hlt, Nat.testBit_two_pow_mul_add _ hl, Nat.testBit_mod_two_pow, Nat.testBit_mod_two_pow, Nat.testBit_div_two_pow]
  have hset := set_num v hv lo n x hx
  by_cases hi : i < 32
  · have hc : (4294967295 - placesN lo n).testBit i = !(placesN lo n).testBit i := by
      have := Nat.testBit_two_pow_sub_succ (placesN_lt lo n) i
      have e : 4294967295 - placesN lo n = 2 ^ 32 - (placesN lo n + 1) := by have := placesN_lt lo n; omega
      rw [e, this]; simp [hi]
    unfold setW
    rw [Nat.testBit_or, Nat.testBit_and, Nat.testBit_and, hc, raiseN_bit x hx _ i hi, placesN_bit]
    have e2 : ((i : Int) - (lo : Int)).toNat = i - lo := by omega
    rw [e2]
    by_cases h1 : i < lo
    · have a1 : ¬ ((lo : Int) ≤ (i : Int)) := by omega
      simp [h1, show i < lo + n by omega, a1]
    · by_cases h2 : i < lo + n
      · have a1 : ((lo : Int) ≤ (i : Int)) := by omega
        have a2 : ((i : Int) - (lo : Int) < (n : Int)) := by omega
        simp [h1, h2, a1, a2, hi, show i - lo < n by omega]
      · have a2 : ¬ ((i : Int) - (lo : Int) < (n : Int)) := by omega
        simp [h2, a2, show i - (lo + n) + (lo + n) = i by omega]
  · rw [high_bit _ (setW_lt v hv lo n x) i (by omega)]
    have h3 : ¬ i < lo + n := by omega
    rw [if_neg h3, show i - (lo + n) + (lo + n) = i by omega, high_bit v hv i (by omega)]

theorem or_field (a b k n : Nat) (hb : b < 2 ^ n) (ha : a / 2 ^ k % 2 ^ n = 0) : a ||| b * 2 ^ k = a + b * 2 ^ k := by
  have h1 : a = 2 ^ (k + n) * (a / 2 ^ (k + n)) + a % 2 ^ k := by
    have q1 := Nat.div_add_mod a (2 ^ k)
    have q2 := Nat.div_add_mod (a / 2 ^ k) (2 ^ n)
    rw [ha, Nat.add_zero, Nat.div_div_eq_div_mul, ← Nat.pow_add] at q2
    rw [← q2, ← Nat.mul_assoc, ← Nat.pow_add] at q1
    exact q1.symm
  have hl : a % 2 ^ k < 2 ^ k := Nat.mod_lt _ (Nat.pow_pos (by decide))
  have hlt : 2 ^ k * b + a % 2 ^ k < 2 ^ (k + n) := by
    rw [Nat.pow_add]
    calc 2 ^ k * b + a % 2 ^ k < 2 ^ k * b + 2 ^ k := by omega
      _ = 2 ^ k * (b + 1) := by rw [Nat.mul_add, Nat.mul_one]
      _ ≤ 2 ^ k * 2 ^ n := Nat.mul_le_mul_left _ hb
  have hlt2 : a % 2 ^ k < 2 ^ (k + n) := Nat.lt_of_lt_of_le hl (Nat.pow_le_pow_right (by decide) (by omega))
  have e : a + b * 2 ^ k = 2 ^ (k + n) * (a / 2 ^ (k + n)) + (2 ^ k * b + a % 2 ^ k) := by
    rw [Nat.mul_comm b]; omega
  rw [e]
  generalize a / 2 ^ (k + n) = q at *
  generalize a % 2 ^ k = r at *
  subst h1
  apply Nat.eq_of_testBit_eq
  intro i
  rw [Nat.testBit_or, Nat.testBit_two_pow_mul_add _ hlt, Nat.testBit_two_pow_mul_add _ hl, Nat.testBit_two_pow_mul_add _ hlt2, Nat.testBit_mul_two_pow]
  by_cases h1 : i < k
  · simp [h1, show i < k + n by omega, show ¬ k ≤ i by omega]
  · have hr : r.testBit i = false := Nat.testBit_lt_two_pow (Nat.lt_of_lt_of_le hl (Nat.pow_le_pow_right (by decide) (by omega)))
    by_cases h2 : i < k + n
    · simp [h1, h2, hr, show k ≤ i by omega]
    · have hb' : b.testBit (i - k) = false := Nat.testBit_lt_two_pow (Nat.lt_of_lt_of_le hb (Nat.pow_le_pow_right (by decide) (by omega)))
      simp [h2, hb', show k ≤ i by omega]

theorem signW_arith (x n : Nat) (h1 : 1 ≤ n) (h2 : n ≤ 31) : signW x (n : Nat) = x % 2 ^ n + (x / 2 ^ (n - 1) % 2) * (2 ^ 32 - 2 ^ n) := by
  unfold signW
  rw [if_neg (by omega), if_neg (by omega)]
  rfl

theorem setW_top (a : Nat) (lo n x : Nat) (h : lo + n ≤ 32) (ha : a < 2 ^ lo) (hx : x < 2 ^ n) : setW a lo n x = a + x * 2 ^ lo := by
  have p1 : 2 ^ lo ≤ 2 ^ 32 := Nat.pow_le_pow_right (by decide) (by omega)
  have p2 : 2 ^ n ≤ 2 ^ 32 := Nat.pow_le_pow_right (by decide) (by omega)
  have p3 : 2 ^ lo ≤ 2 ^ (lo + n) := Nat.pow_le_pow_right (by decide) (by omega)
  rw [setW_arith a (Nat.lt_of_lt_of_le ha p1) lo n h x (Nat.lt_of_lt_of_le hx p2), Nat.mod_eq_of_lt ha, Nat.mod_eq_of_lt hx, Nat.div_eq_of_lt (Nat.lt_of_lt_of_le ha p3)]
  omega
theorem setW_none (a : Nat) (ha : a < 4294967296) (v : Nat) (hv : v < 4294967296) : setW a (0 : Nat) (0 : Nat) (fieldW v (0 : Nat) (0 : Nat)) = a := by
  rw [fieldW_arith v hv 0 0 (by decide), setW_arith a ha 0 0 (by decide) _ (by simp [Nat.mod_one])]
  simp [Nat.mod_one]
theorem sgn12 (a t : Nat) (ha : a < 2048) (ht : t < 2) : asInt (signW (a + t * 2048) (12 : Nat)) = (a : Int) - (t * 2048 : Nat) := by
  rw [signW_arith _ 12 (by decide) (by decide)]
  have g4 : (a + t * 2048) % 2 ^ 12 = a + t * 2048 := by omega
  have g5 : (a + t * 2048) / 2 ^ (12 - 1) % 2 = t := by omega
  rw [g4, g5]
  unfold asInt
  split <;> omega
theorem sgn13 (a t : Nat) (ha : a < 4096) (ht : t < 2) : asInt (signW (a + t * 4096) (13 : Nat)) = (a : Int) - (t * 4096 : Nat) := by
  rw [signW_arith _ 13 (by decide) (by decide)]
  have g4 : (a + t * 4096) % 2 ^ 13 = a + t * 4096 := by omega
  have g5 : (a + t * 4096) / 2 ^ (13 - 1) % 2 = t := by omega
  rw [g4, g5]
  unfold asInt
  split <;> omega
theorem sgn21 (a t : Nat) (ha : a < 1048576) (ht : t < 2) : asInt (signW (a + t * 1048576) (21 : Nat)) = (a : Int) - (t * 1048576 : Nat) := by
  rw [signW_arith _ 21 (by decide) (by decide)]
  have g4 : (a + t * 1048576) % 2 ^ 21 = a + t * 1048576 := by omega
  have g5 : (a + t * 1048576) / 2 ^ (21 - 1) % 2 = t := by omega
  rw [g4, g5]
  unfold asInt
  split <;> omega
theorem number_U (v : Nat) (hv : v < 4294967296) : numberN 85 v = (v / 4096 % 524288 * 4096 : Nat) - (v / 2147483648 * 2147483648 : Nat) := by
  unfold numberN
  have e1 : piecesN 85 = [(12, 12, 20), (0, 0, 0), (0, 0, 0), (0, 0, 0)] := rfl
  have e2 : sizeN 85 = 32 := rfl
  rw [e1, e2]
  simp only [gather]
  rw [fieldW_arith v hv 12 20 (by decide)]
  have hp0 : v / 2 ^ 12 % 2 ^ 20 < 2 ^ 20 := Nat.mod_lt _ (by decide)
  generalize hqp0 : v / 2 ^ 12 % 2 ^ 20 = p0 at *
  have s0 : setW (0) (12 : Nat) (20 : Nat) p0 = 0 + p0 * 2 ^ 12 := setW_top _ 12 20 p0 (by decide) (by omega) hp0
  rw [s0]
  rw [setW_none (0 + p0 * 2 ^ 12) (by omega) v hv]
  rw [setW_none (0 + p0 * 2 ^ 12) (by omega) v hv]
  rw [setW_none (0 + p0 * 2 ^ 12) (by omega) v hv]
  have hs : signW (0 + p0 * 2 ^ 12) (32 : Nat) = 0 + p0 * 2 ^ 12 := by unfold signW; rw [if_neg (by omega), if_pos (by omega)]
  rw [hs]
  unfold asInt
  split <;> omega
theorem number_I (k : Nat) (hk : k = 73 ∨ k = 76 ∨ k = 70) (v : Nat) (hv : v < 4294967296) : numberN k v = (v / 1048576 % 2048 : Nat) - (v / 2147483648 * 2048 : Nat) := by
  unfold numberN
  have e1 : piecesN k = [(20, 0, 12), (0, 0, 0), (0, 0, 0), (0, 0, 0)] := by rcases hk with rfl | rfl | rfl <;> rfl
  have e2 : sizeN k = 12 := by rcases hk with rfl | rfl | rfl <;> rfl
  rw [e1, e2]
  simp only [gather]
  rw [fieldW_arith v hv 20 12 (by decide)]
  have hp0 : v / 2 ^ 20 % 2 ^ 12 < 2 ^ 12 := Nat.mod_lt _ (by decide)
  generalize hqp0 : v / 2 ^ 20 % 2 ^ 12 = p0 at *
  have s0 : setW (0) (0 : Nat) (12 : Nat) p0 = 0 + p0 * 2 ^ 0 := setW_top _ 0 12 p0 (by decide) (by omega) hp0
  rw [s0]
  rw [setW_none (0 + p0 * 2 ^ 0) (by omega) v hv]
  rw [setW_none (0 + p0 * 2 ^ 0) (by omega) v hv]
  rw [setW_none (0 + p0 * 2 ^ 0) (by omega) v hv]
  have g : 0 + p0 * 2 ^ 0 = p0 % 2048 + p0 / 2048 * 2048 := by omega
  rw [g, sgn12 _ _ (by omega) (by omega)]
  have g1 : v / 1048576 = p0 := by omega
  have g2 : v / 2147483648 = p0 / 2048 := by omega
  try rw [g1]
  try rw [g2]
theorem number_H (v : Nat) (hv : v < 4294967296) : numberN 72 v = (v / 1048576 % 32 : Nat) := by
  unfold numberN
  have e1 : piecesN 72 = [(20, 0, 5), (0, 0, 0), (0, 0, 0), (0, 0, 0)] := rfl
  have e2 : sizeN 72 = 6 := rfl
  rw [e1, e2]
  simp only [gather]
  rw [fieldW_arith v hv 20 5 (by decide)]
  have hp0 : v / 2 ^ 20 % 2 ^ 5 < 2 ^ 5 := Nat.mod_lt _ (by decide)
  generalize hqp0 : v / 2 ^ 20 % 2 ^ 5 = p0 at *
  have s0 : setW (0) (0 : Nat) (5 : Nat) p0 = 0 + p0 * 2 ^ 0 := setW_top _ 0 5 p0 (by decide) (by omega) hp0
  rw [s0]
  rw [setW_none (0 + p0 * 2 ^ 0) (by omega) v hv]
  rw [setW_none (0 + p0 * 2 ^ 0) (by omega) v hv]
  rw [setW_none (0 + p0 * 2 ^ 0) (by omega) v hv]
  have g : 0 + p0 * 2 ^ 0 = p0 := by omega
  rw [g, signW_arith p0 6 (by decide) (by decide)]
  have g1 : v / 1048576 % 32 = p0 := by omega
  try rw [g1]
  unfold asInt
  split <;> omega
theorem number_S (v : Nat) (hv : v < 4294967296) : numberN 83 v = (v / 128 % 32 + v / 33554432 % 64 * 32 : Nat) - (v / 2147483648 * 2048 : Nat) := by
  unfold numberN
  have e1 : piecesN 83 = [(7, 0, 5), (25, 5, 7), (0, 0, 0), (0, 0, 0)] := rfl
  have e2 : sizeN 83 = 12 := rfl
  rw [e1, e2]
  simp only [gather]
  rw [fieldW_arith v hv 7 5 (by decide)]
  have hp0 : v / 2 ^ 7 % 2 ^ 5 < 2 ^ 5 := Nat.mod_lt _ (by decide)
  generalize hqp0 : v / 2 ^ 7 % 2 ^ 5 = p0 at *
  rw [fieldW_arith v hv 25 7 (by decide)]
  have hp1 : v / 2 ^ 25 % 2 ^ 7 < 2 ^ 7 := Nat.mod_lt _ (by decide)
  generalize hqp1 : v / 2 ^ 25 % 2 ^ 7 = p1 at *
  have s0 : setW (0) (0 : Nat) (5 : Nat) p0 = 0 + p0 * 2 ^ 0 := setW_top _ 0 5 p0 (by decide) (by omega) hp0
  rw [s0]
  have s1 : setW (0 + p0 * 2 ^ 0) (5 : Nat) (7 : Nat) p1 = 0 + p0 * 2 ^ 0 + p1 * 2 ^ 5 := setW_top _ 5 7 p1 (by decide) (by omega) hp1
  rw [s1]
  rw [setW_none (0 + p0 * 2 ^ 0 + p1 * 2 ^ 5) (by omega) v hv]
  rw [setW_none (0 + p0 * 2 ^ 0 + p1 * 2 ^ 5) (by omega) v hv]
  have g : 0 + p0 * 2 ^ 0 + p1 * 2 ^ 5 = (p0 + p1 % 64 * 32) + p1 / 64 * 2048 := by omega
  rw [g, sgn12 _ _ (by omega) (by omega)]
  have g1 : v / 33554432 = p1 := by omega
  have g2 : v / 2147483648 = p1 / 64 := by omega
  have g3 : v / 128 % 32 = p0 := hqp0
  try rw [g1]
  try rw [g2]
  try rw [g3]
theorem number_B (v : Nat) (hv : v < 4294967296) : numberN 66 v = (v / 256 % 16 * 2 + v / 33554432 % 64 * 32 + v / 128 % 2 * 2048 : Nat) - (v / 2147483648 * 4096 : Nat) := by
  unfold numberN
  have e1 : piecesN 66 = [(8, 1, 4), (25, 5, 6), (7, 11, 1), (31, 12, 1)] := rfl
  have e2 : sizeN 66 = 13 := rfl
  rw [e1, e2]
  simp only [gather]
  rw [fieldW_arith v hv 8 4 (by decide)]
  have hp0 : v / 2 ^ 8 % 2 ^ 4 < 2 ^ 4 := Nat.mod_lt _ (by decide)
  generalize hqp0 : v / 2 ^ 8 % 2 ^ 4 = p0 at *
  rw [fieldW_arith v hv 25 6 (by decide)]
  have hp1 : v / 2 ^ 25 % 2 ^ 6 < 2 ^ 6 := Nat.mod_lt _ (by decide)
  generalize hqp1 : v / 2 ^ 25 % 2 ^ 6 = p1 at *
  rw [fieldW_arith v hv 7 1 (by decide)]
  have hp2 : v / 2 ^ 7 % 2 ^ 1 < 2 ^ 1 := Nat.mod_lt _ (by decide)
  generalize hqp2 : v / 2 ^ 7 % 2 ^ 1 = p2 at *
  rw [fieldW_arith v hv 31 1 (by decide)]
  have hp3 : v / 2 ^ 31 % 2 ^ 1 < 2 ^ 1 := Nat.mod_lt _ (by decide)
  generalize hqp3 : v / 2 ^ 31 % 2 ^ 1 = p3 at *
  have s0 : setW (0) (1 : Nat) (4 : Nat) p0 = 0 + p0 * 2 ^ 1 := setW_top _ 1 4 p0 (by decide) (by omega) hp0
  rw [s0]
  have s1 : setW (0 + p0 * 2 ^ 1) (5 : Nat) (6 : Nat) p1 = 0 + p0 * 2 ^ 1 + p1 * 2 ^ 5 := setW_top _ 5 6 p1 (by decide) (by omega) hp1
  rw [s1]
  have s2 : setW (0 + p0 * 2 ^ 1 + p1 * 2 ^ 5) (11 : Nat) (1 : Nat) p2 = 0 + p0 * 2 ^ 1 + p1 * 2 ^ 5 + p2 * 2 ^ 11 := setW_top _ 11 1 p2 (by decide) (by omega) hp2
  rw [s2]
  have s3 : setW (0 + p0 * 2 ^ 1 + p1 * 2 ^ 5 + p2 * 2 ^ 11) (12 : Nat) (1 : Nat) p3 = 0 + p0 * 2 ^ 1 + p1 * 2 ^ 5 + p2 * 2 ^ 11 + p3 * 2 ^ 12 := setW_top _ 12 1 p3 (by decide) (by omega) hp3
  rw [s3]
  have g : 0 + p0 * 2 ^ 1 + p1 * 2 ^ 5 + p2 * 2 ^ 11 + p3 * 2 ^ 12 = (p0 * 2 + p1 * 32 + p2 * 2048) + p3 * 4096 := by omega
  have g1 : v / 33554432 % 64 = p1 := hqp1
  have g2 : v / 2147483648 = p3 := by omega
  have g3 : v / 256 % 16 = p0 := hqp0
  have g4 : v / 128 % 2 = p2 := hqp2
  rw [g, sgn13 _ _ (by omega) (by omega)]
  try rw [g1]
  try rw [g2]
  try rw [g3]
  try rw [g4]
theorem number_J (v : Nat) (hv : v < 4294967296) : numberN 74 v = (v / 2097152 % 1024 * 2 + v / 1048576 % 2 * 2048 + v / 4096 % 256 * 4096 : Nat) - (v / 2147483648 * 1048576 : Nat) := by
  unfold numberN
  have e1 : piecesN 74 = [(21, 1, 10), (20, 11, 1), (12, 12, 8), (31, 20, 1)] := rfl
  have e2 : sizeN 74 = 21 := rfl
  rw [e1, e2]
  simp only [gather]
  rw [fieldW_arith v hv 21 10 (by decide)]
  have hp0 : v / 2 ^ 21 % 2 ^ 10 < 2 ^ 10 := Nat.mod_lt _ (by decide)
  generalize hqp0 : v / 2 ^ 21 % 2 ^ 10 = p0 at *
  rw [fieldW_arith v hv 20 1 (by decide)]
  have hp1 : v / 2 ^ 20 % 2 ^ 1 < 2 ^ 1 := Nat.mod_lt _ (by decide)
  generalize hqp1 : v / 2 ^ 20 % 2 ^ 1 = p1 at *
  rw [fieldW_arith v hv 12 8 (by decide)]
  have hp2 : v / 2 ^ 12 % 2 ^ 8 < 2 ^ 8 := Nat.mod_lt _ (by decide)
  generalize hqp2 : v / 2 ^ 12 % 2 ^ 8 = p2 at *
  rw [fieldW_arith v hv 31 1 (by decide)]
  have hp3 : v / 2 ^ 31 % 2 ^ 1 < 2 ^ 1 := Nat.mod_lt _ (by decide)
  generalize hqp3 : v / 2 ^ 31 % 2 ^ 1 = p3 at *
  have s0 : setW (0) (1 : Nat) (10 : Nat) p0 = 0 + p0 * 2 ^ 1 := setW_top _ 1 10 p0 (by decide) (by omega) hp0
  rw [s0]
  have s1 : setW (0 + p0 * 2 ^ 1) (11 : Nat) (1 : Nat) p1 = 0 + p0 * 2 ^ 1 + p1 * 2 ^ 11 := setW_top _ 11 1 p1 (by decide) (by omega) hp1
  rw [s1]
  have s2 : setW (0 + p0 * 2 ^ 1 + p1 * 2 ^ 11) (12 : Nat) (8 : Nat) p2 = 0 + p0 * 2 ^ 1 + p1 * 2 ^ 11 + p2 * 2 ^ 12 := setW_top _ 12 8 p2 (by decide) (by omega) hp2
  rw [s2]
  have s3 : setW (0 + p0 * 2 ^ 1 + p1 * 2 ^ 11 + p2 * 2 ^ 12) (20 : Nat) (1 : Nat) p3 = 0 + p0 * 2 ^ 1 + p1 * 2 ^ 11 + p2 * 2 ^ 12 + p3 * 2 ^ 20 := setW_top _ 20 1 p3 (by decide) (by omega) hp3
  rw [s3]
  have g : 0 + p0 * 2 ^ 1 + p1 * 2 ^ 11 + p2 * 2 ^ 12 + p3 * 2 ^ 20 = (p0 * 2 + p1 * 2048 + p2 * 4096) + p3 * 1048576 := by omega
  have g1 : v / 1048576 % 2 = p1 := hqp1
  have g2 : v / 2147483648 = p3 := by omega
  have g3 : v / 2097152 % 1024 = p0 := hqp0
  have g4 : v / 4096 % 256 = p2 := hqp2
  rw [g, sgn21 _ _ (by omega) (by omega)]
  try rw [g1]
  try rw [g2]
  try rw [g3]
  try rw [g4]

/-- What an operation's word has beside the form's fields. -/
def restK (k v : Nat) : Nat :=
  if k = 85 ∨ k = 74 then v % 128
  else if k = 72 ∨ k = 82 then v % 128 + v / 4096 % 8 * 4096 + v / 33554432 * 33554432
  else if k = 78 then v
  else v % 128 + v / 4096 % 8 * 4096

theorem and_field (v k n : Nat) : v &&& ((2 ^ n - 1) * 2 ^ k) = v / 2 ^ k % 2 ^ n * 2 ^ k := by
  apply Nat.eq_of_testBit_eq
  intro i
  rw [Nat.testBit_and, Nat.testBit_mul_two_pow, Nat.testBit_mul_two_pow, Nat.testBit_mod_two_pow, Nat.testBit_div_two_pow, Nat.testBit_two_pow_sub_one]
  by_cases h : k ≤ i
  · rw [show i - k + k = i by omega]
    simp [h, Bool.and_comm]
  · simp [h]

theorem and_low (v n : Nat) : v &&& (2 ^ n - 1) = v % 2 ^ n := Nat.and_two_pow_sub_one_eq_mod v n

theorem rest_and (k : Nat) (hk : IsKind k) (v : Nat) (hv : v < 4294967296) : v &&& (4294967295 - takenN k) = restK k v := by
  have h2 : v &&& 28799 = v % 128 + v / 4096 % 8 * 4096 := by
    have e : (28799 : Nat) = (2 ^ 7 - 1) ||| ((2 ^ 3 - 1) * 2 ^ 12) := by decide
    rw [e, Nat.and_or_distrib_left, and_low, and_field, or_field _ _ 12 3 (Nat.mod_lt _ (by decide)) (by omega)]
  have h3 : v &&& 4261441663 = v % 128 + v / 4096 % 8 * 4096 + v / 33554432 * 33554432 := by
    have e : (4261441663 : Nat) = 28799 ||| ((2 ^ 7 - 1) * 2 ^ 25) := by decide
    rw [e, Nat.and_or_distrib_left, h2, and_field, or_field _ _ 25 7 (Nat.mod_lt _ (by decide)) (by omega)]
    omega
  have h1 : v &&& 127 = v % 128 := and_low v 7
  have h4 : v &&& 4294967295 = v := (and_low v 32).trans (Nat.mod_eq_of_lt hv)
  rcases hk with rfl | rfl | rfl | rfl | rfl | rfl | rfl | rfl | rfl | rfl | rfl
  · exact h1
  · exact h1
  · exact h2
  · exact h2
  · exact h2
  · exact h2
  · exact h2
  · exact h2
  · exact h3
  · exact h3
  · exact h4

/-- An instruction that can be, by its form. -/
def ValidK (k : Nat) (i : I6) : Prop :=
  (if k = 66 ∨ k = 83 ∨ k = 78 then i.rd = 0 else 0 ≤ i.rd ∧ i.rd ≤ 31) ∧
  (if k = 85 ∨ k = 74 ∨ k = 78 then i.rs1 = 0 else 0 ≤ i.rs1 ∧ i.rs1 ≤ 31) ∧
  (if k = 66 ∨ k = 83 ∨ k = 82 then 0 ≤ i.rs2 ∧ i.rs2 ≤ 31 else i.rs2 = 0) ∧
  (if k = 67 then 0 ≤ i.csr ∧ i.csr ≤ 4095 else i.csr = 0) ∧
  (if k = 85 then -2147483648 ≤ i.imm ∧ i.imm ≤ 2147483647 ∧ i.imm % 4096 = 0
   else if k = 74 then -1048576 ≤ i.imm ∧ i.imm ≤ 1048575 ∧ i.imm % 2 = 0
   else if k = 73 ∨ k = 76 ∨ k = 70 ∨ k = 83 then -2048 ≤ i.imm ∧ i.imm ≤ 2047
   else if k = 66 then -4096 ≤ i.imm ∧ i.imm ≤ 4095 ∧ i.imm % 2 = 0
   else if k = 72 then 0 ≤ i.imm ∧ i.imm ≤ 31
   else i.imm = 0)

theorem fd7 (v : Nat) (hv : v < 4294967296) : fieldW v 7 5 = v / 128 % 32 := fieldW_arith v hv 7 5 (by decide)
theorem fd15 (v : Nat) (hv : v < 4294967296) : fieldW v 15 5 = v / 32768 % 32 := fieldW_arith v hv 15 5 (by decide)
theorem fd20 (v : Nat) (hv : v < 4294967296) : fieldW v 20 5 = v / 1048576 % 32 := fieldW_arith v hv 20 5 (by decide)
theorem fd20c (v : Nat) (hv : v < 4294967296) : fieldW v 20 12 = v / 1048576 % 4096 := fieldW_arith v hv 20 12 (by decide)

/-- What a word tells, as plain numbers. -/
theorem told_U (op v : Nat) (hv : v < 4294967296) : toldK 85 op v = ⟨op, (v / 128 % 32 : Nat), 0, 0, (v / 4096 % 524288 * 4096 : Nat) - (v / 2147483648 * 2147483648 : Nat), 0⟩ := by
  rw [← number_U v hv, ← fd7 v hv]; rfl
theorem told_J (op v : Nat) (hv : v < 4294967296) : toldK 74 op v = ⟨op, (v / 128 % 32 : Nat), 0, 0, (v / 2097152 % 1024 * 2 + v / 1048576 % 2 * 2048 + v / 4096 % 256 * 4096 : Nat) - (v / 2147483648 * 1048576 : Nat), 0⟩ := by
  rw [← number_J v hv, ← fd7 v hv]; rfl
theorem told_I (k : Nat) (hk : k = 73 ∨ k = 76 ∨ k = 70) (op v : Nat) (hv : v < 4294967296) : toldK k op v = ⟨op, (v / 128 % 32 : Nat), (v / 32768 % 32 : Nat), 0, (v / 1048576 % 2048 : Nat) - (v / 2147483648 * 2048 : Nat), 0⟩ := by
  rw [← number_I k hk v hv, ← fd7 v hv, ← fd15 v hv]; rcases hk with rfl | rfl | rfl <;> rfl
theorem told_H (op v : Nat) (hv : v < 4294967296) : toldK 72 op v = ⟨op, (v / 128 % 32 : Nat), (v / 32768 % 32 : Nat), 0, (v / 1048576 % 32 : Nat), 0⟩ := by
  rw [← number_H v hv, ← fd7 v hv, ← fd15 v hv]; rfl
theorem told_B (op v : Nat) (hv : v < 4294967296) : toldK 66 op v = ⟨op, 0, (v / 32768 % 32 : Nat), (v / 1048576 % 32 : Nat), (v / 256 % 16 * 2 + v / 33554432 % 64 * 32 + v / 128 % 2 * 2048 : Nat) - (v / 2147483648 * 4096 : Nat), 0⟩ := by
  rw [← number_B v hv, ← fd15 v hv, ← fd20 v hv]; rfl
theorem told_S (op v : Nat) (hv : v < 4294967296) : toldK 83 op v = ⟨op, 0, (v / 32768 % 32 : Nat), (v / 1048576 % 32 : Nat), (v / 128 % 32 + v / 33554432 % 64 * 32 : Nat) - (v / 2147483648 * 2048 : Nat), 0⟩ := by
  rw [← number_S v hv, ← fd15 v hv, ← fd20 v hv]; rfl
theorem told_R (op v : Nat) (hv : v < 4294967296) : toldK 82 op v = ⟨op, (v / 128 % 32 : Nat), (v / 32768 % 32 : Nat), (v / 1048576 % 32 : Nat), 0, 0⟩ := by
  rw [← fd7 v hv, ← fd15 v hv, ← fd20 v hv]; rfl
theorem told_C (op v : Nat) (hv : v < 4294967296) : toldK 67 op v = ⟨op, (v / 128 % 32 : Nat), (v / 32768 % 32 : Nat), 0, 0, (v / 1048576 % 4096 : Nat)⟩ := by
  rw [← fd7 v hv, ← fd15 v hv, ← fd20c v hv]; rfl
theorem told_N (op v : Nat) : toldK 78 op v = ⟨op, 0, 0, 0, 0, 0⟩ := rfl

theorem told_valid (k : Nat) (hk : IsKind k) (op v : Nat) (hv : v < 4294967296) : ValidK k (toldK k op v) := by
  rcases hk with rfl | rfl | rfl | rfl | rfl | rfl | rfl | rfl | rfl | rfl | rfl
  · rw [told_U op v hv]; simp [ValidK]; omega
  · rw [told_J op v hv]; simp [ValidK]; omega
  · rw [told_I 73 (by decide) op v hv]; simp [ValidK]; omega
  · rw [told_I 76 (by decide) op v hv]; simp [ValidK]; omega
  · rw [told_I 70 (by decide) op v hv]; simp [ValidK]; omega
  · rw [told_C op v hv]; simp [ValidK]; omega
  · rw [told_B op v hv]; simp [ValidK]; omega
  · rw [told_S op v hv]; simp [ValidK]; omega
  · rw [told_H op v hv]; simp [ValidK]; omega
  · rw [told_R op v hv]; simp [ValidK]; omega
  · rw [told_N op v]; simp [ValidK]
end Go.Proofs.YtoekcfbjdcibpaaGreatDoor
