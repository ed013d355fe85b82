/-
  Plain numbers: the number of thirty-two bits, and its bits again; masks, moves and signs of words. No Go in sight.
-/
namespace Go.Proofs.YtkahkkcbigifiaaDoor

/-- The number whose bit j is f j, for j below k. -/
def num (f : Nat → Nat) : Nat → Nat
  | 0 => 0
  | k + 1 => num f k + f k * 2 ^ k

theorem num_lt (f : Nat → Nat) (hf : ∀ j, f j ≤ 1) (k : Nat) : num f k < 2 ^ k := by
  induction k with
  | zero => simp [num]
  | succ k ih =>
    have h := hf k
    have : f k * 2 ^ k ≤ 1 * 2 ^ k := Nat.mul_le_mul_right _ h
    simp only [num, Nat.pow_succ]
    omega

theorem num_low (f : Nat → Nat) (k : Nat) : num f (k + 1) = f 0 + 2 * num (fun j => f (j + 1)) k := by
  induction k with
  | zero => simp [num]
  | succ k ih =>
    rw [num, ih]
    simp only [num, Nat.pow_succ, Nat.mul_add]
    have : f (k + 1) * (2 ^ k * 2) = 2 * (f (k + 1) * 2 ^ k) := by
      rw [Nat.mul_comm (2 ^ k) 2, Nat.mul_left_comm]
    omega

theorem num_congr (f g : Nat → Nat) (k : Nat) (h : ∀ j, j < k → f j = g j) : num f k = num g k := by
  induction k with
  | zero => rfl
  | succ k ih => simp only [num]; rw [ih (fun j hj => h j (by omega)), h k (by omega)]

theorem num_bit (f : Nat → Nat) (hf : ∀ j, f j ≤ 1) (k i : Nat) : (num f k).testBit i = (decide (i < k) && decide (f i = 1)) := by
  induction k with
  | zero => simp [num]
  | succ k ih =>
    have hlt := num_lt f hf k
    have h1 := hf k
    have e : num f (k + 1) = 2 ^ k * f k + num f k := by simp only [num]; rw [Nat.mul_comm]; omega
    rw [e, Nat.testBit_two_pow_mul_add _ hlt]
    by_cases hi : i < k
    · rw [if_pos hi, ih]; simp [hi]; omega
    · rw [if_neg hi]
      by_cases hk : i = k
      · subst hk
        have : f i = 0 ∨ f i = 1 := by omega
        rcases this with h0 | h0 <;> simp [h0]
      · have hne : ¬ i < k + 1 := by omega
        have : f k = 0 ∨ f k = 1 := by omega
        have hz : ∃ m, i - k = m + 1 := ⟨i - k - 1, by omega⟩
        obtain ⟨m, hm⟩ := hz
        rcases this with h0 | h0 <;> simp [h0, hne, hm, Nat.testBit_succ]

/-- A word's bit at a place; 0 of none. -/
def bitN (v : Nat) (at_ : Int) : Nat := if 0 ≤ at_ ∧ at_ ≤ 31 then v / 2 ^ at_.toNat % 2 else 0

theorem bitN_le (v : Nat) (a : Int) : bitN v a ≤ 1 := by unfold bitN; split <;> omega

theorem bitN_one (v : Nat) (a : Int) : decide (bitN v a = 1) = (decide (0 ≤ a ∧ a ≤ 31) && v.testBit a.toNat) := by
  unfold bitN
  by_cases h : 0 ≤ a ∧ a ≤ 31
  · rw [if_pos h]; simp only [h, Nat.testBit_eq_decide_div_mod_eq]; simp
  · rw [if_neg h]; simp [h]

/-- The bits from lo on, n of them, as far as a word has them. -/
def placesN (lo n : Int) : Nat :=
  if n < 1 then 0 else if lo < 0 then (if n + lo < 1 then 0 else 2 ^ min (n + lo).toNat 32 - 1)
  else (2 ^ min n.toNat 32 - 1) * 2 ^ min lo.toNat 32 % 2 ^ 32

theorem placesN_lt (lo n : Int) : placesN lo n < 2 ^ 32 := by
  unfold placesN
  split
  · decide
  · split
    · split
      · decide
      · have : 2 ^ min (n + lo).toNat 32 ≤ 2 ^ 32 := Nat.pow_le_pow_right (by decide) (by omega)
        have : 0 < 2 ^ min (n + lo).toNat 32 := Nat.pow_pos (by decide)
        omega
    · exact Nat.mod_lt _ (by decide)

theorem placesN_bit (lo n : Int) (i : Nat) : (placesN lo n).testBit i = decide (i < 32 ∧ lo ≤ i ∧ (i : Int) - lo < n) := by
  unfold placesN
  split
  · simp; omega
  · split
    · split
      · simp; omega
      · rw [Nat.testBit_two_pow_sub_one]
        rw [decide_eq_decide]; omega
    · rw [Nat.testBit_mod_two_pow, Nat.testBit_mul_two_pow, Nat.testBit_two_pow_sub_one]
      rw [Bool.eq_iff_iff]; simp; omega

/-- A word with each bit so many places higher; of a number below 0, lower. -/
def raiseN (v : Nat) (by_ : Int) : Nat :=
  if by_ < 0 then v / 2 ^ min (-by_).toNat 32 else v * 2 ^ min by_.toNat 32 % 2 ^ 32

theorem raiseN_lt (v : Nat) (hv : v < 2 ^ 32) (b : Int) : raiseN v b < 2 ^ 32 := by
  unfold raiseN
  split
  · exact Nat.lt_of_le_of_lt (Nat.div_le_self _ _) hv
  · exact Nat.mod_lt _ (by decide)

theorem high_bit (v : Nat) (hv : v < 2 ^ 32) (i : Nat) (h : 32 ≤ i) : v.testBit i = false :=
  Nat.testBit_lt_two_pow (Nat.lt_of_lt_of_le hv (Nat.pow_le_pow_right (by decide) h))

theorem raiseN_bit (v : Nat) (hv : v < 2 ^ 32) (b : Int) (i : Nat) (hi : i < 32) : (raiseN v b).testBit i = (decide (0 ≤ (i : Int) - b) && v.testBit ((i : Int) - b).toNat) := by
  unfold raiseN
  split
  · rw [Nat.testBit_div_two_pow]
    have h0 : (0 : Int) ≤ (i : Int) - b := by omega
    simp only [h0, decide_true, Bool.true_and]
    by_cases h : (-b).toNat ≤ 32
    · congr 1; omega
    · rw [high_bit v hv _ (by omega), high_bit v hv _ (by omega)]
  · rw [Nat.testBit_mod_two_pow, Nat.testBit_mul_two_pow]
    by_cases h : b ≤ (i : Int)
    · have h1 : min b.toNat 32 = b.toNat := by omega
      have h2 : i - b.toNat = ((i : Int) - b).toNat := by omega
      simp [hi, h1, h2]
    · have h1 : ¬ (min b.toNat 32 ≤ i) := by omega
      simp [hi, h1, h]

/-- Two words with the same bits are one. -/
theorem word_ext (a b : Nat) (ha : a < 2 ^ 32) (hb : b < 2 ^ 32) (h : ∀ i, i < 32 → a.testBit i = b.testBit i) : a = b := by
  apply Nat.eq_of_testBit_eq
  intro i
  by_cases hi : i < 32
  · exact h i hi
  · rw [high_bit a ha i (by omega), high_bit b hb i (by omega)]

/-- Field: the moved word under the mask is the number of the bits. -/
theorem field_num (v : Nat) (hv : v < 2 ^ 32) (lo n : Int) :
    (raiseN v (-lo)) &&& (placesN 0 n) = num (fun i => if (i : Int) < n ∧ -31 ≤ lo ∧ lo ≤ 31 then bitN v (lo + i) else 0) 32 := by
  have hf : ∀ j : Nat, (if (j : Int) < n ∧ -31 ≤ lo ∧ lo ≤ 31 then bitN v (lo + j) else 0) ≤ 1 := by
    intro j; split
    · exact bitN_le _ _
    · omega
  apply word_ext
  · exact Nat.lt_of_le_of_lt Nat.and_le_right (placesN_lt _ _)
  · exact num_lt _ hf 32
  · intro i hi
    rw [Nat.testBit_and, raiseN_bit v hv _ i hi, placesN_bit, num_bit _ hf]
    by_cases hn : (i : Int) < n
    · by_cases hl : -31 ≤ lo ∧ lo ≤ 31
      · rw [if_pos ⟨hn, hl⟩, bitN_one]
        have e : ((i : Int) - -lo).toNat = (lo + i).toNat := by omega
        rw [e]
        by_cases h0 : 0 ≤ lo + i
        · by_cases h31 : lo + i ≤ 31
          · simp [hi, hn, h0, h31]; omega
          · rw [high_bit v hv _ (by omega)]; simp
        · simp [h0]; omega
      · rw [if_neg (by omega)]
        by_cases hh : lo > 31
        · rw [high_bit v hv _ (by omega)]; simp
        · simp; omega
    · rw [if_neg (by omega)]; simp; omega

/-- The document's bits of Set. -/
def setBit (v : Nat) (lo n : Int) (x : Nat) (i : Nat) : Nat :=
  if lo ≤ -1000 ∧ 0 < n ∧ (i : Int) < n + lo then 0
  else if lo ≤ i ∧ (0 ≤ lo ∨ -1000 < lo) ∧ (i : Int) - lo < n then bitN x ((i : Int) - lo) else bitN v i

theorem setBit_le (v : Nat) (lo n : Int) (x i : Nat) : setBit v lo n x i ≤ 1 := by
  unfold setBit; split
  · omega
  · split <;> exact bitN_le _ _

theorem set_num (v : Nat) (hv : v < 2 ^ 32) (lo n : Int) (x : Nat) (hx : x < 2 ^ 32) :
    (v &&& (4294967295 - placesN lo n)) ||| (raiseN x lo &&& placesN lo n) = num (setBit v lo n x) 32 := by
  apply word_ext
  · exact Nat.or_lt_two_pow (Nat.lt_of_le_of_lt Nat.and_le_left hv) (Nat.lt_of_le_of_lt Nat.and_le_right (placesN_lt _ _))
  · exact num_lt _ (setBit_le v lo n x) 32
  · intro i hi
    have hc : (4294967295 - placesN lo n).testBit i = !(placesN lo n).testBit i := by
      have := Nat.testBit_two_pow_sub_succ (placesN_lt lo n) i
      have e : 4294967295 - placesN lo n = 2 ^ 32 - (placesN lo n + 1) := by omega
      rw [e, this]; simp [hi]
    rw [Nat.testBit_or, Nat.testBit_and, Nat.testBit_and, hc, raiseN_bit x hx _ i hi, placesN_bit, num_bit _ (setBit_le v lo n x)]
    unfold setBit
    by_cases hin : lo ≤ i ∧ (i : Int) - lo < n
    · have e1 : decide (i < 32 ∧ lo ≤ (i : Int) ∧ (i : Int) - lo < n) = true := by simp; omega
      rw [e1]
      by_cases hfar : lo ≤ -1000
      · rw [if_pos (by omega), high_bit x hx _ (by omega)]; simp
      · rw [if_neg (by omega), if_pos (by omega), bitN_one]
        by_cases h31 : (i : Int) - lo ≤ 31
        · simp [hi, h31]
        · rw [high_bit x hx _ (by omega)]; simp
    · have e1 : decide (i < 32 ∧ lo ≤ (i : Int) ∧ (i : Int) - lo < n) = false := by simp; omega
      rw [e1, if_neg (by omega), if_neg (by omega), bitN_one]
      have h31 : (0 : Int) ≤ (i : Int) ∧ (i : Int) ≤ 31 := by omega
      simp [hi, h31]

theorem num_mod (v k : Nat) : num (fun j => v / 2 ^ j % 2) k = v % 2 ^ k := by
  induction k with
  | zero => simp [num, Nat.mod_one]
  | succ k ih =>
    rw [num, ih, Nat.pow_succ, Nat.mod_mul, Nat.mul_comm]

theorem num_over (f : Nat → Nat) (n m b : Nat) (h : ∀ j, n ≤ j → f j = b) : num f (n + m) = num f n + b * (2 ^ (n + m) - 2 ^ n) := by
  induction m with
  | zero => simp
  | succ m ih =>
    have e : n + (m + 1) = (n + m) + 1 := by omega
    rw [e, num, ih, h (n + m) (by omega)]
    have h1 : 2 ^ n ≤ 2 ^ (n + m) := Nat.pow_le_pow_right (by decide) (by omega)
    rw [Nat.pow_succ, Nat.add_assoc, ← Nat.mul_add]
    congr 2
    omega

/-- Sign: of n from 1 to 31. -/
theorem sign_num (v n : Nat) (h1 : 1 ≤ n) (h2 : n ≤ 31) :
    num (fun i => bitN v (min (i : Int) ((n : Int) - 1))) 32 = v % 2 ^ n + (v / 2 ^ (n - 1) % 2) * (2 ^ 32 - 2 ^ n) := by
  have e : (32 : Nat) = n + (32 - n) := by omega
  have e2 : num (fun i => bitN v (min (i : Int) ((n : Int) - 1))) n = v % 2 ^ n := by
    rw [← num_mod]
    apply num_congr
    intro j hj
    have : min (j : Int) ((n : Int) - 1) = j := by omega
    show bitN v (min (j : Int) ((n : Int) - 1)) = _
    rw [this]
    unfold bitN
    rw [if_pos (by omega)]
    simp
  have e3 := num_over (fun i => bitN v (min (i : Int) ((n : Int) - 1))) n (32 - n) (v / 2 ^ (n - 1) % 2) (by
    intro j hj
    show bitN v (min (j : Int) ((n : Int) - 1)) = _
    have : min (j : Int) ((n : Int) - 1) = ((n - 1 : Nat) : Int) := by omega
    rw [this]
    unfold bitN
    rw [if_pos (by omega)]
    simp)
  rw [← e] at e3
  rw [e3, e2]

/-- Sign, of n above 31: the word itself. -/
theorem sign_all (v : Nat) (hv : v < 2 ^ 32) : num (fun i => bitN v (min (i : Int) 31)) 32 = v := by
  have : num (fun i => bitN v (min (i : Int) 31)) 32 = num (fun j => v / 2 ^ j % 2) 32 := by
    apply num_congr
    intro j hj
    have h : min (j : Int) 31 = j := by omega
    show bitN v (min (j : Int) 31) = _
    rw [h]
    unfold bitN
    rw [if_pos (by omega)]
    simp
  rw [this, num_mod, Nat.mod_eq_of_lt hv]

end Go.Proofs.YtkahkkcbigifiaaDoor
