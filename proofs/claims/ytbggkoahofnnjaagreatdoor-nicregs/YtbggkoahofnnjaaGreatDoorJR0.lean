/-
  Plain numbers: the number of thirty-two bits, and its bits again; masks, moves and signs of words. No Go in sight.
-/
set_option linter.unusedVariables false
set_option linter.unusedSimpArgs false
namespace Go.Proofs.YtbggkoahofnnjaaGreatDoor
def num (f : Nat → Nat) : Nat → Nat
  | 0 => 0
  | k + 1 => num f k + f k * 2 ^ k
theorem num_lt (f : Nat → Nat) (hf : ∀ j, f j ≤ 1) (k : Nat) : num f k < 2 ^ k := by
  induction k with
  | zero => simp [num]
  | succ k ih =>
    have h := hf k
    have : f k * 2 ^ k ≤ 1 * 2 ^ k := Nat.mul_le_mul_right _ h
    simp only [num, Nat.pow_succ]
    omega
theorem num_low (f : Nat → Nat) (k : Nat) : num f (k + 1) = f 0 + 2 * num (fun j => f (j + 1)) k := by
  induction k with
  | zero => simp [num]
  | succ k ih =>
    rw [num, ih]
    simp only [num, Nat.pow_succ, Nat.mul_add]
    have : f (k + 1) * (2 ^ k * 2) = 2 * (f (k + 1) * 2 ^ k) := by
      rw [Nat.mul_comm (2 ^ k) 2, Nat.mul_left_comm]
    omega
theorem num_bit (f : Nat → Nat) (hf : ∀ j, f j ≤ 1) (k i : Nat) : (num f k).testBit i = (decide (i < k) && decide (f i = 1)) := by
  induction k with
  | zero => simp [num]
  | succ k ih =>
    have hlt := num_lt f hf k
    have h1 := hf k
    have e : num f (k + 1) = 2 ^ k * f k + num f k := by simp only [num]; rw [Nat.mul_comm]; omega
    rw [e, Nat.testBit_two_pow_mul_add _ hlt]
    by_cases hi : i < k
    · rw [if_pos hi, ih]; simp [hi]; omega
    · rw [if_neg hi]
      by_cases hk : i = k
      · subst hk
        have : f i = 0 ∨ f i = 1 := by omega
        rcases this with h0 | h0 <;> simp [h0]
      · have hne : ¬ i < k + 1 := by omega
        have : f k = 0 ∨ f k = 1 := by omega
        have hz : ∃ m, i - k = m + 1 := ⟨i - k - 1, by omega⟩
        obtain ⟨m, hm⟩ := hz
        rcases this with h0 | h0 <;> simp [h0, hne, hm, Nat.testBit_succ]
def bitN (v : Nat) (at_ : Int) : Nat := if 0 ≤ at_ ∧ at_ ≤ 31 then v / 2 ^ at_.toNat % 2 else 0
theorem bitN_le (v : Nat) (a : Int) : bitN v a ≤ 1 := by unfold bitN; split <;> omega
def placesN (lo n : Int) : Nat :=
  if n < 1 then 0 else if lo < 0 then (if n + lo < 1 then 0 else 2 ^ min (n + lo).toNat 32 - 1)
  else (2 ^ min n.toNat 32 - 1) * 2 ^ min lo.toNat 32 % 2 ^ 32
def raiseN (v : Nat) (by_ : Int) : Nat :=
  if by_ < 0 then v / 2 ^ min (-by_).toNat 32 else v * 2 ^ min by_.toNat 32 % 2 ^ 32
def setBit (v : Nat) (lo n : Int) (x : Nat) (i : Nat) : Nat :=
  if lo ≤ -1000 ∧ 0 < n ∧ (i : Int) < n + lo then 0
  else if lo ≤ i ∧ (0 ≤ lo ∨ -1000 < lo) ∧ (i : Int) - lo < n then bitN x ((i : Int) - lo) else bitN v i
theorem setBit_le (v : Nat) (lo n : Int) (x i : Nat) : setBit v lo n x i ≤ 1 := by
  unfold setBit; split
  · omega
  · split <;> exact bitN_le _ _
end Go.Proofs.YtbggkoahofnnjaaGreatDoor
