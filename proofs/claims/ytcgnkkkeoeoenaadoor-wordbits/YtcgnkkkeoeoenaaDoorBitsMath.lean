/-
  Plain numbers and lists: the places of a word's bits; the lowest bit, and the word without it.
-/
import Derived.Lib.TrailingZeros
import Derived.Test.YtcgnkkkeoeoenaaDoorMath
namespace Go.Proofs.YtcgnkkkeoeoenaaDoor
open Go

/-- The places of the bits that are set, below 32. -/
def places32 (x : Nat) : List Nat := (List.range 32).filter (x.testBit ·)

theorem filter_first (p q : Nat → Bool) (k : Nat) (h0 : ∀ i, i < k → p i = false) (h1 : p k = true) (hq : ∀ i, q i = (p i && !decide (i = k))) :
    ∀ n, k < n → (List.range n).filter p = k :: (List.range n).filter q := by
  intro n
  induction n with
  | zero => intro h; omega
  | succ n ih =>
    intro h
    rw [List.range_succ, List.filter_append, List.filter_append]
    by_cases hk : k < n
    · rw [ih hk]
      have e : q n = p n := by rw [hq]; simp; intro _; omega
      simp [List.filter_cons, e]
    · obtain rfl : k = n := by omega
      have e1 : (List.range k).filter p = [] := by
        rw [List.filter_eq_nil_iff]
        intro i hi
        rw [h0 i (List.mem_range.1 hi)]; simp
      have e2 : (List.range k).filter q = [] := by
        rw [List.filter_eq_nil_iff]
        intro i hi
        rw [hq, h0 i (List.mem_range.1 hi)]; simp
      rw [e1, e2]
      simp [h1, hq]

theorem places_step (x : Nat) (h0 : x ≠ 0) (h : x < 2 ^ 32) : places32 x = Lib.ctz 32 x :: places32 (x &&& (x - 1)) := by
  obtain ⟨m, hx, hk⟩ := Lib.ctzFrom_spec 32 x (by omega) h
  have hc : Lib.ctz 32 x = Lib.ctzFrom 32 x := by unfold Lib.ctz; rw [if_neg h0]
  rw [hc]
  generalize Lib.ctzFrom 32 x = k at *
  have hp : 0 < 2 ^ k := Nat.pow_pos (by decide)
  have e1 : x = 2 ^ k * (2 * m + 1) + 0 := by omega
  have e2 : x - 1 = 2 ^ k * (2 * m) + (2 ^ k - 1) := by rw [hx, Nat.mul_add]; omega
  have t1 : ∀ i, x.testBit i = if i < k then false else (2 * m + 1).testBit (i - k) := by
    intro i
    rw [e1, Nat.testBit_two_pow_mul_add _ hp]
    simp
  have t2 : ∀ i, (x - 1).testBit i = if i < k then true else (2 * m).testBit (i - k) := by
    intro i
    rw [e2, Nat.testBit_two_pow_mul_add _ (by omega)]
    split
    · rw [Nat.testBit_two_pow_sub_one]; simp; omega
    · rfl
  apply filter_first
  · intro i hi; rw [t1, if_pos hi]
  · rw [t1, if_neg (by omega)]; simp
  · intro i
    rw [Nat.testBit_and, t1, t2]
    by_cases hi : i < k
    · simp [hi]
    · rw [if_neg hi, if_neg hi]
      by_cases he : i = k
      · subst he; simp
      · obtain ⟨j, hj⟩ : ∃ j, i - k = j + 1 := ⟨i - k - 1, by omega⟩
        rw [hj]
        simp [Nat.testBit_succ, he]
        have : (2 * m + 1) / 2 = m := by omega
        rw [this]
        exact id
  · exact hk

theorem without_lt (x : Nat) (h0 : x ≠ 0) : x &&& (x - 1) < x := by
  have : x &&& (x - 1) ≤ x - 1 := Nat.and_le_right
  omega

theorem places_zero : places32 0 = [] := by decide

theorem range_snoc_filter (p : Nat → Bool) (k : Nat) : (List.range (k + 1)).filter p = (List.range k).filter p ++ (if p k then [k] else []) := by
  rw [List.range_succ, List.filter_append]
  by_cases h : p k <;> simp [h]
end Go.Proofs.YtcgnkkkeoeoenaaDoor
