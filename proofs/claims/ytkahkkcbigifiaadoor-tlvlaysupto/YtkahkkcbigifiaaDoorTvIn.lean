/-
  Numbers and bytes laid and taken off, plain.
-/
import Derived.Test.YtkahkkcbigifiaaDoorTvMath
namespace Go.Proofs.YtkahkkcbigifiaaDoor
set_option linter.unusedVariables false

/-- What is left, and the first error. -/
structure InS where
  b : List Nat
  err : Nat
def takeN (i : InS) (n : Int) (most : Nat) : InS × Nat :=
  if i.err ≠ 0 then (i, 0)
  else if n < 1 ∨ 8 < n then ({ i with err := 1 }, 0)
  else if (i.b.length : Int) < n then ({ i with err := 12 }, 0)
  else if most < numL (i.b.take n.toNat) then ({ i with err := 4 }, 0)
  else (⟨i.b.drop n.toNat, 0⟩, numL (i.b.take n.toNat))
def takeR (i : InS) (most : Int) : InS × List Nat :=
  if i.err ≠ 0 then (i, [])
  else if most < 0 then ({ i with err := 1 }, [])
  else if i.b.length < 4 then ({ i with err := 12 }, [])
  else if most < (numL (i.b.take 4) : Int) then ({ i with err := 2 }, [])
  else if i.b.length - 4 < numL (i.b.take 4) then ({ i with err := 12 }, [])
  else (⟨i.b.drop (4 + numL (i.b.take 4)), 0⟩, (i.b.drop 4).take (numL (i.b.take 4)))
theorem takeN_eq (l : List Nat) (er : Nat) (n : Int) (most : Nat) : takeN ⟨l, er⟩ n most = if er ≠ 0 then (⟨l, er⟩, 0) else if n < 1 ∨ 8 < n then (⟨l, 1⟩, 0) else if (l.length : Int) < n then (⟨l, 12⟩, 0) else if most < numL (l.take n.toNat) then (⟨l, 4⟩, 0) else (⟨l.drop n.toNat, 0⟩, numL (l.take n.toNat)) := rfl
theorem takeR_eq (l : List Nat) (er : Nat) (most : Int) : takeR ⟨l, er⟩ most = if er ≠ 0 then (⟨l, er⟩, []) else if most < 0 then (⟨l, 1⟩, []) else if l.length < 4 then (⟨l, 12⟩, []) else if most < (numL (l.take 4) : Int) then (⟨l, 2⟩, []) else if l.length - 4 < numL (l.take 4) then (⟨l, 12⟩, []) else (⟨l.drop (4 + numL (l.take 4)), 0⟩, (l.drop 4).take (numL (l.take 4))) := rfl
def doneE (i : InS) : Nat := if i.err = 0 ∧ 0 < i.b.length then 3 else i.err
def layN (b : List Nat) (v : Nat) (n : Int) : List Nat := if n < 1 ∨ 8 < n then b else b ++ leN n.toNat v
def layR (b x : List Nat) : List Nat := b ++ leN 4 x.length ++ x
theorem layN_len (b : List Nat) (v : Nat) (n : Int) : (layN b v n).length ≤ b.length + 8 := by
  unfold layN
  split
  · omega
  · rw [List.length_append, leN_len]; omega
theorem layN_lt {b : List Nat} (h : ∀ c ∈ b, c < 256) (v : Nat) (n : Int) : ∀ c ∈ layN b v n, c < 256 := fun c hc => by
  unfold layN at hc
  split at hc
  · exact h c hc
  · rcases List.mem_append.1 hc with h1 | h1
    · exact h c h1
    · exact leN_lt _ _ c h1
theorem layR_lt {b x : List Nat} (h : ∀ c ∈ b, c < 256) (hx : ∀ c ∈ x, c < 256) : ∀ c ∈ layR b x, c < 256 := fun c hc => by
  simp only [layR, List.mem_append] at hc
  rcases hc with (h1 | h1) | h1
  · exact h c h1
  · exact leN_lt _ _ c h1
  · exact hx c h1
/-- What was laid is taken off again. -/
theorem take_lay (v : Nat) (n : Nat) (h1 : 1 ≤ n) (h8 : n ≤ 8) (r : List Nat) : takeN ⟨leN n v ++ r, 0⟩ (n : Nat) 18446744073709551615 = (⟨r, 0⟩, v % 256 ^ n) := by
  have hl : (leN n v ++ r).length = n + r.length := by rw [List.length_append, leN_len]
  have ht : (leN n v ++ r).take n = leN n v := List.take_left' (leN_len n v)
  have hm : v % 256 ^ n < 256 ^ n := Nat.mod_lt _ (Nat.pow_pos (by decide))
  have hp : (256 : Nat) ^ n ≤ 256 ^ 8 := Nat.pow_le_pow_right (by decide) h8
  have h88 : (256 : Nat) ^ 8 = 18446744073709551616 := by decide
  unfold takeN
  simp only [Int.toNat_natCast, ht, num_leN]
  rw [if_neg (by simp), if_neg (by omega), if_neg (by rw [hl]; omega), if_neg (by omega), List.drop_left' (leN_len n v)]
theorem takeR_lay (x : List Nat) (hx : x.length < 4294967296) (r : List Nat) : takeR ⟨leN 4 x.length ++ (x ++ r), 0⟩ (x.length : Nat) = (⟨r, 0⟩, x) := by
  have hl : (leN 4 x.length ++ (x ++ r)).length = 4 + (x.length + r.length) := by rw [List.length_append, leN_len, List.length_append]
  have ht : (leN 4 x.length ++ (x ++ r)).take 4 = leN 4 x.length := List.take_left' (leN_len 4 _)
  have hd : (leN 4 x.length ++ (x ++ r)).drop 4 = x ++ r := List.drop_left' (leN_len 4 _)
  unfold takeR
  simp only [ht, num_small (show x.length < 256 ^ 4 by rw [pow4]; exact hx), hd]
  rw [if_neg (by simp), if_neg (by omega), if_neg (by rw [hl]; omega), if_neg (by omega), if_neg (by rw [hl]; omega), List.take_left, ← List.drop_drop, hd, List.drop_left]
theorem masked (v n : Nat) (h8 : n < 8) : v &&& (1 * 2 ^ (8 * n) % 18446744073709551616 + 18446744073709551616 - 1) % 18446744073709551616 = v % 256 ^ n := by
  have hp : (2 : Nat) ^ (8 * n) < 2 ^ 64 := Nat.pow_lt_pow_right (by decide) (by omega)
  have h0 : 0 < (2 : Nat) ^ (8 * n) := Nat.pow_pos (by decide)
  have e : (256 : Nat) ^ n = 2 ^ (8 * n) := by rw [show (256 : Nat) = 2 ^ 8 from rfl, ← Nat.pow_mul]
  rw [e, Nat.one_mul, Nat.mod_eq_of_lt (show (2 : Nat) ^ (8 * n) < 18446744073709551616 from hp), show (2 ^ (8 * n) + 18446744073709551616 - 1) % 18446744073709551616 = 2 ^ (8 * n) - 1 by
    have : (2 : Nat) ^ (8 * n) < 18446744073709551616 := hp
    omega]
  exact Nat.and_two_pow_sub_one_eq_mod v _
end Go.Proofs.YtkahkkcbigifiaaDoor
