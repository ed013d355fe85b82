/-
  What is linear over words, plain; many noughts by a product or by a table of what each bit becomes.
-/
import Derived.Test.YtkahkkcbigifiaaDoorSmBits
namespace Go.Proofs.YtkahkkcbigifiaaDoor
set_option linter.unusedVariables false
structure Lin (f : Nat → Nat) : Prop where
  x : ∀ a b, a < 4294967296 → b < 4294967296 → f (a ^^^ b) = f a ^^^ f b
  l : ∀ a, a < 4294967296 → f a < 4294967296
theorem Lin.z {f : Nat → Nat} (h : Lin f) : f 0 = 0 := by
  have := h.x 0 0 (by decide) (by decide)
  rw [Nat.xor_self] at this
  rw [this, Nat.xor_self]
theorem Lin.zN (n : Nat) : Lin (zN n) := ⟨fun _ _ ha hb => zN_xor n ha hb, fun _ h => zN_lt n h⟩
theorem Lin.comp {f g : Nat → Nat} (hf : Lin f) (hg : Lin g) : Lin (fun v => f (g v)) :=
  ⟨fun a b ha hb => by show f (g (a ^^^ b)) = _; rw [hg.x a b ha hb, hf.x _ _ (hg.l a ha) (hg.l b hb)], fun a ha => hf.l _ (hg.l a ha)⟩
/-- Of n words those xored that are wanted. -/
def xorN (g : Nat → Nat) (b : Nat → Bool) : Nat → Nat
  | 0 => 0
  | n + 1 => xorN g b n ^^^ (if b n = true then g n else 0)
theorem xorN_lt {g : Nat → Nat} {b : Nat → Bool} (n : Nat) (h : ∀ i, i < n → g i < 4294967296) : xorN g b n < 4294967296 := by
  induction n with
  | zero => exact (by decide : 0 < 4294967296)
  | succ n ih =>
    refine xor_lt32 (ih (fun i hi => h i (by omega))) ?_
    split
    · exact h n (by omega)
    · decide
theorem xorN_congr {g k : Nat → Nat} {b : Nat → Bool} (n : Nat) (h : ∀ i, i < n → g i = k i) : xorN g b n = xorN k b n := by
  induction n with
  | zero => rfl
  | succ n ih => show _ ^^^ _ = _ ^^^ _; rw [ih (fun i hi => h i (by omega)), h n (by omega)]
theorem lin_xorN {f : Nat → Nat} (hf : Lin f) {g : Nat → Nat} {b : Nat → Bool} (n : Nat) (h : ∀ i, i < n → g i < 4294967296) : f (xorN g b n) = xorN (fun i => f (g i)) b n := by
  induction n with
  | zero => exact hf.z
  | succ n ih =>
    show f (_ ^^^ _) = _ ^^^ _
    rw [hf.x _ _ (xorN_lt n (fun i hi => h i (by omega))) (by split; exact h n (by omega); decide), ih (fun i hi => h i (by omega))]
    congr 1
    split
    · rfl
    · exact hf.z
theorem xorN_self (v : Nat) : ∀ n, xorN (fun i => 2 ^ i) v.testBit n = v % 2 ^ n
  | 0 => by rw [Nat.pow_zero, Nat.mod_one]; rfl
  | n + 1 => by
    show xorN _ _ n ^^^ _ = _
    rw [xorN_self v n]
    refine Nat.eq_of_testBit_eq fun i => ?_
    rw [Nat.testBit_xor, Nat.testBit_mod_two_pow, Nat.testBit_mod_two_pow]
    by_cases e : i = n
    · subst e
      cases hv : v.testBit i <;> simp [Nat.testBit_two_pow_self]
    · have h2 : (if v.testBit n = true then 2 ^ n else 0 : Nat).testBit i = false := by
        split
        · rw [Nat.testBit_two_pow]; simp; omega
        · exact Nat.zero_testBit _
      rw [h2, Bool.xor_false]
      congr 1
      simp; omega
/-- A linear call by a table of what each bit becomes. -/
theorem lin_tab {f : Nat → Nat} (hf : Lin f) {v : Nat} (hv : v < 4294967296) : xorN (fun i => f (2 ^ i)) v.testBit 32 = f v := by
  have h := lin_xorN hf (g := fun i => 2 ^ i) (b := v.testBit) 32 (fun i hi => pow_lt32 (by omega))
  rw [← h, xorN_self, show (2 : Nat) ^ 32 = 4294967296 by decide, Nat.mod_eq_of_lt hv]
theorem lin_ext {f g : Nat → Nat} (hf : Lin f) (hg : Lin g) (h : ∀ j, j < 32 → f (2 ^ j) = g (2 ^ j)) {v : Nat} (hv : v < 4294967296) : f v = g v := by
  rw [← lin_tab hf hv, ← lin_tab hg hv]
  exact xorN_congr 32 h
/-- The product of two sums. -/
def mulS (a b : Nat) : Nat := xorN (fun i => zN i a) b.testBit 32
theorem zN_one {j : Nat} (h : j ≤ 31) : zN j 1 = 2 ^ j := by
  have := zN_pow j h 0 (by omega)
  rwa [Nat.zero_add, Nat.pow_zero] at this
theorem zN_comm (m n s : Nat) : zN m (zN n s) = zN n (zN m s) := by rw [← zN_add, ← zN_add, Nat.add_comm]
theorem xorN_xor {g k : Nat → Nat} {b : Nat → Bool} (n : Nat) : xorN (fun i => g i ^^^ k i) b n = xorN g b n ^^^ xorN k b n := by
  induction n with
  | zero => exact (Nat.xor_self 0).symm
  | succ n ih =>
    show _ ^^^ _ = (_ ^^^ _) ^^^ (_ ^^^ _)
    rw [ih, xor4]
    congr 1
    split
    · rfl
    · exact (Nat.xor_self 0).symm
theorem mulS_lin (b : Nat) : Lin (fun a => mulS a b) := by
  refine ⟨fun x y hx hy => ?_, fun a ha => xorN_lt 32 (fun i _ => zN_lt i ha)⟩
  show xorN _ _ _ = xorN _ _ _ ^^^ xorN _ _ _
  rw [← xorN_xor]
  exact xorN_congr 32 (fun i _ => zN_xor i hx hy)
/-- m noughts more is the product with what m noughts make of 1. -/
theorem mulS_zN (m : Nat) {a : Nat} (ha : a < 4294967296) : mulS a (zN m 1) = zN m a := by
  refine lin_ext (mulS_lin (zN m 1)) (Lin.zN m) (fun j hj => ?_) ha
  have h1 : zN m 1 < 4294967296 := zN_lt m (by decide)
  show mulS (2 ^ j) (zN m 1) = _
  rw [← zN_one (by omega : j ≤ 31), zN_comm m j]
  have : mulS (zN j 1) (zN m 1) = xorN (fun i => zN j (2 ^ i)) (zN m 1).testBit 32 := xorN_congr 32 (fun i hi => by rw [zN_comm i j, zN_one (by omega : i ≤ 31)])
  rw [this, lin_tab (Lin.zN j) h1]
end Go.Proofs.YtkahkkcbigifiaaDoor
