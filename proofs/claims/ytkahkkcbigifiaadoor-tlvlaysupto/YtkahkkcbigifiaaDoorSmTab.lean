/-
  What four bits make, and how many noughts' sums are products.
-/
import Derived.Test.YtkahkkcbigifiaaDoorSmBits
import Derived.Test.YtkahkkcbigifiaaDoorSmLin
namespace Go.Proofs.YtkahkkcbigifiaaDoor
set_option linter.unusedVariables false

def tabL : List Nat := [0, 79764919, 159529838, 222504665, 319059676, 398814059, 445009330, 507990021, 638119352, 583659535, 797628118, 726387553, 890018660, 835552979, 1015980042, 944750013]
def tabV (h : Nat) : Nat := tabL.getD h 0
theorem tab_ok : ∀ h, h < 16 → tabV h = zN 4 (h * 268435456) := by decide
theorem tabV_lt (h : Nat) : tabV h < 4294967296 := by
  by_cases hh : h < 16
  · rw [tab_ok h hh]; exact zN_lt 4 (by omega)
  · unfold tabV
    rw [List.getD_eq_getElem?_getD, List.getElem?_eq_none (show tabL.length ≤ h by simp [tabL]; omega)]
    decide
theorem four_on {s : Nat} (h : s < 4294967296) : (s * 16 % 4294967296) ^^^ tabV (s / 268435456) = zN 4 s := by
  rw [zN_tab 4 (by decide) h, tab_ok _ (by omega)]
theorem one_on {s : Nat} (h : s < 4294967296) : (s * 2 % 4294967296) ^^^ tabV (s / 2147483648) = zs s := by
  unfold zs
  by_cases h1 : 2147483648 ≤ s
  · rw [if_pos h1, show s / 2147483648 = 1 by omega]; rfl
  · rw [if_neg h1, show s / 2147483648 = 0 by omega]; simp [tabV, tabL]
/-- The product: for each bit of a, b behind as many noughts. -/
def timesN (a b : Nat) : Nat := xorN (fun i => zN i b) a.testBit 32
theorem timesN_lt (a : Nat) {b : Nat} (h : b < 4294967296) : timesN a b < 4294967296 := xorN_lt 32 fun i _ => zN_lt i h
theorem times_zN (m : Nat) {a : Nat} (ha : a < 4294967296) : timesN a (zN m 1) = zN m a := by
  unfold timesN
  rw [xorN_congr 32 (k := fun i => zN m (2 ^ i)) fun i hi => by rw [zN_comm, zN_one (by omega)]]
  exact lin_tab (Lin.zN m) ha
theorem times_step (a b k : Nat) : xorN (fun i => zN i b) a.testBit (k + 1) = if a / 2 ^ k % 2 = 1 then xorN (fun i => zN i b) a.testBit k ^^^ zN k b else xorN (fun i => zN i b) a.testBit k := by
  simp only [xorN, Nat.testBit_eq_decide_div_mod_eq]
  by_cases h : a / 2 ^ k % 2 = 1 <;> simp [h]
theorem times_end (a b k : Nat) (h : a / 2 ^ k = 0) (hk : k ≤ 32) : xorN (fun i => zN i b) a.testBit k = timesN a b := by
  unfold timesN
  have : ∀ d, k + d ≤ 32 → xorN (fun i => zN i b) a.testBit (k + d) = xorN (fun i => zN i b) a.testBit k := by
    intro d
    induction d with
    | zero => intro _; rfl
    | succ d ih =>
      intro hd
      rw [← Nat.add_assoc, times_step]
      have h0 : a / 2 ^ (k + d) = 0 := by rw [Nat.pow_add, ← Nat.div_div_eq_div_mul, h, Nat.zero_div]
      rw [h0, if_neg (by decide), ih (by omega)]
  have := this (32 - k) (by omega)
  rw [show k + (32 - k) = 32 by omega] at this
  exact this.symm
/-- The noughts' way: the sum behind so many of them as the lowest k bits tell. -/
def powN (k : Nat) : Nat := zN (8 * 2 ^ k) 1
theorem powN_zero : powN 0 = 256 := by decide
theorem powN_lt (k : Nat) : powN k < 4294967296 := zN_lt _ (by decide)
theorem powN_succ (k : Nat) : timesN (powN k) (powN k) = powN (k + 1) := by
  unfold powN
  rw [times_zN _ (zN_lt _ (by decide)), ← zN_add]
  congr 1
  rw [Nat.pow_succ]; omega
theorem nought_step (n k s : Nat) (hs : s < 4294967296) : (if n / 2 ^ k % 2 = 1 then timesN (zN (8 * (n % 2 ^ k)) s) (powN k) else zN (8 * (n % 2 ^ k)) s) = zN (8 * (n % 2 ^ (k + 1))) s := by
  rw [Nat.pow_succ, Nat.mod_mul]
  by_cases h : n / 2 ^ k % 2 = 1
  · rw [if_pos h, h]
    unfold powN
    rw [times_zN _ (zN_lt _ hs), ← zN_add]
    congr 1
    omega
  · have h0 : n / 2 ^ k % 2 = 0 := by omega
    rw [if_neg h, h0]
    simp
theorem nought_end (n k s : Nat) (h : n / 2 ^ k = 0) : zN (8 * (n % 2 ^ k)) s = zN (8 * n) s := by
  have : n < 2 ^ k := by
    rcases Nat.lt_or_ge n (2 ^ k) with h' | h'
    · exact h'
    · have := Nat.div_pos h' (Nat.two_pow_pos k); omega
  rw [Nat.mod_eq_of_lt this]
end Go.Proofs.YtkahkkcbigifiaaDoor
