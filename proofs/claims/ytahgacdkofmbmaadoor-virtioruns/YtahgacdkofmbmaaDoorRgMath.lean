/-
  A ring, plain.
-/
import Derived.Test.YtahgacdkofmbmaaDoorBase
namespace Go.Proofs.YtahgacdkofmbmaaDoor
open Go.RowKit
set_option linter.unusedVariables false
set_option linter.unusedSimpArgs false

structure Rg where
  sz : Int
  de : Nat
  av : Nat
  us : Nat
  la : Nat
  pu : Nat
structure Rg.Ok (r : Rg) : Prop where
  sz0 : -9223372036854775808 ≤ r.sz
  sz1 : r.sz ≤ 9223372036854775807
  de : r.de < 4294967296
  av : r.av < 4294967296
  us : r.us < 4294967296
  la : r.la < 65536
  pu : r.pu < 65536
def zeroRg : Rg := ⟨0, 0, 0, 0, 0, 0⟩
def okSz (s : Int) : Bool := (s == 1) || (s == 2) || (s == 4) || (s == 8) || (s == 16) || (s == 32) || (s == 64) || (s == 128) || (s == 256)
def alR (r : Rg) : Bool := decide (r.de % 16 = 0) && (decide (r.av % 2 = 0) && decide (r.us % 4 = 0))
def chkR (r : Rg) : Bool := okSz r.sz && alR r
theorem okSz_cases {s : Int} (h : okSz s = true) : s = 1 ∨ s = 2 ∨ s = 4 ∨ s = 8 ∨ s = 16 ∨ s = 32 ∨ s = 64 ∨ s = 128 ∨ s = 256 := by
  simp only [okSz, Bool.or_eq_true, beq_iff_eq] at h
  omega
theorem chkR_sz {r : Rg} (h : chkR r = true) : ∃ n : Nat, r.sz = (n : Int) ∧ 1 ≤ n ∧ n ≤ 256 := by
  simp only [chkR, Bool.and_eq_true] at h
  have := okSz_cases h.1
  exact ⟨r.sz.toNat, by omega, by omega, by omega⟩
theorem chkR_al {r : Rg} (h : chkR r = true) : r.de % 16 = 0 ∧ r.av % 2 = 0 ∧ r.us % 4 = 0 := by
  simp only [chkR, alR, Bool.and_eq_true, decide_eq_true_eq] at h
  exact h.2
/-- The sizes that may be, by their bits. -/
theorem sizes : ∀ n : Fin 257, 1 ≤ n.val → ((n.val &&& (n.val - 1)) == 0) = okSz (n.val : Int) := by decide +kernel
end Go.Proofs.YtahgacdkofmbmaaDoor
