/-
  Guarded reads of a hart's parts; bits of places.
-/
import Derived.Test.YtelakpogochifaaDoorHaBeg
import Derived.Test.YtelakpogochifaaDoorCsMath2
namespace Go.Proofs.YtelakpogochifaaDoor
open Go.RowKit
set_option linter.unusedVariables false

variable {ops : Array Oper} {rest : List Oper} {dst : Option Tmp} {ty : TypeId} {pos : String} {after : Array Edge} {a : Act} {w : World} {Q : Exit → Act → World → Prop} {x y : Operand} {gd : Option (Nat × Bool)}
theorem gl_xs (b : Nat) (h : H) (xs : Array Value) (t' : TypeId) (hr : RowAt w b h.cells t') (hxs : h.xs = xs) (hx : a.eval x = .pointer (some ⟨b, 1, none⟩)) (hw : Region.wanted ⟨dst, .load 23 x, ty, pos, after, gd⟩ (yielded ops a.tmps) = true)
    (k : wpList Tryd.prog ops Q rest (a.put dst (.agg xs)) w) : wpList Tryd.prog ops Q (⟨dst, .load 23 x, ty, pos, after, gd⟩ :: rest) a w := by
  subst hxs
  have hq := World.rangeAt_of_block hr 1 h.xs.size
  rw [ex_xs h] at hq
  exact BigFrame.wpList_want hw fun K hK => wp_load_mid 23 x rfl b 1 hx h.xs.toList _ hq Tryd.underlying23 rfl size_xs (hK _ _ k)
theorem and_fc (v : Nat) (hv : v < 4294967296) (h4 : v % 4 = 0) : v &&& 4294967292 = v := by
  apply Nat.eq_of_testBit_eq
  intro i
  rw [Nat.testBit_and]
  by_cases hi : i < 32
  · by_cases h2 : i < 2
    · have h0 : v.testBit i = false := by
        rw [Nat.testBit_eq_decide_div_mod_eq]
        rcases i with _ | _ | i
        · simp; omega
        · simp; omega
        · omega
      simp [h0]
    · have h1 : Nat.testBit 4294967292 i = true := (by decide : ∀ i < 32, 2 ≤ i → Nat.testBit 4294967292 i = true) i hi (by omega)
      simp [h1]
  · have h0 : v.testBit i = false := Nat.testBit_lt_two_pow (Nat.lt_of_lt_of_le hv (Nat.pow_le_pow_right (n := 2) (i := 32) (by decide) (by omega)))
    simp [h0]
theorem mod4_and (v : Nat) (h : v &&& 3 = 0) : v % 4 = 0 := by
  have := Nat.and_two_pow_sub_one_eq_mod v 2
  simp at this
  omega
theorem mayH_iff (h : H) : mayH h = true ↔ h.pc % 4 = 0 ∧ h.x 0 = 0 ∧ mayB h.c = true := by
  unfold mayH
  simp
end Go.Proofs.YtelakpogochifaaDoor
