/-
  What bus.Find and bus.Base answer.
-/
import Derived.Test.YtbggkoahofnnjaaDoorJK1
import Derived.BigQuiet
import Derived.OwnWalk
namespace Go.Proofs.YtbggkoahofnnjaaDoor
open Go.RowKit
set_option linter.unusedVariables false

def errB (n : Nat) : Value := if n = 0 then .nilIface else .iface 59 (.int .i64 (n : Int))
def insideN (d s a n : Nat) : Bool := decide (firstN d ≤ a ∧ a - firstN d + n ≤ sizeN d s)
abbrev Fnd := Nat × Nat × Nat
def findFrom (s a n : Nat) : Nat → Nat → Fnd
  | 0, _ => (0, 0, 20)
  | k + 1, d => if insideN d s a n = true then (if takesW (widN d) n = true then (d, a - firstN d, 0) else (0, 0, 21)) else findFrom s a n k (d + 1)
def findV (s a : Nat) (n : Int) : Fnd := if isW n = true then (if a % n.toNat = 0 then findFrom s a n.toNat 7 1 else (0, 0, 5)) else (0, 0, 21)
def fndV (f : Fnd) : Value := .tuple #[.int .i64 (f.1 : Nat), .int .u32 (f.2.1 : Nat), errB f.2.2]

theorem below_dnB {n : Nat} {w w' : World} (h : Below n w w') (k : Nat) : Below n w (w'.drewN k) := ⟨h.os, h.tape, h.output, h.size, h.block⟩
theorem base_any (d : Int) (s : Nat) (hs : s < 4294967296) (w : World) (hA : AreasAt w) :
    Calls Tryd.prog 65 #[.int .i64 d, .int .u32 s] w fun e w' => e = .returned (if 1 ≤ d ∧ d ≤ 7 then .tuple #[.int .u32 (firstN d.toNat : Nat), .int .u32 (sizeN d.toNat s : Nat)] else .tuple #[.int .u32 0, .int .u32 0]) ∧ Below w.heap.size w w' := by
  by_cases h : 1 ≤ d ∧ d ≤ 7
  · rw [if_pos h]
    obtain ⟨k, rfl⟩ := Int.eq_ofNat_of_zero_le (show 0 ≤ d by omega)
    have HA := hide (area_any k (by omega) s hs w hA)
    rw [Int.toNat_natCast]
    have t1 : ¬ (k : Int) < 1 := by omega
    have t7 : ¬ 7 < (k : Int) := by omega
    clear hA h
    generalize firstN k = f at *
    generalize sizeN k s = z at *
    go_enter Tryd.func65, Tryd.ntmps65
    go_wp2_with (go_at_call 70; refine HA.out.mono ?_; rintro e w1 ⟨rfl, hb1⟩)
    go_quiet (fail)
    go_wp2
    go_ret2
    exact ⟨rfl, below_dnB (hb1.alloc hb1.size _) _⟩
  · rw [if_neg h]
    by_cases h1 : d < 1
    · go_enter Tryd.func65, Tryd.ntmps65
      go_wp2
      go_ret2
      exact ⟨rfl, Below.refl _ _⟩
    · have h7 : 7 < d := by omega
      go_enter Tryd.func65, Tryd.ntmps65
      go_wp2
      go_ret2
      exact ⟨rfl, Below.refl _ _⟩


def FdRel (s a n : Nat) (w : World) (dv : Value) (wr : World) : Prop :=
  ∃ d : Nat, 1 ≤ d ∧ d ≤ 8 ∧ dv = .int .i64 (d : Nat) ∧ findFrom s a n 7 1 = findFrom s a n (8 - d) d ∧ Below w.heap.size w wr

end Go.Proofs.YtbggkoahofnnjaaDoor
