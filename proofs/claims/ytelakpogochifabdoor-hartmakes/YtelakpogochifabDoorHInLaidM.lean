/-
  What inst.laid answers.
-/
import Derived.Test.YtelakpogochifabDoorInTold
namespace Go.Proofs.YtelakpogochifabDoor
open Go.RowKit
set_option linter.unusedVariables false

/-- The word of an Int, as 32 bits. -/
def u32N (c : Int) : Nat := (c % 4294967296).toNat
theorem u32N_lt (c : Int) : u32N c < 4294967296 := by unfold u32N; omega
theorem u32N_cast (c : Int) : ((u32N c : Nat) : Int) = c % 4294967296 := by unfold u32N; omega

/-- A word with a number's pieces added. -/
def spread (n : Nat) : List (Nat × Nat × Nat) → Nat → Nat
  | [], acc => acc
  | p :: l, acc => spread n l (acc ||| setW 0 p.1 p.2.2 (fieldW n p.2.1 p.2.2))
theorem spread_lt (n : Nat) : ∀ (l : List (Nat × Nat × Nat)) (acc : Nat), acc < 4294967296 → spread n l acc < 4294967296
  | [], _, h => h
  | p :: l, acc, h => spread_lt n l _ (Nat.or_lt_two_pow (n := 32) h (setW_lt _ (by decide) _ _ _))

def startN (op : Nat) (i : I6) : Nat := (((wordN op ||| setW 0 7 5 (u32N i.rd)) ||| setW 0 15 5 (u32N i.rs1)) ||| setW 0 20 5 (u32N i.rs2)) ||| setW 0 20 12 (u32N i.csr)
def laidN (op : Nat) (i : I6) : Nat := spread (u32N i.imm) (piecesN (kindN op)) (startN op i)

theorem in_or_lt32 {a b : Nat} (h : a < 4294967296) (k : b < 4294967296) : a ||| b < 4294967296 := Nat.or_lt_two_pow (n := 32) h k
theorem startN_lt (op : Nat) (i : I6) : startN op i < 4294967296 :=
  in_or_lt32 (in_or_lt32 (in_or_lt32 (in_or_lt32 (wordN_lt op) (setW_lt _ (by decide) _ _ _)) (setW_lt _ (by decide) _ _ _)) (setW_lt _ (by decide) _ _ _)) (setW_lt _ (by decide) _ _ _)
end Go.Proofs.YtelakpogochifabDoor
