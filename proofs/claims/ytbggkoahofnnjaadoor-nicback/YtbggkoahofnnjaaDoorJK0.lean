/-
  Plain numbers: the number of thirty-two bits, and its bits again; masks, moves and signs of words. No Go in sight.
-/
namespace Go.Proofs.YtbggkoahofnnjaaDoor

/-- The number whose bit j is f j, for j below k. -/
def num (f : Nat → Nat) : Nat → Nat
  | 0 => 0
  | k + 1 => num f k + f k * 2 ^ k

/-- A word's bit at a place; 0 of none. -/
def bitN (v : Nat) (at_ : Int) : Nat := if 0 ≤ at_ ∧ at_ ≤ 31 then v / 2 ^ at_.toNat % 2 else 0

/-- The bits from lo on, n of them, as far as a word has them. -/
def placesN (lo n : Int) : Nat :=
  if n < 1 then 0 else if lo < 0 then (if n + lo < 1 then 0 else 2 ^ min (n + lo).toNat 32 - 1)
  else (2 ^ min n.toNat 32 - 1) * 2 ^ min lo.toNat 32 % 2 ^ 32

/-- A word with each bit so many places higher; of a number below 0, lower. -/
def raiseN (v : Nat) (by_ : Int) : Nat :=
  if by_ < 0 then v / 2 ^ min (-by_).toNat 32 else v * 2 ^ min by_.toNat 32 % 2 ^ 32

/-- The document's bits of Set. -/
def setBit (v : Nat) (lo n : Int) (x : Nat) (i : Nat) : Nat :=
  if lo ≤ -1000 ∧ 0 < n ∧ (i : Int) < n + lo then 0
  else if lo ≤ i ∧ (0 ≤ lo ∨ -1000 < lo) ∧ (i : Int) - lo < n then bitN x ((i : Int) - lo) else bitN v i

end Go.Proofs.YtbggkoahofnnjaaDoor
