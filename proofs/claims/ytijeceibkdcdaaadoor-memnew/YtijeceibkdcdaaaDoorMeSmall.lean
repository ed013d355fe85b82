/-
  What mem's small functions answer: split, has, checkNumber.
-/
import Derived.Test.YtijeceibkdcdaaaDoorRow
namespace Go.Proofs.YtijeceibkdcdaaaDoor
open Go.RowKit
set_option linter.unusedVariables false

set_option maxHeartbeats 400000 in
theorem split_any (a : Nat) (h : a < 4294967296) (w : World) :
    Calls Tryd.prog 21 #[.int .u32 a] w fun e w' => e = .returned (.tuple #[.int .i64 (a / 4096 : Nat), .int .i64 (a % 4096 : Nat)]) ∧ w' = w := by
  go_enter Tryd.func21, Tryd.ntmps21
  go_wp2
  go_ret2
  exact ⟨by simp, rfl⟩

/-- The memory that a pointer means has n pages, in block P. -/
def PagesAt (w : World) (b P n : Nat) : Prop := w.cell? ⟨b, 0, none⟩ = some (.slice (some ⟨P, 0, none⟩) n n)

def hasB (a : Nat) (k : Int) (n : Nat) : Bool := k == 0 || decide ((a : Int) + k ≤ (n : Int) * 4096)

set_option maxHeartbeats 400000 in
theorem has_zero (b P n a : Nat) (w : World) :
    Calls Tryd.prog 24 #[.pointer (some ⟨b, 0, none⟩), .int .u32 a, .int .i64 0] w fun e w' => e = .returned (.bool true) ∧ w' = w := by
  go_enter Tryd.func24, Tryd.ntmps24
  go_wp2
  go_ret
  exact ⟨rfl, rfl⟩
set_option maxHeartbeats 400000 in
theorem has_some (b P n a : Nat) (ha : a < 4294967296) (hn : n ≤ 16384) (k : Int) (h0 : 0 < k) (h1 : k ≤ 9223372036854775807) (w : World) (hP : PagesAt w b P n) :
    Calls Tryd.prog 24 #[.pointer (some ⟨b, 0, none⟩), .int .u32 a, .int .i64 k] w fun e w' => e = .returned (.bool (decide ((a : Int) + k ≤ (n : Int) * 4096))) ∧ w' = w := by
  have hc : w.cell? ⟨b, 0, none⟩ = some (.slice (some ⟨P, 0, none⟩) n n) := hP
  clear hP
  have hk : (k == 0) = false := by simp; omega
  go_enter Tryd.func24, Tryd.ntmps24
  go_wp2
  go_ret
  exact ⟨rfl, rfl⟩
end Go.Proofs.YtijeceibkdcdaaaDoor
