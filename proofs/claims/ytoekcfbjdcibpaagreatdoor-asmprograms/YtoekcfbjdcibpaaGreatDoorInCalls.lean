/-
  What inst's small calls answer: isOp, taken, layout.
-/
import Derived.Test.YtoekcfbjdcibpaaGreatDoorInTab
import Derived.Test.YtoekcfbjdcibpaaGreatDoorRes
namespace Go.Proofs.YtoekcfbjdcibpaaGreatDoor
open Go.RowKit
set_option linter.unusedVariables false

theorem ret_bool {a b : Bool} (h : a = b) : Ending.returned (.bool a) = .returned (.bool b) := by rw [h]

set_option maxHeartbeats 400000 in
theorem isOp_any (c : Int) (w : World) :
    Calls Tryz.prog 52 #[.int .i64 c] w fun e w' => e = .returned (.bool (decide (0 ≤ c) && decide (c < 57))) ∧ w' = w := by
  go_enter Tryz.func52, Tryz.ntmps52
  go_wp2
  all_goals (go_ret; refine ⟨ret_bool ?_, rfl⟩; rw [Bool.eq_iff_iff]; simp <;> omega)

/-- The bits of a word that a form's fields take. -/
def takenN (k : Nat) : Nat := if k = 85 ∨ k = 74 then 4294967168 else if k = 72 ∨ k = 82 then 33525632 else if k = 73 ∨ k = 76 ∨ k = 70 ∨ k = 67 ∨ k = 66 ∨ k = 83 then 4294938496 else 0

def IsKind (k : Nat) : Prop := k = 85 ∨ k = 74 ∨ k = 73 ∨ k = 76 ∨ k = 70 ∨ k = 67 ∨ k = 66 ∨ k = 83 ∨ k = 72 ∨ k = 82 ∨ k = 78
theorem kindN_is (op : Nat) (h : op < 57) : IsKind (kindN op) := by
  have : ∀ x ∈ kindL, IsKind x := by unfold IsKind; decide
  unfold kindN
  rw [List.getD_eq_getElem?_getD, List.getElem?_eq_getElem (show op < kindL.length from h)]
  exact this _ (List.getElem_mem _)

set_option maxHeartbeats 1000000 in
theorem taken_any (k : Nat) (hk : IsKind k) (w : World) :
    Calls Tryz.prog 55 #[.int .u8 k] w fun e w' => e = .returned (.int .u32 (takenN k : Nat)) ∧ w' = w := by
  rcases hk with rfl | rfl | rfl | rfl | rfl | rfl | rfl | rfl | rfl | rfl | rfl
  all_goals
    go_enter Tryz.func55, Tryz.ntmps55
    go_wp2
    go_ret
    exact ⟨rfl, rfl⟩

/-- How many bits a form's number has, and where they stand: in the word, in the number, how many. -/
def sizeN (k : Nat) : Nat := if k = 85 then 32 else if k = 74 then 21 else if k = 73 ∨ k = 76 ∨ k = 70 then 12 else if k = 66 then 13 else if k = 83 then 12 else if k = 72 then 6 else 0
def piecesN (k : Nat) : List (Nat × Nat × Nat) :=
  if k = 85 then [(12, 12, 20), (0, 0, 0), (0, 0, 0), (0, 0, 0)] else if k = 74 then [(21, 1, 10), (20, 11, 1), (12, 12, 8), (31, 20, 1)] else if k = 73 ∨ k = 76 ∨ k = 70 then [(20, 0, 12), (0, 0, 0), (0, 0, 0), (0, 0, 0)]
  else if k = 66 then [(8, 1, 4), (25, 5, 6), (7, 11, 1), (31, 12, 1)] else if k = 83 then [(7, 0, 5), (25, 5, 7), (0, 0, 0), (0, 0, 0)] else if k = 72 then [(20, 0, 5), (0, 0, 0), (0, 0, 0), (0, 0, 0)] else [(0, 0, 0), (0, 0, 0), (0, 0, 0), (0, 0, 0)]

def piecesV (l : List (Nat × Nat × Nat)) : Array Value := (l.flatMap fun p => [Value.int .i64 p.1, .int .i64 p.2.1, .int .i64 p.2.2]).toArray

theorem size_pieces : (Tryz.prog.info? 139).map (·.size) = some 12 := by kernel_rfl

set_option maxHeartbeats 1000000 in
theorem layout_any (k : Nat) (hk : IsKind k) (w : World) :
    Calls Tryz.prog 84 #[.int .u8 k] w fun e w' => e = .returned (.tuple #[.int .i64 (sizeN k : Nat), .agg (piecesV (piecesN k))]) ∧ Below w.heap.size w w' := by
  rcases hk with rfl | rfl | rfl | rfl | rfl | rfl | rfl | rfl | rfl | rfl | rfl
  all_goals
    go_enter Tryz.func84, Tryz.ntmps84
    go_wp2
    refine bodyPost_ret (results_tmp_cell_row Tryz.results84 _ _ w.heap.size _ _ _ _ rfl (heap_alloc_new w _) Tryz.underlying139 rfl size_pieces) rfl ?_
    exact ⟨rfl, (Below.refl _ w).alloc (Nat.le_refl _) _⟩
end Go.Proofs.YtoekcfbjdcibpaaGreatDoor
