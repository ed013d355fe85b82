/-
  What the law's own num answers: 0 of nil, an Errno's number; nothing that lay is turned.
-/
import Derived.Test.YtaaiockiojejeaaGreatDoorJH12
import Derived.Test.YtaaiockiojejeaaGreatDoorJH2
namespace Go.Proofs.YtaaiockiojejeaaGreatDoor
open Go.RowKit Go.Extern.Stop Go.Stop Go.Extern
set_option linter.unusedVariables false

set_option maxHeartbeats 1000000 in
theorem num_err (c : Int) (w : World) (hg : HandleAt w) : Calls Tryz.prog 19 #[.iface 129 (.int .i64 c)] w fun e w' => e = .returned (.int .i64 c) ∧ Below w.heap.size w w' := by
  have hlt : 0 < w.heap.size := by
    rcases Nat.lt_or_ge 0 w.heap.size with h | h
    · exact h
    · simp [HandleAt, World.cell?, Array.getElem?_eq_none h] at hg
  have hgA : (w.alloc (.cells #[.int .i64 0] 129)).cell? ⟨0, 0, none⟩ = some (.iface 246 (.agg #[.pointer (some ⟨3, 62, none⟩)])) := by
    rw [World.cell?_alloc_lt _ _ ⟨0, 0, none⟩ hlt]; exact hg
  have htA : (w.alloc (.cells #[.int .i64 0] 129)).cell? ⟨w.heap.size, 0, none⟩ = some (.int .i64 0) := by simp
  have hfA : (w.alloc (.cells #[.int .i64 0] 129)).frozen? ⟨w.heap.size, 0, none⟩ = false := by simp
  have HH := hide (as_hit c ⟨w.heap.size, 0, none⟩ (.int .i64 0) _ hgA htA hfA)
  clear hgA htA hfA hg hlt
  go_enter Tryz.func19, Tryz.ntmps19
  go_wp2_with (go_at_call 53; refine HH.out.mono ?_; rintro e w' ⟨rfl, rfl⟩)
  go_ret
  refine ⟨rfl, ?_⟩
  repeat (first | exact Below.refl _ _ | refine Below.alloc ?_ (by simp <;> omega) _)
end Go.Proofs.YtaaiockiojejeaaGreatDoor
