/-
  What the document's Find answers.
-/
import Derived.Test.YtccndehhbccmgaaDoorRNames
import Derived.Test.YtccndehhbccmgaaDoorInFind
import Derived.Deep.RegionWith
namespace Go.Proofs.YtccndehhbccmgaaDoor
open Go.RowKit
set_option linter.unusedVariables false

set_option maxHeartbeats 1000000 in
set_option maxRecDepth 100000 in
theorem rfind_hit (name : ByteArray) (op : Nat) (hop : op < 57) (hm : nameN op = name) (hno : ∀ j, j < op → nameN j ≠ name) (w : World) :
    Calls Tryd.prog 18 #[.string name] w fun e w' => e = .returned (.tuple #[.int .i64 op, .int .i64 0]) ∧ Below w.heap.size w w' := by
  have HNO := hide hno
  have HN := hide (fun (j : Nat) (hj : j < 57) => rname_yes j hj)
  clear hno
  go_enter Tryd.func18, Tryd.ntmps18
  go_wp2
  go_loopw [4] (fun iv wr => ∃ j : Nat, j ≤ op ∧ iv = .int .i64 j ∧ Below w.heap.size w wr) (fun iv _ => op - (intOf iv).toNat)
  case atStart => exact ⟨0, by omega, rfl, Below.refl _ _⟩
  case round =>
    obtain ⟨j, hj, rfl, hB⟩ := hrel
    by_cases hlt : j < op
    · have ht := str_ne (HNO.out j hlt)
      clear hm
      have HNj := hide (HN.out j (by omega))
      generalize nameN j = z at *
      go_wp2_with (first | (go_at_call 20; refine (HNj.out _).mono ?_; rintro e w2 ⟨rfl, hb2⟩))
      go_roundw
      case rel => exact ⟨j + 1, by omega, by go_num, hB.trans (hb2.mono hB.size)⟩
      case measure => simp [intOf]; omega
    · obtain rfl : j = op := by omega
      subst hm
      have HNj := hide (HN.out j (by omega))
      generalize nameN j = z at *
      go_wp2_with (first | (go_at_call 20; refine (HNj.out _).mono ?_; rintro e w2 ⟨rfl, hb2⟩))
      go_ret2
      exact ⟨rfl, hB.trans (hb2.mono hB.size)⟩

set_option maxHeartbeats 1000000 in
set_option maxRecDepth 100000 in
theorem rfind_none (name : ByteArray) (hno : ∀ j, j < 57 → nameN j ≠ name) (w : World) :
    Calls Tryd.prog 18 #[.string name] w fun e w' => e = .returned (.tuple #[.int .i64 0, .int .i64 6]) ∧ Below w.heap.size w w' := by
  have HNO := hide hno
  have HN := hide (fun (j : Nat) (hj : j < 57) => rname_yes j hj)
  clear hno
  go_enter Tryd.func18, Tryd.ntmps18
  go_wp2
  go_loopw [4] (fun iv wr => ∃ j : Nat, j ≤ 57 ∧ iv = .int .i64 j ∧ Below w.heap.size w wr) (fun iv _ => 57 - (intOf iv).toNat)
  case atStart => exact ⟨0, by omega, rfl, Below.refl _ _⟩
  case round =>
    obtain ⟨j, hj, rfl, hB⟩ := hrel
    by_cases hlt : j < 57
    · have ht := str_ne (HNO.out j hlt)
      have HNj := hide (HN.out j (by omega))
      generalize nameN j = z at *
      go_wp2_with (first | (go_at_call 20; refine (HNj.out _).mono ?_; rintro e w2 ⟨rfl, hb2⟩))
      go_roundw
      case rel => exact ⟨j + 1, by omega, by go_num, hB.trans (hb2.mono hB.size)⟩
      case measure => simp [intOf]; omega
    · obtain rfl : j = 57 := by omega
      go_wp2
      go_ret2
      exact ⟨rfl, hB⟩
end Go.Proofs.YtccndehhbccmgaaDoor
