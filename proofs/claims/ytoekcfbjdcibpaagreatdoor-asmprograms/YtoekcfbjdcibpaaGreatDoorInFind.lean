/-
  What inst.Find answers.
-/
import Derived.Test.YtoekcfbjdcibpaaGreatDoorInTab
import Derived.OwnWalk
import Derived.Laws.StructEq
namespace Go.Proofs.YtoekcfbjdcibpaaGreatDoor
open Go.RowKit
set_option linter.unusedVariables false

theorem str_ne {a b : ByteArray} (h : a ≠ b) : (a.toList == b.toList) = false := by
  rw [beq_eq_false_iff_ne]
  intro e
  rw [ByteArray.toList_eq, ByteArray.toList_eq] at e
  apply h
  obtain ⟨a⟩ := a
  obtain ⟨b⟩ := b
  congr 1
  exact Array.toList_inj.1 e

set_option maxHeartbeats 1000000 in
set_option maxRecDepth 100000 in
theorem find_hit (name : ByteArray) (op : Nat) (hop : op < 57) (hm : nameN op = name) (hno : ∀ j, j < op → nameN j ≠ name) (w : World) (hN : NamesAt w) :
    Calls Tryz.prog 34 #[.string name] w fun e w' => e = .returned (.tuple #[.int .i64 op, .nilIface]) ∧ w' = w := by
  have HNO := hide hno
  have HN := hide hN
  clear hN hno
  go_enter Tryz.func34, Tryz.ntmps34
  go_wp2
  go_loop [5] (fun iv => ∃ j : Nat, j ≤ op ∧ iv = .int .i64 j) (fun iv => op - (intOf iv).toNat)
  case atStart => exact ⟨0, by omega, rfl⟩
  case round =>
    obtain ⟨j, hj, rfl⟩ := hrel
    have hk := HN.out j (by omega)
    by_cases hlt : j < op
    · have ht := str_ne (HNO.out j hlt)
      clear hm
      generalize nameN j = z at *
      go_wp2
      go_round
      case rel => exact ⟨j + 1, by omega, by go_num⟩
      case measure => simp [intOf]; omega
    · obtain rfl : j = op := by omega
      subst hm
      generalize nameN j = z at *
      go_wp2
      go_ret2
      exact ⟨rfl, rfl⟩

set_option maxHeartbeats 1000000 in
set_option maxRecDepth 100000 in
theorem find_none (name : ByteArray) (hno : ∀ j, j < 57 → nameN j ≠ name) (w : World) (hN : NamesAt w) :
    Calls Tryz.prog 34 #[.string name] w fun e w' => e = .returned (.tuple #[.int .i64 0, .iface 69 (.int .i64 6)]) ∧ w' = w := by
  have HNO := hide hno
  have HN := hide hN
  clear hN hno
  go_enter Tryz.func34, Tryz.ntmps34
  go_wp2
  go_loop [5] (fun iv => ∃ j : Nat, j ≤ 57 ∧ iv = .int .i64 j) (fun iv => 57 - (intOf iv).toNat)
  case atStart => exact ⟨0, by omega, rfl⟩
  case round =>
    obtain ⟨j, hj, rfl⟩ := hrel
    by_cases hlt : j < 57
    · have hk := HN.out j (by omega)
      have ht := str_ne (HNO.out j hlt)
      generalize nameN j = z at *
      go_wp2
      go_round
      case rel => exact ⟨j + 1, by omega, by go_num⟩
      case measure => simp [intOf]; omega
    · obtain rfl : j = 57 := by omega
      go_wp2
      go_ret2
      exact ⟨rfl, rfl⟩
end Go.Proofs.YtoekcfbjdcibpaaGreatDoor
