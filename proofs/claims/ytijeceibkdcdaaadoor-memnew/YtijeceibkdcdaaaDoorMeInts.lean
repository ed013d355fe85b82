/-
  The law's ints, of two lists that are the same.
-/
import Derived.Test.YtijeceibkdcdaaaDoorMeDirty
namespace Go.Proofs.YtijeceibkdcdaaaDoor
open Go.RowKit
set_option linter.unusedVariables false
attribute [local go_sem ↓] Go.wp_at_zero Go.wp_at_succ

set_option maxHeartbeats 600000 in
theorem ints_same (g1 g2 N c1 c2 : Nat) (hN : N ≤ 100000) (h1 : N ≤ c1) (h2 : N ≤ c2) (f : Nat → Nat) (w : World) (k1 : ∀ j, j < N → w.cell? ⟨g1, j, none⟩ = some (.int .i64 (f j : Nat))) (k2 : ∀ j, j < N → w.cell? ⟨g2, j, none⟩ = some (.int .i64 (f j : Nat))) :
    Calls Tryd.prog 35 #[.slice (some ⟨g1, 0, none⟩) N c1, .slice (some ⟨g2, 0, none⟩) N c2] w fun e w' => e = .returned (.bool true) ∧ Below w.heap.size w w' := by
  have K1 := hide k1
  have K2 := hide k2
  have hz : ((N : Int) != (N : Int)) = false := by simp
  clear k1 k2
  go_enter Tryd.func35, Tryd.ntmps35
  go_wp2
  go_loopw [5] (fun kv wr => Below w.heap.size w wr ∧ ∃ k : Nat, k ≤ N ∧ kv = .int .i64 (k : Nat)) (fun kv _ => N - (intOf kv).toNat)
  case atStart => exact ⟨Below.refl _ _, 0, Nat.zero_le _, rfl⟩
  case round =>
    obtain ⟨hB, k, hk, rfl⟩ := hrel
    by_cases hlt : k < N
    · have a1 := cell_bl hB (K1.out k hlt)
      have a2 := cell_bl hB (K2.out k hlt)
      have hz2 : ((f k : Int) != (f k : Int)) = false := by simp
      have HB := hide hB
      clear hB
      go_wp2
      go_region
      all_goals
        go_simp
        go_wp2
        go_roundw
        case rel => exact ⟨HB.out.drew, k + 1, by omega, by go_num⟩
        case measure => simp only [intOf]; omega
    · obtain rfl : k = N := by omega
      go_wp2
      go_ret
      exact ⟨rfl, hB⟩
end Go.Proofs.YtijeceibkdcdaaaDoor
