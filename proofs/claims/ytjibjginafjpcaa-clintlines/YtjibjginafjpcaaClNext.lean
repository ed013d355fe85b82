/-
  What clint.Next answers.
-/
import Derived.Test.YtjibjginafjpcaaClRow
namespace Go.Proofs.Ytjibjginafjpcaa
open Go.RowKit
set_option linter.unusedVariables false

set_option maxHeartbeats 1000000 in
theorem next_t (s : S3) (hs : s.Ok) (h2 : s.cm ≤ s.ti) (w : World) :
    Calls Try.prog 8 #[.agg s.cells] w fun e w' => e = .returned (.int .u64 (nextV s : Nat)) ∧ Below w.heap.size w w' := by
  obtain ⟨so, ti, cm⟩ := s
  obtain ⟨hso, hti, hcm⟩ := hs
  simp only at hso hti hcm
  simp only at h2
  simp only [S3.cells] at *
  go_enter Try.func8, Try.ntmps8
  go_wp2
  go_ret
  exact ⟨ret_int (by simp only [nextV]; omega), below_one _ _⟩

set_option maxHeartbeats 1000000 in
theorem next_f (s : S3) (hs : s.Ok) (h2 : s.ti < s.cm) (w : World) :
    Calls Try.prog 8 #[.agg s.cells] w fun e w' => e = .returned (.int .u64 (nextV s : Nat)) ∧ Below w.heap.size w w' := by
  obtain ⟨so, ti, cm⟩ := s
  obtain ⟨hso, hti, hcm⟩ := hs
  simp only at hso hti hcm
  simp only at h2
  have t2 : decide ((cm : Int) ≤ (ti : Int)) = false := by simp; omega
  simp only [S3.cells] at *
  go_enter Try.func8, Try.ntmps8
  go_wp2
  go_ret
  exact ⟨ret_int (by simp only [nextV]; omega), below_one _ _⟩

theorem next_any (s : S3) (hs : s.Ok) (w : World) :
    Calls Try.prog 8 #[.agg s.cells] w fun e w' => e = .returned (.int .u64 (nextV s : Nat)) ∧ Below w.heap.size w w' := by
  rcases Nat.lt_or_ge s.ti s.cm with h2 | h2
  · exact next_f s hs h2 w
  · exact next_t s hs h2 w
end Go.Proofs.Ytjibjginafjpcaa
