/-
  What the document's Lines and Next answer.
-/
import Derived.Test.YtjibjginafjpcaaClRow
namespace Go.Proofs.Ytjibjginafjpcaa
open Go.RowKit
set_option linter.unusedVariables false

set_option maxHeartbeats 1000000 in
theorem rlines_tt (s : S3) (hs : s.Ok) (h1 : s.so % 2 = 1) (h2 : s.cm ≤ s.ti) (w : World) :
    Calls Try.prog 12 #[.agg s.cells] w fun e w' => e = .returned (.int .u32 (linesV s : Nat)) ∧ Below w.heap.size w w' := by
  have HV : linesV s = 136 := by unfold linesV; rw [beq_iff_eq.2 h1, decide_eq_true h2]; rfl
  rw [HV]; clear HV
  obtain ⟨so, ti, cm⟩ := s
  obtain ⟨hso, hti, hcm⟩ := hs
  simp only at hso hti hcm
  simp only at h1 h2
  have t1 : (((so : Int) % 2) == 1) = true := by simp; omega
  simp only [S3.cells] at *
  go_enter Try.func12, Try.ntmps12
  go_wp2
  go_ret
  exact ⟨ret_int (by decide), below_one _ _⟩

set_option maxHeartbeats 1000000 in
theorem rlines_tf (s : S3) (hs : s.Ok) (h1 : s.so % 2 = 1) (h2 : s.ti < s.cm) (w : World) :
    Calls Try.prog 12 #[.agg s.cells] w fun e w' => e = .returned (.int .u32 (linesV s : Nat)) ∧ Below w.heap.size w w' := by
  have HV : linesV s = 8 := by unfold linesV; rw [beq_iff_eq.2 h1, decide_eq_false (Nat.not_le.2 h2)]; rfl
  rw [HV]; clear HV
  obtain ⟨so, ti, cm⟩ := s
  obtain ⟨hso, hti, hcm⟩ := hs
  simp only at hso hti hcm
  simp only at h1 h2
  have t1 : (((so : Int) % 2) == 1) = true := by simp; omega
  have t2 : decide ((cm : Int) ≤ (ti : Int)) = false := by simp; omega
  simp only [S3.cells] at *
  go_enter Try.func12, Try.ntmps12
  go_wp2
  go_ret
  exact ⟨ret_int (by decide), below_one _ _⟩

set_option maxHeartbeats 1000000 in
theorem rlines_ft (s : S3) (hs : s.Ok) (h1 : s.so % 2 ≠ 1) (h2 : s.cm ≤ s.ti) (w : World) :
    Calls Try.prog 12 #[.agg s.cells] w fun e w' => e = .returned (.int .u32 (linesV s : Nat)) ∧ Below w.heap.size w w' := by
  have HV : linesV s = 128 := by unfold linesV; rw [beq_eq_false_iff_ne.2 h1, decide_eq_true h2]; rfl
  rw [HV]; clear HV
  obtain ⟨so, ti, cm⟩ := s
  obtain ⟨hso, hti, hcm⟩ := hs
  simp only at hso hti hcm
  simp only at h1 h2
  have t1 : (((so : Int) % 2) == 1) = false := by simp; omega
  simp only [S3.cells] at *
  go_enter Try.func12, Try.ntmps12
  go_wp2
  go_ret
  exact ⟨ret_int (by decide), below_one _ _⟩

set_option maxHeartbeats 1000000 in
theorem rlines_ff (s : S3) (hs : s.Ok) (h1 : s.so % 2 ≠ 1) (h2 : s.ti < s.cm) (w : World) :
    Calls Try.prog 12 #[.agg s.cells] w fun e w' => e = .returned (.int .u32 (linesV s : Nat)) ∧ Below w.heap.size w w' := by
  have HV : linesV s = 0 := by unfold linesV; rw [beq_eq_false_iff_ne.2 h1, decide_eq_false (Nat.not_le.2 h2)]; rfl
  rw [HV]; clear HV
  obtain ⟨so, ti, cm⟩ := s
  obtain ⟨hso, hti, hcm⟩ := hs
  simp only at hso hti hcm
  simp only at h1 h2
  have t1 : (((so : Int) % 2) == 1) = false := by simp; omega
  have t2 : decide ((cm : Int) ≤ (ti : Int)) = false := by simp; omega
  simp only [S3.cells] at *
  go_enter Try.func12, Try.ntmps12
  go_wp2
  go_ret
  exact ⟨ret_int (by decide), below_one _ _⟩

theorem rlines_any (s : S3) (hs : s.Ok) (w : World) :
    Calls Try.prog 12 #[.agg s.cells] w fun e w' => e = .returned (.int .u32 (linesV s : Nat)) ∧ Below w.heap.size w w' := by
  by_cases h1 : s.so % 2 = 1
  · rcases Nat.lt_or_ge s.ti s.cm with h2 | h2
    · exact rlines_tf s hs h1 h2 w
    · exact rlines_tt s hs h1 h2 w
  · rcases Nat.lt_or_ge s.ti s.cm with h2 | h2
    · exact rlines_ff s hs h1 h2 w
    · exact rlines_ft s hs h1 h2 w
set_option maxHeartbeats 1000000 in
theorem rnext_t (s : S3) (hs : s.Ok) (h2 : s.cm ≤ s.ti) (w : World) :
    Calls Try.prog 13 #[.agg s.cells] w fun e w' => e = .returned (.int .u64 (nextV s : Nat)) ∧ Below w.heap.size w w' := by
  obtain ⟨so, ti, cm⟩ := s
  obtain ⟨hso, hti, hcm⟩ := hs
  simp only at hso hti hcm
  simp only at h2
  simp only [S3.cells] at *
  go_enter Try.func13, Try.ntmps13
  go_wp2
  go_ret
  exact ⟨ret_int (by simp only [nextV]; omega), below_one _ _⟩

set_option maxHeartbeats 1000000 in
theorem rnext_f (s : S3) (hs : s.Ok) (h2 : s.ti < s.cm) (w : World) :
    Calls Try.prog 13 #[.agg s.cells] w fun e w' => e = .returned (.int .u64 (nextV s : Nat)) ∧ Below w.heap.size w w' := by
  obtain ⟨so, ti, cm⟩ := s
  obtain ⟨hso, hti, hcm⟩ := hs
  simp only at hso hti hcm
  simp only at h2
  have t2 : decide ((cm : Int) ≤ (ti : Int)) = false := by simp; omega
  simp only [S3.cells] at *
  go_enter Try.func13, Try.ntmps13
  go_wp2
  go_ret
  exact ⟨ret_int (by simp only [nextV]; omega), below_one _ _⟩

theorem rnext_any (s : S3) (hs : s.Ok) (w : World) :
    Calls Try.prog 13 #[.agg s.cells] w fun e w' => e = .returned (.int .u64 (nextV s : Nat)) ∧ Below w.heap.size w w' := by
  rcases Nat.lt_or_ge s.ti s.cm with h2 | h2
  · exact rnext_f s hs h2 w
  · exact rnext_t s hs h2 w
end Go.Proofs.Ytjibjginafjpcaa
