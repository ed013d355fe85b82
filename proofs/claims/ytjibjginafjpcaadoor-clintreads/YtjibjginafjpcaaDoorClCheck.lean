/-
  What clint.Check answers, and the document's.
-/
import Derived.Test.YtjibjginafjpcaaDoorClRow
namespace Go.Proofs.YtjibjginafjpcaaDoor
open Go.RowKit
set_option linter.unusedVariables false

set_option maxHeartbeats 1000000 in
theorem check_0 (s : S3) (hs : s.Ok) (h1 : s.so = 0) (w : World) :
    Calls Tryd.prog 8 #[.agg s.cells] w fun e w' => e = .returned (errP 0) ∧ Below w.heap.size w w' := by
  obtain ⟨so, ti, cm⟩ := s
  obtain ⟨hso, hti, hcm⟩ := hs
  simp only at hso hti hcm
  simp only at h1
  obtain rfl := h1
  simp only [S3.cells] at *
  go_enter Tryd.func8, Tryd.ntmps8
  go_wp2
  go_ret
  exact ⟨rfl, below_one _ _⟩

set_option maxHeartbeats 1000000 in
theorem check_1 (s : S3) (hs : s.Ok) (h1 : s.so = 1) (w : World) :
    Calls Tryd.prog 8 #[.agg s.cells] w fun e w' => e = .returned (errP 0) ∧ Below w.heap.size w w' := by
  obtain ⟨so, ti, cm⟩ := s
  obtain ⟨hso, hti, hcm⟩ := hs
  simp only at hso hti hcm
  simp only at h1
  obtain rfl := h1
  simp only [S3.cells] at *
  go_enter Tryd.func8, Tryd.ntmps8
  go_wp2
  go_ret
  exact ⟨rfl, below_one _ _⟩

set_option maxHeartbeats 1000000 in
theorem check_no (s : S3) (hs : s.Ok) (h1 : 1 < s.so) (w : World) :
    Calls Tryd.prog 8 #[.agg s.cells] w fun e w' => e = .returned (errP 1) ∧ Below w.heap.size w w' := by
  obtain ⟨so, ti, cm⟩ := s
  obtain ⟨hso, hti, hcm⟩ := hs
  simp only at hso hti hcm
  simp only at h1
  have t1 : (so : Int) > 1 := by omega
  have t2 : ((so : Int) == 0) = false := by simp; omega
  have t3 : ((so : Int) == 1) = false := by simp; omega
  simp only [S3.cells] at *
  go_enter Tryd.func8, Tryd.ntmps8
  go_wp2
  go_ret
  exact ⟨rfl, below_one _ _⟩

theorem check_any (s : S3) (hs : s.Ok) (w : World) :
    Calls Tryd.prog 8 #[.agg s.cells] w fun e w' => e = .returned (errP (if s.so ≤ 1 then 0 else 1)) ∧ Below w.heap.size w w' := by
  by_cases h0 : s.so = 0
  · rw [if_pos (by omega)]; exact check_0 s hs h0 w
  by_cases h1 : s.so = 1
  · rw [if_pos (by omega)]; exact check_1 s hs h1 w
  · rw [if_neg (by omega)]; exact check_no s hs (by omega) w
set_option maxHeartbeats 1000000 in
theorem rcheck_0 (s : S3) (hs : s.Ok) (h1 : s.so = 0) (w : World) :
    Calls Tryd.prog 9 #[.agg s.cells] w fun e w' => e = .returned (.int .i64 ((0 : Nat) : Int)) ∧ Below w.heap.size w w' := by
  obtain ⟨so, ti, cm⟩ := s
  obtain ⟨hso, hti, hcm⟩ := hs
  simp only at hso hti hcm
  simp only at h1
  obtain rfl := h1
  simp only [S3.cells] at *
  go_enter Tryd.func9, Tryd.ntmps9
  go_wp2
  go_ret
  exact ⟨rfl, below_one _ _⟩

set_option maxHeartbeats 1000000 in
theorem rcheck_1 (s : S3) (hs : s.Ok) (h1 : s.so = 1) (w : World) :
    Calls Tryd.prog 9 #[.agg s.cells] w fun e w' => e = .returned (.int .i64 ((0 : Nat) : Int)) ∧ Below w.heap.size w w' := by
  obtain ⟨so, ti, cm⟩ := s
  obtain ⟨hso, hti, hcm⟩ := hs
  simp only at hso hti hcm
  simp only at h1
  obtain rfl := h1
  simp only [S3.cells] at *
  go_enter Tryd.func9, Tryd.ntmps9
  go_wp2
  go_ret
  exact ⟨rfl, below_one _ _⟩

set_option maxHeartbeats 1000000 in
theorem rcheck_no (s : S3) (hs : s.Ok) (h1 : 1 < s.so) (w : World) :
    Calls Tryd.prog 9 #[.agg s.cells] w fun e w' => e = .returned (.int .i64 ((1 : Nat) : Int)) ∧ Below w.heap.size w w' := by
  obtain ⟨so, ti, cm⟩ := s
  obtain ⟨hso, hti, hcm⟩ := hs
  simp only at hso hti hcm
  simp only at h1
  have t1 : (so : Int) > 1 := by omega
  have t2 : ((so : Int) == 0) = false := by simp; omega
  have t3 : ((so : Int) == 1) = false := by simp; omega
  simp only [S3.cells] at *
  go_enter Tryd.func9, Tryd.ntmps9
  go_wp2
  go_ret
  exact ⟨rfl, below_one _ _⟩

theorem rcheck_any (s : S3) (hs : s.Ok) (w : World) :
    Calls Tryd.prog 9 #[.agg s.cells] w fun e w' => e = .returned (.int .i64 (((if s.so ≤ 1 then 0 else 1 : Nat) : Nat) : Int)) ∧ Below w.heap.size w w' := by
  by_cases h0 : s.so = 0
  · rw [if_pos (by omega)]; exact rcheck_0 s hs h0 w
  by_cases h1 : s.so = 1
  · rw [if_pos (by omega)]; exact rcheck_1 s hs h1 w
  · rw [if_neg (by omega)]; exact rcheck_no s hs (by omega) w
end Go.Proofs.YtjibjginafjpcaaDoor
