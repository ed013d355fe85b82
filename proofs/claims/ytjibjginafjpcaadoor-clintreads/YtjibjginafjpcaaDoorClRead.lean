/-
  What clint.Read answers.
-/
import Derived.Test.YtjibjginafjpcaaDoorClHalf
namespace Go.Proofs.YtjibjginafjpcaaDoor
open Go.RowKit
set_option linter.unusedVariables false

set_option maxHeartbeats 1000000 in
theorem read_so (s : S3) (hs : s.Ok) (w : World) :
    Calls Tryd.prog 5 #[.agg s.cells, .int .u32 ((0 : Nat) : Int)] w fun e w' => e = .returned (.tuple #[.int .u32 ((readV s 0).1 : Nat), errP (readV s 0).2]) ∧ Below w.heap.size w w' := by
  obtain ⟨so, ti, cm⟩ := s
  obtain ⟨hso, hti, hcm⟩ := hs
  simp only at hso hti hcm
  rw [show (((0 : Nat) : Int)) = 0 from rfl]
  simp only [S3.cells] at *
  go_enter Tryd.func5, Tryd.ntmps5
  go_wp2
  go_ret2
  exact ⟨rfl, below_one _ _⟩

set_option maxHeartbeats 1000000 in
theorem read_cl (s : S3) (hs : s.Ok) (w : World) :
    Calls Tryd.prog 5 #[.agg s.cells, .int .u32 ((16384 : Nat) : Int)] w fun e w' => e = .returned (.tuple #[.int .u32 ((readV s 16384).1 : Nat), errP (readV s 16384).2]) ∧ Below w.heap.size w w' := by
  obtain ⟨so, ti, cm⟩ := s
  obtain ⟨hso, hti, hcm⟩ := hs
  simp only at hso hti hcm
  rw [show (((16384 : Nat) : Int)) = 16384 from rfl]
  have HL := hide (fun w => low_any cm w)
  simp only [S3.cells] at *
  go_enter Tryd.func5, Tryd.ntmps5
  go_wp2_with (go_at_call 17; refine (HL.out _).mono ?_; rintro e W ⟨rfl, rfl⟩)
  go_ret2
  exact ⟨rfl, below_one _ _⟩

set_option maxHeartbeats 1000000 in
theorem read_ch (s : S3) (hs : s.Ok) (w : World) :
    Calls Tryd.prog 5 #[.agg s.cells, .int .u32 ((16388 : Nat) : Int)] w fun e w' => e = .returned (.tuple #[.int .u32 ((readV s 16388).1 : Nat), errP (readV s 16388).2]) ∧ Below w.heap.size w w' := by
  obtain ⟨so, ti, cm⟩ := s
  obtain ⟨hso, hti, hcm⟩ := hs
  simp only at hso hti hcm
  rw [show (((16388 : Nat) : Int)) = 16388 from rfl]
  have HL := hide (fun w => high_any cm hcm w)
  simp only [S3.cells] at *
  go_enter Tryd.func5, Tryd.ntmps5
  go_wp2_with (go_at_call 18; refine (HL.out _).mono ?_; rintro e W ⟨rfl, rfl⟩)
  go_ret2
  exact ⟨rfl, below_one _ _⟩

set_option maxHeartbeats 1000000 in
theorem read_tl (s : S3) (hs : s.Ok) (w : World) :
    Calls Tryd.prog 5 #[.agg s.cells, .int .u32 ((49144 : Nat) : Int)] w fun e w' => e = .returned (.tuple #[.int .u32 ((readV s 49144).1 : Nat), errP (readV s 49144).2]) ∧ Below w.heap.size w w' := by
  obtain ⟨so, ti, cm⟩ := s
  obtain ⟨hso, hti, hcm⟩ := hs
  simp only at hso hti hcm
  rw [show (((49144 : Nat) : Int)) = 49144 from rfl]
  have HL := hide (fun w => low_any ti w)
  simp only [S3.cells] at *
  go_enter Tryd.func5, Tryd.ntmps5
  go_wp2_with (go_at_call 17; refine (HL.out _).mono ?_; rintro e W ⟨rfl, rfl⟩)
  go_ret2
  exact ⟨rfl, below_one _ _⟩

set_option maxHeartbeats 1000000 in
theorem read_th (s : S3) (hs : s.Ok) (w : World) :
    Calls Tryd.prog 5 #[.agg s.cells, .int .u32 ((49148 : Nat) : Int)] w fun e w' => e = .returned (.tuple #[.int .u32 ((readV s 49148).1 : Nat), errP (readV s 49148).2]) ∧ Below w.heap.size w w' := by
  obtain ⟨so, ti, cm⟩ := s
  obtain ⟨hso, hti, hcm⟩ := hs
  simp only at hso hti hcm
  rw [show (((49148 : Nat) : Int)) = 49148 from rfl]
  have HL := hide (fun w => high_any ti hti w)
  simp only [S3.cells] at *
  go_enter Tryd.func5, Tryd.ntmps5
  go_wp2_with (go_at_call 18; refine (HL.out _).mono ?_; rintro e W ⟨rfl, rfl⟩)
  go_ret2
  exact ⟨rfl, below_one _ _⟩

set_option maxHeartbeats 1000000 in
theorem read_none (s : S3) (hs : s.Ok) (a : Nat) (n0 : a ≠ 0) (n1 : a ≠ 16384) (n2 : a ≠ 16388) (n3 : a ≠ 49144) (n4 : a ≠ 49148) (w : World) :
    Calls Tryd.prog 5 #[.agg s.cells, .int .u32 (a : Nat)] w fun e w' => e = .returned (.tuple #[.int .u32 ((readV s a).1 : Nat), errP (readV s a).2]) ∧ Below w.heap.size w w' := by
  have HV : readV s a = (0, 20) := by unfold readV; rw [if_neg n0, if_neg n1, if_neg n2, if_neg n3, if_neg n4]
  rw [HV]; clear HV
  obtain ⟨so, ti, cm⟩ := s
  obtain ⟨hso, hti, hcm⟩ := hs
  simp only at hso hti hcm
  have t0 : ((a : Int) == 0) = false := by simp; omega
  have t1 : ((a : Int) == 16384) = false := by simp; omega
  have t2 : ((a : Int) == 16388) = false := by simp; omega
  have t3 : ((a : Int) == 49144) = false := by simp; omega
  have t4 : ((a : Int) == 49148) = false := by simp; omega
  clear n0 n1 n2 n3 n4
  simp only [S3.cells] at *
  go_enter Tryd.func5, Tryd.ntmps5
  go_wp2
  go_ret2
  exact ⟨rfl, below_one _ _⟩

theorem read_any (s : S3) (hs : s.Ok) (a : Nat) (w : World) :
    Calls Tryd.prog 5 #[.agg s.cells, .int .u32 (a : Nat)] w fun e w' => e = .returned (.tuple #[.int .u32 ((readV s a).1 : Nat), errP (readV s a).2]) ∧ Below w.heap.size w w' := by
  by_cases n0 : a = 0
  · subst n0; exact read_so s hs w
  by_cases n1 : a = 16384
  · subst n1; exact read_cl s hs w
  by_cases n2 : a = 16388
  · subst n2; exact read_ch s hs w
  by_cases n3 : a = 49144
  · subst n3; exact read_tl s hs w
  by_cases n4 : a = 49148
  · subst n4; exact read_th s hs w
  exact read_none s hs a n0 n1 n2 n3 n4 w
end Go.Proofs.YtjibjginafjpcaaDoor
