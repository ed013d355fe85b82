/-
  What the document's Read answers.
-/
import Derived.Test.YtjibjginafjpcaaDoorClRow
namespace Go.Proofs.YtjibjginafjpcaaDoor
open Go.RowKit
set_option linter.unusedVariables false

theorem ret_two {a b : Int} {k : IntKind} {e f : Value} (h : a = b) (he : e = f) : Ending.returned (.tuple #[.int k a, e]) = .returned (.tuple #[.int k b, f]) := by rw [h, he]
set_option maxHeartbeats 1000000 in
theorem rread_so (s : S3) (hs : s.Ok) (w : World) :
    Calls Tryd.prog 6 #[.agg s.cells, .int .u32 ((0 : Nat) : Int)] w fun e w' => e = .returned (.tuple #[.int .u32 ((readV s 0).1 : Nat), .int .i64 ((readV s 0).2 : Nat)]) ∧ Below w.heap.size w w' := by
  obtain ⟨so, ti, cm⟩ := s
  obtain ⟨hso, hti, hcm⟩ := hs
  simp only at hso hti hcm
  rw [show (((0 : Nat) : Int)) = 0 from rfl]
  simp only [S3.cells] at *
  go_enter Tryd.func6, Tryd.ntmps6
  go_wp2
  go_ret2
  exact ⟨rfl, below_one _ _⟩

set_option maxHeartbeats 1000000 in
theorem rread_cl (s : S3) (hs : s.Ok) (w : World) :
    Calls Tryd.prog 6 #[.agg s.cells, .int .u32 ((16384 : Nat) : Int)] w fun e w' => e = .returned (.tuple #[.int .u32 ((readV s 16384).1 : Nat), .int .i64 ((readV s 16384).2 : Nat)]) ∧ Below w.heap.size w w' := by
  obtain ⟨so, ti, cm⟩ := s
  obtain ⟨hso, hti, hcm⟩ := hs
  simp only at hso hti hcm
  rw [show (((16384 : Nat) : Int)) = 16384 from rfl]
  simp only [S3.cells] at *
  go_enter Tryd.func6, Tryd.ntmps6
  go_wp2
  go_ret2
  exact ⟨ret_two (by show _ = (((lowN cm : Nat)) : Int); unfold lowN; omega) rfl, below_one _ _⟩

set_option maxHeartbeats 1000000 in
theorem rread_ch (s : S3) (hs : s.Ok) (w : World) :
    Calls Tryd.prog 6 #[.agg s.cells, .int .u32 ((16388 : Nat) : Int)] w fun e w' => e = .returned (.tuple #[.int .u32 ((readV s 16388).1 : Nat), .int .i64 ((readV s 16388).2 : Nat)]) ∧ Below w.heap.size w w' := by
  obtain ⟨so, ti, cm⟩ := s
  obtain ⟨hso, hti, hcm⟩ := hs
  simp only at hso hti hcm
  rw [show (((16388 : Nat) : Int)) = 16388 from rfl]
  simp only [S3.cells] at *
  go_enter Tryd.func6, Tryd.ntmps6
  go_wp2
  go_ret2
  exact ⟨ret_two (by show _ = (((highN cm : Nat)) : Int); unfold highN; omega) rfl, below_one _ _⟩

set_option maxHeartbeats 1000000 in
theorem rread_tl (s : S3) (hs : s.Ok) (w : World) :
    Calls Tryd.prog 6 #[.agg s.cells, .int .u32 ((49144 : Nat) : Int)] w fun e w' => e = .returned (.tuple #[.int .u32 ((readV s 49144).1 : Nat), .int .i64 ((readV s 49144).2 : Nat)]) ∧ Below w.heap.size w w' := by
  obtain ⟨so, ti, cm⟩ := s
  obtain ⟨hso, hti, hcm⟩ := hs
  simp only at hso hti hcm
  rw [show (((49144 : Nat) : Int)) = 49144 from rfl]
  simp only [S3.cells] at *
  go_enter Tryd.func6, Tryd.ntmps6
  go_wp2
  go_ret2
  exact ⟨ret_two (by show _ = (((lowN ti : Nat)) : Int); unfold lowN; omega) rfl, below_one _ _⟩

set_option maxHeartbeats 1000000 in
theorem rread_th (s : S3) (hs : s.Ok) (w : World) :
    Calls Tryd.prog 6 #[.agg s.cells, .int .u32 ((49148 : Nat) : Int)] w fun e w' => e = .returned (.tuple #[.int .u32 ((readV s 49148).1 : Nat), .int .i64 ((readV s 49148).2 : Nat)]) ∧ Below w.heap.size w w' := by
  obtain ⟨so, ti, cm⟩ := s
  obtain ⟨hso, hti, hcm⟩ := hs
  simp only at hso hti hcm
  rw [show (((49148 : Nat) : Int)) = 49148 from rfl]
  simp only [S3.cells] at *
  go_enter Tryd.func6, Tryd.ntmps6
  go_wp2
  go_ret2
  exact ⟨ret_two (by show _ = (((highN ti : Nat)) : Int); unfold highN; omega) rfl, below_one _ _⟩

set_option maxHeartbeats 1000000 in
theorem rread_none (s : S3) (hs : s.Ok) (a : Nat) (n0 : a ≠ 0) (n1 : a ≠ 16384) (n2 : a ≠ 16388) (n3 : a ≠ 49144) (n4 : a ≠ 49148) (w : World) :
    Calls Tryd.prog 6 #[.agg s.cells, .int .u32 (a : Nat)] w fun e w' => e = .returned (.tuple #[.int .u32 ((readV s a).1 : Nat), .int .i64 ((readV s a).2 : Nat)]) ∧ Below w.heap.size w w' := by
  have HV : readV s a = (0, 20) := by unfold readV; rw [if_neg n0, if_neg n1, if_neg n2, if_neg n3, if_neg n4]
  rw [HV]; clear HV
  obtain ⟨so, ti, cm⟩ := s
  obtain ⟨hso, hti, hcm⟩ := hs
  simp only at hso hti hcm
  have t0 : ((a : Int) == 0) = false := by simp; omega
  have t1 : ((a : Int) == 16384) = false := by simp; omega
  have t2 : ((a : Int) == 16388) = false := by simp; omega
  have t3 : ((a : Int) == 49144) = false := by simp; omega
  have t4 : ((a : Int) == 49148) = false := by simp; omega
  clear n0 n1 n2 n3 n4
  simp only [S3.cells] at *
  go_enter Tryd.func6, Tryd.ntmps6
  go_wp2
  go_ret2
  exact ⟨rfl, below_one _ _⟩

theorem rread_any (s : S3) (hs : s.Ok) (a : Nat) (w : World) :
    Calls Tryd.prog 6 #[.agg s.cells, .int .u32 (a : Nat)] w fun e w' => e = .returned (.tuple #[.int .u32 ((readV s a).1 : Nat), .int .i64 ((readV s a).2 : Nat)]) ∧ Below w.heap.size w w' := by
  by_cases n0 : a = 0
  · subst n0; exact rread_so s hs w
  by_cases n1 : a = 16384
  · subst n1; exact rread_cl s hs w
  by_cases n2 : a = 16388
  · subst n2; exact rread_ch s hs w
  by_cases n3 : a = 49144
  · subst n3; exact rread_tl s hs w
  by_cases n4 : a = 49148
  · subst n4; exact rread_th s hs w
  exact rread_none s hs a n0 n1 n2 n3 n4 w
end Go.Proofs.YtjibjginafjpcaaDoor
