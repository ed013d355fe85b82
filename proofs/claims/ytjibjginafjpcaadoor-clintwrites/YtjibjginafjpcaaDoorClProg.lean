/-
  What clint.Tick, Lines, Next answer.
-/
import Derived.Test.YtjibjginafjpcaaDoorClRow
namespace Go.Proofs.YtjibjginafjpcaaDoor
open Go.RowKit
set_option linter.unusedVariables false

set_option maxHeartbeats 1000000 in
theorem lines_tt (s : S3) (hs : s.Ok) (h1 : s.so % 2 = 1) (h2 : s.cm ≤ s.ti) (w : World) :
    Calls Tryd.prog 10 #[.agg s.cells] w fun e w' => e = .returned (.int .u32 (linesV s : Nat)) ∧ Below w.heap.size w w' := by
  have HV : linesV s = 136 := by unfold linesV; rw [beq_iff_eq.2 h1, decide_eq_true h2]; rfl
  rw [HV]; clear HV
  obtain ⟨so, ti, cm⟩ := s
  obtain ⟨hso, hti, hcm⟩ := hs
  simp only at hso hti hcm
  simp only at h1 h2
  have t1 : (((so : Int) % 2) == 1) = true := by simp; omega
  simp only [S3.cells] at *
  go_enter Tryd.func10, Tryd.ntmps10
  go_wp2
  go_ret
  exact ⟨ret_int (by decide), below_one _ _⟩

set_option maxHeartbeats 1000000 in
theorem lines_tf (s : S3) (hs : s.Ok) (h1 : s.so % 2 = 1) (h2 : s.ti < s.cm) (w : World) :
    Calls Tryd.prog 10 #[.agg s.cells] w fun e w' => e = .returned (.int .u32 (linesV s : Nat)) ∧ Below w.heap.size w w' := by
  have HV : linesV s = 8 := by unfold linesV; rw [beq_iff_eq.2 h1, decide_eq_false (Nat.not_le.2 h2)]; rfl
  rw [HV]; clear HV
  obtain ⟨so, ti, cm⟩ := s
  obtain ⟨hso, hti, hcm⟩ := hs
  simp only at hso hti hcm
  simp only at h1 h2
  have t1 : (((so : Int) % 2) == 1) = true := by simp; omega
  have t2 : decide ((cm : Int) ≤ (ti : Int)) = false := by simp; omega
  simp only [S3.cells] at *
  go_enter Tryd.func10, Tryd.ntmps10
  go_wp2
  go_ret
  exact ⟨ret_int (by decide), below_one _ _⟩

set_option maxHeartbeats 1000000 in
theorem lines_ft (s : S3) (hs : s.Ok) (h1 : s.so % 2 ≠ 1) (h2 : s.cm ≤ s.ti) (w : World) :
    Calls Tryd.prog 10 #[.agg s.cells] w fun e w' => e = .returned (.int .u32 (linesV s : Nat)) ∧ Below w.heap.size w w' := by
  have HV : linesV s = 128 := by unfold linesV; rw [beq_eq_false_iff_ne.2 h1, decide_eq_true h2]; rfl
  rw [HV]; clear HV
  obtain ⟨so, ti, cm⟩ := s
  obtain ⟨hso, hti, hcm⟩ := hs
  simp only at hso hti hcm
  simp only at h1 h2
  have t1 : (((so : Int) % 2) == 1) = false := by simp; omega
  simp only [S3.cells] at *
  go_enter Tryd.func10, Tryd.ntmps10
  go_wp2
  go_ret
  exact ⟨ret_int (by decide), below_one _ _⟩

set_option maxHeartbeats 1000000 in
theorem lines_ff (s : S3) (hs : s.Ok) (h1 : s.so % 2 ≠ 1) (h2 : s.ti < s.cm) (w : World) :
    Calls Tryd.prog 10 #[.agg s.cells] w fun e w' => e = .returned (.int .u32 (linesV s : Nat)) ∧ Below w.heap.size w w' := by
  have HV : linesV s = 0 := by unfold linesV; rw [beq_eq_false_iff_ne.2 h1, decide_eq_false (Nat.not_le.2 h2)]; rfl
  rw [HV]; clear HV
  obtain ⟨so, ti, cm⟩ := s
  obtain ⟨hso, hti, hcm⟩ := hs
  simp only at hso hti hcm
  simp only at h1 h2
  have t1 : (((so : Int) % 2) == 1) = false := by simp; omega
  have t2 : decide ((cm : Int) ≤ (ti : Int)) = false := by simp; omega
  simp only [S3.cells] at *
  go_enter Tryd.func10, Tryd.ntmps10
  go_wp2
  go_ret
  exact ⟨ret_int (by decide), below_one _ _⟩

theorem lines_any (s : S3) (hs : s.Ok) (w : World) :
    Calls Tryd.prog 10 #[.agg s.cells] w fun e w' => e = .returned (.int .u32 (linesV s : Nat)) ∧ Below w.heap.size w w' := by
  by_cases h1 : s.so % 2 = 1
  · rcases Nat.lt_or_ge s.ti s.cm with h2 | h2
    · exact lines_tf s hs h1 h2 w
    · exact lines_tt s hs h1 h2 w
  · rcases Nat.lt_or_ge s.ti s.cm with h2 | h2
    · exact lines_ff s hs h1 h2 w
    · exact lines_ft s hs h1 h2 w
set_option maxHeartbeats 1000000 in
theorem tick_top (s : S3) (hs : s.Ok) (h0 : s.ti = 18446744073709551615) (w : World) :
    Calls Tryd.prog 20 #[.agg s.cells] w fun e w' => e = .returned (.agg (tickV s).cells) ∧ Below w.heap.size w w' := by
  have h1 := hs.ti
  have HT : Hid (Value.int .u64 ((((s.ti : Nat) : Int) + 1) % 18446744073709551616) = .int .u64 ((plus1 s.ti : Nat) : Int)) := hide (by rw [h0]; rfl)
  clear h0 h1
  go_enter Tryd.func20, Tryd.ntmps20
  go_wp2_with (first | ((with_reducible refine bx_p w.heap.size s ?_ ?_ ?_); exact rfl; exact rfl; intro W hr hb hz) | ((with_reducible refine al_p (w.heap.size + 1) ?_ ?_); exact hz.out; intro W hq hb' hz'; replace hr := hr.bl (hz.out ▸ hb'); replace hb := hb.trans (hb'.mono (by omega)); replace hz := hz') | ((with_reducible refine ld_ti w.heap.size _ _ hr ?_ ?_); exact rfl) | ((with_reducible refine st_ti w.heap.size _ (plus1 s.ti) _ hr ?_ ?_ ?_); exact rfl; exact HT.out; intro W hnew ho; replace hq := hq.only ho (by omega); replace hr := hnew; replace hb := ho.bel _ _ (by omega) hb) | ((with_reducible refine ld_p w.heap.size _ hr ?_ ?_); exact rfl) | ((with_reducible refine st_p (w.heap.size + 1) _ (tickV s) hq ?_ ?_ ?_); exact rfl; exact rfl; intro W hnew ho; replace hr := hr.only ho (by omega); replace hq := hnew; replace hb := ho.bel _ _ (by omega) hb))
  refine bodyPost_ret (results_cell_row Tryd.results20 _ _ (w.heap.size + 1) _ _ _ _ rfl hq Tryd.underlying30 rfl size_p) rfl ?_
  exact ⟨rfl, hb⟩

set_option maxHeartbeats 1000000 in
theorem tick_one (s : S3) (hs : s.Ok) (h0 : s.ti < 18446744073709551615) (w : World) :
    Calls Tryd.prog 20 #[.agg s.cells] w fun e w' => e = .returned (.agg (tickV s).cells) ∧ Below w.heap.size w w' := by
  have h1 := hs.ti
  have HT : Hid (Value.int .u64 (((s.ti : Nat) : Int) + 1) = .int .u64 ((plus1 s.ti : Nat) : Int)) := hide (by unfold plus1; rw [if_neg (by omega)]; rfl)
  go_enter Tryd.func20, Tryd.ntmps20
  go_wp2_with (first | ((with_reducible refine bx_p w.heap.size s ?_ ?_ ?_); exact rfl; exact rfl; intro W hr hb hz) | ((with_reducible refine al_p (w.heap.size + 1) ?_ ?_); exact hz.out; intro W hq hb' hz'; replace hr := hr.bl (hz.out ▸ hb'); replace hb := hb.trans (hb'.mono (by omega)); replace hz := hz') | ((with_reducible refine ld_ti w.heap.size _ _ hr ?_ ?_); exact rfl) | ((with_reducible refine st_ti w.heap.size _ (plus1 s.ti) _ hr ?_ ?_ ?_); exact rfl; exact HT.out; intro W hnew ho; replace hq := hq.only ho (by omega); replace hr := hnew; replace hb := ho.bel _ _ (by omega) hb) | ((with_reducible refine ld_p w.heap.size _ hr ?_ ?_); exact rfl) | ((with_reducible refine st_p (w.heap.size + 1) _ (tickV s) hq ?_ ?_ ?_); exact rfl; exact rfl; intro W hnew ho; replace hr := hr.only ho (by omega); replace hq := hnew; replace hb := ho.bel _ _ (by omega) hb))
  refine bodyPost_ret (results_cell_row Tryd.results20 _ _ (w.heap.size + 1) _ _ _ _ rfl hq Tryd.underlying30 rfl size_p) rfl ?_
  exact ⟨rfl, hb⟩

theorem tick_any (s : S3) (hs : s.Ok) (w : World) :
    Calls Tryd.prog 20 #[.agg s.cells] w fun e w' => e = .returned (.agg (tickV s).cells) ∧ Below w.heap.size w w' := by
  have := hs.ti
  by_cases h : s.ti = 18446744073709551615
  · exact tick_top s hs h w
  · exact tick_one s hs (by omega) w
end Go.Proofs.YtjibjginafjpcaaDoor
