/-
  What csr.Return answers.
-/
import Derived.Test.YtchjhpeogdkbmaaDoorHCsProg
namespace Go.Proofs.YtchjhpeogdkbmaaDoor
open Go.RowKit
set_option linter.unusedVariables false

set_option maxHeartbeats 1000000 in
theorem cs_return_any (s : S8) (hs : s.Ok) (w : World) :
    Calls Tryd.prog 87 #[.agg s.cells] w fun e w' => e = .returned (.tuple #[.agg (retN s).cells, .int .u32 (s.ep : Nat)]) ∧ ∃ o o', w' = ((w.alloc o).alloc o').drew := by
  obtain ⟨st, en, ve, sc, ep, ca, va, ct⟩ := s
  obtain ⟨h0, h1, h2, h3, h4, h5, h6, h7⟩ := hs
  dsimp only at h0
  have t0 := mask_ne st 128 h0 (by decide)
  rw [show ((128 : Nat) : Int) = 128 from rfl] at t0
  have HG := hide (given_any st 8 h0 (by decide))
  rw [show ((8 : Nat) : Int) = 8 from rfl] at HG
  have HX : Hid (bits .or .u32 ((givenN st 8 (st &&& 128 != 0) : Nat) : Int) 128 = ((retSt st : Nat) : Int)) := u32_or_nat _ 128 (givenN_lt h0 (by decide) _) (by decide)
  show Calls Tryd.prog 87 #[.agg #[.int .u32 st, .int .u32 en, .int .u32 ve, .int .u32 sc, .int .u32 ep, .int .u32 ca, .int .u32 va, .int .u64 ct]] w _
  generalize (st &&& 128 != 0) = b0 at *
  go_enter Tryd.func87, Tryd.ntmps87
  go_wp2_with (first | (go_at_call 84; refine (HG.out _ _).mono ?_; rintro e w' ⟨rfl, rfl⟩))
  go_region
  all_goals go_wp2
  refine bodyPost_ret (results_cell_tmp_row Tryd.results87 _ _ (w.heap.size + 1) _ _ _ _ rfl (two_new w _ _ _) Tryd.underlying29 rfl size_state) rfl ?_
  exact ⟨ret_two (by rw [HX.out]; rfl) rfl, _, _, rfl⟩
end Go.Proofs.YtchjhpeogdkbmaaDoor
